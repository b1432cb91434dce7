/- The program's small functions of chapter 3, walked. -/
import Derived.Test.YtcgjpmhjijmplabGreatDoorImpl6
import Derived.Test.YtcgjpmhjijmplabGreatDoorAs
import Derived.Test.YtcgjpmhjijmplabGreatDoorMem
namespace Go.Proofs.YtcgjpmhjijmplabGreatDoor
open Go.ChangeShapes Go.WideShapes Go.ChangeAt Go.RowKit Go.Maps

theorem lives_v (ad ln ow lo hi nw : Int) (da : Option Addr) (dn dc : Nat) (ea : Option Addr) (en ec : Nat) (d : En) (r : Bool) (w : World) (n0 : 0 ≤ nw) (n1 : nw ≤ 1000000) (q0 : 0 ≤ d.l) (q1 : d.l ≤ nw) (hv : liveB nw d.l = r) :
    Calls Tryz.prog 115 #[.agg #[.int .i64 ad, .int .i64 ln, .int .i64 ow, .int .i64 lo, .int .i64 hi, .slice da dn dc, .int .i64 nw, .slice ea en ec], .agg #[.int .i64 d.k, .int .i64 d.pr, .int .i64 d.pp, .int .i64 d.o, .int .i64 d.i, .int .i64 d.ip, .int .i64 d.l]] w fun e w' => e = .returned (.bool r) ∧ Below w.heap.size w w' := by
  subst hv; exact lives_b ad ln ow lo hi nw da dn dc ea en ec d w n0 n1 q0 q1
/-- The one variable that errors.As reads. -/
def Gl (w : World) : Prop := w.cell? ⟨0, 0, none⟩ = some (.iface 144 (.agg #[.pointer (some ⟨5, 62, none⟩)]))
theorem Gl.pos {w : World} (h : Gl w) : 0 < w.heap.size := by
  rcases Nat.eq_zero_or_pos w.heap.size with h0 | h'
  · simp [Gl, World.cell?, h0] at h
  · exact h'
theorem Gl.below {w w' : World} (h : Gl w) (hb : Below w.heap.size w w') : Gl w' := (hb.cell (p := ⟨0, 0, none⟩) h.pos).trans h
end Go.Proofs.YtcgjpmhjijmplabGreatDoor
