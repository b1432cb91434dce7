/- The specification's NatIn at every book and flow, walked. -/
import Derived.Test.YtcgjpmhjijmplaaGreatDoorJoinG
namespace Go.Proofs.YtcgjpmhjijmplaaGreatDoor
open Go.ChangeShapes Go.WideShapes Go.ChangeAt Go.RowKit Go.Maps

theorem specFlow_v (k a ap b bp : Int) (r : Bool) (w : World) (hr : flowB k a ap b bp = r) : Calls Tryz.prog 51 #[.agg #[.int .i64 k, .int .i64 a, .int .i64 ap, .int .i64 b, .int .i64 bp]] w fun e w' => e = .returned (.bool r) ∧ Below w.heap.size w w' := by
  subst hr; exact specFlowOk_ret k a ap b bp w
theorem l2Live_v (ad ln ow lo hi nw : Int) (da : Option Addr) (dn dc : Nat) (ea : Option Addr) (en ec : Nat) (d : En) (r : Bool) (w : World) (n0 : 0 ≤ nw) (n1 : nw ≤ 1000000) (q0 : 0 ≤ d.l) (q1 : d.l ≤ nw) (hr : liveB nw d.l = r) : Calls Tryz.prog 65 #[.agg #[.int .i64 ad, .int .i64 ln, .int .i64 ow, .int .i64 lo, .int .i64 hi, .slice da dn dc, .int .i64 nw, .slice ea en ec], .agg #[.int .i64 d.k, .int .i64 d.pr, .int .i64 d.pp, .int .i64 d.o, .int .i64 d.i, .int .i64 d.ip, .int .i64 d.l]] w fun e w' => e = .returned (.bool r) ∧ Below w.heap.size w w' := by
  subst hr; exact l2Live_ret ad ln ow lo hi nw da dn dc ea en ec d.k d.pr d.pp d.o d.i d.ip d.l w n0 n1 q0 q1
theorem dr_other5 {w : World} {g o : Nat} {ds : List Dr} (h : DrCells w g o ds) {n : Nat} (hn : g ≠ n) (a b c d e : Value) : DrCells (((((w.setCell ⟨n, 0, none⟩ a).setCell ⟨n, 1, none⟩ b).setCell ⟨n, 2, none⟩ c).setCell ⟨n, 3, none⟩ d).setCell ⟨n, 4, none⟩ e) g o ds := by
  have hc : ∀ (W : World) j v p, (W.setCell ⟨n, j, none⟩ v).cell? ⟨g, p, none⟩ = W.cell? ⟨g, p, none⟩ := fun W j v p => World.cell?_setCell_other _ _ _ _ (fun e => hn (by injection e with e1; exact e1.symm))
  intro i x hi
  obtain ⟨c0, c1, c2, c3⟩ := h i x hi
  refine ⟨?_, ?_, ?_, ?_⟩ <;> (rw [hc, hc, hc, hc, hc]; assumption)
end Go.Proofs.YtcgjpmhjijmplaaGreatDoor
