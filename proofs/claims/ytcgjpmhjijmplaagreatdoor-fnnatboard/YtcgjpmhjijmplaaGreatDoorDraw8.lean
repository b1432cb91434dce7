/- The specification's l5SpoilFlow, walked. -/
import Derived.Test.YtcgjpmhjijmplaaGreatDoorDraw6
namespace Go.Proofs.YtcgjpmhjijmplaaGreatDoor
open Go.ChangeShapes Go.WideShapes Go.ChangeAt Go.RowKit

theorem Rb.set5 {w : World} {R : Nat} {k : Int} (h : Rb w R k) {n : Nat} (hn : R < n) (a b c d e : Value) : Rb (((((w.setCell ⟨n, 0, none⟩ a).setCell ⟨n, 1, none⟩ b).setCell ⟨n, 2, none⟩ c).setCell ⟨n, 3, none⟩ d).setCell ⟨n, 4, none⟩ e) R k :=
  ((((h.set hn a).set hn b).set hn c).set hn d).set hn e
theorem bl_of_ap {R : Nat} {w w1 w2 : World} (h : Below w.heap.size w w1) (ha : Apart R w1 w2) (hR : w.heap.size ≤ R) : Below w.heap.size w w2 :=
  ⟨ha.os.trans h.os, ha.tape.trans h.tape, ha.output.trans h.output, Nat.le_trans h.size ha.size, fun k hk => (ha.block k (Nat.lt_of_lt_of_le hk h.size) (by omega)).trans (h.block k hk)⟩
theorem BytesIn.below {w w' : World} {a : Option Addr} {n : Nat} (h : BytesIn w a n) (hb : Below w.heap.size w w') : BytesIn w' a n := by
  rcases h with h | ⟨b, o, h1, h2, h3⟩
  · exact Or.inl h
  · refine Or.inr ⟨b, o, h1, Nat.lt_of_lt_of_le h2 hb.size, fun i hi => ?_⟩
    obtain ⟨u, u0, u1, hu⟩ := h3 i hi
    exact ⟨u, u0, u1, (hb.cell (p := ⟨b, o + i, none⟩) h2).trans hu⟩
end Go.Proofs.YtcgjpmhjijmplaaGreatDoor
