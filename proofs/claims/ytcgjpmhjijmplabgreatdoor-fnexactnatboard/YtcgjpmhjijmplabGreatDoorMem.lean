/- Laws on memory that the walks share: a block with its cells and none frozen; an operation of a region that draws, by its own run; append of anything onto a slice that the call owns. -/
import Derived.Test.YtcgjpmhjijmplabGreatDoorJoinF
import Derived.Maps.AppendAt
import Derived.Deep.AppendSrc
import Derived.Deep.QuietTactic
import Derived.BigQuiet
namespace Go.Proofs.YtcgjpmhjijmplabGreatDoor
open Go.ChangeShapes Go.WideShapes Go.ChangeAt Go.RowKit

/-- Block n is there, holds these cells, and none is frozen. -/
def Bx (w : World) (n : Nat) (C : Array Value) : Prop := Box w n C ∧ ∀ j, w.frozen? ⟨n, j, none⟩ = false
theorem Bx.new (w : World) (C : Array Value) (t : TypeId) : Bx (w.alloc (.cells C t)) w.heap.size C := ⟨Box.new w C t, fun j => by simp⟩
theorem Bx.below {W w1 : World} {n : Nat} {C : Array Value} (h : Bx W n C) (hb : Below W.heap.size W w1) : Bx w1 n C :=
  ⟨h.1.below hb, fun j => (hb.frozen (p := ⟨n, j, none⟩) h.1.1).trans (h.2 j)⟩
theorem Bx.set {w : World} {n : Nat} {C : Array Value} (h : Bx w n C) {j : Nat} (hj : j < C.size) (v : Value) : Bx (w.setCell ⟨n, j, none⟩ v) n (C.setIfInBounds j v) := by
  refine ⟨⟨by simpa [World.setCell] using h.1.1, fun i => ?_⟩, fun i => by simp [h.2]⟩
  by_cases hi : i = j
  · subst hi
    rw [World.cell?_setCell_same _ _ _ (show w.cell? ⟨n, i, none⟩ = some C[i] by rw [h.1.2]; simp [hj])]
    simp [hj]
  · rw [World.cell?_setCell_other _ _ _ _ (fun e => hi (by injection e with _ e2; exact e2.symm)), h.1.2 i, Array.getElem?_setIfInBounds_ne (fun e => hi e.symm)]
theorem step_callg {P : Program} {w : World} {ops : Array Oper} {o : Oper} {a : Act} {K : Act → World → Prop} {Q : Exit → Act → World → Prop} {E : Prop} (d f : Nat) {vs : Array Value} {post : Ending → World → Prop} (hd : o.dst = some d) (hw : Region.wanted o (yielded ops a.tmps) = true)
    (hc : Calls P f vs w post) (hrun : (execOp a.eval o).run P w = .ok (.enter f vs) w) (h : ∀ e w', post e w' → ∃ v, e = .returned v ∧ K (a.put (some d) v) w') :
    if Region.wanted o (yielded ops a.tmps) = true then Oper.wp P o a w K Q else E := by
  rw [if_pos hw]
  unfold Oper.wp
  rw [hrun, Oper.upon_enter]
  refine hc.mono ?_
  intro e w' he
  obtain ⟨v, rfl, hk⟩ := h e w' he
  show K (a.put o.dst v) w'
  rw [hd]; exact hk
end Go.Proofs.YtcgjpmhjijmplabGreatDoor
