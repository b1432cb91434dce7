/- All blocks but one are as they were. -/
import Derived.Test.YtcgjpmhjijmplaaGreatDoorBase
namespace Go.Proofs.YtcgjpmhjijmplaaGreatDoor
open Go.ChangeShapes Go.WideShapes Go.ChangeAt Go.RowKit

/-- All blocks but R are as they were. -/
structure Apart (R : Nat) (w w' : World) : Prop where
  os : w'.os = w.os
  tape : w'.tape = w.tape
  output : w'.output = w.output
  size : w.heap.size ≤ w'.heap.size
  block : ∀ k, k < w.heap.size → k ≠ R → w'.heap[k]? = w.heap[k]?
theorem ap_set {R : Nat} {w w1 : World} (h : Apart R w w1) (j : Nat) (v : Value) : Apart R w (w1.setCell ⟨R, j, none⟩ v) :=
  ⟨h.os, h.tape, h.output, by simpa [World.setCell] using h.size, fun k hk hn => (Below.heap_setCell _ _ _ _ (by simpa using hn)).trans (h.block k hk hn)⟩
theorem ap_refl (R : Nat) (w : World) : Apart R w w := ⟨rfl, rfl, rfl, Nat.le_refl _, fun _ _ _ => rfl⟩

theorem Apart.cell {R : Nat} {w w' : World} (h : Apart R w w') {b o : Nat} (hb : b < w.heap.size) (hn : b ≠ R) : w'.cell? ⟨b, o, none⟩ = w.cell? ⟨b, o, none⟩ := World.cell?_of_block (w := w) (h.block b hb hn)
theorem ap_of_bl {R : Nat} {w w' : World} (h : Below w.heap.size w w') : Apart R w w' := ⟨h.os, h.tape, h.output, h.size, fun k hk _ => h.block k hk⟩
end Go.Proofs.YtcgjpmhjijmplaaGreatDoor
