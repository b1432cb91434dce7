/- append of anything onto a slice that the call owns; the specification's l5PutDoor, walked. -/
import Derived.Test.YtcgjpmhjijmplaaDraw3
namespace Go.Proofs.Ytcgjpmhjijmplaa
open Go.ChangeShapes Go.WideShapes Go.ChangeAt Go.RowKit

/-- Where a door goes: behind k others. -/
def putD (k : Nat) (ds : List Dr) (d : Dr) : List Dr := ds.take k ++ [d] ++ ds.drop k
theorem own_put {W : World} {base n : Nat} {T : TypeId} {v : Value} {ds : List Dr} {d : Dr} (hn : n ≤ ds.length) (own : W.ownsRow base T 4 v (0 + n + 1 + (ds.length - n)) ([] ++ flatD (ds.take n) ++ flatD [d] ++ flatD (ds.drop n))) :
    ∃ g cap, v = .slice (some ⟨g, 0, none⟩) (ds.length + 1) cap ∧ base ≤ g ∧ g < W.heap.size ∧ ds.length + 1 ≤ cap ∧ cap ≤ maxLen ∧ DrCells W g 0 (putD n ds d) := by
  have e1 : 0 + n + 1 + (ds.length - n) = ds.length + 1 := by omega
  have e2 : [] ++ flatD (ds.take n) ++ flatD [d] ++ flatD (ds.drop n) = flatD (putD n ds d) := by
    simp only [putD, flatD_append, List.nil_append]
  have e3 : (putD n ds d).length = ds.length + 1 := by simp [putD]; omega
  rw [e1, e2] at own
  obtain ⟨g, cap, rfl, h1, h2, h3, h4⟩ := own_form own (by omega)
  refine ⟨g, cap, rfl, h1, h2, h3, h4, ?_⟩
  rw [← e3] at own
  exact drCells_of_own own rfl
theorem far0 {W : World} {n : Nat} {C : Array Value} (bx : Box W n C) : ∀ k, (Value.slice (some ⟨W.heap.size, 0, none⟩) 0 0).ownBlock = some k → n ≠ k := by
  intro k hk
  simp [Value.ownBlock] at hk
  have := bx.1
  omega
end Go.Proofs.Ytcgjpmhjijmplaa
