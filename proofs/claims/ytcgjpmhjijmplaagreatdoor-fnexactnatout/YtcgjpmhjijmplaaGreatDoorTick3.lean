/- The specification's NatTick, walked. -/
import Derived.Test.YtcgjpmhjijmplaaGreatDoorTick2
import Derived.Test.YtcgjpmhjijmplaaGreatDoorBook
import Derived.Test.YtcgjpmhjijmplaaGreatDoorJoinG
namespace Go.Proofs.YtcgjpmhjijmplaaGreatDoor
open Go.ChangeShapes Go.WideShapes Go.ChangeAt Go.RowKit Go.Maps

/-- A book as plain data. -/
structure Bk where
  ad : Int
  ln : Int
  ow : Int
  lo : Int
  hi : Int
  nw : Int
  ds : List Dr
  es : List En
theorem own_nilB (w : World) (base : Nat) : OwnB w base (.slice none 0 0) [] (.slice none 0 0) [] := ⟨World.ownsRow_nil _ _ _ _, World.ownsRow_nil _ _ _ _, fun g h => by cases h⟩
theorem own_ne {w : World} {base size n : Nat} {e : TypeId} {v : Value} {xs : List Value} (h : w.ownsRow base e size v n xs) {m : Nat} (hm : ∀ k, v.ownBlock = some k → k ≠ m) {j : Nat} (u : Value) : (w.setCell ⟨m, j, none⟩ u).ownsRow base e size v n xs := by
  refine ⟨h.1, ?_⟩
  rcases h.2 with h | ⟨g, cap, cur, h1, h2, h3, h4⟩
  · exact Or.inl h
  · exact Or.inr ⟨g, cap, cur, h1, h2, (Below.heap_setCell _ _ _ _ (by have := hm g (by rw [h1]; rfl); simp; omega)).trans h3, h4⟩
end Go.Proofs.YtcgjpmhjijmplaaGreatDoor
