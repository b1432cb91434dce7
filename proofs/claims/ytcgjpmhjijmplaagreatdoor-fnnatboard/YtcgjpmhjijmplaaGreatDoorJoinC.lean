/- Joined: Tick4, Tick5. -/
import Derived.Test.YtcgjpmhjijmplaaGreatDoorTick3
import Derived.Test.YtcgjpmhjijmplaaGreatDoorJoinA
/- The program's closure of natPassTick, slices.IndexFunc over it, walked. -/
namespace Go.Proofs.YtcgjpmhjijmplaaGreatDoor
open Go.ChangeShapes Go.WideShapes Go.ChangeAt Go.RowKit Go.Maps

/-- Block g is one row of m cells, none frozen. -/
def IsRow (w : World) (g : Nat) (e : TypeId) (m : Nat) : Prop := ∃ cur : Array Value, w.heap[g]? = some (.cells cur e) ∧ cur.size = m
theorem IsRow.lt {w : World} {g m : Nat} {e : TypeId} (h : IsRow w g e m) : g < w.heap.size := by
  obtain ⟨cur, hh, _⟩ := h
  rcases Nat.lt_or_ge g w.heap.size with h' | h'
  · exact h'
  · rw [Array.getElem?_eq_none h'] at hh; cases hh
theorem IsRow.below {w w' : World} {g m : Nat} {e : TypeId} (h : IsRow w g e m) (hb : Below w.heap.size w w') : IsRow w' g e m := by
  have hl := h.lt
  obtain ⟨cur, hh, hs⟩ := h
  exact ⟨cur, (hb.block g hl).trans hh, hs⟩
theorem IsRow.set {w : World} {g m j : Nat} {e : TypeId} (h : IsRow w g e m) (v : Value) : IsRow (w.setCell ⟨g, j, none⟩ v) g e m := by
  have hl := h.lt
  obtain ⟨cur, hh, hs⟩ := h
  refine ⟨cur.setIfInBounds j v, ?_, by simpa using hs⟩
  have hh' : w.heap[g] = .cells cur e := by simpa [hl] using hh
  simp [World.setCell, Array.getElem_modify, hl, hh']
theorem IsRow.cell {w : World} {g m : Nat} {e : TypeId} (h : IsRow w g e m) {j : Nat} (hj : j < m) : ∃ v, w.cell? ⟨g, j, none⟩ = some v := by
  obtain ⟨cur, hh, hs⟩ := h
  exact ⟨cur[j]'(by omega), by simp [World.cell?, hh, show j < cur.size by omega]⟩
theorem IsRow.frozen {w : World} {g m : Nat} {e : TypeId} (h : IsRow w g e m) (j : Nat) : w.frozen? ⟨g, j, none⟩ = false := by
  obtain ⟨cur, hh, hs⟩ := h
  simp [World.frozen?, hh]
end Go.Proofs.YtcgjpmhjijmplaaGreatDoor

/- slices.DeleteFunc over the tick's closure: in place; walked. -/
namespace Go.Proofs.YtcgjpmhjijmplaaGreatDoor
open Go.ChangeShapes Go.WideShapes Go.ChangeAt Go.RowKit Go.Maps

/-- The cells of the entries from n on. -/
def EnFrom (w : World) (g n : Nat) (es : List En) : Prop := ∀ (i : Nat) (d : En), n ≤ i → es[i]? = some d → ∀ j, j < 7 → w.cell? ⟨g, i * 7 + j, none⟩ = (enV d)[j]?
theorem en_from {w : World} {g : Nat} {es : List En} (h : EnCells w g 0 es) (n : Nat) : EnFrom w g n es := by
  intro i d _ hi j hj
  obtain ⟨c0, c1, c2, c3, c4, c5, c6⟩ := h i d hi
  simp only [Nat.zero_add] at c0 c1 c2 c3 c4 c5 c6
  rcases (show j = 0 ∨ j = 1 ∨ j = 2 ∨ j = 3 ∨ j = 4 ∨ j = 5 ∨ j = 6 by omega) with rfl | rfl | rfl | rfl | rfl | rfl | rfl <;> simpa [enV]
theorem own_of_row {w : World} {base g cap : Nat} {e : TypeId} {L : List En} (hr : IsRow w g e (cap * 7)) (hb : base ≤ g) (hc : L.length ≤ cap) (hm : cap ≤ maxLen) (h : EnCells w g 0 L) : w.ownsRow base e 7 (.slice (some ⟨g, 0, none⟩) L.length cap) L.length (flatE L) := by
  obtain ⟨cur, hh, hs⟩ := hr
  refine ⟨flatE_length L, Or.inr ⟨g, cap, cur, rfl, hb, hh, hc, hm, hs, ?_⟩⟩
  apply List.ext_getElem?
  intro q
  rcases Nat.lt_or_ge q (L.length * 7) with hq | hq
  · rw [List.getElem?_take_of_lt hq]
    have k := en_from h 0 (q / 7) (L[q / 7]'(by omega)) (by omega) (by simp) (q % 7) (by omega)
    rw [show q / 7 * 7 + q % 7 = q by omega] at k
    have k2 := flatE_at L (q / 7) (L[q / 7]'(by omega)) (by simp) (q % 7) (by omega)
    rw [show q / 7 * 7 + q % 7 = q by omega] at k2
    rw [k2, ← k]
    simp [World.cell?, hh]
  · rw [List.getElem?_eq_none (by simp; omega), List.getElem?_eq_none (by rw [flatE_length]; omega)]
end Go.Proofs.YtcgjpmhjijmplaaGreatDoor
