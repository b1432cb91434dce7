/- For the law FnNatOrder: the list of flows, and the order in which they go the second time. -/
import Derived.Test.YtcgjpmhjijmplaaGreatDoorPut
import Derived.Test.YtcgjpmhjijmplaaGreatDoorModel
namespace Go.Proofs.YtcgjpmhjijmplaaGreatDoor
open Go.ChangeShapes Go.WideShapes Go.ChangeAt Go.RowKit Go.Maps

/-- The i-th place of the turned order. -/
def turnI (n t : Nat) (o : Bool) (i : Nat) : Nat := if o then n - 1 - (i + t) % n else (i + t) % n
theorem turn_lt {n t i : Nat} {o : Bool} (hn : 0 < n) : turnI n t o i < n := by
  have h := Nat.mod_lt (i + t) hn
  unfold turnI
  split <;> omega
theorem mod_inj {n t i j : Nat} (hi : i < n) (hj : j < n) (h : (i + t) % n = (j + t) % n) : i = j := by
  have hn : 0 < n := by omega
  have h1 := Nat.div_add_mod (i + t) n
  have h2 := Nat.div_add_mod (j + t) n
  rcases Nat.lt_trichotomy ((i + t) / n) ((j + t) / n) with hq | hq | hq
  · have h3 : n * ((i + t) / n + 1) ≤ n * ((j + t) / n) := Nat.mul_le_mul_left n hq
    rw [Nat.mul_add] at h3
    omega
  · rw [hq] at h1; omega
  · have h3 : n * ((j + t) / n + 1) ≤ n * ((i + t) / n) := Nat.mul_le_mul_left n hq
    rw [Nat.mul_add] at h3
    omega
theorem turn_inj {n t i j : Nat} {o : Bool} (hi : i < n) (hj : j < n) (h : turnI n t o i = turnI n t o j) : i = j := by
  have hn : 0 < n := by omega
  have h1 := Nat.mod_lt (i + t) hn
  have h2 := Nat.mod_lt (j + t) hn
  unfold turnI at h
  split at h
  · exact mod_inj (t := t) hi hj (by omega)
  · exact mod_inj hi hj h
theorem mod_surj {n t k : Nat} (hk : k < n) : ∃ i, i < n ∧ (i + t) % n = k := by
  have hn : 0 < n := by omega
  refine ⟨(k + (n - t % n)) % n, Nat.mod_lt _ hn, ?_⟩
  have ht := Nat.mod_lt t hn
  have e : (k + (n - t % n)) % n + t = (k + (n - t % n)) % n + (t % n + n * (t / n)) := by rw [Nat.mod_add_div]
  rw [e, ← Nat.add_assoc, Nat.add_mul_mod_self_left, Nat.add_mod, Nat.mod_mod, ← Nat.add_mod, show k + (n - t % n) + t % n = k + n by omega, Nat.add_mod_right, Nat.mod_eq_of_lt hk]
theorem turn_surj {n t k : Nat} {o : Bool} (hk : k < n) : ∃ i, i < n ∧ turnI n t o i = k := by
  unfold turnI
  cases o with
  | false => obtain ⟨i, hi, h⟩ := mod_surj (t := t) hk; exact ⟨i, hi, by simpa using h⟩
  | true =>
    obtain ⟨i, hi, h⟩ := mod_surj (t := t) (show n - 1 - k < n by omega)
    exact ⟨i, hi, by simp only [if_true]; omega⟩
/-- The flows that have gone, in the turned order. -/
def ordL (L : List Fl) (t : Nat) (o : Bool) (i : Nat) : List Fl := (List.range i).map fun j => L.getD (turnI L.length t o j) zeroF
theorem ord_succ (L : List Fl) (t : Nat) (o : Bool) (i : Nat) {f : Fl} (h : L[turnI L.length t o i]? = some f) : ordL L t o (i + 1) = ordL L t o i ++ [f] := by
  unfold ordL
  rw [List.range_succ, List.map_append, List.map_singleton, List.getD_eq_getElem?_getD, h]
  rfl
/-- No two to one port of one peer, of one kind. -/
def ApkL (L : List Fl) : Prop := ∀ (i j : Nat) f g, i ≠ j → L[i]? = some f → L[j]? = some g → Apk f g
theorem ord_apk {L : List Fl} {t i : Nat} {o : Bool} {f : Fl} (h : ApkL L) (hi : i < L.length) (hf : L[turnI L.length t o i]? = some f) : ∀ g ∈ ordL L t o i, Apk g f := by
  intro g hg
  obtain ⟨j, hj, rfl⟩ := List.mem_map.1 hg
  have hj := List.mem_range.1 hj
  have hl := turn_lt (n := L.length) (t := t) (o := o) (i := j) (by omega)
  have e : L[turnI L.length t o j]? = some (L.getD (turnI L.length t o j) zeroF) := by
    rw [List.getD_eq_getElem?_getD]
    simp [hl]
  exact h _ _ _ _ (fun x => by have := turn_inj (by omega) hi x; omega) e hf
theorem turn_all {L : List Fl} {t : Nat} {o : Bool} : ∀ f, f ∈ L ↔ f ∈ ordL L t o L.length := by
  intro f
  constructor
  · intro hf
    obtain ⟨k, hk⟩ := List.mem_iff_getElem?.1 hf
    obtain ⟨i, hi, e⟩ := turn_surj (t := t) (o := o) (get_lt hk)
    refine List.mem_map.2 ⟨i, List.mem_range.2 hi, ?_⟩
    rw [e, List.getD_eq_getElem?_getD, hk]
    rfl
  · intro hf
    obtain ⟨j, hj, rfl⟩ := List.mem_map.1 hf
    have hj := List.mem_range.1 hj
    have hl := turn_lt (n := L.length) (t := t) (o := o) (i := j) (by omega)
    have e : L[turnI L.length t o j]? = some (L.getD (turnI L.length t o j) zeroF) := by
      rw [List.getD_eq_getElem?_getD]
      simp [hl]
    exact List.mem_of_getElem? e
theorem apk_nil : ApkL [] := fun i j f g _ h => by simp at h
theorem apk_put {L : List Fl} {f : Fl} (h : ApkL L) : ApkL (putF L f) := by
  unfold putF
  split
  · exact h
  · rename_i hn
    have hn : ∀ y ∈ L, peerS f y = false := by
      intro y hy
      cases hx : peerS f y with
      | false => rfl
      | true => exact absurd (List.any_eq_true.2 ⟨y, hy, hx⟩) hn
    have key : ∀ y ∈ L, Apk y f ∧ Apk f y := by
      intro y hy
      have := hn y hy
      simp only [peerS, Bool.and_eq_false_iff, beq_eq_false_iff_ne] at this
      unfold Apk
      constructor <;> (intro hx; omega)
    have last : ∀ (i : Nat) g, (L ++ [f])[i]? = some g → (i < L.length ∧ L[i]? = some g) ∨ (i = L.length ∧ g = f) := by
      intro i g hi
      rcases Nat.lt_or_ge i L.length with hl | hl
      · rw [List.getElem?_append_left hl] at hi; exact Or.inl ⟨hl, hi⟩
      · have hl2 := get_lt hi
        simp at hl2
        have : i = L.length := by omega
        subst this
        simp at hi
        exact Or.inr ⟨rfl, hi.symm⟩
    intro i j a b hij ha hb
    rcases last i a ha with ⟨h1, h2⟩ | ⟨h1, h2⟩ <;> rcases last j b hb with ⟨h3, h4⟩ | ⟨h3, h4⟩
    · exact h i j a b hij h2 h4
    · rw [h4]; exact (key a (List.mem_of_getElem? h2)).1
    · rw [h2]; exact (key b (List.mem_of_getElem? h4)).2
    · omega
theorem put_len (L : List Fl) (f : Fl) : (putF L f).length ≤ L.length + 1 := by
  unfold putF
  split <;> simp
end Go.Proofs.YtcgjpmhjijmplaaGreatDoor
