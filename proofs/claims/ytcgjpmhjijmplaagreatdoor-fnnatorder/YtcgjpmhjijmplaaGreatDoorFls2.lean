/- A list of flows appended whole. -/
import Derived.Test.YtcgjpmhjijmplaaGreatDoorFls
namespace Go.Proofs.YtcgjpmhjijmplaaGreatDoor
open Go.ChangeShapes Go.WideShapes Go.ChangeAt Go.RowKit Go.Maps

/-- A whole list behind none. -/
theorem app_list {w : World} {q2 base n c : Nat} {v : Value} {sa : Option Addr} {fs : List Fl} (ho : OwnF w q2 v []) (hl : OwnF w base (.slice sa n c) fs) (hn : n = fs.length) (h100 : fs.length ≤ 1000) (hq : q2 ≤ w.heap.size) :
    ∃ v' w', (Builtin.append_ #[27, 27] 27 #[v, .slice sa n c]).run Tryz.prog w = .ok v' w' ∧ OwnF w' q2 v' fs ∧ w.grownBy w' v.ownBlock ∧ (v'.ownBlock = v.ownBlock ∨ v'.ownBlock = some w.heap.size) := by
  obtain ⟨i0, hi0, hz0, hz1, hz2⟩ := info_parts infoFl
  subst hn
  rcases hl.2 with ⟨h1, h2⟩ | ⟨g, cap, cur, h1, _⟩
  · injection h1 with e1 e2 e3
    subst e1
    have h0 : fs = [] := List.eq_nil_of_length_eq_zero h2
    subst h0
    refine ⟨v, w, ?_, ho, ⟨rfl, rfl, rfl, Nat.le_refl _, fun _ _ _ => rfl⟩, Or.inl rfl⟩
    obtain ⟨v', w', hr, h3, h4⟩ := run_append_any (P := Tryz.prog) w q2 27 27 32 i0 (.agg #[.int .i64 0, .int .i64 0, .int .i64 0, .int .i64 0, .int .i64 0]) 5 40 Tryz.underlying27 hi0 hz0 hz1 hz2 rfl (by decide) v _ _ ho (.slice none 0 c) 0 [] (Or.inl ⟨rfl, rfl, c, rfl⟩) (by unfold maxLen; simp) (by simp) hq
    rcases ho.2 with ⟨rfl, _⟩ | ⟨g, cap, cur, rfl, _⟩
    · simp [Builtin.append_, run_underlying Tryz.underlying27, sizeOf, typeInfo, hi0, Builtin.lenOf, Builtin.firstCells]
    · have h := run_append_room_src (P := Tryz.prog) w 27 27 27 32 i0 Tryz.underlying27 hi0 g 0 0 cap (.slice none 0 c) 0 [] (Src.ofNil w Tryz.underlying27 c) (by omega) (fun j hj => by simp at hj) (fun j hj => by simp at hj)
      simpa [World.setCells] using h
  · have hcs := hl
    injection h1 with e1 e2 e3
    subst e1; subst e3
    have hc := flCells_of_own hcs rfl
    obtain ⟨v', w', hr, h2, h3, _, h5⟩ := run_append_own_at (P := Tryz.prog) w q2 27 27 32 i0 (.agg #[.int .i64 0, .int .i64 0, .int .i64 0, .int .i64 0, .int .i64 0]) 5 40 Tryz.underlying27 hi0 hz0 hz1 hz2 rfl (by decide) v _ _ ho ⟨g, 0, none⟩ fs.length c (flatF fs) (flatF_length fs) (fun j u hu => by
      have hj : j < fs.length * 5 := by
        rcases Nat.lt_or_ge j (fs.length * 5) with h | h
        · exact h
        · rw [List.getElem?_eq_none (by rw [flatF_length]; omega)] at hu; cases hu
      obtain ⟨d, hd⟩ : ∃ d, fs[j / 5]? = some d := ⟨fs[j / 5]'(by omega), by simp⟩
      have e := flatF_at fs (j / 5) d hd (j % 5) (by omega)
      rw [show j / 5 * 5 + j % 5 = j by omega, hu] at e
      obtain ⟨c0, c1, c2, c3, c4⟩ := hc _ d hd
      rw [addr_addD]
      have hj4 : j = j / 5 * 5 + j % 5 := by omega
      rcases (show j % 5 = 0 ∨ j % 5 = 1 ∨ j % 5 = 2 ∨ j % 5 = 3 ∨ j % 5 = 4 by omega) with h | h | h | h | h <;> rw [h] at e hj4 <;> simp [flV] at e <;> subst e
      · rw [show 0 + j = 0 + j / 5 * 5 by omega]; exact c0
      · rw [show 0 + j = 0 + j / 5 * 5 + 1 by omega]; exact c1
      · rw [show 0 + j = 0 + j / 5 * 5 + 2 by omega]; exact c2
      · rw [show 0 + j = 0 + j / 5 * 5 + 3 by omega]; exact c3
      · rw [show 0 + j = 0 + j / 5 * 5 + 4 by omega]; exact c4) (flatF_one _) (by unfold maxLen; simp; omega) (by simp; omega) hq
    refine ⟨v', w', hr, ?_, h3, h5⟩
    unfold OwnF
    simpa [flatF] using h2
end Go.Proofs.YtcgjpmhjijmplaaGreatDoor
