/- Copies of lists: slices.Clone of doors and of entries, walked. -/
import Derived.Test.YtcgjpmhjijmplaaGreatDoorPass1
import Derived.Lib.SliceRun
namespace Go.Proofs.YtcgjpmhjijmplaaGreatDoor
open Go.ChangeShapes Go.WideShapes Go.ChangeAt Go.RowKit Go.Maps

theorem wpList_append_any {P : Program} (w : World) {ops : Array Oper} {rest : List Oper} {o : Oper} {a : Act} {Q : Exit → Act → World → Prop} (d : Nat) (hd : o.dst = some d) (hgd : o.guard = none) (s x : Operand) (t : TypeId)
    (ho : o.op = .call { callee := .builtin .append, args := #[s, x], argTypes := #[t, t] })
    (base : Nat) (e : TypeId) (i : TypeInfo) (z : Value) (size bytes : Nat) (ht : P.underlying t = some (.slice e)) (hi : P.info? e = some i) (hz : i.zero = some z)
    (hsize : i.size = size) (hby : i.bytes = bytes) (hzs : z.cells.size = size) (hsz : 0 < size)
    (v : Value) (n : Nat) (xs : List Value) (hs : a.eval s = v) (hown : w.ownsRow base e size v n xs) (xv : Value) (m : Nat) (news : List Value) (hx : a.eval x = xv) (hT : Takes w size xv m news)
    (h63 : n + m ≤ maxLen) (hbytes : (n + m) * bytes ≤ 140737488355328) (hbase : base ≤ w.heap.size)
    (h : ∀ v' w', w'.ownsRow base e size v' (n + m) (xs ++ news) → w.grownBy w' v.ownBlock → wpList P ops Q rest (a.put (some d) v') w') : wpList P ops Q (o :: rest) a w :=
  wpList_plain hgd fun _ hK => wp_append_any w s x t ho base e i z size bytes ht hi hz hsize hby hzs hsz v n xs hs hown xv m news hx hT h63 hbytes hbase (fun v' w' h2 h3 => by rw [hd]; exact hK _ _ (h v' w' h2 h3))
theorem flatE_one (L : List En) : ∀ u ∈ flatE L, u.oneCell' = true := by
  induction L with
  | nil => intro u hu; cases hu
  | cons d L ih =>
    intro u hu
    simp only [flatE, List.mem_append] at hu
    rcases hu with hu | hu
    · exact enV_one d u hu
    · exact ih u hu
theorem takes_entries {w : World} {b o : Nat} {es : List En} (hc : EnCells w b o es) (c : Nat) : Takes w 7 (.slice (some ⟨b, o, none⟩) es.length c) es.length (flatE es) := by
  refine Or.inr ⟨flatE_length es, flatE_one es, _, c, rfl, fun j u hu => ?_⟩
  have hj : j < es.length * 7 := by
    rcases Nat.lt_or_ge j (es.length * 7) with h | h
    · exact h
    · rw [List.getElem?_eq_none (by rw [flatE_length]; omega)] at hu; cases hu
  obtain ⟨d, hd⟩ : ∃ d, es[j / 7]? = some d := ⟨es[j / 7], by simp⟩
  have e := flatE_at es (j / 7) d hd (j % 7) (by omega)
  rw [show j / 7 * 7 + j % 7 = j by omega, hu] at e
  obtain ⟨c0, c1, c2, c3, c4, c5, c6⟩ := hc _ d hd
  rw [addr_addD]
  have hj7 : j = j / 7 * 7 + j % 7 := by omega
  rcases (show j % 7 = 0 ∨ j % 7 = 1 ∨ j % 7 = 2 ∨ j % 7 = 3 ∨ j % 7 = 4 ∨ j % 7 = 5 ∨ j % 7 = 6 by omega) with h | h | h | h | h | h | h <;> rw [h] at e hj7 <;> simp [enV] at e <;> subst e
  · rw [show o + j = o + j / 7 * 7 by omega]; exact c0
  · rw [show o + j = o + j / 7 * 7 + 1 by omega]; exact c1
  · rw [show o + j = o + j / 7 * 7 + 2 by omega]; exact c2
  · rw [show o + j = o + j / 7 * 7 + 3 by omega]; exact c3
  · rw [show o + j = o + j / 7 * 7 + 4 by omega]; exact c4
  · rw [show o + j = o + j / 7 * 7 + 5 by omega]; exact c5
  · rw [show o + j = o + j / 7 * 7 + 6 by omega]; exact c6
theorem takes_doorsAt {w : World} {da : Option Addr} {dn dc : Nat} {ds : List Dr} (h : DoorsAt w da dn ds) : Takes w 4 (.slice da dn dc) dn (flatD ds) := by
  obtain ⟨rfl, h⟩ := h
  rcases h with rfl | ⟨b, o, rfl, _, hc⟩
  · cases da with
    | none => exact Or.inl ⟨rfl, rfl, dc, rfl⟩
    | some a => exact Or.inr ⟨rfl, by simp [flatD], a, dc, rfl, by simp [flatD]⟩
  · have := takes_doors hc 0 ds.length dc ds (fun i _ => by simp) rfl
    simpa using this
theorem takes_entriesAt {w : World} {ea : Option Addr} {en ec : Nat} {es : List En} (h : EntriesAt w ea en es) : Takes w 7 (.slice ea en ec) en (flatE es) := by
  obtain ⟨rfl, h⟩ := h
  rcases h with rfl | ⟨b, o, rfl, _, hc⟩
  · cases ea with
    | none => exact Or.inl ⟨rfl, rfl, ec, rfl⟩
    | some a => exact Or.inr ⟨rfl, by simp [flatE], a, ec, rfl, by simp [flatE]⟩
  · exact takes_entries hc ec
theorem own_empty (w : World) (t : TypeId) (size : Nat) : (w.alloc (.cells #[] t)).ownsRow w.heap.size t size (.slice (some ⟨w.heap.size, 0, none⟩) 0 0) 0 [] := World.ownsRow_made w #[] 0 (Nat.le_refl _) (by decide) (by simp)
theorem own_empty_at (w : World) (n : Nat) (hn : w.heap.size = n) (t : TypeId) (size : Nat) : (w.alloc (.cells #[] t)).ownsRow n t size (.slice (some ⟨n, 0, none⟩) 0 0) 0 [] := by
  subst hn; exact own_empty w t size
/-- A book's two lists, each in a row of its own that was made since block base, no row shared. -/
def OwnB (w : World) (base : Nat) (vd : Value) (ds : List Dr) (ve : Value) (es : List En) : Prop :=
  w.ownsRow base 85 4 vd ds.length (flatD ds) ∧ w.ownsRow base 52 7 ve es.length (flatE es) ∧ ∀ g, vd.ownBlock = some g → ve.ownBlock ≠ some g
theorem OwnB.below {w w' : World} {base : Nat} {vd ve : Value} {ds : List Dr} {es : List En} (h : OwnB w base vd ds ve es) (hb : Below w.heap.size w w') : OwnB w' base vd ds ve es := ⟨ownsRow_bl h.1 hb, ownsRow_bl h.2.1 hb, h.2.2⟩
theorem own_mono {w : World} {base base' size n : Nat} {e : TypeId} {v : Value} {xs : List Value} (h : w.ownsRow base e size v n xs) (hb : base' ≤ base) : w.ownsRow base' e size v n xs := by
  refine ⟨h.1, ?_⟩
  rcases h.2 with h | ⟨g, cap, cur, h1, h2, h3⟩
  · exact Or.inl h
  · exact Or.inr ⟨g, cap, cur, h1, by omega, h3⟩
theorem own_other {w : World} {base size n : Nat} {e : TypeId} {v : Value} {xs : List Value} (h : w.ownsRow base e size v n xs) {m j : Nat} (hm : m < base) (u : Value) : (w.setCell ⟨m, j, none⟩ u).ownsRow base e size v n xs := by
  refine ⟨h.1, ?_⟩
  rcases h.2 with h | ⟨g, cap, cur, h1, h2, h3, h4⟩
  · exact Or.inl h
  · exact Or.inr ⟨g, cap, cur, h1, h2, (Below.heap_setCell _ _ _ _ (by simp; omega)).trans h3, h4⟩
theorem own_other8 {w : World} {base size k : Nat} {t : TypeId} {v : Value} {xs : List Value} (hh : w.ownsRow base t size v k xs) {m : Nat} (hm : m < base) (a b c d e f g i : Value) : ((((((((w.setCell ⟨m, 0, none⟩ a).setCell ⟨m, 1, none⟩ b).setCell ⟨m, 2, none⟩ c).setCell ⟨m, 3, none⟩ d).setCell ⟨m, 4, none⟩ e).setCell ⟨m, 5, none⟩ f).setCell ⟨m, 6, none⟩ g).setCell ⟨m, 7, none⟩ i).ownsRow base t size v k xs :=
  own_other (own_other (own_other (own_other (own_other (own_other (own_other (own_other hh hm a) hm b) hm c) hm d) hm e) hm f) hm g) hm i
theorem bl_set8 {w0 w : World} (h : Below w0.heap.size w0 w) {n : Nat} (hn : w0.heap.size ≤ n) (a b c d e f g i : Value) : Below w0.heap.size w0 ((((((((w.setCell ⟨n, 0, none⟩ a).setCell ⟨n, 1, none⟩ b).setCell ⟨n, 2, none⟩ c).setCell ⟨n, 3, none⟩ d).setCell ⟨n, 4, none⟩ e).setCell ⟨n, 5, none⟩ f).setCell ⟨n, 6, none⟩ g).setCell ⟨n, 7, none⟩ i) :=
  bl_set (bl_set (bl_set (bl_set (bl_set (bl_set (bl_set (bl_set h hn a) hn b) hn c) hn d) hn e) hn f) hn g) hn i
theorem own_slice {w : World} {base size n : Nat} {e : TypeId} {v : Value} {xs : List Value} (h : w.ownsRow base e size v n xs) : ∃ a c, v = .slice a n c := by
  rcases h.2 with ⟨h, h0⟩ | ⟨g, cap, cur, h1, _⟩
  · exact ⟨none, 0, by rw [h, h0]⟩
  · exact ⟨_, cap, h1⟩

end Go.Proofs.YtcgjpmhjijmplaaGreatDoor
