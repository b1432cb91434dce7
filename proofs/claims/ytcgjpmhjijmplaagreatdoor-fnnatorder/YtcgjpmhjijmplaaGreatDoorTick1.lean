/- Copies of lists: slices.Clone of doors and of entries, walked. -/
import Derived.Test.YtcgjpmhjijmplaaGreatDoorPass1
import Derived.Lib.SliceRun
namespace Go.Proofs.YtcgjpmhjijmplaaGreatDoor
open Go.ChangeShapes Go.WideShapes Go.ChangeAt Go.RowKit Go.Maps

theorem wpList_append_any {P : Program} (w : World) {ops : Array Oper} {rest : List Oper} {o : Oper} {a : Act} {Q : Exit → Act → World → Prop} (d : Nat) (hd : o.dst = some d) (hgd : o.guard = none) (s x : Operand) (t : TypeId)
    (ho : o.op = .call { callee := .builtin .append, args := #[s, x], argTypes := #[t, t] })
    (base : Nat) (e : TypeId) (i : TypeInfo) (z : Value) (size bytes : Nat) (ht : P.underlying t = some (.slice e)) (hi : P.info? e = some i) (hz : i.zero = some z)
    (hsize : i.size = size) (hby : i.bytes = bytes) (hzs : z.cells.size = size) (hsz : 0 < size)
    (v : Value) (n : Nat) (xs : List Value) (hs : a.eval s = v) (hown : w.ownsRow base e size v n xs) (xv : Value) (m : Nat) (news : List Value) (hx : a.eval x = xv) (hT : Takes w size xv m news)
    (h63 : n + m ≤ maxLen) (hbytes : (n + m) * bytes ≤ 140737488355328) (hbase : base ≤ w.heap.size)
    (h : ∀ v' w', w'.ownsRow base e size v' (n + m) (xs ++ news) → w.grownBy w' v.ownBlock → wpList P ops Q rest (a.put (some d) v') w') : wpList P ops Q (o :: rest) a w :=
  wpList_plain hgd fun _ hK => wp_append_any w s x t ho base e i z size bytes ht hi hz hsize hby hzs hsz v n xs hs hown xv m news hx hT h63 hbytes hbase (fun v' w' h2 h3 => by rw [hd]; exact hK _ _ (h v' w' h2 h3))
theorem flatE_one (L : List En) : ∀ u ∈ flatE L, u.oneCell' = true := by
  induction L with
  | nil => intro u hu; cases hu
  | cons d L ih =>
    intro u hu
    simp only [flatE, List.mem_append] at hu
    rcases hu with hu | hu
    · exact enV_one d u hu
    · exact ih u hu
theorem takes_entries {w : World} {b o : Nat} {es : List En} (hc : EnCells w b o es) (c : Nat) : Takes w 7 (.slice (some ⟨b, o, none⟩) es.length c) es.length (flatE es) := by
  refine Or.inr ⟨flatE_length es, flatE_one es, _, c, rfl, fun j u hu => ?_⟩
  have hj : j < es.length * 7 := by
    rcases Nat.lt_or_ge j (es.length * 7) with h | h
    · exact h
    · rw [List.getElem?_eq_none (by rw [flatE_length]; omega)] at hu; cases hu
  obtain ⟨d, hd⟩ : ∃ d, es[j / 7]? = some d := ⟨es[j / 7], by simp⟩
  have e := flatE_at es (j / 7) d hd (j % 7) (by omega)
  rw [show j / 7 * 7 + j % 7 = j by omega, hu] at e
  obtain ⟨c0, c1, c2, c3, c4, c5, c6⟩ := hc _ d hd
  rw [addr_addD]
  have hj7 : j = j / 7 * 7 + j % 7 := by omega
  rcases (show j % 7 = 0 ∨ j % 7 = 1 ∨ j % 7 = 2 ∨ j % 7 = 3 ∨ j % 7 = 4 ∨ j % 7 = 5 ∨ j % 7 = 6 by omega) with h | h | h | h | h | h | h <;> rw [h] at e hj7 <;> simp [enV] at e <;> subst e
  · rw [show o + j = o + j / 7 * 7 by omega]; exact c0
  · rw [show o + j = o + j / 7 * 7 + 1 by omega]; exact c1
  · rw [show o + j = o + j / 7 * 7 + 2 by omega]; exact c2
  · rw [show o + j = o + j / 7 * 7 + 3 by omega]; exact c3
  · rw [show o + j = o + j / 7 * 7 + 4 by omega]; exact c4
  · rw [show o + j = o + j / 7 * 7 + 5 by omega]; exact c5
  · rw [show o + j = o + j / 7 * 7 + 6 by omega]; exact c6
theorem takes_doorsAt {w : World} {da : Option Addr} {dn dc : Nat} {ds : List Dr} (h : DoorsAt w da dn ds) : Takes w 4 (.slice da dn dc) dn (flatD ds) := by
  obtain ⟨rfl, h⟩ := h
  rcases h with rfl | ⟨b, o, rfl, _, hc⟩
  · cases da with
    | none => exact Or.inl ⟨rfl, rfl, dc, rfl⟩
    | some a => exact Or.inr ⟨rfl, by simp [flatD], a, dc, rfl, by simp [flatD]⟩
  · have := takes_doors hc 0 ds.length dc ds (fun i _ => by simp) rfl
    simpa using this
theorem takes_entriesAt {w : World} {ea : Option Addr} {en ec : Nat} {es : List En} (h : EntriesAt w ea en es) : Takes w 7 (.slice ea en ec) en (flatE es) := by
  obtain ⟨rfl, h⟩ := h
  rcases h with rfl | ⟨b, o, rfl, _, hc⟩
  · cases ea with
    | none => exact Or.inl ⟨rfl, rfl, ec, rfl⟩
    | some a => exact Or.inr ⟨rfl, by simp [flatE], a, ec, rfl, by simp [flatE]⟩
  · exact takes_entries hc ec
theorem own_empty (w : World) (t : TypeId) (size : Nat) : (w.alloc (.cells #[] t)).ownsRow w.heap.size t size (.slice (some ⟨w.heap.size, 0, none⟩) 0 0) 0 [] := World.ownsRow_made w #[] 0 (Nat.le_refl _) (by decide) (by simp)
theorem own_empty_at (w : World) (n : Nat) (hn : w.heap.size = n) (t : TypeId) (size : Nat) : (w.alloc (.cells #[] t)).ownsRow n t size (.slice (some ⟨n, 0, none⟩) 0 0) 0 [] := by
  subst hn; exact own_empty w t size
theorem cloneD_ret (da : Option Addr) (dn dc : Nat) (ds : List Dr) (w : World) (hD : DoorsAt w da dn ds) (hl : dn ≤ 1048576) :
    Calls Tryz.prog 133 #[.slice da dn dc] w fun e w' => ∃ v, e = .returned v ∧ w'.ownsRow w.heap.size 85 4 v dn (flatD ds) ∧ Below w.heap.size w w' := by
  have q : ∀ (w : World) (a : Option Addr) (n c n' c' : Nat), (binOp .eql 23 (.slice a n c) (.slice none n' c')).run Tryz.prog w = .ok (.bool a.isNone) w := fun w a n c n' c' => Lib.run_eql_slice_nil w _ _ a n c n' c' Tryz.underlying23
  obtain ⟨i0, hi0, hz0, hz1, hz2⟩ := info_parts infoDr
  have hBl := bl_alloc (bl_refl w) (.cells #[] 85)
  have hT : Hid (Takes _ 4 (.slice da dn dc) dn (flatD ds)) := takes_doorsAt (dc := dc) (hD.below hBl)
  cases da with
  | none =>
    have h0 : dn = 0 ∧ ds = [] := by
      obtain ⟨h1, h2⟩ := hD
      rcases h2 with rfl | ⟨b, o, hb, _⟩
      · exact ⟨h1, rfl⟩
      · cases hb
    obtain ⟨rfl, rfl⟩ := h0
    go_enter Tryz.func133, Tryz.ntmps133
    go_wp2
    go_ret
    exact ⟨_, rfl, World.ownsRow_nil _ _ _ _, bl_refl _⟩
  | some a =>
    go_enter Tryz.func133, Tryz.ntmps133
    go_wp2_with (at_builtin; refine wpList_append_any _ 7 rfl rfl _ _ 23 rfl w.heap.size 85 i0 (.agg #[.int .i64 0, .int .i64 0, .int .i64 0, .int .i64 0]) 4 32 Tryz.underlying23 hi0 hz0 hz1 hz2 rfl (by decide) _ _ _ rfl (own_empty w _ 4) _ _ _ rfl hT.out (by unfold maxLen; omega) (by omega) (by simp) ?_; intro v' w2 hown2 hgrow2)
    go_ret
    refine ⟨_, rfl, by simpa using hown2, hBl.grown hgrow2 (by simp) (fun k hk => by have := Option.some.inj (show some w.heap.size = some k from hk); omega)⟩
theorem cloneE_ret (da : Option Addr) (dn dc : Nat) (ds : List En) (w : World) (hD : EntriesAt w da dn ds) (hl : dn ≤ 1048576) :
    Calls Tryz.prog 134 #[.slice da dn dc] w fun e w' => ∃ v, e = .returned v ∧ w'.ownsRow w.heap.size 52 7 v dn (flatE ds) ∧ Below w.heap.size w w' := by
  have q : ∀ (w : World) (a : Option Addr) (n c n' c' : Nat), (binOp .eql 24 (.slice a n c) (.slice none n' c')).run Tryz.prog w = .ok (.bool a.isNone) w := fun w a n c n' c' => Lib.run_eql_slice_nil w _ _ a n c n' c' Tryz.underlying24
  obtain ⟨i0, hi0, hz0, hz1, hz2⟩ := info_parts infoEn
  have hBl := bl_alloc (bl_refl w) (.cells #[] 52)
  have hT : Hid (Takes _ 7 (.slice da dn dc) dn (flatE ds)) := takes_entriesAt (ec := dc) (hD.below hBl)
  cases da with
  | none =>
    have h0 : dn = 0 ∧ ds = [] := by
      obtain ⟨h1, h2⟩ := hD
      rcases h2 with rfl | ⟨b, o, hb, _⟩
      · exact ⟨h1, rfl⟩
      · cases hb
    obtain ⟨rfl, rfl⟩ := h0
    go_enter Tryz.func134, Tryz.ntmps134
    go_wp2
    go_ret
    exact ⟨_, rfl, World.ownsRow_nil _ _ _ _, bl_refl _⟩
  | some a =>
    go_enter Tryz.func134, Tryz.ntmps134
    go_wp2_with (at_builtin; refine wpList_append_any _ 7 rfl rfl _ _ 24 rfl w.heap.size 52 i0 (.agg #[.int .i64 0, .int .i64 0, .int .i64 0, .int .i64 0, .int .i64 0, .int .i64 0, .int .i64 0]) 7 56 Tryz.underlying24 hi0 hz0 hz1 hz2 rfl (by decide) _ _ _ rfl (own_empty w _ 7) _ _ _ rfl hT.out (by unfold maxLen; omega) (by omega) (by simp) ?_; intro v' w2 hown2 hgrow2)
    go_ret
    refine ⟨_, rfl, by simpa using hown2, hBl.grown hgrow2 (by simp) (fun k hk => by have := Option.some.inj (show some w.heap.size = some k from hk); omega)⟩

/-- A book's two lists, each in a row of its own that was made since block base, no row shared. -/
def OwnB (w : World) (base : Nat) (vd : Value) (ds : List Dr) (ve : Value) (es : List En) : Prop :=
  w.ownsRow base 85 4 vd ds.length (flatD ds) ∧ w.ownsRow base 52 7 ve es.length (flatE es) ∧ ∀ g, vd.ownBlock = some g → ve.ownBlock ≠ some g
theorem OwnB.below {w w' : World} {base : Nat} {vd ve : Value} {ds : List Dr} {es : List En} (h : OwnB w base vd ds ve es) (hb : Below w.heap.size w w') : OwnB w' base vd ds ve es := ⟨ownsRow_bl h.1 hb, ownsRow_bl h.2.1 hb, h.2.2⟩
theorem own_mono {w : World} {base base' size n : Nat} {e : TypeId} {v : Value} {xs : List Value} (h : w.ownsRow base e size v n xs) (hb : base' ≤ base) : w.ownsRow base' e size v n xs := by
  refine ⟨h.1, ?_⟩
  rcases h.2 with h | ⟨g, cap, cur, h1, h2, h3⟩
  · exact Or.inl h
  · exact Or.inr ⟨g, cap, cur, h1, by omega, h3⟩
theorem own_other {w : World} {base size n : Nat} {e : TypeId} {v : Value} {xs : List Value} (h : w.ownsRow base e size v n xs) {m j : Nat} (hm : m < base) (u : Value) : (w.setCell ⟨m, j, none⟩ u).ownsRow base e size v n xs := by
  refine ⟨h.1, ?_⟩
  rcases h.2 with h | ⟨g, cap, cur, h1, h2, h3, h4⟩
  · exact Or.inl h
  · exact Or.inr ⟨g, cap, cur, h1, h2, (Below.heap_setCell _ _ _ _ (by simp; omega)).trans h3, h4⟩
theorem own_other8 {w : World} {base size k : Nat} {t : TypeId} {v : Value} {xs : List Value} (hh : w.ownsRow base t size v k xs) {m : Nat} (hm : m < base) (a b c d e f g i : Value) : ((((((((w.setCell ⟨m, 0, none⟩ a).setCell ⟨m, 1, none⟩ b).setCell ⟨m, 2, none⟩ c).setCell ⟨m, 3, none⟩ d).setCell ⟨m, 4, none⟩ e).setCell ⟨m, 5, none⟩ f).setCell ⟨m, 6, none⟩ g).setCell ⟨m, 7, none⟩ i).ownsRow base t size v k xs :=
  own_other (own_other (own_other (own_other (own_other (own_other (own_other (own_other hh hm a) hm b) hm c) hm d) hm e) hm f) hm g) hm i
theorem bl_set8 {w0 w : World} (h : Below w0.heap.size w0 w) {n : Nat} (hn : w0.heap.size ≤ n) (a b c d e f g i : Value) : Below w0.heap.size w0 ((((((((w.setCell ⟨n, 0, none⟩ a).setCell ⟨n, 1, none⟩ b).setCell ⟨n, 2, none⟩ c).setCell ⟨n, 3, none⟩ d).setCell ⟨n, 4, none⟩ e).setCell ⟨n, 5, none⟩ f).setCell ⟨n, 6, none⟩ g).setCell ⟨n, 7, none⟩ i) :=
  bl_set (bl_set (bl_set (bl_set (bl_set (bl_set (bl_set (bl_set h hn a) hn b) hn c) hn d) hn e) hn f) hn g) hn i
theorem own_slice {w : World} {base size n : Nat} {e : TypeId} {v : Value} {xs : List Value} (h : w.ownsRow base e size v n xs) : ∃ a c, v = .slice a n c := by
  rcases h.2 with ⟨h, h0⟩ | ⟨g, cap, cur, h1, _⟩
  · exact ⟨none, 0, by rw [h, h0]⟩
  · exact ⟨_, cap, h1⟩

set_option maxRecDepth 20000 in
set_option maxHeartbeats 2000000 in
theorem natCopy_ret (ad ln ow lo hi nw : Int) (da : Option Addr) (dn dc : Nat) (ea : Option Addr) (en ec : Nat) (ds : List Dr) (es : List En) (w : World) (hD : DoorsAt w da dn ds) (hE : EntriesAt w ea en es) (hdl : dn ≤ 1048576) (hel : en ≤ 1048576) :
    Calls Tryz.prog 92 #[.agg #[.int .i64 ad, .int .i64 ln, .int .i64 ow, .int .i64 lo, .int .i64 hi, .slice da dn dc, .int .i64 nw, .slice ea en ec]] w fun e w' => ∃ va vc ua uc, e = .returned (.agg #[.int .i64 ad, .int .i64 ln, .int .i64 ow, .int .i64 lo, .int .i64 hi, .slice va dn vc, .int .i64 nw, .slice ua en uc]) ∧ OwnB w' w.heap.size (.slice va dn vc) ds (.slice ua en uc) es ∧ Below w.heap.size w w' := by
  have hb0 := bl_alloc (bl_alloc (bl_refl w) (.cells #[.int .i64 ad, .int .i64 ln, .int .i64 ow, .int .i64 lo, .int .i64 hi, .slice da dn dc, .int .i64 nw, .slice ea en ec] 26)) (.cells #[.int .i64 0, .int .i64 0, .int .i64 0, .int .i64 0, .int .i64 0, .slice none 0 0, .int .i64 0, .slice none 0 0] 26)
  have x1 := (Bx.new w #[.int .i64 ad, .int .i64 ln, .int .i64 ow, .int .i64 lo, .int .i64 hi, .slice da dn dc, .int .i64 nw, .slice ea en ec] 26).below (bl_alloc (bl_refl _) (.cells #[.int .i64 0, .int .i64 0, .int .i64 0, .int .i64 0, .int .i64 0, .slice none 0 0, .int .i64 0, .slice none 0 0] 26))
  have bx := Bx.new (w.alloc (.cells #[.int .i64 ad, .int .i64 ln, .int .i64 ow, .int .i64 lo, .int .i64 hi, .slice da dn dc, .int .i64 nw, .slice ea en ec] 26)) #[.int .i64 0, .int .i64 0, .int .i64 0, .int .i64 0, .int .i64 0, .slice none 0 0, .int .i64 0, .slice none 0 0] 26
  simp only [World.size_alloc] at bx
  have hdl' : Hid (dn = ds.length) := hD.1
  have hel' : Hid (en = es.length) := hE.1
  have H1 : Hid (Calls Tryz.prog _ _ _ _) := cloneD_ret da dn dc ds _ (hD.below hb0) hdl
  have HE : Hid (∀ W, Below w.heap.size w W → EntriesAt W ea en es) := fun W h => hE.below h
  clear hD hE
  go_enter Tryz.func92, Tryz.ntmps92
  go_wp2_with fail
  refine H1.out.mono ?_
  rintro e w1 ⟨v, rfl, hod, hb1⟩
  obtain ⟨va, vc, rfl⟩ := own_slice hod
  clear H1
  replace x1 := x1.below hb1
  replace bx := bx.below hb1
  have hB1 := bl_trans hb0 hb1
  have hz1 := hb1.size
  simp only [World.size_alloc] at hz1 hod
  have hodo := hod
  obtain ⟨⟨q1, q2⟩, q3⟩ := id x1
  replace x1 := x1.set (j := 5) (by simp) (.slice va dn vc)
  replace bx := bx.other (m := w.heap.size) (j := 5) (by omega) (.slice va dn vc)
  replace hod := own_other (m := w.heap.size) (j := 5) hod (by omega) (.slice va dn vc)
  have hB2 := bl_set (p := ⟨w.heap.size, 5, none⟩) hB1 (by simp) (.slice va dn vc)
  have H2 : Hid (Calls Tryz.prog _ _ _ _) := cloneE_ret ea en ec es _ (HE.out _ hB2) hel
  go_wp2_with fail
  refine H2.out.mono ?_
  rintro e w2 ⟨v, rfl, hoe, hb2⟩
  obtain ⟨ua, uc, rfl⟩ := own_slice hoe
  clear H2 q1 q2 q3
  have hz2 : (w1.setCell ⟨w.heap.size, 5, none⟩ (.slice va dn vc)).heap.size = w1.heap.size := by simp [World.setCell]
  replace x1 := x1.below hb2
  replace bx := bx.below hb2
  replace hod := ownsRow_bl hod hb2
  have hB3 := bl_trans hB2 hb2
  rw [hz2] at hoe
  have hdis : ∀ g, (Value.slice va dn vc).ownBlock = some g → (Value.slice ua en uc).ownBlock ≠ some g := by
    intro g h1 h2
    have h3 := (hoe.lt g h2).1
    have h4 := (hodo.lt g h1).2
    omega
  clear hb2 hodo
  obtain ⟨⟨q1, q2⟩, q3⟩ := id x1
  obtain ⟨⟨p1, p2⟩, p3⟩ := id bx
  have x2 := x1.set (j := 7) (by simp) (.slice ua en uc)
  have bx2 := bx.other (m := w.heap.size) (j := 7) (by omega) (.slice ua en uc)
  go_wp2_with fail
  have hbv := bx2.set8 (.int .i64 ad) (.int .i64 ln) (.int .i64 ow) (.int .i64 lo) (.int .i64 hi) (.slice va dn vc) (.int .i64 nw) (.slice ua en uc)
  obtain ⟨⟨t1, t2⟩, t3⟩ := id hbv
  refine bodyPost_ret (v := .agg #[.int .i64 ad, .int .i64 ln, .int .i64 ow, .int .i64 lo, .int .i64 hi, .slice va dn vc, .int .i64 nw, .slice ua en uc]) (by simp [results, Tryz.results92, go_sem, t2]) rfl ⟨va, vc, ua, uc, rfl, ⟨?_, ?_, hdis⟩, ?_⟩
  · rw [← hdl'.out]
    exact own_mono (own_other8 (own_other (m := w.heap.size) (j := 7) hod (by omega) (.slice ua en uc)) (m := w.heap.size + 1) (by omega) (.int .i64 ad) (.int .i64 ln) (.int .i64 ow) (.int .i64 lo) (.int .i64 hi) (.slice va dn vc) (.int .i64 nw) (.slice ua en uc)) (by omega)
  · rw [← hel'.out]
    exact own_mono (own_other8 (own_other (m := w.heap.size) (j := 7) hoe (by omega) (.slice ua en uc)) (m := w.heap.size + 1) (by omega) (.int .i64 ad) (.int .i64 ln) (.int .i64 ow) (.int .i64 lo) (.int .i64 hi) (.slice va dn vc) (.int .i64 nw) (.slice ua en uc)) (by omega)
  · exact bl_set8 (bl_set (p := ⟨w.heap.size, 7, none⟩) hB3 (by simp) (.slice ua en uc)) (n := w.heap.size + 1) (by omega) (.int .i64 ad) (.int .i64 ln) (.int .i64 ow) (.int .i64 lo) (.int .i64 hi) (.slice va dn vc) (.int .i64 nw) (.slice ua en uc)
end Go.Proofs.YtcgjpmhjijmplaaGreatDoor
