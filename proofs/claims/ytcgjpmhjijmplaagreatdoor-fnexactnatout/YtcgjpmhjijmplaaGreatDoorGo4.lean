/- The library's Insert over entries, walked. -/
import Derived.Test.YtcgjpmhjijmplaaGreatDoorGo3
import Derived.Test.YtcgjpmhjijmplaaGreatDoorJoinD
import Derived.Shelf.Spec.SlicesInsertGrow
namespace Go.Proofs.YtcgjpmhjijmplaaGreatDoor
open Go.ChangeShapes Go.WideShapes Go.ChangeAt Go.RowKit Go.Maps

/-- A list with an entry laid in at a place. -/
def insL (es : List En) (i : Nat) (d : En) : List En := es.take i ++ d :: es.drop i
theorem insL_length (es : List En) (i : Nat) (d : En) : (insL es i d).length = es.length + 1 := by
  unfold insL; rw [List.length_append, List.length_cons, List.length_take, List.length_drop]; omega
theorem flat_ins (es : List En) (i : Nat) (d : En) : flatE (insL es i d) = flatE (es.take i) ++ (enV d ++ flatE (es.drop i)) := by
  unfold insL; rw [flatE_append]; rfl
theorem en_flat {w : World} {g : Nat} {L : List En} (h : ∀ q u, (flatE L)[q]? = some u → w.cell? ⟨g, q, none⟩ = some u) : EnCells w g 0 L := by
  intro i d hi
  have k := fun j hj => flatE_at L i d hi j hj
  refine ⟨?_, ?_, ?_, ?_, ?_, ?_, ?_⟩
  · exact h _ _ (by rw [Nat.zero_add]; exact k 0 (by omega))
  · exact h _ _ (by rw [Nat.zero_add]; exact k 1 (by omega))
  · exact h _ _ (by rw [Nat.zero_add]; exact k 2 (by omega))
  · exact h _ _ (by rw [Nat.zero_add]; exact k 3 (by omega))
  · exact h _ _ (by rw [Nat.zero_add]; exact k 4 (by omega))
  · exact h _ _ (by rw [Nat.zero_add]; exact k 5 (by omega))
  · exact h _ _ (by rw [Nat.zero_add]; exact k 6 (by omega))
theorem flat_en {w : World} {g : Nat} {L : List En} (h : EnCells w g 0 L) : ∀ q u, (flatE L)[q]? = some u → w.cell? ⟨g, q, none⟩ = some u := by
  rcases takes_entries h 0 with ⟨h0, h1, _⟩ | ⟨_, _, a, c, he, hc⟩
  · intro q u hq; rw [h1] at hq; cases hq
  · injection he with e1 _ _
    injection e1 with e1
    subst e1
    intro q u hq
    have := hc q u hq
    rwa [addr_addD, Nat.zero_add] at this
theorem flat_drop (es : List En) (i q : Nat) (u : Value) (hi : i ≤ es.length) (hq : (flatE (es.drop i))[q]? = some u) : (flatE es)[i * 7 + q]? = some u := by
  have := flatE_append (es.take i) (es.drop i)
  rw [List.take_append_drop] at this
  rw [this, List.getElem?_append_right (by rw [flatE_length, List.length_take]; omega), flatE_length, List.length_take]
  rw [show i * 7 + q - min i es.length * 7 = q by rw [Nat.min_eq_left hi]; omega]; exact hq
theorem IsRow.shape {w : World} {g m : Nat} {e : TypeId} (h : IsRow w g e m) : w.shape? g = some (e, m) := by
  obtain ⟨cur, h1, h2⟩ := h
  simp [World.shape?, h1, h2]
theorem run_copyE (W : World) (ty : TypeId) (g o m dLen dCap : Nat) (a : Addr) (sLen sCap k : Nat) (cs : List Value) (hr : IsRow W g 52 m) (hk : Nat.min sLen dLen = k) (hl : cs.length = k * 7)
    (hsrc : ∀ j v, cs[j]? = some v → W.cell? (a.add j) = some v) (hm : o + k * 7 ≤ m) (h1 : ∀ v ∈ cs, v.oneCell' = true) :
    (Builtin.copy_ #[24, 24] ty #[.slice (some ⟨g, o, none⟩) dLen dCap, .slice (some a) sLen sCap]).run Tryz.prog W = .ok (goInt k) (W.setCells g o cs) := by
  have hL := run_loadCells_list (P := Tryz.prog) W a cs hsrc
  have hst := run_storeCells_cells (P := Tryz.prog) g o cs 0 W (fun j hj => by obtain ⟨v, hv⟩ := hr.cell (j := o + 0 + j) (by omega); rw [hv]; rfl) (fun j _ => hr.frozen _) h1
  obtain ⟨i0, hi0, hz0, hz1, hz2⟩ := info_parts infoEn
  rw [hl] at hL
  simp [Builtin.copy_, run_underlying Tryz.underlying24, Builtin.lenOf, Builtin.firstCells, sizeOf, typeInfo, hi0, hz1, hk, hL, hst]
theorem ins_cells {w : World} {g i m : Nat} {e : TypeId} {es : List En} {d : En} (hi : i ≤ es.length) (hr : IsRow w g e m) (hm : (es.length + 1) * 7 ≤ m) (h0 : EnCells w g 0 (es.take i)) :
    EnCells ((w.setCells g ((i + 1) * 7) (flatE (es.drop i))).setCells g (i * 7) (enV d)) g 0 (insL es i d) := by
  have hdl : (flatE (es.drop i)).length = (es.length - i) * 7 := by rw [flatE_length, List.length_drop]
  have hvl : (enV d).length = 7 := rfl
  have hr1 : IsRow (w.setCells g ((i + 1) * 7) (flatE (es.drop i))) g e m := setCells_row _ _ _ hr
  refine en_flat fun q u hq => ?_
  rw [flat_ins] at hq
  have htl : (flatE (es.take i)).length = i * 7 := by rw [flatE_length, List.length_take, Nat.min_eq_left hi]
  rcases Nat.lt_or_ge q (i * 7) with h | h
  · rw [List.getElem?_append_left (by omega)] at hq
    rw [World.cell?_setCells_out g _ _ _ _ (fun _ _ => Or.inl h), World.cell?_setCells_out g _ _ _ _ (fun _ _ => Or.inl (by show q < (i + 1) * 7; omega))]
    exact flat_en h0 q u hq
  · rw [List.getElem?_append_right (by omega), htl] at hq
    rcases Nat.lt_or_ge q (i * 7 + 7) with h2 | h2
    · rw [List.getElem?_append_left (by omega)] at hq
      have k := World.cell?_setCells_in g (enV d) (i * 7) (w.setCells g ((i + 1) * 7) (flatE (es.drop i))) (fun j hj => by obtain ⟨v, hv⟩ := hr1.cell (j := i * 7 + j) (by omega); rw [hv]; rfl) (q - i * 7) (by omega)
      rw [show i * 7 + (q - i * 7) = q by omega] at k
      rw [k, ← hq]; exact (List.getElem?_eq_getElem _).symm
    · rw [List.getElem?_append_right (by omega)] at hq
      have he : q - i * 7 - (enV d).length = q - (i + 1) * 7 := by rw [hvl]; omega
      rw [he] at hq
      have hlt := get_lt hq
      rw [World.cell?_setCells_out g _ _ _ _ (fun _ _ => Or.inr (by show i * 7 + 7 ≤ q; omega))]
      have k := World.cell?_setCells_in g (flatE (es.drop i)) ((i + 1) * 7) w (fun j hj => by obtain ⟨v, hv⟩ := hr.cell (j := (i + 1) * 7 + j) (by omega); rw [hv]; rfl) (q - (i + 1) * 7) (by omega)
      rw [show (i + 1) * 7 + (q - (i + 1) * 7) = q by omega] at k
      rw [k, ← hq]; exact (List.getElem?_eq_getElem _).symm

set_option maxHeartbeats 4000000 in
set_option maxRecDepth 100000 in
theorem insert_shift (g cap i vb : Nat) (es : List En) (d : En) (w : World) (hr : IsRow w g 52 (cap * 7)) (hroom : es.length + 1 ≤ cap) (hmx : cap ≤ maxLen) (hcs : EnCells w g 0 es) (hi : i < es.length) (hl : es.length ≤ 16)
    (hv : IsRow w vb 52 7) (hvs : ∀ j v, (enV d)[j]? = some v → w.cell? ⟨vb, j, none⟩ = some v) (hne : vb ≠ g) :
    Calls Tryz.prog 141 #[.slice (some ⟨g, 0, none⟩) es.length cap, .int .i64 i, .slice (some ⟨vb, 0, none⟩) 1 1] w fun e w' =>
      e = .returned (.slice (some ⟨g, 0, none⟩) (es.length + 1) cap) ∧ Apart g w w' ∧ IsRow w' g 52 (cap * 7) ∧ EnCells w' g 0 (insL es i d) := by
  obtain ⟨n, hn'⟩ : ∃ n, n = es.length := ⟨_, rfl⟩
  rw [← hn'] at hroom hi hl ⊢
  have hn : Hid (n = es.length) := hn'
  have mixed : Tryz.prog.follows Departure.mixedOrders = true := by kernel_rfl
  have hc63 : cap ≤ 9223372036854775807 := hmx
  have hz2 : ¬ ((i : Int) = (n : Int)) := by omega
  have hfa := hv.frozen 0
  have hfe := hv.frozen 7
  have hsa := hv.shape
  have hsb := hr.shape
  have hov : ∀ lb cb, (callFunc 168 #[.slice (some ⟨vb, 0, none⟩) 1 1, .slice (some ⟨g, (i + 1) * 7, none⟩) lb cb]).run Tryz.prog w = .ok (.value (.bool false)) w := fun lb cb => by
    rw [run_callFunc_extern Tryz.func168 (by kernel_rfl) (by kernel_rfl) (by kernel_rfl) (e := Extern.SlicesOverlaps.overlaps #[24, 24] #[4]) (by kernel_rfl),
      Lib.run_overlaps_apart w 24 4 52 Tryz.underlying24 7 (fun w => by kernel_rfl) ⟨vb, 0, none⟩ ⟨g, (i + 1) * 7, none⟩ 1 1 lb cb hne _ _ _ _ hsa hsb (by omega) hfa hfe]
    rfl
  have hw1 : IntKind.i64.wrap ((i : Int) + 1) = (i : Int) + 1 := by rw [IntKind.wrap_i64]; omega
  have hb1 : (0 : Int) ≤ (i : Int) + 1 := by omega
  have hin : i ≤ n := by omega
  have htn : ((i : Int) + 1).toNat = i + 1 := by omega
  have hb2 : ¬ (cap = i + 1) := by omega
  have hb3 : (i : Int) ≤ (n : Int) + 1 := by omega
  have hb4 : ¬ (cap = i) := by omega
  have hb5 : (i : Int) + 1 ≤ (n : Int) + 1 := by omega
  have hlq := bl_drew (bl_refl w)
  have hrd := hr.below hlq
  have hvd := hv.below hlq
  have hcd := hcs.below hlq hr.lt
  have hdl : (flatE (es.drop i)).length = (n - i) * 7 := by rw [flatE_length, List.length_drop, hn']
  have hcp1 : ∀ ty dc sc, (Builtin.copy_ #[24, 24] ty #[.slice (some ⟨g, (i + 1) * 7, none⟩) (n - i) dc, .slice (some ⟨g, i * 7, none⟩) (n + 1 - i) sc]).run Tryz.prog w.drew = .ok (goInt ((n - i : Nat) : Int)) (w.drew.setCells g ((i + 1) * 7) (flatE (es.drop i))) := fun ty dc sc =>
    run_copyE w.drew ty g ((i + 1) * 7) (cap * 7) (n - i) dc ⟨g, i * 7, none⟩ (n + 1 - i) sc (n - i) _ hrd (by simp only [Nat.min_def]; split <;> omega) hdl (fun j v hj => by rw [addr_addD]; exact flat_en hcd _ _ (flat_drop es i j v (by omega) hj)) (by omega) (flatE_one _)
  obtain ⟨W1, hW1⟩ : ∃ W1, W1 = w.drew.setCells g ((i + 1) * 7) (flatE (es.drop i)) := ⟨_, rfl⟩
  have hr1 : IsRow W1 g 52 (cap * 7) := by rw [hW1]; exact setCells_row _ _ _ hrd
  have hcp2 : ∀ ty dc, (Builtin.copy_ #[24, 24] ty #[.slice (some ⟨g, i * 7, none⟩) (n + 1 - i) dc, .slice (some ⟨vb, 0, none⟩) 1 1]).run Tryz.prog W1 = .ok (goInt 1) (W1.setCells g (i * 7) (enV d)) := fun ty dc =>
    run_copyE W1 ty g (i * 7) (cap * 7) (n + 1 - i) dc ⟨vb, 0, none⟩ 1 1 1 _ hr1 (by simp only [Nat.min_def]; split <;> omega) rfl (fun j v hj => by rw [addr_addD, Nat.zero_add, hW1, World.cell?_setCells_out g _ _ _ _ (fun h _ => absurd h hne)]; exact hvs j v hj) (by omega) (enV_one d)
  rw [← hW1] at hcp1
  replace hW1 : Hid (W1 = _) := hW1
  clear hn'
  go_enter Tryz.func141, Tryz.ntmps141
  go_upto_region 15 with (simp only [hov])
  go_region_law_o (refine step_copy_runI rfl _ _ 24 24 rfl _ _ (by simp [Act.eval, Act.put]) (by simp [Act.eval, Act.put]) (hcp1 _ _ _) ?_)
  go_wp2_with (at_builtin; refine wpList_copy_runI _ rfl _ _ 24 24 rfl _ _ rfl rfl (hcp2 _ _) ?_)
  go_ret
  refine ⟨rfl, ?_, ?_, ?_⟩
  · rw [hW1.out]; exact setCells_ap _ _ _ (setCells_ap _ _ _ (ap_of_bl (bl_drew (bl_refl _))))
  · rw [hW1.out]; exact setCells_row _ _ _ (setCells_row _ _ _ hrd)
  · rw [hW1.out]; exact ins_cells (by have := hn.out; omega) hrd (by have := hn.out; omega) (en_take hcd i)
theorem set_in {w : World} {g o m : Nat} {e : TypeId} {vs : List Value} (hr : IsRow w g e m) (hm : o + vs.length ≤ m) : ∀ j u, vs[j]? = some u → (w.setCells g o vs).cell? ⟨g, o + j, none⟩ = some u := fun j u hu => by
  have hlt := get_lt hu
  rw [World.cell?_setCells_in g vs o w (fun j hj => by obtain ⟨v, hv⟩ := hr.cell (j := o + j) (by omega); rw [hv]; rfl) j hlt, ← hu]
  exact (List.getElem?_eq_getElem _).symm
theorem set_out {w : World} {g o q : Nat} {vs : List Value} (h : q < o ∨ o + vs.length ≤ q) : (w.setCells g o vs).cell? ⟨g, q, none⟩ = w.cell? ⟨g, q, none⟩ := World.cell?_setCells_out g _ _ _ _ (fun _ _ => h)
theorem ins_of {w : World} {g i : Nat} {es : List En} {d : En} (hi : i ≤ es.length) (h0 : ∀ q u, (flatE (es.take i))[q]? = some u → w.cell? ⟨g, q, none⟩ = some u) (h1 : ∀ j u, (enV d)[j]? = some u → w.cell? ⟨g, i * 7 + j, none⟩ = some u) (h2 : ∀ j u, (flatE (es.drop i))[j]? = some u → w.cell? ⟨g, (i + 1) * 7 + j, none⟩ = some u) : EnCells w g 0 (insL es i d) := by
  have hvl : (enV d).length = 7 := rfl
  have htl : (flatE (es.take i)).length = i * 7 := by rw [flatE_length, List.length_take, Nat.min_eq_left hi]
  refine en_flat fun q u hq => ?_
  rw [flat_ins] at hq
  rcases Nat.lt_or_ge q (i * 7) with h | h
  · rw [List.getElem?_append_left (by omega)] at hq
    exact h0 q u hq
  · rw [List.getElem?_append_right (by omega), htl] at hq
    rcases Nat.lt_or_ge q (i * 7 + 7) with h3 | h3
    · rw [List.getElem?_append_left (by omega)] at hq
      have := h1 _ _ hq
      rwa [show i * 7 + (q - i * 7) = q by omega] at this
    · rw [List.getElem?_append_right (by omega)] at hq
      have := h2 _ _ hq
      rwa [show (i + 1) * 7 + (q - i * 7 - (enV d).length) = q by omega] at this
theorem IsRow.new (w : World) (C : Array Value) (t : TypeId) : IsRow (w.alloc (.cells C t)).drew w.heap.size t C.size := ⟨C, by show (w.heap.push (.cells C t))[w.heap.size]? = _; simp, rfl⟩
theorem setCells_bl {w0 : World} {g : Nat} (hg : w0.heap.size ≤ g) : ∀ (vs : List Value) (o : Nat) (w : World), Below w0.heap.size w0 w → Below w0.heap.size w0 (w.setCells g o vs)
  | [], _, _, h => h
  | _ :: vs, o, _, h => setCells_bl hg vs (o + 1) _ (bl_set h hg _)
theorem drew_cell (w : World) (a : Addr) : w.drew.cell? a = w.cell? a := rfl
theorem grow_two (w W1 : World) (N g vb i n G : Nat) (es : List En) (d : En) (hn : n = es.length) (hi : i < n) (hGn : n + 1 ≤ G) (hgl : g < w.heap.size) (hvl : vb < w.heap.size) (hN : N = w.heap.size) (hB1 : Below w.heap.size w W1) (hR1 : IsRow W1 N 52 (G * 7))
    (hW0 : ∀ q u, (flatE (es.take i))[q]? = some u → W1.cell? ⟨N, q, none⟩ = some u) (hc1 : EnCells W1 g 0 es) (hv1 : ∀ j v, (enV d)[j]? = some v → W1.cell? ⟨vb, j, none⟩ = some v) :
    ∃ W2 W3 : World, (∀ ty dc, (Builtin.copy_ #[24, 24] ty #[.slice (some ⟨N, i * 7, none⟩) (n + 1 - i) dc, .slice (some ⟨vb, 0, none⟩) 1 1]).run Tryz.prog W1 = .ok (goInt 1) W2) ∧
      (∀ ty dc sc, (Builtin.copy_ #[24, 24] ty #[.slice (some ⟨N, (i + 1) * 7, none⟩) (n - i) dc, .slice (some ⟨g, i * 7, none⟩) (n - i) sc]).run Tryz.prog W2.drew = .ok (goInt ((n - i : Nat) : Int)) W3) ∧
      Below w.heap.size w W3 ∧ IsRow W3 N 52 (G * 7) ∧ EnCells W3 N 0 (insL es i d) := by
  have hgN : g ≠ N := by omega
  have hvN : vb ≠ N := by omega
  have hel : (enV d).length = 7 := rfl
  have hdl : (flatE (es.drop i)).length = (n - i) * 7 := by rw [flatE_length, List.length_drop, hn]
  have htl : (flatE (es.take i)).length = i * 7 := by rw [flatE_length, List.length_take, ← hn, Nat.min_eq_left (by omega)]
  have hR2 : IsRow (W1.setCells N (i * 7) (enV d)) N 52 (G * 7) := setCells_row _ _ _ hR1
  have hR2d : IsRow (W1.setCells N (i * 7) (enV d)).drew N 52 (G * 7) := hR2.below (bl_drew (bl_refl _))
  refine ⟨W1.setCells N (i * 7) (enV d), (W1.setCells N (i * 7) (enV d)).drew.setCells N ((i + 1) * 7) (flatE (es.drop i)), fun ty dc => ?_, fun ty dc sc => ?_, ?_, setCells_row _ _ _ hR2d, ?_⟩
  · exact run_copyE W1 ty N (i * 7) (G * 7) (n + 1 - i) dc ⟨vb, 0, none⟩ 1 1 1 _ hR1 (by simp only [Nat.min_def]; split <;> omega) rfl (fun j v hj => by rw [addr_addD, Nat.zero_add]; exact hv1 j v hj) (by omega) (enV_one d)
  · refine run_copyE _ ty N ((i + 1) * 7) (G * 7) (n - i) dc ⟨g, i * 7, none⟩ (n - i) sc (n - i) _ hR2d (by simp only [Nat.min_def]; split <;> omega) hdl (fun j v hj => ?_) (by omega) (flatE_one _)
    rw [addr_addD]
    rw [drew_cell, World.cell?_setCells_out N _ _ _ _ (fun h _ => absurd h hgN)]
    exact flat_en hc1 _ _ (flat_drop es i j v (by omega) hj)
  · exact setCells_bl (by omega) _ _ _ (bl_drew (setCells_bl (by omega) _ _ _ hB1))
  · refine ins_of (by omega) (fun q u hq => ?_) (fun j u hj => ?_) (fun j u hj => ?_)
    · have hlt := get_lt hq
      rw [set_out (Or.inl (by omega))]
      rw [drew_cell, set_out (Or.inl (by omega))]
      exact hW0 q u hq
    · have hlt := get_lt hj
      rw [set_out (Or.inl (by omega)), drew_cell]
      exact set_in hR1 (by omega) j u hj
    · exact set_in hR2d (by omega) j u hj

set_option maxHeartbeats 4000000 in
set_option maxRecDepth 100000 in
theorem insert_grow (g cap i vb : Nat) (es : List En) (d : En) (w : World) (hr : IsRow w g 52 (cap * 7)) (hnc : es.length ≤ cap) (hroom : cap < es.length + 1) (hcs : EnCells w g 0 es) (hi : i < es.length) (hl : es.length ≤ 16)
    (hv : IsRow w vb 52 7) (hvs : ∀ j v, (enV d)[j]? = some v → w.cell? ⟨vb, j, none⟩ = some v) :
    Calls Tryz.prog 141 #[.slice (some ⟨g, 0, none⟩) es.length cap, .int .i64 i, .slice (some ⟨vb, 0, none⟩) 1 1] w fun e w' =>
      ∃ G, e = .returned (.slice (some ⟨w.heap.size, 0, none⟩) (es.length + 1) G) ∧ es.length + 1 ≤ G ∧ G ≤ maxLen ∧ Below w.heap.size w w' ∧ IsRow w' w.heap.size 52 (G * 7) ∧ EnCells w' w.heap.size 0 (insL es i d) := by
  obtain ⟨n, hn'⟩ : ∃ n, n = es.length := ⟨_, rfl⟩
  rw [← hn'] at hroom hi hl hnc ⊢
  have hn : Hid (n = es.length) := hn'
  have mixed : Tryz.prog.follows Departure.mixedOrders = true := by kernel_rfl
  have hgl := hr.lt
  have hvl := hv.lt
  obtain ⟨i0, hi0, hz0, hz1, hz2⟩ := info_parts infoEn
  have hkk : (n : Int) + 1 - (i : Int) = ((n + 1 - i : Nat) : Int) := by omega
  have hik : i + (n + 1 - i) = n + 1 := by omega
  have htl : (flatE (es.take i)).length = i * 7 := by rw [flatE_length, List.length_take, ← hn', Nat.min_eq_left (by omega)]
  have hdl : (flatE (es.drop i)).length = (n - i) * 7 := by rw [flatE_length, List.length_drop, hn']
  have hold : (Builtin.firstCells i0.size i (.slice (some ⟨g, 0, none⟩) i cap)).run Tryz.prog w.drew = .ok (flatE (es.take i)).toArray w.drew := by
    rw [hz1]
    exact run_firstCells_some w.drew 7 i ⟨g, 0, none⟩ i cap (flatE (es.take i)) (by omega) (fun j v hj => by
      rw [addr_addD, Nat.zero_add]
      exact flat_en (en_take hcs i) j v hj)
  obtain ⟨G, hG⟩ : ∃ G, G = grownCap w (n + 1) cap 52 := ⟨_, rfl⟩
  have hGn : n + 1 ≤ G := by rw [hG]; exact grownCap_ge w _ _ _
  have hGm : G ≤ maxLen := by rw [hG]; exact grownCap_le_maxLen w (n + 1) cap 52 (by unfold maxLen; omega)
  obtain ⟨ROW, hROW⟩ : ∃ ROW : Array Value, ROW = (flatE (es.take i)).toArray ++ Builtin.zeroCells zE (n + 1 - i) ++ Builtin.zeroCells zE (G - (n + 1)) := ⟨_, rfl⟩
  have hRs : ROW.size = G * 7 := by
    rw [hROW, Array.size_append, Array.size_append, ← Array.length_toList, ← Array.length_toList, ← Array.length_toList, zE_len, zE_len]
    show (flatE (es.take i)).length + _ + _ = _
    rw [htl]; omega
  have hrz : ∀ ty, (Builtin.append_ #[24, 3] ty #[.slice (some ⟨g, 0, none⟩) i cap, .int .i64 ((n : Int) + 1 - (i : Int))]).run Tryz.prog w = .ok (.slice (some ⟨w.heap.size, 0, none⟩) (n + 1) G) (w.drew.alloc (.cells ROW 52)) := fun ty => by
    have h := Lib.run_append_grow_zeros w 24 3 ty 52 i0 _ .i64 .i64 Tryz.underlying24 Tryz.underlying3 hi0 hz0 (some ⟨g, 0, none⟩) i cap (flatE (es.take i)) hold (n + 1 - i) (by omega) (by omega) (by omega) (by omega) (by rw [hz2]; omega) (by rw [hz2, hik]; exact growslice_fits hroom (by omega))
    rw [hik] at h
    rw [hkk, hROW, hG]
    exact h
  go_enter Tryz.func141, Tryz.ntmps141
  replace hROW : Hid (ROW = _) := hROW
  replace hG : Hid (G = _) := hG
  clear hn' hold hkk hik
  go_upto_region 10 with (at_builtin; refine Lib.wpList_append_run _ rfl _ _ _ _ rfl _ _ rfl rfl _ _ (hrz _) ?_)
  have hB1 : Below w.heap.size w (w.alloc (Obj.cells ROW 52)).drew := bl_drew (bl_alloc (bl_refl w) _)
  have hR1 : IsRow (w.alloc (Obj.cells ROW 52)).drew w.heap.size 52 (G * 7) := hRs ▸ IsRow.new w ROW _
  have hW0 : Hid (∀ q u, (flatE (es.take i))[q]? = some u → (w.alloc (Obj.cells ROW 52)).drew.cell? ⟨w.heap.size, q, none⟩ = some u) := fun q u hq => by
    show (w.alloc (Obj.cells ROW 52)).cell? _ = _
    have hlt := get_lt hq
    rw [new_cell, hROW.out, Array.getElem?_append_left (by rw [Array.size_append]; exact Nat.lt_of_lt_of_le hlt (Nat.le_add_right _ _)), Array.getElem?_append_left hlt, List.getElem?_toArray]
    exact hq
  have hc1 := hcs.below hB1 hgl
  have hv1 : ∀ j v, (enV d)[j]? = some v → (w.alloc (Obj.cells ROW 52)).drew.cell? ⟨vb, j, none⟩ = some v := fun j v hj => (hB1.cell (p := ⟨vb, j, none⟩) hvl).trans (hvs j v hj)
  generalize (w.alloc (Obj.cells ROW 52)).drew = W1 at *
  obtain ⟨W2, W3, hcpA, hcpB, hR⟩ := grow_two w W1 w.heap.size g vb i n G es d hn.out hi hGn hgl hvl rfl hB1 hR1 hW0.out hc1 hv1
  have hRes : Hid (Below w.heap.size w W3 ∧ IsRow W3 w.heap.size 52 (G * 7) ∧ EnCells W3 w.heap.size 0 (insL es i d)) := hR
  clear hc1 hv1 hR1 hW0 hB1 hR
  have hw1 : IntKind.i64.wrap ((i : Int) + 1) = (i : Int) + 1 := by rw [IntKind.wrap_i64]; omega
  have hb1 : (0 : Int) ≤ (i : Int) + 1 := by omega
  have hin : i ≤ n := by omega
  have htn : ((i : Int) + 1).toNat = i + 1 := by omega
  have hb3 : (i : Int) ≤ (n : Int) + 1 := by omega
  have hb4 : ¬ (G = i) := by omega
  have hb5 : ¬ (G = i + 1) := by omega
  have hb6 : ¬ (cap = i) := by omega
  have hG63 : G ≤ 9223372036854775807 := hGm
  go_upto_region 11 with (at_builtin; refine wpList_copy_runI _ rfl _ _ 24 24 rfl _ _ rfl rfl (hcpA _ _) ?_)
  go_region_law_o (refine step_copy_runI rfl _ _ 24 24 rfl _ _ (by simp [Act.eval, Act.put]) (by simp [Act.eval, Act.put]) (hcpB _ _ _) ?_)
  go_wp2_with fail
  go_ret
  exact ⟨G, rfl, hGn, hGm, hRes.out.1, hRes.out.2.1, hRes.out.2.2⟩

set_option maxHeartbeats 4000000 in
set_option maxRecDepth 100000 in
theorem insert_end (base : Nat) (ua : Option Addr) (uc n vb : Nat) (es : List En) (d : En) (w : World) (ho : w.ownsRow base 52 7 (.slice ua n uc) n (flatE es)) (hl : n ≤ 16) (hbase : base ≤ w.heap.size)
    (hvs : ∀ j v, (enV d)[j]? = some v → w.cell? ⟨vb, j, none⟩ = some v) :
    Calls Tryz.prog 141 #[.slice ua n uc, .int .i64 n, .slice (some ⟨vb, 0, none⟩) 1 1] w fun e w' =>
      ∃ v, e = .returned v ∧ w'.ownsRow base 52 7 v (n + 1) (flatE es ++ enV d) ∧ w.grownBy w' (Value.slice ua n uc).ownBlock ∧ (v.ownBlock = (Value.slice ua n uc).ownBlock ∨ v.ownBlock = some w.heap.size) := by
  obtain ⟨i0, hi0, hz0, hz1, hz2⟩ := info_parts infoEn
  obtain ⟨v', w', hr, h2, h3, _, h5⟩ := run_append_own_at (P := Tryz.prog) w base 24 24 52 i0 (.agg #[.int .i64 0, .int .i64 0, .int .i64 0, .int .i64 0, .int .i64 0, .int .i64 0, .int .i64 0]) 7 56 Tryz.underlying24 hi0 hz0 hz1 hz2 rfl (by decide) _ n _ ho ⟨vb, 0, none⟩ 1 1 (enV d) rfl (fun j u hu => by rw [addr_addD, Nat.zero_add]; exact hvs j u hu) (enV_one d) (by unfold maxLen; omega) (by omega) hbase
  have hO : Hid (w'.ownsRow base 52 7 v' (n + 1) (flatE es ++ enV d) ∧ w.grownBy w' (Value.slice ua n uc).ownBlock ∧ (v'.ownBlock = (Value.slice ua n uc).ownBlock ∨ v'.ownBlock = some w.heap.size)) := ⟨h2, h3, h5⟩
  clear hvs h2 h3 h5
  rcases ho.2 with ⟨he, rfl⟩ | ⟨g, cap, cur, he, hbg, hg, hnc, hcm, hcs, htake⟩
  · injection he with e1 e2 e3
    subst e1; subst e3
    clear ho
    go_enter Tryz.func141, Tryz.ntmps141
    go_wp2_with (at_builtin; refine Lib.wpList_append_run _ rfl _ _ _ _ rfl _ _ rfl rfl _ _ hr ?_)
    go_ret
    exact ⟨_, rfl, hO.out⟩
  · injection he with e1 e2 e3
    subst e1; subst e3
    clear ho htake hcs hg
    go_enter Tryz.func141, Tryz.ntmps141
    go_wp2_with (at_builtin; refine Lib.wpList_append_run _ rfl _ _ _ _ rfl _ _ rfl rfl _ _ hr ?_)
    all_goals (go_ret; exact ⟨_, rfl, hO.out⟩)
/-- Insert over a row of one's own: whatever way it takes. -/
theorem insert_own (base : Nat) (ua : Option Addr) (uc n i vb : Nat) (es : List En) (d : En) (w : World) (ho : w.ownsRow base 52 7 (.slice ua n uc) n (flatE es)) (hn : n = es.length) (hi : i ≤ n) (hl : n ≤ 16) (hbase : base ≤ w.heap.size)
    (hv : IsRow w vb 52 7) (hvs : ∀ j v, (enV d)[j]? = some v → w.cell? ⟨vb, j, none⟩ = some v) (hne : (Value.slice ua n uc).ownBlock ≠ some vb) :
    Calls Tryz.prog 141 #[.slice ua n uc, .int .i64 i, .slice (some ⟨vb, 0, none⟩) 1 1] w fun e w' =>
      ∃ v, e = .returned v ∧ w'.ownsRow base 52 7 v (n + 1) (flatE (insL es i d)) ∧ Far (Value.slice ua n uc).ownBlock w w' ∧ (v.ownBlock = (Value.slice ua n uc).ownBlock ∨ v.ownBlock = some w.heap.size) := by
  rcases Nat.lt_or_ge i n with h | h
  · have ho1 := ho
    rcases ho.2 with ⟨he, h0⟩ | ⟨g, cap, cur, he, hbg, hg, hnc, hcm, hcs, htake⟩
    · omega
    · injection he with e1 e2 e3
      subst e1; subst e3
      subst hn
      have hE := enCells_of_own ho1 rfl
      have hR : IsRow w g 52 (uc * 7) := ⟨cur, hg, hcs⟩
      have hvg : vb ≠ g := fun e => hne (by rw [e]; rfl)
      rcases Nat.lt_or_ge uc (es.length + 1) with hc | hc
      · refine (insert_grow g uc i vb es d w hR hnc hc hE h hl hv hvs).mono ?_
        rintro e w' ⟨G, rfl, hG1, hG2, hB, hR', hE'⟩
        have := own_of_row hR' hbase (by rw [insL_length]; exact hG1) hG2 hE'
        rw [insL_length] at this
        exact ⟨_, rfl, this, far_of_bl hB, Or.inr rfl⟩
      · refine (insert_shift g uc i vb es d w hR hc hcm hE h hl hv hvs hvg).mono ?_
        rintro e w' ⟨rfl, hA, hR', hE'⟩
        have := own_of_row hR' hbg (by rw [insL_length]; exact hc) hcm hE'
        rw [insL_length] at this
        exact ⟨_, rfl, this, far_of_ap hA, Or.inl rfl⟩
  · obtain rfl : i = n := by omega
    refine (insert_end base ua uc i vb es d w ho hl hbase hvs).mono ?_
    rintro e w' ⟨v, rfl, h1, h2, h3⟩
    refine ⟨v, rfl, ?_, ⟨h2.os, h2.tape, h2.output, h2.size, fun k hk hr => h2.block k hk (Ne.symm hr)⟩, h3⟩
    rw [flat_ins, hn, List.take_length, List.drop_length]
    rw [hn] at h1
    simpa [flatE] using h1
end Go.Proofs.YtcgjpmhjijmplaaGreatDoor
