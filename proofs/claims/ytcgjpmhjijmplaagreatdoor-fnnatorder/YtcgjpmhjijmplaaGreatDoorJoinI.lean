/- Joined: Go4, Go5, Go6. -/
import Derived.Test.YtcgjpmhjijmplaaGreatDoorGo3
import Derived.Test.YtcgjpmhjijmplaaGreatDoorJoinD
import Derived.Shelf.Spec.SlicesInsertGrow
import Derived.Test.YtcgjpmhjijmplaaGreatDoorJoinG
/- The library's Insert over entries, walked. -/
namespace Go.Proofs.YtcgjpmhjijmplaaGreatDoor
open Go.ChangeShapes Go.WideShapes Go.ChangeAt Go.RowKit Go.Maps

/-- A list with an entry laid in at a place. -/
def insL (es : List En) (i : Nat) (d : En) : List En := es.take i ++ d :: es.drop i
theorem insL_length (es : List En) (i : Nat) (d : En) : (insL es i d).length = es.length + 1 := by
  unfold insL; rw [List.length_append, List.length_cons, List.length_take, List.length_drop]; omega
theorem flat_ins (es : List En) (i : Nat) (d : En) : flatE (insL es i d) = flatE (es.take i) ++ (enV d ++ flatE (es.drop i)) := by
  unfold insL; rw [flatE_append]; rfl
theorem en_flat {w : World} {g : Nat} {L : List En} (h : ∀ q u, (flatE L)[q]? = some u → w.cell? ⟨g, q, none⟩ = some u) : EnCells w g 0 L := by
  intro i d hi
  have k := fun j hj => flatE_at L i d hi j hj
  refine ⟨?_, ?_, ?_, ?_, ?_, ?_, ?_⟩
  · exact h _ _ (by rw [Nat.zero_add]; exact k 0 (by omega))
  · exact h _ _ (by rw [Nat.zero_add]; exact k 1 (by omega))
  · exact h _ _ (by rw [Nat.zero_add]; exact k 2 (by omega))
  · exact h _ _ (by rw [Nat.zero_add]; exact k 3 (by omega))
  · exact h _ _ (by rw [Nat.zero_add]; exact k 4 (by omega))
  · exact h _ _ (by rw [Nat.zero_add]; exact k 5 (by omega))
  · exact h _ _ (by rw [Nat.zero_add]; exact k 6 (by omega))
theorem flat_en {w : World} {g : Nat} {L : List En} (h : EnCells w g 0 L) : ∀ q u, (flatE L)[q]? = some u → w.cell? ⟨g, q, none⟩ = some u := by
  rcases takes_entries h 0 with ⟨h0, h1, _⟩ | ⟨_, _, a, c, he, hc⟩
  · intro q u hq; rw [h1] at hq; cases hq
  · injection he with e1 _ _
    injection e1 with e1
    subst e1
    intro q u hq
    have := hc q u hq
    rwa [addr_addD, Nat.zero_add] at this
theorem flat_drop (es : List En) (i q : Nat) (u : Value) (hi : i ≤ es.length) (hq : (flatE (es.drop i))[q]? = some u) : (flatE es)[i * 7 + q]? = some u := by
  have := flatE_append (es.take i) (es.drop i)
  rw [List.take_append_drop] at this
  rw [this, List.getElem?_append_right (by rw [flatE_length, List.length_take]; omega), flatE_length, List.length_take]
  rw [show i * 7 + q - min i es.length * 7 = q by rw [Nat.min_eq_left hi]; omega]; exact hq
theorem IsRow.shape {w : World} {g m : Nat} {e : TypeId} (h : IsRow w g e m) : w.shape? g = some (e, m) := by
  obtain ⟨cur, h1, h2⟩ := h
  simp [World.shape?, h1, h2]
theorem run_copyE (W : World) (ty : TypeId) (g o m dLen dCap : Nat) (a : Addr) (sLen sCap k : Nat) (cs : List Value) (hr : IsRow W g 52 m) (hk : Nat.min sLen dLen = k) (hl : cs.length = k * 7)
    (hsrc : ∀ j v, cs[j]? = some v → W.cell? (a.add j) = some v) (hm : o + k * 7 ≤ m) (h1 : ∀ v ∈ cs, v.oneCell' = true) :
    (Builtin.copy_ #[24, 24] ty #[.slice (some ⟨g, o, none⟩) dLen dCap, .slice (some a) sLen sCap]).run Tryz.prog W = .ok (goInt k) (W.setCells g o cs) := by
  have hL := run_loadCells_list (P := Tryz.prog) W a cs hsrc
  have hst := run_storeCells_cells (P := Tryz.prog) g o cs 0 W (fun j hj => by obtain ⟨v, hv⟩ := hr.cell (j := o + 0 + j) (by omega); rw [hv]; rfl) (fun j _ => hr.frozen _) h1
  obtain ⟨i0, hi0, hz0, hz1, hz2⟩ := info_parts infoEn
  rw [hl] at hL
  simp [Builtin.copy_, run_underlying Tryz.underlying24, Builtin.lenOf, Builtin.firstCells, sizeOf, typeInfo, hi0, hz1, hk, hL, hst]
theorem ins_cells {w : World} {g i m : Nat} {e : TypeId} {es : List En} {d : En} (hi : i ≤ es.length) (hr : IsRow w g e m) (hm : (es.length + 1) * 7 ≤ m) (h0 : EnCells w g 0 (es.take i)) :
    EnCells ((w.setCells g ((i + 1) * 7) (flatE (es.drop i))).setCells g (i * 7) (enV d)) g 0 (insL es i d) := by
  have hdl : (flatE (es.drop i)).length = (es.length - i) * 7 := by rw [flatE_length, List.length_drop]
  have hvl : (enV d).length = 7 := rfl
  have hr1 : IsRow (w.setCells g ((i + 1) * 7) (flatE (es.drop i))) g e m := setCells_row _ _ _ hr
  refine en_flat fun q u hq => ?_
  rw [flat_ins] at hq
  have htl : (flatE (es.take i)).length = i * 7 := by rw [flatE_length, List.length_take, Nat.min_eq_left hi]
  rcases Nat.lt_or_ge q (i * 7) with h | h
  · rw [List.getElem?_append_left (by omega)] at hq
    rw [World.cell?_setCells_out g _ _ _ _ (fun _ _ => Or.inl h), World.cell?_setCells_out g _ _ _ _ (fun _ _ => Or.inl (by show q < (i + 1) * 7; omega))]
    exact flat_en h0 q u hq
  · rw [List.getElem?_append_right (by omega), htl] at hq
    rcases Nat.lt_or_ge q (i * 7 + 7) with h2 | h2
    · rw [List.getElem?_append_left (by omega)] at hq
      have k := World.cell?_setCells_in g (enV d) (i * 7) (w.setCells g ((i + 1) * 7) (flatE (es.drop i))) (fun j hj => by obtain ⟨v, hv⟩ := hr1.cell (j := i * 7 + j) (by omega); rw [hv]; rfl) (q - i * 7) (by omega)
      rw [show i * 7 + (q - i * 7) = q by omega] at k
      rw [k, ← hq]; exact (List.getElem?_eq_getElem _).symm
    · rw [List.getElem?_append_right (by omega)] at hq
      have he : q - i * 7 - (enV d).length = q - (i + 1) * 7 := by rw [hvl]; omega
      rw [he] at hq
      have hlt := get_lt hq
      rw [World.cell?_setCells_out g _ _ _ _ (fun _ _ => Or.inr (by show i * 7 + 7 ≤ q; omega))]
      have k := World.cell?_setCells_in g (flatE (es.drop i)) ((i + 1) * 7) w (fun j hj => by obtain ⟨v, hv⟩ := hr.cell (j := (i + 1) * 7 + j) (by omega); rw [hv]; rfl) (q - (i + 1) * 7) (by omega)
      rw [show (i + 1) * 7 + (q - (i + 1) * 7) = q by omega] at k
      rw [k, ← hq]; exact (List.getElem?_eq_getElem _).symm

set_option maxHeartbeats 4000000 in
set_option maxRecDepth 100000 in
theorem insert_shift (g cap i vb : Nat) (es : List En) (d : En) (w : World) (hr : IsRow w g 52 (cap * 7)) (hroom : es.length + 1 ≤ cap) (hmx : cap ≤ maxLen) (hcs : EnCells w g 0 es) (hi : i < es.length) (hl : es.length ≤ 16)
    (hv : IsRow w vb 52 7) (hvs : ∀ j v, (enV d)[j]? = some v → w.cell? ⟨vb, j, none⟩ = some v) (hne : vb ≠ g) :
    Calls Tryz.prog 141 #[.slice (some ⟨g, 0, none⟩) es.length cap, .int .i64 i, .slice (some ⟨vb, 0, none⟩) 1 1] w fun e w' =>
      e = .returned (.slice (some ⟨g, 0, none⟩) (es.length + 1) cap) ∧ Apart g w w' ∧ IsRow w' g 52 (cap * 7) ∧ EnCells w' g 0 (insL es i d) := by
  obtain ⟨n, hn'⟩ : ∃ n, n = es.length := ⟨_, rfl⟩
  rw [← hn'] at hroom hi hl ⊢
  have hn : Hid (n = es.length) := hn'
  have mixed : Tryz.prog.follows Departure.mixedOrders = true := by kernel_rfl
  have hc63 : cap ≤ 9223372036854775807 := hmx
  have hz2 : ¬ ((i : Int) = (n : Int)) := by omega
  have hfa := hv.frozen 0
  have hfe := hv.frozen 7
  have hsa := hv.shape
  have hsb := hr.shape
  have hov : ∀ lb cb, (callFunc 168 #[.slice (some ⟨vb, 0, none⟩) 1 1, .slice (some ⟨g, (i + 1) * 7, none⟩) lb cb]).run Tryz.prog w = .ok (.value (.bool false)) w := fun lb cb => by
    rw [run_callFunc_extern Tryz.func168 (by kernel_rfl) (by kernel_rfl) (by kernel_rfl) (e := Extern.SlicesOverlaps.overlaps #[24, 24] #[4]) (by kernel_rfl),
      Lib.run_overlaps_apart w 24 4 52 Tryz.underlying24 7 (fun w => by kernel_rfl) ⟨vb, 0, none⟩ ⟨g, (i + 1) * 7, none⟩ 1 1 lb cb hne _ _ _ _ hsa hsb (by omega) hfa hfe]
    rfl
  have hw1 : IntKind.i64.wrap ((i : Int) + 1) = (i : Int) + 1 := by rw [IntKind.wrap_i64]; omega
  have hb1 : (0 : Int) ≤ (i : Int) + 1 := by omega
  have hin : i ≤ n := by omega
  have htn : ((i : Int) + 1).toNat = i + 1 := by omega
  have hb2 : ¬ (cap = i + 1) := by omega
  have hb3 : (i : Int) ≤ (n : Int) + 1 := by omega
  have hb4 : ¬ (cap = i) := by omega
  have hb5 : (i : Int) + 1 ≤ (n : Int) + 1 := by omega
  have hlq := bl_drew (bl_refl w)
  have hrd := hr.below hlq
  have hvd := hv.below hlq
  have hcd := hcs.below hlq hr.lt
  have hdl : (flatE (es.drop i)).length = (n - i) * 7 := by rw [flatE_length, List.length_drop, hn']
  have hcp1 : ∀ ty dc sc, (Builtin.copy_ #[24, 24] ty #[.slice (some ⟨g, (i + 1) * 7, none⟩) (n - i) dc, .slice (some ⟨g, i * 7, none⟩) (n + 1 - i) sc]).run Tryz.prog w.drew = .ok (goInt ((n - i : Nat) : Int)) (w.drew.setCells g ((i + 1) * 7) (flatE (es.drop i))) := fun ty dc sc =>
    run_copyE w.drew ty g ((i + 1) * 7) (cap * 7) (n - i) dc ⟨g, i * 7, none⟩ (n + 1 - i) sc (n - i) _ hrd (by simp only [Nat.min_def]; split <;> omega) hdl (fun j v hj => by rw [addr_addD]; exact flat_en hcd _ _ (flat_drop es i j v (by omega) hj)) (by omega) (flatE_one _)
  obtain ⟨W1, hW1⟩ : ∃ W1, W1 = w.drew.setCells g ((i + 1) * 7) (flatE (es.drop i)) := ⟨_, rfl⟩
  have hr1 : IsRow W1 g 52 (cap * 7) := by rw [hW1]; exact setCells_row _ _ _ hrd
  have hcp2 : ∀ ty dc, (Builtin.copy_ #[24, 24] ty #[.slice (some ⟨g, i * 7, none⟩) (n + 1 - i) dc, .slice (some ⟨vb, 0, none⟩) 1 1]).run Tryz.prog W1 = .ok (goInt 1) (W1.setCells g (i * 7) (enV d)) := fun ty dc =>
    run_copyE W1 ty g (i * 7) (cap * 7) (n + 1 - i) dc ⟨vb, 0, none⟩ 1 1 1 _ hr1 (by simp only [Nat.min_def]; split <;> omega) rfl (fun j v hj => by rw [addr_addD, Nat.zero_add, hW1, World.cell?_setCells_out g _ _ _ _ (fun h _ => absurd h hne)]; exact hvs j v hj) (by omega) (enV_one d)
  rw [← hW1] at hcp1
  replace hW1 : Hid (W1 = _) := hW1
  clear hn'
  go_enter Tryz.func141, Tryz.ntmps141
  go_upto_region 15 with (simp only [hov])
  go_region_law_o (refine step_copy_runI rfl _ _ 24 24 rfl _ _ (by simp [Act.eval, Act.put]) (by simp [Act.eval, Act.put]) (hcp1 _ _ _) ?_)
  go_wp2_with (at_builtin; refine wpList_copy_runI _ rfl _ _ 24 24 rfl _ _ rfl rfl (hcp2 _ _) ?_)
  go_ret
  refine ⟨rfl, ?_, ?_, ?_⟩
  · rw [hW1.out]; exact setCells_ap _ _ _ (setCells_ap _ _ _ (ap_of_bl (bl_drew (bl_refl _))))
  · rw [hW1.out]; exact setCells_row _ _ _ (setCells_row _ _ _ hrd)
  · rw [hW1.out]; exact ins_cells (by have := hn.out; omega) hrd (by have := hn.out; omega) (en_take hcd i)
theorem set_in {w : World} {g o m : Nat} {e : TypeId} {vs : List Value} (hr : IsRow w g e m) (hm : o + vs.length ≤ m) : ∀ j u, vs[j]? = some u → (w.setCells g o vs).cell? ⟨g, o + j, none⟩ = some u := fun j u hu => by
  have hlt := get_lt hu
  rw [World.cell?_setCells_in g vs o w (fun j hj => by obtain ⟨v, hv⟩ := hr.cell (j := o + j) (by omega); rw [hv]; rfl) j hlt, ← hu]
  exact (List.getElem?_eq_getElem _).symm
theorem set_out {w : World} {g o q : Nat} {vs : List Value} (h : q < o ∨ o + vs.length ≤ q) : (w.setCells g o vs).cell? ⟨g, q, none⟩ = w.cell? ⟨g, q, none⟩ := World.cell?_setCells_out g _ _ _ _ (fun _ _ => h)
theorem ins_of {w : World} {g i : Nat} {es : List En} {d : En} (hi : i ≤ es.length) (h0 : ∀ q u, (flatE (es.take i))[q]? = some u → w.cell? ⟨g, q, none⟩ = some u) (h1 : ∀ j u, (enV d)[j]? = some u → w.cell? ⟨g, i * 7 + j, none⟩ = some u) (h2 : ∀ j u, (flatE (es.drop i))[j]? = some u → w.cell? ⟨g, (i + 1) * 7 + j, none⟩ = some u) : EnCells w g 0 (insL es i d) := by
  have hvl : (enV d).length = 7 := rfl
  have htl : (flatE (es.take i)).length = i * 7 := by rw [flatE_length, List.length_take, Nat.min_eq_left hi]
  refine en_flat fun q u hq => ?_
  rw [flat_ins] at hq
  rcases Nat.lt_or_ge q (i * 7) with h | h
  · rw [List.getElem?_append_left (by omega)] at hq
    exact h0 q u hq
  · rw [List.getElem?_append_right (by omega), htl] at hq
    rcases Nat.lt_or_ge q (i * 7 + 7) with h3 | h3
    · rw [List.getElem?_append_left (by omega)] at hq
      have := h1 _ _ hq
      rwa [show i * 7 + (q - i * 7) = q by omega] at this
    · rw [List.getElem?_append_right (by omega)] at hq
      have := h2 _ _ hq
      rwa [show (i + 1) * 7 + (q - i * 7 - (enV d).length) = q by omega] at this
theorem IsRow.new (w : World) (C : Array Value) (t : TypeId) : IsRow (w.alloc (.cells C t)).drew w.heap.size t C.size := ⟨C, by show (w.heap.push (.cells C t))[w.heap.size]? = _; simp, rfl⟩
theorem setCells_bl {w0 : World} {g : Nat} (hg : w0.heap.size ≤ g) : ∀ (vs : List Value) (o : Nat) (w : World), Below w0.heap.size w0 w → Below w0.heap.size w0 (w.setCells g o vs)
  | [], _, _, h => h
  | _ :: vs, o, _, h => setCells_bl hg vs (o + 1) _ (bl_set h hg _)
theorem drew_cell (w : World) (a : Addr) : w.drew.cell? a = w.cell? a := rfl
theorem grow_two (w W1 : World) (N g vb i n G : Nat) (es : List En) (d : En) (hn : n = es.length) (hi : i < n) (hGn : n + 1 ≤ G) (hgl : g < w.heap.size) (hvl : vb < w.heap.size) (hN : N = w.heap.size) (hB1 : Below w.heap.size w W1) (hR1 : IsRow W1 N 52 (G * 7))
    (hW0 : ∀ q u, (flatE (es.take i))[q]? = some u → W1.cell? ⟨N, q, none⟩ = some u) (hc1 : EnCells W1 g 0 es) (hv1 : ∀ j v, (enV d)[j]? = some v → W1.cell? ⟨vb, j, none⟩ = some v) :
    ∃ W2 W3 : World, (∀ ty dc, (Builtin.copy_ #[24, 24] ty #[.slice (some ⟨N, i * 7, none⟩) (n + 1 - i) dc, .slice (some ⟨vb, 0, none⟩) 1 1]).run Tryz.prog W1 = .ok (goInt 1) W2) ∧
      (∀ ty dc sc, (Builtin.copy_ #[24, 24] ty #[.slice (some ⟨N, (i + 1) * 7, none⟩) (n - i) dc, .slice (some ⟨g, i * 7, none⟩) (n - i) sc]).run Tryz.prog W2.drew = .ok (goInt ((n - i : Nat) : Int)) W3) ∧
      Below w.heap.size w W3 ∧ IsRow W3 N 52 (G * 7) ∧ EnCells W3 N 0 (insL es i d) := by
  have hgN : g ≠ N := by omega
  have hvN : vb ≠ N := by omega
  have hel : (enV d).length = 7 := rfl
  have hdl : (flatE (es.drop i)).length = (n - i) * 7 := by rw [flatE_length, List.length_drop, hn]
  have htl : (flatE (es.take i)).length = i * 7 := by rw [flatE_length, List.length_take, ← hn, Nat.min_eq_left (by omega)]
  have hR2 : IsRow (W1.setCells N (i * 7) (enV d)) N 52 (G * 7) := setCells_row _ _ _ hR1
  have hR2d : IsRow (W1.setCells N (i * 7) (enV d)).drew N 52 (G * 7) := hR2.below (bl_drew (bl_refl _))
  refine ⟨W1.setCells N (i * 7) (enV d), (W1.setCells N (i * 7) (enV d)).drew.setCells N ((i + 1) * 7) (flatE (es.drop i)), fun ty dc => ?_, fun ty dc sc => ?_, ?_, setCells_row _ _ _ hR2d, ?_⟩
  · exact run_copyE W1 ty N (i * 7) (G * 7) (n + 1 - i) dc ⟨vb, 0, none⟩ 1 1 1 _ hR1 (by simp only [Nat.min_def]; split <;> omega) rfl (fun j v hj => by rw [addr_addD, Nat.zero_add]; exact hv1 j v hj) (by omega) (enV_one d)
  · refine run_copyE _ ty N ((i + 1) * 7) (G * 7) (n - i) dc ⟨g, i * 7, none⟩ (n - i) sc (n - i) _ hR2d (by simp only [Nat.min_def]; split <;> omega) hdl (fun j v hj => ?_) (by omega) (flatE_one _)
    rw [addr_addD]
    rw [drew_cell, World.cell?_setCells_out N _ _ _ _ (fun h _ => absurd h hgN)]
    exact flat_en hc1 _ _ (flat_drop es i j v (by omega) hj)
  · exact setCells_bl (by omega) _ _ _ (bl_drew (setCells_bl (by omega) _ _ _ hB1))
  · refine ins_of (by omega) (fun q u hq => ?_) (fun j u hj => ?_) (fun j u hj => ?_)
    · have hlt := get_lt hq
      rw [set_out (Or.inl (by omega))]
      rw [drew_cell, set_out (Or.inl (by omega))]
      exact hW0 q u hq
    · have hlt := get_lt hj
      rw [set_out (Or.inl (by omega)), drew_cell]
      exact set_in hR1 (by omega) j u hj
    · exact set_in hR2d (by omega) j u hj

set_option maxHeartbeats 4000000 in
set_option maxRecDepth 100000 in
theorem insert_grow (g cap i vb : Nat) (es : List En) (d : En) (w : World) (hr : IsRow w g 52 (cap * 7)) (hnc : es.length ≤ cap) (hroom : cap < es.length + 1) (hcs : EnCells w g 0 es) (hi : i < es.length) (hl : es.length ≤ 16)
    (hv : IsRow w vb 52 7) (hvs : ∀ j v, (enV d)[j]? = some v → w.cell? ⟨vb, j, none⟩ = some v) :
    Calls Tryz.prog 141 #[.slice (some ⟨g, 0, none⟩) es.length cap, .int .i64 i, .slice (some ⟨vb, 0, none⟩) 1 1] w fun e w' =>
      ∃ G, e = .returned (.slice (some ⟨w.heap.size, 0, none⟩) (es.length + 1) G) ∧ es.length + 1 ≤ G ∧ G ≤ maxLen ∧ Below w.heap.size w w' ∧ IsRow w' w.heap.size 52 (G * 7) ∧ EnCells w' w.heap.size 0 (insL es i d) := by
  obtain ⟨n, hn'⟩ : ∃ n, n = es.length := ⟨_, rfl⟩
  rw [← hn'] at hroom hi hl hnc ⊢
  have hn : Hid (n = es.length) := hn'
  have mixed : Tryz.prog.follows Departure.mixedOrders = true := by kernel_rfl
  have hgl := hr.lt
  have hvl := hv.lt
  obtain ⟨i0, hi0, hz0, hz1, hz2⟩ := info_parts infoEn
  have hkk : (n : Int) + 1 - (i : Int) = ((n + 1 - i : Nat) : Int) := by omega
  have hik : i + (n + 1 - i) = n + 1 := by omega
  have htl : (flatE (es.take i)).length = i * 7 := by rw [flatE_length, List.length_take, ← hn', Nat.min_eq_left (by omega)]
  have hdl : (flatE (es.drop i)).length = (n - i) * 7 := by rw [flatE_length, List.length_drop, hn']
  have hold : (Builtin.firstCells i0.size i (.slice (some ⟨g, 0, none⟩) i cap)).run Tryz.prog w.drew = .ok (flatE (es.take i)).toArray w.drew := by
    rw [hz1]
    exact run_firstCells_some w.drew 7 i ⟨g, 0, none⟩ i cap (flatE (es.take i)) (by omega) (fun j v hj => by
      rw [addr_addD, Nat.zero_add]
      exact flat_en (en_take hcs i) j v hj)
  obtain ⟨G, hG⟩ : ∃ G, G = grownCap w (n + 1) cap 52 := ⟨_, rfl⟩
  have hGn : n + 1 ≤ G := by rw [hG]; exact grownCap_ge w _ _ _
  have hGm : G ≤ maxLen := by rw [hG]; exact grownCap_le_maxLen w (n + 1) cap 52 (by unfold maxLen; omega)
  obtain ⟨ROW, hROW⟩ : ∃ ROW : Array Value, ROW = (flatE (es.take i)).toArray ++ Builtin.zeroCells zE (n + 1 - i) ++ Builtin.zeroCells zE (G - (n + 1)) := ⟨_, rfl⟩
  have hRs : ROW.size = G * 7 := by
    rw [hROW, Array.size_append, Array.size_append, ← Array.length_toList, ← Array.length_toList, ← Array.length_toList, zE_len, zE_len]
    show (flatE (es.take i)).length + _ + _ = _
    rw [htl]; omega
  have hrz : ∀ ty, (Builtin.append_ #[24, 3] ty #[.slice (some ⟨g, 0, none⟩) i cap, .int .i64 ((n : Int) + 1 - (i : Int))]).run Tryz.prog w = .ok (.slice (some ⟨w.heap.size, 0, none⟩) (n + 1) G) (w.drew.alloc (.cells ROW 52)) := fun ty => by
    have h := Lib.run_append_grow_zeros w 24 3 ty 52 i0 _ .i64 .i64 Tryz.underlying24 Tryz.underlying3 hi0 hz0 (some ⟨g, 0, none⟩) i cap (flatE (es.take i)) hold (n + 1 - i) (by omega) (by omega) (by omega) (by omega) (by rw [hz2]; omega) (by rw [hz2, hik]; exact growslice_fits hroom (by omega))
    rw [hik] at h
    rw [hkk, hROW, hG]
    exact h
  go_enter Tryz.func141, Tryz.ntmps141
  replace hROW : Hid (ROW = _) := hROW
  replace hG : Hid (G = _) := hG
  clear hn' hold hkk hik
  go_upto_region 10 with (at_builtin; refine Lib.wpList_append_run _ rfl _ _ _ _ rfl _ _ rfl rfl _ _ (hrz _) ?_)
  have hB1 : Below w.heap.size w (w.alloc (Obj.cells ROW 52)).drew := bl_drew (bl_alloc (bl_refl w) _)
  have hR1 : IsRow (w.alloc (Obj.cells ROW 52)).drew w.heap.size 52 (G * 7) := hRs ▸ IsRow.new w ROW _
  have hW0 : Hid (∀ q u, (flatE (es.take i))[q]? = some u → (w.alloc (Obj.cells ROW 52)).drew.cell? ⟨w.heap.size, q, none⟩ = some u) := fun q u hq => by
    show (w.alloc (Obj.cells ROW 52)).cell? _ = _
    have hlt := get_lt hq
    rw [new_cell, hROW.out, Array.getElem?_append_left (by rw [Array.size_append]; exact Nat.lt_of_lt_of_le hlt (Nat.le_add_right _ _)), Array.getElem?_append_left hlt, List.getElem?_toArray]
    exact hq
  have hc1 := hcs.below hB1 hgl
  have hv1 : ∀ j v, (enV d)[j]? = some v → (w.alloc (Obj.cells ROW 52)).drew.cell? ⟨vb, j, none⟩ = some v := fun j v hj => (hB1.cell (p := ⟨vb, j, none⟩) hvl).trans (hvs j v hj)
  generalize (w.alloc (Obj.cells ROW 52)).drew = W1 at *
  obtain ⟨W2, W3, hcpA, hcpB, hR⟩ := grow_two w W1 w.heap.size g vb i n G es d hn.out hi hGn hgl hvl rfl hB1 hR1 hW0.out hc1 hv1
  have hRes : Hid (Below w.heap.size w W3 ∧ IsRow W3 w.heap.size 52 (G * 7) ∧ EnCells W3 w.heap.size 0 (insL es i d)) := hR
  clear hc1 hv1 hR1 hW0 hB1 hR
  have hw1 : IntKind.i64.wrap ((i : Int) + 1) = (i : Int) + 1 := by rw [IntKind.wrap_i64]; omega
  have hb1 : (0 : Int) ≤ (i : Int) + 1 := by omega
  have hin : i ≤ n := by omega
  have htn : ((i : Int) + 1).toNat = i + 1 := by omega
  have hb3 : (i : Int) ≤ (n : Int) + 1 := by omega
  have hb4 : ¬ (G = i) := by omega
  have hb5 : ¬ (G = i + 1) := by omega
  have hb6 : ¬ (cap = i) := by omega
  have hG63 : G ≤ 9223372036854775807 := hGm
  go_upto_region 11 with (at_builtin; refine wpList_copy_runI _ rfl _ _ 24 24 rfl _ _ rfl rfl (hcpA _ _) ?_)
  go_region_law_o (refine step_copy_runI rfl _ _ 24 24 rfl _ _ (by simp [Act.eval, Act.put]) (by simp [Act.eval, Act.put]) (hcpB _ _ _) ?_)
  go_wp2_with fail
  go_ret
  exact ⟨G, rfl, hGn, hGm, hRes.out.1, hRes.out.2.1, hRes.out.2.2⟩

set_option maxHeartbeats 4000000 in
set_option maxRecDepth 100000 in
theorem insert_end (base : Nat) (ua : Option Addr) (uc n vb : Nat) (es : List En) (d : En) (w : World) (ho : w.ownsRow base 52 7 (.slice ua n uc) n (flatE es)) (hl : n ≤ 16) (hbase : base ≤ w.heap.size)
    (hvs : ∀ j v, (enV d)[j]? = some v → w.cell? ⟨vb, j, none⟩ = some v) :
    Calls Tryz.prog 141 #[.slice ua n uc, .int .i64 n, .slice (some ⟨vb, 0, none⟩) 1 1] w fun e w' =>
      ∃ v, e = .returned v ∧ w'.ownsRow base 52 7 v (n + 1) (flatE es ++ enV d) ∧ w.grownBy w' (Value.slice ua n uc).ownBlock ∧ (v.ownBlock = (Value.slice ua n uc).ownBlock ∨ v.ownBlock = some w.heap.size) := by
  obtain ⟨i0, hi0, hz0, hz1, hz2⟩ := info_parts infoEn
  obtain ⟨v', w', hr, h2, h3, _, h5⟩ := run_append_own_at (P := Tryz.prog) w base 24 24 52 i0 (.agg #[.int .i64 0, .int .i64 0, .int .i64 0, .int .i64 0, .int .i64 0, .int .i64 0, .int .i64 0]) 7 56 Tryz.underlying24 hi0 hz0 hz1 hz2 rfl (by decide) _ n _ ho ⟨vb, 0, none⟩ 1 1 (enV d) rfl (fun j u hu => by rw [addr_addD, Nat.zero_add]; exact hvs j u hu) (enV_one d) (by unfold maxLen; omega) (by omega) hbase
  have hO : Hid (w'.ownsRow base 52 7 v' (n + 1) (flatE es ++ enV d) ∧ w.grownBy w' (Value.slice ua n uc).ownBlock ∧ (v'.ownBlock = (Value.slice ua n uc).ownBlock ∨ v'.ownBlock = some w.heap.size)) := ⟨h2, h3, h5⟩
  clear hvs h2 h3 h5
  rcases ho.2 with ⟨he, rfl⟩ | ⟨g, cap, cur, he, hbg, hg, hnc, hcm, hcs, htake⟩
  · injection he with e1 e2 e3
    subst e1; subst e3
    clear ho
    go_enter Tryz.func141, Tryz.ntmps141
    go_wp2_with (at_builtin; refine Lib.wpList_append_run _ rfl _ _ _ _ rfl _ _ rfl rfl _ _ hr ?_)
    go_ret
    exact ⟨_, rfl, hO.out⟩
  · injection he with e1 e2 e3
    subst e1; subst e3
    clear ho htake hcs hg
    go_enter Tryz.func141, Tryz.ntmps141
    go_wp2_with (at_builtin; refine Lib.wpList_append_run _ rfl _ _ _ _ rfl _ _ rfl rfl _ _ hr ?_)
    all_goals (go_ret; exact ⟨_, rfl, hO.out⟩)
/-- Insert over a row of one's own: whatever way it takes. -/
theorem insert_own (base : Nat) (ua : Option Addr) (uc n i vb : Nat) (es : List En) (d : En) (w : World) (ho : w.ownsRow base 52 7 (.slice ua n uc) n (flatE es)) (hn : n = es.length) (hi : i ≤ n) (hl : n ≤ 16) (hbase : base ≤ w.heap.size)
    (hv : IsRow w vb 52 7) (hvs : ∀ j v, (enV d)[j]? = some v → w.cell? ⟨vb, j, none⟩ = some v) (hne : (Value.slice ua n uc).ownBlock ≠ some vb) :
    Calls Tryz.prog 141 #[.slice ua n uc, .int .i64 i, .slice (some ⟨vb, 0, none⟩) 1 1] w fun e w' =>
      ∃ v, e = .returned v ∧ w'.ownsRow base 52 7 v (n + 1) (flatE (insL es i d)) ∧ Far (Value.slice ua n uc).ownBlock w w' ∧ (v.ownBlock = (Value.slice ua n uc).ownBlock ∨ v.ownBlock = some w.heap.size) := by
  rcases Nat.lt_or_ge i n with h | h
  · have ho1 := ho
    rcases ho.2 with ⟨he, h0⟩ | ⟨g, cap, cur, he, hbg, hg, hnc, hcm, hcs, htake⟩
    · omega
    · injection he with e1 e2 e3
      subst e1; subst e3
      subst hn
      have hE := enCells_of_own ho1 rfl
      have hR : IsRow w g 52 (uc * 7) := ⟨cur, hg, hcs⟩
      have hvg : vb ≠ g := fun e => hne (by rw [e]; rfl)
      rcases Nat.lt_or_ge uc (es.length + 1) with hc | hc
      · refine (insert_grow g uc i vb es d w hR hnc hc hE h hl hv hvs).mono ?_
        rintro e w' ⟨G, rfl, hG1, hG2, hB, hR', hE'⟩
        have := own_of_row hR' hbase (by rw [insL_length]; exact hG1) hG2 hE'
        rw [insL_length] at this
        exact ⟨_, rfl, this, far_of_bl hB, Or.inr rfl⟩
      · refine (insert_shift g uc i vb es d w hR hc hcm hE h hl hv hvs hvg).mono ?_
        rintro e w' ⟨rfl, hA, hR', hE'⟩
        have := own_of_row hR' hbg (by rw [insL_length]; exact hc) hcm hE'
        rw [insL_length] at this
        exact ⟨_, rfl, this, far_of_ap hA, Or.inl rfl⟩
  · obtain rfl : i = n := by omega
    refine (insert_end base ua uc i vb es d w ho hl hbase hvs).mono ?_
    rintro e w' ⟨v, rfl, h1, h2, h3⟩
    refine ⟨v, rfl, ?_, ⟨h2.os, h2.tape, h2.output, h2.size, fun k hk hr => h2.block k hk (Ne.symm hr)⟩, h3⟩
    rw [flat_ins, hn, List.take_length, List.drop_length]
    rw [hn] at h1
    simpa [flatE] using h1
end Go.Proofs.YtcgjpmhjijmplaaGreatDoor

/- The program's natWithEntry, walked. -/
namespace Go.Proofs.YtcgjpmhjijmplaaGreatDoor
open Go.ChangeShapes Go.WideShapes Go.ChangeAt Go.RowKit Go.Maps

theorem IsRow.made (w : World) (C : Array Value) (t : TypeId) : IsRow (w.alloc (.cells C t)) w.heap.size t C.size := ⟨C, by show (w.heap.push (.cells C t))[w.heap.size]? = _; simp, rfl⟩
/-- The search over a row of one's own. -/
theorem search_own (base : Nat) (ua : Option Addr) (uc n : Nat) (es : List En) (d : En) (w : World) (ho : w.ownsRow base 52 7 (.slice ua n uc) n (flatE es)) (hn : n = es.length) (hl : n ≤ 17) (hs : es.Pairwise (fun e d => lessE e d = true)) :
    Calls Tryz.prog 139 #[.slice ua n uc, .agg #[.int .i64 d.k, .int .i64 d.pr, .int .i64 d.pp, .int .i64 d.o, .int .i64 d.i, .int .i64 d.ip, .int .i64 d.l], .func (.func 140) #[] #[]] w fun e w' => Searched es d e ∧ Below w.heap.size w w' := by
  have ho1 := ho
  rcases ho.2 with ⟨he, h0⟩ | ⟨g, cap, cur, he, hbg, hg, hnc, hcm, hcs, htake⟩
  · injection he with e1 e2 e3
    subst e1; subst e3
    obtain rfl : es = [] := List.length_eq_zero_iff.1 (by omega)
    subst h0
    exact search_nil none 0 d w
  · injection he with e1 e2 e3
    subst e1; subst e3; subst hn
    exact search_some g 0 es uc d w (ho1.lt g rfl).2 (enCells_of_own ho1 rfl) hl hs
/-- The list with an entry laid in: over the one that stands there, or between. -/
def putL (es : List En) (d : En) (i : Nat) (f : Bool) : List En := if f then es.set i d else insL es i d
theorem en_over {w : World} {g m i : Nat} {e : TypeId} {L : List En} {d : En} (h : EnCells w g 0 L) (hr : IsRow w g e m) (hm : L.length * 7 ≤ m) (hi : i < L.length) : EnCells (put7 w g (i * 7) d) g 0 (L.set i d) := by
  intro j x hj
  rw [List.getElem?_set] at hj
  by_cases hij : i = j
  · subst hij
    simp [hi] at hj
    subst hj
    have k := put7_in (p := i * 7) (d := d) hr (by omega)
    exact ⟨by simpa [enV] using k 0 (by omega), by simpa [enV] using k 1 (by omega), by simpa [enV] using k 2 (by omega), by simpa [enV] using k 3 (by omega), by simpa [enV] using k 4 (by omega), by simpa [enV] using k 5 (by omega), by simpa [enV] using k 6 (by omega)⟩
  · simp only [hij, if_false] at hj
    obtain ⟨c0, c1, c2, c3, c4, c5, c6⟩ := h j x hj
    refine ⟨?_, ?_, ?_, ?_, ?_, ?_, ?_⟩ <;> (rw [put7_out (by omega)]; assumption)
theorem bx_put7 {w : World} {n g p : Nat} {C : Array Value} {d : En} (h : Bx w n C) (hn : n ≠ g) : Bx (put7 w g p d) n C :=
  ((((((h.other hn _).other hn _).other hn _).other hn _).other hn _).other hn _).other hn _
theorem own_put7 {w : World} {base size n g p : Nat} {e : TypeId} {v : Value} {xs : List Value} {d : En} (h : w.ownsRow base e size v n xs) (hm : ∀ k, v.ownBlock = some k → k ≠ g) : (put7 w g p d).ownsRow base e size v n xs :=
  own_ne (own_ne (own_ne (own_ne (own_ne (own_ne (own_ne h hm _) hm _) hm _) hm _) hm _) hm _) hm _
theorem bl_put7 {w0 w : World} {g p : Nat} {d : En} (h : Below w0.heap.size w0 w) (hg : w0.heap.size ≤ g) : Below w0.heap.size w0 (put7 w g p d) :=
  bl_set (bl_set (bl_set (bl_set (bl_set (bl_set (bl_set h hg _) hg _) hg _) hg _) hg _) hg _) hg _
set_option maxRecDepth 20000 in
set_option maxHeartbeats 4000000 in
theorem withEntry_ret (ad ln ow lo hi nw : Int) (da : Option Addr) (dn dc : Nat) (ea : Option Addr) (en ec : Nat) (d : En) (ds : List Dr) (es : List En) (w : World) (hD : DoorsAt w da dn ds) (hE : EntriesAt w ea en es) (hdn : dn ≤ 6) (hen : en ≤ 16) (hs : es.Pairwise (fun e d => lessE e d = true)) :
    Calls Tryz.prog 101 #[.agg #[.int .i64 ad, .int .i64 ln, .int .i64 ow, .int .i64 lo, .int .i64 hi, .slice da dn dc, .int .i64 nw, .slice ea en ec], .agg #[.int .i64 d.k, .int .i64 d.pr, .int .i64 d.pp, .int .i64 d.o, .int .i64 d.i, .int .i64 d.ip, .int .i64 d.l]] w fun e w' => ∃ va vc ua uc i f, SearchAt es d i ∧ (f = true ↔ ∃ y, es[i]? = some y ∧ sameK y d) ∧ e = .returned (.agg #[.int .i64 ad, .int .i64 ln, .int .i64 ow, .int .i64 lo, .int .i64 hi, .slice va dn vc, .int .i64 nw, .slice ua (putL es d i f).length uc]) ∧ OwnB w' w.heap.size (.slice va dn vc) ds (.slice ua (putL es d i f).length uc) (putL es d i f) ∧ Below w.heap.size w w' := by
  have hb0 := bl_alloc (bl_alloc (bl_alloc (bl_refl w) (.cells #[.int .i64 ad, .int .i64 ln, .int .i64 ow, .int .i64 lo, .int .i64 hi, .slice da dn dc, .int .i64 nw, .slice ea en ec] 26)) (.cells #[.int .i64 d.k, .int .i64 d.pr, .int .i64 d.pp, .int .i64 d.o, .int .i64 d.i, .int .i64 d.ip, .int .i64 d.l] 52)) (.cells #[.int .i64 0, .int .i64 0, .int .i64 0, .int .i64 0, .int .i64 0, .slice none 0 0, .int .i64 0, .slice none 0 0] 26)
  have x1 := ((Box.new w #[.int .i64 ad, .int .i64 ln, .int .i64 ow, .int .i64 lo, .int .i64 hi, .slice da dn dc, .int .i64 nw, .slice ea en ec] 26).below (bl_alloc (bl_refl _) (.cells #[.int .i64 d.k, .int .i64 d.pr, .int .i64 d.pp, .int .i64 d.o, .int .i64 d.i, .int .i64 d.ip, .int .i64 d.l] 52))).below (bl_alloc (bl_refl _) (.cells #[.int .i64 0, .int .i64 0, .int .i64 0, .int .i64 0, .int .i64 0, .slice none 0 0, .int .i64 0, .slice none 0 0] 26))
  have x2 := (Box.new (w.alloc (.cells #[.int .i64 ad, .int .i64 ln, .int .i64 ow, .int .i64 lo, .int .i64 hi, .slice da dn dc, .int .i64 nw, .slice ea en ec] 26)) #[.int .i64 d.k, .int .i64 d.pr, .int .i64 d.pp, .int .i64 d.o, .int .i64 d.i, .int .i64 d.ip, .int .i64 d.l] 52).below (bl_alloc (bl_refl _) (.cells #[.int .i64 0, .int .i64 0, .int .i64 0, .int .i64 0, .int .i64 0, .slice none 0 0, .int .i64 0, .slice none 0 0] 26))
  have bx := Bx.new ((w.alloc (.cells #[.int .i64 ad, .int .i64 ln, .int .i64 ow, .int .i64 lo, .int .i64 hi, .slice da dn dc, .int .i64 nw, .slice ea en ec] 26)).alloc (.cells #[.int .i64 d.k, .int .i64 d.pr, .int .i64 d.pp, .int .i64 d.o, .int .i64 d.i, .int .i64 d.ip, .int .i64 d.l] 52)) #[.int .i64 0, .int .i64 0, .int .i64 0, .int .i64 0, .int .i64 0, .slice none 0 0, .int .i64 0, .slice none 0 0] 26
  simp only [World.size_alloc] at bx x2
  have H1 : Hid (Calls Tryz.prog _ _ _ _) := natCopy_ret ad ln ow lo hi nw da dn dc ea en ec ds es _ (hD.below hb0) (hE.below hb0) (by omega) (by omega)
  have hdl' : Hid (dn = ds.length) := hD.1
  have hel' : Hid (en = es.length) := hE.1
  replace hs : Hid (es.Pairwise (fun e d => lessE e d = true)) := hs
  clear hD hE
  go_enter Tryz.func101, Tryz.ntmps101
  go_wp2_with fail
  refine H1.out.mono ?_
  rintro e w1 ⟨va, vc, ua, uc, rfl, hO, hb1⟩
  have hB1 := bl_trans hb0 hb1
  replace x1 := x1.below hb1
  replace x2 := x2.below hb1
  replace bx := bx.below hb1
  have hs0 := hb1.size
  simp only [World.size_alloc] at hs0
  clear H1
  have x4 := Bx.new w1 #[.int .i64 ad, .int .i64 ln, .int .i64 ow, .int .i64 lo, .int .i64 hi, .slice va dn vc, .int .i64 nw, .slice ua en uc] 26
  have hBl := bl_alloc (bl_refl w1) (.cells #[.int .i64 ad, .int .i64 ln, .int .i64 ow, .int .i64 lo, .int .i64 hi, .slice va dn vc, .int .i64 nw, .slice ua en uc] 26)
  have hB2 := bl_trans hB1 hBl
  replace x1 := x1.below hBl
  replace x2 := x2.below hBl
  replace bx := bx.below hBl
  have hOl := hO
  replace hO := hO.below hBl
  go_upto_region 2 with fail
  generalize hnx : w1.heap.size = nx at *
  generalize w1.alloc (.cells #[.int .i64 ad, .int .i64 ln, .int .i64 ow, .int .i64 lo, .int .i64 hi, .slice va dn vc, .int .i64 nw, .slice ua en uc] 26) = W2 at *
  have hOd := own_mono hO.1 (show w.heap.size + 3 ≤ ((((w.alloc (.cells #[.int .i64 ad, .int .i64 ln, .int .i64 ow, .int .i64 lo, .int .i64 hi, .slice da dn dc, .int .i64 nw, .slice ea en ec] 26)).alloc (.cells #[.int .i64 d.k, .int .i64 d.pr, .int .i64 d.pp, .int .i64 d.o, .int .i64 d.i, .int .i64 d.ip, .int .i64 d.l] 52)).alloc (.cells #[.int .i64 0, .int .i64 0, .int .i64 0, .int .i64 0, .int .i64 0, .slice none 0 0, .int .i64 0, .slice none 0 0] 26))).heap.size by simp only [World.size_alloc]; omega)
  have hOe := own_mono hO.2.1 (show w.heap.size + 3 ≤ ((((w.alloc (.cells #[.int .i64 ad, .int .i64 ln, .int .i64 ow, .int .i64 lo, .int .i64 hi, .slice da dn dc, .int .i64 nw, .slice ea en ec] 26)).alloc (.cells #[.int .i64 d.k, .int .i64 d.pr, .int .i64 d.pp, .int .i64 d.o, .int .i64 d.i, .int .i64 d.ip, .int .i64 d.l] 52)).alloc (.cells #[.int .i64 0, .int .i64 0, .int .i64 0, .int .i64 0, .int .i64 0, .slice none 0 0, .int .i64 0, .slice none 0 0] 26))).heap.size by simp only [World.size_alloc]; omega)
  have hOx := hO.2.2
  have hld : ∀ k, (Value.slice va dn vc).ownBlock = some k → k < nx := fun k hk => by have := (hOl.1.lt k hk).2; omega
  have hle : ∀ k, (Value.slice ua en uc).ownBlock = some k → k < nx := fun k hk => by have := (hOl.2.1.lt k hk).2; omega
  clear hO hOl x1 hBl hb0 hb1 hB1
  rw [← hel'.out] at hOe
  have hx40 := x4.1.1
  have H2 : Hid (Calls Tryz.prog _ _ _ _) := search_own (w.heap.size + 3) ua uc en es d W2 hOe hel'.out (by omega) hs.out
  obtain ⟨⟨q1, q2⟩, q3⟩ := id x4
  obtain ⟨p1, p2⟩ := id x2
  go_wp2_with fail
  refine H2.out.mono ?_
  rintro e w3 ⟨⟨i, f, rfl, hsa, hf⟩, hb3⟩
  clear q1 q2 q3 p1 p2 H2
  have hB3 := bl_trans hB2 hb3
  replace x2 := x2.below hb3
  replace bx := bx.below hb3
  replace x4 := x4.below hb3
  replace hOd := ownsRow_bl hOd hb3
  replace hOe := ownsRow_bl hOe hb3
  have hs3 := hb3.size
  have hn3 : nx < w3.heap.size := Nat.lt_of_lt_of_le hx40 hs3
  clear hb3 hB2
  obtain ⟨⟨q1, q2⟩, q3⟩ := id x4
  obtain ⟨p1, p2⟩ := id x2
  replace hf : Hid (f = true ↔ ∃ y, es[i]? = some y ∧ sameK y d) := hf
  cases f with
  | true =>
    obtain ⟨y, hy, hk⟩ := hf.out.1 rfl
    have hil : i < en := by have h1 := get_lt hy; have h2 := hel'.out; omega
    have hi' : (i : Int) < (en : Int) := by omega
    clear hy hk y
    obtain ⟨g, cap, hsl, hg0, hg1, hcap, hmx⟩ := own_form hOe (by omega)
    simp only [Value.slice.injEq] at hsl
    obtain ⟨rfl, -, rfl⟩ := hsl
    obtain ⟨hR, -, -, -⟩ := row_of_own hOe
    have hcs : Hid (EnCells w3 g 0 es) := enCells_of_own (by rw [← hel'.out]; exact hOe) hel'.out
    have hgn : nx ≠ g := fun e => by have := hle g rfl; omega
    have hgd : ∀ k, (Value.slice va dn vc).ownBlock = some k → k ≠ g := fun k hk e => hOx k hk (by rw [e]; rfl)
    clear hOe hle hOx
    obtain ⟨v0, e0⟩ := hR.cell (j := i * 7) (by omega)
    have z0 := hR.frozen (i * 7)
    obtain ⟨v1, e1⟩ := hR.cell (j := i * 7 + 1) (by omega)
    have z1 := hR.frozen (i * 7 + 1)
    obtain ⟨v2, e2⟩ := hR.cell (j := i * 7 + 2) (by omega)
    have z2 := hR.frozen (i * 7 + 2)
    obtain ⟨v3, e3⟩ := hR.cell (j := i * 7 + 3) (by omega)
    have z3 := hR.frozen (i * 7 + 3)
    obtain ⟨v4, e4⟩ := hR.cell (j := i * 7 + 4) (by omega)
    have z4 := hR.frozen (i * 7 + 4)
    obtain ⟨v5, e5⟩ := hR.cell (j := i * 7 + 5) (by omega)
    have z5 := hR.frozen (i * 7 + 5)
    obtain ⟨v6, e6⟩ := hR.cell (j := i * 7 + 6) (by omega)
    have z6 := hR.frozen (i * 7 + 6)
    go_upto_region 5 with fail
    generalize hW4 : (World.setCell (World.setCell (World.setCell (World.setCell (World.setCell (World.setCell (World.setCell w3 ⟨g, i * 7, none⟩ (.int .i64 d.k)) ⟨g, i * 7 + 1, none⟩ (.int .i64 d.pr)) ⟨g, i * 7 + 2, none⟩ (.int .i64 d.pp)) ⟨g, i * 7 + 3, none⟩ (.int .i64 d.o)) ⟨g, i * 7 + 4, none⟩ (.int .i64 d.i)) ⟨g, i * 7 + 5, none⟩ (.int .i64 d.ip)) ⟨g, i * 7 + 6, none⟩ (.int .i64 d.l)) = W4
    have hp : put7 w3 g (i * 7) d = W4 := hW4
    clear hW4 e0 e1 e2 e3 e4 e5 e6 z0 z1 z2 z3 z4 z5 z6 q1 q2 q3 p1 p2 x2
    have hE4 := en_over (d := d) (i := i) hcs.out hR (by have h2 := hel'.out; omega) (by have h2 := hel'.out; omega)
    have hR4 := put7_row (p := i * 7) (d := d) hR
    have hO4 := own_of_row hR4 hg0 (by have h2 := hel'.out; simp only [List.length_set]; omega) hmx hE4
    replace x4 := bx_put7 (p := i * 7) (d := d) x4 hgn
    replace bx := bx_put7 (g := g) (p := i * 7) (d := d) bx (show w.heap.size + 1 + 1 ≠ g by omega)
    replace hOd := own_put7 (p := i * 7) (d := d) hOd hgd
    replace hB3 := bl_put7 (g := g) (p := i * 7) (d := d) hB3 (show w.heap.size ≤ g by omega)
    have hgd2 : ∀ k, (Value.slice va dn vc).ownBlock = some k → (Value.slice (some ⟨g, 0, none⟩) (putL es d i true).length uc).ownBlock ≠ some k := fun k h1 h2 => hgd k h1 (Option.some.inj h2).symm
    clear hE4 hR4 hR hcs
    rw [hp] at x4 bx hOd hB3 hO4
    clear hp
    obtain ⟨⟨q1, q2⟩, q3⟩ := id x4
    obtain ⟨⟨p1, p2⟩, p3⟩ := id bx
    clear x4 hgd hld hgn
    go_wp2_with fail
    have hbv := bx.set8 (.int .i64 ad) (.int .i64 ln) (.int .i64 ow) (.int .i64 lo) (.int .i64 hi) (.slice va dn vc) (.int .i64 nw) (.slice (some ⟨g, 0, none⟩) en uc)
    obtain ⟨⟨t1, t2⟩, t3⟩ := id hbv
    have hpl : (putL es d i true).length = en := by show (es.set i d).length = _; rw [List.length_set, hel'.out]
    refine bodyPost_ret (v := .agg #[.int .i64 ad, .int .i64 ln, .int .i64 ow, .int .i64 lo, .int .i64 hi, .slice va dn vc, .int .i64 nw, .slice (some ⟨g, 0, none⟩) en uc]) (by simp [results, Tryz.results101, go_sem, t2]) rfl ⟨va, vc, some ⟨g, 0, none⟩, uc, i, true, hsa, by simpa using hf.out, by rw [hpl], ⟨?_, ?_, hgd2⟩, bl_set8 hB3 (n := w.heap.size + 1 + 1) (by omega) (.int .i64 ad) (.int .i64 ln) (.int .i64 ow) (.int .i64 lo) (.int .i64 hi) (.slice va dn vc) (.int .i64 nw) (.slice (some ⟨g, 0, none⟩) en uc)⟩
    · exact own_mono (own_other8 hOd (m := w.heap.size + 1 + 1) (by omega) (.int .i64 ad) (.int .i64 ln) (.int .i64 ow) (.int .i64 lo) (.int .i64 hi) (.slice va dn vc) (.int .i64 nw) (.slice (some ⟨g, 0, none⟩) en uc)) (by omega)
    · exact own_mono (own_other8 hO4 (m := w.heap.size + 1 + 1) (by omega) (.int .i64 ad) (.int .i64 ln) (.int .i64 ow) (.int .i64 lo) (.int .i64 hi) (.slice va dn vc) (.int .i64 nw) (.slice (some ⟨g, 0, none⟩) en uc)) (by omega)
  | false =>
    go_upto_region 6 with fail
    have hBl := bl_alloc (bl_refl w3) (.cells #[.int .i64 d.k, .int .i64 d.pr, .int .i64 d.pp, .int .i64 d.o, .int .i64 d.i, .int .i64 d.ip, .int .i64 d.l] 52)
    have hB4 := bl_trans hB3 hBl
    replace x2 := x2.below hBl
    replace bx := bx.below hBl
    replace x4 := x4.below hBl
    replace hOd := ownsRow_bl hOd hBl
    replace hOe := ownsRow_bl hOe hBl
    have hv : IsRow (w3.alloc (.cells #[.int .i64 d.k, .int .i64 d.pr, .int .i64 d.pp, .int .i64 d.o, .int .i64 d.i, .int .i64 d.ip, .int .i64 d.l] 52)) w3.heap.size 52 7 := IsRow.made w3 #[.int .i64 d.k, .int .i64 d.pr, .int .i64 d.pp, .int .i64 d.o, .int .i64 d.i, .int .i64 d.ip, .int .i64 d.l] 52
    have hvs : Hid (∀ j v, (enV d)[j]? = some v → (w3.alloc (.cells #[.int .i64 d.k, .int .i64 d.pr, .int .i64 d.pp, .int .i64 d.o, .int .i64 d.i, .int .i64 d.ip, .int .i64 d.l] 52)).cell? ⟨w3.heap.size, j, none⟩ = some v) := fun j v hj => by
      rw [new_cell, show #[.int .i64 d.k, .int .i64 d.pr, .int .i64 d.pp, .int .i64 d.o, .int .i64 d.i, .int .i64 d.ip, .int .i64 d.l] = (enV d).toArray from rfl, List.getElem?_toArray]; exact hj
    have H4 : Hid (Calls Tryz.prog _ _ _ _) := insert_own (w.heap.size + 3) ua uc en i w3.heap.size es d _ hOe hel'.out (by have := hsa.1; have := hel'.out; omega) hen (by have := hB4.size; simp only [World.size_alloc] at *; omega) hv hvs.out (fun e => by have := hle _ e; omega)
    clear hvs
    go_wp2_with fail
    refine H4.out.mono ?_
    rintro e w5 ⟨v, rfl, hown, hF, hvb⟩
    clear H4 q1 q2 q3 p1 p2 hBl hv
    obtain ⟨a', c', rfl⟩ := own_slice hown
    have hrow : ∀ k, (Value.slice ua en uc).ownBlock = some k → w.heap.size + 3 ≤ k := fun k hk => (hOe.lt k hk).1
    have hB5 := hF.bl hB4 (fun k hk => by have := hrow k hk; omega)
    replace x4 := hF.bx x4 (fun e => by have := hle nx e; omega)
    replace bx := hF.bx bx (fun e => by have := hrow _ e; omega)
    replace hOd := hF.own hOd hOx
    have hOx2 : ∀ k, (Value.slice va dn vc).ownBlock = some k → (Value.slice a' (en + 1) c').ownBlock ≠ some k := fun k h1 h2 => by
      rcases hvb with h | h
      · exact hOx k h1 (h ▸ h2)
      · rw [h] at h2; have := Option.some.inj h2; have := hld k h1; simp only [World.size_alloc] at *; omega
    have hle2 : ∀ k, (Value.slice a' (en + 1) c').ownBlock = some k → k ≠ nx := fun k h2 => by
      rcases hvb with h | h
      · have := hle k (h ▸ h2); omega
      · rw [h] at h2; have := Option.some.inj h2; simp only [World.size_alloc] at *; omega
    have hld2 : ∀ k, (Value.slice va dn vc).ownBlock = some k → k ≠ nx := fun k hk => Nat.ne_of_lt (hld k hk)
    clear hF hB4 hOe hvb
    obtain ⟨⟨q1, q2⟩, q3⟩ := id x4
    go_upto_region 7 with fail
    clear q1 q2 q3
    replace x4 : Bx _ nx #[.int .i64 ad, .int .i64 ln, .int .i64 ow, .int .i64 lo, .int .i64 hi, .slice va dn vc, .int .i64 nw, .slice a' (en + 1) c'] := x4.set (j := 7) (by simp) (.slice a' (en + 1) c')
    replace bx := bx.other (m := nx) (j := 7) (by omega) (.slice a' (en + 1) c')
    replace hOd := own_ne hOd hld2 (j := 7) (.slice a' (en + 1) c')
    replace hown := own_ne hown hle2 (j := 7) (.slice a' (en + 1) c')
    replace hB5 := bl_set (p := ⟨nx, 7, none⟩) hB5 (by simp; omega) (.slice a' (en + 1) c')
    generalize w5.setCell ⟨nx, 7, none⟩ (.slice a' (en + 1) c') = W6 at *
    obtain ⟨⟨q1, q2⟩, q3⟩ := id x4
    obtain ⟨⟨p1, p2⟩, p3⟩ := id bx
    go_wp2_with fail
    have hbv := bx.set8 (.int .i64 ad) (.int .i64 ln) (.int .i64 ow) (.int .i64 lo) (.int .i64 hi) (.slice va dn vc) (.int .i64 nw) (.slice a' (en + 1) c')
    obtain ⟨⟨t1, t2⟩, t3⟩ := id hbv
    have hpl : (putL es d i false).length = en + 1 := by show (insL es i d).length = _; rw [insL_length, hel'.out]
    refine bodyPost_ret (v := .agg #[.int .i64 ad, .int .i64 ln, .int .i64 ow, .int .i64 lo, .int .i64 hi, .slice va dn vc, .int .i64 nw, .slice a' (en + 1) c']) (by simp [results, Tryz.results101, go_sem, t2]) rfl ⟨va, vc, a', c', i, false, hsa, hf.out, by rw [hpl], ⟨?_, ?_, by rw [hpl]; exact hOx2⟩, bl_set8 hB5 (n := w.heap.size + 1 + 1) (by omega) (.int .i64 ad) (.int .i64 ln) (.int .i64 ow) (.int .i64 lo) (.int .i64 hi) (.slice va dn vc) (.int .i64 nw) (.slice a' (en + 1) c')⟩
    · exact own_mono (own_other8 hOd (m := w.heap.size + 1 + 1) (by omega) (.int .i64 ad) (.int .i64 ln) (.int .i64 ow) (.int .i64 lo) (.int .i64 hi) (.slice va dn vc) (.int .i64 nw) (.slice a' (en + 1) c')) (by omega)
    · rw [hpl]
      exact own_mono (own_other8 hown (m := w.heap.size + 1 + 1) (by omega) (.int .i64 ad) (.int .i64 ln) (.int .i64 ow) (.int .i64 lo) (.int .i64 hi) (.slice va dn vc) (.int .i64 nw) (.slice a' (en + 1) c')) (by omega)
end Go.Proofs.YtcgjpmhjijmplaaGreatDoor

/- The program's natUsed, natSend and NatOut, walked. -/
namespace Go.Proofs.YtcgjpmhjijmplaaGreatDoor
open Go.ChangeShapes Go.WideShapes Go.ChangeAt Go.RowKit Go.Maps

theorem less_again (y e : En) (nw : Int) : lessE y (again nw e) = lessE y e := rfl
/-- Laid in at the key of one that stands: that one, once more. -/
theorem put_held {es : List En} {n i : Nat} {e : En} {nw : Int} {f : Bool} (hs : es.Pairwise (fun e d => lessE e d = true)) (he : es[n]? = some e) (hsa : SearchAt es (again nw e) i) (hf : f = true ↔ ∃ y, es[i]? = some y ∧ sameK y (again nw e)) : putL es (again nw e) i f = es.modify n (again nw) := by
  have hin : i = n := by
    rcases Nat.lt_trichotomy i n with h | h | h
    · have hl := get_lt he
      have h1 : es[i]? = some (es[i]'(by omega)) := by simp
      have h2 := pw_get hs h h1 he
      have h3 := hsa.2.2 i _ (Nat.le_refl _) h1
      rw [less_again, h2] at h3
      cases h3
    · exact h
    · have h2 := hsa.2.1 n e h he
      rw [less_again] at h2
      have h3 := lessE_no h2
      rw [h2] at h3
      cases h3
  subst hin
  have hf1 : f = true := hf.2 ⟨e, he, rfl, rfl, rfl, rfl⟩
  subst hf1
  show es.set i (again nw e) = es.modify i (again nw)
  apply List.ext_getElem?
  intro j
  rw [List.getElem?_set, List.getElem?_modify]
  by_cases hj : i = j
  · subst hj
    have hl := get_lt he
    have h1 : es[i] = e := by simpa [hl] using he
    simp [hl, h1]
  · simp [hj]
/-- Laid in where none has the key. -/
theorem put_new {es : List En} {i : Nat} {d : En} {f : Bool} (hn : ∀ y ∈ es, ¬ sameK y d) (hsa : SearchAt es d i) (hf : f = true ↔ ∃ y, es[i]? = some y ∧ sameK y d) : putL es d i f = putE es d := by
  have hf0 : f = false := by
    cases f with
    | false => rfl
    | true => obtain ⟨y, hy, hk⟩ := hf.1 rfl; exact absurd hk (hn y (List.mem_of_getElem? hy))
  subst hf0
  show insL es i d = _
  rw [putE_at hsa.1 hsa.2.1 (fun y hy => hsa.2.2 i y (Nat.le_refl _) hy)]
  simp [insL]
theorem free_new {es : List En} {k a ap b bp lo hi p nw : Int} (h : freeP es k b bp lo hi = some p) : ∀ y ∈ es, ¬ sameK y ⟨k, b, bp, p, a, ap, nw⟩ := by
  intro y hy hs
  simp only [freeP, Option.map_eq_some_iff] at h
  obtain ⟨i, h1, h2⟩ := h
  have h3 := List.find?_some h1
  rw [h2] at h3
  have h4 : es.any (takenE k b bp p) = false := by simpa using h3
  rw [List.any_eq_false] at h4
  refine h4 y hy ?_
  obtain ⟨a1, a2, a3, a4⟩ := hs
  simp only at a1 a2 a3 a4
  simp [takenE, a1, a2, a3, a4]
/-- What natSend tells: of what passes the book behind and the port, else the code. -/
def SentO (w : World) (base : Nat) (e : Ending) (O : Out) : Prop :=
  (O.c ≠ 0 ∧ e = .returned (.tuple #[.agg #[.int .i64 0, .int .i64 0, .int .i64 0, .int .i64 0, .int .i64 0, .slice none 0 0, .int .i64 0, .slice none 0 0], .int .i64 0, .iface 133 (.int .i64 O.c)])) ∨
  (O.c = 0 ∧ ∃ va vc ua uc, e = .returned (.tuple #[.agg #[.int .i64 O.R.ad, .int .i64 O.R.ln, .int .i64 O.R.ow, .int .i64 O.R.lo, .int .i64 O.R.hi, .slice va O.R.ds.length vc, .int .i64 O.R.nw, .slice ua O.R.es.length uc], .int .i64 O.F.ap, .nilIface]) ∧ OwnB w base (.slice va O.R.ds.length vc) O.R.ds (.slice ua O.R.es.length uc) O.R.es)
/-- The forms of what is told. -/
theorem out_forms (B : Bk) (k a ap b bp : Int) :
    ((outM B k a ap b bp).c = 0 ∧ (outM B k a ap b bp).F = ⟨k, B.ow, (outM B k a ap b bp).F.ap, b, bp⟩) ∨
    ((outM B k a ap b bp).c = 1 ∧ outM B k a ap b bp = ⟨⟨0, 0, 0, 0, 0, 0, [], []⟩, zeroF, 1⟩) ∨
    ((outM B k a ap b bp).c ≠ 0 ∧ ((outM B k a ap b bp).c == 1) = false ∧ outM B k a ap b bp = ⟨B, zeroF, (outM B k a ap b bp).c⟩ ∧ bookB B.ad B.ln B.ow B.lo B.hi B.nw B.ds B.es = true) := by
  unfold outM
  by_cases h1 : bookB B.ad B.ln B.ow B.lo B.hi B.nw B.ds B.es = true
  · rw [if_pos h1]
    by_cases h2 : flowB k a ap b bp = true
    · rw [if_pos h2]
      by_cases h3 : goesB B.ad B.ln B.ow a b = true
      · rw [if_pos h3]
        split
        · exact Or.inl ⟨rfl, rfl⟩
        · split
          · exact Or.inl ⟨rfl, rfl⟩
          · split
            · exact Or.inr (Or.inr ⟨by simp, by simp, rfl, h1⟩)
            · split
              · exact Or.inl ⟨rfl, rfl⟩
              · exact Or.inr (Or.inr ⟨by simp, by simp, rfl, h1⟩)
      · rw [if_neg h3]; exact Or.inr (Or.inr ⟨by simp, by simp, rfl, h1⟩)
    · rw [if_neg h2]; exact Or.inr (Or.inr ⟨by simp, by simp, rfl, h1⟩)
  · rw [if_neg h1]; exact Or.inr (Or.inl ⟨rfl, rfl⟩)

theorem run_isEntry (d : En) (w : World) : (Instr.typeAssert (.iface 52 (.agg #[.int .i64 d.k, .int .i64 d.pr, .int .i64 d.pp, .int .i64 d.o, .int .i64 d.i, .int .i64 d.ip, .int .i64 d.l])) 140 52 true).run Tryz.prog w = .ok (.tuple #[.agg #[.int .i64 d.k, .int .i64 d.pr, .int .i64 d.pp, .int .i64 d.o, .int .i64 d.i, .int .i64 d.ip, .int .i64 d.l], .bool true]) w := by kernel_rfl
theorem run_noEntry (d : Dr) (w : World) : (Instr.typeAssert (.iface 85 (.agg #[.int .i64 d.k, .int .i64 d.o, .int .i64 d.i, .int .i64 d.p])) 140 52 true).run Tryz.prog w = .ok (.tuple #[.agg #[.int .i64 0, .int .i64 0, .int .i64 0, .int .i64 0, .int .i64 0, .int .i64 0, .int .i64 0], .bool false]) w := by kernel_rfl
theorem doorPort_ret (d : Dr) (w : World) : Calls Tryz.prog 216 #[.agg #[.int .i64 d.k, .int .i64 d.o, .int .i64 d.i, .int .i64 d.p]] w fun e w' => e = .returned (.int .i64 d.o) ∧ Below w.heap.size w w' := by
  go_enter Tryz.func216, Tryz.ntmps216
  go_wp2
  go_ret
  exact ⟨rfl, bl_alloc (bl_refl _) _⟩
theorem entryPort_ret (d : En) (w : World) : Calls Tryz.prog 212 #[.agg #[.int .i64 d.k, .int .i64 d.pr, .int .i64 d.pp, .int .i64 d.o, .int .i64 d.i, .int .i64 d.ip, .int .i64 d.l]] w fun e w' => e = .returned (.int .i64 d.o) ∧ Below w.heap.size w w' := by
  go_enter Tryz.func212, Tryz.ntmps212
  go_wp2
  go_ret
  exact ⟨rfl, bl_alloc (bl_refl _) _⟩
theorem methSendsD (v : Value) (w : World) : (Go.method 363 85 v "loop.example/ternnat/impl.sends").run Tryz.prog w = .ok (217, v) w := by kernel_rfl
theorem methSendsE (v : Value) (w : World) : (Go.method 363 52 v "loop.example/ternnat/impl.sends").run Tryz.prog w = .ok (214, v) w := by kernel_rfl
theorem methPortD (v : Value) (w : World) : (Go.method 363 85 v "loop.example/ternnat/impl.port").run Tryz.prog w = .ok (216, v) w := by kernel_rfl
theorem methPortE (v : Value) (w : World) : (Go.method 363 52 v "loop.example/ternnat/impl.port").run Tryz.prog w = .ok (212, v) w := by kernel_rfl

set_option maxRecDepth 20000 in
set_option maxHeartbeats 4000000 in
theorem used_entry (ad ln ow lo hi nw : Int) (da : Option Addr) (dn dc : Nat) (ea : Option Addr) (en ec : Nat) (d : En) (n : Nat) (ds : List Dr) (es : List En) (w : World) (hD : DoorsAt w da dn ds) (hE : EntriesAt w ea en es) (hdn : dn ≤ 6) (hen : en ≤ 16) (hs : es.Pairwise (fun e d => lessE e d = true)) (hd : es[n]? = some d) :
    Calls Tryz.prog 99 #[.agg #[.int .i64 ad, .int .i64 ln, .int .i64 ow, .int .i64 lo, .int .i64 hi, .slice da dn dc, .int .i64 nw, .slice ea en ec], .iface 52 (.agg #[.int .i64 d.k, .int .i64 d.pr, .int .i64 d.pp, .int .i64 d.o, .int .i64 d.i, .int .i64 d.ip, .int .i64 d.l])] w fun e w' => ∃ va vc ua uc, e = .returned (.agg #[.int .i64 ad, .int .i64 ln, .int .i64 ow, .int .i64 lo, .int .i64 hi, .slice va dn vc, .int .i64 nw, .slice ua (es.modify n (again nw)).length uc]) ∧ OwnB w' w.heap.size (.slice va dn vc) ds (.slice ua (es.modify n (again nw)).length uc) (es.modify n (again nw)) ∧ Below w.heap.size w w' := by
  have hb0 := bl_alloc (bl_alloc (bl_alloc (bl_refl w) (.cells #[.int .i64 ad, .int .i64 ln, .int .i64 ow, .int .i64 lo, .int .i64 hi, .slice da dn dc, .int .i64 nw, .slice ea en ec] 26)) (.cells #[.int .i64 0, .int .i64 0, .int .i64 0, .int .i64 0, .int .i64 0, .slice none 0 0, .int .i64 0, .slice none 0 0] 26)) (.cells #[.int .i64 d.k, .int .i64 d.pr, .int .i64 d.pp, .int .i64 d.o, .int .i64 d.i, .int .i64 d.ip, .int .i64 d.l] 52)
  have x1 := ((Box.new w #[.int .i64 ad, .int .i64 ln, .int .i64 ow, .int .i64 lo, .int .i64 hi, .slice da dn dc, .int .i64 nw, .slice ea en ec] 26).below (bl_alloc (bl_refl _) (.cells #[.int .i64 0, .int .i64 0, .int .i64 0, .int .i64 0, .int .i64 0, .slice none 0 0, .int .i64 0, .slice none 0 0] 26))).below (bl_alloc (bl_refl _) (.cells #[.int .i64 d.k, .int .i64 d.pr, .int .i64 d.pp, .int .i64 d.o, .int .i64 d.i, .int .i64 d.ip, .int .i64 d.l] 52))
  have bx := (Bx.new (w.alloc (.cells #[.int .i64 ad, .int .i64 ln, .int .i64 ow, .int .i64 lo, .int .i64 hi, .slice da dn dc, .int .i64 nw, .slice ea en ec] 26)) #[.int .i64 0, .int .i64 0, .int .i64 0, .int .i64 0, .int .i64 0, .slice none 0 0, .int .i64 0, .slice none 0 0] 26).below (bl_alloc (bl_refl _) (.cells #[.int .i64 d.k, .int .i64 d.pr, .int .i64 d.pp, .int .i64 d.o, .int .i64 d.i, .int .i64 d.ip, .int .i64 d.l] 52))
  have x3 := Bx.new ((w.alloc (.cells #[.int .i64 ad, .int .i64 ln, .int .i64 ow, .int .i64 lo, .int .i64 hi, .slice da dn dc, .int .i64 nw, .slice ea en ec] 26)).alloc (.cells #[.int .i64 0, .int .i64 0, .int .i64 0, .int .i64 0, .int .i64 0, .slice none 0 0, .int .i64 0, .slice none 0 0] 26)) #[.int .i64 d.k, .int .i64 d.pr, .int .i64 d.pp, .int .i64 d.o, .int .i64 d.i, .int .i64 d.ip, .int .i64 d.l] 52
  simp only [World.size_alloc] at bx x3
  have HP : Hid (∀ i f, SearchAt es (again nw d) i → (f = true ↔ ∃ y, es[i]? = some y ∧ sameK y (again nw d)) → putL es (again nw d) i f = es.modify n (again nw)) := fun i f h1 h2 => put_held hs hd h1 h2
  have HW : Hid (∀ W, Below w.heap.size w W → Calls Tryz.prog 101 #[.agg #[.int .i64 ad, .int .i64 ln, .int .i64 ow, .int .i64 lo, .int .i64 hi, .slice da dn dc, .int .i64 nw, .slice ea en ec], .agg #[.int .i64 d.k, .int .i64 d.pr, .int .i64 d.pp, .int .i64 d.o, .int .i64 d.i, .int .i64 d.ip, .int .i64 nw]] W fun e w' => ∃ va vc ua uc, e = .returned (.agg #[.int .i64 ad, .int .i64 ln, .int .i64 ow, .int .i64 lo, .int .i64 hi, .slice va dn vc, .int .i64 nw, .slice ua (es.modify n (again nw)).length uc]) ∧ OwnB w' W.heap.size (.slice va dn vc) ds (.slice ua (es.modify n (again nw)).length uc) (es.modify n (again nw)) ∧ Below W.heap.size W w') := fun W h => (withEntry_ret ad ln ow lo hi nw da dn dc ea en ec (again nw d) ds es W (hD.below h) (hE.below h) hdn hen hs).mono (by
    rintro e w' ⟨va, vc, ua, uc, i, f, hsa, hf, he, hO, hb⟩
    rw [HP.out i f hsa hf] at he hO
    exact ⟨va, vc, ua, uc, he, hO, hb⟩)
  clear HP hD hE hs hd
  generalize es.modify n (again nw) = L at *
  go_enter Tryz.func99, Tryz.ntmps99
  have hta := run_isEntry d
  go_upto_region 3 with fail
  clear hta
  generalize (((w.alloc (.cells #[.int .i64 ad, .int .i64 ln, .int .i64 ow, .int .i64 lo, .int .i64 hi, .slice da dn dc, .int .i64 nw, .slice ea en ec] 26)).alloc (.cells #[.int .i64 0, .int .i64 0, .int .i64 0, .int .i64 0, .int .i64 0, .slice none 0 0, .int .i64 0, .slice none 0 0] 26)).alloc (.cells #[.int .i64 d.k, .int .i64 d.pr, .int .i64 d.pp, .int .i64 d.o, .int .i64 d.i, .int .i64 d.ip, .int .i64 d.l] 52)) = W1 at *
  obtain ⟨⟨q1, q2⟩, q3⟩ := id x3
  have y1 := x1.2
  go_upto_region 4 with fail
  clear q1 q2 q3 y1
  replace x3 : Bx _ (w.heap.size + 1 + 1) #[.int .i64 d.k, .int .i64 d.pr, .int .i64 d.pp, .int .i64 d.o, .int .i64 d.i, .int .i64 d.ip, .int .i64 nw] := x3.set (j := 6) (by simp) (.int .i64 nw)
  replace x1 := x1.other (m := w.heap.size + 1 + 1) (j := 6) (by omega) (.int .i64 nw)
  replace bx := bx.other (m := w.heap.size + 1 + 1) (j := 6) (by omega) (.int .i64 nw)
  replace hb0 := bl_set (p := ⟨w.heap.size + 1 + 1, 6, none⟩) hb0 (by simp; omega) (.int .i64 nw)
  generalize W1.setCell ⟨w.heap.size + 1 + 1, 6, none⟩ (.int .i64 nw) = W2 at *
  have y1 := x1.2
  have y3 := x3.1.2
  have hl3 := x3.1.1
  go_wp2_with fail
  refine (HW.out _ hb0).mono ?_
  rintro e w3 ⟨va, vc, ua, uc, rfl, hO, hb3⟩
  have hB3 := bl_trans hb0 hb3
  replace bx := bx.below hb3
  clear y1 y3 x1 x3 HW hb3 hb0
  obtain ⟨⟨q1, q2⟩, q3⟩ := id bx
  go_wp2_with fail
  have hbv := bx.set8 (.int .i64 ad) (.int .i64 ln) (.int .i64 ow) (.int .i64 lo) (.int .i64 hi) (.slice va dn vc) (.int .i64 nw) (.slice ua L.length uc)
  obtain ⟨⟨t1, t2⟩, t3⟩ := id hbv
  exact bodyPost_ret (v := .agg #[.int .i64 ad, .int .i64 ln, .int .i64 ow, .int .i64 lo, .int .i64 hi, .slice va dn vc, .int .i64 nw, .slice ua L.length uc]) (by simp [results, Tryz.results99, go_sem, t2]) rfl ⟨va, vc, ua, uc, rfl, ((hO.mono (show w.heap.size + 2 ≤ _ by omega)).set8 (m := w.heap.size + 1) (by omega) (.int .i64 ad) (.int .i64 ln) (.int .i64 ow) (.int .i64 lo) (.int .i64 hi) (.slice va dn vc) (.int .i64 nw) (.slice ua L.length uc)).mono (by omega), bl_set8 hB3 (n := w.heap.size + 1) (by omega) (.int .i64 ad) (.int .i64 ln) (.int .i64 ow) (.int .i64 lo) (.int .i64 hi) (.slice va dn vc) (.int .i64 nw) (.slice ua L.length uc)⟩

set_option maxRecDepth 20000 in
set_option maxHeartbeats 4000000 in
theorem used_door (ad ln ow lo hi nw : Int) (da : Option Addr) (dn dc : Nat) (ea : Option Addr) (en ec : Nat) (d : Dr) (ds : List Dr) (es : List En) (w : World) (hD : DoorsAt w da dn ds) (hE : EntriesAt w ea en es) (hdn : dn ≤ 6) (hen : en ≤ 16) :
    Calls Tryz.prog 99 #[.agg #[.int .i64 ad, .int .i64 ln, .int .i64 ow, .int .i64 lo, .int .i64 hi, .slice da dn dc, .int .i64 nw, .slice ea en ec], .iface 85 (.agg #[.int .i64 d.k, .int .i64 d.o, .int .i64 d.i, .int .i64 d.p])] w fun e w' => ∃ va vc ua uc, e = .returned (.agg #[.int .i64 ad, .int .i64 ln, .int .i64 ow, .int .i64 lo, .int .i64 hi, .slice va dn vc, .int .i64 nw, .slice ua en uc]) ∧ OwnB w' w.heap.size (.slice va dn vc) ds (.slice ua en uc) es ∧ Below w.heap.size w w' := by
  have hb0 := bl_alloc (bl_alloc (bl_alloc (bl_refl w) (.cells #[.int .i64 ad, .int .i64 ln, .int .i64 ow, .int .i64 lo, .int .i64 hi, .slice da dn dc, .int .i64 nw, .slice ea en ec] 26)) (.cells #[.int .i64 0, .int .i64 0, .int .i64 0, .int .i64 0, .int .i64 0, .slice none 0 0, .int .i64 0, .slice none 0 0] 26)) (.cells #[.int .i64 0, .int .i64 0, .int .i64 0, .int .i64 0, .int .i64 0, .int .i64 0, .int .i64 0] 52)
  have x1 := ((Box.new w #[.int .i64 ad, .int .i64 ln, .int .i64 ow, .int .i64 lo, .int .i64 hi, .slice da dn dc, .int .i64 nw, .slice ea en ec] 26).below (bl_alloc (bl_refl _) (.cells #[.int .i64 0, .int .i64 0, .int .i64 0, .int .i64 0, .int .i64 0, .slice none 0 0, .int .i64 0, .slice none 0 0] 26))).below (bl_alloc (bl_refl _) (.cells #[.int .i64 0, .int .i64 0, .int .i64 0, .int .i64 0, .int .i64 0, .int .i64 0, .int .i64 0] 52))
  have bx := (Bx.new (w.alloc (.cells #[.int .i64 ad, .int .i64 ln, .int .i64 ow, .int .i64 lo, .int .i64 hi, .slice da dn dc, .int .i64 nw, .slice ea en ec] 26)) #[.int .i64 0, .int .i64 0, .int .i64 0, .int .i64 0, .int .i64 0, .slice none 0 0, .int .i64 0, .slice none 0 0] 26).below (bl_alloc (bl_refl _) (.cells #[.int .i64 0, .int .i64 0, .int .i64 0, .int .i64 0, .int .i64 0, .int .i64 0, .int .i64 0] 52))
  simp only [World.size_alloc] at bx
  have HW : Hid (∀ W, Below w.heap.size w W → Calls Tryz.prog 92 #[.agg #[.int .i64 ad, .int .i64 ln, .int .i64 ow, .int .i64 lo, .int .i64 hi, .slice da dn dc, .int .i64 nw, .slice ea en ec]] W fun e w' => ∃ va vc ua uc, e = .returned (.agg #[.int .i64 ad, .int .i64 ln, .int .i64 ow, .int .i64 lo, .int .i64 hi, .slice va dn vc, .int .i64 nw, .slice ua en uc]) ∧ OwnB w' W.heap.size (.slice va dn vc) ds (.slice ua en uc) es ∧ Below W.heap.size W w') := fun W h => natCopy_ret ad ln ow lo hi nw da dn dc ea en ec ds es W (hD.below h) (hE.below h) (by omega) (by omega)
  clear hD hE
  go_enter Tryz.func99, Tryz.ntmps99
  have hta := run_noEntry d
  go_upto_region 5 with fail
  clear hta
  generalize (((w.alloc (.cells #[.int .i64 ad, .int .i64 ln, .int .i64 ow, .int .i64 lo, .int .i64 hi, .slice da dn dc, .int .i64 nw, .slice ea en ec] 26)).alloc (.cells #[.int .i64 0, .int .i64 0, .int .i64 0, .int .i64 0, .int .i64 0, .slice none 0 0, .int .i64 0, .slice none 0 0] 26)).alloc (.cells #[.int .i64 0, .int .i64 0, .int .i64 0, .int .i64 0, .int .i64 0, .int .i64 0, .int .i64 0] 52)) = W1 at *
  have y1 := x1.2
  have hl3 := bx.1.1
  go_wp2_with fail
  refine (HW.out _ hb0).mono ?_
  rintro e w3 ⟨va, vc, ua, uc, rfl, hO, hb3⟩
  have hB3 := bl_trans hb0 hb3
  replace bx := bx.below hb3
  clear y1 x1 HW hb3 hb0
  obtain ⟨⟨q1, q2⟩, q3⟩ := id bx
  go_wp2_with fail
  have hbv := bx.set8 (.int .i64 ad) (.int .i64 ln) (.int .i64 ow) (.int .i64 lo) (.int .i64 hi) (.slice va dn vc) (.int .i64 nw) (.slice ua en uc)
  obtain ⟨⟨t1, t2⟩, t3⟩ := id hbv
  exact bodyPost_ret (v := .agg #[.int .i64 ad, .int .i64 ln, .int .i64 ow, .int .i64 lo, .int .i64 hi, .slice va dn vc, .int .i64 nw, .slice ua en uc]) (by simp [results, Tryz.results99, go_sem, t2]) rfl ⟨va, vc, ua, uc, rfl, ((hO.mono (show w.heap.size + 2 ≤ _ by omega)).set8 (m := w.heap.size + 1) (by omega) (.int .i64 ad) (.int .i64 ln) (.int .i64 ow) (.int .i64 lo) (.int .i64 hi) (.slice va dn vc) (.int .i64 nw) (.slice ua en uc)).mono (by omega), bl_set8 hB3 (n := w.heap.size + 1) (by omega) (.int .i64 ad) (.int .i64 ln) (.int .i64 ow) (.int .i64 lo) (.int .i64 hi) (.slice va dn vc) (.int .i64 nw) (.slice ua en uc)⟩
end Go.Proofs.YtcgjpmhjijmplaaGreatDoor
