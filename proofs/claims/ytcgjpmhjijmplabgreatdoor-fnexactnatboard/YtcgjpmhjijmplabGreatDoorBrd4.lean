/- What the program writes of a line of the board. -/
import Derived.Test.YtcgjpmhjijmplabGreatDoorShelf
import Derived.Test.YtcgjpmhjijmplabGreatDoorBrd2
import Derived.Test.YtcgjpmhjijmplabGreatDoorPass1
namespace Go.Proofs.YtcgjpmhjijmplabGreatDoor
open Go.ChangeShapes Go.WideShapes Go.ChangeAt Go.RowKit Go.Maps

/-- The table of strconv's is as its text lays it. -/
def Tb (w : World) : Prop := Lib.TabIs Tryz.prog w "internal/strconv.uint64pow10" .u64 Lib.pow10Tab
theorem Tb.below {w w' : World} (h : Tb w) (hb : Below w.heap.size w w') : Tb w' := (Lib.tabBelow_of_tabIs h) w' hb
theorem itoa_ret {n : Int} (h0 : 0 ≤ n) (h1 : n ≤ 100000000) (w : World) (ht : Tb w) : Calls Tryz.prog 95 #[.int .i64 n] w fun e w' => e = .returned (.string (St (Lib.itoa n))) ∧ Below w.heap.size w w' :=
  (strconv_Itoa n (by omega) (by omega) w ht).mono fun _ _ ⟨he, k, os, hw⟩ => ⟨he, by rw [hw]; exact Lib.below_grow _ _ (Nat.le_refl _) _ _⟩
theorem words_2 {w : World} {g : Nat} {e0 e1 : List UInt8} (h : Box w g #[Value.string (St e0), Value.string (St e1)]) : ∀ (j : Nat) x, [e0, e1][j]? = some x → w.cell? ⟨g, j, none⟩ = some (.string (St x)) := by
  intro j x hx
  rw [h.2 j]
  have hm : #[Value.string (St e0), Value.string (St e1)] = ([e0, e1].map fun e => Value.string (St e)).toArray := rfl
  rw [hm, List.getElem?_toArray, List.getElem?_map, hx]
  rfl
theorem words_5 {w : World} {g : Nat} {e0 e1 e2 e3 e4 : List UInt8} (h : Box w g #[Value.string (St e0), Value.string (St e1), Value.string (St e2), Value.string (St e3), Value.string (St e4)]) : ∀ (j : Nat) x, [e0, e1, e2, e3, e4][j]? = some x → w.cell? ⟨g, j, none⟩ = some (.string (St x)) := by
  intro j x hx
  rw [h.2 j]
  have hm : #[Value.string (St e0), Value.string (St e1), Value.string (St e2), Value.string (St e3), Value.string (St e4)] = ([e0, e1, e2, e3, e4].map fun e => Value.string (St e)).toArray := rfl
  rw [hm, List.getElem?_toArray, List.getElem?_map, hx]
  rfl
theorem words_9 {w : World} {g : Nat} {e0 e1 e2 e3 e4 e5 e6 e7 e8 : List UInt8} (h : Box w g #[Value.string (St e0), Value.string (St e1), Value.string (St e2), Value.string (St e3), Value.string (St e4), Value.string (St e5), Value.string (St e6), Value.string (St e7), Value.string (St e8)]) : ∀ (j : Nat) x, [e0, e1, e2, e3, e4, e5, e6, e7, e8][j]? = some x → w.cell? ⟨g, j, none⟩ = some (.string (St x)) := by
  intro j x hx
  rw [h.2 j]
  have hm : #[Value.string (St e0), Value.string (St e1), Value.string (St e2), Value.string (St e3), Value.string (St e4), Value.string (St e5), Value.string (St e6), Value.string (St e7), Value.string (St e8)] = ([e0, e1, e2, e3, e4, e5, e6, e7, e8].map fun e => Value.string (St e)).toArray := rfl
  rw [hm, List.getElem?_toArray, List.getElem?_map, hx]
  rfl
set_option maxRecDepth 20000 in
theorem natWords_ret (g c : Nat) (xs : List (List UInt8)) (w : World) (hc : ∀ (j : Nat) x, xs[j]? = some x → w.cell? ⟨g, j, none⟩ = some (.string (St x))) (hg : g < w.heap.size) (hN : xs.length ≤ 100) (hcap : xs.length ≤ c) (hl : (Lib.join xs [32]).length ≤ 100000) :
    Calls Tryz.prog 94 #[.slice (some ⟨g, 0, none⟩) xs.length c] w fun e w' => e = .returned (.string (St (Lib.join xs [32]))) ∧ Below w.heap.size w w' := by
  have hm : (xs.map St).map (·.data.toList) = xs := by simp [List.map_map, Function.comp_def]
  have H : Hid (Calls Tryz.prog _ _ _ _) := strings_Join g 0 c (xs.map St) (St [32]) w (fun j x hx => by
    rw [List.getElem?_map, Option.map_eq_some_iff] at hx
    obtain ⟨l, h1, rfl⟩ := hx
    rw [Nat.zero_add]
    exact hc j l h1) hg (by rw [List.length_map]; omega) (by rw [List.length_map]; exact hcap) (by rw [hm]; exact Nat.le_trans hl (by decide))
  rw [hm, List.length_map] at H
  clear hc hl hm
  go_enter Tryz.func94, Tryz.ntmps94
  go_wp2_with fail
  refine H.out.mono ?_
  rintro e w1 ⟨rfl, hb⟩
  go_wp2_with fail
  go_ret
  exact ⟨rfl, hb⟩
set_option maxRecDepth 20000 in
theorem natEnd_ret {a p : Int} (h0 : 0 ≤ a) (h1 : a ≤ 1000000) (h2 : 0 ≤ p) (h3 : p ≤ 1000000) (w : World) (ht : Tb w) : Calls Tryz.prog 96 #[.int .i64 a, .int .i64 p] w fun e w' => e = .returned (.string (St (atL a p))) ∧ Below w.heap.size w w' := by
  have hal := atL_len h0 h1 h2 h3
  obtain ⟨q, hq⟩ : ∃ q, a / 256 = q := ⟨_, rfl⟩
  obtain ⟨r, hr⟩ : ∃ r, a % 256 = r := ⟨_, rfl⟩
  have e1 : IntKind.i64.wrap (a.tdiv 256) = q := by
    rw [Int.tdiv_eq_ediv_of_nonneg h0, wrapI (by omega) (by omega)]
    exact hq
  have e2 : a.tmod 256 = r := by
    rw [Int.tmod_eq_emod_of_nonneg h0]
    exact hr
  have e3 : IntKind.i64.wrap (a / 256) = q := by rw [wrapI (by omega) (by omega)]; exact hq
  obtain ⟨x, hx⟩ : ∃ x, Lib.itoa q = x := ⟨_, rfl⟩
  obtain ⟨y, hy⟩ : ∃ x, Lib.itoa r = x := ⟨_, rfl⟩
  obtain ⟨z, hz⟩ : ∃ x, Lib.itoa p = x := ⟨_, rfl⟩
  have H1 : Hid (∀ w, Tb w → Calls Tryz.prog 95 #[.int .i64 q] w fun e w' => e = .returned (.string (St x)) ∧ Below w.heap.size w w') := fun w ht => by rw [← hx]; exact itoa_ret (by omega) (by omega) w ht
  have H2 : Hid (∀ w, Tb w → Calls Tryz.prog 95 #[.int .i64 r] w fun e w' => e = .returned (.string (St y)) ∧ Below w.heap.size w w') := fun w ht => by rw [← hy]; exact itoa_ret (by omega) (by omega) w ht
  have H3 : Hid (∀ w, Tb w → Calls Tryz.prog 95 #[.int .i64 p] w fun e w' => e = .returned (.string (St z)) ∧ Below w.heap.size w w') := fun w ht => by rw [← hz]; exact itoa_ret (by omega) (by omega) w ht
  have hA : atL a p = x ++ (46 :: (y ++ (58 :: z))) := by rw [atL, hq, hr, hx, hy, hz]
  rw [hA] at hal
  simp only [List.length_append, List.length_cons] at hal
  obtain ⟨t1, ht1⟩ : ∃ t, t = x ++ [46] := ⟨_, rfl⟩
  obtain ⟨t2, ht2⟩ : ∃ t, t = t1 ++ y := ⟨_, rfl⟩
  obtain ⟨t3, ht3⟩ : ∃ t, t = t2 ++ [58] := ⟨_, rfl⟩
  obtain ⟨t4, ht4⟩ : ∃ t, t = t3 ++ z := ⟨_, rfl⟩
  have l1 : t1.length = x.length + 1 := by rw [ht1]; simp
  have l2 : t2.length = t1.length + y.length := by rw [ht2]; simp
  have l3 : t3.length = t2.length + 1 := by rw [ht3]; simp
  have l4 : t4.length = t3.length + z.length := by rw [ht4]; simp
  have f1 := cat_facts ht1 (by omega)
  have f2 := cat_facts ht2 (by omega)
  have f3 := cat_facts ht3 (by omega)
  have f4 := cat_facts ht4 (by omega)
  rw [hA, show x ++ (46 :: (y ++ (58 :: z))) = t4 by rw [ht4, ht3, ht2, ht1]; simp]
  clear hA hal hq hr hx hy hz l1 l2 l3 l4 ht1 ht2 ht3 ht4
  obtain ⟨k1, j1⟩ := f1
  obtain ⟨k2, j2⟩ := f2
  obtain ⟨k3, j3⟩ := f3
  obtain ⟨k4, j4⟩ := f4
  simp only [List.length_cons, List.length_nil] at k1 k3
  go_enter Tryz.func96, Tryz.ntmps96
  go_wp2_with fail
  refine (H1.out _ ht).mono ?_
  rintro e w1 ⟨rfl, b1⟩
  go_wp2_with fail
  refine (H2.out _ (ht.below b1)).mono ?_
  rintro e w2 ⟨rfl, b2⟩
  go_wp2_with fail
  refine (H3.out _ (ht.below (bl_trans b1 b2))).mono ?_
  rintro e w3 ⟨rfl, b3⟩
  go_wp2_with fail
  go_ret
  exact ⟨rfl, bl_trans (bl_trans b1 b2) b3⟩
set_option maxRecDepth 20000 in
theorem now_ret (ad ln ow lo hi nw : Int) (da : Option Addr) (dn dc : Nat) (ea : Option Addr) (en ec : Nat) (p : Int) (w : World) (hn : 0 ≤ nw ∧ nw ≤ 1000000) (ht : Tb w) :
    Calls Tryz.prog 68 #[.agg #[.int .i64 ad, .int .i64 ln, .int .i64 ow, .int .i64 lo, .int .i64 hi, .slice da dn dc, .int .i64 nw, .slice ea en ec], .int .i64 p] w fun e w' => e = .returned (.string (St (nowL nw))) ∧ Below w.heap.size w w' := by
  have hB := bl_alloc (bl_refl w) (.cells #[.int .i64 ad, .int .i64 ln, .int .i64 ow, .int .i64 lo, .int .i64 hi, .slice da dn dc, .int .i64 nw, .slice ea en ec] 78)
  have x2 := Box.new w #[.int .i64 ad, .int .i64 ln, .int .i64 ow, .int .i64 lo, .int .i64 hi, .slice da dn dc, .int .i64 nw, .slice ea en ec] 78
  obtain ⟨x, hx⟩ : ∃ x, Lib.itoa nw = x := ⟨_, rfl⟩
  have lx : x.length ≤ 21 := hx ▸ itoa_len (by omega) (by omega)
  have Hx : Hid (∀ w, Tb w → Calls Tryz.prog 95 #[.int .i64 nw] w fun e w' => e = .returned (.string (St x)) ∧ Below w.heap.size w w') := fun w ht => by rw [← hx]; exact itoa_ret (by omega) (by omega) w ht
  have hJ : Hid (Lib.join [[110, 111, 119], x] [32] = nowL nw) := by
    show _ = _
    rw [nowL, hx]
    simp [Lib.join_cons, Lib.joinTail]
  have hJl : Hid ((Lib.join [[110, 111, 119], x] [32]).length ≤ 100000) := by
    show _ ≤ _
    rw [hJ.out, nowL, hx]
    simp only [List.length_cons]
    omega
  obtain ⟨L, hL⟩ : ∃ L, nowL nw = L := ⟨_, rfl⟩
  rw [hL]
  rw [hL] at hJ
  clear hx lx hn hL
  replace ht := ht.below hB
  have y2 := x2.2
  go_enter Tryz.func68, Tryz.ntmps68
  go_wp2_with fail
  refine (Hx.out _ ht).mono ?_
  rintro e w1 ⟨rfl, hb⟩
  replace hB := bl_trans hB hb
  clear hb
  have hg := Box.new w1 #[.string (St [110, 111, 119]), .string (St x)] 9
  have hb := bl_alloc hB (.cells #[.string (St [110, 111, 119]), .string (St x)] 9)
  have hw := natWords_ret w1.heap.size 2 [[110, 111, 119], x] _ (words_2 hg) hg.1 (by simp) (by simp) hJl.out
  rw [hJ.out] at hw
  replace hw : Hid (Calls Tryz.prog _ _ _ _) := hw
  go_wp2_with fail
  refine hw.out.mono ?_
  rintro e w2 ⟨rfl, hb2⟩
  go_wp2_with fail
  go_ret
  exact ⟨rfl, bl_trans hb hb2⟩
set_option maxRecDepth 20000 in
set_option maxHeartbeats 2000000 in
theorem door_ret (ad ln ow lo hi nw : Int) (da : Option Addr) (dn dc : Nat) (ea : Option Addr) (en ec : Nat) (ds : List Dr) (i : Nat) (d : Dr) (w : World) (hD : DoorsAt w da dn ds) (hd : ds[i]? = some d) (how : 0 ≤ ow ∧ ow ≤ 65535) (hN : DNum d) (ht : Tb w) :
    Calls Tryz.prog 66 #[.agg #[.int .i64 ad, .int .i64 ln, .int .i64 ow, .int .i64 lo, .int .i64 hi, .slice da dn dc, .int .i64 nw, .slice ea en ec], .int .i64 i] w fun e w' => e = .returned (.string (St (doorL ow d))) ∧ Below w.heap.size w w' := by
  have hlt := (List.getElem?_eq_some_iff.1 hd).1
  obtain ⟨rfl, h0 | ⟨b, of, rfl, hbl, hc⟩⟩ := hD
  · rw [h0] at hlt
    simp at hlt
  obtain ⟨c0, c1, c2, c3⟩ := hc i d hd
  have hlen := doorL_len how.1 how.2 hN
  obtain ⟨k0, k1, k2, k3⟩ := hN
  obtain ⟨x, hx⟩ : ∃ x, Lib.itoa d.k = x := ⟨_, rfl⟩
  have lx : x.length ≤ 21 := hx ▸ itoa_len (by omega) (by omega)
  obtain ⟨A1, hA1⟩ : ∃ x, atL ow d.o = x := ⟨_, rfl⟩
  have lA1 : A1.length ≤ 70 := hA1 ▸ atL_len (by omega) (by omega) (by omega) (by omega)
  obtain ⟨A2, hA2⟩ : ∃ x, atL d.i d.p = x := ⟨_, rfl⟩
  have lA2 : A2.length ≤ 70 := hA2 ▸ atL_len (by omega) (by omega) (by omega) (by omega)
  obtain ⟨L, hL⟩ : ∃ L, doorL ow d = L := ⟨_, rfl⟩
  rw [hL]
  rw [hL] at hlen
  have hJ : Hid (Lib.join [[100, 111, 111, 114], x, A1, [116, 111], A2] [32] = L) := by
    show _ = _
    rw [← hL, doorL, hx, hA1, hA2]
    simp [Lib.join_cons, Lib.joinTail]
  have hJl : Hid ((Lib.join [[100, 111, 111, 114], x, A1, [116, 111], A2] [32]).length ≤ 100000) := by
    show _ ≤ _
    rw [hJ.out]
    omega
  have Hx : Hid (∀ w, Tb w → Calls Tryz.prog 95 #[.int .i64 d.k] w fun e w' => e = .returned (.string (St x)) ∧ Below w.heap.size w w') := fun w ht => by rw [← hx]; exact itoa_ret (by omega) (by omega) w ht
  have HA1 : Hid (∀ w, Tb w → Calls Tryz.prog 96 #[.int .i64 ow, .int .i64 d.o] w fun e w' => e = .returned (.string (St A1)) ∧ Below w.heap.size w w') := fun w ht => by rw [← hA1]; exact natEnd_ret (by omega) (by omega) (by omega) (by omega) w ht
  have HA2 : Hid (∀ w, Tb w → Calls Tryz.prog 96 #[.int .i64 d.i, .int .i64 d.p] w fun e w' => e = .returned (.string (St A2)) ∧ Below w.heap.size w w') := fun w ht => by rw [← hA2]; exact natEnd_ret (by omega) (by omega) (by omega) (by omega) w ht
  clear hx hA1 hA2 hL lx lA1 lA2 k0 k1 k2 k3 how hlen hc hd
  have hlt' : (i : Int) < (ds.length : Int) := by omega
  have hb0 := bl_alloc (bl_refl w) (.cells #[.int .i64 ad, .int .i64 ln, .int .i64 ow, .int .i64 lo, .int .i64 hi, .slice (some ⟨b, of, none⟩) ds.length dc, .int .i64 nw, .slice ea en ec] 78)
  have c0' := (hb0.cell (p := ⟨b, of + i * 4, none⟩) hbl).trans c0
  have c1' := (hb0.cell (p := ⟨b, of + i * 4 + 1, none⟩) hbl).trans c1
  have c2' := (hb0.cell (p := ⟨b, of + i * 4 + 2, none⟩) hbl).trans c2
  have c3' := (hb0.cell (p := ⟨b, of + i * 4 + 3, none⟩) hbl).trans c3
  have hB := bl_alloc hb0 (.cells #[.int .i64 d.k, .int .i64 d.o, .int .i64 d.i, .int .i64 d.p] 52)
  have x2 := (Box.new w #[.int .i64 ad, .int .i64 ln, .int .i64 ow, .int .i64 lo, .int .i64 hi, .slice (some ⟨b, of, none⟩) ds.length dc, .int .i64 nw, .slice ea en ec] 78).below (bl_alloc (bl_refl _) (.cells #[.int .i64 d.k, .int .i64 d.o, .int .i64 d.i, .int .i64 d.p] 52))
  have x5 := Box.new (w.alloc (.cells #[.int .i64 ad, .int .i64 ln, .int .i64 ow, .int .i64 lo, .int .i64 hi, .slice (some ⟨b, of, none⟩) ds.length dc, .int .i64 nw, .slice ea en ec] 78)) #[.int .i64 d.k, .int .i64 d.o, .int .i64 d.i, .int .i64 d.p] 52
  simp only [World.size_alloc] at x5
  replace ht := ht.below hB
  clear c0 c1 c2 c3 hb0
  go_enter Tryz.func66, Tryz.ntmps66
  go_upto_region 2 with fail
  clear c0' c1' c2' c3'
  generalize ((w.alloc (.cells #[.int .i64 ad, .int .i64 ln, .int .i64 ow, .int .i64 lo, .int .i64 hi, .slice (some ⟨b, of, none⟩) ds.length dc, .int .i64 nw, .slice ea en ec] 78)).alloc (.cells #[.int .i64 d.k, .int .i64 d.o, .int .i64 d.i, .int .i64 d.p] 52)) = W5 at *
  generalize w.heap.size + 1 = n5 at *
  generalize hn2 : w.heap.size = n2 at x2 x5 ⊢
  refine wp_region_held_drew (S := (fun w' => Box w' n2 #[.int .i64 ad, .int .i64 ln, .int .i64 ow, .int .i64 lo, .int .i64 hi, .slice (some ⟨b, of, none⟩) ds.length dc, .int .i64 nw, .slice ea en ec] ∧ Box w' n5 #[.int .i64 d.k, .int .i64 d.o, .int .i64 d.i, .int .i64 d.p])) (by kernel_rfl) ?_ (fun hHeld => ?_)
  · exact ⟨x2.below (bl_drew (bl_refl _)), x5.below (bl_drew (bl_refl _))⟩
  have hb := bl_drew (bl_refl W5)
  replace x2 := x2.below hb
  replace x5 := x5.below hb
  replace ht := ht.below hb
  replace hB := bl_trans hB hb
  clear hb
  generalize W5.drew = W0 at x2 x5 ht hB hHeld ⊢
  refine takeL 0 12 ?_ ?_ hHeld ?_
  rotate_left
  · (intro w hSw; (try dsimp only at hSw); simp only [Box] at hSw; go_simp; try with_reducible rfl)
  simp only [Act.put, puA, puB, puC]
  refine takeL 1 13 ?_ ?_ hHeld ?_
  rotate_left
  · (intro w hSw; (try dsimp only at hSw); simp only [Box] at hSw; go_simp; try with_reducible rfl)
  simp only [Act.put, puA, puB, puC]
  refine takeL 3 15 ?_ ?_ hHeld ?_
  rotate_left
  · (intro w hSw; (try dsimp only at hSw); simp only [Box] at hSw; go_simp; try with_reducible rfl)
  simp only [Act.put, puA, puB, puC]
  refine takeL 4 16 ?_ ?_ hHeld ?_
  rotate_left
  · (intro w hSw; (try dsimp only at hSw); simp only [Box] at hSw; go_simp; try with_reducible rfl)
  simp only [Act.put, puA, puB, puC]
  refine takeL 5 17 ?_ ?_ hHeld ?_
  rotate_left
  · (intro w hSw; (try dsimp only at hSw); simp only [Box] at hSw; go_simp; try with_reducible rfl)
  simp only [Act.put, puA, puB, puC]
  refine takeL 6 18 ?_ ?_ hHeld ?_
  rotate_left
  · (intro w hSw; (try dsimp only at hSw); simp only [Box] at hSw; go_simp; try with_reducible rfl)
  simp only [Act.put, puA, puB, puC]
  refine takeL 7 19 ?_ ?_ hHeld ?_
  rotate_left
  · (intro w hSw; (try dsimp only at hSw); simp only [Box] at hSw; go_simp; try with_reducible rfl)
  simp only [Act.put, puA, puB, puC]
  refine takeL 9 21 ?_ ?_ hHeld ?_
  rotate_left
  · (intro w hSw; (try dsimp only at hSw); simp only [Box] at hSw; go_simp; try with_reducible rfl)
  simp only [Act.put, puA, puB, puC]
  refine takeL 10 22 ?_ ?_ hHeld ?_
  rotate_left
  · (intro w hSw; (try dsimp only at hSw); simp only [Box] at hSw; go_simp; try with_reducible rfl)
  simp only [Act.put, puA, puB, puC]
  refine takeL 11 23 ?_ ?_ hHeld ?_
  rotate_left
  · (intro w hSw; (try dsimp only at hSw); simp only [Box] at hSw; go_simp; try with_reducible rfl)
  simp only [Act.put, puA, puB, puC]
  refine takeL 12 24 ?_ ?_ hHeld ?_
  rotate_left
  · (intro w hSw; (try dsimp only at hSw); simp only [Box] at hSw; go_simp; try with_reducible rfl)
  simp only [Act.put, puA, puB, puC]
  refine wpAnyH_ready (rs := [2]) (by kernel_rfl) (by simp) (AllReadyH.cons rfl (fun K hK => ?_) (AllReadyH.nil))
  refine step_callg 14 95 rfl (by kernel_rfl) (Hx.out _ ht) (by kernel_rfl) ?_
  rintro e W1 ⟨rfl, hb⟩
  refine ⟨_, rfl, ?_⟩
  simp only [Act.put, puA, puB, puC]
  replace x2 := x2.below hb
  replace x5 := x5.below hb
  replace ht := ht.below hb
  replace hB := bl_trans hB hb
  clear hb
  refine hK.out _ _ ?_ (fun hHeld1 => ?_)
  · exact ⟨x2, x5⟩
  clear hK K hHeld
  have hHeld := hHeld1
  clear hHeld1
  refine wpAnyH_ready (rs := [8]) (by kernel_rfl) (by simp) (AllReadyH.cons rfl (fun K hK => ?_) (AllReadyH.nil))
  refine step_callg 20 96 rfl (by kernel_rfl) (HA1.out _ ht) (by kernel_rfl) ?_
  rintro e W1 ⟨rfl, hb⟩
  refine ⟨_, rfl, ?_⟩
  simp only [Act.put, puA, puB, puC]
  replace x2 := x2.below hb
  replace x5 := x5.below hb
  replace ht := ht.below hb
  replace hB := bl_trans hB hb
  clear hb
  refine hK.out _ _ ?_ (fun hHeld1 => ?_)
  · exact ⟨x2, x5⟩
  clear hK K hHeld
  have hHeld := hHeld1
  clear hHeld1
  refine wpAnyH_ready (rs := [13]) (by kernel_rfl) (by simp) (AllReadyH.cons rfl (fun K hK => ?_) (AllReadyH.nil))
  refine step_callg 25 96 rfl (by kernel_rfl) (HA2.out _ ht) (by kernel_rfl) ?_
  rintro e W1 ⟨rfl, hb⟩
  refine ⟨_, rfl, ?_⟩
  simp only [Act.put, puA, puB, puC]
  replace x2 := x2.below hb
  replace x5 := x5.below hb
  replace ht := ht.below hb
  replace hB := bl_trans hB hb
  clear hb
  refine hK.out _ _ ?_ (fun hHeld1 => ?_)
  · exact ⟨x2, x5⟩
  clear hK K hHeld
  have hHeld := hHeld1
  clear hHeld1
  refine wpAnyH_ready (rs := [14]) (by kernel_rfl) (by simp) (AllReadyH.cons rfl (fun K hK => ?_) (AllReadyH.nil))
  go_simp
  skip
  refine hK.out _ _ ?_ (fun hHeld1 => ?_)
  · exact ⟨x2.below (bl_alloc (bl_refl _) _), x5.below (bl_alloc (bl_refl _) _)⟩
  clear hK K hHeld
  have hHeld := hHeld1
  clear hHeld1
  have hg := Box.new W1 #[.string (St [100, 111, 111, 114]), .string (St x), .string (St A1), .string (St [116, 111]), .string (St A2)] 9
  have hb := bl_alloc (bl_refl W1) (.cells #[.string (St [100, 111, 111, 114]), .string (St x), .string (St A1), .string (St [116, 111]), .string (St A2)] 9)
  replace x2 := x2.below hb
  replace x5 := x5.below hb
  replace ht := ht.below hb
  replace hB := bl_trans hB hb
  clear hb
  generalize W1.alloc (.cells #[.string (St [100, 111, 111, 114]), .string (St x), .string (St A1), .string (St [116, 111]), .string (St A2)] 9) = W7 at x2 x5 ht hB hg hHeld ⊢
  generalize W1.heap.size = g at hg hHeld ⊢
  refine wpAnyH_ready (rs := [15]) (by kernel_rfl) (by simp) (AllReadyH.cons rfl (fun K hK => ?_) (AllReadyH.nil))
  have hw := natWords_ret g 5 [[100, 111, 111, 114], x, A1, [116, 111], A2] W7 (words_5 hg) hg.1 (by simp) (by simp) hJl.out
  rw [hJ.out] at hw
  refine step_callg 27 94 rfl (by kernel_rfl) hw (by kernel_rfl) ?_
  clear hw
  rintro e W1 ⟨rfl, hb⟩
  refine ⟨_, rfl, ?_⟩
  simp only [Act.put, puA, puB, puC]
  replace x2 := x2.below hb
  replace x5 := x5.below hb
  replace ht := ht.below hb
  replace hB := bl_trans hB hb
  clear hb
  refine hK.out _ _ ?_ (fun hHeld1 => ?_)
  · exact ⟨x2, x5⟩
  clear hK K hHeld
  have hHeld := hHeld1
  clear hHeld1
  refine takeL 16 4 ?_ ?_ hHeld ?_
  rotate_left
  · (intro w hSw; (try dsimp only at hSw); simp only [Box] at hSw; go_simp; try with_reducible rfl)
  simp only [Act.put, puA, puB, puC]
  refine wpAnyH_done (by kernel_rfl) ?_ _
  clear hHeld
  go_wp2_with fail
  go_ret
  exact ⟨rfl, hB⟩
set_option maxRecDepth 20000 in
theorem natLeft_ret (ad ln ow lo hi nw : Int) (da : Option Addr) (dn dc : Nat) (ea : Option Addr) (en ec : Nat) (d : En) (w : World) (n0 : 0 ≤ nw) (n1 : nw ≤ 1000000) (q0 : 0 ≤ d.l) (q1 : d.l ≤ nw) : Calls Tryz.prog 97 #[.agg #[.int .i64 ad, .int .i64 ln, .int .i64 ow, .int .i64 lo, .int .i64 hi, .slice da dn dc, .int .i64 nw, .slice ea en ec], .agg #[.int .i64 d.k, .int .i64 d.pr, .int .i64 d.pp, .int .i64 d.o, .int .i64 d.i, .int .i64 d.ip, .int .i64 d.l]] w fun e w' => e = .returned (.tuple #[.string (St (leftW nw d.l)), .int .i64 (leftN nw d.l)]) ∧ Below w.heap.size w w' := by
  have hB := bl_alloc (bl_alloc (bl_refl w) (.cells #[.int .i64 ad, .int .i64 ln, .int .i64 ow, .int .i64 lo, .int .i64 hi, .slice da dn dc, .int .i64 nw, .slice ea en ec] 35)) (.cells #[.int .i64 d.k, .int .i64 d.pr, .int .i64 d.pp, .int .i64 d.o, .int .i64 d.i, .int .i64 d.ip, .int .i64 d.l] 55)
  have x2 := (Box.new w #[.int .i64 ad, .int .i64 ln, .int .i64 ow, .int .i64 lo, .int .i64 hi, .slice da dn dc, .int .i64 nw, .slice ea en ec] 35).below (bl_alloc (bl_refl _) (.cells #[.int .i64 d.k, .int .i64 d.pr, .int .i64 d.pp, .int .i64 d.o, .int .i64 d.i, .int .i64 d.ip, .int .i64 d.l] 55))
  have x3 := Box.new (w.alloc (.cells #[.int .i64 ad, .int .i64 ln, .int .i64 ow, .int .i64 lo, .int .i64 hi, .slice da dn dc, .int .i64 nw, .slice ea en ec] 35)) #[.int .i64 d.k, .int .i64 d.pr, .int .i64 d.pp, .int .i64 d.o, .int .i64 d.i, .int .i64 d.ip, .int .i64 d.l] 55
  simp only [World.size_alloc] at x3
  have wN : IntKind.i64.wrap (nw - d.l) = nw - d.l := wrapI (by omega) (by omega)
  by_cases hv : liveB nw d.l = true
  · have wM : IntKind.i64.wrap (8 - (nw - d.l)) = 8 - (nw - d.l) := wrapI (by omega) (by omega)
    have H : Hid (∀ w, Calls Tryz.prog 115 #[.agg #[.int .i64 ad, .int .i64 ln, .int .i64 ow, .int .i64 lo, .int .i64 hi, .slice da dn dc, .int .i64 nw, .slice ea en ec], .agg #[.int .i64 d.k, .int .i64 d.pr, .int .i64 d.pp, .int .i64 d.o, .int .i64 d.i, .int .i64 d.ip, .int .i64 d.l]] w fun e w' => e = .returned (.bool true) ∧ Below w.heap.size w w') := fun w => lives_v ad ln ow lo hi nw da dn dc ea en ec d true w n0 n1 q0 q1 hv
    rw [leftW, leftN, if_pos hv, if_pos hv]
    clear hv q0 q1 n0 n1
    have y2 := x2.2
    have y3 := x3.2
    go_enter Tryz.func97, Tryz.ntmps97
    go_wp2_with fail
    refine (H.out _).mono ?_
    rintro e w1 ⟨rfl, hb⟩
    go_wp2_with fail
    go_ret2
    exact ⟨rfl, bl_trans hB hb⟩
  · have hv' : liveB nw d.l = false := by simpa using hv
    have wM : IntKind.i64.wrap (12 - (nw - d.l)) = 12 - (nw - d.l) := wrapI (by omega) (by omega)
    have H : Hid (∀ w, Calls Tryz.prog 115 #[.agg #[.int .i64 ad, .int .i64 ln, .int .i64 ow, .int .i64 lo, .int .i64 hi, .slice da dn dc, .int .i64 nw, .slice ea en ec], .agg #[.int .i64 d.k, .int .i64 d.pr, .int .i64 d.pp, .int .i64 d.o, .int .i64 d.i, .int .i64 d.ip, .int .i64 d.l]] w fun e w' => e = .returned (.bool false) ∧ Below w.heap.size w w') := fun w => lives_v ad ln ow lo hi nw da dn dc ea en ec d false w n0 n1 q0 q1 hv'
    rw [leftW, leftN, if_neg hv, if_neg hv]
    clear hv hv' q0 q1 n0 n1
    have y2 := x2.2
    have y3 := x3.2
    go_enter Tryz.func97, Tryz.ntmps97
    go_wp2_with fail
    refine (H.out _).mono ?_
    rintro e w1 ⟨rfl, hb⟩
    go_wp2_with fail
    go_ret2
    exact ⟨rfl, bl_trans hB hb⟩
set_option maxRecDepth 20000 in
set_option maxHeartbeats 2000000 in
theorem flow_ret (ad ln ow lo hi nw : Int) (da : Option Addr) (dn dc : Nat) (ea : Option Addr) (en ec : Nat) (es : List En) (i : Nat) (d : En) (w : World) (hE : EntriesAt w ea en es) (hd : es[i]? = some d) (how : 0 ≤ ow ∧ ow ≤ 65535) (hn : 0 ≤ nw ∧ nw ≤ 1000000) (hN : ENum nw d) (ht : Tb w) :
    Calls Tryz.prog 67 #[.agg #[.int .i64 ad, .int .i64 ln, .int .i64 ow, .int .i64 lo, .int .i64 hi, .slice da dn dc, .int .i64 nw, .slice ea en ec], .int .i64 i] w fun e w' => e = .returned (.string (St (flowL ow nw d))) ∧ Below w.heap.size w w' := by
  have hlt := (List.getElem?_eq_some_iff.1 hd).1
  obtain ⟨rfl, h0 | ⟨b, of, rfl, hbl, hc⟩⟩ := hE
  · rw [h0] at hlt
    simp at hlt
  obtain ⟨c0, c1, c2, c3, c4, c5, c6⟩ := hc i d hd
  have hlen := flowL_len how.1 how.2 hN
  obtain ⟨⟨k0, k1, k2⟩, ⟨k3, k4, k5⟩, ⟨q0, q1⟩, q2⟩ := hN
  have hq := leftN_in q1 q2
  obtain ⟨x, hx⟩ : ∃ x, Lib.itoa d.k = x := ⟨_, rfl⟩
  have lx : x.length ≤ 21 := hx ▸ itoa_len (by omega) (by omega)
  obtain ⟨A1, hA1⟩ : ∃ x, atL d.i d.ip = x := ⟨_, rfl⟩
  have lA1 : A1.length ≤ 70 := hA1 ▸ atL_len (by omega) (by omega) (by omega) (by omega)
  obtain ⟨A2, hA2⟩ : ∃ x, atL ow d.o = x := ⟨_, rfl⟩
  have lA2 : A2.length ≤ 70 := hA2 ▸ atL_len (by omega) (by omega) (by omega) (by omega)
  obtain ⟨A3, hA3⟩ : ∃ x, atL d.pr d.pp = x := ⟨_, rfl⟩
  have lA3 : A3.length ≤ 70 := hA3 ▸ atL_len (by omega) (by omega) (by omega) (by omega)
  obtain ⟨z, hz⟩ : ∃ x, Lib.itoa (leftN nw d.l) = x := ⟨_, rfl⟩
  have lz : z.length ≤ 21 := hz ▸ itoa_len (by omega) (by omega)
  obtain ⟨N, hNe⟩ : ∃ N, leftN nw d.l = N := ⟨_, rfl⟩
  rw [hNe] at hz hq
  obtain ⟨s, hs⟩ : ∃ s, leftW nw d.l = s := ⟨_, rfl⟩
  obtain ⟨L, hL⟩ : ∃ L, flowL ow nw d = L := ⟨_, rfl⟩
  rw [hL]
  rw [hL] at hlen
  have hJ : Hid (Lib.join [[102, 108, 111, 119], x, A1, [97, 115], A2, [116, 111], A3, s, z] [32] = L) := by
    show _ = _
    rw [← hL, flowL, hx, hA1, hA2, hA3, hs, hNe, hz]
    simp [Lib.join_cons, Lib.joinTail]
  have hJl : Hid ((Lib.join [[102, 108, 111, 119], x, A1, [97, 115], A2, [116, 111], A3, s, z] [32]).length ≤ 100000) := by
    show _ ≤ _
    rw [hJ.out]
    omega
  have Hx : Hid (∀ w, Tb w → Calls Tryz.prog 95 #[.int .i64 d.k] w fun e w' => e = .returned (.string (St x)) ∧ Below w.heap.size w w') := fun w ht => by rw [← hx]; exact itoa_ret (by omega) (by omega) w ht
  have HA1 : Hid (∀ w, Tb w → Calls Tryz.prog 96 #[.int .i64 d.i, .int .i64 d.ip] w fun e w' => e = .returned (.string (St A1)) ∧ Below w.heap.size w w') := fun w ht => by rw [← hA1]; exact natEnd_ret (by omega) (by omega) (by omega) (by omega) w ht
  have HA2 : Hid (∀ w, Tb w → Calls Tryz.prog 96 #[.int .i64 ow, .int .i64 d.o] w fun e w' => e = .returned (.string (St A2)) ∧ Below w.heap.size w w') := fun w ht => by rw [← hA2]; exact natEnd_ret (by omega) (by omega) (by omega) (by omega) w ht
  have HA3 : Hid (∀ w, Tb w → Calls Tryz.prog 96 #[.int .i64 d.pr, .int .i64 d.pp] w fun e w' => e = .returned (.string (St A3)) ∧ Below w.heap.size w w') := fun w ht => by rw [← hA3]; exact natEnd_ret (by omega) (by omega) (by omega) (by omega) w ht
  have Hz : Hid (∀ w, Tb w → Calls Tryz.prog 95 #[.int .i64 N] w fun e w' => e = .returned (.string (St z)) ∧ Below w.heap.size w w') := fun w ht => by rw [← hz]; exact itoa_ret (by omega) (by omega) w ht
  have HL : Hid (∀ w, Calls Tryz.prog 97 #[.agg #[.int .i64 ad, .int .i64 ln, .int .i64 ow, .int .i64 lo, .int .i64 hi, .slice da dn dc, .int .i64 nw, .slice (some ⟨b, of, none⟩) es.length ec], .agg #[.int .i64 d.k, .int .i64 d.pr, .int .i64 d.pp, .int .i64 d.o, .int .i64 d.i, .int .i64 d.ip, .int .i64 d.l]] w fun e w' => e = .returned (.tuple #[.string (St s), .int .i64 N]) ∧ Below w.heap.size w w') := fun w => by rw [← hs, ← hNe]; exact natLeft_ret ad ln ow lo hi nw da dn dc (some ⟨b, of, none⟩) es.length ec d w hn.1 hn.2 q0 q1
  clear hx hA1 hA2 hA3 hz hL hs hNe lx lA1 lA2 lA3 lz k0 k1 k2 k3 k4 k5 q0 q1 q2 hq how hn hlen hc hd
  have hlt' : (i : Int) < (es.length : Int) := by omega
  have hb0 := bl_alloc (bl_refl w) (.cells #[.int .i64 ad, .int .i64 ln, .int .i64 ow, .int .i64 lo, .int .i64 hi, .slice da dn dc, .int .i64 nw, .slice (some ⟨b, of, none⟩) es.length ec] 78)
  have c0' := (hb0.cell (p := ⟨b, of + i * 7, none⟩) hbl).trans c0
  have c1' := (hb0.cell (p := ⟨b, of + i * 7 + 1, none⟩) hbl).trans c1
  have c2' := (hb0.cell (p := ⟨b, of + i * 7 + 2, none⟩) hbl).trans c2
  have c3' := (hb0.cell (p := ⟨b, of + i * 7 + 3, none⟩) hbl).trans c3
  have c4' := (hb0.cell (p := ⟨b, of + i * 7 + 4, none⟩) hbl).trans c4
  have c5' := (hb0.cell (p := ⟨b, of + i * 7 + 5, none⟩) hbl).trans c5
  have c6' := (hb0.cell (p := ⟨b, of + i * 7 + 6, none⟩) hbl).trans c6
  have hB := bl_alloc hb0 (.cells #[.int .i64 d.k, .int .i64 d.pr, .int .i64 d.pp, .int .i64 d.o, .int .i64 d.i, .int .i64 d.ip, .int .i64 d.l] 55)
  have x2 := (Box.new w #[.int .i64 ad, .int .i64 ln, .int .i64 ow, .int .i64 lo, .int .i64 hi, .slice da dn dc, .int .i64 nw, .slice (some ⟨b, of, none⟩) es.length ec] 78).below (bl_alloc (bl_refl _) (.cells #[.int .i64 d.k, .int .i64 d.pr, .int .i64 d.pp, .int .i64 d.o, .int .i64 d.i, .int .i64 d.ip, .int .i64 d.l] 55))
  have x5 := Box.new (w.alloc (.cells #[.int .i64 ad, .int .i64 ln, .int .i64 ow, .int .i64 lo, .int .i64 hi, .slice da dn dc, .int .i64 nw, .slice (some ⟨b, of, none⟩) es.length ec] 78)) #[.int .i64 d.k, .int .i64 d.pr, .int .i64 d.pp, .int .i64 d.o, .int .i64 d.i, .int .i64 d.ip, .int .i64 d.l] 55
  simp only [World.size_alloc] at x5
  replace ht := ht.below hB
  clear c0 c1 c2 c3 c4 c5 c6 hb0
  go_enter Tryz.func67, Tryz.ntmps67
  go_upto_region 2 with fail
  clear c0' c1' c2' c3' c4' c5' c6'
  generalize ((w.alloc (.cells #[.int .i64 ad, .int .i64 ln, .int .i64 ow, .int .i64 lo, .int .i64 hi, .slice da dn dc, .int .i64 nw, .slice (some ⟨b, of, none⟩) es.length ec] 78)).alloc (.cells #[.int .i64 d.k, .int .i64 d.pr, .int .i64 d.pp, .int .i64 d.o, .int .i64 d.i, .int .i64 d.ip, .int .i64 d.l] 55)) = W5 at *
  generalize w.heap.size + 1 = n5 at *
  generalize hn2 : w.heap.size = n2 at x2 x5 ⊢
  have y2 := x2.2
  have y5 := x5.2
  go_wp2_with fail
  refine (HL.out _).mono ?_
  rintro e W6 ⟨rfl, hb⟩
  replace x2 := x2.below hb
  replace x5 := x5.below hb
  replace ht := ht.below hb
  replace hB := bl_trans hB hb
  clear hb y2 y5 HL
  go_upto_region 3 with fail
  refine wp_region_held_drew (S := (fun w' => Box w' n2 #[.int .i64 ad, .int .i64 ln, .int .i64 ow, .int .i64 lo, .int .i64 hi, .slice da dn dc, .int .i64 nw, .slice (some ⟨b, of, none⟩) es.length ec] ∧ Box w' n5 #[.int .i64 d.k, .int .i64 d.pr, .int .i64 d.pp, .int .i64 d.o, .int .i64 d.i, .int .i64 d.ip, .int .i64 d.l])) (by kernel_rfl) ?_ (fun hHeld => ?_)
  · exact ⟨x2.below (bl_drew (bl_refl _)), x5.below (bl_drew (bl_refl _))⟩
  have hb := bl_drew (bl_refl W6)
  replace x2 := x2.below hb
  replace x5 := x5.below hb
  replace ht := ht.below hb
  replace hB := bl_trans hB hb
  clear hb
  generalize W6.drew = W0 at x2 x5 ht hB hHeld ⊢
  refine takeL 0 21 ?_ ?_ hHeld ?_
  rotate_left
  · (intro w hSw; (try dsimp only at hSw); simp only [Box] at hSw; go_simp; try with_reducible rfl)
  simp only [Act.put, puA, puB, puC]
  refine takeL 1 22 ?_ ?_ hHeld ?_
  rotate_left
  · (intro w hSw; (try dsimp only at hSw); simp only [Box] at hSw; go_simp; try with_reducible rfl)
  simp only [Act.put, puA, puB, puC]
  refine takeL 3 24 ?_ ?_ hHeld ?_
  rotate_left
  · (intro w hSw; (try dsimp only at hSw); simp only [Box] at hSw; go_simp; try with_reducible rfl)
  simp only [Act.put, puA, puB, puC]
  refine takeL 4 25 ?_ ?_ hHeld ?_
  rotate_left
  · (intro w hSw; (try dsimp only at hSw); simp only [Box] at hSw; go_simp; try with_reducible rfl)
  simp only [Act.put, puA, puB, puC]
  refine takeL 5 26 ?_ ?_ hHeld ?_
  rotate_left
  · (intro w hSw; (try dsimp only at hSw); simp only [Box] at hSw; go_simp; try with_reducible rfl)
  simp only [Act.put, puA, puB, puC]
  refine takeL 6 27 ?_ ?_ hHeld ?_
  rotate_left
  · (intro w hSw; (try dsimp only at hSw); simp only [Box] at hSw; go_simp; try with_reducible rfl)
  simp only [Act.put, puA, puB, puC]
  refine takeL 8 29 ?_ ?_ hHeld ?_
  rotate_left
  · (intro w hSw; (try dsimp only at hSw); simp only [Box] at hSw; go_simp; try with_reducible rfl)
  simp only [Act.put, puA, puB, puC]
  refine takeL 9 30 ?_ ?_ hHeld ?_
  rotate_left
  · (intro w hSw; (try dsimp only at hSw); simp only [Box] at hSw; go_simp; try with_reducible rfl)
  simp only [Act.put, puA, puB, puC]
  refine takeL 10 31 ?_ ?_ hHeld ?_
  rotate_left
  · (intro w hSw; (try dsimp only at hSw); simp only [Box] at hSw; go_simp; try with_reducible rfl)
  simp only [Act.put, puA, puB, puC]
  refine takeL 11 32 ?_ ?_ hHeld ?_
  rotate_left
  · (intro w hSw; (try dsimp only at hSw); simp only [Box] at hSw; go_simp; try with_reducible rfl)
  simp only [Act.put, puA, puB, puC]
  refine takeL 12 33 ?_ ?_ hHeld ?_
  rotate_left
  · (intro w hSw; (try dsimp only at hSw); simp only [Box] at hSw; go_simp; try with_reducible rfl)
  simp only [Act.put, puA, puB, puC]
  refine takeL 14 35 ?_ ?_ hHeld ?_
  rotate_left
  · (intro w hSw; (try dsimp only at hSw); simp only [Box] at hSw; go_simp; try with_reducible rfl)
  simp only [Act.put, puA, puB, puC]
  refine takeL 15 36 ?_ ?_ hHeld ?_
  rotate_left
  · (intro w hSw; (try dsimp only at hSw); simp only [Box] at hSw; go_simp; try with_reducible rfl)
  simp only [Act.put, puA, puB, puC]
  refine takeL 16 37 ?_ ?_ hHeld ?_
  rotate_left
  · (intro w hSw; (try dsimp only at hSw); simp only [Box] at hSw; go_simp; try with_reducible rfl)
  simp only [Act.put, puA, puB, puC]
  refine takeL 17 38 ?_ ?_ hHeld ?_
  rotate_left
  · (intro w hSw; (try dsimp only at hSw); simp only [Box] at hSw; go_simp; try with_reducible rfl)
  simp only [Act.put, puA, puB, puC]
  refine takeL 19 40 ?_ ?_ hHeld ?_
  rotate_left
  · (intro w hSw; (try dsimp only at hSw); simp only [Box] at hSw; go_simp; try with_reducible rfl)
  simp only [Act.put, puA, puB, puC]
  refine takeL 20 41 ?_ ?_ hHeld ?_
  rotate_left
  · (intro w hSw; (try dsimp only at hSw); simp only [Box] at hSw; go_simp; try with_reducible rfl)
  simp only [Act.put, puA, puB, puC]
  refine wpAnyH_ready (rs := [2]) (by kernel_rfl) (by simp) (AllReadyH.cons rfl (fun K hK => ?_) (AllReadyH.nil))
  refine step_callg 23 95 rfl (by kernel_rfl) (Hx.out _ ht) (by kernel_rfl) ?_
  rintro e W1 ⟨rfl, hb⟩
  refine ⟨_, rfl, ?_⟩
  simp only [Act.put, puA, puB, puC]
  replace x2 := x2.below hb
  replace x5 := x5.below hb
  replace ht := ht.below hb
  replace hB := bl_trans hB hb
  clear hb
  refine hK.out _ _ ?_ (fun hHeld1 => ?_)
  · exact ⟨x2, x5⟩
  clear hK K hHeld
  have hHeld := hHeld1
  clear hHeld1
  refine wpAnyH_ready (rs := [7]) (by kernel_rfl) (by simp) (AllReadyH.cons rfl (fun K hK => ?_) (AllReadyH.nil))
  refine step_callg 28 96 rfl (by kernel_rfl) (HA1.out _ ht) (by kernel_rfl) ?_
  rintro e W1 ⟨rfl, hb⟩
  refine ⟨_, rfl, ?_⟩
  simp only [Act.put, puA, puB, puC]
  replace x2 := x2.below hb
  replace x5 := x5.below hb
  replace ht := ht.below hb
  replace hB := bl_trans hB hb
  clear hb
  refine hK.out _ _ ?_ (fun hHeld1 => ?_)
  · exact ⟨x2, x5⟩
  clear hK K hHeld
  have hHeld := hHeld1
  clear hHeld1
  refine wpAnyH_ready (rs := [13]) (by kernel_rfl) (by simp) (AllReadyH.cons rfl (fun K hK => ?_) (AllReadyH.nil))
  refine step_callg 34 96 rfl (by kernel_rfl) (HA2.out _ ht) (by kernel_rfl) ?_
  rintro e W1 ⟨rfl, hb⟩
  refine ⟨_, rfl, ?_⟩
  simp only [Act.put, puA, puB, puC]
  replace x2 := x2.below hb
  replace x5 := x5.below hb
  replace ht := ht.below hb
  replace hB := bl_trans hB hb
  clear hb
  refine hK.out _ _ ?_ (fun hHeld1 => ?_)
  · exact ⟨x2, x5⟩
  clear hK K hHeld
  have hHeld := hHeld1
  clear hHeld1
  refine wpAnyH_ready (rs := [18]) (by kernel_rfl) (by simp) (AllReadyH.cons rfl (fun K hK => ?_) (AllReadyH.nil))
  refine step_callg 39 96 rfl (by kernel_rfl) (HA3.out _ ht) (by kernel_rfl) ?_
  rintro e W1 ⟨rfl, hb⟩
  refine ⟨_, rfl, ?_⟩
  simp only [Act.put, puA, puB, puC]
  replace x2 := x2.below hb
  replace x5 := x5.below hb
  replace ht := ht.below hb
  replace hB := bl_trans hB hb
  clear hb
  refine hK.out _ _ ?_ (fun hHeld1 => ?_)
  · exact ⟨x2, x5⟩
  clear hK K hHeld
  have hHeld := hHeld1
  clear hHeld1
  refine wpAnyH_ready (rs := [21]) (by kernel_rfl) (by simp) (AllReadyH.cons rfl (fun K hK => ?_) (AllReadyH.nil))
  refine step_callg 42 95 rfl (by kernel_rfl) (Hz.out _ ht) (by kernel_rfl) ?_
  rintro e W1 ⟨rfl, hb⟩
  refine ⟨_, rfl, ?_⟩
  simp only [Act.put, puA, puB, puC]
  replace x2 := x2.below hb
  replace x5 := x5.below hb
  replace ht := ht.below hb
  replace hB := bl_trans hB hb
  clear hb
  refine hK.out _ _ ?_ (fun hHeld1 => ?_)
  · exact ⟨x2, x5⟩
  clear hK K hHeld
  have hHeld := hHeld1
  clear hHeld1
  refine wpAnyH_ready (rs := [22]) (by kernel_rfl) (by simp) (AllReadyH.cons rfl (fun K hK => ?_) (AllReadyH.nil))
  go_simp
  skip
  refine hK.out _ _ ?_ (fun hHeld1 => ?_)
  · exact ⟨x2.below (bl_alloc (bl_refl _) _), x5.below (bl_alloc (bl_refl _) _)⟩
  clear hK K hHeld
  have hHeld := hHeld1
  clear hHeld1
  have hg := Box.new W1 #[.string (St [102, 108, 111, 119]), .string (St x), .string (St A1), .string (St [97, 115]), .string (St A2), .string (St [116, 111]), .string (St A3), .string (St s), .string (St z)] 9
  have hb := bl_alloc (bl_refl W1) (.cells #[.string (St [102, 108, 111, 119]), .string (St x), .string (St A1), .string (St [97, 115]), .string (St A2), .string (St [116, 111]), .string (St A3), .string (St s), .string (St z)] 9)
  replace x2 := x2.below hb
  replace x5 := x5.below hb
  replace ht := ht.below hb
  replace hB := bl_trans hB hb
  clear hb
  generalize W1.alloc (.cells #[.string (St [102, 108, 111, 119]), .string (St x), .string (St A1), .string (St [97, 115]), .string (St A2), .string (St [116, 111]), .string (St A3), .string (St s), .string (St z)] 9) = W7 at x2 x5 ht hB hg hHeld ⊢
  generalize W1.heap.size = g at hg hHeld ⊢
  refine wpAnyH_ready (rs := [23]) (by kernel_rfl) (by simp) (AllReadyH.cons rfl (fun K hK => ?_) (AllReadyH.nil))
  have hw := natWords_ret g 9 [[102, 108, 111, 119], x, A1, [97, 115], A2, [116, 111], A3, s, z] W7 (words_9 hg) hg.1 (by simp) (by simp) hJl.out
  rw [hJ.out] at hw
  refine step_callg 44 94 rfl (by kernel_rfl) hw (by kernel_rfl) ?_
  clear hw
  rintro e W1 ⟨rfl, hb⟩
  refine ⟨_, rfl, ?_⟩
  simp only [Act.put, puA, puB, puC]
  replace x2 := x2.below hb
  replace x5 := x5.below hb
  replace ht := ht.below hb
  replace hB := bl_trans hB hb
  clear hb
  refine hK.out _ _ ?_ (fun hHeld1 => ?_)
  · exact ⟨x2, x5⟩
  clear hK K hHeld
  have hHeld := hHeld1
  clear hHeld1
  refine takeL 24 4 ?_ ?_ hHeld ?_
  rotate_left
  · (intro w hSw; (try dsimp only at hSw); simp only [Box] at hSw; go_simp; try with_reducible rfl)
  simp only [Act.put, puA, puB, puC]
  refine wpAnyH_done (by kernel_rfl) ?_ _
  clear hHeld
  go_wp2_with fail
  go_ret
  exact ⟨rfl, hB⟩
end Go.Proofs.YtcgjpmhjijmplabGreatDoor
