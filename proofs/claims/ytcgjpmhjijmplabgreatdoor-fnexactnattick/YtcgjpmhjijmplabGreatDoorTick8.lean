/- The program's NatTick, walked. -/
import Derived.Test.YtcgjpmhjijmplabGreatDoorTick7
namespace Go.Proofs.YtcgjpmhjijmplabGreatDoor
open Go.ChangeShapes Go.WideShapes Go.ChangeAt Go.RowKit Go.Maps

set_option maxRecDepth 20000 in
set_option maxHeartbeats 4000000 in
theorem passTick_yes (ad ln ow lo hi nw : Int) (da : Option Addr) (dn dc : Nat) (ea : Option Addr) (en ec : Nat) (ds : List Dr) (es : List En) (w : World) (hD : DoorsAt w da dn ds) (hE : EntriesAt w ea en es) (hk : bookB ad ln ow lo hi nw ds es = true) (hmx : nw ≠ 1000000) :
    Calls Tryz.prog 33 #[.agg #[.int .i64 ad, .int .i64 ln, .int .i64 ow, .int .i64 lo, .int .i64 hi, .slice da dn dc, .int .i64 nw, .slice ea en ec]] w fun e w' => ∃ va vc ua uc, e = .returned (.tuple #[.agg #[.int .i64 ad, .int .i64 ln, .int .i64 ow, .int .i64 lo, .int .i64 hi, .slice va dn vc, .int .i64 (nw + 1), .slice ua (tickL nw es).length uc], .nilIface]) ∧ OwnB w' w.heap.size (.slice va dn vc) ds (.slice ua (tickL nw es).length uc) (tickL nw es) ∧ Below w.heap.size w w' := by
  have hb0 := bl_alloc (bl_alloc (bl_refl w) (.cells #[.int .i64 ad, .int .i64 ln, .int .i64 ow, .int .i64 lo, .int .i64 hi, .slice da dn dc, .int .i64 nw, .slice ea en ec] 35)) (.cells #[.int .i64 0, .int .i64 0, .int .i64 0, .int .i64 0, .int .i64 0, .slice none 0 0, .int .i64 0, .slice none 0 0] 35)
  have x1 := (Box.new w #[.int .i64 ad, .int .i64 ln, .int .i64 ow, .int .i64 lo, .int .i64 hi, .slice da dn dc, .int .i64 nw, .slice ea en ec] 35).below (bl_alloc (bl_refl _) (.cells #[.int .i64 0, .int .i64 0, .int .i64 0, .int .i64 0, .int .i64 0, .slice none 0 0, .int .i64 0, .slice none 0 0] 35))
  have bx := Bx.new (w.alloc (.cells #[.int .i64 ad, .int .i64 ln, .int .i64 ow, .int .i64 lo, .int .i64 hi, .slice da dn dc, .int .i64 nw, .slice ea en ec] 35)) #[.int .i64 0, .int .i64 0, .int .i64 0, .int .i64 0, .int .i64 0, .slice none 0 0, .int .i64 0, .slice none 0 0] 35
  simp only [World.size_alloc] at bx
  have H1 : Hid (Calls Tryz.prog _ _ _ _) := implBook_ret ad ln ow lo hi nw da dn dc ea en ec ds es _ (hD.below hb0) (hE.below hb0)
  have HD : Hid (∀ W, Below w.heap.size w W → DoorsAt W da dn ds) := fun W h => hD.below h
  have HE : Hid (∀ W, Below w.heap.size w W → EntriesAt W ea en es) := fun W h => hE.below h
  have hdl' : Hid (dn = ds.length) := hD.1
  have hel' : Hid (en = es.length) := hE.1
  clear hD hE
  obtain ⟨⟨n0, n1⟩, hd6, he16, hla⟩ := book_parts hk
  have HL : Hid (∀ (i : Nat) d, es[i]? = some d → 0 ≤ d.l ∧ d.l ≤ nw) := hla
  clear hla
  have hdn : dn ≤ 6 := by have := hdl'.out; omega
  have hen : en ≤ 16 := by have := hel'.out; omega
  have hq : (nw == 1000000) = false := by simpa using hmx
  have hn2 : nw < 1000000 := by omega
  clear hmx
  go_enter Tryz.func33, Tryz.ntmps33
  go_wp2_with fail
  refine H1.out.mono ?_
  rintro e w1 ⟨rfl, hb1⟩
  have hB1 := bl_trans hb0 hb1
  replace x1 := x1.below hb1
  replace bx := bx.below hb1
  clear hb0 hb1 H1
  have hl1 := bx.1.1
  have y1 := x1.2
  have hl0 := x1.1
  have H2 : Hid (Calls Tryz.prog _ _ _ _) := natCopy_ret ad ln ow lo hi nw da dn dc ea en ec ds es w1 (HD.out _ hB1) (HE.out _ hB1) (by omega) (by omega)
  go_wp2_with fail
  refine H2.out.mono ?_
  rintro e w2 ⟨va, vc, ua, uc, rfl, hO, hb2⟩
  have hB2 := bl_trans hB1 hb2
  replace bx := bx.below hb2
  have hs1 := hB1.size
  have hs2 := hb2.size
  have x4 := Bx.new w2 #[.int .i64 ad, .int .i64 ln, .int .i64 ow, .int .i64 lo, .int .i64 hi, .slice va dn vc, .int .i64 nw, .slice ua en uc] 35
  have hBl := bl_alloc (bl_refl w2) (.cells #[.int .i64 ad, .int .i64 ln, .int .i64 ow, .int .i64 lo, .int .i64 hi, .slice va dn vc, .int .i64 nw, .slice ua en uc] 35)
  have hB3 := bl_trans hB2 hBl
  replace bx := bx.below hBl
  have hOl := hO
  replace hO := hO.below hBl
  clear H2 hBl y1 hB1 hb2 x1
  go_upto_region 6 with fail
  generalize hnx : w2.heap.size = nx at *
  generalize w2.alloc (.cells #[.int .i64 ad, .int .i64 ln, .int .i64 ow, .int .i64 lo, .int .i64 hi, .slice va dn vc, .int .i64 nw, .slice ua en uc] 35) = W3 at *
  have hOd := own_mono hO.1 (show w.heap.size + 2 ≤ w1.heap.size by omega)
  have hOe := own_mono hO.2.1 (show w.heap.size + 2 ≤ w1.heap.size by omega)
  have hOx := hO.2.2
  have hld : ∀ k, (Value.slice va dn vc).ownBlock = some k → k ≠ nx := fun k hk => by have := (hOl.1.lt k hk).2; omega
  have hle : ∀ k, (Value.slice ua en uc).ownBlock = some k → k ≠ nx := fun k hk => by have := (hOl.2.1.lt k hk).2; omega
  obtain ⟨⟨q1, q2⟩, q3⟩ := id x4
  go_upto_region 7 with fail
  clear q1 q2 q3 hO hOl
  have hl4 := x4.1.1
  replace x4 : Bx _ nx #[.int .i64 ad, .int .i64 ln, .int .i64 ow, .int .i64 lo, .int .i64 hi, .slice va dn vc, .int .i64 (nw + 1), .slice ua en uc] := x4.set (j := 6) (by simp) (.int .i64 (nw + 1))
  replace bx := bx.other (m := nx) (j := 6) (by omega) (.int .i64 (nw + 1))
  replace hOd := own_ne hOd hld (j := 6) (.int .i64 (nw + 1))
  replace hOe := own_ne hOe hle (j := 6) (.int .i64 (nw + 1))
  replace hB3 := bl_set (p := ⟨nx, 6, none⟩) hB3 (by simp; omega) (.int .i64 (nw + 1))
  generalize W3.setCell ⟨nx, 6, none⟩ (.int .i64 (nw + 1)) = W4 at *
  have hnx4 := x4.1.1
  have H3 : Hid (Calls Tryz.prog _ _ _ _) := delete_own (w.heap.size + 2) nx nw ua en uc es W4 hOe hel'.out (x4.1.2 6) hnx4 hle he16 n0 n1 HL.out
  obtain ⟨⟨q1, q2⟩, q3⟩ := id x4
  go_wp2_with fail
  refine H3.out.mono ?_
  rintro e w5 ⟨rfl, hF, hown⟩
  have hob : ∀ k, (Value.slice ua (tickL nw es).length uc).ownBlock = some k → (Value.slice ua en uc).ownBlock = some k := fun k hk => by cases ua <;> exact hk
  have hrow : ∀ k, (Value.slice ua en uc).ownBlock = some k → w.heap.size + 2 ≤ k := fun k hk => (hOe.lt k hk).1
  have hB5 := hF.bl hB3 (fun k hk => by have := hrow k hk; omega)
  replace x4 := hF.bx x4 (fun e => hle nx e rfl)
  replace bx := hF.bx bx (fun e => by have := hrow _ e; omega)
  replace hOd := hF.own hOd hOx
  have hOx2 : ∀ k, (Value.slice va dn vc).ownBlock = some k → (Value.slice ua (tickL nw es).length uc).ownBlock ≠ some k := fun k h1 h2 => hOx k h1 (hob k h2)
  have hle2 : ∀ k, (Value.slice ua (tickL nw es).length uc).ownBlock = some k → k ≠ nx := fun k h => hle k (hob k h)
  clear H3 q1 q2 q3 hOe hF hB3
  obtain ⟨⟨q1, q2⟩, q3⟩ := id x4
  go_upto_region 8 with fail
  clear q1 q2 q3
  replace x4 : Bx _ nx #[.int .i64 ad, .int .i64 ln, .int .i64 ow, .int .i64 lo, .int .i64 hi, .slice va dn vc, .int .i64 (nw + 1), .slice ua (tickL nw es).length uc] := x4.set (j := 7) (by simp) (.slice ua (tickL nw es).length uc)
  replace bx := bx.other (m := nx) (j := 7) (by omega) (.slice ua (tickL nw es).length uc)
  replace hOd := own_ne hOd hld (j := 7) (.slice ua (tickL nw es).length uc)
  replace hown := own_ne hown hle2 (j := 7) (.slice ua (tickL nw es).length uc)
  replace hB5 := bl_set (p := ⟨nx, 7, none⟩) hB5 (by simp; omega) (.slice ua (tickL nw es).length uc)
  generalize w5.setCell ⟨nx, 7, none⟩ (.slice ua (tickL nw es).length uc) = W6 at *
  obtain ⟨⟨q1, q2⟩, q3⟩ := id x4
  obtain ⟨⟨p1, p2⟩, p3⟩ := id bx
  go_wp2_with fail
  have hbv := bx.set8 (.int .i64 ad) (.int .i64 ln) (.int .i64 ow) (.int .i64 lo) (.int .i64 hi) (.slice va dn vc) (.int .i64 (nw + 1)) (.slice ua (tickL nw es).length uc)
  obtain ⟨⟨t1, t2⟩, t3⟩ := id hbv
  refine bodyPost_ret (v := .tuple #[.agg #[.int .i64 ad, .int .i64 ln, .int .i64 ow, .int .i64 lo, .int .i64 hi, .slice va dn vc, .int .i64 (nw + 1), .slice ua (tickL nw es).length uc], .nilIface]) (by simp [results, Tryz.results33, go_sem, t2]) rfl ⟨va, vc, ua, uc, rfl, ⟨?_, ?_, hOx2⟩, bl_set8 hB5 (n := w.heap.size + 1) (by omega) (.int .i64 ad) (.int .i64 ln) (.int .i64 ow) (.int .i64 lo) (.int .i64 hi) (.slice va dn vc) (.int .i64 (nw + 1)) (.slice ua (tickL nw es).length uc)⟩
  · exact own_mono (own_other8 hOd (m := w.heap.size + 1) (by omega) (.int .i64 ad) (.int .i64 ln) (.int .i64 ow) (.int .i64 lo) (.int .i64 hi) (.slice va dn vc) (.int .i64 (nw + 1)) (.slice ua (tickL nw es).length uc)) (by omega)
  · exact own_mono (own_other8 hown (m := w.heap.size + 1) (by omega) (.int .i64 ad) (.int .i64 ln) (.int .i64 ow) (.int .i64 lo) (.int .i64 hi) (.slice va dn vc) (.int .i64 (nw + 1)) (.slice ua (tickL nw es).length uc)) (by omega)

set_option maxRecDepth 20000 in
set_option maxHeartbeats 4000000 in
theorem refused_one (ad ln ow lo hi nw : Int) (da : Option Addr) (dn dc : Nat) (ea : Option Addr) (en ec : Nat) (w : World) (hg : Gl w) :
    Calls Tryz.prog 34 #[.agg #[.int .i64 ad, .int .i64 ln, .int .i64 ow, .int .i64 lo, .int .i64 hi, .slice da dn dc, .int .i64 nw, .slice ea en ec], .iface 107 (.int .i64 1)] w fun e w' => e = .returned (.tuple #[.agg #[.int .i64 0, .int .i64 0, .int .i64 0, .int .i64 0, .int .i64 0, .slice none 0 0, .int .i64 0, .slice none 0 0], .int .i64 1]) ∧ Below w.heap.size w w' := by
  have hb0 := bl_alloc (bl_alloc (bl_refl w) (.cells #[.int .i64 ad, .int .i64 ln, .int .i64 ow, .int .i64 lo, .int .i64 hi, .slice da dn dc, .int .i64 nw, .slice ea en ec] 35)) (.cells #[.int .i64 0, .int .i64 0, .int .i64 0, .int .i64 0, .int .i64 0, .slice none 0 0, .int .i64 0, .slice none 0 0] 35)
  have bx := Bx.new (w.alloc (.cells #[.int .i64 ad, .int .i64 ln, .int .i64 ow, .int .i64 lo, .int .i64 hi, .slice da dn dc, .int .i64 nw, .slice ea en ec] 35)) #[.int .i64 0, .int .i64 0, .int .i64 0, .int .i64 0, .int .i64 0, .slice none 0 0, .int .i64 0, .slice none 0 0] 35
  simp only [World.size_alloc] at bx
  have H1 : Hid (Calls Tryz.prog _ _ _ _) := natCode_ret 1 _ (hg.below hb0)
  go_enter Tryz.func34, Tryz.ntmps34
  go_wp2_with fail
  refine H1.out.mono ?_
  rintro e w1 ⟨rfl, hb1⟩
  have hB1 := bl_trans hb0 hb1
  replace bx := bx.below hb1
  clear hb0 hb1 H1
  obtain ⟨⟨q1, q2⟩, q3⟩ := id bx
  go_wp2_with fail
  have hbv := bx.set8 (.int .i64 0) (.int .i64 0) (.int .i64 0) (.int .i64 0) (.int .i64 0) (.slice none 0 0) (.int .i64 0) (.slice none 0 0)
  obtain ⟨⟨t1, t2⟩, t3⟩ := id hbv
  exact bodyPost_ret (v := .tuple #[.agg #[.int .i64 0, .int .i64 0, .int .i64 0, .int .i64 0, .int .i64 0, .slice none 0 0, .int .i64 0, .slice none 0 0], .int .i64 1]) (by simp [results, Tryz.results34, go_sem, t2]) rfl ⟨rfl, bl_set8 hB1 (n := w.heap.size + 1) (by omega) (.int .i64 0) (.int .i64 0) (.int .i64 0) (.int .i64 0) (.int .i64 0) (.slice none 0 0) (.int .i64 0) (.slice none 0 0)⟩

set_option maxRecDepth 20000 in
set_option maxHeartbeats 4000000 in
theorem refused_more (ad ln ow lo hi nw : Int) (da : Option Addr) (dn dc : Nat) (ea : Option Addr) (en ec : Nat) (ds : List Dr) (es : List En) (c : Int) (w : World) (hg : Gl w) (hD : DoorsAt w da dn ds) (hE : EntriesAt w ea en es) (hdl : dn ≤ 1048576) (hel : en ≤ 1048576) (hc : (c == 1) = false) :
    Calls Tryz.prog 34 #[.agg #[.int .i64 ad, .int .i64 ln, .int .i64 ow, .int .i64 lo, .int .i64 hi, .slice da dn dc, .int .i64 nw, .slice ea en ec], .iface 107 (.int .i64 c)] w fun e w' => ∃ va vc ua uc, e = .returned (.tuple #[.agg #[.int .i64 ad, .int .i64 ln, .int .i64 ow, .int .i64 lo, .int .i64 hi, .slice va dn vc, .int .i64 nw, .slice ua en uc], .int .i64 c]) ∧ OwnB w' w.heap.size (.slice va dn vc) ds (.slice ua en uc) es ∧ Below w.heap.size w w' := by
  have hb0 := bl_alloc (bl_alloc (bl_refl w) (.cells #[.int .i64 ad, .int .i64 ln, .int .i64 ow, .int .i64 lo, .int .i64 hi, .slice da dn dc, .int .i64 nw, .slice ea en ec] 35)) (.cells #[.int .i64 0, .int .i64 0, .int .i64 0, .int .i64 0, .int .i64 0, .slice none 0 0, .int .i64 0, .slice none 0 0] 35)
  have x1 := (Box.new w #[.int .i64 ad, .int .i64 ln, .int .i64 ow, .int .i64 lo, .int .i64 hi, .slice da dn dc, .int .i64 nw, .slice ea en ec] 35).below (bl_alloc (bl_refl _) (.cells #[.int .i64 0, .int .i64 0, .int .i64 0, .int .i64 0, .int .i64 0, .slice none 0 0, .int .i64 0, .slice none 0 0] 35))
  have bx := Bx.new (w.alloc (.cells #[.int .i64 ad, .int .i64 ln, .int .i64 ow, .int .i64 lo, .int .i64 hi, .slice da dn dc, .int .i64 nw, .slice ea en ec] 35)) #[.int .i64 0, .int .i64 0, .int .i64 0, .int .i64 0, .int .i64 0, .slice none 0 0, .int .i64 0, .slice none 0 0] 35
  simp only [World.size_alloc] at bx
  have H1 : Hid (Calls Tryz.prog _ _ _ _) := natCode_ret c _ (hg.below hb0)
  have HD : Hid (∀ W, Below w.heap.size w W → DoorsAt W da dn ds) := fun W h => hD.below h
  have HE : Hid (∀ W, Below w.heap.size w W → EntriesAt W ea en es) := fun W h => hE.below h
  clear hD hE
  go_enter Tryz.func34, Tryz.ntmps34
  go_wp2_with fail
  refine H1.out.mono ?_
  rintro e w1 ⟨rfl, hb1⟩
  have hB1 := bl_trans hb0 hb1
  replace bx := bx.below hb1
  replace x1 := x1.below hb1
  clear hb0 hb1 H1
  have y1 := x1.2
  have hl0 := x1.1
  have hl1 := bx.1.1
  have H2 : Hid (Calls Tryz.prog _ _ _ _) := natCopy_ret ad ln ow lo hi nw da dn dc ea en ec ds es w1 (HD.out _ hB1) (HE.out _ hB1) hdl hel
  go_wp2_with fail
  refine H2.out.mono ?_
  rintro e w2 ⟨va, vc, ua, uc, rfl, hO, hb2⟩
  have hB2 := bl_trans hB1 hb2
  replace bx := bx.below hb2
  clear H2 hb2 y1 x1
  obtain ⟨⟨q1, q2⟩, q3⟩ := id bx
  go_wp2_with fail
  have hbv := bx.set8 (.int .i64 ad) (.int .i64 ln) (.int .i64 ow) (.int .i64 lo) (.int .i64 hi) (.slice va dn vc) (.int .i64 nw) (.slice ua en uc)
  obtain ⟨⟨t1, t2⟩, t3⟩ := id hbv
  exact bodyPost_ret (v := .tuple #[.agg #[.int .i64 ad, .int .i64 ln, .int .i64 ow, .int .i64 lo, .int .i64 hi, .slice va dn vc, .int .i64 nw, .slice ua en uc], .int .i64 c]) (by simp [results, Tryz.results34, go_sem, t2]) rfl ⟨va, vc, ua, uc, rfl, ⟨own_mono (own_other8 (own_mono hO.1 (show w.heap.size + 2 ≤ w1.heap.size by omega)) (m := w.heap.size + 1) (by omega) (.int .i64 ad) (.int .i64 ln) (.int .i64 ow) (.int .i64 lo) (.int .i64 hi) (.slice va dn vc) (.int .i64 nw) (.slice ua en uc)) (by omega), own_mono (own_other8 (own_mono hO.2.1 (show w.heap.size + 2 ≤ w1.heap.size by omega)) (m := w.heap.size + 1) (by omega) (.int .i64 ad) (.int .i64 ln) (.int .i64 ow) (.int .i64 lo) (.int .i64 hi) (.slice va dn vc) (.int .i64 nw) (.slice ua en uc)) (by omega), hO.2.2⟩, bl_set8 hB2 (n := w.heap.size + 1) (by omega) (.int .i64 ad) (.int .i64 ln) (.int .i64 ow) (.int .i64 lo) (.int .i64 hi) (.slice va dn vc) (.int .i64 nw) (.slice ua en uc)⟩
end Go.Proofs.YtcgjpmhjijmplabGreatDoor
