/- The program's NatTick at every book: the model's answer, walked. -/
import Derived.Test.YtcgjpmhjijmplabGreatDoorTick8
namespace Go.Proofs.YtcgjpmhjijmplabGreatDoor
open Go.ChangeShapes Go.WideShapes Go.ChangeAt Go.RowKit Go.Maps

set_option maxRecDepth 20000 in
set_option maxHeartbeats 4000000 in
theorem implTick_ret (ad ln ow lo hi nw : Int) (da : Option Addr) (dn dc : Nat) (ea : Option Addr) (en ec : Nat) (ds : List Dr) (es : List En) (w : World) (hg : Gl w) (hD : DoorsAt w da dn ds) (hE : EntriesAt w ea en es) :
    Calls Tryz.prog 14 #[.agg #[.int .i64 ad, .int .i64 ln, .int .i64 ow, .int .i64 lo, .int .i64 hi, .slice da dn dc, .int .i64 nw, .slice ea en ec]] w fun e w' => ToldB w' w.heap.size e (tickR ad ln ow lo hi nw ds es) (tickC ad ln ow lo hi nw ds es) ∧ Below w.heap.size w w' := by
  have hb0 := bl_alloc (bl_alloc (bl_refl w) (.cells #[.int .i64 ad, .int .i64 ln, .int .i64 ow, .int .i64 lo, .int .i64 hi, .slice da dn dc, .int .i64 nw, .slice ea en ec] 35)) (.cells #[.int .i64 0, .int .i64 0, .int .i64 0, .int .i64 0, .int .i64 0, .slice none 0 0, .int .i64 0, .slice none 0 0] 35)
  have x1 := (Box.new w #[.int .i64 ad, .int .i64 ln, .int .i64 ow, .int .i64 lo, .int .i64 hi, .slice da dn dc, .int .i64 nw, .slice ea en ec] 35).below (bl_alloc (bl_refl _) (.cells #[.int .i64 0, .int .i64 0, .int .i64 0, .int .i64 0, .int .i64 0, .slice none 0 0, .int .i64 0, .slice none 0 0] 35))
  have bx := Bx.new (w.alloc (.cells #[.int .i64 ad, .int .i64 ln, .int .i64 ow, .int .i64 lo, .int .i64 hi, .slice da dn dc, .int .i64 nw, .slice ea en ec] 35)) #[.int .i64 0, .int .i64 0, .int .i64 0, .int .i64 0, .int .i64 0, .slice none 0 0, .int .i64 0, .slice none 0 0] 35
  simp only [World.size_alloc] at bx
  have HD : Hid (∀ W, Below w.heap.size w W → DoorsAt W da dn ds) := fun W h => hD.below h
  have HE : Hid (∀ W, Below w.heap.size w W → EntriesAt W ea en es) := fun W h => hE.below h
  have hdl' : Hid (dn = ds.length) := hD.1
  have hel' : Hid (en = es.length) := hE.1
  clear hD hE
  by_cases hk : bookB ad ln ow lo hi nw ds es = true
  · obtain ⟨⟨n0, n1⟩, hd6, he16, -⟩ := book_parts hk
    have hdn : dn ≤ 6 := by have := hdl'.out; omega
    have hen : en ≤ 16 := by have := hel'.out; omega
    by_cases hmx : nw = 1000000
    · have hR : Hid (tickR ad ln ow lo hi nw ds es = ⟨ad, ln, ow, lo, hi, nw, ds, es⟩ ∧ tickC ad ln ow lo hi nw ds es = 2) := by constructor <;> simp only [tickR, tickC, if_pos hk, if_pos hmx]
      generalize tickR ad ln ow lo hi nw ds es = RR at *
      generalize tickC ad ln ow lo hi nw ds es = CC at *
      have H1 : Hid (Calls Tryz.prog _ _ _ _) := passTick_no ad ln ow lo hi nw da dn dc ea en ec ds es 2 _ (HD.out _ hb0) (HE.out _ hb0) (Or.inr ⟨hk, hmx, rfl⟩)
      clear hmx
      go_enter Tryz.func14, Tryz.ntmps14
      go_wp2_with fail
      refine H1.out.mono ?_
      rintro e w1 ⟨rfl, hb1⟩
      have hBl := bl_alloc (bl_refl w1) (.cells #[.int .i64 0, .int .i64 0, .int .i64 0, .int .i64 0, .int .i64 0, .slice none 0 0, .int .i64 0, .slice none 0 0] 35)
      have hB1 := bl_trans (bl_trans hb0 hb1) hBl
      replace x1 := (x1.below hb1).below hBl
      replace bx := (bx.below hb1).below hBl
      clear hb0 hb1 H1 hBl
      go_upto_region 2 with fail
      generalize w1.alloc (.cells #[.int .i64 0, .int .i64 0, .int .i64 0, .int .i64 0, .int .i64 0, .slice none 0 0, .int .i64 0, .slice none 0 0] 35) = W2 at *
      have y1 := x1.2
      have hl0 := x1.1
      have hl1 := bx.1.1
      have hs1 := hB1.size
      have H2 : Hid (Calls Tryz.prog _ _ _ _) := refused_more ad ln ow lo hi nw da dn dc ea en ec ds es 2 W2 (hg.below hB1) (HD.out _ hB1) (HE.out _ hB1) (by omega) (by omega) rfl
      go_wp2_with fail
      refine H2.out.mono ?_
      rintro e w2 ⟨va, vc, ua, uc, rfl, hO, hb2⟩
      have hB2 := bl_trans hB1 hb2
      replace bx := bx.below hb2
      clear H2 hb2 y1 x1
      obtain ⟨⟨q1, q2⟩, q3⟩ := id bx
      go_wp2_with fail
      have hbv := bx.set8 (.int .i64 ad) (.int .i64 ln) (.int .i64 ow) (.int .i64 lo) (.int .i64 hi) (.slice va dn vc) (.int .i64 nw) (.slice ua en uc)
      obtain ⟨⟨t1, t2⟩, t3⟩ := id hbv
      refine bodyPost_ret (v := .tuple #[.agg #[.int .i64 ad, .int .i64 ln, .int .i64 ow, .int .i64 lo, .int .i64 hi, .slice va dn vc, .int .i64 nw, .slice ua en uc], .int .i64 2]) (by simp [results, Tryz.results14, go_sem, t2]) rfl ⟨?_, bl_set8 hB2 (n := w.heap.size + 1) (by omega) (.int .i64 ad) (.int .i64 ln) (.int .i64 ow) (.int .i64 lo) (.int .i64 hi) (.slice va dn vc) (.int .i64 nw) (.slice ua en uc)⟩
      rw [hR.out.1, hR.out.2]
      have e1 := hdl'.out
      have e2 := hel'.out
      subst e1
      subst e2
      exact ⟨va, vc, ua, uc, rfl, ⟨own_mono (own_other8 (own_mono hO.1 (show w.heap.size + 2 ≤ W2.heap.size by omega)) (m := w.heap.size + 1) (by omega) (.int .i64 ad) (.int .i64 ln) (.int .i64 ow) (.int .i64 lo) (.int .i64 hi) (.slice va ds.length vc) (.int .i64 nw) (.slice ua es.length uc)) (by omega), own_mono (own_other8 (own_mono hO.2.1 (show w.heap.size + 2 ≤ W2.heap.size by omega)) (m := w.heap.size + 1) (by omega) (.int .i64 ad) (.int .i64 ln) (.int .i64 ow) (.int .i64 lo) (.int .i64 hi) (.slice va ds.length vc) (.int .i64 nw) (.slice ua es.length uc)) (by omega), hO.2.2⟩⟩
    · have hR : Hid (tickR ad ln ow lo hi nw ds es = ⟨ad, ln, ow, lo, hi, nw + 1, ds, tickL nw es⟩ ∧ tickC ad ln ow lo hi nw ds es = 0) := by constructor <;> simp only [tickR, tickC, if_pos hk, if_neg hmx]
      generalize tickR ad ln ow lo hi nw ds es = RR at *
      generalize tickC ad ln ow lo hi nw ds es = CC at *
      have H1 : Hid (Calls Tryz.prog _ _ _ _) := passTick_yes ad ln ow lo hi nw da dn dc ea en ec ds es _ (HD.out _ hb0) (HE.out _ hb0) hk hmx
      clear hmx
      go_enter Tryz.func14, Tryz.ntmps14
      go_wp2_with fail
      refine H1.out.mono ?_
      rintro e w1 ⟨va, vc, ua, uc, rfl, hO, hb1⟩
      have hBl := bl_alloc (bl_refl w1) (.cells #[.int .i64 ad, .int .i64 ln, .int .i64 ow, .int .i64 lo, .int .i64 hi, .slice va dn vc, .int .i64 (nw + 1), .slice ua (tickL nw es).length uc] 35)
      have hB1 := bl_trans (bl_trans hb0 hb1) hBl
      have x4 := (Bx.new w1 #[.int .i64 ad, .int .i64 ln, .int .i64 ow, .int .i64 lo, .int .i64 hi, .slice va dn vc, .int .i64 (nw + 1), .slice ua (tickL nw es).length uc] 35).1
      replace bx := (bx.below hb1).below hBl
      replace hO := hO.below hBl
      simp only [World.size_alloc] at hO
      clear hb0 hb1 H1 hBl x1
      go_upto_region 2 with fail
      generalize hnx : w1.heap.size = nx at *
      generalize w1.alloc (.cells #[.int .i64 ad, .int .i64 ln, .int .i64 ow, .int .i64 lo, .int .i64 hi, .slice va dn vc, .int .i64 (nw + 1), .slice ua (tickL nw es).length uc] 35) = W2 at *
      have y4 := x4.2
      have hl4 := x4.1
      obtain ⟨⟨q1, q2⟩, q3⟩ := id bx
      go_wp2_with fail
      have hbv := bx.set8 (.int .i64 ad) (.int .i64 ln) (.int .i64 ow) (.int .i64 lo) (.int .i64 hi) (.slice va dn vc) (.int .i64 (nw + 1)) (.slice ua (tickL nw es).length uc)
      obtain ⟨⟨t1, t2⟩, t3⟩ := id hbv
      refine bodyPost_ret (v := .tuple #[.agg #[.int .i64 ad, .int .i64 ln, .int .i64 ow, .int .i64 lo, .int .i64 hi, .slice va dn vc, .int .i64 (nw + 1), .slice ua (tickL nw es).length uc], .int .i64 0]) (by simp [results, Tryz.results14, go_sem, t2]) rfl ⟨?_, bl_set8 hB1 (n := w.heap.size + 1) (by omega) (.int .i64 ad) (.int .i64 ln) (.int .i64 ow) (.int .i64 lo) (.int .i64 hi) (.slice va dn vc) (.int .i64 (nw + 1)) (.slice ua (tickL nw es).length uc)⟩
      rw [hR.out.1, hR.out.2]
      have e1 := hdl'.out
      subst e1
      exact ⟨va, vc, ua, uc, rfl, ⟨own_mono (own_other8 hO.1 (m := w.heap.size + 1) (by omega) (.int .i64 ad) (.int .i64 ln) (.int .i64 ow) (.int .i64 lo) (.int .i64 hi) (.slice va ds.length vc) (.int .i64 (nw + 1)) (.slice ua (tickL nw es).length uc)) (by omega), own_mono (own_other8 hO.2.1 (m := w.heap.size + 1) (by omega) (.int .i64 ad) (.int .i64 ln) (.int .i64 ow) (.int .i64 lo) (.int .i64 hi) (.slice va ds.length vc) (.int .i64 (nw + 1)) (.slice ua (tickL nw es).length uc)) (by omega), hO.2.2⟩⟩
  · have hk' : bookB ad ln ow lo hi nw ds es = false := by simpa using hk
    have hR : Hid (tickR ad ln ow lo hi nw ds es = ⟨0, 0, 0, 0, 0, 0, [], []⟩ ∧ tickC ad ln ow lo hi nw ds es = 1) := by constructor <;> simp only [tickR, tickC, if_neg hk]
    generalize tickR ad ln ow lo hi nw ds es = RR at *
    generalize tickC ad ln ow lo hi nw ds es = CC at *
    have H1 : Hid (Calls Tryz.prog _ _ _ _) := passTick_no ad ln ow lo hi nw da dn dc ea en ec ds es 1 _ (HD.out _ hb0) (HE.out _ hb0) (Or.inl ⟨hk', rfl⟩)
    go_enter Tryz.func14, Tryz.ntmps14
    go_wp2_with fail
    refine H1.out.mono ?_
    rintro e w1 ⟨rfl, hb1⟩
    have hBl := bl_alloc (bl_refl w1) (.cells #[.int .i64 0, .int .i64 0, .int .i64 0, .int .i64 0, .int .i64 0, .slice none 0 0, .int .i64 0, .slice none 0 0] 35)
    have hB1 := bl_trans (bl_trans hb0 hb1) hBl
    replace x1 := (x1.below hb1).below hBl
    replace bx := (bx.below hb1).below hBl
    clear hb0 hb1 H1 hBl
    go_upto_region 2 with fail
    generalize w1.alloc (.cells #[.int .i64 0, .int .i64 0, .int .i64 0, .int .i64 0, .int .i64 0, .slice none 0 0, .int .i64 0, .slice none 0 0] 35) = W2 at *
    have y1 := x1.2
    have hl0 := x1.1
    have hl1 := bx.1.1
    have H2 : Hid (Calls Tryz.prog _ _ _ _) := refused_one ad ln ow lo hi nw da dn dc ea en ec W2 (hg.below hB1)
    go_wp2_with fail
    refine H2.out.mono ?_
    rintro e w2 ⟨rfl, hb2⟩
    have hB2 := bl_trans hB1 hb2
    replace bx := bx.below hb2
    clear H2 hb2 y1 x1
    obtain ⟨⟨q1, q2⟩, q3⟩ := id bx
    go_wp2_with fail
    have hbv := bx.set8 (.int .i64 0) (.int .i64 0) (.int .i64 0) (.int .i64 0) (.int .i64 0) (.slice none 0 0) (.int .i64 0) (.slice none 0 0)
    obtain ⟨⟨t1, t2⟩, t3⟩ := id hbv
    refine bodyPost_ret (v := .tuple #[.agg #[.int .i64 0, .int .i64 0, .int .i64 0, .int .i64 0, .int .i64 0, .slice none 0 0, .int .i64 0, .slice none 0 0], .int .i64 1]) (by simp [results, Tryz.results14, go_sem, t2]) rfl ⟨?_, bl_set8 hB2 (n := w.heap.size + 1) (by omega) (.int .i64 0) (.int .i64 0) (.int .i64 0) (.int .i64 0) (.int .i64 0) (.slice none 0 0) (.int .i64 0) (.slice none 0 0)⟩
    rw [hR.out.1, hR.out.2]
    exact ⟨none, 0, none, 0, rfl, own_nilB _ _⟩
end Go.Proofs.YtcgjpmhjijmplabGreatDoor
