/- The specification's NatOut at every book and flow: the model's answer, walked. -/
import Derived.Test.YtcgjpmhjijmplaaGreatDoorOutM
import Derived.Deep.DeepCutAuto
namespace Go.Proofs.YtcgjpmhjijmplaaGreatDoor
open Go.ChangeShapes Go.WideShapes Go.ChangeAt Go.RowKit Go.Maps

theorem l2Inside_v (ad ln ow lo hi nw : Int) (da : Option Addr) (dn dc : Nat) (ea : Option Addr) (en ec : Nat) (x : Int) (r : Bool) (w : World) (h0 : 0 ≤ ln) (h1 : ln ≤ 16) (h2 : 0 ≤ ad) (h3 : ad ≤ 65535) (hr : insB ad ln x = r) : Calls Tryz.prog 47 #[.agg #[.int .i64 ad, .int .i64 ln, .int .i64 ow, .int .i64 lo, .int .i64 hi, .slice da dn dc, .int .i64 nw, .slice ea en ec], .int .i64 x] w fun e w' => e = .returned (.bool r) ∧ Below w.heap.size w w' := by
  subst hr; exact l2Inside_ret ad ln ow lo hi nw da dn dc ea en ec x w h0 h1 h2 h3
theorem specBook_v (ad ln ow lo hi nw : Int) (da : Option Addr) (dn dc : Nat) (ea : Option Addr) (en ec : Nat) (ds : List Dr) (es : List En) (r : Bool) (w : World) (hD : DoorsAt w da dn ds) (hE : EntriesAt w ea en es) (hr : bookB ad ln ow lo hi nw ds es = r) : Calls Tryz.prog 26 #[.agg #[.int .i64 ad, .int .i64 ln, .int .i64 ow, .int .i64 lo, .int .i64 hi, .slice da dn dc, .int .i64 nw, .slice ea en ec]] w fun e w' => e = .returned (.bool r) ∧ Below w.heap.size w w' := by
  subst hr; exact specBookOk_ret ad ln ow lo hi nw da dn dc ea en ec ds es w hD hE
theorem setn_size8 {w : World} {g : Nat} (h : g < w.heap.size) {n : Nat} (a b c d e f p i : Value) : g < ((((((((w.setCell ⟨n, 0, none⟩ a).setCell ⟨n, 1, none⟩ b).setCell ⟨n, 2, none⟩ c).setCell ⟨n, 3, none⟩ d).setCell ⟨n, 4, none⟩ e).setCell ⟨n, 5, none⟩ f).setCell ⟨n, 6, none⟩ p).setCell ⟨n, 7, none⟩ i).heap.size := by simpa [World.setCell] using h
theorem setn_size5 {w : World} {g : Nat} (h : g < w.heap.size) {n : Nat} (a b c d e : Value) : g < (((((w.setCell ⟨n, 0, none⟩ a).setCell ⟨n, 1, none⟩ b).setCell ⟨n, 2, none⟩ c).setCell ⟨n, 3, none⟩ d).setCell ⟨n, 4, none⟩ e).heap.size := by simpa [World.setCell] using h
theorem goes_no1 {ad ln ow a b : Int} (h : insB ad ln a = false) : goesB ad ln ow a b = false := by simp [goesB, h]
theorem goes_no2 {ad ln ow a b : Int} (h : insB ad ln b = true) : goesB ad ln ow a b = false := by simp [goesB, peerB, h]
theorem goes_no3 {ad ln ow a b : Int} (h : (b == ow) = true) : goesB ad ln ow a b = false := by simp [goesB, peerB, h]
theorem goes_yes {ad ln ow a b : Int} (h : insB ad ln a = true) (h1 : insB ad ln b = false) (h2 : (b == ow) = false) : goesB ad ln ow a b = true := by simp [goesB, peerB, h, h1, h2]
theorem en_other {w : World} {g o : Nat} {es : List En} (h : EnCells w g o es) {n j : Nat} (hn : g ≠ n) (v : Value) : EnCells (w.setCell ⟨n, j, none⟩ v) g o es := by
  have hc : ∀ p, (w.setCell ⟨n, j, none⟩ v).cell? ⟨g, p, none⟩ = w.cell? ⟨g, p, none⟩ := fun p => World.cell?_setCell_other _ _ _ _ (fun e => hn (by injection e with e1; exact e1.symm))
  intro i x hi
  obtain ⟨c0, c1, c2, c3, c4, c5, c6⟩ := h i x hi
  refine ⟨?_, ?_, ?_, ?_, ?_, ?_, ?_⟩ <;> (rw [hc]; assumption)
set_option maxRecDepth 20000 in
set_option maxHeartbeats 8000000 in
theorem specOut_ret (ad ln ow lo hi nw : Int) (da : Option Addr) (dn dc : Nat) (ea : Option Addr) (en ec : Nat) (k a ap b bp : Int) (ds : List Dr) (es : List En) (w : World) (hD : DoorsAt w da dn ds) (hE : EntriesAt w ea en es) :
    Calls Tryz.prog 14 #[.agg #[.int .i64 ad, .int .i64 ln, .int .i64 ow, .int .i64 lo, .int .i64 hi, .slice da dn dc, .int .i64 nw, .slice ea en ec], .agg #[.int .i64 k, .int .i64 a, .int .i64 ap, .int .i64 b, .int .i64 bp]] w fun e w' => ToldO w' w.heap.size e (outM ⟨ad, ln, ow, lo, hi, nw, ds, es⟩ k a ap b bp) ∧ Below w.heap.size w w' := by
  obtain ⟨rfl, hD⟩ := hD
  obtain ⟨rfl, hE⟩ := hE
  have HD : Hid (∀ W, Below w.heap.size w W → DoorsAt W da ds.length ds) := fun W h => DoorsAt.below ⟨rfl, hD⟩ h
  have HE : Hid (∀ W, Below w.heap.size w W → EntriesAt W ea es.length es) := fun W h => EntriesAt.below ⟨rfl, hE⟩ h
  have hB := bl_alloc (bl_alloc (bl_alloc (bl_alloc (bl_refl w) (.cells #[.int .i64 ad, .int .i64 ln, .int .i64 ow, .int .i64 lo, .int .i64 hi, .slice da ds.length dc, .int .i64 nw, .slice ea es.length ec] 26)) (.cells #[.int .i64 k, .int .i64 a, .int .i64 ap, .int .i64 b, .int .i64 bp] 32)) (.cells #[.int .i64 0, .int .i64 0, .int .i64 0, .int .i64 0, .int .i64 0, .slice none 0 0, .int .i64 0, .slice none 0 0] 26)) (.cells #[.int .i64 0, .int .i64 0, .int .i64 0, .int .i64 0, .int .i64 0] 32)
  have x1 := (((Box.new w #[.int .i64 ad, .int .i64 ln, .int .i64 ow, .int .i64 lo, .int .i64 hi, .slice da ds.length dc, .int .i64 nw, .slice ea es.length ec] 26).below (bl_alloc (bl_refl _) (.cells #[.int .i64 k, .int .i64 a, .int .i64 ap, .int .i64 b, .int .i64 bp] 32))).below (bl_alloc (bl_refl _) (.cells #[.int .i64 0, .int .i64 0, .int .i64 0, .int .i64 0, .int .i64 0, .slice none 0 0, .int .i64 0, .slice none 0 0] 26))).below (bl_alloc (bl_refl _) (.cells #[.int .i64 0, .int .i64 0, .int .i64 0, .int .i64 0, .int .i64 0] 32))
  have x2 := ((Box.new (w.alloc (.cells #[.int .i64 ad, .int .i64 ln, .int .i64 ow, .int .i64 lo, .int .i64 hi, .slice da ds.length dc, .int .i64 nw, .slice ea es.length ec] 26)) #[.int .i64 k, .int .i64 a, .int .i64 ap, .int .i64 b, .int .i64 bp] 32).below (bl_alloc (bl_refl _) (.cells #[.int .i64 0, .int .i64 0, .int .i64 0, .int .i64 0, .int .i64 0, .slice none 0 0, .int .i64 0, .slice none 0 0] 26))).below (bl_alloc (bl_refl _) (.cells #[.int .i64 0, .int .i64 0, .int .i64 0, .int .i64 0, .int .i64 0] 32))
  have bx := (Bx.new ((w.alloc (.cells #[.int .i64 ad, .int .i64 ln, .int .i64 ow, .int .i64 lo, .int .i64 hi, .slice da ds.length dc, .int .i64 nw, .slice ea es.length ec] 26)).alloc (.cells #[.int .i64 k, .int .i64 a, .int .i64 ap, .int .i64 b, .int .i64 bp] 32)) #[.int .i64 0, .int .i64 0, .int .i64 0, .int .i64 0, .int .i64 0, .slice none 0 0, .int .i64 0, .slice none 0 0] 26).below (bl_alloc (bl_refl _) (.cells #[.int .i64 0, .int .i64 0, .int .i64 0, .int .i64 0, .int .i64 0] 32))
  have bf := Bx.new (((w.alloc (.cells #[.int .i64 ad, .int .i64 ln, .int .i64 ow, .int .i64 lo, .int .i64 hi, .slice da ds.length dc, .int .i64 nw, .slice ea es.length ec] 26)).alloc (.cells #[.int .i64 k, .int .i64 a, .int .i64 ap, .int .i64 b, .int .i64 bp] 32)).alloc (.cells #[.int .i64 0, .int .i64 0, .int .i64 0, .int .i64 0, .int .i64 0, .slice none 0 0, .int .i64 0, .slice none 0 0] 26)) #[.int .i64 0, .int .i64 0, .int .i64 0, .int .i64 0, .int .i64 0] 32
  simp only [World.size_alloc] at x2 bx bf
  generalize hM : outM ⟨ad, ln, ow, lo, hi, nw, ds, es⟩ k a ap b bp = O
  have hM : Hid (outM ⟨ad, ln, ow, lo, hi, nw, ds, es⟩ k a ap b bp = O) := hM
  by_cases hk : bookB ad ln ow lo hi nw ds es = true
  · have hfr : frameB ad ln ow lo hi nw = true := by simp [bookB] at hk; exact hk.1.1
    obtain ⟨⟨l0, l1⟩, ⟨a0, a1⟩, _, ⟨po1, po2, po3⟩, _⟩ := frameB_true hfr
    obtain ⟨⟨n0, n1⟩, hd6, he16, hla⟩ := book_parts hk
    have hla : Hid (∀ (i : Nat) d, es[i]? = some d → 0 ≤ d.l ∧ d.l ≤ nw) := hla
    have H1 : Hid (Calls Tryz.prog _ _ _ _) := specBook_v ad ln ow lo hi nw da ds.length dc ea es.length ec ds es true _ (HD.out _ hB) (HE.out _ hB) hk
    go_enter Tryz.func14, Tryz.ntmps14
    go_wp2_with fail
    refine H1.out.mono ?_
    rintro e w1 ⟨rfl, hb1⟩
    replace hB := bl_trans hB hb1
    replace x1 := x1.below hb1
    replace x2 := x2.below hb1
    replace bx := bx.below hb1
    replace bf := bf.below hb1
    clear hb1 H1
    have y1 := x1.2
    have hs1 := bf.1.1
    have H2 : Hid (Calls Tryz.prog _ _ _ _) := l2Copy_ret ad ln ow lo hi nw da ds.length dc ea es.length ec ds es w1 (HD.out _ hB) (HE.out _ hB) (by omega) (by omega)
    go_wp2_with fail
    refine H2.out.mono ?_
    rintro e w2 ⟨va, vc, ua, uc, rfl, hO, hb2⟩
    have hs2 := hb2.size
    have x4 := Bx.new w2 #[.int .i64 ad, .int .i64 ln, .int .i64 ow, .int .i64 lo, .int .i64 hi, .slice va ds.length vc, .int .i64 nw, .slice ua es.length uc] 26
    have hBl := bl_alloc (bl_refl w2) (.cells #[.int .i64 ad, .int .i64 ln, .int .i64 ow, .int .i64 lo, .int .i64 hi, .slice va ds.length vc, .int .i64 nw, .slice ua es.length uc] 26)
    have hOl := hO
    replace hO := hO.below hBl
    have hb2 := bl_trans hb2 hBl
    replace hB := bl_trans hB hb2
    replace x1 := x1.below hb2
    replace x2 := x2.below hb2
    replace bx := bx.below hb2
    replace bf := bf.below hb2
    clear H2 hBl y1 hb2
    go_upto_region 4 with fail
    have hOd : Hid (∀ j, (Value.slice va ds.length vc).ownBlock = some j → j < w2.heap.size) := fun j hj => (hOl.1.lt j hj).2
    have hOe : Hid (∀ j, (Value.slice ua es.length uc).ownBlock = some j → j < w2.heap.size) := fun j hj => (hOl.2.1.lt j hj).2
    clear hOl
    generalize w2.heap.size = nx at *
    generalize w2.alloc (.cells #[.int .i64 ad, .int .i64 ln, .int .i64 ow, .int .i64 lo, .int .i64 hi, .slice va ds.length vc, .int .i64 nw, .slice ua es.length uc] 26) = W3 at *
    have y2 := x2.2
    by_cases hf : flowB k a ap b bp = true
    · go_wp2_with fail
      refine (specFlow_v k a ap b bp true _ hf).mono ?_
      rintro e w3 ⟨rfl, hb⟩
      replace hB := bl_trans hB hb
      replace x1 := x1.below hb
      replace x2 := x2.below hb
      replace x4 := x4.below hb
      replace bx := bx.below hb
      replace bf := bf.below hb
      replace hO := hO.below hb
      clear y2 hb
      have y1 := x1.2
      have y2 := x2.2
      by_cases hia : insB ad ln a = true
      · go_wp2_with fail
        refine (l2Inside_v _ _ _ _ _ _ _ _ _ _ _ _ _ true _ l0 l1 a0 a1 hia).mono ?_
        rintro e w4 ⟨rfl, hb⟩
        replace hB := bl_trans hB hb
        replace x1 := x1.below hb
        replace x2 := x2.below hb
        replace x4 := x4.below hb
        replace bx := bx.below hb
        replace bf := bf.below hb
        replace hO := hO.below hb
        clear y1 y2 hb
        have y1 := x1.2
        have y2 := x2.2
        by_cases hib : insB ad ln b = true
        · go_wp2_with fail
          refine (l2Inside_v _ _ _ _ _ _ _ _ _ _ _ _ _ true _ l0 l1 a0 a1 hib).mono ?_
          rintro e w5 ⟨rfl, hb⟩
          replace hB := bl_trans hB hb
          replace x1 := x1.below hb
          replace x2 := x2.below hb
          replace x4 := x4.below hb
          replace bx := bx.below hb
          replace bf := bf.below hb
          replace hO := hO.below hb
          clear y1 y2 hb
          obtain ⟨⟨p1, p2⟩, p3⟩ := id bx
          obtain ⟨⟨q1, q2⟩, q3⟩ := id bf
          have y4 := x4.1.2
          go_wp2_with fail
          have bv := (bx.set8 (.int .i64 ad) (.int .i64 ln) (.int .i64 ow) (.int .i64 lo) (.int .i64 hi) (.slice va ds.length vc) (.int .i64 nw) (.slice ua es.length uc)).other5 (n := (w.heap.size + 1 + 1 + 1)) (by omega) (.int .i64 0) (.int .i64 0) (.int .i64 0) (.int .i64 0) (.int .i64 0)
          have fv := (bf.other8 (n := (w.heap.size + 1 + 1)) (by omega) (.int .i64 ad) (.int .i64 ln) (.int .i64 ow) (.int .i64 lo) (.int .i64 hi) (.slice va ds.length vc) (.int .i64 nw) (.slice ua es.length uc)).set5 (.int .i64 0) (.int .i64 0) (.int .i64 0) (.int .i64 0) (.int .i64 0)
          obtain ⟨⟨t1, t2⟩, t3⟩ := id bv
          obtain ⟨⟨s1, s2⟩, s3⟩ := id fv
          refine bodyPost_ret (v := .tuple #[.agg #[.int .i64 ad, .int .i64 ln, .int .i64 ow, .int .i64 lo, .int .i64 hi, .slice va ds.length vc, .int .i64 nw, .slice ua es.length uc], .agg #[.int .i64 0, .int .i64 0, .int .i64 0, .int .i64 0, .int .i64 0], .int .i64 3]) (by simp [results, Tryz.results14, go_sem, t2, s2]) rfl ⟨?_, bl_set5 (bl_set8 hB (n := (w.heap.size + 1 + 1)) (by omega) (.int .i64 ad) (.int .i64 ln) (.int .i64 ow) (.int .i64 lo) (.int .i64 hi) (.slice va ds.length vc) (.int .i64 nw) (.slice ua es.length uc)) (n := (w.heap.size + 1 + 1 + 1)) (by omega) (.int .i64 0) (.int .i64 0) (.int .i64 0) (.int .i64 0) (.int .i64 0)⟩
          rw [← hM.out, out_three hk hf (goes_no2 hib)]
          exact ⟨va, vc, ua, uc, rfl, ((hO.set8 (m := (w.heap.size + 1 + 1)) (by omega) (.int .i64 ad) (.int .i64 ln) (.int .i64 ow) (.int .i64 lo) (.int .i64 hi) (.slice va ds.length vc) (.int .i64 nw) (.slice ua es.length uc)).set5 (m := (w.heap.size + 1 + 1 + 1)) (by omega) (.int .i64 0) (.int .i64 0) (.int .i64 0) (.int .i64 0) (.int .i64 0)).mono (by omega)⟩
        · have hib : insB ad ln b = false := by simpa using hib
          by_cases hbo : b = ow
          · have hq2 : (b == ow) = true := by simpa using hbo
            clear hbo
            go_wp2_with fail
            refine (l2Inside_v _ _ _ _ _ _ _ _ _ _ _ _ _ false _ l0 l1 a0 a1 hib).mono ?_
            rintro e w5 ⟨rfl, hb⟩
            replace hB := bl_trans hB hb
            replace x1 := x1.below hb
            replace x2 := x2.below hb
            replace x4 := x4.below hb
            replace bx := bx.below hb
            replace bf := bf.below hb
            replace hO := hO.below hb
            clear y1 y2 hb
            have y1 := x1.2
            have y2 := x2.2
            obtain ⟨⟨p1, p2⟩, p3⟩ := id bx
            obtain ⟨⟨q1, q2⟩, q3⟩ := id bf
            have y4 := x4.1.2
            go_wp2_with fail
            have bv := (bx.set8 (.int .i64 ad) (.int .i64 ln) (.int .i64 ow) (.int .i64 lo) (.int .i64 hi) (.slice va ds.length vc) (.int .i64 nw) (.slice ua es.length uc)).other5 (n := (w.heap.size + 1 + 1 + 1)) (by omega) (.int .i64 0) (.int .i64 0) (.int .i64 0) (.int .i64 0) (.int .i64 0)
            have fv := (bf.other8 (n := (w.heap.size + 1 + 1)) (by omega) (.int .i64 ad) (.int .i64 ln) (.int .i64 ow) (.int .i64 lo) (.int .i64 hi) (.slice va ds.length vc) (.int .i64 nw) (.slice ua es.length uc)).set5 (.int .i64 0) (.int .i64 0) (.int .i64 0) (.int .i64 0) (.int .i64 0)
            obtain ⟨⟨t1, t2⟩, t3⟩ := id bv
            obtain ⟨⟨s1, s2⟩, s3⟩ := id fv
            refine bodyPost_ret (v := .tuple #[.agg #[.int .i64 ad, .int .i64 ln, .int .i64 ow, .int .i64 lo, .int .i64 hi, .slice va ds.length vc, .int .i64 nw, .slice ua es.length uc], .agg #[.int .i64 0, .int .i64 0, .int .i64 0, .int .i64 0, .int .i64 0], .int .i64 3]) (by simp [results, Tryz.results14, go_sem, t2, s2]) rfl ⟨?_, bl_set5 (bl_set8 hB (n := (w.heap.size + 1 + 1)) (by omega) (.int .i64 ad) (.int .i64 ln) (.int .i64 ow) (.int .i64 lo) (.int .i64 hi) (.slice va ds.length vc) (.int .i64 nw) (.slice ua es.length uc)) (n := (w.heap.size + 1 + 1 + 1)) (by omega) (.int .i64 0) (.int .i64 0) (.int .i64 0) (.int .i64 0) (.int .i64 0)⟩
            rw [← hM.out, out_three hk hf (goes_no3 hq2)]
            exact ⟨va, vc, ua, uc, rfl, ((hO.set8 (m := (w.heap.size + 1 + 1)) (by omega) (.int .i64 ad) (.int .i64 ln) (.int .i64 ow) (.int .i64 lo) (.int .i64 hi) (.slice va ds.length vc) (.int .i64 nw) (.slice ua es.length uc)).set5 (m := (w.heap.size + 1 + 1 + 1)) (by omega) (.int .i64 0) (.int .i64 0) (.int .i64 0) (.int .i64 0) (.int .i64 0)).mono (by omega)⟩
          · have hq2 : (b == ow) = false := by simpa using hbo
            clear hbo
            have hgo := goes_yes hia hib hq2
            go_wp2_with fail
            refine (l2Inside_v _ _ _ _ _ _ _ _ _ _ _ _ _ false _ l0 l1 a0 a1 hib).mono ?_
            rintro e w5 ⟨rfl, hb⟩
            replace hB := bl_trans hB hb
            replace x1 := x1.below hb
            replace x2 := x2.below hb
            replace x4 := x4.below hb
            replace bx := bx.below hb
            replace bf := bf.below hb
            replace hO := hO.below hb
            clear y1 y2 hb
            have y1 := x1.2
            have y2 := x2.2
            go_wp2_with fail
            refine (l3Door_ret ad ln ow lo hi nw da ds.length dc ea es.length ec k a ap b bp ds _ (HD.out _ hB) hd6).mono ?_
            rintro e w6 ⟨⟨di, rfl, hdf⟩, hb⟩
            replace hB := bl_trans hB hb
            replace x1 := x1.below hb
            replace x2 := x2.below hb
            replace x4 := x4.below hb
            replace bx := bx.below hb
            replace bf := bf.below hb
            replace hO := hO.below hb
            clear y1 y2 hb
            rcases hdf with ⟨n, d, rfl, hd, hpd, hbe⟩ | ⟨rfl, hbe⟩
            · have hfd : ds.find? (sendsD k a ap) = some d := find_at hd hpd hbe
              clear hbe
              have hnl := get_lt hd
              have hnn : ((n : Int) ≥ 0) := by omega
              have hlt' : (n : Int) < (ds.length : Int) := by omega
              have hd : Hid (ds[n]? = some d) := hd
              rcases hD with rfl | ⟨g, o, rfl, hgl, hcs⟩
              · simp at hnl
              · have hgn : g < w.heap.size := hgl
                replace hcs := hcs.below hB hgl
                have hgl : g < w6.heap.size := Nat.lt_of_lt_of_le hgl hB.size
                go_wp2_with fail
                refine wp_region_held_drew (S := (fun w' => Box w' w.heap.size #[.int .i64 ad, .int .i64 ln, .int .i64 ow, .int .i64 lo, .int .i64 hi, .slice (some ⟨g, o, none⟩) ds.length dc, .int .i64 nw, .slice ea es.length ec] ∧ Box w' (w.heap.size + 1) #[.int .i64 k, .int .i64 a, .int .i64 ap, .int .i64 b, .int .i64 bp] ∧ Box w' nx #[.int .i64 ad, .int .i64 ln, .int .i64 ow, .int .i64 lo, .int .i64 hi, .slice va ds.length vc, .int .i64 nw, .slice ua es.length uc] ∧ DrCells w' g o ds)) (by kernel_rfl) ?_ (fun hHeld => ?_)
                · exact ⟨x1.below (bl_drew (bl_refl _)), x2.below (bl_drew (bl_refl _)), x4.1.below (bl_drew (bl_refl _)), hcs.below (bl_drew (bl_refl _)) hgl⟩
                have hlq := bl_drew (bl_refl w6)
                replace hB := bl_trans hB hlq
                replace x1 := x1.below hlq
                replace x2 := x2.below hlq
                replace x4 := x4.below hlq
                replace bx := bx.below hlq
                replace bf := bf.below hlq
                replace hO := hO.below hlq
                replace hcs := hcs.below hlq hgl
                replace hgl := Nat.lt_of_lt_of_le hgl hlq.size
                clear hlq
                generalize World.drew w6 = Wd at x1 x2 x4 bx bf hO hB hcs hgl hHeld ⊢
                refine takeL 0 48 ?_ ?_ hHeld ?_
                rotate_left
                · (intro w hSw; (try dsimp only at hSw); obtain ⟨hS1, hS2, hS4, hS3⟩ := hSw; obtain ⟨c0, c1, c2, c3⟩ := hS3 _ _ hd.out; simp only [Box] at hS1 hS2 hS4; go_simp; try with_reducible rfl)
                simp only [Act.put, puA, puB, puC]
                refine takeL 1 49 ?_ ?_ hHeld ?_
                rotate_left
                · (intro w hSw; (try dsimp only at hSw); obtain ⟨hS1, hS2, hS4, hS3⟩ := hSw; obtain ⟨c0, c1, c2, c3⟩ := hS3 _ _ hd.out; simp only [Box] at hS1 hS2 hS4; go_simp; try with_reducible rfl)
                simp only [Act.put, puA, puB, puC]
                refine takeL 2 50 ?_ ?_ hHeld ?_
                rotate_left
                · (intro w hSw; (try dsimp only at hSw); obtain ⟨hS1, hS2, hS4, hS3⟩ := hSw; obtain ⟨c0, c1, c2, c3⟩ := hS3 _ _ hd.out; simp only [Box] at hS1 hS2 hS4; go_simp; try with_reducible rfl)
                simp only [Act.put, puA, puB, puC]
                refine takeL 3 51 ?_ ?_ hHeld ?_
                rotate_left
                · (intro w hSw; (try dsimp only at hSw); obtain ⟨hS1, hS2, hS4, hS3⟩ := hSw; obtain ⟨c0, c1, c2, c3⟩ := hS3 _ _ hd.out; simp only [Box] at hS1 hS2 hS4; go_simp; try with_reducible rfl)
                simp only [Act.put, puA, puB, puC]
                refine takeL 4 52 ?_ ?_ hHeld ?_
                rotate_left
                · (intro w hSw; (try dsimp only at hSw); obtain ⟨hS1, hS2, hS4, hS3⟩ := hSw; obtain ⟨c0, c1, c2, c3⟩ := hS3 _ _ hd.out; simp only [Box] at hS1 hS2 hS4; go_simp; try with_reducible rfl)
                simp only [Act.put, puA, puB, puC]
                refine takeL 5 53 ?_ ?_ hHeld ?_
                rotate_left
                · (intro w hSw; (try dsimp only at hSw); obtain ⟨hS1, hS2, hS4, hS3⟩ := hSw; obtain ⟨c0, c1, c2, c3⟩ := hS3 _ _ hd.out; simp only [Box] at hS1 hS2 hS4; go_simp; try with_reducible rfl)
                simp only [Act.put, puA, puB, puC]
                refine takeL 6 54 ?_ ?_ hHeld ?_
                rotate_left
                · (intro w hSw; (try dsimp only at hSw); obtain ⟨hS1, hS2, hS4, hS3⟩ := hSw; obtain ⟨c0, c1, c2, c3⟩ := hS3 _ _ hd.out; simp only [Box] at hS1 hS2 hS4; go_simp; try with_reducible rfl)
                simp only [Act.put, puA, puB, puC]
                refine takeL 7 55 ?_ ?_ hHeld ?_
                rotate_left
                · (intro w hSw; (try dsimp only at hSw); obtain ⟨hS1, hS2, hS4, hS3⟩ := hSw; obtain ⟨c0, c1, c2, c3⟩ := hS3 _ _ hd.out; simp only [Box] at hS1 hS2 hS4; go_simp; try with_reducible rfl)
                simp only [Act.put, puA, puB, puC]
                refine takeL 8 56 ?_ ?_ hHeld ?_
                rotate_left
                · (intro w hSw; (try dsimp only at hSw); obtain ⟨hS1, hS2, hS4, hS3⟩ := hSw; obtain ⟨c0, c1, c2, c3⟩ := hS3 _ _ hd.out; simp only [Box] at hS1 hS2 hS4; go_simp; try with_reducible rfl)
                simp only [Act.put, puA, puB, puC]
                refine wpAnyH_ready (rs := [9]) (by kernel_rfl) (by simp) (AllReadyH.cons rfl (fun K hK => ?_) (AllReadyH.nil))
                refine step_callg 57 53 rfl (by kernel_rfl) (l3Under_ret ad ln ow lo hi nw (some ⟨g, o, none⟩) ds.length dc ea es.length ec k a ap b bp d.o _) (by kernel_rfl) ?_
                rintro e W ⟨rfl, hb⟩
                refine ⟨_, rfl, ?_⟩
                simp only [Act.put, puA, puB, puC]
                replace hB := bl_trans hB hb
                replace x1 := x1.below hb
                replace x2 := x2.below hb
                replace x4 := x4.below hb
                replace bx := bx.below hb
                replace bf := bf.below hb
                replace hO := hO.below hb
                replace hcs := hcs.below hb hgl
                replace hgl := Nat.lt_of_lt_of_le hgl hb.size
                clear hb
                refine hK.out _ _ ?_ (fun hHeld1 => ?_)
                · exact ⟨x1, x2, x4.1, hcs⟩
                clear hK K hHeld
                have hHeld := hHeld1
                clear hHeld1
                refine wpAnyH_ready (rs := [10]) (by kernel_rfl) (by simp) (AllReadyH.cons rfl (fun K hK => ?_) (AllReadyH.nil))
                obtain ⟨⟨p1, p2⟩, p3⟩ := id bx
                go_simp
                replace bx := bx.set8 (.int .i64 ad) (.int .i64 ln) (.int .i64 ow) (.int .i64 lo) (.int .i64 hi) (.slice va ds.length vc) (.int .i64 nw) (.slice ua es.length uc)
                replace bf := bf.other8 (n := (w.heap.size + 1 + 1)) (by omega) (.int .i64 ad) (.int .i64 ln) (.int .i64 ow) (.int .i64 lo) (.int .i64 hi) (.slice va ds.length vc) (.int .i64 nw) (.slice ua es.length uc)
                replace hO := hO.set8 (m := (w.heap.size + 1 + 1)) (by omega) (.int .i64 ad) (.int .i64 ln) (.int .i64 ow) (.int .i64 lo) (.int .i64 hi) (.slice va ds.length vc) (.int .i64 nw) (.slice ua es.length uc)
                replace hB := bl_set8 hB (n := (w.heap.size + 1 + 1)) (by omega) (.int .i64 ad) (.int .i64 ln) (.int .i64 ow) (.int .i64 lo) (.int .i64 hi) (.slice va ds.length vc) (.int .i64 nw) (.slice ua es.length uc)
                replace x1 := x1.other8 (n := (w.heap.size + 1 + 1)) (by omega) (.int .i64 ad) (.int .i64 ln) (.int .i64 ow) (.int .i64 lo) (.int .i64 hi) (.slice va ds.length vc) (.int .i64 nw) (.slice ua es.length uc)
                replace x2 := x2.other8 (n := (w.heap.size + 1 + 1)) (by omega) (.int .i64 ad) (.int .i64 ln) (.int .i64 ow) (.int .i64 lo) (.int .i64 hi) (.slice va ds.length vc) (.int .i64 nw) (.slice ua es.length uc)
                replace x4 := x4.other8 (n := (w.heap.size + 1 + 1)) (by omega) (.int .i64 ad) (.int .i64 ln) (.int .i64 ow) (.int .i64 lo) (.int .i64 hi) (.slice va ds.length vc) (.int .i64 nw) (.slice ua es.length uc)
                replace hcs := dr_other8 hcs (n := (w.heap.size + 1 + 1)) (by omega) (.int .i64 ad) (.int .i64 ln) (.int .i64 ow) (.int .i64 lo) (.int .i64 hi) (.slice va ds.length vc) (.int .i64 nw) (.slice ua es.length uc)
                clear p1 p2 p3
                have hgl := setn_size8 hgl (n := (w.heap.size + 1 + 1)) (.int .i64 ad) (.int .i64 ln) (.int .i64 ow) (.int .i64 lo) (.int .i64 hi) (.slice va ds.length vc) (.int .i64 nw) (.slice ua es.length uc)
                refine hK.out _ _ ?_ (fun hHeld1 => ?_)
                · exact ⟨x1, x2, x4.1, hcs⟩
                clear hK K hHeld
                have hHeld := hHeld1
                clear hHeld1
                generalize (World.setCell (World.setCell (World.setCell (World.setCell (World.setCell (World.setCell (World.setCell (World.setCell W ⟨(w.heap.size + 1 + 1), 0, none⟩ (.int .i64 ad)) ⟨(w.heap.size + 1 + 1), 1, none⟩ (.int .i64 ln)) ⟨(w.heap.size + 1 + 1), 2, none⟩ (.int .i64 ow)) ⟨(w.heap.size + 1 + 1), 3, none⟩ (.int .i64 lo)) ⟨(w.heap.size + 1 + 1), 4, none⟩ (.int .i64 hi)) ⟨(w.heap.size + 1 + 1), 5, none⟩ (.slice va ds.length vc)) ⟨(w.heap.size + 1 + 1), 6, none⟩ (.int .i64 nw)) ⟨(w.heap.size + 1 + 1), 7, none⟩ (.slice ua es.length uc)) = Ws at x1 x2 x4 bx bf hO hB hcs hgl hHeld ⊢
                refine wpAnyH_ready (rs := [11]) (by kernel_rfl) (by simp) (AllReadyH.cons rfl (fun K hK => ?_) (AllReadyH.nil))
                obtain ⟨⟨p1, p2⟩, p3⟩ := id bf
                go_simp
                replace bf := bf.set5 (.int .i64 k) (.int .i64 ow) (.int .i64 d.o) (.int .i64 b) (.int .i64 bp)
                replace bx := bx.other5 (n := (w.heap.size + 1 + 1 + 1)) (by omega) (.int .i64 k) (.int .i64 ow) (.int .i64 d.o) (.int .i64 b) (.int .i64 bp)
                replace hO := hO.set5 (m := (w.heap.size + 1 + 1 + 1)) (by omega) (.int .i64 k) (.int .i64 ow) (.int .i64 d.o) (.int .i64 b) (.int .i64 bp)
                replace hB := bl_set5 hB (n := (w.heap.size + 1 + 1 + 1)) (by omega) (.int .i64 k) (.int .i64 ow) (.int .i64 d.o) (.int .i64 b) (.int .i64 bp)
                replace x1 := x1.other5 (n := (w.heap.size + 1 + 1 + 1)) (by omega) (.int .i64 k) (.int .i64 ow) (.int .i64 d.o) (.int .i64 b) (.int .i64 bp)
                replace x2 := x2.other5 (n := (w.heap.size + 1 + 1 + 1)) (by omega) (.int .i64 k) (.int .i64 ow) (.int .i64 d.o) (.int .i64 b) (.int .i64 bp)
                replace x4 := x4.other5 (n := (w.heap.size + 1 + 1 + 1)) (by omega) (.int .i64 k) (.int .i64 ow) (.int .i64 d.o) (.int .i64 b) (.int .i64 bp)
                replace hcs := dr_other5 hcs (n := (w.heap.size + 1 + 1 + 1)) (by omega) (.int .i64 k) (.int .i64 ow) (.int .i64 d.o) (.int .i64 b) (.int .i64 bp)
                clear p1 p2 p3
                have hgl := setn_size5 hgl (n := (w.heap.size + 1 + 1 + 1)) (.int .i64 k) (.int .i64 ow) (.int .i64 d.o) (.int .i64 b) (.int .i64 bp)
                refine hK.out _ _ ?_ (fun hHeld1 => ?_)
                · exact ⟨x1, x2, x4.1, hcs⟩
                clear hK K hHeld
                have hHeld := hHeld1
                clear hHeld1
                generalize (World.setCell (World.setCell (World.setCell (World.setCell (World.setCell Ws ⟨(w.heap.size + 1 + 1 + 1), 0, none⟩ (.int .i64 k)) ⟨(w.heap.size + 1 + 1 + 1), 1, none⟩ (.int .i64 ow)) ⟨(w.heap.size + 1 + 1 + 1), 2, none⟩ (.int .i64 d.o)) ⟨(w.heap.size + 1 + 1 + 1), 3, none⟩ (.int .i64 b)) ⟨(w.heap.size + 1 + 1 + 1), 4, none⟩ (.int .i64 bp)) = Wt at x1 x2 x4 bx bf hO hB hcs hgl hHeld ⊢
                refine takeL 12 6 ?_ ?_ hHeld ?_
                rotate_left
                · (intro w hSw; (try dsimp only at hSw); obtain ⟨hS1, hS2, hS4, hS3⟩ := hSw; obtain ⟨c0, c1, c2, c3⟩ := hS3 _ _ hd.out; simp only [Box] at hS1 hS2 hS4; go_simp; try with_reducible rfl)
                simp only [Act.put, puA, puB, puC]
                refine wpAnyH_done (by kernel_rfl) ?_ _
                go_wp2_with fail
                obtain ⟨⟨t1, t2⟩, t3⟩ := id bx
                obtain ⟨⟨s1, s2⟩, s3⟩ := id bf
                refine bodyPost_ret (v := .tuple #[.agg #[.int .i64 ad, .int .i64 ln, .int .i64 ow, .int .i64 lo, .int .i64 hi, .slice va ds.length vc, .int .i64 nw, .slice ua es.length uc], .agg #[.int .i64 k, .int .i64 ow, .int .i64 d.o, .int .i64 b, .int .i64 bp], .int .i64 0]) (by simp [results, Tryz.results14, go_sem, t2, s2]) rfl ⟨?_, hB⟩
                rw [← hM.out, out_door hk hf hgo hfd]
                exact ⟨va, vc, ua, uc, rfl, hO.mono (by omega)⟩
            · have hfd : ds.find? (sendsD k a ap) = none := noFind hbe
              clear hbe
              have y1 := x1.2
              have y2 := x2.2
              go_wp2_with fail
              refine (l3Entry_ret ad ln ow lo hi nw da ds.length dc ea es.length ec k a ap b bp es _ (HE.out _ hB) he16 n0 n1 hla.out).mono ?_
              rintro e w7 ⟨⟨ei, rfl, hef⟩, hb⟩
              replace hB := bl_trans hB hb
              replace x1 := x1.below hb
              replace x2 := x2.below hb
              replace x4 := x4.below hb
              replace bx := bx.below hb
              replace bf := bf.below hb
              replace hO := hO.below hb
              clear y1 y2 hb
              rcases hef with ⟨n, d, rfl, hd, hpd, hbe⟩ | ⟨rfl, hbe⟩
              · have hfe : es.findIdx? (sendsE nw k a ap b bp) = some n := foundIdx hd hpd hbe
                clear hbe
                have hnl := get_lt hd
                have hnn : ((n : Int) ≥ 0) := by omega
                have hlt' : (n : Int) < (es.length : Int) := by omega
                rcases hE with rfl | ⟨g, o, rfl, hgl, hcs⟩
                · simp at hnl
                · have hgn : g < w.heap.size := hgl
                  replace hcs := hcs.below hB hgl
                  have hgl : g < w7.heap.size := Nat.lt_of_lt_of_le hgl hB.size
                  obtain ⟨g2, cap2, hv, hg20, hg21, hg22, hg23⟩ := own_form hO.2.1 (by omega)
                  simp only [Value.slice.injEq] at hv
                  obtain ⟨rfl, -, rfl⟩ := hv
                  have hg2x : g2 < nx := hOe.out g2 rfl
                  obtain ⟨r0, r1, r2, r3, r4, r5, r6⟩ := enCells_of_own hO.2.1 rfl n d hd
                  have rf := (row_of_own hO.2.1).1.frozen
                  have y1 := x1.2
                  have y4 := x4.1.2
                  have hd : Hid (es[n]? = some d) := hd
                  simp only [Nat.zero_add] at r0 r1 r2 r3 r4 r5 r6
                  go_upto_region 14 with fail
                  clear r0 r1 r2 r3 r4 r5 r6 rf y1 y4
                  have hOd2 : ∀ j, (Value.slice va ds.length vc).ownBlock = some j → j ≠ g2 := fun j hj e => hO.2.2 j hj (by rw [e]; rfl)
                  have hO2 := own_touch hO.2.1 hd.out nw
                  have hO1 := own_ne hO.1 hOd2 (j := 0 + n * 7 + 6) (.int .i64 nw)
                  have hO3 := hO.2.2
                  have hlm : (es.modify n (again nw)).length = es.length := by simp
                  rw [hlm] at hO2
                  rw [← hlm] at hO2
                  replace hO : OwnB _ _ _ ds (.slice (some ⟨g2, 0, none⟩) (es.modify n (again nw)).length uc) (es.modify n (again nw)) := ⟨hO1, hO2, fun j h1 h2 => hO3 j h1 h2⟩
                  replace x1 := x1.other (m := g2) (j := 0 + n * 7 + 6) (by omega) (.int .i64 nw)
                  replace x2 := x2.other (m := g2) (j := 0 + n * 7 + 6) (by omega) (.int .i64 nw)
                  replace x4 := x4.other (m := g2) (j := 0 + n * 7 + 6) (by omega) (.int .i64 nw)
                  replace bx := bx.other (m := g2) (j := 0 + n * 7 + 6) (by omega) (.int .i64 nw)
                  replace bf := bf.other (m := g2) (j := 0 + n * 7 + 6) (by omega) (.int .i64 nw)
                  replace hcs := en_other hcs (n := g2) (j := 0 + n * 7 + 6) (by omega) (.int .i64 nw)
                  replace hB := bl_set (p := ⟨g2, 0 + n * 7 + 6, none⟩) hB (by simp; omega) (.int .i64 nw)
                  replace hgl : g < (w7.setCell ⟨g2, 0 + n * 7 + 6, none⟩ (.int .i64 nw)).heap.size := by simpa [World.setCell] using hgl
                  clear hO1 hO2 hlm
                  simp only [Nat.zero_add] at hO x1 x2 x4 bx bf hcs hB hgl
                  generalize w7.setCell ⟨g2, n * 7 + 6, none⟩ (.int .i64 nw) = W8 at *
                  refine wp_region_held_drew (S := (fun w' => Box w' w.heap.size #[.int .i64 ad, .int .i64 ln, .int .i64 ow, .int .i64 lo, .int .i64 hi, .slice da ds.length dc, .int .i64 nw, .slice (some ⟨g, o, none⟩) es.length ec] ∧ Box w' (w.heap.size + 1) #[.int .i64 k, .int .i64 a, .int .i64 ap, .int .i64 b, .int .i64 bp] ∧ Box w' nx #[.int .i64 ad, .int .i64 ln, .int .i64 ow, .int .i64 lo, .int .i64 hi, .slice va ds.length vc, .int .i64 nw, .slice (some ⟨g2, 0, none⟩) es.length uc] ∧ EnCells w' g o es)) (by kernel_rfl) ?_ (fun hHeld => ?_)
                  · exact ⟨x1.below (bl_drew (bl_refl _)), x2.below (bl_drew (bl_refl _)), x4.1.below (bl_drew (bl_refl _)), hcs.below (bl_drew (bl_refl _)) hgl⟩
                  have hlq := bl_drew (bl_refl W8)
                  replace hB := bl_trans hB hlq
                  replace x1 := x1.below hlq
                  replace x2 := x2.below hlq
                  replace x4 := x4.below hlq
                  replace bx := bx.below hlq
                  replace bf := bf.below hlq
                  replace hO := hO.below hlq
                  replace hcs := hcs.below hlq hgl
                  replace hgl := Nat.lt_of_lt_of_le hgl hlq.size
                  clear hlq
                  generalize World.drew W8 = Wd at x1 x2 x4 bx bf hO hB hcs hgl hHeld ⊢
                  refine takeL 0 70 ?_ ?_ hHeld ?_
                  rotate_left
                  · (intro w hSw; (try dsimp only at hSw); obtain ⟨hS1, hS2, hS4, hS3⟩ := hSw; obtain ⟨c0, c1, c2, c3, c4, c5, c6⟩ := hS3 _ _ hd.out; simp only [Box] at hS1 hS2 hS4; go_simp; try with_reducible rfl)
                  simp only [Act.put, puA, puB, puC]
                  refine takeL 1 71 ?_ ?_ hHeld ?_
                  rotate_left
                  · (intro w hSw; (try dsimp only at hSw); obtain ⟨hS1, hS2, hS4, hS3⟩ := hSw; obtain ⟨c0, c1, c2, c3, c4, c5, c6⟩ := hS3 _ _ hd.out; simp only [Box] at hS1 hS2 hS4; go_simp; try with_reducible rfl)
                  simp only [Act.put, puA, puB, puC]
                  refine takeL 2 72 ?_ ?_ hHeld ?_
                  rotate_left
                  · (intro w hSw; (try dsimp only at hSw); obtain ⟨hS1, hS2, hS4, hS3⟩ := hSw; obtain ⟨c0, c1, c2, c3, c4, c5, c6⟩ := hS3 _ _ hd.out; simp only [Box] at hS1 hS2 hS4; go_simp; try with_reducible rfl)
                  simp only [Act.put, puA, puB, puC]
                  refine takeL 3 73 ?_ ?_ hHeld ?_
                  rotate_left
                  · (intro w hSw; (try dsimp only at hSw); obtain ⟨hS1, hS2, hS4, hS3⟩ := hSw; obtain ⟨c0, c1, c2, c3, c4, c5, c6⟩ := hS3 _ _ hd.out; simp only [Box] at hS1 hS2 hS4; go_simp; try with_reducible rfl)
                  simp only [Act.put, puA, puB, puC]
                  refine takeL 4 74 ?_ ?_ hHeld ?_
                  rotate_left
                  · (intro w hSw; (try dsimp only at hSw); obtain ⟨hS1, hS2, hS4, hS3⟩ := hSw; obtain ⟨c0, c1, c2, c3, c4, c5, c6⟩ := hS3 _ _ hd.out; simp only [Box] at hS1 hS2 hS4; go_simp; try with_reducible rfl)
                  simp only [Act.put, puA, puB, puC]
                  refine takeL 5 75 ?_ ?_ hHeld ?_
                  rotate_left
                  · (intro w hSw; (try dsimp only at hSw); obtain ⟨hS1, hS2, hS4, hS3⟩ := hSw; obtain ⟨c0, c1, c2, c3, c4, c5, c6⟩ := hS3 _ _ hd.out; simp only [Box] at hS1 hS2 hS4; go_simp; try with_reducible rfl)
                  simp only [Act.put, puA, puB, puC]
                  refine takeL 6 76 ?_ ?_ hHeld ?_
                  rotate_left
                  · (intro w hSw; (try dsimp only at hSw); obtain ⟨hS1, hS2, hS4, hS3⟩ := hSw; obtain ⟨c0, c1, c2, c3, c4, c5, c6⟩ := hS3 _ _ hd.out; simp only [Box] at hS1 hS2 hS4; go_simp; try with_reducible rfl)
                  simp only [Act.put, puA, puB, puC]
                  refine takeL 7 77 ?_ ?_ hHeld ?_
                  rotate_left
                  · (intro w hSw; (try dsimp only at hSw); obtain ⟨hS1, hS2, hS4, hS3⟩ := hSw; obtain ⟨c0, c1, c2, c3, c4, c5, c6⟩ := hS3 _ _ hd.out; simp only [Box] at hS1 hS2 hS4; go_simp; try with_reducible rfl)
                  simp only [Act.put, puA, puB, puC]
                  refine takeL 8 78 ?_ ?_ hHeld ?_
                  rotate_left
                  · (intro w hSw; (try dsimp only at hSw); obtain ⟨hS1, hS2, hS4, hS3⟩ := hSw; obtain ⟨c0, c1, c2, c3, c4, c5, c6⟩ := hS3 _ _ hd.out; simp only [Box] at hS1 hS2 hS4; go_simp; try with_reducible rfl)
                  simp only [Act.put, puA, puB, puC]
                  refine wpAnyH_ready (rs := [9]) (by kernel_rfl) (by simp) (AllReadyH.cons rfl (fun K hK => ?_) (AllReadyH.nil))
                  refine step_callg 79 53 rfl (by kernel_rfl) (l3Under_ret ad ln ow lo hi nw da ds.length dc (some ⟨g, o, none⟩) es.length ec k a ap b bp d.o _) (by kernel_rfl) ?_
                  rintro e W ⟨rfl, hb⟩
                  refine ⟨_, rfl, ?_⟩
                  simp only [Act.put, puA, puB, puC]
                  replace hB := bl_trans hB hb
                  replace x1 := x1.below hb
                  replace x2 := x2.below hb
                  replace x4 := x4.below hb
                  replace bx := bx.below hb
                  replace bf := bf.below hb
                  replace hO := hO.below hb
                  replace hcs := hcs.below hb hgl
                  replace hgl := Nat.lt_of_lt_of_le hgl hb.size
                  clear hb
                  refine hK.out _ _ ?_ (fun hHeld1 => ?_)
                  · exact ⟨x1, x2, x4.1, hcs⟩
                  clear hK K hHeld
                  have hHeld := hHeld1
                  clear hHeld1
                  refine wpAnyH_ready (rs := [10]) (by kernel_rfl) (by simp) (AllReadyH.cons rfl (fun K hK => ?_) (AllReadyH.nil))
                  obtain ⟨⟨p1, p2⟩, p3⟩ := id bx
                  go_simp
                  replace bx := bx.set8 (.int .i64 ad) (.int .i64 ln) (.int .i64 ow) (.int .i64 lo) (.int .i64 hi) (.slice va ds.length vc) (.int .i64 nw) (.slice (some ⟨g2, 0, none⟩) es.length uc)
                  replace bf := bf.other8 (n := (w.heap.size + 1 + 1)) (by omega) (.int .i64 ad) (.int .i64 ln) (.int .i64 ow) (.int .i64 lo) (.int .i64 hi) (.slice va ds.length vc) (.int .i64 nw) (.slice (some ⟨g2, 0, none⟩) es.length uc)
                  replace hO := hO.set8 (m := (w.heap.size + 1 + 1)) (by omega) (.int .i64 ad) (.int .i64 ln) (.int .i64 ow) (.int .i64 lo) (.int .i64 hi) (.slice va ds.length vc) (.int .i64 nw) (.slice (some ⟨g2, 0, none⟩) es.length uc)
                  replace hB := bl_set8 hB (n := (w.heap.size + 1 + 1)) (by omega) (.int .i64 ad) (.int .i64 ln) (.int .i64 ow) (.int .i64 lo) (.int .i64 hi) (.slice va ds.length vc) (.int .i64 nw) (.slice (some ⟨g2, 0, none⟩) es.length uc)
                  replace x1 := x1.other8 (n := (w.heap.size + 1 + 1)) (by omega) (.int .i64 ad) (.int .i64 ln) (.int .i64 ow) (.int .i64 lo) (.int .i64 hi) (.slice va ds.length vc) (.int .i64 nw) (.slice (some ⟨g2, 0, none⟩) es.length uc)
                  replace x2 := x2.other8 (n := (w.heap.size + 1 + 1)) (by omega) (.int .i64 ad) (.int .i64 ln) (.int .i64 ow) (.int .i64 lo) (.int .i64 hi) (.slice va ds.length vc) (.int .i64 nw) (.slice (some ⟨g2, 0, none⟩) es.length uc)
                  replace x4 := x4.other8 (n := (w.heap.size + 1 + 1)) (by omega) (.int .i64 ad) (.int .i64 ln) (.int .i64 ow) (.int .i64 lo) (.int .i64 hi) (.slice va ds.length vc) (.int .i64 nw) (.slice (some ⟨g2, 0, none⟩) es.length uc)
                  replace hcs := en_other8 hcs (n := (w.heap.size + 1 + 1)) (by omega) (.int .i64 ad) (.int .i64 ln) (.int .i64 ow) (.int .i64 lo) (.int .i64 hi) (.slice va ds.length vc) (.int .i64 nw) (.slice (some ⟨g2, 0, none⟩) es.length uc)
                  clear p1 p2 p3
                  have hgl := setn_size8 hgl (n := (w.heap.size + 1 + 1)) (.int .i64 ad) (.int .i64 ln) (.int .i64 ow) (.int .i64 lo) (.int .i64 hi) (.slice va ds.length vc) (.int .i64 nw) (.slice (some ⟨g2, 0, none⟩) es.length uc)
                  refine hK.out _ _ ?_ (fun hHeld1 => ?_)
                  · exact ⟨x1, x2, x4.1, hcs⟩
                  clear hK K hHeld
                  have hHeld := hHeld1
                  clear hHeld1
                  generalize (World.setCell (World.setCell (World.setCell (World.setCell (World.setCell (World.setCell (World.setCell (World.setCell W ⟨(w.heap.size + 1 + 1), 0, none⟩ (.int .i64 ad)) ⟨(w.heap.size + 1 + 1), 1, none⟩ (.int .i64 ln)) ⟨(w.heap.size + 1 + 1), 2, none⟩ (.int .i64 ow)) ⟨(w.heap.size + 1 + 1), 3, none⟩ (.int .i64 lo)) ⟨(w.heap.size + 1 + 1), 4, none⟩ (.int .i64 hi)) ⟨(w.heap.size + 1 + 1), 5, none⟩ (.slice va ds.length vc)) ⟨(w.heap.size + 1 + 1), 6, none⟩ (.int .i64 nw)) ⟨(w.heap.size + 1 + 1), 7, none⟩ (.slice (some ⟨g2, 0, none⟩) es.length uc)) = Ws at x1 x2 x4 bx bf hO hB hcs hgl hHeld ⊢
                  refine wpAnyH_ready (rs := [11]) (by kernel_rfl) (by simp) (AllReadyH.cons rfl (fun K hK => ?_) (AllReadyH.nil))
                  obtain ⟨⟨p1, p2⟩, p3⟩ := id bf
                  go_simp
                  replace bf := bf.set5 (.int .i64 k) (.int .i64 ow) (.int .i64 d.o) (.int .i64 b) (.int .i64 bp)
                  replace bx := bx.other5 (n := (w.heap.size + 1 + 1 + 1)) (by omega) (.int .i64 k) (.int .i64 ow) (.int .i64 d.o) (.int .i64 b) (.int .i64 bp)
                  replace hO := hO.set5 (m := (w.heap.size + 1 + 1 + 1)) (by omega) (.int .i64 k) (.int .i64 ow) (.int .i64 d.o) (.int .i64 b) (.int .i64 bp)
                  replace hB := bl_set5 hB (n := (w.heap.size + 1 + 1 + 1)) (by omega) (.int .i64 k) (.int .i64 ow) (.int .i64 d.o) (.int .i64 b) (.int .i64 bp)
                  replace x1 := x1.other5 (n := (w.heap.size + 1 + 1 + 1)) (by omega) (.int .i64 k) (.int .i64 ow) (.int .i64 d.o) (.int .i64 b) (.int .i64 bp)
                  replace x2 := x2.other5 (n := (w.heap.size + 1 + 1 + 1)) (by omega) (.int .i64 k) (.int .i64 ow) (.int .i64 d.o) (.int .i64 b) (.int .i64 bp)
                  replace x4 := x4.other5 (n := (w.heap.size + 1 + 1 + 1)) (by omega) (.int .i64 k) (.int .i64 ow) (.int .i64 d.o) (.int .i64 b) (.int .i64 bp)
                  replace hcs := en_other5 hcs (n := (w.heap.size + 1 + 1 + 1)) (by omega) (.int .i64 k) (.int .i64 ow) (.int .i64 d.o) (.int .i64 b) (.int .i64 bp)
                  clear p1 p2 p3
                  have hgl := setn_size5 hgl (n := (w.heap.size + 1 + 1 + 1)) (.int .i64 k) (.int .i64 ow) (.int .i64 d.o) (.int .i64 b) (.int .i64 bp)
                  refine hK.out _ _ ?_ (fun hHeld1 => ?_)
                  · exact ⟨x1, x2, x4.1, hcs⟩
                  clear hK K hHeld
                  have hHeld := hHeld1
                  clear hHeld1
                  generalize (World.setCell (World.setCell (World.setCell (World.setCell (World.setCell Ws ⟨(w.heap.size + 1 + 1 + 1), 0, none⟩ (.int .i64 k)) ⟨(w.heap.size + 1 + 1 + 1), 1, none⟩ (.int .i64 ow)) ⟨(w.heap.size + 1 + 1 + 1), 2, none⟩ (.int .i64 d.o)) ⟨(w.heap.size + 1 + 1 + 1), 3, none⟩ (.int .i64 b)) ⟨(w.heap.size + 1 + 1 + 1), 4, none⟩ (.int .i64 bp)) = Wt at x1 x2 x4 bx bf hO hB hcs hgl hHeld ⊢
                  refine takeL 12 6 ?_ ?_ hHeld ?_
                  rotate_left
                  · (intro w hSw; (try dsimp only at hSw); obtain ⟨hS1, hS2, hS4, hS3⟩ := hSw; obtain ⟨c0, c1, c2, c3, c4, c5, c6⟩ := hS3 _ _ hd.out; simp only [Box] at hS1 hS2 hS4; go_simp; try with_reducible rfl)
                  simp only [Act.put, puA, puB, puC]
                  refine wpAnyH_done (by kernel_rfl) ?_ _
                  go_wp2_with fail
                  obtain ⟨⟨t1, t2⟩, t3⟩ := id bx
                  obtain ⟨⟨s1, s2⟩, s3⟩ := id bf
                  refine bodyPost_ret (v := .tuple #[.agg #[.int .i64 ad, .int .i64 ln, .int .i64 ow, .int .i64 lo, .int .i64 hi, .slice va ds.length vc, .int .i64 nw, .slice (some ⟨g2, 0, none⟩) es.length uc], .agg #[.int .i64 k, .int .i64 ow, .int .i64 d.o, .int .i64 b, .int .i64 bp], .int .i64 0]) (by simp [results, Tryz.results14, go_sem, t2, s2]) rfl ⟨?_, hB⟩
                  rw [← hM.out, out_entry hk hf hgo hfd hfe hd.out]
                  have hlm : (es.modify n (again nw)).length = es.length := by simp
                  rw [← hlm]
                  exact ⟨va, vc, some ⟨g2, 0, none⟩, uc, rfl, hO.mono (by omega)⟩
              · have hfe : es.findIdx? (sendsE nw k a ap b bp) = none := noIdx hbe
                clear hbe
                have y1 := x1.2
                have y2 := x2.2
                by_cases hl16 : es.length = 16
                · have hqe : ((es.length : Int) == 16) = true := by simp [hl16]
                  have hlx : Hid (es.length = 16) := hl16
                  clear hl16
                  obtain ⟨⟨p1, p2⟩, p3⟩ := id bx
                  obtain ⟨⟨q1, q2⟩, q3⟩ := id bf
                  have y4 := x4.1.2
                  go_wp2_with fail
                  have bv := (bx.set8 (.int .i64 ad) (.int .i64 ln) (.int .i64 ow) (.int .i64 lo) (.int .i64 hi) (.slice va ds.length vc) (.int .i64 nw) (.slice ua es.length uc)).other5 (n := (w.heap.size + 1 + 1 + 1)) (by omega) (.int .i64 0) (.int .i64 0) (.int .i64 0) (.int .i64 0) (.int .i64 0)
                  have fv := (bf.other8 (n := (w.heap.size + 1 + 1)) (by omega) (.int .i64 ad) (.int .i64 ln) (.int .i64 ow) (.int .i64 lo) (.int .i64 hi) (.slice va ds.length vc) (.int .i64 nw) (.slice ua es.length uc)).set5 (.int .i64 0) (.int .i64 0) (.int .i64 0) (.int .i64 0) (.int .i64 0)
                  obtain ⟨⟨t1, t2⟩, t3⟩ := id bv
                  obtain ⟨⟨s1, s2⟩, s3⟩ := id fv
                  refine bodyPost_ret (v := .tuple #[.agg #[.int .i64 ad, .int .i64 ln, .int .i64 ow, .int .i64 lo, .int .i64 hi, .slice va ds.length vc, .int .i64 nw, .slice ua es.length uc], .agg #[.int .i64 0, .int .i64 0, .int .i64 0, .int .i64 0, .int .i64 0], .int .i64 4]) (by simp [results, Tryz.results14, go_sem, t2, s2]) rfl ⟨?_, bl_set5 (bl_set8 hB (n := (w.heap.size + 1 + 1)) (by omega) (.int .i64 ad) (.int .i64 ln) (.int .i64 ow) (.int .i64 lo) (.int .i64 hi) (.slice va ds.length vc) (.int .i64 nw) (.slice ua es.length uc)) (n := (w.heap.size + 1 + 1 + 1)) (by omega) (.int .i64 0) (.int .i64 0) (.int .i64 0) (.int .i64 0) (.int .i64 0)⟩
                  rw [← hM.out, out_four hk hf hgo hfd hfe hlx.out]
                  exact ⟨va, vc, ua, uc, rfl, ((hO.set8 (m := (w.heap.size + 1 + 1)) (by omega) (.int .i64 ad) (.int .i64 ln) (.int .i64 ow) (.int .i64 lo) (.int .i64 hi) (.slice va ds.length vc) (.int .i64 nw) (.slice ua es.length uc)).set5 (m := (w.heap.size + 1 + 1 + 1)) (by omega) (.int .i64 0) (.int .i64 0) (.int .i64 0) (.int .i64 0) (.int .i64 0)).mono (by omega)⟩
                · have hqe : ((es.length : Int) == 16) = false := by simp; omega
                  go_wp2_with fail
                  refine (l3Free_ret ad ln ow lo hi nw da ds.length dc ea es.length ec k a ap b bp es _ (HE.out _ hB) he16 po1 po2 po3).mono ?_
                  rintro e w8 ⟨⟨p, rfl, hfp⟩, hb⟩
                  replace hB := bl_trans hB hb
                  replace x1 := x1.below hb
                  replace x2 := x2.below hb
                  replace x4 := x4.below hb
                  replace bx := bx.below hb
                  replace bf := bf.below hb
                  replace hO := hO.below hb
                  clear y1 y2 hb
                  by_cases hp0 : p = 0
                  · subst hp0
                    have hfp := free_none hfp po1
                    obtain ⟨⟨p1, p2⟩, p3⟩ := id bx
                    obtain ⟨⟨q1, q2⟩, q3⟩ := id bf
                    have y4 := x4.1.2
                    go_wp2_with fail
                    have bv := (bx.set8 (.int .i64 ad) (.int .i64 ln) (.int .i64 ow) (.int .i64 lo) (.int .i64 hi) (.slice va ds.length vc) (.int .i64 nw) (.slice ua es.length uc)).other5 (n := (w.heap.size + 1 + 1 + 1)) (by omega) (.int .i64 0) (.int .i64 0) (.int .i64 0) (.int .i64 0) (.int .i64 0)
                    have fv := (bf.other8 (n := (w.heap.size + 1 + 1)) (by omega) (.int .i64 ad) (.int .i64 ln) (.int .i64 ow) (.int .i64 lo) (.int .i64 hi) (.slice va ds.length vc) (.int .i64 nw) (.slice ua es.length uc)).set5 (.int .i64 0) (.int .i64 0) (.int .i64 0) (.int .i64 0) (.int .i64 0)
                    obtain ⟨⟨t1, t2⟩, t3⟩ := id bv
                    obtain ⟨⟨s1, s2⟩, s3⟩ := id fv
                    refine bodyPost_ret (v := .tuple #[.agg #[.int .i64 ad, .int .i64 ln, .int .i64 ow, .int .i64 lo, .int .i64 hi, .slice va ds.length vc, .int .i64 nw, .slice ua es.length uc], .agg #[.int .i64 0, .int .i64 0, .int .i64 0, .int .i64 0, .int .i64 0], .int .i64 5]) (by simp [results, Tryz.results14, go_sem, t2, s2]) rfl ⟨?_, bl_set5 (bl_set8 hB (n := (w.heap.size + 1 + 1)) (by omega) (.int .i64 ad) (.int .i64 ln) (.int .i64 ow) (.int .i64 lo) (.int .i64 hi) (.slice va ds.length vc) (.int .i64 nw) (.slice ua es.length uc)) (n := (w.heap.size + 1 + 1 + 1)) (by omega) (.int .i64 0) (.int .i64 0) (.int .i64 0) (.int .i64 0) (.int .i64 0)⟩
                    rw [← hM.out, out_five hk hf hgo hfd hfe hl16 hfp]
                    exact ⟨va, vc, ua, uc, rfl, ((hO.set8 (m := (w.heap.size + 1 + 1)) (by omega) (.int .i64 ad) (.int .i64 ln) (.int .i64 ow) (.int .i64 lo) (.int .i64 hi) (.slice va ds.length vc) (.int .i64 nw) (.slice ua es.length uc)).set5 (m := (w.heap.size + 1 + 1 + 1)) (by omega) (.int .i64 0) (.int .i64 0) (.int .i64 0) (.int .i64 0) (.int .i64 0)).mono (by omega)⟩
                  · have hqp : (p == 0) = false := by simpa using hp0
                    have hfp := free_some hfp hp0
                    clear hp0
                    have y1 := x1.2
                    have y2 := x2.2
                    obtain ⟨⟨p1, p2⟩, p3⟩ := id x4
                    obtain ⟨ne, hne, m1, m2, m3, m4, m5, m6, m7⟩ : ∃ ne : En, Hid (ne = ⟨k, b, bp, p, a, ap, nw⟩) ∧ ne.k = k ∧ ne.pr = b ∧ ne.pp = bp ∧ ne.o = p ∧ ne.i = a ∧ ne.ip = ap ∧ ne.l = nw := ⟨_, rfl, rfl, rfl, rfl, rfl, rfl, rfl, rfl⟩
                    have H9 : Hid (Calls Tryz.prog _ _ _ _) := putE_ret ua uc _ es ne w8 hO.2.1 (by omega)
                    rw [m1, m2, m3, m4, m5, m6, m7] at H9
                    clear m1 m2 m3 m4 m5 m6 m7
                    go_wp2_with fail
                    refine H9.out.mono ?_
                    rintro e w9 ⟨v, rfl, hop, hb⟩
                    obtain ⟨pa, pc, rfl⟩ := own_slice hop
                    have hs8 := hb.size
                    have hx8 := x4.1.1
                    replace hB := bl_trans hB hb
                    replace x1 := x1.below hb
                    replace x2 := x2.below hb
                    replace x4 := x4.below hb
                    replace bx := bx.below hb
                    replace bf := bf.below hb
                    replace hO := hO.below hb
                    have hOd8 : ∀ j, (Value.slice va ds.length vc).ownBlock = some j → j ≠ nx := fun j hj => by have := hOd.out j hj; omega
                    have hOp8 : ∀ j, (Value.slice pa (putE es ne).length pc).ownBlock = some j → j ≠ nx := fun j hj => by have := (hop.lt j hj).1; omega
                    have hOx8 : ∀ j, (Value.slice va ds.length vc).ownBlock = some j → (Value.slice pa (putE es ne).length pc).ownBlock ≠ some j := fun j h1 h2 => by have := (hop.lt j h2).1; have := hOd.out j h1; omega
                    clear y1 y2 p1 p2 p3 hb H9
                    obtain ⟨⟨p1, p2⟩, p3⟩ := id x4
                    go_upto_region 21 with fail
                    clear p1 p2 p3
                    have hO1 := own_ne hO.1 hOd8 (j := 7) (.slice pa (putE es ne).length pc)
                    have hO2 := own_ne hop hOp8 (j := 7) (.slice pa (putE es ne).length pc)
                    replace hO : OwnB _ w1.heap.size _ ds (.slice pa (putE es ne).length pc) (putE es ne) := ⟨hO1, own_mono hO2 (by omega), hOx8⟩
                    replace x1 := x1.other (m := nx) (j := 7) (by omega) (.slice pa (putE es ne).length pc)
                    replace x2 := x2.other (m := nx) (j := 7) (by omega) (.slice pa (putE es ne).length pc)
                    replace bx := bx.other (m := nx) (j := 7) (by omega) (.slice pa (putE es ne).length pc)
                    replace bf := bf.other (m := nx) (j := 7) (by omega) (.slice pa (putE es ne).length pc)
                    replace x4 : Bx _ nx #[.int .i64 ad, .int .i64 ln, .int .i64 ow, .int .i64 lo, .int .i64 hi, .slice va ds.length vc, .int .i64 nw, .slice pa (putE es ne).length pc] := x4.set (j := 7) (by simp) (.slice pa (putE es ne).length pc)
                    replace hB := bl_set (p := ⟨nx, 7, none⟩) hB (by simp; omega) (.slice pa (putE es ne).length pc)
                    clear hO1 hO2 hop hOp8 hOx8 hOd8
                    generalize w9.setCell ⟨nx, 7, none⟩ (.slice pa (putE es ne).length pc) = W9 at *
                    refine wp_region_held_drew (S := (fun w' => Box w' w.heap.size #[.int .i64 ad, .int .i64 ln, .int .i64 ow, .int .i64 lo, .int .i64 hi, .slice da ds.length dc, .int .i64 nw, .slice ea es.length ec] ∧ Box w' (w.heap.size + 1) #[.int .i64 k, .int .i64 a, .int .i64 ap, .int .i64 b, .int .i64 bp] ∧ Box w' nx #[.int .i64 ad, .int .i64 ln, .int .i64 ow, .int .i64 lo, .int .i64 hi, .slice va ds.length vc, .int .i64 nw, .slice pa (putE es ne).length pc])) (by kernel_rfl) ?_ (fun hHeld => ?_)
                    · exact ⟨x1.below (bl_drew (bl_refl _)), x2.below (bl_drew (bl_refl _)), x4.1.below (bl_drew (bl_refl _))⟩
                    have hlq := bl_drew (bl_refl W9)
                    replace hB := bl_trans hB hlq
                    replace x1 := x1.below hlq
                    replace x2 := x2.below hlq
                    replace x4 := x4.below hlq
                    replace bx := bx.below hlq
                    replace bf := bf.below hlq
                    replace hO := hO.below hlq
                    clear hlq
                    generalize World.drew W9 = Wd at x1 x2 x4 bx bf hO hB  hHeld ⊢
                    refine takeL 0 111 ?_ ?_ hHeld ?_
                    rotate_left
                    · (intro w hSw; (try dsimp only at hSw); obtain ⟨hS1, hS2, hS4⟩ := hSw; simp only [Box] at hS1 hS2 hS4; go_simp; try with_reducible rfl)
                    simp only [Act.put, puA, puB, puC]
                    refine takeL 1 112 ?_ ?_ hHeld ?_
                    rotate_left
                    · (intro w hSw; (try dsimp only at hSw); obtain ⟨hS1, hS2, hS4⟩ := hSw; simp only [Box] at hS1 hS2 hS4; go_simp; try with_reducible rfl)
                    simp only [Act.put, puA, puB, puC]
                    refine takeL 2 113 ?_ ?_ hHeld ?_
                    rotate_left
                    · (intro w hSw; (try dsimp only at hSw); obtain ⟨hS1, hS2, hS4⟩ := hSw; simp only [Box] at hS1 hS2 hS4; go_simp; try with_reducible rfl)
                    simp only [Act.put, puA, puB, puC]
                    refine takeL 3 114 ?_ ?_ hHeld ?_
                    rotate_left
                    · (intro w hSw; (try dsimp only at hSw); obtain ⟨hS1, hS2, hS4⟩ := hSw; simp only [Box] at hS1 hS2 hS4; go_simp; try with_reducible rfl)
                    simp only [Act.put, puA, puB, puC]
                    refine wpAnyH_ready (rs := [4]) (by kernel_rfl) (by simp) (AllReadyH.cons rfl (fun K hK => ?_) (AllReadyH.nil))
                    refine step_callg 115 53 rfl (by kernel_rfl) (l3Under_ret ad ln ow lo hi nw da ds.length dc ea es.length ec k a ap b bp p _) (by kernel_rfl) ?_
                    rintro e W ⟨rfl, hb⟩
                    refine ⟨_, rfl, ?_⟩
                    simp only [Act.put, puA, puB, puC]
                    replace hB := bl_trans hB hb
                    replace x1 := x1.below hb
                    replace x2 := x2.below hb
                    replace x4 := x4.below hb
                    replace bx := bx.below hb
                    replace bf := bf.below hb
                    replace hO := hO.below hb
                    clear hb
                    refine hK.out _ _ ?_ (fun hHeld1 => ?_)
                    · exact ⟨x1, x2, x4.1⟩
                    clear hK K hHeld
                    have hHeld := hHeld1
                    clear hHeld1
                    refine wpAnyH_ready (rs := [5]) (by kernel_rfl) (by simp) (AllReadyH.cons rfl (fun K hK => ?_) (AllReadyH.nil))
                    obtain ⟨⟨p1, p2⟩, p3⟩ := id bx
                    go_simp
                    replace bx := bx.set8 (.int .i64 ad) (.int .i64 ln) (.int .i64 ow) (.int .i64 lo) (.int .i64 hi) (.slice va ds.length vc) (.int .i64 nw) (.slice pa (putE es ne).length pc)
                    replace bf := bf.other8 (n := (w.heap.size + 1 + 1)) (by omega) (.int .i64 ad) (.int .i64 ln) (.int .i64 ow) (.int .i64 lo) (.int .i64 hi) (.slice va ds.length vc) (.int .i64 nw) (.slice pa (putE es ne).length pc)
                    replace hO := hO.set8 (m := (w.heap.size + 1 + 1)) (by omega) (.int .i64 ad) (.int .i64 ln) (.int .i64 ow) (.int .i64 lo) (.int .i64 hi) (.slice va ds.length vc) (.int .i64 nw) (.slice pa (putE es ne).length pc)
                    replace hB := bl_set8 hB (n := (w.heap.size + 1 + 1)) (by omega) (.int .i64 ad) (.int .i64 ln) (.int .i64 ow) (.int .i64 lo) (.int .i64 hi) (.slice va ds.length vc) (.int .i64 nw) (.slice pa (putE es ne).length pc)
                    replace x1 := x1.other8 (n := (w.heap.size + 1 + 1)) (by omega) (.int .i64 ad) (.int .i64 ln) (.int .i64 ow) (.int .i64 lo) (.int .i64 hi) (.slice va ds.length vc) (.int .i64 nw) (.slice pa (putE es ne).length pc)
                    replace x2 := x2.other8 (n := (w.heap.size + 1 + 1)) (by omega) (.int .i64 ad) (.int .i64 ln) (.int .i64 ow) (.int .i64 lo) (.int .i64 hi) (.slice va ds.length vc) (.int .i64 nw) (.slice pa (putE es ne).length pc)
                    replace x4 := x4.other8 (n := (w.heap.size + 1 + 1)) (by omega) (.int .i64 ad) (.int .i64 ln) (.int .i64 ow) (.int .i64 lo) (.int .i64 hi) (.slice va ds.length vc) (.int .i64 nw) (.slice pa (putE es ne).length pc)
                    clear p1 p2 p3
                    refine hK.out _ _ ?_ (fun hHeld1 => ?_)
                    · exact ⟨x1, x2, x4.1⟩
                    clear hK K hHeld
                    have hHeld := hHeld1
                    clear hHeld1
                    generalize (World.setCell (World.setCell (World.setCell (World.setCell (World.setCell (World.setCell (World.setCell (World.setCell W ⟨(w.heap.size + 1 + 1), 0, none⟩ (.int .i64 ad)) ⟨(w.heap.size + 1 + 1), 1, none⟩ (.int .i64 ln)) ⟨(w.heap.size + 1 + 1), 2, none⟩ (.int .i64 ow)) ⟨(w.heap.size + 1 + 1), 3, none⟩ (.int .i64 lo)) ⟨(w.heap.size + 1 + 1), 4, none⟩ (.int .i64 hi)) ⟨(w.heap.size + 1 + 1), 5, none⟩ (.slice va ds.length vc)) ⟨(w.heap.size + 1 + 1), 6, none⟩ (.int .i64 nw)) ⟨(w.heap.size + 1 + 1), 7, none⟩ (.slice pa (putE es ne).length pc)) = Ws at x1 x2 x4 bx bf hO hB  hHeld ⊢
                    refine wpAnyH_ready (rs := [6]) (by kernel_rfl) (by simp) (AllReadyH.cons rfl (fun K hK => ?_) (AllReadyH.nil))
                    obtain ⟨⟨p1, p2⟩, p3⟩ := id bf
                    go_simp
                    replace bf := bf.set5 (.int .i64 k) (.int .i64 ow) (.int .i64 p) (.int .i64 b) (.int .i64 bp)
                    replace bx := bx.other5 (n := (w.heap.size + 1 + 1 + 1)) (by omega) (.int .i64 k) (.int .i64 ow) (.int .i64 p) (.int .i64 b) (.int .i64 bp)
                    replace hO := hO.set5 (m := (w.heap.size + 1 + 1 + 1)) (by omega) (.int .i64 k) (.int .i64 ow) (.int .i64 p) (.int .i64 b) (.int .i64 bp)
                    replace hB := bl_set5 hB (n := (w.heap.size + 1 + 1 + 1)) (by omega) (.int .i64 k) (.int .i64 ow) (.int .i64 p) (.int .i64 b) (.int .i64 bp)
                    replace x1 := x1.other5 (n := (w.heap.size + 1 + 1 + 1)) (by omega) (.int .i64 k) (.int .i64 ow) (.int .i64 p) (.int .i64 b) (.int .i64 bp)
                    replace x2 := x2.other5 (n := (w.heap.size + 1 + 1 + 1)) (by omega) (.int .i64 k) (.int .i64 ow) (.int .i64 p) (.int .i64 b) (.int .i64 bp)
                    replace x4 := x4.other5 (n := (w.heap.size + 1 + 1 + 1)) (by omega) (.int .i64 k) (.int .i64 ow) (.int .i64 p) (.int .i64 b) (.int .i64 bp)
                    clear p1 p2 p3
                    refine hK.out _ _ ?_ (fun hHeld1 => ?_)
                    · exact ⟨x1, x2, x4.1⟩
                    clear hK K hHeld
                    have hHeld := hHeld1
                    clear hHeld1
                    generalize (World.setCell (World.setCell (World.setCell (World.setCell (World.setCell Ws ⟨(w.heap.size + 1 + 1 + 1), 0, none⟩ (.int .i64 k)) ⟨(w.heap.size + 1 + 1 + 1), 1, none⟩ (.int .i64 ow)) ⟨(w.heap.size + 1 + 1 + 1), 2, none⟩ (.int .i64 p)) ⟨(w.heap.size + 1 + 1 + 1), 3, none⟩ (.int .i64 b)) ⟨(w.heap.size + 1 + 1 + 1), 4, none⟩ (.int .i64 bp)) = Wt at x1 x2 x4 bx bf hO hB  hHeld ⊢
                    refine takeL 7 6 ?_ ?_ hHeld ?_
                    rotate_left
                    · (intro w hSw; (try dsimp only at hSw); obtain ⟨hS1, hS2, hS4⟩ := hSw; simp only [Box] at hS1 hS2 hS4; go_simp; try with_reducible rfl)
                    simp only [Act.put, puA, puB, puC]
                    refine wpAnyH_done (by kernel_rfl) ?_ _
                    go_wp2_with fail
                    obtain ⟨⟨t1, t2⟩, t3⟩ := id bx
                    obtain ⟨⟨s1, s2⟩, s3⟩ := id bf
                    refine bodyPost_ret (v := .tuple #[.agg #[.int .i64 ad, .int .i64 ln, .int .i64 ow, .int .i64 lo, .int .i64 hi, .slice va ds.length vc, .int .i64 nw, .slice pa (putE es ne).length pc], .agg #[.int .i64 k, .int .i64 ow, .int .i64 p, .int .i64 b, .int .i64 bp], .int .i64 0]) (by simp [results, Tryz.results14, go_sem, t2, s2]) rfl ⟨?_, hB⟩
                    rw [← hM.out, out_new hk hf hgo hfd hfe hl16 hfp, ← hne.out]
                    exact ⟨va, vc, pa, pc, rfl, hO.mono (by omega)⟩
      · have hia : insB ad ln a = false := by simpa using hia
        go_wp2_with fail
        refine (l2Inside_v _ _ _ _ _ _ _ _ _ _ _ _ _ false _ l0 l1 a0 a1 hia).mono ?_
        rintro e w4 ⟨rfl, hb⟩
        replace hB := bl_trans hB hb
        replace x1 := x1.below hb
        replace x2 := x2.below hb
        replace x4 := x4.below hb
        replace bx := bx.below hb
        replace bf := bf.below hb
        replace hO := hO.below hb
        clear y1 y2 hb
        obtain ⟨⟨p1, p2⟩, p3⟩ := id bx
        obtain ⟨⟨q1, q2⟩, q3⟩ := id bf
        have y4 := x4.1.2
        go_wp2_with fail
        have bv := (bx.set8 (.int .i64 ad) (.int .i64 ln) (.int .i64 ow) (.int .i64 lo) (.int .i64 hi) (.slice va ds.length vc) (.int .i64 nw) (.slice ua es.length uc)).other5 (n := (w.heap.size + 1 + 1 + 1)) (by omega) (.int .i64 0) (.int .i64 0) (.int .i64 0) (.int .i64 0) (.int .i64 0)
        have fv := (bf.other8 (n := (w.heap.size + 1 + 1)) (by omega) (.int .i64 ad) (.int .i64 ln) (.int .i64 ow) (.int .i64 lo) (.int .i64 hi) (.slice va ds.length vc) (.int .i64 nw) (.slice ua es.length uc)).set5 (.int .i64 0) (.int .i64 0) (.int .i64 0) (.int .i64 0) (.int .i64 0)
        obtain ⟨⟨t1, t2⟩, t3⟩ := id bv
        obtain ⟨⟨s1, s2⟩, s3⟩ := id fv
        refine bodyPost_ret (v := .tuple #[.agg #[.int .i64 ad, .int .i64 ln, .int .i64 ow, .int .i64 lo, .int .i64 hi, .slice va ds.length vc, .int .i64 nw, .slice ua es.length uc], .agg #[.int .i64 0, .int .i64 0, .int .i64 0, .int .i64 0, .int .i64 0], .int .i64 3]) (by simp [results, Tryz.results14, go_sem, t2, s2]) rfl ⟨?_, bl_set5 (bl_set8 hB (n := (w.heap.size + 1 + 1)) (by omega) (.int .i64 ad) (.int .i64 ln) (.int .i64 ow) (.int .i64 lo) (.int .i64 hi) (.slice va ds.length vc) (.int .i64 nw) (.slice ua es.length uc)) (n := (w.heap.size + 1 + 1 + 1)) (by omega) (.int .i64 0) (.int .i64 0) (.int .i64 0) (.int .i64 0) (.int .i64 0)⟩
        rw [← hM.out, out_three hk hf (goes_no1 hia)]
        exact ⟨va, vc, ua, uc, rfl, ((hO.set8 (m := (w.heap.size + 1 + 1)) (by omega) (.int .i64 ad) (.int .i64 ln) (.int .i64 ow) (.int .i64 lo) (.int .i64 hi) (.slice va ds.length vc) (.int .i64 nw) (.slice ua es.length uc)).set5 (m := (w.heap.size + 1 + 1 + 1)) (by omega) (.int .i64 0) (.int .i64 0) (.int .i64 0) (.int .i64 0) (.int .i64 0)).mono (by omega)⟩
    · have hf : flowB k a ap b bp = false := by simpa using hf
      go_wp2_with fail
      refine (specFlow_v k a ap b bp false _ hf).mono ?_
      rintro e w3 ⟨rfl, hb⟩
      replace hB := bl_trans hB hb
      replace x1 := x1.below hb
      replace x2 := x2.below hb
      replace x4 := x4.below hb
      replace bx := bx.below hb
      replace bf := bf.below hb
      replace hO := hO.below hb
      clear y2 hb
      obtain ⟨⟨p1, p2⟩, p3⟩ := id bx
      obtain ⟨⟨q1, q2⟩, q3⟩ := id bf
      have y4 := x4.1.2
      go_wp2_with fail
      have bv := (bx.set8 (.int .i64 ad) (.int .i64 ln) (.int .i64 ow) (.int .i64 lo) (.int .i64 hi) (.slice va ds.length vc) (.int .i64 nw) (.slice ua es.length uc)).other5 (n := (w.heap.size + 1 + 1 + 1)) (by omega) (.int .i64 0) (.int .i64 0) (.int .i64 0) (.int .i64 0) (.int .i64 0)
      have fv := (bf.other8 (n := (w.heap.size + 1 + 1)) (by omega) (.int .i64 ad) (.int .i64 ln) (.int .i64 ow) (.int .i64 lo) (.int .i64 hi) (.slice va ds.length vc) (.int .i64 nw) (.slice ua es.length uc)).set5 (.int .i64 0) (.int .i64 0) (.int .i64 0) (.int .i64 0) (.int .i64 0)
      obtain ⟨⟨t1, t2⟩, t3⟩ := id bv
      obtain ⟨⟨s1, s2⟩, s3⟩ := id fv
      refine bodyPost_ret (v := .tuple #[.agg #[.int .i64 ad, .int .i64 ln, .int .i64 ow, .int .i64 lo, .int .i64 hi, .slice va ds.length vc, .int .i64 nw, .slice ua es.length uc], .agg #[.int .i64 0, .int .i64 0, .int .i64 0, .int .i64 0, .int .i64 0], .int .i64 2]) (by simp [results, Tryz.results14, go_sem, t2, s2]) rfl ⟨?_, bl_set5 (bl_set8 hB (n := (w.heap.size + 1 + 1)) (by omega) (.int .i64 ad) (.int .i64 ln) (.int .i64 ow) (.int .i64 lo) (.int .i64 hi) (.slice va ds.length vc) (.int .i64 nw) (.slice ua es.length uc)) (n := (w.heap.size + 1 + 1 + 1)) (by omega) (.int .i64 0) (.int .i64 0) (.int .i64 0) (.int .i64 0) (.int .i64 0)⟩
      rw [← hM.out, out_two hk hf]
      exact ⟨va, vc, ua, uc, rfl, ((hO.set8 (m := (w.heap.size + 1 + 1)) (by omega) (.int .i64 ad) (.int .i64 ln) (.int .i64 ow) (.int .i64 lo) (.int .i64 hi) (.slice va ds.length vc) (.int .i64 nw) (.slice ua es.length uc)).set5 (m := (w.heap.size + 1 + 1 + 1)) (by omega) (.int .i64 0) (.int .i64 0) (.int .i64 0) (.int .i64 0) (.int .i64 0)).mono (by omega)⟩
  · have hk : bookB ad ln ow lo hi nw ds es = false := by simpa using hk
    have H1 : Hid (Calls Tryz.prog _ _ _ _) := specBook_v ad ln ow lo hi nw da ds.length dc ea es.length ec ds es false _ (HD.out _ hB) (HE.out _ hB) hk
    go_enter Tryz.func14, Tryz.ntmps14
    go_wp2_with fail
    refine H1.out.mono ?_
    rintro e w1 ⟨rfl, hb1⟩
    replace hB := bl_trans hB hb1
    replace bx := bx.below hb1
    replace bf := bf.below hb1
    clear hb1 H1 x1 x2
    obtain ⟨⟨p1, p2⟩, p3⟩ := id bx
    obtain ⟨⟨q1, q2⟩, q3⟩ := id bf
    go_wp2_with fail
    have bv := (bx.set8 (.int .i64 0) (.int .i64 0) (.int .i64 0) (.int .i64 0) (.int .i64 0) (.slice none 0 0) (.int .i64 0) (.slice none 0 0)).other5 (n := (w.heap.size + 1 + 1 + 1)) (by omega) (.int .i64 0) (.int .i64 0) (.int .i64 0) (.int .i64 0) (.int .i64 0)
    have fv := (bf.other8 (n := (w.heap.size + 1 + 1)) (by omega) (.int .i64 0) (.int .i64 0) (.int .i64 0) (.int .i64 0) (.int .i64 0) (.slice none 0 0) (.int .i64 0) (.slice none 0 0)).set5 (.int .i64 0) (.int .i64 0) (.int .i64 0) (.int .i64 0) (.int .i64 0)
    obtain ⟨⟨t1, t2⟩, t3⟩ := id bv
    obtain ⟨⟨s1, s2⟩, s3⟩ := id fv
    refine bodyPost_ret (v := .tuple #[.agg #[.int .i64 0, .int .i64 0, .int .i64 0, .int .i64 0, .int .i64 0, .slice none 0 0, .int .i64 0, .slice none 0 0], .agg #[.int .i64 0, .int .i64 0, .int .i64 0, .int .i64 0, .int .i64 0], .int .i64 1]) (by simp [results, Tryz.results14, go_sem, t2, s2]) rfl ⟨?_, bl_set5 (bl_set8 hB (n := (w.heap.size + 1 + 1)) (by omega) (.int .i64 0) (.int .i64 0) (.int .i64 0) (.int .i64 0) (.int .i64 0) (.slice none 0 0) (.int .i64 0) (.slice none 0 0)) (n := (w.heap.size + 1 + 1 + 1)) (by omega) (.int .i64 0) (.int .i64 0) (.int .i64 0) (.int .i64 0) (.int .i64 0)⟩
    rw [← hM.out, out_one hk]
    exact ⟨none, 0, none, 0, rfl, own_nilB _ _⟩
end Go.Proofs.YtcgjpmhjijmplaaGreatDoor
