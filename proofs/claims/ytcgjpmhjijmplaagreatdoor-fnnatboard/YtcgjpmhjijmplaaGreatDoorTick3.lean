/- The specification's NatTick, walked. -/
import Derived.Test.YtcgjpmhjijmplaaGreatDoorTick2
import Derived.Test.YtcgjpmhjijmplaaGreatDoorBook
import Derived.Test.YtcgjpmhjijmplaaGreatDoorJoinG
namespace Go.Proofs.YtcgjpmhjijmplaaGreatDoor
open Go.ChangeShapes Go.WideShapes Go.ChangeAt Go.RowKit Go.Maps

/-- A book as plain data. -/
structure Bk where
  ad : Int
  ln : Int
  ow : Int
  lo : Int
  hi : Int
  nw : Int
  ds : List Dr
  es : List En
def keepB (nw : Int) (d : En) : Bool := decide (nw + 1 - d.l < 12)
def tickL (nw : Int) (es : List En) : List En := es.filter (keepB nw)
noncomputable def tickR (ad ln ow lo hi nw : Int) (ds : List Dr) (es : List En) : Bk :=
  if bookB ad ln ow lo hi nw ds es = true then (if nw = 1000000 then ⟨ad, ln, ow, lo, hi, nw, ds, es⟩ else ⟨ad, ln, ow, lo, hi, nw + 1, ds, tickL nw es⟩) else ⟨0, 0, 0, 0, 0, 0, [], []⟩
noncomputable def tickC (ad ln ow lo hi nw : Int) (ds : List Dr) (es : List En) : Int :=
  if bookB ad ln ow lo hi nw ds es = true then (if nw = 1000000 then 2 else 0) else 1
/-- What is told of a book beside a code: its fields; its lists in rows of their own, made since block base. -/
def ToldB (w : World) (base : Nat) (e : Ending) (R : Bk) (c : Int) : Prop :=
  ∃ va vc ua uc, e = .returned (.tuple #[.agg #[.int .i64 R.ad, .int .i64 R.ln, .int .i64 R.ow, .int .i64 R.lo, .int .i64 R.hi, .slice va R.ds.length vc, .int .i64 R.nw, .slice ua R.es.length uc], .int .i64 c]) ∧ OwnB w base (.slice va R.ds.length vc) R.ds (.slice ua R.es.length uc) R.es
theorem own_nilB (w : World) (base : Nat) : OwnB w base (.slice none 0 0) [] (.slice none 0 0) [] := ⟨World.ownsRow_nil _ _ _ _, World.ownsRow_nil _ _ _ _, fun g h => by cases h⟩
theorem own_ne {w : World} {base size n : Nat} {e : TypeId} {v : Value} {xs : List Value} (h : w.ownsRow base e size v n xs) {m : Nat} (hm : ∀ k, v.ownBlock = some k → k ≠ m) {j : Nat} (u : Value) : (w.setCell ⟨m, j, none⟩ u).ownsRow base e size v n xs := by
  refine ⟨h.1, ?_⟩
  rcases h.2 with h | ⟨g, cap, cur, h1, h2, h3, h4⟩
  · exact Or.inl h
  · exact Or.inr ⟨g, cap, cur, h1, h2, (Below.heap_setCell _ _ _ _ (by have := hm g (by rw [h1]; rfl); simp; omega)).trans h3, h4⟩
theorem tick_yes {nw : Int} {es : List En} {n : Nat} {d : En} (hd : es[n]? = some d) (h : keepB nw d = true) : tickL nw (es.take (n + 1)) = tickL nw (es.take n) ++ [d] := by
  unfold tickL; rw [List.take_add_one, hd]; simp [h]
theorem tick_no {nw : Int} {es : List En} {n : Nat} {d : En} (hd : es[n]? = some d) (h : keepB nw d = false) : tickL nw (es.take (n + 1)) = tickL nw (es.take n) := by
  unfold tickL; rw [List.take_add_one, hd]; simp [h]
theorem tickL_le (nw : Int) (es : List En) (n : Nat) : (tickL nw (es.take n)).length ≤ n := by
  unfold tickL
  exact Nat.le_trans (List.length_filter_le _ _) (by simp; omega)

set_option maxRecDepth 20000 in
set_option maxHeartbeats 4000000 in
theorem specTick_ret (ad ln ow lo hi nw : Int) (da : Option Addr) (dn dc : Nat) (ea : Option Addr) (en ec : Nat) (ds : List Dr) (es : List En) (w : World) (hD : DoorsAt w da dn ds) (hE : EntriesAt w ea en es) :
    Calls Tryz.prog 28 #[.agg #[.int .i64 ad, .int .i64 ln, .int .i64 ow, .int .i64 lo, .int .i64 hi, .slice da dn dc, .int .i64 nw, .slice ea en ec]] w fun e w' => ToldB w' w.heap.size e (tickR ad ln ow lo hi nw ds es) (tickC ad ln ow lo hi nw ds es) ∧ Below w.heap.size w w' := by
  have hb0 := bl_alloc (bl_alloc (bl_refl w) (.cells #[.int .i64 ad, .int .i64 ln, .int .i64 ow, .int .i64 lo, .int .i64 hi, .slice da dn dc, .int .i64 nw, .slice ea en ec] 26)) (.cells #[.int .i64 0, .int .i64 0, .int .i64 0, .int .i64 0, .int .i64 0, .slice none 0 0, .int .i64 0, .slice none 0 0] 26)
  have x1 := (Box.new w #[.int .i64 ad, .int .i64 ln, .int .i64 ow, .int .i64 lo, .int .i64 hi, .slice da dn dc, .int .i64 nw, .slice ea en ec] 26).below (bl_alloc (bl_refl _) (.cells #[.int .i64 0, .int .i64 0, .int .i64 0, .int .i64 0, .int .i64 0, .slice none 0 0, .int .i64 0, .slice none 0 0] 26))
  have bx := Bx.new (w.alloc (.cells #[.int .i64 ad, .int .i64 ln, .int .i64 ow, .int .i64 lo, .int .i64 hi, .slice da dn dc, .int .i64 nw, .slice ea en ec] 26)) #[.int .i64 0, .int .i64 0, .int .i64 0, .int .i64 0, .int .i64 0, .slice none 0 0, .int .i64 0, .slice none 0 0] 26
  simp only [World.size_alloc] at bx
  have H1 : Hid (Calls Tryz.prog _ _ _ _) := specBookOk_ret ad ln ow lo hi nw da dn dc ea en ec ds es _ (hD.below hb0) (hE.below hb0)
  have HD : Hid (∀ W, Below w.heap.size w W → DoorsAt W da dn ds) := fun W h => hD.below h
  have HE : Hid (∀ W, Below w.heap.size w W → EntriesAt W ea en es) := fun W h => hE.below h
  have hdl' : Hid (dn = ds.length) := hD.1
  have hel' : Hid (en = es.length) := hE.1
  clear hD hE
  by_cases hk : bookB ad ln ow lo hi nw ds es = true
  · obtain ⟨⟨n0, n1⟩, hd6, he16, hla⟩ := book_parts hk
    have hla : Hid (∀ (i : Nat) d, es[i]? = some d → 0 ≤ d.l ∧ d.l ≤ nw) := hla
    have hdn : dn ≤ 6 := by have := hdl'.out; omega
    have hen : en ≤ 16 := by have := hel'.out; omega
    by_cases hmx : nw = 1000000
    · have hR : Hid (tickR ad ln ow lo hi nw ds es = ⟨ad, ln, ow, lo, hi, nw, ds, es⟩ ∧ tickC ad ln ow lo hi nw ds es = 2) := by constructor <;> simp only [tickR, tickC, if_pos hk, if_pos hmx]
      generalize tickR ad ln ow lo hi nw ds es = RR at *
      generalize tickC ad ln ow lo hi nw ds es = CC at *
      have hq : (nw == 1000000) = true := by simpa using hmx
      clear hmx
      go_enter Tryz.func28, Tryz.ntmps28
      go_wp2_with fail
      refine H1.out.mono ?_
      rintro e w1 ⟨rfl, hb1⟩
      have hB1 := bl_trans hb0 hb1
      replace x1 := x1.below hb1
      replace bx := bx.below hb1
      clear hb0 hb1 H1
      have hl1 := bx.1.1
      have y1 := x1.2
      have H2 : Hid (Calls Tryz.prog _ _ _ _) := l2Copy_ret ad ln ow lo hi nw da dn dc ea en ec ds es w1 (HD.out _ hB1) (HE.out _ hB1) (by omega) (by omega)
      go_wp2_with fail
      refine H2.out.mono ?_
      rintro e w2 ⟨va, vc, ua, uc, rfl, hO, hb2⟩
      have hB2 := bl_trans hB1 hb2
      replace x1 := x1.below hb2
      replace bx := bx.below hb2
      have hs1 := hB1.size
      have hs2 := hb2.size
      have x4 := Bx.new w2 #[.int .i64 ad, .int .i64 ln, .int .i64 ow, .int .i64 lo, .int .i64 hi, .slice va dn vc, .int .i64 nw, .slice ua en uc] 26
      have hBl := bl_alloc (bl_refl w2) (.cells #[.int .i64 ad, .int .i64 ln, .int .i64 ow, .int .i64 lo, .int .i64 hi, .slice va dn vc, .int .i64 nw, .slice ua en uc] 26)
      have hB3 := bl_trans hB2 hBl
      replace x1 := x1.below hBl
      replace bx := bx.below hBl
      have hOl := hO
      replace hO := hO.below hBl
      clear H2 hBl y1 hB1 hb2
      go_upto_region 4 with fail
      generalize hnx : w2.heap.size = nx at *
      generalize w2.alloc (.cells #[.int .i64 ad, .int .i64 ln, .int .i64 ow, .int .i64 lo, .int .i64 hi, .slice va dn vc, .int .i64 nw, .slice ua en uc] 26) = W3 at *
      have y1 := x1.2
      have y4 := x4.1.2
      obtain ⟨⟨q1, q2⟩, q3⟩ := id bx
      go_wp2_with fail
      have hbv := bx.set8 (.int .i64 ad) (.int .i64 ln) (.int .i64 ow) (.int .i64 lo) (.int .i64 hi) (.slice va dn vc) (.int .i64 nw) (.slice ua en uc)
      obtain ⟨⟨t1, t2⟩, t3⟩ := id hbv
      refine bodyPost_ret (v := .tuple #[.agg #[.int .i64 ad, .int .i64 ln, .int .i64 ow, .int .i64 lo, .int .i64 hi, .slice va dn vc, .int .i64 nw, .slice ua en uc], .int .i64 2]) (by simp [results, Tryz.results28, go_sem, t2]) rfl ⟨?_, bl_set8 hB3 (n := w.heap.size + 1) (by omega) (.int .i64 ad) (.int .i64 ln) (.int .i64 ow) (.int .i64 lo) (.int .i64 hi) (.slice va dn vc) (.int .i64 nw) (.slice ua en uc)⟩
      rw [hR.out.1, hR.out.2]
      have e1 := hdl'.out
      have e2 := hel'.out
      subst e1
      subst e2
      exact ⟨va, vc, ua, uc, rfl, ⟨own_mono (own_other8 (own_mono hO.1 (show w.heap.size + 2 ≤ w1.heap.size by omega)) (m := w.heap.size + 1) (by omega) (.int .i64 ad) (.int .i64 ln) (.int .i64 ow) (.int .i64 lo) (.int .i64 hi) (.slice va ds.length vc) (.int .i64 nw) (.slice ua es.length uc)) (by omega), own_mono (own_other8 (own_mono hO.2.1 (show w.heap.size + 2 ≤ w1.heap.size by omega)) (m := w.heap.size + 1) (by omega) (.int .i64 ad) (.int .i64 ln) (.int .i64 ow) (.int .i64 lo) (.int .i64 hi) (.slice va ds.length vc) (.int .i64 nw) (.slice ua es.length uc)) (by omega), hO.2.2⟩⟩
    · have hR : Hid (tickR ad ln ow lo hi nw ds es = ⟨ad, ln, ow, lo, hi, nw + 1, ds, tickL nw es⟩ ∧ tickC ad ln ow lo hi nw ds es = 0) := by constructor <;> simp only [tickR, tickC, if_pos hk, if_neg hmx]
      generalize tickR ad ln ow lo hi nw ds es = RR at *
      generalize tickC ad ln ow lo hi nw ds es = CC at *
      have hq : (nw == 1000000) = false := by simpa using hmx
      have hn2 : nw < 1000000 := by omega
      clear hmx
      go_enter Tryz.func28, Tryz.ntmps28
      go_wp2_with fail
      refine H1.out.mono ?_
      rintro e w1 ⟨rfl, hb1⟩
      have hB1 := bl_trans hb0 hb1
      replace x1 := x1.below hb1
      replace bx := bx.below hb1
      clear hb0 hb1 H1
      have hl1 := bx.1.1
      have y1 := x1.2
      have H2 : Hid (Calls Tryz.prog _ _ _ _) := l2Copy_ret ad ln ow lo hi nw da dn dc ea en ec ds es w1 (HD.out _ hB1) (HE.out _ hB1) (by omega) (by omega)
      go_wp2_with fail
      refine H2.out.mono ?_
      rintro e w2 ⟨va, vc, ua, uc, rfl, hO, hb2⟩
      have hB2 := bl_trans hB1 hb2
      replace x1 := x1.below hb2
      replace bx := bx.below hb2
      have hs1 := hB1.size
      have hs2 := hb2.size
      have x4 := Bx.new w2 #[.int .i64 ad, .int .i64 ln, .int .i64 ow, .int .i64 lo, .int .i64 hi, .slice va dn vc, .int .i64 nw, .slice ua en uc] 26
      have hBl := bl_alloc (bl_refl w2) (.cells #[.int .i64 ad, .int .i64 ln, .int .i64 ow, .int .i64 lo, .int .i64 hi, .slice va dn vc, .int .i64 nw, .slice ua en uc] 26)
      have hB3 := bl_trans hB2 hBl
      replace x1 := x1.below hBl
      replace bx := bx.below hBl
      have hOl := hO
      replace hO := hO.below hBl
      clear H2 hBl y1 hB1 hb2
      go_upto_region 4 with fail
      generalize hnx : w2.heap.size = nx at *
      generalize w2.alloc (.cells #[.int .i64 ad, .int .i64 ln, .int .i64 ow, .int .i64 lo, .int .i64 hi, .slice va dn vc, .int .i64 nw, .slice ua en uc] 26) = W3 at *
      have hOd := own_mono hO.1 (show w.heap.size + 2 ≤ w1.heap.size by omega)
      have hOe := own_mono hO.2.1 (show w.heap.size + 2 ≤ w1.heap.size by omega)
      have hOx := hO.2.2
      have hld : ∀ k, (Value.slice va dn vc).ownBlock = some k → k ≠ nx := fun k hk => by have := (hOl.1.lt k hk).2; omega
      have hle : ∀ k, (Value.slice ua en uc).ownBlock = some k → k ≠ nx := fun k hk => by have := (hOl.2.1.lt k hk).2; omega
      have y1 := x1.2
      obtain ⟨⟨q1, q2⟩, q3⟩ := id x4
      go_upto_region 7 with fail
      clear y1 q1 q2 q3 hO hOl
      have hl4 := x4.1.1
      replace x4 : Bx _ nx #[.int .i64 ad, .int .i64 ln, .int .i64 ow, .int .i64 lo, .int .i64 hi, .slice va dn vc, .int .i64 (nw + 1), .slice ua en uc] := x4.set (j := 6) (by simp) (.int .i64 (nw + 1))
      replace bx := bx.other (m := nx) (j := 6) (by omega) (.int .i64 (nw + 1))
      replace hOd := own_ne hOd hld (j := 6) (.int .i64 (nw + 1))
      replace hOe := own_ne hOe hle (j := 6) (.int .i64 (nw + 1))
      replace hB3 := bl_set (p := ⟨nx, 6, none⟩) hB3 (by simp; omega) (.int .i64 (nw + 1))
      clear x1
      generalize W3.setCell ⟨nx, 6, none⟩ (.int .i64 (nw + 1)) = W4 at *
      have hnx4 := x4.1.1
      have hd4 : ∀ k, (Value.slice va dn vc).ownBlock = some k → k < W4.heap.size := fun k hk => (hOd.lt k hk).2
      obtain ⟨i0, hi0, hz0, hz1, hz2⟩ := info_parts infoEn
      go_wp2_with fail
      go_loopg [5, 6] en (fun gg v i wr => ∃ n : Nat, gg = en - n ∧ n ≤ en ∧ i = .int .i64 n ∧ wr.ownsRow W4.heap.size 52 7 v (tickL nw (es.take n)).length (flatE (tickL nw (es.take n))) ∧ Below W4.heap.size W4 wr)
      case atStart => exact ⟨0, by omega, by omega, rfl, own_empty W4 _ 7, bl_alloc (bl_refl _) _⟩
      case round =>
        obtain ⟨n, hgn, hn, rfl, hown, hC⟩ := hrel
        have y4 := (x4.1.below hC).2
        have hz4 : nx < wr.heap.size := (x4.1.below hC).1
        by_cases hlt : n < en
        · have hlt' : (n : Int) < (en : Int) := by omega
          obtain ⟨g, cap, hv, hg0, hg1, _, _⟩ := own_form hOe (by have := hel'.out; omega)
          simp only [Value.slice.injEq] at hv
          obtain ⟨rfl, -, rfl⟩ := hv
          obtain ⟨d, hd⟩ : ∃ d, es[n]? = some d := ⟨es[n]'(by have := hel'.out; omega), by simp⟩
          have hOe' := ownsRow_bl hOe hC
          obtain ⟨c0, c1, c2, c3, c4, c5, c6⟩ := enCells_of_own hOe' hel'.out n d hd
          obtain ⟨q0, q1⟩ := hla.out n d hd
          have hd : Hid (es[n]? = some d) := hd
          have hgl : g < wr.heap.size := Nat.lt_of_lt_of_le hg1 hC.size
          simp only [Nat.zero_add] at c0 c1 c2 c3 c4 c5 c6
          clear hOe'
          by_cases hkp : keepB nw d = true
          · have hkq : decide (nw + 1 - d.l < 12) = true := hkp
            go_wp2_with fail
            go_quiet (fail)
            have hle := tickL_le nw es n
            go_wp2_with (at_builtin; refine wpList_append_own _ rfl _ _ 24 rfl W4.heap.size 52 i0 (.agg #[.int .i64 0, .int .i64 0, .int .i64 0, .int .i64 0, .int .i64 0, .int .i64 0, .int .i64 0]) 7 56 Tryz.underlying24 hi0 hz0 hz1 hz2 rfl (by decide) _ _ _ rfl (ownsRow_bl (ownsRow_bl hown (bl_draws (bl_refl wr) nq)) (bl_alloc (bl_refl _) _)) ⟨wr.heap.size, 0, none⟩ 1 1 (enV d) rfl rfl (fun j u h => cells7 (wr.drewN nq) _ _ j u h) (enV_one d) (by unfold maxLen; omega) (by omega) (by have := hC.size; simp; omega) ?_; intro v' w5 hown2 hgrow2 hnil2)
            have hz5 := hgrow2.size
            go_roundg (en - (n + 1))
            case measure => omega
            case rel =>
              refine ⟨n + 1, rfl, by omega, by go_num, ?_, (bl_alloc (bl_draws hC nq) _).grown hgrow2 (by have := hC.size; simp; omega) (fun k hk => (hown.lt _ hk).1)⟩
              rw [tick_yes hd.out hkp, flatE_append]
              simpa [flatE] using hown2
          · have hkp : keepB nw d = false := by simpa using hkp
            have hkq : decide (nw + 1 - d.l < 12) = false := hkp
            go_wp2_with fail
            go_quiet (fail)
            go_wp2_with fail
            go_roundg (en - (n + 1))
            case measure => omega
            case rel => exact ⟨n + 1, rfl, by omega, by go_num, by rw [tick_no hd.out hkp]; exact ownsRow_bl hown (bl_draws (bl_refl _) _), bl_draws hC _⟩
        · have hlt' : ¬ (n : Int) < (en : Int) := by omega
          have hte : es.take n = es := List.take_of_length_le (by have := hel'.out; omega)
          rw [hte] at hown
          obtain ⟨oa, oc, rfl⟩ := own_slice hown
          replace x4 := x4.below hC
          replace bx := bx.below hC
          replace hOd := ownsRow_bl hOd hC
          replace hB3 := bl_trans hB3 hC
          have hox : ∀ k, (Value.slice oa (tickL nw es).length oc).ownBlock = some k → k ≠ nx := fun k hk => by have := (hown.lt k hk).1; omega
          have hdo : ∀ k, (Value.slice va dn vc).ownBlock = some k → (Value.slice oa (tickL nw es).length oc).ownBlock ≠ some k := fun k h1 h2 => by
            have h3 := (hown.lt k h2).1
            have h4 := hd4 k h1
            omega
          clear hOe hle hC y4
          obtain ⟨⟨q1, q2⟩, q3⟩ := id x4
          go_upto_region 14 with fail
          clear q1 q2 q3
          replace x4 : Bx _ nx #[.int .i64 ad, .int .i64 ln, .int .i64 ow, .int .i64 lo, .int .i64 hi, .slice va dn vc, .int .i64 (nw + 1), .slice oa (tickL nw es).length oc] := x4.set (j := 7) (by simp) (.slice oa (tickL nw es).length oc)
          replace bx := bx.other (m := nx) (j := 7) (by omega) (.slice oa (tickL nw es).length oc)
          replace hOd := own_ne hOd hld (j := 7) (.slice oa (tickL nw es).length oc)
          replace hown := own_ne hown hox (j := 7) (.slice oa (tickL nw es).length oc)
          replace hB3 := bl_set (p := ⟨nx, 7, none⟩) hB3 (by simp; omega) (.slice oa (tickL nw es).length oc)
          generalize wr.setCell ⟨nx, 7, none⟩ (.slice oa (tickL nw es).length oc) = W6 at *
          obtain ⟨⟨q1, q2⟩, q3⟩ := id x4
          obtain ⟨⟨p1, p2⟩, p3⟩ := id bx
          go_wp2_with fail
          have hbv := bx.set8 (.int .i64 ad) (.int .i64 ln) (.int .i64 ow) (.int .i64 lo) (.int .i64 hi) (.slice va dn vc) (.int .i64 (nw + 1)) (.slice oa (tickL nw es).length oc)
          obtain ⟨⟨t1, t2⟩, t3⟩ := id hbv
          refine bodyPost_ret (v := .tuple #[.agg #[.int .i64 ad, .int .i64 ln, .int .i64 ow, .int .i64 lo, .int .i64 hi, .slice va dn vc, .int .i64 (nw + 1), .slice oa (tickL nw es).length oc], .int .i64 0]) (by simp [results, Tryz.results28, go_sem, t2]) rfl ⟨?_, bl_set8 hB3 (n := w.heap.size + 1) (by omega) (.int .i64 ad) (.int .i64 ln) (.int .i64 ow) (.int .i64 lo) (.int .i64 hi) (.slice va dn vc) (.int .i64 (nw + 1)) (.slice oa (tickL nw es).length oc)⟩
          rw [hR.out.1, hR.out.2]
          have e1 := hdl'.out
          subst e1
          exact ⟨va, vc, oa, oc, rfl, ⟨own_mono (own_other8 hOd (m := w.heap.size + 1) (by omega) (.int .i64 ad) (.int .i64 ln) (.int .i64 ow) (.int .i64 lo) (.int .i64 hi) (.slice va ds.length vc) (.int .i64 (nw + 1)) (.slice oa (tickL nw es).length oc)) (by omega), own_mono (own_other8 (own_mono hown (show w.heap.size + 2 ≤ W4.heap.size by omega)) (m := w.heap.size + 1) (by omega) (.int .i64 ad) (.int .i64 ln) (.int .i64 ow) (.int .i64 lo) (.int .i64 hi) (.slice va ds.length vc) (.int .i64 (nw + 1)) (.slice oa (tickL nw es).length oc)) (by omega), hdo⟩⟩
  · have hk' : bookB ad ln ow lo hi nw ds es = false := by simpa using hk
    have hR : Hid (tickR ad ln ow lo hi nw ds es = ⟨0, 0, 0, 0, 0, 0, [], []⟩ ∧ tickC ad ln ow lo hi nw ds es = 1) := by constructor <;> simp only [tickR, tickC, if_neg hk]
    generalize tickR ad ln ow lo hi nw ds es = RR at *
    generalize tickC ad ln ow lo hi nw ds es = CC at *
    go_enter Tryz.func28, Tryz.ntmps28
    go_wp2_with fail
    refine H1.out.mono ?_
    rintro e w1 ⟨rfl, hb1⟩
    have hB1 := bl_trans hb0 hb1
    replace bx := bx.below hb1
    obtain ⟨⟨q1, q2⟩, q3⟩ := id bx
    go_wp2_with fail
    have hbv := bx.set8 (.int .i64 0) (.int .i64 0) (.int .i64 0) (.int .i64 0) (.int .i64 0) (.slice none 0 0) (.int .i64 0) (.slice none 0 0)
    obtain ⟨⟨t1, t2⟩, t3⟩ := id hbv
    refine bodyPost_ret (v := .tuple #[.agg #[.int .i64 0, .int .i64 0, .int .i64 0, .int .i64 0, .int .i64 0, .slice none 0 0, .int .i64 0, .slice none 0 0], .int .i64 1]) (by simp [results, Tryz.results28, go_sem, t2]) rfl ⟨?_, bl_set8 hB1 (n := w.heap.size + 1) (by omega) (.int .i64 0) (.int .i64 0) (.int .i64 0) (.int .i64 0) (.int .i64 0) (.slice none 0 0) (.int .i64 0) (.slice none 0 0)⟩
    rw [hR.out.1, hR.out.2]
    exact ⟨none, 0, none, 0, rfl, own_nilB _ _⟩
end Go.Proofs.YtcgjpmhjijmplaaGreatDoor
