/- The program's natSend, walked. -/
import Derived.Test.YtcgjpmhjijmplaaGreatDoorJoinI
import Derived.Test.YtcgjpmhjijmplaaGreatDoorJoinP
namespace Go.Proofs.YtcgjpmhjijmplaaGreatDoor
open Go.ChangeShapes Go.WideShapes Go.ChangeAt Go.RowKit Go.Maps

theorem mayOut_zero {ad ln ow lo hi nw : Int} {ds : List Dr} {es : List En} {k a ap b bp : Int} (h : mayOut ad ln ow lo hi nw ds es k a ap b bp = 0) : bookB ad ln ow lo hi nw ds es = true ∧ flowB k a ap b bp = true ∧ goesB ad ln ow a b = true := by
  unfold mayOut at h
  by_cases h1 : bookB ad ln ow lo hi nw ds es = true
  · by_cases h2 : flowB k a ap b bp = true
    · by_cases h3 : goesB ad ln ow a b = true
      · exact ⟨h1, h2, h3⟩
      · simp [h1, h2, h3] at h
    · simp [h1, h2] at h
  · simp [h1] at h
theorem mayOut_more {ad ln ow lo hi nw : Int} {ds : List Dr} {es : List En} {k a ap b bp : Int} (h : mayOut ad ln ow lo hi nw ds es k a ap b bp ≠ 0) : (outM ⟨ad, ln, ow, lo, hi, nw, ds, es⟩ k a ap b bp).c = mayOut ad ln ow lo hi nw ds es k a ap b bp := by
  unfold mayOut at h ⊢
  by_cases h1 : bookB ad ln ow lo hi nw ds es = true
  · by_cases h2 : flowB k a ap b bp = true
    · by_cases h3 : goesB ad ln ow a b = true
      · simp [h1, h2, h3] at h
      · rw [out_three h1 h2 (by simpa using h3)]; simp [h1, h2, h3]
    · rw [out_two h1 (by simpa using h2)]; simp [h1, h2]
  · rw [out_one (by simpa using h1)]; simp [h1]
theorem notUp {listed : Array Bool} {i : Nat} (h : listed.getD i true = false) : listed.getD i false = false := by
  rcases Nat.lt_or_ge i listed.size with h1 | h1
  · simp [h1] at h ⊢; exact h
  · rw [Array.getD_eq_getD_getElem?, Array.getElem?_eq_none h1] at h; cases h
theorem ap_set8n {nb : Nat} {w : World} (a b c d e f g i : Value) : Apart nb w (World.setCell (World.setCell (World.setCell (World.setCell (World.setCell (World.setCell (World.setCell (World.setCell w ⟨nb, 0, none⟩ (a)) ⟨nb, 1, none⟩ (b)) ⟨nb, 2, none⟩ (c)) ⟨nb, 3, none⟩ (d)) ⟨nb, 4, none⟩ (e)) ⟨nb, 5, none⟩ (f)) ⟨nb, 6, none⟩ (g)) ⟨nb, 7, none⟩ (i)) := by
  have h1 : ∀ (W : World) (j : Nat) (v : Value), Apart nb w W → Apart nb w (W.setCell ⟨nb, j, none⟩ v) := fun W j v h => ap_set h j v
  exact h1 _ _ _ (h1 _ _ _ (h1 _ _ _ (h1 _ _ _ (h1 _ _ _ (h1 _ _ _ (h1 _ _ _ (h1 _ _ _ (ap_refl _ _))))))))
/-- What a region keeps that stores one book at s, once. -/
def JSend (w0 : World) (n0 nb ne base : Nat) (C D : Array Value) (P : World → Prop) (L : Array Bool) (w : World) : Prop :=
  Below w0.heap.size w0 w ∧ Box w n0 C ∧ Box w ne D ∧ base ≤ w.heap.size ∧ (L.getD 5 false = false → Bx w nb #[.int .i64 0, .int .i64 0, .int .i64 0, .int .i64 0, .int .i64 0, .slice none 0 0, .int .i64 0, .slice none 0 0]) ∧ (L.getD 5 false = true → P w)
section
variable {w0 : World} {n0 nb ne base : Nat} {C D : Array Value} {P : World → Prop} {L : Array Bool} {w w' : World}
theorem JSend.keep {i : Nat} (h5 : 5 ≠ i) (h : JSend w0 n0 nb ne base C D P L w) : JSend w0 n0 nb ne base C D P (L.setIfInBounds i true) w :=
  ⟨h.1, h.2.1, h.2.2.1, h.2.2.2.1, fun x => h.2.2.2.2.1 (by rwa [listed_ne h5] at x), fun x => h.2.2.2.2.2 (by rwa [listed_ne h5] at x)⟩
theorem JSend.below {i : Nat} (h : JSend w0 n0 nb ne base C D P L w) (hb : Below w.heap.size w w') (h5 : 5 ≠ i) (hP : ∀ w w', P w → Below w.heap.size w w' → P w') : JSend w0 n0 nb ne base C D P (L.setIfInBounds i true) w' :=
  ⟨bl_trans h.1 hb, h.2.1.below hb, h.2.2.1.below hb, Nat.le_trans h.2.2.2.1 hb.size, fun x => (h.2.2.2.2.1 (by rwa [listed_ne h5] at x)).below hb, fun x => hP _ _ (h.2.2.2.2.2 (by rwa [listed_ne h5] at x)) hb⟩
theorem JSend.stored (h : JSend w0 n0 nb ne base C D P L w) (hl : 5 < L.size) {a b c d e f g i : Value} (hP : P (World.setCell (World.setCell (World.setCell (World.setCell (World.setCell (World.setCell (World.setCell (World.setCell w ⟨nb, 0, none⟩ (a)) ⟨nb, 1, none⟩ (b)) ⟨nb, 2, none⟩ (c)) ⟨nb, 3, none⟩ (d)) ⟨nb, 4, none⟩ (e)) ⟨nb, 5, none⟩ (f)) ⟨nb, 6, none⟩ (g)) ⟨nb, 7, none⟩ (i))) (hw : w0.heap.size ≤ nb) (h0 : n0 ≠ nb) (he : ne ≠ nb) : JSend w0 n0 nb ne base C D P (L.setIfInBounds 5 true) (World.setCell (World.setCell (World.setCell (World.setCell (World.setCell (World.setCell (World.setCell (World.setCell w ⟨nb, 0, none⟩ (a)) ⟨nb, 1, none⟩ (b)) ⟨nb, 2, none⟩ (c)) ⟨nb, 3, none⟩ (d)) ⟨nb, 4, none⟩ (e)) ⟨nb, 5, none⟩ (f)) ⟨nb, 6, none⟩ (g)) ⟨nb, 7, none⟩ (i)) := by
  refine ⟨bl_set8 h.1 hw a b c d e f g i, h.2.1.other8 h0 a b c d e f g i, h.2.2.1.other8 he a b c d e f g i, by simpa [World.setCell] using h.2.2.2.1, fun x => ?_, fun _ => hP⟩
  rw [listed_eq hl] at x; cases x
end
def FSend (ad ln ow lo hi nw : Int) (da : Option Addr) (dc : Nat) (ea : Option Addr) (ec : Nat) (es : List En) (r : En) (L : List En) (base ne : Nat) (ds : List Dr) : Nat → Value → World → Prop
  | 0, v, _ => v = .agg #[.int .i64 ad, .int .i64 ln, .int .i64 ow, .int .i64 lo, .int .i64 hi, .slice da ds.length dc, .int .i64 nw, .slice ea es.length ec]
  | 1, v, _ => v = .agg #[.int .i64 r.k, .int .i64 r.pr, .int .i64 r.pp, .int .i64 r.o, .int .i64 r.i, .int .i64 r.ip, .int .i64 r.l]
  | 2, v, w => ∃ va vc ua uc, v = .agg #[.int .i64 ad, .int .i64 ln, .int .i64 ow, .int .i64 lo, .int .i64 hi, .slice va ds.length vc, .int .i64 nw, .slice ua L.length uc] ∧ OwnB w base (.slice va ds.length vc) ds (.slice ua L.length uc) L
  | 3, v, _ => v = .pointer (some ⟨ne, 3, none⟩)
  | 4, v, _ => v = .int .i64 r.o
  | 6, v, _ => v = .int .i64 r.o
  | 7, v, _ => v = .nilIface
  | _, _, _ => True

set_option maxRecDepth 20000 in
set_option maxHeartbeats 8000000 in
theorem send_ret (ad ln ow lo hi nw : Int) (da : Option Addr) (dn dc : Nat) (ea : Option Addr) (en ec : Nat) (k a ap b bp : Int) (ds : List Dr) (es : List En) (w : World) (hD : DoorsAt w da dn ds) (hE : EntriesAt w ea en es) :
    Calls Tryz.prog 48 #[.agg #[.int .i64 ad, .int .i64 ln, .int .i64 ow, .int .i64 lo, .int .i64 hi, .slice da dn dc, .int .i64 nw, .slice ea en ec], .agg #[.int .i64 k, .int .i64 a, .int .i64 ap, .int .i64 b, .int .i64 bp]] w fun e w' => SentO w' w.heap.size e (outM ⟨ad, ln, ow, lo, hi, nw, ds, es⟩ k a ap b bp) ∧ Below w.heap.size w w' := by
  have hdl := hD.1
  have hel := hE.1
  subst hdl
  subst hel
  have hb0 := bl_alloc (bl_alloc (bl_alloc (bl_refl w) (.cells #[.int .i64 ad, .int .i64 ln, .int .i64 ow, .int .i64 lo, .int .i64 hi, .slice da ds.length dc, .int .i64 nw, .slice ea es.length ec] 26)) (.cells #[.int .i64 k, .int .i64 a, .int .i64 ap, .int .i64 b, .int .i64 bp] 32)) (.cells #[.int .i64 0, .int .i64 0, .int .i64 0, .int .i64 0, .int .i64 0, .slice none 0 0, .int .i64 0, .slice none 0 0] 26)
  have x1 := ((Box.new w #[.int .i64 ad, .int .i64 ln, .int .i64 ow, .int .i64 lo, .int .i64 hi, .slice da ds.length dc, .int .i64 nw, .slice ea es.length ec] 26).below (bl_alloc (bl_refl _) (.cells #[.int .i64 k, .int .i64 a, .int .i64 ap, .int .i64 b, .int .i64 bp] 32))).below (bl_alloc (bl_refl _) (.cells #[.int .i64 0, .int .i64 0, .int .i64 0, .int .i64 0, .int .i64 0, .slice none 0 0, .int .i64 0, .slice none 0 0] 26))
  have x2 := (Box.new (w.alloc (.cells #[.int .i64 ad, .int .i64 ln, .int .i64 ow, .int .i64 lo, .int .i64 hi, .slice da ds.length dc, .int .i64 nw, .slice ea es.length ec] 26)) #[.int .i64 k, .int .i64 a, .int .i64 ap, .int .i64 b, .int .i64 bp] 32).below (bl_alloc (bl_refl _) (.cells #[.int .i64 0, .int .i64 0, .int .i64 0, .int .i64 0, .int .i64 0, .slice none 0 0, .int .i64 0, .slice none 0 0] 26))
  have bx := Bx.new ((w.alloc (.cells #[.int .i64 ad, .int .i64 ln, .int .i64 ow, .int .i64 lo, .int .i64 hi, .slice da ds.length dc, .int .i64 nw, .slice ea es.length ec] 26)).alloc (.cells #[.int .i64 k, .int .i64 a, .int .i64 ap, .int .i64 b, .int .i64 bp] 32)) #[.int .i64 0, .int .i64 0, .int .i64 0, .int .i64 0, .int .i64 0, .slice none 0 0, .int .i64 0, .slice none 0 0] 26
  simp only [World.size_alloc] at x2 bx
  have H1 : Hid (Calls Tryz.prog _ _ _ _) := mayOut_ret ad ln ow lo hi nw da ds.length dc ea es.length ec k a ap b bp ds es _ (hD.below hb0) (hE.below hb0)
  by_cases hm : mayOut ad ln ow lo hi nw ds es k a ap b bp = 0
  · obtain ⟨hbk, hfl, hgo⟩ := mayOut_zero hm
    obtain ⟨⟨n0, n1⟩, hd6, he16, hla⟩ := book_parts hbk
    have hso : Hid (es.Pairwise (fun e d => lessE e d = true)) := (book_iff.1 hbk).2.2.2.2.1
    have hlo : 1 ≤ lo ∧ lo ≤ hi ∧ hi ≤ 65535 := by
      have p1 := (book_iff.1 hbk).1
      simp only [frameB, portsB, inB, Bool.and_eq_true, decide_eq_true_eq] at p1
      omega
    obtain ⟨lo1, lo2, lo3⟩ := hlo
    have OD : Hid (∀ d, ds.find? (sendsD k a ap) = some d → outM ⟨ad, ln, ow, lo, hi, nw, ds, es⟩ k a ap b bp = ⟨⟨ad, ln, ow, lo, hi, nw, ds, es⟩, ⟨k, ow, d.o, b, bp⟩, 0⟩) := fun d h => out_door hbk hfl hgo h
    have OE : Hid (∀ i d, ds.find? (sendsD k a ap) = none → es.findIdx? (sendsE nw k a ap b bp) = some i → es[i]? = some d → outM ⟨ad, ln, ow, lo, hi, nw, ds, es⟩ k a ap b bp = ⟨⟨ad, ln, ow, lo, hi, nw, ds, es.modify i (again nw)⟩, ⟨k, ow, d.o, b, bp⟩, 0⟩) := fun i d h1 h2 h3 => out_entry hbk hfl hgo h1 h2 h3
    have OF : Hid (ds.find? (sendsD k a ap) = none → es.findIdx? (sendsE nw k a ap b bp) = none → es.length = 16 → outM ⟨ad, ln, ow, lo, hi, nw, ds, es⟩ k a ap b bp = ⟨⟨ad, ln, ow, lo, hi, nw, ds, es⟩, zeroF, 4⟩) := fun h1 h2 h3 => out_four hbk hfl hgo h1 h2 h3
    have OV : Hid (ds.find? (sendsD k a ap) = none → es.findIdx? (sendsE nw k a ap b bp) = none → es.length ≠ 16 → freeP es k b bp lo hi = none → outM ⟨ad, ln, ow, lo, hi, nw, ds, es⟩ k a ap b bp = ⟨⟨ad, ln, ow, lo, hi, nw, ds, es⟩, zeroF, 5⟩) := fun h1 h2 h3 h4 => out_five hbk hfl hgo h1 h2 h3 h4
    have ON : Hid (∀ p, ds.find? (sendsD k a ap) = none → es.findIdx? (sendsE nw k a ap b bp) = none → es.length ≠ 16 → freeP es k b bp lo hi = some p → outM ⟨ad, ln, ow, lo, hi, nw, ds, es⟩ k a ap b bp = ⟨⟨ad, ln, ow, lo, hi, nw, ds, putE es ⟨k, b, bp, p, a, ap, nw⟩⟩, ⟨k, ow, p, b, bp⟩, 0⟩) := fun p h1 h2 h3 h4 => out_new hbk hfl hgo h1 h2 h3 h4
    generalize outM ⟨ad, ln, ow, lo, hi, nw, ds, es⟩ k a ap b bp = O at *
    rw [hm] at H1
    have H1 : Hid (Calls Tryz.prog _ _ _ fun e w' => e = .returned .nilIface ∧ _) := H1
    clear hbk hfl hgo hm
    have HD : Hid (∀ W, Below w.heap.size w W → DoorsAt W da ds.length ds) := fun W h => hD.below h
    have HE : Hid (∀ W, Below w.heap.size w W → EntriesAt W ea es.length es) := fun W h => hE.below h
    have hla : Hid (∀ (i : Nat) d, es[i]? = some d → 0 ≤ d.l ∧ d.l ≤ nw) := hla
    clear hD hE
    go_enter Tryz.func48, Tryz.ntmps48
    go_wp2_with fail
    refine H1.out.mono ?_
    rintro e w1 ⟨rfl, hb1⟩
    have hB1 := bl_trans hb0 hb1
    replace x1 := x1.below hb1
    replace x2 := x2.below hb1
    replace bx := bx.below hb1
    have y1 := x1.2
    clear H1 hb0 hb1
    go_wp2_with fail
    refine (holders_ret ad ln ow lo hi nw da ds.length dc ea es.length ec ds es w1 (HD.out _ hB1) (HE.out _ hB1) hd6 he16).mono ?_
    rintro e w2 ⟨⟨v, rfl, hown⟩, hb2⟩
    have hB2 := bl_trans hB1 hb2
    replace x1 := x1.below hb2
    replace x2 := x2.below hb2
    replace bx := bx.below hb2
    clear y1 hB1 hb2
    have hl2 : w.heap.size + 1 + 1 < w2.heap.size := bx.1.1
    generalize hT : ds.length + es.length = T at hown
    have hT : Hid (ds.length + es.length = T) := hT
    have hTs : T ≤ 22 := by have := hT.out; omega
    obtain ⟨sa, sc, rfl⟩ := own_slice hown
    go_wp2_with fail
    go_loopg [22] T (fun g i wr => ∃ n : Nat, g = T - n ∧ n ≤ T ∧ i = .int .i64 n ∧ (∀ j d, j < n → ds[j]? = some d → sendsD k a ap d = false) ∧ (∀ j d, ds.length + j < n → es[j]? = some d → sendsE nw k a ap b bp d = false) ∧ Below w.heap.size w wr ∧ Below w2.heap.size w2 wr)
    case atStart => exact ⟨0, by omega, by omega, rfl, fun _ _ h => absurd h (by omega), fun _ _ h => absurd h (by omega), hB2, bl_refl _⟩
    case round =>
      obtain ⟨n, hgn, hn, rfl, HS, HT, hB, hC⟩ := hrel
      have HS : Hid (∀ j d, j < n → ds[j]? = some d → sendsD k a ap d = false) := HS
      have HT : Hid (∀ j d, ds.length + j < n → es[j]? = some d → sendsE nw k a ap b bp d = false) := HT
      replace x1 := x1.below hC
      replace x2 := x2.below hC
      replace bx := bx.below hC
      replace hown := ownsRow_bl hown hC
      have hl2 : w.heap.size + 1 + 1 < wr.heap.size := bx.1.1
      by_cases hlt : n < T
      · have hlt' : (n : Int) < (T : Int) := by omega
        obtain ⟨g, cap, hsl, hg0, hg1, -, -⟩ := own_form hown (by omega)
        simp only [Value.slice.injEq] at hsl
        obtain ⟨rfl, -, rfl⟩ := hsl
        have y1 := x1.2
        have y2 := x2.2
        by_cases hnd : n < ds.length
        · obtain ⟨d, hd⟩ : ∃ d, ds[n]? = some d := ⟨ds[n], by simp [hnd]⟩
          have hx : (ds.map holdD ++ es.map holdE)[n]? = some (holdD d) := by
            rw [List.getElem?_append_left (by simpa using hnd), List.getElem?_map, hd]; rfl
          have c0 : wr.cell? ⟨g, n, none⟩ = some (.iface 85 (.agg #[.int .i64 d.k, .int .i64 d.o, .int .i64 d.i, .int .i64 d.p])) := own_cell hown n _ hx
          have hd : Hid (ds[n]? = some d) := hd
          clear hx
          have mT := methSendsD
          have mS := methPortD
          obtain ⟨rs, ht⟩ : ∃ rs, sendsD k a ap d = rs := ⟨_, rfl⟩
          have H3 : Hid (Calls Tryz.prog _ _ _ _) := doorSends_ret ad ln ow lo hi nw da ds.length dc ea es.length ec d k a ap b bp wr
          rw [ht] at H3
          cases rs with
          | true =>
            go_wp2_with fail
            refine H3.out.mono ?_
            rintro e w3 ⟨rfl, hb3⟩
            have hB3 := bl_trans hB hb3
            replace x1 := x1.below hb3
            replace bx := bx.below hb3
            clear y1 y2 H3 c0
            have y1 := x1.2
            go_wp2_with fail
            refine (used_door ad ln ow lo hi nw da ds.length dc ea es.length ec d ds es w3 (HD.out _ hB3) (HE.out _ hB3) (by omega) (by omega)).mono ?_
            rintro e w4 ⟨va, vc, ua, uc, rfl, hO, hb4⟩
            have hB4 := bl_trans hB3 hb4
            have hs3 := hB3.size
            replace hO := hO.mono (show w.heap.size + 1 + 1 + 1 ≤ w3.heap.size by have := bx.1.1; omega)
            replace bx := bx.below hb4
            clear y1 hb3 hb4
            go_wp2_with fail
            refine (doorPort_ret d w4).mono ?_
            rintro e w5 ⟨rfl, hb5⟩
            have hB5 := bl_trans hB4 hb5
            replace bx := bx.below hb5
            replace hO := hO.below hb5
            clear hb5
            obtain ⟨⟨q1, q2⟩, q3⟩ := id bx
            go_wp2_with fail
            have hbv := bx.set8 (.int .i64 ad) (.int .i64 ln) (.int .i64 ow) (.int .i64 lo) (.int .i64 hi) (.slice va ds.length vc) (.int .i64 nw) (.slice ua es.length uc)
            obtain ⟨⟨t1, t2⟩, t3⟩ := id hbv
            exact bodyPost_ret (v := .tuple #[.agg #[.int .i64 ad, .int .i64 ln, .int .i64 ow, .int .i64 lo, .int .i64 hi, .slice va ds.length vc, .int .i64 nw, .slice ua es.length uc], .int .i64 d.o, .nilIface]) (by simp [results, Tryz.results48, go_sem, t2]) rfl ⟨by rw [OD.out d (find_at hd.out ht (fun j y hj hy => HS.out j y hj hy))]; exact Or.inr ⟨rfl, va, vc, ua, uc, rfl, (hO.set8 (m := w.heap.size + 1 + 1) (by omega) (.int .i64 ad) (.int .i64 ln) (.int .i64 ow) (.int .i64 lo) (.int .i64 hi) (.slice va ds.length vc) (.int .i64 nw) (.slice ua es.length uc)).mono (by omega)⟩, bl_set8 hB5 (n := w.heap.size + 1 + 1) (by omega) (.int .i64 ad) (.int .i64 ln) (.int .i64 ow) (.int .i64 lo) (.int .i64 hi) (.slice va ds.length vc) (.int .i64 nw) (.slice ua es.length uc)⟩
          | false =>
            go_wp2_with fail
            refine H3.out.mono ?_
            rintro e w3 ⟨rfl, hb3⟩
            have hB3 := bl_trans hB hb3
            have hC3 := bl_trans hC hb3
            go_wp2_with fail
            go_roundg (T - (n + 1))
            case measure => omega
            case rel => exact ⟨n + 1, rfl, by omega, by go_num, fun j y hj hy => (by rcases Nat.lt_or_ge j n with h | h; exact HS.out j y h hy; have : j = n := (by omega); subst this; rw [some_one hy hd.out]; exact ht), fun j y hj hy => HT.out j y (by omega) hy, hB3, hC3⟩
        · obtain ⟨d, hd⟩ : ∃ d, es[n - ds.length]? = some d := ⟨es[n - ds.length]'(by have := hT.out; omega), by simp⟩
          have hx : (ds.map holdD ++ es.map holdE)[n]? = some (holdE d) := by
            rw [List.getElem?_append_right (by simp; omega), List.getElem?_map]; simp [hd]
          have c0 : wr.cell? ⟨g, n, none⟩ = some (.iface 52 (.agg #[.int .i64 d.k, .int .i64 d.pr, .int .i64 d.pp, .int .i64 d.o, .int .i64 d.i, .int .i64 d.ip, .int .i64 d.l])) := own_cell hown n _ hx
          obtain ⟨q0, q1⟩ := hla.out _ d hd
          have hd : Hid (es[n - ds.length]? = some d) := hd
          clear hx
          have mT := methSendsE
          have mS := methPortE
          obtain ⟨rs, ht⟩ : ∃ rs, sendsE nw k a ap b bp d = rs := ⟨_, rfl⟩
          have H3 : Hid (Calls Tryz.prog _ _ _ _) := entrySends_ret ad ln ow lo hi nw da ds.length dc ea es.length ec d k a ap b bp wr n0 n1 q0 q1
          rw [ht] at H3
          cases rs with
          | true =>
            go_wp2_with fail
            refine H3.out.mono ?_
            rintro e w3 ⟨rfl, hb3⟩
            have hB3 := bl_trans hB hb3
            replace x1 := x1.below hb3
            replace bx := bx.below hb3
            clear y1 y2 H3 c0
            have y1 := x1.2
            have H4 : Hid (Calls Tryz.prog _ _ _ _) := used_entry ad ln ow lo hi nw da ds.length dc ea es.length ec d (n - ds.length) ds es w3 (HD.out _ hB3) (HE.out _ hB3) (by omega) (by omega) hso.out hd.out
            have hOE : Hid (O = ⟨⟨ad, ln, ow, lo, hi, nw, ds, es.modify (n - ds.length) (again nw)⟩, ⟨k, ow, d.o, b, bp⟩, 0⟩) := OE.out (n - ds.length) d (find_no (fun j y hy => HS.out j y (by have := get_lt hy; omega) hy)) (foundIdx hd.out ht (fun j y hj hy => HT.out j y (by omega) hy)) hd.out
            generalize es.modify (n - ds.length) (again nw) = L at *
            go_wp2_with fail
            refine H4.out.mono ?_
            rintro e w4 ⟨va, vc, ua, uc, rfl, hO, hb4⟩
            have hB4 := bl_trans hB3 hb4
            replace hO := hO.mono (show w.heap.size + 1 + 1 + 1 ≤ w3.heap.size by have := bx.1.1; omega)
            replace bx := bx.below hb4
            clear y1 hb3 hb4 H4
            go_wp2_with fail
            refine (entryPort_ret d w4).mono ?_
            rintro e w5 ⟨rfl, hb5⟩
            have hB5 := bl_trans hB4 hb5
            replace bx := bx.below hb5
            replace hO := hO.below hb5
            clear hb5
            obtain ⟨⟨q1, q2⟩, q3⟩ := id bx
            go_wp2_with fail
            have hbv := bx.set8 (.int .i64 ad) (.int .i64 ln) (.int .i64 ow) (.int .i64 lo) (.int .i64 hi) (.slice va ds.length vc) (.int .i64 nw) (.slice ua L.length uc)
            obtain ⟨⟨t1, t2⟩, t3⟩ := id hbv
            exact bodyPost_ret (v := .tuple #[.agg #[.int .i64 ad, .int .i64 ln, .int .i64 ow, .int .i64 lo, .int .i64 hi, .slice va ds.length vc, .int .i64 nw, .slice ua L.length uc], .int .i64 d.o, .nilIface]) (by simp [results, Tryz.results48, go_sem, t2]) rfl ⟨by rw [hOE.out]; exact Or.inr ⟨rfl, va, vc, ua, uc, rfl, (hO.set8 (m := w.heap.size + 1 + 1) (by omega) (.int .i64 ad) (.int .i64 ln) (.int .i64 ow) (.int .i64 lo) (.int .i64 hi) (.slice va ds.length vc) (.int .i64 nw) (.slice ua L.length uc)).mono (by omega)⟩, bl_set8 hB5 (n := w.heap.size + 1 + 1) (by omega) (.int .i64 ad) (.int .i64 ln) (.int .i64 ow) (.int .i64 lo) (.int .i64 hi) (.slice va ds.length vc) (.int .i64 nw) (.slice ua L.length uc)⟩
          | false =>
            go_wp2_with fail
            refine H3.out.mono ?_
            rintro e w3 ⟨rfl, hb3⟩
            have hB3 := bl_trans hB hb3
            have hC3 := bl_trans hC hb3
            go_wp2_with fail
            go_roundg (T - (n + 1))
            case measure => omega
            case rel => exact ⟨n + 1, rfl, by omega, by go_num, fun j y hj hy => HS.out j y (by have := get_lt hy; omega) hy, fun j y hj hy => (by rcases Nat.lt_or_ge (ds.length + j) n with h | h; exact HT.out j y h hy; have : j = n - ds.length := (by omega); subst this; rw [some_one hy hd.out]; exact ht), hB3, hC3⟩
      · have hne : ¬ ((n : Int) < (T : Int)) := by omega
        have hfd : Hid (ds.find? (sendsD k a ap) = none) := find_no (fun j y hy => HS.out j y (by have := get_lt hy; have := hT.out; omega) hy)
        have hfe : Hid (es.findIdx? (sendsE nw k a ap b bp) = none) := noIdx (fun j y hy => HT.out j y (by have := get_lt hy; have := hT.out; omega) hy)
        clear HS HT hown OD OE hla
        have y1 := x1.2
        have y2 := x2.2
        have H5 : Hid (Calls Tryz.prog _ _ _ _) := begin_ret ad ln ow lo hi nw da ds.length dc ea es.length ec k a ap b bp es wr (HE.out _ hB) he16 lo1 lo2 lo3
        go_wp2_with fail
        refine H5.out.mono ?_
        rintro e w3 ⟨⟨r, c, rfl, hBA⟩, hb3⟩
        have hs3w := hb3.size
        have hBl := bl_alloc (bl_refl w3) (.cells #[.int .i64 r.k, .int .i64 r.pr, .int .i64 r.pp, .int .i64 r.o, .int .i64 r.i, .int .i64 r.ip, .int .i64 r.l] 52)
        have xe := Box.new w3 #[.int .i64 r.k, .int .i64 r.pr, .int .i64 r.pp, .int .i64 r.o, .int .i64 r.i, .int .i64 r.ip, .int .i64 r.l] 52
        have hb4 := bl_trans hb3 hBl
        replace hB := bl_trans hB hb4
        replace x1 := x1.below hb4
        replace bx := bx.below hb4
        clear y1 y2 H5 x2 hb3 hBl hb4
        rcases hBA with ⟨h16, rfl⟩ | ⟨h16, hp, rfl⟩ | ⟨h16, p, hp, rfl, rfl⟩
        · have hO4 : Hid (O = ⟨⟨ad, ln, ow, lo, hi, nw, ds, es⟩, zeroF, 4⟩) := OF.out hfd.out hfe.out h16
          have he4 : errV 4 = .iface 133 (.int .i64 4) := rfl
          rw [he4]
          clear h16
          obtain ⟨⟨q1, q2⟩, q3⟩ := id bx
          go_wp2_with fail
          have hbv := bx.set8 (.int .i64 0) (.int .i64 0) (.int .i64 0) (.int .i64 0) (.int .i64 0) (.slice none 0 0) (.int .i64 0) (.slice none 0 0)
          obtain ⟨⟨t1, t2⟩, t3⟩ := id hbv
          exact bodyPost_ret (v := .tuple #[.agg #[.int .i64 0, .int .i64 0, .int .i64 0, .int .i64 0, .int .i64 0, .slice none 0 0, .int .i64 0, .slice none 0 0], .int .i64 0, .iface 133 (.int .i64 4)]) (by simp [results, Tryz.results48, go_sem, t2]) rfl ⟨by rw [hO4.out]; exact Or.inl ⟨by simp, rfl⟩, bl_set8 hB (n := w.heap.size + 1 + 1) (by omega) (.int .i64 0) (.int .i64 0) (.int .i64 0) (.int .i64 0) (.int .i64 0) (.slice none 0 0) (.int .i64 0) (.slice none 0 0)⟩
        · have hO5 : Hid (O = ⟨⟨ad, ln, ow, lo, hi, nw, ds, es⟩, zeroF, 5⟩) := OV.out hfd.out hfe.out h16 hp
          have he5 : errV 5 = .iface 133 (.int .i64 5) := rfl
          rw [he5]
          clear h16 hp
          obtain ⟨⟨q1, q2⟩, q3⟩ := id bx
          go_wp2_with fail
          have hbv := bx.set8 (.int .i64 0) (.int .i64 0) (.int .i64 0) (.int .i64 0) (.int .i64 0) (.slice none 0 0) (.int .i64 0) (.slice none 0 0)
          obtain ⟨⟨t1, t2⟩, t3⟩ := id hbv
          exact bodyPost_ret (v := .tuple #[.agg #[.int .i64 0, .int .i64 0, .int .i64 0, .int .i64 0, .int .i64 0, .slice none 0 0, .int .i64 0, .slice none 0 0], .int .i64 0, .iface 133 (.int .i64 5)]) (by simp [results, Tryz.results48, go_sem, t2]) rfl ⟨by rw [hO5.out]; exact Or.inl ⟨by simp, rfl⟩, bl_set8 hB (n := w.heap.size + 1 + 1) (by omega) (.int .i64 0) (.int .i64 0) (.int .i64 0) (.int .i64 0) (.int .i64 0) (.slice none 0 0) (.int .i64 0) (.slice none 0 0)⟩
        · have hO6 : O = ⟨⟨ad, ln, ow, lo, hi, nw, ds, putE es ⟨k, b, bp, p, a, ap, nw⟩⟩, ⟨k, ow, p, b, bp⟩, 0⟩ := ON.out p hfd.out hfe.out h16 hp
          have hnew := free_new (a := a) (ap := ap) (nw := nw) hp
          generalize hr : (⟨k, b, bp, p, a, ap, nw⟩ : En) = r at *
          have hro : p = r.o := by rw [← hr]
          rw [hro] at hO6
          clear hro hp h16
          have HW : Hid (∀ W, Below w.heap.size w W → Calls Tryz.prog 101 #[.agg #[.int .i64 ad, .int .i64 ln, .int .i64 ow, .int .i64 lo, .int .i64 hi, .slice da ds.length dc, .int .i64 nw, .slice ea es.length ec], .agg #[.int .i64 r.k, .int .i64 r.pr, .int .i64 r.pp, .int .i64 r.o, .int .i64 r.i, .int .i64 r.ip, .int .i64 r.l]] W fun e w' => ∃ va vc ua uc, e = .returned (.agg #[.int .i64 ad, .int .i64 ln, .int .i64 ow, .int .i64 lo, .int .i64 hi, .slice va ds.length vc, .int .i64 nw, .slice ua (putE es r).length uc]) ∧ OwnB w' W.heap.size (.slice va ds.length vc) ds (.slice ua (putE es r).length uc) (putE es r) ∧ Below W.heap.size W w') := fun W h => (withEntry_ret ad ln ow lo hi nw da ds.length dc ea es.length ec r ds es W (HD.out _ h) (HE.out _ h) (by omega) (by omega) hso.out).mono (by
            rintro e w' ⟨va, vc, ua, uc, i, f, hsa, hf, he, hO, hb⟩
            rw [put_new hnew hsa hf] at he hO
            exact ⟨va, vc, ua, uc, he, hO, hb⟩)
          clear hnew hr
          generalize putE es r = L at *
          have he0 : errV 0 = .nilIface := rfl
          rw [he0]
          have hON : Hid (O = ⟨⟨ad, ln, ow, lo, hi, nw, ds, L⟩, ⟨k, ow, r.o, b, bp⟩, 0⟩) := hO6
          clear hO6 OF OV ON HD HE hfd hfe hso he16
          have run0 := run_neq_nil
          go_upto_region 13 with fail
          have hne3 : w.heap.size + 1 + 1 < w3.heap.size := by omega
          have hxe := xe.1
          have hsz := hB.size
          generalize w3.alloc (.cells #[.int .i64 r.k, .int .i64 r.pr, .int .i64 r.pp, .int .i64 r.o, .int .i64 r.i, .int .i64 r.ip, .int .i64 r.l] 52) = W4 at *
          generalize w3.heap.size = ne at *
          generalize hn0 : w.heap.size = n0 at x1 bx hne3 ⊢
          generalize hnb : n0 + 1 + 1 = nb at bx hne3 ⊢
          generalize hbs : nb + 1 = base
          have hbase : base ≤ W4.heap.size := by omega
          have HPb : ∀ (u u' : World), (∃ va vc ua uc, Bx u nb #[.int .i64 ad, .int .i64 ln, .int .i64 ow, .int .i64 lo, .int .i64 hi, .slice va ds.length vc, .int .i64 nw, .slice ua L.length uc] ∧ OwnB u base (.slice va ds.length vc) ds (.slice ua L.length uc) L) → Below u.heap.size u u' → ∃ va vc ua uc, Bx u' nb #[.int .i64 ad, .int .i64 ln, .int .i64 ow, .int .i64 lo, .int .i64 hi, .slice va ds.length vc, .int .i64 nw, .slice ua L.length uc] ∧ OwnB u' base (.slice va ds.length vc) ds (.slice ua L.length uc) L := fun u u' ⟨va, vc, ua, uc, h1, h2⟩ hb => ⟨va, vc, ua, uc, h1.below hb, h2.below hb⟩
          refine region_midL [46, 47, 48, 49, 50, 100005, 5, 6] (FSend ad ln ow lo hi nw da dc ea ec es r L base ne ds) (JSend w n0 nb ne base #[.int .i64 ad, .int .i64 ln, .int .i64 ow, .int .i64 lo, .int .i64 hi, .slice da ds.length dc, .int .i64 nw, .slice ea es.length ec] #[.int .i64 r.k, .int .i64 r.pr, .int .i64 r.pp, .int .i64 r.o, .int .i64 r.i, .int .i64 r.ip, .int .i64 r.l] (fun w => ∃ va vc ua uc, Bx w nb #[.int .i64 ad, .int .i64 ln, .int .i64 ow, .int .i64 lo, .int .i64 hi, .slice va ds.length vc, .int .i64 nw, .slice ua L.length uc] ∧ OwnB w base (.slice va ds.length vc) ds (.slice ua L.length uc) L)) (Apart nb) (by kernel_rfl) (by kernel_rfl) (by decide) ?_ ?_ ?_ ?_
          · intro i v w w' hR h
            rcases i with _ | _ | _ | _ | _ | _ | _ | _ | i
            · exact h
            · exact h
            · obtain ⟨va, vc, ua, uc, h1, h2⟩ := h
              exact ⟨va, vc, ua, uc, h1, ⟨(far_of_ap hR).own h2.1 (fun k hk e => by have := (h2.1.lt k hk).1; have := Option.some.inj e; omega), (far_of_ap hR).own h2.2.1 (fun k hk e => by have := (h2.2.1.lt k hk).1; have := Option.some.inj e; omega), h2.2.2⟩⟩
            · exact h
            · exact h
            · exact h
            · exact h
            · exact h
            · exact h
          · exact ⟨bl_drew hB, x1.below (bl_drew (bl_refl _)), xe.below (bl_drew (bl_refl _)), hbase, fun _ => bx.below (bl_drew (bl_refl _)), fun x => by simp at x⟩
          · refine all_lt_succ (all_lt_succ (all_lt_succ (all_lt_succ (all_lt_succ (all_lt_succ (all_lt_succ (all_lt_succ (all_lt_zero _) ?_) ?_) ?_) ?_) ?_) ?_) ?_) ?_
            · refine stepOkL_at _ rfl ?_
              intro listed vs w hls hv hli hcl hup hJ hdep K hK
              have hls : listed.size = 8 := hls
              obtain ⟨v0, v1, v2, v3, v4, v5, v6, v7, rfl⟩ := len8 hv
              clear hdep hv
              have hbx := hJ.2.1.2
              refine mid_val (.agg #[.int .i64 ad, .int .i64 ln, .int .i64 ow, .int .i64 lo, .int .i64 hi, .slice da ds.length dc, .int .i64 nw, .slice ea es.length ec]) w (by kernel_rfl) ?_ (hK.out _ _ (ap_refl _ _) (JSend.keep (i := 0) (by decide) hJ) rfl)
              simp only [setAll, List.setIfInBounds_toArray, List.set_cons_zero, List.set_cons_succ, List.set_nil]
              go_simp
            · refine stepOkL_at _ rfl ?_
              intro listed vs w hls hv hli hcl hup hJ hdep K hK
              have hls : listed.size = 8 := hls
              obtain ⟨v0, v1, v2, v3, v4, v5, v6, v7, rfl⟩ := len8 hv
              clear hdep hv
              have hbx := hJ.2.2.1.2
              refine mid_val (.agg #[.int .i64 r.k, .int .i64 r.pr, .int .i64 r.pp, .int .i64 r.o, .int .i64 r.i, .int .i64 r.ip, .int .i64 r.l]) w (by kernel_rfl) ?_ (hK.out _ _ (ap_refl _ _) (JSend.keep (i := 1) (by decide) hJ) rfl)
              simp only [setAll, List.setIfInBounds_toArray, List.set_cons_zero, List.set_cons_succ, List.set_nil]
              go_simp
            · refine stepOkL_at _ rfl ?_
              intro listed vs w hls hv hli hcl hup hJ hdep K hK
              have hls : listed.size = 8 := hls
              obtain ⟨v0, v1, v2, v3, v4, v5, v6, v7, rfl⟩ := len8 hv
              have f0 : v0 = .agg #[.int .i64 ad, .int .i64 ln, .int .i64 ow, .int .i64 lo, .int .i64 hi, .slice da ds.length dc, .int .i64 nw, .slice ea es.length ec] := (by have h := dep hdep 0 (by kernel_rfl); exact h)
              have f1 : v1 = .agg #[.int .i64 r.k, .int .i64 r.pr, .int .i64 r.pp, .int .i64 r.o, .int .i64 r.i, .int .i64 r.ip, .int .i64 r.l] := (by have h := dep hdep 1 (by kernel_rfl); exact h)
              clear hdep hv
              subst f0
              subst f1
              refine mid_call 101 (by kernel_rfl) (HW.out w hJ.1) (by kernel_rfl) ?_
              rintro e w' ⟨va, vc, ua, uc, rfl, hO, hb⟩
              exact ⟨_, rfl, hK.out _ _ (ap_of_bl hb) (JSend.below hJ hb (by decide) HPb) ⟨va, vc, ua, uc, rfl, hO.mono (by have := hJ.2.2.2.1; omega)⟩⟩
            · refine stepOkL_at _ rfl ?_
              intro listed vs w hls hv hli hcl hup hJ hdep K hK
              have hls : listed.size = 8 := hls
              obtain ⟨v0, v1, v2, v3, v4, v5, v6, v7, rfl⟩ := len8 hv
              clear hdep hv
              exact mid_val _ w (by kernel_rfl) (by kernel_rfl) (hK.out _ _ (ap_refl _ _) (JSend.keep (i := 3) (by decide) hJ) rfl)
            · refine stepOkL_at _ rfl ?_
              intro listed vs w hls hv hli hcl hup hJ hdep K hK
              have hls : listed.size = 8 := hls
              obtain ⟨v0, v1, v2, v3, v4, v5, v6, v7, rfl⟩ := len8 hv
              have f3 : v3 = .pointer (some ⟨ne, 3, none⟩) := (by have h := dep hdep 3 (by kernel_rfl); exact h)
              clear hdep hv
              subst f3
              have hbx := hJ.2.2.1.2 3
              refine mid_val (.int .i64 r.o) w (by kernel_rfl) ?_ (hK.out _ _ (ap_refl _ _) (JSend.keep (i := 4) (by decide) hJ) rfl)
              simp only [setAll, List.setIfInBounds_toArray, List.set_cons_zero, List.set_cons_succ, List.set_nil]
              go_simp
            · refine stepOkL_at _ rfl ?_
              intro listed vs w hls hv hli hcl hup hJ hdep K hK
              have hls : listed.size = 8 := hls
              obtain ⟨v0, v1, v2, v3, v4, v5, v6, v7, rfl⟩ := len8 hv
              have f0 : v0 = .agg #[.int .i64 ad, .int .i64 ln, .int .i64 ow, .int .i64 lo, .int .i64 hi, .slice da ds.length dc, .int .i64 nw, .slice ea es.length ec] := (by have h := dep hdep 0 (by kernel_rfl); exact h)
              have f1 : v1 = .agg #[.int .i64 r.k, .int .i64 r.pr, .int .i64 r.pp, .int .i64 r.o, .int .i64 r.i, .int .i64 r.ip, .int .i64 r.l] := (by have h := dep hdep 1 (by kernel_rfl); exact h)
              have f2 : ∃ va vc ua uc, v2 = .agg #[.int .i64 ad, .int .i64 ln, .int .i64 ow, .int .i64 lo, .int .i64 hi, .slice va ds.length vc, .int .i64 nw, .slice ua L.length uc] ∧ OwnB w base (.slice va ds.length vc) ds (.slice ua L.length uc) L := (by have h := dep hdep 2 (by kernel_rfl); exact h)
              clear hdep hv
              obtain ⟨va, vc, ua, uc, rfl, hO⟩ := f2
              have hbz := hJ.2.2.2.2.1 (notUp hli)
              obtain ⟨⟨q1, q2⟩, q3⟩ := id hbz
              refine mid_skip (World.setCell (World.setCell (World.setCell (World.setCell (World.setCell (World.setCell (World.setCell (World.setCell w ⟨nb, 0, none⟩ (.int .i64 ad)) ⟨nb, 1, none⟩ (.int .i64 ln)) ⟨nb, 2, none⟩ (.int .i64 ow)) ⟨nb, 3, none⟩ (.int .i64 lo)) ⟨nb, 4, none⟩ (.int .i64 hi)) ⟨nb, 5, none⟩ (.slice va ds.length vc)) ⟨nb, 6, none⟩ (.int .i64 nw)) ⟨nb, 7, none⟩ (.slice ua L.length uc)) (by kernel_rfl) ?_ (hK.out undef _ (ap_set8n (.int .i64 ad) (.int .i64 ln) (.int .i64 ow) (.int .i64 lo) (.int .i64 hi) (.slice va ds.length vc) (.int .i64 nw) (.slice ua L.length uc)) (JSend.stored hJ (by omega) ⟨va, vc, ua, uc, hbz.set8 (.int .i64 ad) (.int .i64 ln) (.int .i64 ow) (.int .i64 lo) (.int .i64 hi) (.slice va ds.length vc) (.int .i64 nw) (.slice ua L.length uc), hO.set8 (m := nb) (by omega) (.int .i64 ad) (.int .i64 ln) (.int .i64 ow) (.int .i64 lo) (.int .i64 hi) (.slice va ds.length vc) (.int .i64 nw) (.slice ua L.length uc)⟩ (by omega) (by omega) (by omega)) trivial)
              simp only [setAll, List.setIfInBounds_toArray, List.set_cons_zero, List.set_cons_succ, List.set_nil]
              go_simp
            · refine stepOkL_at _ rfl ?_
              intro listed vs w hls hv hli hcl hup hJ hdep K hK
              have hls : listed.size = 8 := hls
              obtain ⟨v0, v1, v2, v3, v4, v5, v6, v7, rfl⟩ := len8 hv
              have f0 : v0 = .agg #[.int .i64 ad, .int .i64 ln, .int .i64 ow, .int .i64 lo, .int .i64 hi, .slice da ds.length dc, .int .i64 nw, .slice ea es.length ec] := (by have h := dep hdep 0 (by kernel_rfl); exact h)
              have f1 : v1 = .agg #[.int .i64 r.k, .int .i64 r.pr, .int .i64 r.pp, .int .i64 r.o, .int .i64 r.i, .int .i64 r.ip, .int .i64 r.l] := (by have h := dep hdep 1 (by kernel_rfl); exact h)
              have f2 : ∃ va vc ua uc, v2 = .agg #[.int .i64 ad, .int .i64 ln, .int .i64 ow, .int .i64 lo, .int .i64 hi, .slice va ds.length vc, .int .i64 nw, .slice ua L.length uc] ∧ OwnB w base (.slice va ds.length vc) ds (.slice ua L.length uc) L := (by have h := dep hdep 2 (by kernel_rfl); exact h)
              have f3 : v3 = .pointer (some ⟨ne, 3, none⟩) := (by have h := dep hdep 3 (by kernel_rfl); exact h)
              have f4 : v4 = .int .i64 r.o := (by have h := dep hdep 4 (by kernel_rfl); exact h)
              clear hdep hv
              subst f4
              exact mid_val _ w (by kernel_rfl) (by kernel_rfl) (hK.out _ _ (ap_refl _ _) (JSend.keep (i := 6) (by decide) hJ) rfl)
            · refine stepOkL_at _ rfl ?_
              intro listed vs w hls hv hli hcl hup hJ hdep K hK
              have hls : listed.size = 8 := hls
              obtain ⟨v0, v1, v2, v3, v4, v5, v6, v7, rfl⟩ := len8 hv
              have f0 : v0 = .agg #[.int .i64 ad, .int .i64 ln, .int .i64 ow, .int .i64 lo, .int .i64 hi, .slice da ds.length dc, .int .i64 nw, .slice ea es.length ec] := (by have h := dep hdep 0 (by kernel_rfl); exact h)
              have f1 : v1 = .agg #[.int .i64 r.k, .int .i64 r.pr, .int .i64 r.pp, .int .i64 r.o, .int .i64 r.i, .int .i64 r.ip, .int .i64 r.l] := (by have h := dep hdep 1 (by kernel_rfl); exact h)
              have f2 : ∃ va vc ua uc, v2 = .agg #[.int .i64 ad, .int .i64 ln, .int .i64 ow, .int .i64 lo, .int .i64 hi, .slice va ds.length vc, .int .i64 nw, .slice ua L.length uc] ∧ OwnB w base (.slice va ds.length vc) ds (.slice ua L.length uc) L := (by have h := dep hdep 2 (by kernel_rfl); exact h)
              have f3 : v3 = .pointer (some ⟨ne, 3, none⟩) := (by have h := dep hdep 3 (by kernel_rfl); exact h)
              have f4 : v4 = .int .i64 r.o := (by have h := dep hdep 4 (by kernel_rfl); exact h)
              have f6 : v6 = .int .i64 r.o := (by have h := dep hdep 6 (by kernel_rfl); exact h)
              clear hdep hv
              exact mid_val _ w (by kernel_rfl) (by kernel_rfl) (hK.out _ _ (ap_refl _ _) (JSend.keep (i := 7) (by decide) hJ) rfl)
          · intro listed vs w hls hal hv hJ hall
            obtain ⟨v0, v1, v2, v3, v4, v5, v6, v7, rfl⟩ := len8 hv
            have f0 : v0 = .agg #[.int .i64 ad, .int .i64 ln, .int .i64 ow, .int .i64 lo, .int .i64 hi, .slice da ds.length dc, .int .i64 nw, .slice ea es.length ec] := (by have h := hall 0 (by decide); exact h)
            have f1 : v1 = .agg #[.int .i64 r.k, .int .i64 r.pr, .int .i64 r.pp, .int .i64 r.o, .int .i64 r.i, .int .i64 r.ip, .int .i64 r.l] := (by have h := hall 1 (by decide); exact h)
            have f2 : ∃ va vc ua uc, v2 = .agg #[.int .i64 ad, .int .i64 ln, .int .i64 ow, .int .i64 lo, .int .i64 hi, .slice va ds.length vc, .int .i64 nw, .slice ua L.length uc] ∧ OwnB w base (.slice va ds.length vc) ds (.slice ua L.length uc) L := (by have h := hall 2 (by decide); exact h)
            have f3 : v3 = .pointer (some ⟨ne, 3, none⟩) := (by have h := hall 3 (by decide); exact h)
            have f4 : v4 = .int .i64 r.o := (by have h := hall 4 (by decide); exact h)
            have f6 : v6 = .int .i64 r.o := (by have h := hall 6 (by decide); exact h)
            have f7 : v7 = .nilIface := (by have h := hall 7 (by decide); exact h)
            clear hall hv
            subst hn0
            obtain ⟨hB, -, -, -, -, hP⟩ := hJ
            obtain ⟨va, vc, ua, uc, hbv, hO⟩ := hP (hal 5 (by decide))
            subst f6
            subst f7
            clear f0 f1 f2 f3 f4
            simp only [setAll, List.setIfInBounds_toArray, List.set_cons_zero, List.set_cons_succ, List.set_nil]
            go_wp2_with fail
            obtain ⟨⟨t1, t2⟩, t3⟩ := id hbv
            exact bodyPost_ret (v := .tuple #[.agg #[.int .i64 ad, .int .i64 ln, .int .i64 ow, .int .i64 lo, .int .i64 hi, .slice va ds.length vc, .int .i64 nw, .slice ua L.length uc], .int .i64 r.o, .nilIface]) (by simp [results, Tryz.results48, go_sem, t2]) rfl ⟨by rw [hON.out]; exact Or.inr ⟨rfl, va, vc, ua, uc, rfl, hO.mono (by omega)⟩, hB⟩
  · have hC : (outM ⟨ad, ln, ow, lo, hi, nw, ds, es⟩ k a ap b bp).c = mayOut ad ln ow lo hi nw ds es k a ap b bp := mayOut_more hm
    generalize outM ⟨ad, ln, ow, lo, hi, nw, ds, es⟩ k a ap b bp = O at *
    generalize mayOut ad ln ow lo hi nw ds es k a ap b bp = c at *
    have hcv : errV c = .iface 133 (.int .i64 c) := by simp [errV, hm]
    rw [hcv] at H1
    clear hcv
    have hm : Hid (c ≠ 0) := hm
    have hC : Hid (O.c = c) := hC
    go_enter Tryz.func48, Tryz.ntmps48
    go_wp2_with fail
    refine H1.out.mono ?_
    rintro e w1 ⟨rfl, hb1⟩
    have hB1 := bl_trans hb0 hb1
    replace bx := bx.below hb1
    clear H1 hb0 hb1 x1 x2
    obtain ⟨⟨q1, q2⟩, q3⟩ := id bx
    go_wp2_with fail
    have hbv := bx.set8 (.int .i64 0) (.int .i64 0) (.int .i64 0) (.int .i64 0) (.int .i64 0) (.slice none 0 0) (.int .i64 0) (.slice none 0 0)
    obtain ⟨⟨t1, t2⟩, t3⟩ := id hbv
    exact bodyPost_ret (v := .tuple #[.agg #[.int .i64 0, .int .i64 0, .int .i64 0, .int .i64 0, .int .i64 0, .slice none 0 0, .int .i64 0, .slice none 0 0], .int .i64 0, .iface 133 (.int .i64 c)]) (by simp [results, Tryz.results48, go_sem, t2]) rfl ⟨Or.inl ⟨by rw [hC.out]; exact hm.out, by rw [hC.out]⟩, bl_set8 hB1 (n := w.heap.size + 1 + 1) (by omega) (.int .i64 0) (.int .i64 0) (.int .i64 0) (.int .i64 0) (.int .i64 0) (.slice none 0 0) (.int .i64 0) (.slice none 0 0)⟩
end Go.Proofs.YtcgjpmhjijmplaaGreatDoor
