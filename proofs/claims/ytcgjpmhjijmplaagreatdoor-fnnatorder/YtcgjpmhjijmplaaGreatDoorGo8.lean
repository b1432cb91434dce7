/- The program's NatOut, walked. -/
import Derived.Test.YtcgjpmhjijmplaaGreatDoorGo7
namespace Go.Proofs.YtcgjpmhjijmplaaGreatDoor
open Go.ChangeShapes Go.WideShapes Go.ChangeAt Go.RowKit Go.Maps

/-- What the last region of NatOut keeps. -/
def JOut (w0 : World) (n0 n1 nx nb nf : Nat) (C F X G : Array Value) (P : World → Prop) (L : Array Bool) (w : World) : Prop :=
  Below w0.heap.size w0 w ∧ Box w n0 C ∧ Box w n1 F ∧ Box w nx X ∧ P w ∧ (L.getD 5 false = false → Bx w nb #[.int .i64 0, .int .i64 0, .int .i64 0, .int .i64 0, .int .i64 0, .slice none 0 0, .int .i64 0, .slice none 0 0]) ∧ (L.getD 5 false = true → Bx w nb X) ∧ (L.getD 6 false = false → Bx w nf #[.int .i64 0, .int .i64 0, .int .i64 0, .int .i64 0, .int .i64 0]) ∧ (L.getD 6 false = true → Bx w nf G)
section
variable {w0 : World} {n0 n1 nx nb nf : Nat} {C F X G : Array Value} {P : World → Prop} {L : Array Bool} {w w' : World}
theorem JOut.keep {i : Nat} (h5 : 5 ≠ i) (h6 : 6 ≠ i) (h : JOut w0 n0 n1 nx nb nf C F X G P L w) : JOut w0 n0 n1 nx nb nf C F X G P (L.setIfInBounds i true) w := by
  obtain ⟨a1, a2, a3, a4, a5, a6, a7, a8, a9⟩ := h
  exact ⟨a1, a2, a3, a4, a5, fun x => a6 (by rwa [listed_ne h5] at x), fun x => a7 (by rwa [listed_ne h5] at x), fun x => a8 (by rwa [listed_ne h6] at x), fun x => a9 (by rwa [listed_ne h6] at x)⟩
theorem JOut.below {i : Nat} (h : JOut w0 n0 n1 nx nb nf C F X G P L w) (hb : Below w.heap.size w w') (h5 : 5 ≠ i) (h6 : 6 ≠ i) (hP : ∀ w w', P w → Below w.heap.size w w' → P w') : JOut w0 n0 n1 nx nb nf C F X G P (L.setIfInBounds i true) w' := by
  obtain ⟨a1, a2, a3, a4, a5, a6, a7, a8, a9⟩ := h
  exact ⟨bl_trans a1 hb, a2.below hb, a3.below hb, a4.below hb, hP _ _ a5 hb, fun x => (a6 (by rwa [listed_ne h5] at x)).below hb, fun x => (a7 (by rwa [listed_ne h5] at x)).below hb, fun x => (a8 (by rwa [listed_ne h6] at x)).below hb, fun x => (a9 (by rwa [listed_ne h6] at x)).below hb⟩
theorem JOut.stored5 (h : JOut w0 n0 n1 nx nb nf C F X G P L w) (hl : 5 < L.size) (a b c d e f g i : Value) (hx : Bx (World.setCell (World.setCell (World.setCell (World.setCell (World.setCell (World.setCell (World.setCell (World.setCell w ⟨nb, 0, none⟩ (a)) ⟨nb, 1, none⟩ (b)) ⟨nb, 2, none⟩ (c)) ⟨nb, 3, none⟩ (d)) ⟨nb, 4, none⟩ (e)) ⟨nb, 5, none⟩ (f)) ⟨nb, 6, none⟩ (g)) ⟨nb, 7, none⟩ (i)) nb X) (hP : P (World.setCell (World.setCell (World.setCell (World.setCell (World.setCell (World.setCell (World.setCell (World.setCell w ⟨nb, 0, none⟩ (a)) ⟨nb, 1, none⟩ (b)) ⟨nb, 2, none⟩ (c)) ⟨nb, 3, none⟩ (d)) ⟨nb, 4, none⟩ (e)) ⟨nb, 5, none⟩ (f)) ⟨nb, 6, none⟩ (g)) ⟨nb, 7, none⟩ (i))) (hw : w0.heap.size ≤ nb) (h0 : n0 ≠ nb) (h1 : n1 ≠ nb) (h2 : nx ≠ nb) (h3 : nf ≠ nb) : JOut w0 n0 n1 nx nb nf C F X G P (L.setIfInBounds 5 true) (World.setCell (World.setCell (World.setCell (World.setCell (World.setCell (World.setCell (World.setCell (World.setCell w ⟨nb, 0, none⟩ (a)) ⟨nb, 1, none⟩ (b)) ⟨nb, 2, none⟩ (c)) ⟨nb, 3, none⟩ (d)) ⟨nb, 4, none⟩ (e)) ⟨nb, 5, none⟩ (f)) ⟨nb, 6, none⟩ (g)) ⟨nb, 7, none⟩ (i)) := by
  obtain ⟨a1, a2, a3, a4, a5, a6, a7, a8, a9⟩ := h
  refine ⟨bl_set8 a1 hw a b c d e f g i, a2.other8 h0 a b c d e f g i, a3.other8 h1 a b c d e f g i, a4.other8 h2 a b c d e f g i, hP, fun x => ?_, fun _ => hx, fun x => (a8 (by rwa [listed_ne (by decide)] at x)).other8 h3 a b c d e f g i, fun x => (a9 (by rwa [listed_ne (by decide)] at x)).other8 h3 a b c d e f g i⟩
  rw [listed_eq hl] at x; cases x
theorem JOut.stored6 (h : JOut w0 n0 n1 nx nb nf C F X G P L w) (hl : 6 < L.size) (a b c d e : Value) (hx : Bx (World.setCell (World.setCell (World.setCell (World.setCell (World.setCell w ⟨nf, 0, none⟩ (a)) ⟨nf, 1, none⟩ (b)) ⟨nf, 2, none⟩ (c)) ⟨nf, 3, none⟩ (d)) ⟨nf, 4, none⟩ (e)) nf G) (hP : P (World.setCell (World.setCell (World.setCell (World.setCell (World.setCell w ⟨nf, 0, none⟩ (a)) ⟨nf, 1, none⟩ (b)) ⟨nf, 2, none⟩ (c)) ⟨nf, 3, none⟩ (d)) ⟨nf, 4, none⟩ (e))) (hw : w0.heap.size ≤ nf) (h0 : n0 ≠ nf) (h1 : n1 ≠ nf) (h2 : nx ≠ nf) (h3 : nb ≠ nf) : JOut w0 n0 n1 nx nb nf C F X G P (L.setIfInBounds 6 true) (World.setCell (World.setCell (World.setCell (World.setCell (World.setCell w ⟨nf, 0, none⟩ (a)) ⟨nf, 1, none⟩ (b)) ⟨nf, 2, none⟩ (c)) ⟨nf, 3, none⟩ (d)) ⟨nf, 4, none⟩ (e)) := by
  obtain ⟨a1, a2, a3, a4, a5, a6, a7, a8, a9⟩ := h
  refine ⟨bl_set5 a1 hw a b c d e, a2.other5 h0 a b c d e, a3.other5 h1 a b c d e, a4.other5 h2 a b c d e, hP, fun x => (a6 (by rwa [listed_ne (by decide)] at x)).other5 h3 a b c d e, fun x => (a7 (by rwa [listed_ne (by decide)] at x)).other5 h3 a b c d e, fun x => ?_, fun _ => hx⟩
  rw [listed_eq hl] at x; cases x
end
def FOut (ad ln ow lo hi nw : Int) (da : Option Addr) (ds : List Dr) (dc : Nat) (ea : Option Addr) (es : List En) (ec : Nat) (k a ap b bp f3 : Int) (rad rln rw rlo rhi rnw : Int) (rds : List Dr) (res : List En) (va : Option Addr) (vc : Nat) (ua : Option Addr) (uc : Nat) : Nat → Value → World → Prop
  | 0, v, _ => v = .agg #[.int .i64 rad, .int .i64 rln, .int .i64 rw, .int .i64 rlo, .int .i64 rhi, .slice va rds.length vc, .int .i64 rnw, .slice ua res.length uc]
  | 1, v, _ => v = .agg #[.int .i64 ad, .int .i64 ln, .int .i64 ow, .int .i64 lo, .int .i64 hi, .slice da ds.length dc, .int .i64 nw, .slice ea es.length ec]
  | 2, v, _ => v = .agg #[.int .i64 k, .int .i64 a, .int .i64 ap, .int .i64 b, .int .i64 bp]
  | 3, v, _ => v = .int .i64 f3
  | 4, v, _ => v = .agg #[.int .i64 k, .int .i64 ow, .int .i64 f3, .int .i64 b, .int .i64 bp]
  | 7, v, _ => v = .int .i64 0
  | _, _, _ => True

set_option maxRecDepth 20000 in
set_option maxHeartbeats 8000000 in
theorem implOut_ret (ad ln ow lo hi nw : Int) (da : Option Addr) (dn dc : Nat) (ea : Option Addr) (en ec : Nat) (k a ap b bp : Int) (ds : List Dr) (es : List En) (w : World) (hg : Gl w) (hD : DoorsAt w da dn ds) (hE : EntriesAt w ea en es) :
    Calls Tryz.prog 13 #[.agg #[.int .i64 ad, .int .i64 ln, .int .i64 ow, .int .i64 lo, .int .i64 hi, .slice da dn dc, .int .i64 nw, .slice ea en ec], .agg #[.int .i64 k, .int .i64 a, .int .i64 ap, .int .i64 b, .int .i64 bp]] w fun e w' => ToldO w' w.heap.size e (outM ⟨ad, ln, ow, lo, hi, nw, ds, es⟩ k a ap b bp) ∧ Below w.heap.size w w' := by
  have hdl := hD.1
  have hel := hE.1
  subst hdl
  subst hel
  have hb0 := bl_alloc (bl_alloc (bl_alloc (bl_alloc (bl_refl w) (.cells #[.int .i64 ad, .int .i64 ln, .int .i64 ow, .int .i64 lo, .int .i64 hi, .slice da ds.length dc, .int .i64 nw, .slice ea es.length ec] 26)) (.cells #[.int .i64 k, .int .i64 a, .int .i64 ap, .int .i64 b, .int .i64 bp] 32)) (.cells #[.int .i64 0, .int .i64 0, .int .i64 0, .int .i64 0, .int .i64 0, .slice none 0 0, .int .i64 0, .slice none 0 0] 26)) (.cells #[.int .i64 0, .int .i64 0, .int .i64 0, .int .i64 0, .int .i64 0] 32)
  have x1 := (((Box.new w #[.int .i64 ad, .int .i64 ln, .int .i64 ow, .int .i64 lo, .int .i64 hi, .slice da ds.length dc, .int .i64 nw, .slice ea es.length ec] 26).below (bl_alloc (bl_refl _) (.cells #[.int .i64 k, .int .i64 a, .int .i64 ap, .int .i64 b, .int .i64 bp] 32))).below (bl_alloc (bl_refl _) (.cells #[.int .i64 0, .int .i64 0, .int .i64 0, .int .i64 0, .int .i64 0, .slice none 0 0, .int .i64 0, .slice none 0 0] 26))).below (bl_alloc (bl_refl _) (.cells #[.int .i64 0, .int .i64 0, .int .i64 0, .int .i64 0, .int .i64 0] 32))
  have x2 := ((Box.new (w.alloc (.cells #[.int .i64 ad, .int .i64 ln, .int .i64 ow, .int .i64 lo, .int .i64 hi, .slice da ds.length dc, .int .i64 nw, .slice ea es.length ec] 26)) #[.int .i64 k, .int .i64 a, .int .i64 ap, .int .i64 b, .int .i64 bp] 32).below (bl_alloc (bl_refl _) (.cells #[.int .i64 0, .int .i64 0, .int .i64 0, .int .i64 0, .int .i64 0, .slice none 0 0, .int .i64 0, .slice none 0 0] 26))).below (bl_alloc (bl_refl _) (.cells #[.int .i64 0, .int .i64 0, .int .i64 0, .int .i64 0, .int .i64 0] 32))
  have bb := (Bx.new ((w.alloc (.cells #[.int .i64 ad, .int .i64 ln, .int .i64 ow, .int .i64 lo, .int .i64 hi, .slice da ds.length dc, .int .i64 nw, .slice ea es.length ec] 26)).alloc (.cells #[.int .i64 k, .int .i64 a, .int .i64 ap, .int .i64 b, .int .i64 bp] 32)) #[.int .i64 0, .int .i64 0, .int .i64 0, .int .i64 0, .int .i64 0, .slice none 0 0, .int .i64 0, .slice none 0 0] 26).below (bl_alloc (bl_refl _) (.cells #[.int .i64 0, .int .i64 0, .int .i64 0, .int .i64 0, .int .i64 0] 32))
  have bf := Bx.new (((w.alloc (.cells #[.int .i64 ad, .int .i64 ln, .int .i64 ow, .int .i64 lo, .int .i64 hi, .slice da ds.length dc, .int .i64 nw, .slice ea es.length ec] 26)).alloc (.cells #[.int .i64 k, .int .i64 a, .int .i64 ap, .int .i64 b, .int .i64 bp] 32)).alloc (.cells #[.int .i64 0, .int .i64 0, .int .i64 0, .int .i64 0, .int .i64 0, .slice none 0 0, .int .i64 0, .slice none 0 0] 26)) #[.int .i64 0, .int .i64 0, .int .i64 0, .int .i64 0, .int .i64 0] 32
  simp only [World.size_alloc] at x2 bb bf
  have H1 : Hid (Calls Tryz.prog _ _ _ _) := send_ret ad ln ow lo hi nw da ds.length dc ea es.length ec k a ap b bp ds es _ (hD.below hb0) (hE.below hb0)
  have HD : Hid (∀ W, Below w.heap.size w W → DoorsAt W da ds.length ds) := fun W h => hD.below h
  have HE : Hid (∀ W, Below w.heap.size w W → EntriesAt W ea es.length es) := fun W h => hE.below h
  have hfm := out_forms ⟨ad, ln, ow, lo, hi, nw, ds, es⟩ k a ap b bp
  have hg : Hid (∀ W, Below w.heap.size w W → Gl W) := fun W h => hg.below h
  clear hD hE
  generalize outM ⟨ad, ln, ow, lo, hi, nw, ds, es⟩ k a ap b bp = O at *
  obtain ⟨⟨rad, rln, rw, rlo, rhi, rnw, rds, res⟩, ⟨f1, f2, f3, f4, f5⟩, c⟩ := O
  simp only [zeroF, Fl.mk.injEq, Out.mk.injEq, Bk.mk.injEq] at hfm
  have hfm : Hid _ := hfm
  go_enter Tryz.func13, Tryz.ntmps13
  go_wp2_with fail
  refine H1.out.mono ?_
  clear H1
  rintro e w1 ⟨⟨hc, rfl⟩ | ⟨hc, va, vc, ua, uc, rfl, hO⟩, hb1⟩
  · have hBl := bl_alloc (bl_refl w1) (.cells #[.int .i64 0, .int .i64 0, .int .i64 0, .int .i64 0, .int .i64 0, .slice none 0 0, .int .i64 0, .slice none 0 0] 26)
    have hb2 := bl_trans hb1 hBl
    have hB := bl_trans hb0 hb2
    replace x1 := x1.below hb2
    replace bb := bb.below hb2
    replace bf := bf.below hb2
    clear x2 hb1 hBl hb2 hb0
    have y1 := x1.2
    rcases hfm.out with ⟨h1, -⟩ | ⟨h1, ⟨⟨rfl, rfl, rfl, rfl, rfl, rfl, rfl, rfl⟩, ⟨rfl, rfl, rfl, rfl, rfl⟩, -⟩⟩ | ⟨-, h1, ⟨⟨e1, e2, e3, e4, e5, e6, e7, e8⟩, ⟨rfl, rfl, rfl, rfl, rfl⟩, -⟩, hbk⟩
    · exact absurd h1 hc
    · subst h1
      clear hfm hc
      have H2 : Hid (∀ W, Gl W → Calls Tryz.prog 46 #[.agg #[.int .i64 ad, .int .i64 ln, .int .i64 ow, .int .i64 lo, .int .i64 hi, .slice da ds.length dc, .int .i64 nw, .slice ea es.length ec], .iface 133 (.int .i64 1)] W fun e w' => e = .returned (.tuple #[.agg #[.int .i64 0, .int .i64 0, .int .i64 0, .int .i64 0, .int .i64 0, .slice none 0 0, .int .i64 0, .slice none 0 0], .int .i64 1]) ∧ Below W.heap.size W w') := fun W h => refused_one ad ln ow lo hi nw da ds.length dc ea es.length ec W h
      go_wp2_with fail
      refine (H2.out _ (hg.out _ hB)).mono ?_
      rintro e w3 ⟨rfl, hb3⟩
      have hb4 := bl_trans hb3 (bl_alloc (bl_refl w3) (.cells #[.int .i64 0, .int .i64 0, .int .i64 0, .int .i64 0, .int .i64 0, .slice none 0 0, .int .i64 0, .slice none 0 0] 26))
      have x5 := Box.new w3 #[.int .i64 0, .int .i64 0, .int .i64 0, .int .i64 0, .int .i64 0, .slice none 0 0, .int .i64 0, .slice none 0 0] 26
      replace hB := bl_trans hB hb4
      replace bb := bb.below hb4
      replace bf := bf.below hb4
      clear hb3 hb4 y1 x1 H2
      go_upto_region 4 with fail
      generalize w3.alloc (.cells #[.int .i64 0, .int .i64 0, .int .i64 0, .int .i64 0, .int .i64 0, .slice none 0 0, .int .i64 0, .slice none 0 0] 26) = W4 at *
      generalize w3.heap.size = nr at *
      have y5 := x5.2
      obtain ⟨⟨q1, q2⟩, q3⟩ := id bb
      obtain ⟨⟨p1, p2⟩, p3⟩ := id bf
      go_wp2_with fail
      have hbv := (bb.set8 (.int .i64 0) (.int .i64 0) (.int .i64 0) (.int .i64 0) (.int .i64 0) (.slice none 0 0) (.int .i64 0) (.slice none 0 0)).other5 (n := w.heap.size + 1 + 1 + 1) (by omega) (.int .i64 0) (.int .i64 0) (.int .i64 0) (.int .i64 0) (.int .i64 0)
      have hfv := (bf.other8 (n := w.heap.size + 1 + 1) (by omega) (.int .i64 0) (.int .i64 0) (.int .i64 0) (.int .i64 0) (.int .i64 0) (.slice none 0 0) (.int .i64 0) (.slice none 0 0)).set5 (.int .i64 0) (.int .i64 0) (.int .i64 0) (.int .i64 0) (.int .i64 0)
      obtain ⟨⟨t1, t2⟩, t3⟩ := id hbv
      obtain ⟨⟨u1, u2⟩, u3⟩ := id hfv
      refine bodyPost_ret (v := .tuple #[.agg #[.int .i64 0, .int .i64 0, .int .i64 0, .int .i64 0, .int .i64 0, .slice none 0 0, .int .i64 0, .slice none 0 0], .agg #[.int .i64 0, .int .i64 0, .int .i64 0, .int .i64 0, .int .i64 0], .int .i64 1]) (by simp [results, Tryz.results13, go_sem, t2, u2]) rfl ⟨?_, bl_set5 (bl_set8 hB (n := w.heap.size + 1 + 1) (by omega) (.int .i64 0) (.int .i64 0) (.int .i64 0) (.int .i64 0) (.int .i64 0) (.slice none 0 0) (.int .i64 0) (.slice none 0 0)) (n := w.heap.size + 1 + 1 + 1) (by omega) (.int .i64 0) (.int .i64 0) (.int .i64 0) (.int .i64 0) (.int .i64 0)⟩
      exact ⟨none, 0, none, 0, rfl, own_nilB _ _⟩
    · obtain rfl := e1.symm
      obtain rfl := e2.symm
      obtain rfl := e3.symm
      obtain rfl := e4.symm
      obtain rfl := e5.symm
      obtain rfl := e6.symm
      obtain rfl := e7.symm
      obtain rfl := e8.symm
      obtain ⟨-, hd6, he16, -⟩ := book_parts hbk
      clear hfm hbk
      have H2 : Hid (∀ W, Below w.heap.size w W → Calls Tryz.prog 46 #[.agg #[.int .i64 ad, .int .i64 ln, .int .i64 ow, .int .i64 lo, .int .i64 hi, .slice da ds.length dc, .int .i64 nw, .slice ea es.length ec], .iface 133 (.int .i64 c)] W fun e w' => ∃ va vc ua uc, e = .returned (.tuple #[.agg #[.int .i64 ad, .int .i64 ln, .int .i64 ow, .int .i64 lo, .int .i64 hi, .slice va ds.length vc, .int .i64 nw, .slice ua es.length uc], .int .i64 c]) ∧ OwnB w' W.heap.size (.slice va ds.length vc) ds (.slice ua es.length uc) es ∧ Below W.heap.size W w') := fun W h => refused_more ad ln ow lo hi nw da ds.length dc ea es.length ec ds es c W (hg.out _ h) (HD.out _ h) (HE.out _ h) (by omega) (by omega) h1
      have hc : Hid (c ≠ 0) := hc
      clear hg HD HE
      go_wp2_with fail
      refine (H2.out _ hB).mono ?_
      rintro e w3 ⟨va, vc, ua, uc, rfl, hO, hb3⟩
      have hBl := bl_alloc (bl_refl w3) (.cells #[.int .i64 ad, .int .i64 ln, .int .i64 ow, .int .i64 lo, .int .i64 hi, .slice va ds.length vc, .int .i64 nw, .slice ua es.length uc] 26)
      have hb4 := bl_trans hb3 hBl
      have x5 := Box.new w3 #[.int .i64 ad, .int .i64 ln, .int .i64 ow, .int .i64 lo, .int .i64 hi, .slice va ds.length vc, .int .i64 nw, .slice ua es.length uc] 26
      replace hO := (hO.below hBl).mono (show w.heap.size + 4 ≤ _ by have := bf.1.1; omega)
      replace hB := bl_trans hB hb4
      replace bb := bb.below hb4
      replace bf := bf.below hb4
      clear hb3 hb4 hBl y1 x1 H2
      go_upto_region 4 with fail
      generalize w3.alloc (.cells #[.int .i64 ad, .int .i64 ln, .int .i64 ow, .int .i64 lo, .int .i64 hi, .slice va ds.length vc, .int .i64 nw, .slice ua es.length uc] 26) = W4 at *
      generalize w3.heap.size = nr at *
      have y5 := x5.2
      obtain ⟨⟨q1, q2⟩, q3⟩ := id bb
      obtain ⟨⟨p1, p2⟩, p3⟩ := id bf
      go_wp2_with fail
      have hbv := (bb.set8 (.int .i64 ad) (.int .i64 ln) (.int .i64 ow) (.int .i64 lo) (.int .i64 hi) (.slice va ds.length vc) (.int .i64 nw) (.slice ua es.length uc)).other5 (n := w.heap.size + 1 + 1 + 1) (by omega) (.int .i64 0) (.int .i64 0) (.int .i64 0) (.int .i64 0) (.int .i64 0)
      have hfv := (bf.other8 (n := w.heap.size + 1 + 1) (by omega) (.int .i64 ad) (.int .i64 ln) (.int .i64 ow) (.int .i64 lo) (.int .i64 hi) (.slice va ds.length vc) (.int .i64 nw) (.slice ua es.length uc)).set5 (.int .i64 0) (.int .i64 0) (.int .i64 0) (.int .i64 0) (.int .i64 0)
      obtain ⟨⟨t1, t2⟩, t3⟩ := id hbv
      obtain ⟨⟨u1, u2⟩, u3⟩ := id hfv
      refine bodyPost_ret (v := .tuple #[.agg #[.int .i64 ad, .int .i64 ln, .int .i64 ow, .int .i64 lo, .int .i64 hi, .slice va ds.length vc, .int .i64 nw, .slice ua es.length uc], .agg #[.int .i64 0, .int .i64 0, .int .i64 0, .int .i64 0, .int .i64 0], .int .i64 c]) (by simp [results, Tryz.results13, go_sem, t2, u2]) rfl ⟨?_, bl_set5 (bl_set8 hB (n := w.heap.size + 1 + 1) (by omega) (.int .i64 ad) (.int .i64 ln) (.int .i64 ow) (.int .i64 lo) (.int .i64 hi) (.slice va ds.length vc) (.int .i64 nw) (.slice ua es.length uc)) (n := w.heap.size + 1 + 1 + 1) (by omega) (.int .i64 0) (.int .i64 0) (.int .i64 0) (.int .i64 0) (.int .i64 0)⟩
      exact ⟨va, vc, ua, uc, rfl, ((hO.set8 (m := w.heap.size + 1 + 1) (by omega) (.int .i64 ad) (.int .i64 ln) (.int .i64 ow) (.int .i64 lo) (.int .i64 hi) (.slice va ds.length vc) (.int .i64 nw) (.slice ua es.length uc)).set5 (m := w.heap.size + 1 + 1 + 1) (by omega) (.int .i64 0) (.int .i64 0) (.int .i64 0) (.int .i64 0) (.int .i64 0)).mono (by omega)⟩
  · have hBl := bl_alloc (bl_refl w1) (.cells #[.int .i64 rad, .int .i64 rln, .int .i64 rw, .int .i64 rlo, .int .i64 rhi, .slice va rds.length vc, .int .i64 rnw, .slice ua res.length uc] 26)
    have xx := Box.new w1 #[.int .i64 rad, .int .i64 rln, .int .i64 rw, .int .i64 rlo, .int .i64 rhi, .slice va rds.length vc, .int .i64 rnw, .slice ua res.length uc] 26
    have hb2 := bl_trans hb1 hBl
    have hB := bl_trans hb0 hb2
    replace x1 := x1.below hb2
    replace x2 := x2.below hb2
    replace bb := bb.below hb2
    replace bf := bf.below hb2
    have hs1 := hb1.size
    simp only [World.size_alloc] at hs1
    replace hO := (hO.below hBl).mono (show w.heap.size + 1 + 1 + 1 + 1 ≤ _ by simp only [World.size_alloc]; omega)
    have hf : k = f1 ∧ ow = f2 ∧ b = f4 ∧ bp = f5 := by
      rcases hfm.out with ⟨-, e1, e2, -, e4, e5⟩ | ⟨h1, -⟩ | ⟨h1, -⟩
      · exact ⟨e1.symm, e2.symm, e4.symm, e5.symm⟩
      · exact absurd (hc.symm.trans h1) (by decide)
      · exact absurd hc h1
    obtain ⟨rfl, rfl, rfl, rfl⟩ := hf
    have hc : c = 0 := hc
    subst hc
    clear hfm hb1 hBl hb2 hb0 hg HD HE
    have run0 := run_neq_nil
    go_upto_region 5 with fail
    generalize w1.alloc (.cells #[.int .i64 rad, .int .i64 rln, .int .i64 rw, .int .i64 rlo, .int .i64 rhi, .slice va rds.length vc, .int .i64 rnw, .slice ua res.length uc] 26) = W2 at *
    generalize w1.heap.size = nx at *
    generalize hn0 : w.heap.size = n0 at x1 x2 bb bf hO hs1 ⊢
    generalize hn1 : n0 + 1 = n1 at x2 bb bf hO hs1 ⊢
    generalize hnb : n1 + 1 = nb at bb bf hO hs1 ⊢
    generalize hnf : nb + 1 = nf at bf hO hs1 ⊢
    generalize hbs : nf + 1 = base at hO hs1
    have HPb : ∀ (u u' : World), OwnB u base (.slice va rds.length vc) rds (.slice ua res.length uc) res → Below u.heap.size u u' → OwnB u' base (.slice va rds.length vc) rds (.slice ua res.length uc) res := fun u u' h hb => h.below hb
    refine region_midL [30, 31, 32, 33, 34, 100005, 100006, 6] (FOut ad ln ow lo hi nw da ds dc ea es ec k a ap b bp f3 rad rln rw rlo rhi rnw rds res va vc ua uc) (JOut w n0 n1 nx nb nf #[.int .i64 ad, .int .i64 ln, .int .i64 ow, .int .i64 lo, .int .i64 hi, .slice da ds.length dc, .int .i64 nw, .slice ea es.length ec] #[.int .i64 k, .int .i64 a, .int .i64 ap, .int .i64 b, .int .i64 bp] #[.int .i64 rad, .int .i64 rln, .int .i64 rw, .int .i64 rlo, .int .i64 rhi, .slice va rds.length vc, .int .i64 rnw, .slice ua res.length uc] #[.int .i64 k, .int .i64 ow, .int .i64 f3, .int .i64 b, .int .i64 bp] (fun w => OwnB w base (.slice va rds.length vc) rds (.slice ua res.length uc) res)) (fun _ _ => True) (by kernel_rfl) (by kernel_rfl) (by decide) ?_ ?_ ?_ ?_
    · intro i v w w' hR h
      rcases i with _ | _ | _ | _ | _ | _ | _ | _ | i
      · exact h
      · exact h
      · exact h
      · exact h
      · exact h
      · exact h
      · exact h
      · exact h
      · exact h
    · exact ⟨bl_drew hB, x1.below (bl_drew (bl_refl _)), x2.below (bl_drew (bl_refl _)), xx.below (bl_drew (bl_refl _)), hO.below (bl_drew (bl_refl _)), fun _ => bb.below (bl_drew (bl_refl _)), fun x => by simp at x, fun _ => bf.below (bl_drew (bl_refl _)), fun x => by simp at x⟩
    · refine all_lt_succ (all_lt_succ (all_lt_succ (all_lt_succ (all_lt_succ (all_lt_succ (all_lt_succ (all_lt_succ (all_lt_zero _) ?_) ?_) ?_) ?_) ?_) ?_) ?_) ?_
      · refine stepOkL_at _ rfl ?_
        intro listed vs w hls hv hli hcl hup hJ hdep K hK
        have hls : listed.size = 8 := hls
        obtain ⟨v0, v1, v2, v3, v4, v5, v6, v7, rfl⟩ := len8 hv
        clear hdep hv
        have hbx := hJ.2.2.2.1.2
        refine mid_val (.agg #[.int .i64 rad, .int .i64 rln, .int .i64 rw, .int .i64 rlo, .int .i64 rhi, .slice va rds.length vc, .int .i64 rnw, .slice ua res.length uc]) w (by kernel_rfl) ?_ (hK.out _ _ trivial (JOut.keep (i := 0) (by decide) (by decide) hJ) rfl)
        simp only [setAll, List.setIfInBounds_toArray, List.set_cons_zero, List.set_cons_succ, List.set_nil]
        go_simp
      · refine stepOkL_at _ rfl ?_
        intro listed vs w hls hv hli hcl hup hJ hdep K hK
        have hls : listed.size = 8 := hls
        obtain ⟨v0, v1, v2, v3, v4, v5, v6, v7, rfl⟩ := len8 hv
        clear hdep hv
        have hbx := hJ.2.1.2
        refine mid_val (.agg #[.int .i64 ad, .int .i64 ln, .int .i64 ow, .int .i64 lo, .int .i64 hi, .slice da ds.length dc, .int .i64 nw, .slice ea es.length ec]) w (by kernel_rfl) ?_ (hK.out _ _ trivial (JOut.keep (i := 1) (by decide) (by decide) hJ) rfl)
        simp only [setAll, List.setIfInBounds_toArray, List.set_cons_zero, List.set_cons_succ, List.set_nil]
        go_simp
      · refine stepOkL_at _ rfl ?_
        intro listed vs w hls hv hli hcl hup hJ hdep K hK
        have hls : listed.size = 8 := hls
        obtain ⟨v0, v1, v2, v3, v4, v5, v6, v7, rfl⟩ := len8 hv
        clear hdep hv
        have hbx := hJ.2.2.1.2
        refine mid_val (.agg #[.int .i64 k, .int .i64 a, .int .i64 ap, .int .i64 b, .int .i64 bp]) w (by kernel_rfl) ?_ (hK.out _ _ trivial (JOut.keep (i := 2) (by decide) (by decide) hJ) rfl)
        simp only [setAll, List.setIfInBounds_toArray, List.set_cons_zero, List.set_cons_succ, List.set_nil]
        go_simp
      · refine stepOkL_at _ rfl ?_
        intro listed vs w hls hv hli hcl hup hJ hdep K hK
        have hls : listed.size = 8 := hls
        obtain ⟨v0, v1, v2, v3, v4, v5, v6, v7, rfl⟩ := len8 hv
        clear hdep hv
        exact mid_val _ w (by kernel_rfl) (by kernel_rfl) (hK.out _ _ trivial (JOut.keep (i := 3) (by decide) (by decide) hJ) rfl)
      · refine stepOkL_at _ rfl ?_
        intro listed vs w hls hv hli hcl hup hJ hdep K hK
        have hls : listed.size = 8 := hls
        obtain ⟨v0, v1, v2, v3, v4, v5, v6, v7, rfl⟩ := len8 hv
        have f1 : v1 = .agg #[.int .i64 ad, .int .i64 ln, .int .i64 ow, .int .i64 lo, .int .i64 hi, .slice da ds.length dc, .int .i64 nw, .slice ea es.length ec] := (by have h := dep hdep 1 (by kernel_rfl); exact h)
        have f2 : v2 = .agg #[.int .i64 k, .int .i64 a, .int .i64 ap, .int .i64 b, .int .i64 bp] := (by have h := dep hdep 2 (by kernel_rfl); exact h)
        have f3_ : v3 = .int .i64 f3 := (by have h := dep hdep 3 (by kernel_rfl); exact h)
        clear hdep hv
        subst f1
        subst f2
        subst f3_
        refine mid_call 49 (by kernel_rfl) (natOutside_ret ad ln ow lo hi nw da ds.length dc ea es.length ec k a ap b bp f3 w) (by kernel_rfl) ?_
        rintro e w' ⟨rfl, hb⟩
        exact ⟨_, rfl, hK.out _ _ trivial (JOut.below hJ hb (by decide) (by decide) HPb) rfl⟩
      · refine stepOkL_at _ rfl ?_
        intro listed vs w hls hv hli hcl hup hJ hdep K hK
        have hls : listed.size = 8 := hls
        obtain ⟨v0, v1, v2, v3, v4, v5, v6, v7, rfl⟩ := len8 hv
        have f0 : v0 = .agg #[.int .i64 rad, .int .i64 rln, .int .i64 rw, .int .i64 rlo, .int .i64 rhi, .slice va rds.length vc, .int .i64 rnw, .slice ua res.length uc] := (by have h := dep hdep 0 (by kernel_rfl); exact h)
        have f4 : v4 = .agg #[.int .i64 k, .int .i64 ow, .int .i64 f3, .int .i64 b, .int .i64 bp] := (by have h := dep hdep 4 (by kernel_rfl); exact h)
        clear hdep hv
        subst f0
        have hbz := hJ.2.2.2.2.2.1 (notUp hli)
        obtain ⟨⟨q1, q2⟩, q3⟩ := id hbz
        refine mid_skip (World.setCell (World.setCell (World.setCell (World.setCell (World.setCell (World.setCell (World.setCell (World.setCell w ⟨nb, 0, none⟩ (.int .i64 rad)) ⟨nb, 1, none⟩ (.int .i64 rln)) ⟨nb, 2, none⟩ (.int .i64 rw)) ⟨nb, 3, none⟩ (.int .i64 rlo)) ⟨nb, 4, none⟩ (.int .i64 rhi)) ⟨nb, 5, none⟩ (.slice va rds.length vc)) ⟨nb, 6, none⟩ (.int .i64 rnw)) ⟨nb, 7, none⟩ (.slice ua res.length uc)) (by kernel_rfl) ?_ (hK.out undef _ trivial (JOut.stored5 hJ (by omega) (.int .i64 rad) (.int .i64 rln) (.int .i64 rw) (.int .i64 rlo) (.int .i64 rhi) (.slice va rds.length vc) (.int .i64 rnw) (.slice ua res.length uc) (hbz.set8 (.int .i64 rad) (.int .i64 rln) (.int .i64 rw) (.int .i64 rlo) (.int .i64 rhi) (.slice va rds.length vc) (.int .i64 rnw) (.slice ua res.length uc)) (OwnB.set8 hJ.2.2.2.2.1 (m := nb) (by omega) (.int .i64 rad) (.int .i64 rln) (.int .i64 rw) (.int .i64 rlo) (.int .i64 rhi) (.slice va rds.length vc) (.int .i64 rnw) (.slice ua res.length uc)) (by omega) (by omega) (by omega) (by omega) (by omega)) trivial)
        simp only [setAll, List.setIfInBounds_toArray, List.set_cons_zero, List.set_cons_succ, List.set_nil]
        go_simp
      · refine stepOkL_at _ rfl ?_
        intro listed vs w hls hv hli hcl hup hJ hdep K hK
        have hls : listed.size = 8 := hls
        obtain ⟨v0, v1, v2, v3, v4, v5, v6, v7, rfl⟩ := len8 hv
        have f0 : v0 = .agg #[.int .i64 rad, .int .i64 rln, .int .i64 rw, .int .i64 rlo, .int .i64 rhi, .slice va rds.length vc, .int .i64 rnw, .slice ua res.length uc] := (by have h := dep hdep 0 (by kernel_rfl); exact h)
        have f1 : v1 = .agg #[.int .i64 ad, .int .i64 ln, .int .i64 ow, .int .i64 lo, .int .i64 hi, .slice da ds.length dc, .int .i64 nw, .slice ea es.length ec] := (by have h := dep hdep 1 (by kernel_rfl); exact h)
        have f2 : v2 = .agg #[.int .i64 k, .int .i64 a, .int .i64 ap, .int .i64 b, .int .i64 bp] := (by have h := dep hdep 2 (by kernel_rfl); exact h)
        have f3_ : v3 = .int .i64 f3 := (by have h := dep hdep 3 (by kernel_rfl); exact h)
        have f4 : v4 = .agg #[.int .i64 k, .int .i64 ow, .int .i64 f3, .int .i64 b, .int .i64 bp] := (by have h := dep hdep 4 (by kernel_rfl); exact h)
        clear hdep hv
        subst f4
        have hbz := hJ.2.2.2.2.2.2.2.1 (notUp hli)
        obtain ⟨⟨q1, q2⟩, q3⟩ := id hbz
        refine mid_skip (World.setCell (World.setCell (World.setCell (World.setCell (World.setCell w ⟨nf, 0, none⟩ (.int .i64 k)) ⟨nf, 1, none⟩ (.int .i64 ow)) ⟨nf, 2, none⟩ (.int .i64 f3)) ⟨nf, 3, none⟩ (.int .i64 b)) ⟨nf, 4, none⟩ (.int .i64 bp)) (by kernel_rfl) ?_ (hK.out undef _ trivial (JOut.stored6 hJ (by omega) (.int .i64 k) (.int .i64 ow) (.int .i64 f3) (.int .i64 b) (.int .i64 bp) (hbz.set5 (.int .i64 k) (.int .i64 ow) (.int .i64 f3) (.int .i64 b) (.int .i64 bp)) (OwnB.set5 hJ.2.2.2.2.1 (m := nf) (by omega) (.int .i64 k) (.int .i64 ow) (.int .i64 f3) (.int .i64 b) (.int .i64 bp)) (by omega) (by omega) (by omega) (by omega) (by omega)) trivial)
        simp only [setAll, List.setIfInBounds_toArray, List.set_cons_zero, List.set_cons_succ, List.set_nil]
        go_simp
      · refine stepOkL_at _ rfl ?_
        intro listed vs w hls hv hli hcl hup hJ hdep K hK
        have hls : listed.size = 8 := hls
        obtain ⟨v0, v1, v2, v3, v4, v5, v6, v7, rfl⟩ := len8 hv
        have f0 : v0 = .agg #[.int .i64 rad, .int .i64 rln, .int .i64 rw, .int .i64 rlo, .int .i64 rhi, .slice va rds.length vc, .int .i64 rnw, .slice ua res.length uc] := (by have h := dep hdep 0 (by kernel_rfl); exact h)
        have f1 : v1 = .agg #[.int .i64 ad, .int .i64 ln, .int .i64 ow, .int .i64 lo, .int .i64 hi, .slice da ds.length dc, .int .i64 nw, .slice ea es.length ec] := (by have h := dep hdep 1 (by kernel_rfl); exact h)
        have f2 : v2 = .agg #[.int .i64 k, .int .i64 a, .int .i64 ap, .int .i64 b, .int .i64 bp] := (by have h := dep hdep 2 (by kernel_rfl); exact h)
        have f3_ : v3 = .int .i64 f3 := (by have h := dep hdep 3 (by kernel_rfl); exact h)
        have f4 : v4 = .agg #[.int .i64 k, .int .i64 ow, .int .i64 f3, .int .i64 b, .int .i64 bp] := (by have h := dep hdep 4 (by kernel_rfl); exact h)
        clear hdep hv
        exact mid_val _ w (by kernel_rfl) (by kernel_rfl) (hK.out _ _ trivial (JOut.keep (i := 7) (by decide) (by decide) hJ) rfl)
    · intro listed vs w hls hal hv hJ hall
      obtain ⟨v0, v1, v2, v3, v4, v5, v6, v7, rfl⟩ := len8 hv
      have f0 : v0 = .agg #[.int .i64 rad, .int .i64 rln, .int .i64 rw, .int .i64 rlo, .int .i64 rhi, .slice va rds.length vc, .int .i64 rnw, .slice ua res.length uc] := (by have h := hall 0 (by decide); exact h)
      have f1 : v1 = .agg #[.int .i64 ad, .int .i64 ln, .int .i64 ow, .int .i64 lo, .int .i64 hi, .slice da ds.length dc, .int .i64 nw, .slice ea es.length ec] := (by have h := hall 1 (by decide); exact h)
      have f2 : v2 = .agg #[.int .i64 k, .int .i64 a, .int .i64 ap, .int .i64 b, .int .i64 bp] := (by have h := hall 2 (by decide); exact h)
      have f3_ : v3 = .int .i64 f3 := (by have h := hall 3 (by decide); exact h)
      have f4 : v4 = .agg #[.int .i64 k, .int .i64 ow, .int .i64 f3, .int .i64 b, .int .i64 bp] := (by have h := hall 4 (by decide); exact h)
      have f7 : v7 = .int .i64 0 := (by have h := hall 7 (by decide); exact h)
      clear hall hv
      subst hn0
      obtain ⟨hB, -, -, -, hO, -, h5, -, h6⟩ := hJ
      have hbv := h5 (hal 5 (by decide))
      have hfv := h6 (hal 6 (by decide))
      subst f7
      clear f0 f1 f2 f3_ f4 h5 h6
      simp only [setAll, List.setIfInBounds_toArray, List.set_cons_zero, List.set_cons_succ, List.set_nil]
      go_wp2_with fail
      obtain ⟨⟨t1, t2⟩, t3⟩ := id hbv
      obtain ⟨⟨u1, u2⟩, u3⟩ := id hfv
      exact bodyPost_ret (v := .tuple #[.agg #[.int .i64 rad, .int .i64 rln, .int .i64 rw, .int .i64 rlo, .int .i64 rhi, .slice va rds.length vc, .int .i64 rnw, .slice ua res.length uc], .agg #[.int .i64 k, .int .i64 ow, .int .i64 f3, .int .i64 b, .int .i64 bp], .int .i64 0]) (by simp [results, Tryz.results13, go_sem, t2, u2]) rfl ⟨⟨va, vc, ua, uc, rfl, hO.mono (by omega)⟩, hB⟩
end Go.Proofs.YtcgjpmhjijmplaaGreatDoor
