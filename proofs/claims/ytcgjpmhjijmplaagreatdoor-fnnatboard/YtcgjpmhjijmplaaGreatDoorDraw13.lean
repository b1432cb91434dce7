/- Draws: the specification's l5Book, walked. -/
import Derived.Test.YtcgjpmhjijmplaaGreatDoorDraw12
namespace Go.Proofs.YtcgjpmhjijmplaaGreatDoor
open Go.ChangeShapes Go.WideShapes Go.ChangeAt Go.RowKit Go.Maps

theorem DoorsL.out {w : World} {q x : Nat} {da : Option Addr} {ds : List Dr} (hh : DoorsL w q da ds.length ds) (hx : x < q) (a b c d e f g i : Value) : DoorsL (World.setCell (World.setCell (World.setCell (World.setCell (World.setCell (World.setCell (World.setCell (World.setCell w ⟨x, 0, none⟩ (a)) ⟨x, 1, none⟩ (b)) ⟨x, 2, none⟩ (c)) ⟨x, 3, none⟩ (d)) ⟨x, 4, none⟩ (e)) ⟨x, 5, none⟩ (f)) ⟨x, 6, none⟩ (g)) ⟨x, 7, none⟩ (i)) x da ds.length ds :=
  ⟨rfl, hh.2.imp id fun ⟨y, o, h1, h2, h3, h4⟩ => ⟨y, o, h1, by omega, by simpa [World.setCell] using h3, dr_other8 h4 (by omega) a b c d e f g i⟩⟩
theorem EntriesL.out {w : World} {q x : Nat} {da : Option Addr} {ds : List En} (hh : EntriesL w q da ds.length ds) (hx : x < q) (a b c d e f g i : Value) : EntriesL (World.setCell (World.setCell (World.setCell (World.setCell (World.setCell (World.setCell (World.setCell (World.setCell w ⟨x, 0, none⟩ (a)) ⟨x, 1, none⟩ (b)) ⟨x, 2, none⟩ (c)) ⟨x, 3, none⟩ (d)) ⟨x, 4, none⟩ (e)) ⟨x, 5, none⟩ (f)) ⟨x, 6, none⟩ (g)) ⟨x, 7, none⟩ (i)) x da ds.length ds :=
  ⟨rfl, hh.2.imp id fun ⟨y, o, h1, h2, h3, h4⟩ => ⟨y, o, h1, by omega, by simpa [World.setCell] using h3, en_other8 h4 (by omega) a b c d e f g i⟩⟩
/-- A book in block nb, its lists, another block. -/
def MemB (w : World) (q nb xb : Nat) (C : Array Value) (va ua : Option Addr) (ds : List Dr) (es : List En) (Z : Array Value) : Prop := Box w nb C ∧ DoorsX w q nb xb va ds ∧ EntriesX w q nb xb ua es ∧ Bx w xb Z
theorem MemB.apart {R : Nat} {w w' : World} {q nb xb : Nat} {C Z : Array Value} {va ua : Option Addr} {ds : List Dr} {es : List En} (h : MemB w q nb xb C va ua ds es Z) (ha : Apart R w w') (hR : R < q) (h1 : nb ≠ R) (h2 : xb ≠ R) (_ : True ∨ True) : MemB w' q nb xb C va ua ds es Z := ⟨h.1.apart ha h1, h.2.1.apart ha hR, h.2.2.1.apart ha hR, h.2.2.2.apart ha h2⟩
def FBook9 (R q : Nat) (B : Bk) (va : Option Addr) (vc : Nat) (ua : Option Addr) (uc : Nat) : Nat → Value → World → Prop
  | 0, v, _ => v = .pointer (some ⟨R, 0, none⟩)
  | 1, v, _ => v = .agg #[.int .i64 B.ad, .int .i64 B.ln, .int .i64 B.ow, .int .i64 B.lo, .int .i64 B.hi, .slice va B.ds.length vc, .int .i64 B.nw, .slice ua B.es.length uc]
  | 2, v, _ => v = .pointer (some ⟨R, 0, none⟩)
  | 3, v, _ => ∃ r : Int, v = .int .i64 r ∧ 0 ≤ r ∧ r < 14
  | 4, v, w => ∃ (B2 : Bk) (pa : Option Addr) (pc : Nat) (ra : Option Addr) (rc : Nat), v = .agg #[.int .i64 B2.ad, .int .i64 B2.ln, .int .i64 B2.ow, .int .i64 B2.lo, .int .i64 B2.hi, .slice pa B2.ds.length pc, .int .i64 B2.nw, .slice ra B2.es.length rc] ∧ DoorsL w q pa B2.ds.length B2.ds ∧ EntriesL w q ra B2.es.length B2.es ∧ B2.ds.length ≤ 100 ∧ B2.es.length ≤ 100 ∧ -999999 ≤ B2.ad ∧ B2.ad ≤ 999999
  | _, _, _ => True

set_option maxRecDepth 20000 in
set_option maxHeartbeats 4000000 in
theorem book_ret (R : Nat) (n : Int) (w0 : World) (h : Rb w0 R n) (hn : n ≤ 600000000) :
    Calls Tryz.prog 120 #[.pointer (some ⟨R, 0, none⟩)] w0 fun e w' => DrawnB w' w0.heap.size e ∧ Apart R w0 w' ∧ Rb w' R (n + 1000000) := by
  have hR := h.lt
  have hBl := bl_alloc (bl_refl w0) (.cells #[.int .i64 0, .int .i64 0, .int .i64 0, .int .i64 0, .int .i64 0, .slice none 0 0, .int .i64 0, .slice none 0 0] 26)
  have HC : Apart R w0 _ := ap_of_bl hBl
  have HR := h.below hBl
  have bx := Bx.new w0 #[.int .i64 0, .int .i64 0, .int .i64 0, .int .i64 0, .int .i64 0, .slice none 0 0, .int .i64 0, .slice none 0 0] 26
  have H1 : Hid (Calls Tryz.prog _ _ _ _) := frame_ret R n _ HR (by omega)
  clear hBl h
  go_enter Tryz.func120, Tryz.ntmps120
  go_wp2_with fail
  refine H1.out.mono ?_
  rintro e w1 ⟨⟨ad, ln, hi, da, dn, dc, ds, rfl, hfi, hbk, hDS, hdn⟩, ha, hr⟩
  have hs1 := ha.size
  simp only [World.size_alloc] at hDS hs1
  replace bx := bx.apart ha (by omega)
  replace HC := ap_trans HC ha
  have hbb : -999999 ≤ ad ∧ ad ≤ 999999 := by rcases hfi.1 with ⟨rfl, _⟩ | ⟨rfl, _⟩ | ⟨rfl, _⟩ <;> omega
  clear H1 ha hfi hbk HR
  have bb := Bx.new w1 #[.int .i64 ad, .int .i64 ln, .int .i64 51201, .int .i64 40, .int .i64 hi, .slice da dn dc, .int .i64 0, .slice none 0 0] 26
  have hBl := bl_alloc (bl_refl w1) (.cells #[.int .i64 ad, .int .i64 ln, .int .i64 51201, .int .i64 40, .int .i64 hi, .slice da dn dc, .int .i64 0, .slice none 0 0] 26)
  have hDX : DoorsX w1 (w0.heap.size + 1) w1.heap.size w0.heap.size da ds := ⟨by have := hDS.1; omega, by
    rcases hDS.2 with ⟨_, _, h⟩ | ⟨g, h1, h2, h3, h4, h5⟩
    · exact Or.inl h
    · exact Or.inr ⟨g, 0, h1, h2, ⟨by omega, by omega⟩, h3, h5⟩⟩
  replace hDX := hDX.apart (ap_of_bl (R := R) hBl) (by omega)
  replace bx := bx.below hBl
  replace HC := ap_trans HC (ap_of_bl hBl)
  replace hr := hr.below hBl
  have hdn2 := hDS.1
  subst hdn2
  go_upto_region 2 with fail
  have hP : Play (w1.alloc (.cells #[.int .i64 ad, .int .i64 ln, .int .i64 51201, .int .i64 40, .int .i64 hi, .slice da ds.length dc, .int .i64 0, .slice none 0 0] 26)) (w0.heap.size + 1) w1.heap.size w0.heap.size := Play.mk ⟨ad, ln, 51201, 40, hi, 0, ds, []⟩ bb hDX ⟨by simp, Or.inl rfl⟩ hbb.1 hbb.2
  clear bb hDX hDS hBl
  generalize w1.alloc (.cells #[.int .i64 ad, .int .i64 ln, .int .i64 51201, .int .i64 40, .int .i64 hi, .slice da ds.length dc, .int .i64 0, .slice none 0 0] 26) = W2 at *
  have hs2 := hP.lt
  have hsz := HC.size
  obtain ⟨q, hq⟩ : ∃ q, q = w0.heap.size + 1 := ⟨_, rfl⟩
  rw [← hq] at hP
  have hRq : R < q := by omega
  generalize w1.heap.size = nb at *
  go_wp2_with fail
  refine (pick_rb R _ 12 _ hr (by omega) (by omega) (by omega)).mono ?_
  rintro e w3 ⟨⟨r, rfl, r0, r1⟩, ha, hr⟩
  replace hP := hP.apart ha hRq (by omega)
  replace bx := bx.apart ha (by omega)
  replace HC := ap_trans HC ha
  clear ha hs2
  have hs3 := hP.lt
  by_cases hr0 : r = 0
  · have hqq : (r == 0) = true := by simpa using hr0
    clear hr0
    obtain ⟨B, va, vc, ua, uc, bb, hDX, hEX, ha1, ha2⟩ := hP
    have y1 := bb.1.2
    have H2 : Hid (Calls Tryz.prog _ _ _ _) := l2Copy_ret B.ad B.ln B.ow B.lo B.hi B.nw va B.ds.length vc ua B.es.length uc B.ds B.es w3 hDX.L.at hEX.L.at (by have := hDX.1; omega) (by have := hEX.1; omega)
    go_wp2_with fail
    refine H2.out.mono ?_
    rintro e w4 ⟨pa, pc, ra, rc, rfl, hOw, hb⟩
    have hW := bb.1.1
    have hX := bx.1.1
    have hD2 : DoorsX w4 q nb w0.heap.size pa B.ds := doorsX_own hOw.1 hDX.1 (by omega) (by omega) (by omega)
    have hE2 : EntriesX w4 q nb w0.heap.size ra B.es := entriesX_own hOw.2.1 hEX.1 (by omega) (by omega) (by omega)
    replace bb := bb.below hb
    replace bx := bx.below hb
    replace HC := ap_trans HC (ap_of_bl hb)
    replace hr := hr.below hb
    clear y1 H2 hb hOw hDX hEX
    obtain ⟨⟨p1, p2⟩, p3⟩ := id bb
    go_upto_region 4 with fail
    have hP : Play _ q nb w0.heap.size := Play.mk B (bb.set8 (.int .i64 B.ad) (.int .i64 B.ln) (.int .i64 B.ow) (.int .i64 B.lo) (.int .i64 B.hi) (.slice pa B.ds.length pc) (.int .i64 B.nw) (.slice ra B.es.length rc)) (doorsX_set8 hD2 (.int .i64 B.ad) (.int .i64 B.ln) (.int .i64 B.ow) (.int .i64 B.lo) (.int .i64 B.hi) (.slice pa B.ds.length pc) (.int .i64 B.nw) (.slice ra B.es.length rc)) (entriesX_set8 hE2 (.int .i64 B.ad) (.int .i64 B.ln) (.int .i64 B.ow) (.int .i64 B.lo) (.int .i64 B.hi) (.slice pa B.ds.length pc) (.int .i64 B.nw) (.slice ra B.es.length rc)) ha1 ha2
    replace bx := bx.other8 (n := nb) (by omega) (.int .i64 B.ad) (.int .i64 B.ln) (.int .i64 B.ow) (.int .i64 B.lo) (.int .i64 B.hi) (.slice pa B.ds.length pc) (.int .i64 B.nw) (.slice ra B.es.length rc)
    replace HC := ap_set8x HC (n := nb) (by omega) (.int .i64 B.ad) (.int .i64 B.ln) (.int .i64 B.ow) (.int .i64 B.lo) (.int .i64 B.hi) (.slice pa B.ds.length pc) (.int .i64 B.nw) (.slice ra B.es.length rc)
    replace hr := rb_set8 hr (n := nb) (by omega) (.int .i64 B.ad) (.int .i64 B.ln) (.int .i64 B.ow) (.int .i64 B.lo) (.int .i64 B.hi) (.slice pa B.ds.length pc) (.int .i64 B.nw) (.slice ra B.es.length rc)
    clear p1 p2 p3 bb hD2 hE2
    generalize (World.setCell (World.setCell (World.setCell (World.setCell (World.setCell (World.setCell (World.setCell (World.setCell w4 ⟨nb, 0, none⟩ (.int .i64 B.ad)) ⟨nb, 1, none⟩ (.int .i64 B.ln)) ⟨nb, 2, none⟩ (.int .i64 B.ow)) ⟨nb, 3, none⟩ (.int .i64 B.lo)) ⟨nb, 4, none⟩ (.int .i64 B.hi)) ⟨nb, 5, none⟩ (.slice pa B.ds.length pc)) ⟨nb, 6, none⟩ (.int .i64 B.nw)) ⟨nb, 7, none⟩ (.slice ra B.es.length rc)) = W5 at *
    go_wp2_with fail
    go_loopg [4] 17 (fun g v wr => ∃ i : Nat, g = 17 - i ∧ i ≤ 16 ∧ v = .int .i64 i ∧ Play wr q nb w0.heap.size ∧ Bx wr w0.heap.size #[.int .i64 0, .int .i64 0, .int .i64 0, .int .i64 0, .int .i64 0, .slice none 0 0, .int .i64 0, .slice none 0 0] ∧ Apart R w0 wr ∧ Rb wr R (n + 210 + i))
    case atStart => exact ⟨0, by omega, by omega, rfl, hP, bx, HC, hr.le (by omega)⟩
    case round =>
      clear hP bx HC hr
      obtain ⟨i, hgi, hi16, rfl, hP, bx, HC, HRc⟩ := hrel
      have hlp := hP.lt
      go_wp2_with fail
      refine (pick_rb R _ 2 _ HRc (by omega) (by omega) (by omega)).mono ?_
      rintro e w6 ⟨⟨r2, rfl, s0, s1⟩, ha, hr⟩
      replace hP := hP.apart ha hRq (by omega)
      replace bx := bx.apart ha (by omega)
      replace HC := ap_trans HC ha
      clear ha HRc
      obtain ⟨B, va, vc, ua, uc, bb, hDX, hEX, ha1, ha2⟩ := hP
      by_cases hlt : (i : Int) < 16 - r2
      · have y1 := bb.1.2
        have H2 : Hid (Calls Tryz.prog _ _ _ _) := specOut_ret B.ad B.ln B.ow B.lo B.hi B.nw va B.ds.length vc ua B.es.length uc 1 B.ad 7 (53248 + i) 80 B.ds B.es w6 hDX.L.at hEX.L.at
        obtain ⟨⟨ob1, ob2⟩, ob3, ob4⟩ := out_bounds B.ad B.ln B.ow B.lo B.hi B.nw B.ds B.es 1 B.ad 7 (53248 + i) 80 ha1 ha2 hDX.1 hEX.1
        generalize outM ⟨B.ad, B.ln, B.ow, B.lo, B.hi, B.nw, B.ds, B.es⟩ 1 B.ad 7 (53248 + i) 80 = O at *
        obtain ⟨B2, F2, c2⟩ := O
        simp only at ob1 ob2 ob3 ob4 H2
        go_wp2_with fail
        refine H2.out.mono ?_
        rintro e w7 ⟨⟨pa, pc, ra, rc, rfl, hOw⟩, hb⟩
        have hW := bb.1.1
        have hX := bx.1.1
        have hszw := HC.size
        have hD2 : DoorsX w7 q nb w0.heap.size pa B2.ds := doorsX_own hOw.1 ob3 (by omega) (by omega) (by omega)
        have hE2 : EntriesX w7 q nb w0.heap.size ra B2.es := entriesX_own hOw.2.1 ob4 (by omega) (by omega) (by omega)
        replace bb := bb.below hb
        replace bx := bx.below hb
        replace HC := ap_trans HC (ap_of_bl hb)
        replace hr := hr.below hb
        clear y1 H2 hb hOw hDX hEX
        obtain ⟨⟨p1, p2⟩, p3⟩ := id bb
        go_wp2_with fail
        go_roundg (17 - (i + 1))
        case measure => omega
        case rel => exact ⟨i + 1, rfl, by omega, by go_num, Play.mk B2 (bb.set8 (.int .i64 B2.ad) (.int .i64 B2.ln) (.int .i64 B2.ow) (.int .i64 B2.lo) (.int .i64 B2.hi) (.slice pa B2.ds.length pc) (.int .i64 B2.nw) (.slice ra B2.es.length rc)) (doorsX_set8 hD2 (.int .i64 B2.ad) (.int .i64 B2.ln) (.int .i64 B2.ow) (.int .i64 B2.lo) (.int .i64 B2.hi) (.slice pa B2.ds.length pc) (.int .i64 B2.nw) (.slice ra B2.es.length rc)) (entriesX_set8 hE2 (.int .i64 B2.ad) (.int .i64 B2.ln) (.int .i64 B2.ow) (.int .i64 B2.lo) (.int .i64 B2.hi) (.slice pa B2.ds.length pc) (.int .i64 B2.nw) (.slice ra B2.es.length rc)) ob1 ob2, bx.other8 (n := nb) (by omega) (.int .i64 B2.ad) (.int .i64 B2.ln) (.int .i64 B2.ow) (.int .i64 B2.lo) (.int .i64 B2.hi) (.slice pa B2.ds.length pc) (.int .i64 B2.nw) (.slice ra B2.es.length rc), ap_set8x HC (n := nb) (by omega) (.int .i64 B2.ad) (.int .i64 B2.ln) (.int .i64 B2.ow) (.int .i64 B2.lo) (.int .i64 B2.hi) (.slice pa B2.ds.length pc) (.int .i64 B2.nw) (.slice ra B2.es.length rc), (rb_set8 hr (n := nb) (by omega) (.int .i64 B2.ad) (.int .i64 B2.ln) (.int .i64 B2.ow) (.int .i64 B2.lo) (.int .i64 B2.hi) (.slice pa B2.ds.length pc) (.int .i64 B2.nw) (.slice ra B2.es.length rc)).le (by omega)⟩
      · have y1 := bb.1.2
        obtain ⟨⟨q1, q2⟩, q3⟩ := id bx
        go_wp2_with fail
        have hbv := bx.set8 (.int .i64 B.ad) (.int .i64 B.ln) (.int .i64 B.ow) (.int .i64 B.lo) (.int .i64 B.hi) (.slice va B.ds.length vc) (.int .i64 B.nw) (.slice ua B.es.length uc)
        obtain ⟨⟨t1, t2⟩, t3⟩ := id hbv
        exact bodyPost_ret (v := .agg #[.int .i64 B.ad, .int .i64 B.ln, .int .i64 B.ow, .int .i64 B.lo, .int .i64 B.hi, .slice va B.ds.length vc, .int .i64 B.nw, .slice ua B.es.length uc]) (by simp [results, Tryz.results120, go_sem, t2]) rfl ⟨⟨B, va, vc, ua, uc, rfl, hDX.L.out (by omega) (.int .i64 B.ad) (.int .i64 B.ln) (.int .i64 B.ow) (.int .i64 B.lo) (.int .i64 B.hi) (.slice va B.ds.length vc) (.int .i64 B.nw) (.slice ua B.es.length uc), ⟨hEX.L.out (by omega) (.int .i64 B.ad) (.int .i64 B.ln) (.int .i64 B.ow) (.int .i64 B.lo) (.int .i64 B.hi) (.slice va B.ds.length vc) (.int .i64 B.nw) (.slice ua B.es.length uc), hDX.1, hEX.1, ha1, ha2⟩⟩, ap_set8x HC (n := w0.heap.size) (by omega) (.int .i64 B.ad) (.int .i64 B.ln) (.int .i64 B.ow) (.int .i64 B.lo) (.int .i64 B.hi) (.slice va B.ds.length vc) (.int .i64 B.nw) (.slice ua B.es.length uc), (rb_set8 hr (n := w0.heap.size) (by omega) (.int .i64 B.ad) (.int .i64 B.ln) (.int .i64 B.ow) (.int .i64 B.lo) (.int .i64 B.hi) (.slice va B.ds.length vc) (.int .i64 B.nw) (.slice ua B.es.length uc)).le (by omega)⟩
  · have hqq : (r == 0) = false := by simpa using hr0
    clear hr0
    obtain ⟨B, va, vc, ua, uc, bb, hDX, hEX, ha1, ha2⟩ := hP
    go_upto_region 9 with fail
    have hX := bx.1.1
    have hszw := HC.size
    refine region_last [31, 32, 33, 34, 35, 100005] 5 (FBook9 R q B va vc ua uc) (fun c w' => Apart R w3 w' ∧ Rb w' R (n + 201 + 100001 * c) ∧ MemB w' q nb w0.heap.size #[.int .i64 B.ad, .int .i64 B.ln, .int .i64 B.ow, .int .i64 B.lo, .int .i64 B.hi, .slice va B.ds.length vc, .int .i64 B.nw, .slice ua B.es.length uc] va ua B.ds B.es #[.int .i64 0, .int .i64 0, .int .i64 0, .int .i64 0, .int .i64 0, .slice none 0 0, .int .i64 0, .slice none 0 0]) (Apart R) (by kernel_rfl) (by kernel_rfl) (by decide) (by kernel_rfl) (by kernel_rfl) _ rfl ?_ ?_ ?_ ?_
    · intro i v w w' hR h
      rcases i with _ | _ | _ | _ | _ | _ | i
      · exact h
      · exact h
      · exact h
      · exact h
      · obtain ⟨B2, pa, pc, ra, rc, h1, h2, h3, h4⟩ := h
        exact ⟨B2, pa, pc, ra, rc, h1, h2.apart hR hRq, h3.apart hR hRq, h4⟩
      · exact h
      · exact h
    · exact ⟨ap_of_bl (bl_drew (bl_refl _)), (hr.below (bl_drew (bl_refl _))).le (by omega), bb.1.below (bl_drew (bl_refl _)), hDX.apart (ap_of_bl (bl_drew (bl_refl _))) hRq, hEX.apart (ap_of_bl (bl_drew (bl_refl _))) hRq, bx.below (bl_drew (bl_refl _))⟩
    · refine all_lt_succ (all_lt_succ (all_lt_succ (all_lt_succ (all_lt_succ (all_lt_zero _) ?_) ?_) ?_) ?_) ?_
      · refine stepOk_at _ rfl ?_
        intro vs w c hv hc hJ hdep K hK
        have hc : c < 6 := hc
        obtain ⟨v0, v1, v2, v3, v4, v5, rfl⟩ := len6 hv
        clear hdep hv
        exact mid_val (.pointer (some ⟨R, 0, none⟩)) w (by kernel_rfl) (by kernel_rfl) (hK.out _ _ (ap_refl _ _) ⟨hJ.1, hJ.2.1.le (by omega), hJ.2.2⟩ rfl)
      · refine stepOk_at _ rfl ?_
        intro vs w c hv hc hJ hdep K hK
        have hc : c < 6 := hc
        obtain ⟨v0, v1, v2, v3, v4, v5, rfl⟩ := len6 hv
        clear hdep hv
        have hbx := hJ.2.2.1.2
        refine mid_val (.agg #[.int .i64 B.ad, .int .i64 B.ln, .int .i64 B.ow, .int .i64 B.lo, .int .i64 B.hi, .slice va B.ds.length vc, .int .i64 B.nw, .slice ua B.es.length uc]) w (by kernel_rfl) ?_ (hK.out _ _ (ap_refl _ _) ⟨hJ.1, hJ.2.1.le (by omega), hJ.2.2⟩ rfl)
        simp only [setAll, List.setIfInBounds_toArray, List.set_cons_zero, List.set_cons_succ, List.set_nil]
        go_simp
      · refine stepOk_at _ rfl ?_
        intro vs w c hv hc hJ hdep K hK
        have hc : c < 6 := hc
        obtain ⟨v0, v1, v2, v3, v4, v5, rfl⟩ := len6 hv
        clear hdep hv
        exact mid_val (.pointer (some ⟨R, 0, none⟩)) w (by kernel_rfl) (by kernel_rfl) (hK.out _ _ (ap_refl _ _) ⟨hJ.1, hJ.2.1.le (by omega), hJ.2.2⟩ rfl)
      · refine stepOk_at _ rfl ?_
        intro vs w c hv hc hJ hdep K hK
        have hc : c < 6 := hc
        obtain ⟨v0, v1, v2, v3, v4, v5, rfl⟩ := len6 hv
        have f2 : v2 = .pointer (some ⟨R, 0, none⟩) := (by have h := dep hdep 2 (by kernel_rfl); exact h)
        clear hdep hv
        subst f2
        refine mid_call 42 (by kernel_rfl) (pick_rb R _ 14 w hJ.2.1 (by omega) (by omega) (by omega)) (by kernel_rfl) ?_
        rintro e w' ⟨⟨r, rfl, r0, r1⟩, ha, hr⟩
        exact ⟨_, rfl, hK.out _ _ ha ⟨ap_trans hJ.1 ha, hr.le (by omega), hJ.2.2.apart ha hRq (by omega) (by omega) (Or.inl trivial)⟩ ⟨r, rfl, r0, r1⟩⟩
      · refine stepOk_at _ rfl ?_
        intro vs w c hv hc hJ hdep K hK
        have hc : c < 6 := hc
        obtain ⟨v0, v1, v2, v3, v4, v5, rfl⟩ := len6 hv
        have f0 : v0 = .pointer (some ⟨R, 0, none⟩) := (by have h := dep hdep 0 (by kernel_rfl); exact h)
        have f1 : v1 = .agg #[.int .i64 B.ad, .int .i64 B.ln, .int .i64 B.ow, .int .i64 B.lo, .int .i64 B.hi, .slice va B.ds.length vc, .int .i64 B.nw, .slice ua B.es.length uc] := (by have h := dep hdep 1 (by kernel_rfl); exact h)
        have f3 : ∃ r : Int, v3 = .int .i64 r ∧ 0 ≤ r ∧ r < 14 := (by have h := dep hdep 3 (by kernel_rfl); exact h)
        clear hdep hv
        subst f0
        subst f1
        obtain ⟨r, rfl, r0, r1⟩ := f3
        have hqw := hJ.1.size
        refine mid_call 158 (by kernel_rfl) (play_ret R _ r B.ad B.ln B.ow B.lo B.hi B.nw va B.ds.length vc ua B.es.length uc B.ds B.es q w hJ.2.1 (by omega) (by omega) (by omega) ha1 ha2 hJ.2.2.2.1.L hJ.2.2.2.2.1.L hRq (by omega) hJ.2.2.2.1.1 hJ.2.2.2.2.1.1) (by kernel_rfl) ?_
        rintro e w' ⟨⟨B2, pa, pc, ra, rc, rfl, h1, h2, h3⟩, ha, hr⟩
        exact ⟨_, rfl, hK.out _ _ ha ⟨ap_trans hJ.1 ha, hr.le (by omega), hJ.2.2.apart ha hRq (by omega) (by omega) (Or.inl trivial)⟩ ⟨B2, pa, pc, ra, rc, rfl, h1, h2, h3⟩⟩
    · intro vs w hv hJ hall
      obtain ⟨v0, v1, v2, v3, v4, v5, rfl⟩ := len6 hv
      have f0 : v0 = .pointer (some ⟨R, 0, none⟩) := (by have h := hall 0 (by decide); exact h)
      have f1 : v1 = .agg #[.int .i64 B.ad, .int .i64 B.ln, .int .i64 B.ow, .int .i64 B.lo, .int .i64 B.hi, .slice va B.ds.length vc, .int .i64 B.nw, .slice ua B.es.length uc] := (by have h := hall 1 (by decide); exact h)
      have f2 : v2 = .pointer (some ⟨R, 0, none⟩) := (by have h := hall 2 (by decide); exact h)
      have f3 : ∃ r : Int, v3 = .int .i64 r ∧ 0 ≤ r ∧ r < 14 := (by have h := hall 3 (by decide); exact h)
      have f4 : ∃ (B2 : Bk) (pa : Option Addr) (pc : Nat) (ra : Option Addr) (rc : Nat), v4 = .agg #[.int .i64 B2.ad, .int .i64 B2.ln, .int .i64 B2.ow, .int .i64 B2.lo, .int .i64 B2.hi, .slice pa B2.ds.length pc, .int .i64 B2.nw, .slice ra B2.es.length rc] ∧ DoorsL w q pa B2.ds.length B2.ds ∧ EntriesL w q ra B2.es.length B2.es ∧ B2.ds.length ≤ 100 ∧ B2.es.length ≤ 100 ∧ -999999 ≤ B2.ad ∧ B2.ad ≤ 999999 := (by have h := hall 4 (by decide); exact h)
      clear hall hv
      obtain ⟨B2, pa, pc, ra, rc, rfl, hD2, hE2, hl1, hl2, hb1, hb2⟩ := f4
      obtain ⟨HC9, HR9, hM9⟩ := hJ
      clear f0 f1 f2 f3
      replace bx := bx.apart HC9 (by omega)
      replace HC := ap_trans HC HC9
      obtain ⟨⟨q1, q2⟩, q3⟩ := id bx
      refine ⟨?_⟩
      simp only [setAll, List.setIfInBounds_toArray, List.set_cons_zero, List.set_cons_succ, List.set_nil]
      go_simp
      go_wp2_with fail
      have hbv := bx.set8 (.int .i64 B2.ad) (.int .i64 B2.ln) (.int .i64 B2.ow) (.int .i64 B2.lo) (.int .i64 B2.hi) (.slice pa B2.ds.length pc) (.int .i64 B2.nw) (.slice ra B2.es.length rc)
      obtain ⟨⟨t1, t2⟩, t3⟩ := id hbv
      exact bodyPost_ret (v := .agg #[.int .i64 B2.ad, .int .i64 B2.ln, .int .i64 B2.ow, .int .i64 B2.lo, .int .i64 B2.hi, .slice pa B2.ds.length pc, .int .i64 B2.nw, .slice ra B2.es.length rc]) (by simp [results, Tryz.results120, go_sem, t2]) rfl ⟨⟨B2, pa, pc, ra, rc, rfl, hD2.out (by omega) (.int .i64 B2.ad) (.int .i64 B2.ln) (.int .i64 B2.ow) (.int .i64 B2.lo) (.int .i64 B2.hi) (.slice pa B2.ds.length pc) (.int .i64 B2.nw) (.slice ra B2.es.length rc), ⟨hE2.out (by omega) (.int .i64 B2.ad) (.int .i64 B2.ln) (.int .i64 B2.ow) (.int .i64 B2.lo) (.int .i64 B2.hi) (.slice pa B2.ds.length pc) (.int .i64 B2.nw) (.slice ra B2.es.length rc), hl1, hl2, hb1, hb2⟩⟩, ap_set8x HC (n := w0.heap.size) (by omega) (.int .i64 B2.ad) (.int .i64 B2.ln) (.int .i64 B2.ow) (.int .i64 B2.lo) (.int .i64 B2.hi) (.slice pa B2.ds.length pc) (.int .i64 B2.nw) (.slice ra B2.es.length rc), (rb_set8 HR9 (n := w0.heap.size) (by omega) (.int .i64 B2.ad) (.int .i64 B2.ln) (.int .i64 B2.ow) (.int .i64 B2.lo) (.int .i64 B2.hi) (.slice pa B2.ds.length pc) (.int .i64 B2.nw) (.slice ra B2.es.length rc)).le (by omega)⟩
end Go.Proofs.YtcgjpmhjijmplaaGreatDoor
