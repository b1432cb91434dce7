/- Draws: the specification's l5Any, and the draws of books beside flows, walked. -/
import Derived.Test.YtcgjpmhjijmplaaGreatDoorDraw14
import Derived.Test.YtcgjpmhjijmplaaGreatDoorDraw8
namespace Go.Proofs.YtcgjpmhjijmplaaGreatDoor
open Go.ChangeShapes Go.WideShapes Go.ChangeAt Go.RowKit Go.Maps

set_option maxRecDepth 20000 in
set_option maxHeartbeats 4000000 in
theorem any_ret (R : Nat) (n : Int) (w0 : World) (h : Rb w0 R n) (hn : n ≤ 500000000) :
    Calls Tryz.prog 61 #[.pointer (some ⟨R, 0, none⟩)] w0 fun e w' => DrawnA w' w0.heap.size e ∧ Apart R w0 w' ∧ Rb w' R (n + 2000000) := by
  have hR := h.lt
  have hBl := bl_alloc (bl_refl w0) (.cells #[.int .i64 0, .int .i64 0, .int .i64 0, .int .i64 0, .int .i64 0, .slice none 0 0, .int .i64 0, .slice none 0 0] 26)
  have HC : Apart R w0 _ := ap_of_bl hBl
  have HR := h.below hBl
  have bx := Bx.new w0 #[.int .i64 0, .int .i64 0, .int .i64 0, .int .i64 0, .int .i64 0, .slice none 0 0, .int .i64 0, .slice none 0 0] 26
  have H1 : Hid (Calls Tryz.prog _ _ _ _) := book_ret R n _ HR (by omega)
  clear hBl h
  go_enter Tryz.func61, Tryz.ntmps61
  go_wp2_with fail
  refine H1.out.mono ?_
  rintro e w1 ⟨⟨B, va, vc, ua, uc, rfl, hD, hE, hd1, he1, a0, a1⟩, ha, hr⟩
  have hs1 := ha.size
  simp only [World.size_alloc] at hD hE hs1
  replace bx := bx.apart ha (by omega)
  replace HC := ap_trans HC ha
  clear H1 ha HR
  have bb := Bx.new w1 #[.int .i64 B.ad, .int .i64 B.ln, .int .i64 B.ow, .int .i64 B.lo, .int .i64 B.hi, .slice va B.ds.length vc, .int .i64 B.nw, .slice ua B.es.length uc] 26
  have hBl := bl_alloc (bl_refl w1) (.cells #[.int .i64 B.ad, .int .i64 B.ln, .int .i64 B.ow, .int .i64 B.lo, .int .i64 B.hi, .slice va B.ds.length vc, .int .i64 B.nw, .slice ua B.es.length uc] 26)
  replace bx := bx.below hBl
  replace HC := ap_trans HC (ap_of_bl hBl)
  replace hr := hr.below hBl
  replace hD := hD.apart (ap_of_bl (R := R) hBl) (by omega)
  replace hE := hE.apart (ap_of_bl (R := R) hBl) (by omega)
  clear hBl
  go_wp2_with fail
  refine (pick_rb R _ 24 _ hr (by omega) (by omega) (by omega)).mono ?_
  rintro e w2 ⟨⟨y, rfl, y0, y1⟩, ha, hr⟩
  have hs2 := ha.size
  simp only [World.size_alloc] at hs2
  replace bb := bb.apart ha (by omega)
  replace bx := bx.apart ha (by omega)
  replace HC := ap_trans HC ha
  replace hD := hD.apart ha (by omega)
  replace hE := hE.apart ha (by omega)
  clear ha
  generalize w1.heap.size = nb at *
  by_cases hy : y = 0
  · subst hy
    have H3 : Hid (Calls Tryz.prog _ _ _ _) := spoilB_ret R _ B.ad B.ln B.ow B.lo B.hi B.nw va B.ds.length vc ua B.es.length uc B.ds B.es w2 hr (by omega) a0 a1 hD.at hE.at hd1 he1
    obtain ⟨⟨p1, p2⟩, p3⟩ := id bb
    go_wp2_with fail
    refine H3.out.mono ?_
    rintro e w3 ⟨⟨B2, pa, pc, ra, rc, rfl, hD2, hE2, hl1, hl2, hl3, hl4⟩, ha, hr⟩
    replace bx := bx.apart ha (by omega)
    replace HC := ap_trans HC ha
    clear ha H3 p1 p2 p3 bb hD hE
    obtain ⟨⟨q1, q2⟩, q3⟩ := id bx
    go_wp2_with fail
    have hbv := bx.set8 (.int .i64 B2.ad) (.int .i64 B2.ln) (.int .i64 B2.ow) (.int .i64 B2.lo) (.int .i64 B2.hi) (.slice pa B2.ds.length pc) (.int .i64 B2.nw) (.slice ra B2.es.length rc)
    obtain ⟨⟨t1, t2⟩, t3⟩ := id hbv
    exact bodyPost_ret (v := .agg #[.int .i64 B2.ad, .int .i64 B2.ln, .int .i64 B2.ow, .int .i64 B2.lo, .int .i64 B2.hi, .slice pa B2.ds.length pc, .int .i64 B2.nw, .slice ra B2.es.length rc]) (by simp [results, Tryz.results61, go_sem, t2]) rfl ⟨⟨B2, pa, pc, ra, rc, rfl, hD2.out (x := w0.heap.size) (by omega) (.int .i64 B2.ad) (.int .i64 B2.ln) (.int .i64 B2.ow) (.int .i64 B2.lo) (.int .i64 B2.hi) (.slice pa B2.ds.length pc) (.int .i64 B2.nw) (.slice ra B2.es.length rc), hE2.out (x := w0.heap.size) (by omega) (.int .i64 B2.ad) (.int .i64 B2.ln) (.int .i64 B2.ow) (.int .i64 B2.lo) (.int .i64 B2.hi) (.slice pa B2.ds.length pc) (.int .i64 B2.nw) (.slice ra B2.es.length rc), hl1, hl2, hl3, hl4⟩, ap_set8x HC (n := w0.heap.size) (by omega) (.int .i64 B2.ad) (.int .i64 B2.ln) (.int .i64 B2.ow) (.int .i64 B2.lo) (.int .i64 B2.hi) (.slice pa B2.ds.length pc) (.int .i64 B2.nw) (.slice ra B2.es.length rc), (rb_set8 hr (n := w0.heap.size) (by omega) (.int .i64 B2.ad) (.int .i64 B2.ln) (.int .i64 B2.ow) (.int .i64 B2.lo) (.int .i64 B2.hi) (.slice pa B2.ds.length pc) (.int .i64 B2.nw) (.slice ra B2.es.length rc)).le (by omega)⟩
  · have hy' : (y == 0) = false := by simpa using hy
    obtain ⟨⟨p1, p2⟩, p3⟩ := id bb
    obtain ⟨⟨q1, q2⟩, q3⟩ := id bx
    go_wp2_with fail
    have hbv := bx.set8 (.int .i64 B.ad) (.int .i64 B.ln) (.int .i64 B.ow) (.int .i64 B.lo) (.int .i64 B.hi) (.slice va B.ds.length vc) (.int .i64 B.nw) (.slice ua B.es.length uc)
    obtain ⟨⟨t1, t2⟩, t3⟩ := id hbv
    exact bodyPost_ret (v := .agg #[.int .i64 B.ad, .int .i64 B.ln, .int .i64 B.ow, .int .i64 B.lo, .int .i64 B.hi, .slice va B.ds.length vc, .int .i64 B.nw, .slice ua B.es.length uc]) (by simp [results, Tryz.results61, go_sem, t2]) rfl ⟨⟨B, va, vc, ua, uc, rfl, hD.out (x := w0.heap.size) (by omega) (.int .i64 B.ad) (.int .i64 B.ln) (.int .i64 B.ow) (.int .i64 B.lo) (.int .i64 B.hi) (.slice va B.ds.length vc) (.int .i64 B.nw) (.slice ua B.es.length uc), hE.out (x := w0.heap.size) (by omega) (.int .i64 B.ad) (.int .i64 B.ln) (.int .i64 B.ow) (.int .i64 B.lo) (.int .i64 B.hi) (.slice va B.ds.length vc) (.int .i64 B.nw) (.slice ua B.es.length uc), hd1, by omega, by omega, by omega⟩, ap_set8x HC (n := w0.heap.size) (by omega) (.int .i64 B.ad) (.int .i64 B.ln) (.int .i64 B.ow) (.int .i64 B.lo) (.int .i64 B.hi) (.slice va B.ds.length vc) (.int .i64 B.nw) (.slice ua B.es.length uc), (rb_set8 hr (n := w0.heap.size) (by omega) (.int .i64 B.ad) (.int .i64 B.ln) (.int .i64 B.ow) (.int .i64 B.lo) (.int .i64 B.hi) (.slice va B.ds.length vc) (.int .i64 B.nw) (.slice ua B.es.length uc)).le (by omega)⟩

theorem DrawnA.out {w w' : World} {q : Nat} {e : Ending} (h : DrawnA w q e) (hb : Below w.heap.size w w') : DrawnA w' q e := by
  obtain ⟨B, va, vc, ua, uc, h1, h2, h3, h4⟩ := h
  refine ⟨B, va, vc, ua, uc, h1, ⟨h2.1, h2.2.imp id fun ⟨b, o, x1, x2, x3, x4⟩ => ⟨b, o, x1, x2, Nat.lt_of_lt_of_le x3 hb.size, fun i d hi => ?_⟩⟩, ⟨h3.1, h3.2.imp id fun ⟨b, o, x1, x2, x3, x4⟩ => ⟨b, o, x1, x2, Nat.lt_of_lt_of_le x3 hb.size, fun i d hi => ?_⟩⟩, h4⟩
  · obtain ⟨c0, c1, c2, c3⟩ := x4 i d hi
    refine ⟨?_, ?_, ?_, ?_⟩ <;> (rw [hb.cell x3]; assumption)
  · obtain ⟨c0, c1, c2, c3, c4, c5, c6⟩ := x4 i d hi
    refine ⟨?_, ?_, ?_, ?_, ?_, ?_, ?_⟩ <;> (rw [hb.cell x3]; assumption)
theorem bl_set8d {w0 w : World} (h : Below w0.heap.size w0 w) {n : Nat} (hn : w0.heap.size ≤ n) (a b c d e f g i : Value) : Below w0.heap.size w0 (World.setCell (World.setCell (World.setCell (World.setCell (World.setCell (World.setCell (World.setCell (World.setCell w ⟨n, 0, none⟩ (a)) ⟨n, 1, none⟩ (b)) ⟨n, 2, none⟩ (c)) ⟨n, 3, none⟩ (d)) ⟨n, 4, none⟩ (e)) ⟨n, 5, none⟩ (f)) ⟨n, 6, none⟩ (g)) ⟨n, 7, none⟩ (i)) :=
  bl_set (bl_set (bl_set (bl_set (bl_set (bl_set (bl_set (bl_set h hn a) hn b) hn c) hn d) hn e) hn f) hn g) hn i
set_option maxHeartbeats 4000000 in
theorem drawBoard_ret (ca : Option Addr) (cn cc : Nat) (w : World) (hn : cn ≤ cc) (hc : cc ≤ maxLen) (hb : BytesIn w ca cn) :
    Calls Tryz.prog 30 #[.slice ca cn cc] w fun e w' => DrawnA w' w.heap.size e ∧ Below w.heap.size w w' := by
  have hB0 := bl_alloc (bl_refl w) (.cells #[.int .i64 0, .int .i64 0, .int .i64 0, .int .i64 0, .int .i64 0, .slice none 0 0, .int .i64 0, .slice none 0 0] 26)
  have bx := Bx.new w #[.int .i64 0, .int .i64 0, .int .i64 0, .int .i64 0, .int .i64 0, .slice none 0 0, .int .i64 0, .slice none 0 0] 26
  have H1 : Hid (Calls Tryz.prog _ _ _ _) := open_ret ca cn cc _ hn hc (hb.below hB0)
  clear hn hc hb
  go_enter Tryz.func30, Tryz.ntmps30
  go_wp2_with fail
  refine H1.out.mono ?_
  rintro e w1 ⟨rfl, hb1, hrd⟩
  have hB1 := bl_trans hB0 hb1
  replace bx := bx.below hb1
  simp only [World.size_alloc] at hrd
  have HR : Rb w1 (w.heap.size + 1) 0 := ⟨0, by omega, by omega, hrd⟩
  generalize hRR : w.heap.size + 1 = R at *
  clear H1 hb1 hrd hB0
  go_wp2_with fail
  refine (any_ret R _ _ HR (by omega)).mono ?_
  rintro e w2 ⟨⟨B, va, vc, ua, uc, rfl, hD, hE, hl1, hl2, hl3, hl4⟩, ha, hr⟩
  have hRl := HR.lt
  replace hB1 := bl_of_ap hB1 ha (by omega)
  replace bx := bx.apart ha (by omega)
  obtain ⟨⟨q1, q2⟩, q3⟩ := id bx
  go_wp2_with fail
  have hbv := bx.set8 (.int .i64 B.ad) (.int .i64 B.ln) (.int .i64 B.ow) (.int .i64 B.lo) (.int .i64 B.hi) (.slice va B.ds.length vc) (.int .i64 B.nw) (.slice ua B.es.length uc)
  obtain ⟨⟨t1, t2⟩, t3⟩ := id hbv
  exact bodyPost_ret (v := .agg #[.int .i64 B.ad, .int .i64 B.ln, .int .i64 B.ow, .int .i64 B.lo, .int .i64 B.hi, .slice va B.ds.length vc, .int .i64 B.nw, .slice ua B.es.length uc]) (by simp [results, Tryz.results30, go_sem, t2]) rfl ⟨⟨B, va, vc, ua, uc, rfl, hD.out (x := w.heap.size) (by omega) (.int .i64 B.ad) (.int .i64 B.ln) (.int .i64 B.ow) (.int .i64 B.lo) (.int .i64 B.hi) (.slice va B.ds.length vc) (.int .i64 B.nw) (.slice ua B.es.length uc), hE.out (x := w.heap.size) (by omega) (.int .i64 B.ad) (.int .i64 B.ln) (.int .i64 B.ow) (.int .i64 B.lo) (.int .i64 B.hi) (.slice va B.ds.length vc) (.int .i64 B.nw) (.slice ua B.es.length uc), hl1, hl2, hl3, hl4⟩, bl_set8d hB1 (Nat.le_refl _) (.int .i64 B.ad) (.int .i64 B.ln) (.int .i64 B.ow) (.int .i64 B.lo) (.int .i64 B.hi) (.slice va B.ds.length vc) (.int .i64 B.nw) (.slice ua B.es.length uc)⟩
end Go.Proofs.YtcgjpmhjijmplaaGreatDoor
