/- The specification's l5SpoilFlow, walked. -/
import Derived.Test.YtcgjpmhjijmplaaGreatDoorDraw6
namespace Go.Proofs.YtcgjpmhjijmplaaGreatDoor
open Go.ChangeShapes Go.WideShapes Go.ChangeAt Go.RowKit

theorem ap_new5 {R : Nat} {w0 w : World} (h : Apart R w0 w) {n : Nat} (hn : w0.heap.size ≤ n) (a b c d e : Value) : Apart R w0 (((((w.setCell ⟨n, 0, none⟩ a).setCell ⟨n, 1, none⟩ b).setCell ⟨n, 2, none⟩ c).setCell ⟨n, 3, none⟩ d).setCell ⟨n, 4, none⟩ e) :=
  ap_new (ap_new (ap_new (ap_new (ap_new h hn a) hn b) hn c) hn d) hn e
theorem Rb.set5 {w : World} {R : Nat} {k : Int} (h : Rb w R k) {n : Nat} (hn : R < n) (a b c d e : Value) : Rb (((((w.setCell ⟨n, 0, none⟩ a).setCell ⟨n, 1, none⟩ b).setCell ⟨n, 2, none⟩ c).setCell ⟨n, 3, none⟩ d).setCell ⟨n, 4, none⟩ e) R k :=
  ((((h.set hn a).set hn b).set hn c).set hn d).set hn e
set_option maxHeartbeats 4000000 in
theorem spoil_ret (R : Nat) (n : Int) (k a ap b bp : Int) (w : World) (h : Rb w R n) (hn : n ≤ 900000000) :
    Calls Tryz.prog 62 #[.pointer (some ⟨R, 0, none⟩), .agg #[.int .i64 k, .int .i64 a, .int .i64 ap, .int .i64 b, .int .i64 bp]] w fun e w' => (∃ k a ap b bp : Int, e = .returned (.agg #[.int .i64 k, .int .i64 a, .int .i64 ap, .int .i64 b, .int .i64 bp])) ∧ Apart R w w' ∧ Rb w' R (n + 2) := by
  have hR := h.lt
  have hB0 := bl_alloc (bl_alloc (bl_refl w) (.cells #[.int .i64 k, .int .i64 a, .int .i64 ap, .int .i64 b, .int .i64 bp] 32)) (.cells #[.int .i64 0, .int .i64 0, .int .i64 0, .int .i64 0, .int .i64 0] 32)
  have hBl := bl_alloc (bl_refl (w.alloc (.cells #[.int .i64 k, .int .i64 a, .int .i64 ap, .int .i64 b, .int .i64 bp] 32))) (.cells #[.int .i64 0, .int .i64 0, .int .i64 0, .int .i64 0, .int .i64 0] 32)
  have HR := h.below hB0
  have bf := (Bx.new w #[.int .i64 k, .int .i64 a, .int .i64 ap, .int .i64 b, .int .i64 bp] 32).below hBl
  have bx := Bx.new (w.alloc (.cells #[.int .i64 k, .int .i64 a, .int .i64 ap, .int .i64 b, .int .i64 bp] 32)) #[.int .i64 0, .int .i64 0, .int .i64 0, .int .i64 0, .int .i64 0] 32
  simp only [World.size_alloc] at bx
  go_enter Tryz.func62, Tryz.ntmps62
  go_wp2_with fail
  refine (pick_rb R _ 5 _ HR (by omega) (by omega) (by omega)).mono ?_
  rintro e w1 ⟨⟨r, rfl, r0, r1⟩, ha, hr⟩
  have HX := ap_trans (ap_of_bl hB0 : Apart R w _) ha
  have bf := bf.apart ha (by omega)
  have bx := bx.apart ha (by omega)
  have hx1 := bx.1.1
  clear hB0 hBl ha HR h
  have HR := hr
  clear hr
  rcases (show r = 0 ∨ r = 1 ∨ r = 2 ∨ r = 3 ∨ r = 4 by omega) with rfl | rfl | rfl | rfl | rfl
  · skip
    have hBl := bl_alloc (bl_refl w1) (.cells #[.int .i64 0, .int .i64 7, .int .i64 8, .int .i64 (-1)] 3)
    have bg := Box.new w1 #[.int .i64 0, .int .i64 7, .int .i64 8, .int .i64 (-1)] 3
    go_wp2_with fail
    refine (pick_rb R _ 4 _ (HR.below hBl) (by omega) (by omega) (by omega)).mono ?_
    rintro e w2 ⟨⟨s, rfl, s0, s1⟩, ha, hr⟩
    have HX := ap_trans (ap_trans HX (ap_of_bl hBl)) ha
    have bf := (bf.below hBl).apart ha (by omega)
    have bx := (bx.below hBl).apart ha (by omega)
    have bg := bg.apart ha (by omega)
    clear hBl ha HR
    obtain ⟨⟨p1, p2⟩, p3⟩ := id bf
    obtain ⟨⟨q1, q2⟩, q3⟩ := id bx
    obtain ⟨g1, g2⟩ := id bg
    have HF : Hid (Bx w2 (w.heap.size + 1) #[.int .i64 0, .int .i64 0, .int .i64 0, .int .i64 0, .int .i64 0]) := bx
    clear bf bx bg
    rcases (show s = 0 ∨ s = 1 ∨ s = 2 ∨ s = 3 by omega) with rfl | rfl | rfl | rfl
    · go_wp2_with fail
      have hbv := (HF.out.other (m := w.heap.size) (j := 0) (by omega) (.int .i64 0)).set5 (.int .i64 0) (.int .i64 a) (.int .i64 ap) (.int .i64 b) (.int .i64 bp)
      obtain ⟨⟨t1, t2⟩, t3⟩ := id hbv
      refine bodyPost_ret (v := .agg #[.int .i64 0, .int .i64 a, .int .i64 ap, .int .i64 b, .int .i64 bp]) (by simp [results, Tryz.results62, go_sem, t2]) rfl ⟨⟨_, _, _, _, _, rfl⟩, ?_, ?_⟩
      · exact ap_new5 (ap_new HX (by omega) _) (by omega) (.int .i64 0) (.int .i64 a) (.int .i64 ap) (.int .i64 b) (.int .i64 bp)
      · exact ((hr.set (m := w.heap.size) (j := 0) (by omega) (.int .i64 0)).set5 (by omega) (.int .i64 0) (.int .i64 a) (.int .i64 ap) (.int .i64 b) (.int .i64 bp)).le (by omega)
    · go_wp2_with fail
      have hbv := (HF.out.other (m := w.heap.size) (j := 0) (by omega) (.int .i64 7)).set5 (.int .i64 7) (.int .i64 a) (.int .i64 ap) (.int .i64 b) (.int .i64 bp)
      obtain ⟨⟨t1, t2⟩, t3⟩ := id hbv
      refine bodyPost_ret (v := .agg #[.int .i64 7, .int .i64 a, .int .i64 ap, .int .i64 b, .int .i64 bp]) (by simp [results, Tryz.results62, go_sem, t2]) rfl ⟨⟨_, _, _, _, _, rfl⟩, ?_, ?_⟩
      · exact ap_new5 (ap_new HX (by omega) _) (by omega) (.int .i64 7) (.int .i64 a) (.int .i64 ap) (.int .i64 b) (.int .i64 bp)
      · exact ((hr.set (m := w.heap.size) (j := 0) (by omega) (.int .i64 7)).set5 (by omega) (.int .i64 7) (.int .i64 a) (.int .i64 ap) (.int .i64 b) (.int .i64 bp)).le (by omega)
    · go_wp2_with fail
      have hbv := (HF.out.other (m := w.heap.size) (j := 0) (by omega) (.int .i64 8)).set5 (.int .i64 8) (.int .i64 a) (.int .i64 ap) (.int .i64 b) (.int .i64 bp)
      obtain ⟨⟨t1, t2⟩, t3⟩ := id hbv
      refine bodyPost_ret (v := .agg #[.int .i64 8, .int .i64 a, .int .i64 ap, .int .i64 b, .int .i64 bp]) (by simp [results, Tryz.results62, go_sem, t2]) rfl ⟨⟨_, _, _, _, _, rfl⟩, ?_, ?_⟩
      · exact ap_new5 (ap_new HX (by omega) _) (by omega) (.int .i64 8) (.int .i64 a) (.int .i64 ap) (.int .i64 b) (.int .i64 bp)
      · exact ((hr.set (m := w.heap.size) (j := 0) (by omega) (.int .i64 8)).set5 (by omega) (.int .i64 8) (.int .i64 a) (.int .i64 ap) (.int .i64 b) (.int .i64 bp)).le (by omega)
    · go_wp2_with fail
      have hbv := (HF.out.other (m := w.heap.size) (j := 0) (by omega) (.int .i64 (-1))).set5 (.int .i64 (-1)) (.int .i64 a) (.int .i64 ap) (.int .i64 b) (.int .i64 bp)
      obtain ⟨⟨t1, t2⟩, t3⟩ := id hbv
      refine bodyPost_ret (v := .agg #[.int .i64 (-1), .int .i64 a, .int .i64 ap, .int .i64 b, .int .i64 bp]) (by simp [results, Tryz.results62, go_sem, t2]) rfl ⟨⟨_, _, _, _, _, rfl⟩, ?_, ?_⟩
      · exact ap_new5 (ap_new HX (by omega) _) (by omega) (.int .i64 (-1)) (.int .i64 a) (.int .i64 ap) (.int .i64 b) (.int .i64 bp)
      · exact ((hr.set (m := w.heap.size) (j := 0) (by omega) (.int .i64 (-1))).set5 (by omega) (.int .i64 (-1)) (.int .i64 a) (.int .i64 ap) (.int .i64 b) (.int .i64 bp)).le (by omega)
  · skip
    have hBl := bl_alloc (bl_refl w1) (.cells #[.int .i64 (-1), .int .i64 0, .int .i64 65535, .int .i64 65536] 3)
    have bg := Box.new w1 #[.int .i64 (-1), .int .i64 0, .int .i64 65535, .int .i64 65536] 3
    go_wp2_with fail
    refine (pick_rb R _ 4 _ (HR.below hBl) (by omega) (by omega) (by omega)).mono ?_
    rintro e w2 ⟨⟨s, rfl, s0, s1⟩, ha, hr⟩
    have HX := ap_trans (ap_trans HX (ap_of_bl hBl)) ha
    have bf := (bf.below hBl).apart ha (by omega)
    have bx := (bx.below hBl).apart ha (by omega)
    have bg := bg.apart ha (by omega)
    clear hBl ha HR
    obtain ⟨⟨p1, p2⟩, p3⟩ := id bf
    obtain ⟨⟨q1, q2⟩, q3⟩ := id bx
    obtain ⟨g1, g2⟩ := id bg
    have HF : Hid (Bx w2 (w.heap.size + 1) #[.int .i64 0, .int .i64 0, .int .i64 0, .int .i64 0, .int .i64 0]) := bx
    clear bf bx bg
    rcases (show s = 0 ∨ s = 1 ∨ s = 2 ∨ s = 3 by omega) with rfl | rfl | rfl | rfl
    · go_wp2_with fail
      have hbv := (HF.out.other (m := w.heap.size) (j := 1) (by omega) (.int .i64 (-1))).set5 (.int .i64 k) (.int .i64 (-1)) (.int .i64 ap) (.int .i64 b) (.int .i64 bp)
      obtain ⟨⟨t1, t2⟩, t3⟩ := id hbv
      refine bodyPost_ret (v := .agg #[.int .i64 k, .int .i64 (-1), .int .i64 ap, .int .i64 b, .int .i64 bp]) (by simp [results, Tryz.results62, go_sem, t2]) rfl ⟨⟨_, _, _, _, _, rfl⟩, ?_, ?_⟩
      · exact ap_new5 (ap_new HX (by omega) _) (by omega) (.int .i64 k) (.int .i64 (-1)) (.int .i64 ap) (.int .i64 b) (.int .i64 bp)
      · exact ((hr.set (m := w.heap.size) (j := 1) (by omega) (.int .i64 (-1))).set5 (by omega) (.int .i64 k) (.int .i64 (-1)) (.int .i64 ap) (.int .i64 b) (.int .i64 bp)).le (by omega)
    · go_wp2_with fail
      have hbv := (HF.out.other (m := w.heap.size) (j := 1) (by omega) (.int .i64 0)).set5 (.int .i64 k) (.int .i64 0) (.int .i64 ap) (.int .i64 b) (.int .i64 bp)
      obtain ⟨⟨t1, t2⟩, t3⟩ := id hbv
      refine bodyPost_ret (v := .agg #[.int .i64 k, .int .i64 0, .int .i64 ap, .int .i64 b, .int .i64 bp]) (by simp [results, Tryz.results62, go_sem, t2]) rfl ⟨⟨_, _, _, _, _, rfl⟩, ?_, ?_⟩
      · exact ap_new5 (ap_new HX (by omega) _) (by omega) (.int .i64 k) (.int .i64 0) (.int .i64 ap) (.int .i64 b) (.int .i64 bp)
      · exact ((hr.set (m := w.heap.size) (j := 1) (by omega) (.int .i64 0)).set5 (by omega) (.int .i64 k) (.int .i64 0) (.int .i64 ap) (.int .i64 b) (.int .i64 bp)).le (by omega)
    · go_wp2_with fail
      have hbv := (HF.out.other (m := w.heap.size) (j := 1) (by omega) (.int .i64 65535)).set5 (.int .i64 k) (.int .i64 65535) (.int .i64 ap) (.int .i64 b) (.int .i64 bp)
      obtain ⟨⟨t1, t2⟩, t3⟩ := id hbv
      refine bodyPost_ret (v := .agg #[.int .i64 k, .int .i64 65535, .int .i64 ap, .int .i64 b, .int .i64 bp]) (by simp [results, Tryz.results62, go_sem, t2]) rfl ⟨⟨_, _, _, _, _, rfl⟩, ?_, ?_⟩
      · exact ap_new5 (ap_new HX (by omega) _) (by omega) (.int .i64 k) (.int .i64 65535) (.int .i64 ap) (.int .i64 b) (.int .i64 bp)
      · exact ((hr.set (m := w.heap.size) (j := 1) (by omega) (.int .i64 65535)).set5 (by omega) (.int .i64 k) (.int .i64 65535) (.int .i64 ap) (.int .i64 b) (.int .i64 bp)).le (by omega)
    · go_wp2_with fail
      have hbv := (HF.out.other (m := w.heap.size) (j := 1) (by omega) (.int .i64 65536)).set5 (.int .i64 k) (.int .i64 65536) (.int .i64 ap) (.int .i64 b) (.int .i64 bp)
      obtain ⟨⟨t1, t2⟩, t3⟩ := id hbv
      refine bodyPost_ret (v := .agg #[.int .i64 k, .int .i64 65536, .int .i64 ap, .int .i64 b, .int .i64 bp]) (by simp [results, Tryz.results62, go_sem, t2]) rfl ⟨⟨_, _, _, _, _, rfl⟩, ?_, ?_⟩
      · exact ap_new5 (ap_new HX (by omega) _) (by omega) (.int .i64 k) (.int .i64 65536) (.int .i64 ap) (.int .i64 b) (.int .i64 bp)
      · exact ((hr.set (m := w.heap.size) (j := 1) (by omega) (.int .i64 65536)).set5 (by omega) (.int .i64 k) (.int .i64 65536) (.int .i64 ap) (.int .i64 b) (.int .i64 bp)).le (by omega)
  · skip
    have hBl := bl_alloc (bl_refl w1) (.cells #[.int .i64 (-1), .int .i64 0, .int .i64 65535, .int .i64 65536, .int .i64 2560, .int .i64 51201] 3)
    have bg := Box.new w1 #[.int .i64 (-1), .int .i64 0, .int .i64 65535, .int .i64 65536, .int .i64 2560, .int .i64 51201] 3
    go_wp2_with fail
    refine (pick_rb R _ 6 _ (HR.below hBl) (by omega) (by omega) (by omega)).mono ?_
    rintro e w2 ⟨⟨s, rfl, s0, s1⟩, ha, hr⟩
    have HX := ap_trans (ap_trans HX (ap_of_bl hBl)) ha
    have bf := (bf.below hBl).apart ha (by omega)
    have bx := (bx.below hBl).apart ha (by omega)
    have bg := bg.apart ha (by omega)
    clear hBl ha HR
    obtain ⟨⟨p1, p2⟩, p3⟩ := id bf
    obtain ⟨⟨q1, q2⟩, q3⟩ := id bx
    obtain ⟨g1, g2⟩ := id bg
    have HF : Hid (Bx w2 (w.heap.size + 1) #[.int .i64 0, .int .i64 0, .int .i64 0, .int .i64 0, .int .i64 0]) := bx
    clear bf bx bg
    rcases (show s = 0 ∨ s = 1 ∨ s = 2 ∨ s = 3 ∨ s = 4 ∨ s = 5 by omega) with rfl | rfl | rfl | rfl | rfl | rfl
    · go_wp2_with fail
      have hbv := (HF.out.other (m := w.heap.size) (j := 3) (by omega) (.int .i64 (-1))).set5 (.int .i64 k) (.int .i64 a) (.int .i64 ap) (.int .i64 (-1)) (.int .i64 bp)
      obtain ⟨⟨t1, t2⟩, t3⟩ := id hbv
      refine bodyPost_ret (v := .agg #[.int .i64 k, .int .i64 a, .int .i64 ap, .int .i64 (-1), .int .i64 bp]) (by simp [results, Tryz.results62, go_sem, t2]) rfl ⟨⟨_, _, _, _, _, rfl⟩, ?_, ?_⟩
      · exact ap_new5 (ap_new HX (by omega) _) (by omega) (.int .i64 k) (.int .i64 a) (.int .i64 ap) (.int .i64 (-1)) (.int .i64 bp)
      · exact ((hr.set (m := w.heap.size) (j := 3) (by omega) (.int .i64 (-1))).set5 (by omega) (.int .i64 k) (.int .i64 a) (.int .i64 ap) (.int .i64 (-1)) (.int .i64 bp)).le (by omega)
    · go_wp2_with fail
      have hbv := (HF.out.other (m := w.heap.size) (j := 3) (by omega) (.int .i64 0)).set5 (.int .i64 k) (.int .i64 a) (.int .i64 ap) (.int .i64 0) (.int .i64 bp)
      obtain ⟨⟨t1, t2⟩, t3⟩ := id hbv
      refine bodyPost_ret (v := .agg #[.int .i64 k, .int .i64 a, .int .i64 ap, .int .i64 0, .int .i64 bp]) (by simp [results, Tryz.results62, go_sem, t2]) rfl ⟨⟨_, _, _, _, _, rfl⟩, ?_, ?_⟩
      · exact ap_new5 (ap_new HX (by omega) _) (by omega) (.int .i64 k) (.int .i64 a) (.int .i64 ap) (.int .i64 0) (.int .i64 bp)
      · exact ((hr.set (m := w.heap.size) (j := 3) (by omega) (.int .i64 0)).set5 (by omega) (.int .i64 k) (.int .i64 a) (.int .i64 ap) (.int .i64 0) (.int .i64 bp)).le (by omega)
    · go_wp2_with fail
      have hbv := (HF.out.other (m := w.heap.size) (j := 3) (by omega) (.int .i64 65535)).set5 (.int .i64 k) (.int .i64 a) (.int .i64 ap) (.int .i64 65535) (.int .i64 bp)
      obtain ⟨⟨t1, t2⟩, t3⟩ := id hbv
      refine bodyPost_ret (v := .agg #[.int .i64 k, .int .i64 a, .int .i64 ap, .int .i64 65535, .int .i64 bp]) (by simp [results, Tryz.results62, go_sem, t2]) rfl ⟨⟨_, _, _, _, _, rfl⟩, ?_, ?_⟩
      · exact ap_new5 (ap_new HX (by omega) _) (by omega) (.int .i64 k) (.int .i64 a) (.int .i64 ap) (.int .i64 65535) (.int .i64 bp)
      · exact ((hr.set (m := w.heap.size) (j := 3) (by omega) (.int .i64 65535)).set5 (by omega) (.int .i64 k) (.int .i64 a) (.int .i64 ap) (.int .i64 65535) (.int .i64 bp)).le (by omega)
    · go_wp2_with fail
      have hbv := (HF.out.other (m := w.heap.size) (j := 3) (by omega) (.int .i64 65536)).set5 (.int .i64 k) (.int .i64 a) (.int .i64 ap) (.int .i64 65536) (.int .i64 bp)
      obtain ⟨⟨t1, t2⟩, t3⟩ := id hbv
      refine bodyPost_ret (v := .agg #[.int .i64 k, .int .i64 a, .int .i64 ap, .int .i64 65536, .int .i64 bp]) (by simp [results, Tryz.results62, go_sem, t2]) rfl ⟨⟨_, _, _, _, _, rfl⟩, ?_, ?_⟩
      · exact ap_new5 (ap_new HX (by omega) _) (by omega) (.int .i64 k) (.int .i64 a) (.int .i64 ap) (.int .i64 65536) (.int .i64 bp)
      · exact ((hr.set (m := w.heap.size) (j := 3) (by omega) (.int .i64 65536)).set5 (by omega) (.int .i64 k) (.int .i64 a) (.int .i64 ap) (.int .i64 65536) (.int .i64 bp)).le (by omega)
    · go_wp2_with fail
      have hbv := (HF.out.other (m := w.heap.size) (j := 3) (by omega) (.int .i64 2560)).set5 (.int .i64 k) (.int .i64 a) (.int .i64 ap) (.int .i64 2560) (.int .i64 bp)
      obtain ⟨⟨t1, t2⟩, t3⟩ := id hbv
      refine bodyPost_ret (v := .agg #[.int .i64 k, .int .i64 a, .int .i64 ap, .int .i64 2560, .int .i64 bp]) (by simp [results, Tryz.results62, go_sem, t2]) rfl ⟨⟨_, _, _, _, _, rfl⟩, ?_, ?_⟩
      · exact ap_new5 (ap_new HX (by omega) _) (by omega) (.int .i64 k) (.int .i64 a) (.int .i64 ap) (.int .i64 2560) (.int .i64 bp)
      · exact ((hr.set (m := w.heap.size) (j := 3) (by omega) (.int .i64 2560)).set5 (by omega) (.int .i64 k) (.int .i64 a) (.int .i64 ap) (.int .i64 2560) (.int .i64 bp)).le (by omega)
    · go_wp2_with fail
      have hbv := (HF.out.other (m := w.heap.size) (j := 3) (by omega) (.int .i64 51201)).set5 (.int .i64 k) (.int .i64 a) (.int .i64 ap) (.int .i64 51201) (.int .i64 bp)
      obtain ⟨⟨t1, t2⟩, t3⟩ := id hbv
      refine bodyPost_ret (v := .agg #[.int .i64 k, .int .i64 a, .int .i64 ap, .int .i64 51201, .int .i64 bp]) (by simp [results, Tryz.results62, go_sem, t2]) rfl ⟨⟨_, _, _, _, _, rfl⟩, ?_, ?_⟩
      · exact ap_new5 (ap_new HX (by omega) _) (by omega) (.int .i64 k) (.int .i64 a) (.int .i64 ap) (.int .i64 51201) (.int .i64 bp)
      · exact ((hr.set (m := w.heap.size) (j := 3) (by omega) (.int .i64 51201)).set5 (by omega) (.int .i64 k) (.int .i64 a) (.int .i64 ap) (.int .i64 51201) (.int .i64 bp)).le (by omega)
  · skip
    have hBl := bl_alloc (bl_refl w1) (.cells #[.int .i64 0, .int .i64 (-1), .int .i64 65535, .int .i64 65536] 3)
    have bg := Box.new w1 #[.int .i64 0, .int .i64 (-1), .int .i64 65535, .int .i64 65536] 3
    go_wp2_with fail
    refine (pick_rb R _ 4 _ (HR.below hBl) (by omega) (by omega) (by omega)).mono ?_
    rintro e w2 ⟨⟨s, rfl, s0, s1⟩, ha, hr⟩
    have HX := ap_trans (ap_trans HX (ap_of_bl hBl)) ha
    have bf := (bf.below hBl).apart ha (by omega)
    have bx := (bx.below hBl).apart ha (by omega)
    have bg := bg.apart ha (by omega)
    clear hBl ha HR
    obtain ⟨⟨p1, p2⟩, p3⟩ := id bf
    obtain ⟨⟨q1, q2⟩, q3⟩ := id bx
    obtain ⟨g1, g2⟩ := id bg
    have HF : Hid (Bx w2 (w.heap.size + 1) #[.int .i64 0, .int .i64 0, .int .i64 0, .int .i64 0, .int .i64 0]) := bx
    clear bf bx bg
    rcases (show s = 0 ∨ s = 1 ∨ s = 2 ∨ s = 3 by omega) with rfl | rfl | rfl | rfl
    · go_wp2_with fail
      have hbv := (HF.out.other (m := w.heap.size) (j := 2) (by omega) (.int .i64 0)).set5 (.int .i64 k) (.int .i64 a) (.int .i64 0) (.int .i64 b) (.int .i64 bp)
      obtain ⟨⟨t1, t2⟩, t3⟩ := id hbv
      refine bodyPost_ret (v := .agg #[.int .i64 k, .int .i64 a, .int .i64 0, .int .i64 b, .int .i64 bp]) (by simp [results, Tryz.results62, go_sem, t2]) rfl ⟨⟨_, _, _, _, _, rfl⟩, ?_, ?_⟩
      · exact ap_new5 (ap_new HX (by omega) _) (by omega) (.int .i64 k) (.int .i64 a) (.int .i64 0) (.int .i64 b) (.int .i64 bp)
      · exact ((hr.set (m := w.heap.size) (j := 2) (by omega) (.int .i64 0)).set5 (by omega) (.int .i64 k) (.int .i64 a) (.int .i64 0) (.int .i64 b) (.int .i64 bp)).le (by omega)
    · go_wp2_with fail
      have hbv := (HF.out.other (m := w.heap.size) (j := 2) (by omega) (.int .i64 (-1))).set5 (.int .i64 k) (.int .i64 a) (.int .i64 (-1)) (.int .i64 b) (.int .i64 bp)
      obtain ⟨⟨t1, t2⟩, t3⟩ := id hbv
      refine bodyPost_ret (v := .agg #[.int .i64 k, .int .i64 a, .int .i64 (-1), .int .i64 b, .int .i64 bp]) (by simp [results, Tryz.results62, go_sem, t2]) rfl ⟨⟨_, _, _, _, _, rfl⟩, ?_, ?_⟩
      · exact ap_new5 (ap_new HX (by omega) _) (by omega) (.int .i64 k) (.int .i64 a) (.int .i64 (-1)) (.int .i64 b) (.int .i64 bp)
      · exact ((hr.set (m := w.heap.size) (j := 2) (by omega) (.int .i64 (-1))).set5 (by omega) (.int .i64 k) (.int .i64 a) (.int .i64 (-1)) (.int .i64 b) (.int .i64 bp)).le (by omega)
    · go_wp2_with fail
      have hbv := (HF.out.other (m := w.heap.size) (j := 2) (by omega) (.int .i64 65535)).set5 (.int .i64 k) (.int .i64 a) (.int .i64 65535) (.int .i64 b) (.int .i64 bp)
      obtain ⟨⟨t1, t2⟩, t3⟩ := id hbv
      refine bodyPost_ret (v := .agg #[.int .i64 k, .int .i64 a, .int .i64 65535, .int .i64 b, .int .i64 bp]) (by simp [results, Tryz.results62, go_sem, t2]) rfl ⟨⟨_, _, _, _, _, rfl⟩, ?_, ?_⟩
      · exact ap_new5 (ap_new HX (by omega) _) (by omega) (.int .i64 k) (.int .i64 a) (.int .i64 65535) (.int .i64 b) (.int .i64 bp)
      · exact ((hr.set (m := w.heap.size) (j := 2) (by omega) (.int .i64 65535)).set5 (by omega) (.int .i64 k) (.int .i64 a) (.int .i64 65535) (.int .i64 b) (.int .i64 bp)).le (by omega)
    · go_wp2_with fail
      have hbv := (HF.out.other (m := w.heap.size) (j := 2) (by omega) (.int .i64 65536)).set5 (.int .i64 k) (.int .i64 a) (.int .i64 65536) (.int .i64 b) (.int .i64 bp)
      obtain ⟨⟨t1, t2⟩, t3⟩ := id hbv
      refine bodyPost_ret (v := .agg #[.int .i64 k, .int .i64 a, .int .i64 65536, .int .i64 b, .int .i64 bp]) (by simp [results, Tryz.results62, go_sem, t2]) rfl ⟨⟨_, _, _, _, _, rfl⟩, ?_, ?_⟩
      · exact ap_new5 (ap_new HX (by omega) _) (by omega) (.int .i64 k) (.int .i64 a) (.int .i64 65536) (.int .i64 b) (.int .i64 bp)
      · exact ((hr.set (m := w.heap.size) (j := 2) (by omega) (.int .i64 65536)).set5 (by omega) (.int .i64 k) (.int .i64 a) (.int .i64 65536) (.int .i64 b) (.int .i64 bp)).le (by omega)
  · skip
    have hBl := bl_alloc (bl_refl w1) (.cells #[.int .i64 0, .int .i64 (-1), .int .i64 65535, .int .i64 65536] 3)
    have bg := Box.new w1 #[.int .i64 0, .int .i64 (-1), .int .i64 65535, .int .i64 65536] 3
    go_wp2_with fail
    refine (pick_rb R _ 4 _ (HR.below hBl) (by omega) (by omega) (by omega)).mono ?_
    rintro e w2 ⟨⟨s, rfl, s0, s1⟩, ha, hr⟩
    have HX := ap_trans (ap_trans HX (ap_of_bl hBl)) ha
    have bf := (bf.below hBl).apart ha (by omega)
    have bx := (bx.below hBl).apart ha (by omega)
    have bg := bg.apart ha (by omega)
    clear hBl ha HR
    obtain ⟨⟨p1, p2⟩, p3⟩ := id bf
    obtain ⟨⟨q1, q2⟩, q3⟩ := id bx
    obtain ⟨g1, g2⟩ := id bg
    have HF : Hid (Bx w2 (w.heap.size + 1) #[.int .i64 0, .int .i64 0, .int .i64 0, .int .i64 0, .int .i64 0]) := bx
    clear bf bx bg
    rcases (show s = 0 ∨ s = 1 ∨ s = 2 ∨ s = 3 by omega) with rfl | rfl | rfl | rfl
    · go_wp2_with fail
      have hbv := (HF.out.other (m := w.heap.size) (j := 4) (by omega) (.int .i64 0)).set5 (.int .i64 k) (.int .i64 a) (.int .i64 ap) (.int .i64 b) (.int .i64 0)
      obtain ⟨⟨t1, t2⟩, t3⟩ := id hbv
      refine bodyPost_ret (v := .agg #[.int .i64 k, .int .i64 a, .int .i64 ap, .int .i64 b, .int .i64 0]) (by simp [results, Tryz.results62, go_sem, t2]) rfl ⟨⟨_, _, _, _, _, rfl⟩, ?_, ?_⟩
      · exact ap_new5 (ap_new HX (by omega) _) (by omega) (.int .i64 k) (.int .i64 a) (.int .i64 ap) (.int .i64 b) (.int .i64 0)
      · exact ((hr.set (m := w.heap.size) (j := 4) (by omega) (.int .i64 0)).set5 (by omega) (.int .i64 k) (.int .i64 a) (.int .i64 ap) (.int .i64 b) (.int .i64 0)).le (by omega)
    · go_wp2_with fail
      have hbv := (HF.out.other (m := w.heap.size) (j := 4) (by omega) (.int .i64 (-1))).set5 (.int .i64 k) (.int .i64 a) (.int .i64 ap) (.int .i64 b) (.int .i64 (-1))
      obtain ⟨⟨t1, t2⟩, t3⟩ := id hbv
      refine bodyPost_ret (v := .agg #[.int .i64 k, .int .i64 a, .int .i64 ap, .int .i64 b, .int .i64 (-1)]) (by simp [results, Tryz.results62, go_sem, t2]) rfl ⟨⟨_, _, _, _, _, rfl⟩, ?_, ?_⟩
      · exact ap_new5 (ap_new HX (by omega) _) (by omega) (.int .i64 k) (.int .i64 a) (.int .i64 ap) (.int .i64 b) (.int .i64 (-1))
      · exact ((hr.set (m := w.heap.size) (j := 4) (by omega) (.int .i64 (-1))).set5 (by omega) (.int .i64 k) (.int .i64 a) (.int .i64 ap) (.int .i64 b) (.int .i64 (-1))).le (by omega)
    · go_wp2_with fail
      have hbv := (HF.out.other (m := w.heap.size) (j := 4) (by omega) (.int .i64 65535)).set5 (.int .i64 k) (.int .i64 a) (.int .i64 ap) (.int .i64 b) (.int .i64 65535)
      obtain ⟨⟨t1, t2⟩, t3⟩ := id hbv
      refine bodyPost_ret (v := .agg #[.int .i64 k, .int .i64 a, .int .i64 ap, .int .i64 b, .int .i64 65535]) (by simp [results, Tryz.results62, go_sem, t2]) rfl ⟨⟨_, _, _, _, _, rfl⟩, ?_, ?_⟩
      · exact ap_new5 (ap_new HX (by omega) _) (by omega) (.int .i64 k) (.int .i64 a) (.int .i64 ap) (.int .i64 b) (.int .i64 65535)
      · exact ((hr.set (m := w.heap.size) (j := 4) (by omega) (.int .i64 65535)).set5 (by omega) (.int .i64 k) (.int .i64 a) (.int .i64 ap) (.int .i64 b) (.int .i64 65535)).le (by omega)
    · go_wp2_with fail
      have hbv := (HF.out.other (m := w.heap.size) (j := 4) (by omega) (.int .i64 65536)).set5 (.int .i64 k) (.int .i64 a) (.int .i64 ap) (.int .i64 b) (.int .i64 65536)
      obtain ⟨⟨t1, t2⟩, t3⟩ := id hbv
      refine bodyPost_ret (v := .agg #[.int .i64 k, .int .i64 a, .int .i64 ap, .int .i64 b, .int .i64 65536]) (by simp [results, Tryz.results62, go_sem, t2]) rfl ⟨⟨_, _, _, _, _, rfl⟩, ?_, ?_⟩
      · exact ap_new5 (ap_new HX (by omega) _) (by omega) (.int .i64 k) (.int .i64 a) (.int .i64 ap) (.int .i64 b) (.int .i64 65536)
      · exact ((hr.set (m := w.heap.size) (j := 4) (by omega) (.int .i64 65536)).set5 (by omega) (.int .i64 k) (.int .i64 a) (.int .i64 ap) (.int .i64 b) (.int .i64 65536)).le (by omega)
theorem bl_of_ap {R : Nat} {w w1 w2 : World} (h : Below w.heap.size w w1) (ha : Apart R w1 w2) (hR : w.heap.size ≤ R) : Below w.heap.size w w2 :=
  ⟨ha.os.trans h.os, ha.tape.trans h.tape, ha.output.trans h.output, Nat.le_trans h.size ha.size, fun k hk => (ha.block k (Nat.lt_of_lt_of_le hk h.size) (by omega)).trans (h.block k hk)⟩
theorem BytesIn.below {w w' : World} {a : Option Addr} {n : Nat} (h : BytesIn w a n) (hb : Below w.heap.size w w') : BytesIn w' a n := by
  rcases h with h | ⟨b, o, h1, h2, h3⟩
  · exact Or.inl h
  · refine Or.inr ⟨b, o, h1, Nat.lt_of_lt_of_le h2 hb.size, fun i hi => ?_⟩
    obtain ⟨u, u0, u1, hu⟩ := h3 i hi
    exact ⟨u, u0, u1, (hb.cell (p := ⟨b, o + i, none⟩) h2).trans hu⟩
theorem bl_set5d {w0 w : World} (h : Below w0.heap.size w0 w) {n : Nat} (hn : w0.heap.size ≤ n) (a b c d e : Value) : Below w0.heap.size w0 (((((w.setCell ⟨n, 0, none⟩ a).setCell ⟨n, 1, none⟩ b).setCell ⟨n, 2, none⟩ c).setCell ⟨n, 3, none⟩ d).setCell ⟨n, 4, none⟩ e) :=
  bl_set (bl_set (bl_set (bl_set (bl_set h hn a) hn b) hn c) hn d) hn e
end Go.Proofs.YtcgjpmhjijmplaaGreatDoor
