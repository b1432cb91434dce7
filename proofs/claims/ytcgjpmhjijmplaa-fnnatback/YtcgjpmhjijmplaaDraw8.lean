/- The specification's l5SpoilFlow, walked. -/
import Derived.Test.YtcgjpmhjijmplaaDraw7
namespace Go.Proofs.Ytcgjpmhjijmplaa
open Go.ChangeShapes Go.WideShapes Go.ChangeAt Go.RowKit

set_option maxHeartbeats 4000000 in
theorem spoil_ret (R : Nat) (n : Int) (k a ap b bp : Int) (w : World) (h : Rb w R n) (hn : n ≤ 900000000) :
    Calls Try.prog 26 #[.pointer (some ⟨R, 0, none⟩), .agg #[.int .i64 k, .int .i64 a, .int .i64 ap, .int .i64 b, .int .i64 bp]] w fun e w' => (∃ k a ap b bp : Int, e = .returned (.agg #[.int .i64 k, .int .i64 a, .int .i64 ap, .int .i64 b, .int .i64 bp])) ∧ Apart R w w' ∧ Rb w' R (n + 2) := by
  have hR := h.lt
  have hB0 := bl_alloc (bl_alloc (bl_refl w) (.cells #[.int .i64 k, .int .i64 a, .int .i64 ap, .int .i64 b, .int .i64 bp] 24)) (.cells #[.int .i64 0, .int .i64 0, .int .i64 0, .int .i64 0, .int .i64 0] 24)
  have hBl := bl_alloc (bl_refl (w.alloc (.cells #[.int .i64 k, .int .i64 a, .int .i64 ap, .int .i64 b, .int .i64 bp] 24))) (.cells #[.int .i64 0, .int .i64 0, .int .i64 0, .int .i64 0, .int .i64 0] 24)
  have HR := h.below hB0
  have bf := (Bx.new w #[.int .i64 k, .int .i64 a, .int .i64 ap, .int .i64 b, .int .i64 bp] 24).below hBl
  have bx := Bx.new (w.alloc (.cells #[.int .i64 k, .int .i64 a, .int .i64 ap, .int .i64 b, .int .i64 bp] 24)) #[.int .i64 0, .int .i64 0, .int .i64 0, .int .i64 0, .int .i64 0] 24
  simp only [World.size_alloc] at bx
  go_enter Try.func26, Try.ntmps26
  go_wp2_with fail
  refine (pick_rb R _ 5 _ HR (by omega) (by omega) (by omega)).mono ?_
  rintro e w1 ⟨⟨r, rfl, r0, r1⟩, ha, hr⟩
  have HX := ap_trans (ap_of_bl hB0 : Apart R w _) ha
  have bf := bf.apart ha (by omega)
  have bx := bx.apart ha (by omega)
  have hx1 := bx.1.1
  clear hB0 hBl ha HR h
  have HR := hr
  clear hr
  rcases (show r = 0 ∨ r = 1 ∨ r = 2 ∨ r = 3 ∨ r = 4 by omega) with rfl | rfl | rfl | rfl | rfl
  · skip
    have hBl := bl_alloc (bl_refl w1) (.cells #[.int .i64 0, .int .i64 7, .int .i64 8, .int .i64 (-1)] 3)
    have bg := Box.new w1 #[.int .i64 0, .int .i64 7, .int .i64 8, .int .i64 (-1)] 3
    go_wp2_with fail
    refine (pick_rb R _ 4 _ (HR.below hBl) (by omega) (by omega) (by omega)).mono ?_
    rintro e w2 ⟨⟨s, rfl, s0, s1⟩, ha, hr⟩
    have HX := ap_trans (ap_trans HX (ap_of_bl hBl)) ha
    have bf := (bf.below hBl).apart ha (by omega)
    have bx := (bx.below hBl).apart ha (by omega)
    have bg := bg.apart ha (by omega)
    clear hBl ha HR
    obtain ⟨⟨p1, p2⟩, p3⟩ := id bf
    obtain ⟨⟨q1, q2⟩, q3⟩ := id bx
    obtain ⟨g1, g2⟩ := id bg
    have HF : Hid (Bx w2 (w.heap.size + 1) #[.int .i64 0, .int .i64 0, .int .i64 0, .int .i64 0, .int .i64 0]) := bx
    clear bf bx bg
    rcases (show s = 0 ∨ s = 1 ∨ s = 2 ∨ s = 3 by omega) with rfl | rfl | rfl | rfl
    · go_wp2_with fail
      have hbv := (HF.out.other (m := w.heap.size) (j := 0) (by omega) (.int .i64 0)).set5 (.int .i64 0) (.int .i64 a) (.int .i64 ap) (.int .i64 b) (.int .i64 bp)
      obtain ⟨⟨t1, t2⟩, t3⟩ := id hbv
      refine bodyPost_ret (v := .agg #[.int .i64 0, .int .i64 a, .int .i64 ap, .int .i64 b, .int .i64 bp]) (by simp [results, Try.results26, go_sem, t2]) rfl ⟨⟨_, _, _, _, _, rfl⟩, ?_, ?_⟩
      · exact ap_new5 (ap_new HX (by omega) _) (by omega) (.int .i64 0) (.int .i64 a) (.int .i64 ap) (.int .i64 b) (.int .i64 bp)
      · exact ((hr.set (m := w.heap.size) (j := 0) (by omega) (.int .i64 0)).set5 (by omega) (.int .i64 0) (.int .i64 a) (.int .i64 ap) (.int .i64 b) (.int .i64 bp)).le (by omega)
    · go_wp2_with fail
      have hbv := (HF.out.other (m := w.heap.size) (j := 0) (by omega) (.int .i64 7)).set5 (.int .i64 7) (.int .i64 a) (.int .i64 ap) (.int .i64 b) (.int .i64 bp)
      obtain ⟨⟨t1, t2⟩, t3⟩ := id hbv
      refine bodyPost_ret (v := .agg #[.int .i64 7, .int .i64 a, .int .i64 ap, .int .i64 b, .int .i64 bp]) (by simp [results, Try.results26, go_sem, t2]) rfl ⟨⟨_, _, _, _, _, rfl⟩, ?_, ?_⟩
      · exact ap_new5 (ap_new HX (by omega) _) (by omega) (.int .i64 7) (.int .i64 a) (.int .i64 ap) (.int .i64 b) (.int .i64 bp)
      · exact ((hr.set (m := w.heap.size) (j := 0) (by omega) (.int .i64 7)).set5 (by omega) (.int .i64 7) (.int .i64 a) (.int .i64 ap) (.int .i64 b) (.int .i64 bp)).le (by omega)
    · go_wp2_with fail
      have hbv := (HF.out.other (m := w.heap.size) (j := 0) (by omega) (.int .i64 8)).set5 (.int .i64 8) (.int .i64 a) (.int .i64 ap) (.int .i64 b) (.int .i64 bp)
      obtain ⟨⟨t1, t2⟩, t3⟩ := id hbv
      refine bodyPost_ret (v := .agg #[.int .i64 8, .int .i64 a, .int .i64 ap, .int .i64 b, .int .i64 bp]) (by simp [results, Try.results26, go_sem, t2]) rfl ⟨⟨_, _, _, _, _, rfl⟩, ?_, ?_⟩
      · exact ap_new5 (ap_new HX (by omega) _) (by omega) (.int .i64 8) (.int .i64 a) (.int .i64 ap) (.int .i64 b) (.int .i64 bp)
      · exact ((hr.set (m := w.heap.size) (j := 0) (by omega) (.int .i64 8)).set5 (by omega) (.int .i64 8) (.int .i64 a) (.int .i64 ap) (.int .i64 b) (.int .i64 bp)).le (by omega)
    · go_wp2_with fail
      have hbv := (HF.out.other (m := w.heap.size) (j := 0) (by omega) (.int .i64 (-1))).set5 (.int .i64 (-1)) (.int .i64 a) (.int .i64 ap) (.int .i64 b) (.int .i64 bp)
      obtain ⟨⟨t1, t2⟩, t3⟩ := id hbv
      refine bodyPost_ret (v := .agg #[.int .i64 (-1), .int .i64 a, .int .i64 ap, .int .i64 b, .int .i64 bp]) (by simp [results, Try.results26, go_sem, t2]) rfl ⟨⟨_, _, _, _, _, rfl⟩, ?_, ?_⟩
      · exact ap_new5 (ap_new HX (by omega) _) (by omega) (.int .i64 (-1)) (.int .i64 a) (.int .i64 ap) (.int .i64 b) (.int .i64 bp)
      · exact ((hr.set (m := w.heap.size) (j := 0) (by omega) (.int .i64 (-1))).set5 (by omega) (.int .i64 (-1)) (.int .i64 a) (.int .i64 ap) (.int .i64 b) (.int .i64 bp)).le (by omega)
  · skip
    have hBl := bl_alloc (bl_refl w1) (.cells #[.int .i64 (-1), .int .i64 0, .int .i64 65535, .int .i64 65536] 3)
    have bg := Box.new w1 #[.int .i64 (-1), .int .i64 0, .int .i64 65535, .int .i64 65536] 3
    go_wp2_with fail
    refine (pick_rb R _ 4 _ (HR.below hBl) (by omega) (by omega) (by omega)).mono ?_
    rintro e w2 ⟨⟨s, rfl, s0, s1⟩, ha, hr⟩
    have HX := ap_trans (ap_trans HX (ap_of_bl hBl)) ha
    have bf := (bf.below hBl).apart ha (by omega)
    have bx := (bx.below hBl).apart ha (by omega)
    have bg := bg.apart ha (by omega)
    clear hBl ha HR
    obtain ⟨⟨p1, p2⟩, p3⟩ := id bf
    obtain ⟨⟨q1, q2⟩, q3⟩ := id bx
    obtain ⟨g1, g2⟩ := id bg
    have HF : Hid (Bx w2 (w.heap.size + 1) #[.int .i64 0, .int .i64 0, .int .i64 0, .int .i64 0, .int .i64 0]) := bx
    clear bf bx bg
    rcases (show s = 0 ∨ s = 1 ∨ s = 2 ∨ s = 3 by omega) with rfl | rfl | rfl | rfl
    · go_wp2_with fail
      have hbv := (HF.out.other (m := w.heap.size) (j := 1) (by omega) (.int .i64 (-1))).set5 (.int .i64 k) (.int .i64 (-1)) (.int .i64 ap) (.int .i64 b) (.int .i64 bp)
      obtain ⟨⟨t1, t2⟩, t3⟩ := id hbv
      refine bodyPost_ret (v := .agg #[.int .i64 k, .int .i64 (-1), .int .i64 ap, .int .i64 b, .int .i64 bp]) (by simp [results, Try.results26, go_sem, t2]) rfl ⟨⟨_, _, _, _, _, rfl⟩, ?_, ?_⟩
      · exact ap_new5 (ap_new HX (by omega) _) (by omega) (.int .i64 k) (.int .i64 (-1)) (.int .i64 ap) (.int .i64 b) (.int .i64 bp)
      · exact ((hr.set (m := w.heap.size) (j := 1) (by omega) (.int .i64 (-1))).set5 (by omega) (.int .i64 k) (.int .i64 (-1)) (.int .i64 ap) (.int .i64 b) (.int .i64 bp)).le (by omega)
    · go_wp2_with fail
      have hbv := (HF.out.other (m := w.heap.size) (j := 1) (by omega) (.int .i64 0)).set5 (.int .i64 k) (.int .i64 0) (.int .i64 ap) (.int .i64 b) (.int .i64 bp)
      obtain ⟨⟨t1, t2⟩, t3⟩ := id hbv
      refine bodyPost_ret (v := .agg #[.int .i64 k, .int .i64 0, .int .i64 ap, .int .i64 b, .int .i64 bp]) (by simp [results, Try.results26, go_sem, t2]) rfl ⟨⟨_, _, _, _, _, rfl⟩, ?_, ?_⟩
      · exact ap_new5 (ap_new HX (by omega) _) (by omega) (.int .i64 k) (.int .i64 0) (.int .i64 ap) (.int .i64 b) (.int .i64 bp)
      · exact ((hr.set (m := w.heap.size) (j := 1) (by omega) (.int .i64 0)).set5 (by omega) (.int .i64 k) (.int .i64 0) (.int .i64 ap) (.int .i64 b) (.int .i64 bp)).le (by omega)
    · go_wp2_with fail
      have hbv := (HF.out.other (m := w.heap.size) (j := 1) (by omega) (.int .i64 65535)).set5 (.int .i64 k) (.int .i64 65535) (.int .i64 ap) (.int .i64 b) (.int .i64 bp)
      obtain ⟨⟨t1, t2⟩, t3⟩ := id hbv
      refine bodyPost_ret (v := .agg #[.int .i64 k, .int .i64 65535, .int .i64 ap, .int .i64 b, .int .i64 bp]) (by simp [results, Try.results26, go_sem, t2]) rfl ⟨⟨_, _, _, _, _, rfl⟩, ?_, ?_⟩
      · exact ap_new5 (ap_new HX (by omega) _) (by omega) (.int .i64 k) (.int .i64 65535) (.int .i64 ap) (.int .i64 b) (.int .i64 bp)
      · exact ((hr.set (m := w.heap.size) (j := 1) (by omega) (.int .i64 65535)).set5 (by omega) (.int .i64 k) (.int .i64 65535) (.int .i64 ap) (.int .i64 b) (.int .i64 bp)).le (by omega)
    · go_wp2_with fail
      have hbv := (HF.out.other (m := w.heap.size) (j := 1) (by omega) (.int .i64 65536)).set5 (.int .i64 k) (.int .i64 65536) (.int .i64 ap) (.int .i64 b) (.int .i64 bp)
      obtain ⟨⟨t1, t2⟩, t3⟩ := id hbv
      refine bodyPost_ret (v := .agg #[.int .i64 k, .int .i64 65536, .int .i64 ap, .int .i64 b, .int .i64 bp]) (by simp [results, Try.results26, go_sem, t2]) rfl ⟨⟨_, _, _, _, _, rfl⟩, ?_, ?_⟩
      · exact ap_new5 (ap_new HX (by omega) _) (by omega) (.int .i64 k) (.int .i64 65536) (.int .i64 ap) (.int .i64 b) (.int .i64 bp)
      · exact ((hr.set (m := w.heap.size) (j := 1) (by omega) (.int .i64 65536)).set5 (by omega) (.int .i64 k) (.int .i64 65536) (.int .i64 ap) (.int .i64 b) (.int .i64 bp)).le (by omega)
  · skip
    have hBl := bl_alloc (bl_refl w1) (.cells #[.int .i64 (-1), .int .i64 0, .int .i64 65535, .int .i64 65536, .int .i64 2560, .int .i64 51201] 3)
    have bg := Box.new w1 #[.int .i64 (-1), .int .i64 0, .int .i64 65535, .int .i64 65536, .int .i64 2560, .int .i64 51201] 3
    go_wp2_with fail
    refine (pick_rb R _ 6 _ (HR.below hBl) (by omega) (by omega) (by omega)).mono ?_
    rintro e w2 ⟨⟨s, rfl, s0, s1⟩, ha, hr⟩
    have HX := ap_trans (ap_trans HX (ap_of_bl hBl)) ha
    have bf := (bf.below hBl).apart ha (by omega)
    have bx := (bx.below hBl).apart ha (by omega)
    have bg := bg.apart ha (by omega)
    clear hBl ha HR
    obtain ⟨⟨p1, p2⟩, p3⟩ := id bf
    obtain ⟨⟨q1, q2⟩, q3⟩ := id bx
    obtain ⟨g1, g2⟩ := id bg
    have HF : Hid (Bx w2 (w.heap.size + 1) #[.int .i64 0, .int .i64 0, .int .i64 0, .int .i64 0, .int .i64 0]) := bx
    clear bf bx bg
    rcases (show s = 0 ∨ s = 1 ∨ s = 2 ∨ s = 3 ∨ s = 4 ∨ s = 5 by omega) with rfl | rfl | rfl | rfl | rfl | rfl
    · go_wp2_with fail
      have hbv := (HF.out.other (m := w.heap.size) (j := 3) (by omega) (.int .i64 (-1))).set5 (.int .i64 k) (.int .i64 a) (.int .i64 ap) (.int .i64 (-1)) (.int .i64 bp)
      obtain ⟨⟨t1, t2⟩, t3⟩ := id hbv
      refine bodyPost_ret (v := .agg #[.int .i64 k, .int .i64 a, .int .i64 ap, .int .i64 (-1), .int .i64 bp]) (by simp [results, Try.results26, go_sem, t2]) rfl ⟨⟨_, _, _, _, _, rfl⟩, ?_, ?_⟩
      · exact ap_new5 (ap_new HX (by omega) _) (by omega) (.int .i64 k) (.int .i64 a) (.int .i64 ap) (.int .i64 (-1)) (.int .i64 bp)
      · exact ((hr.set (m := w.heap.size) (j := 3) (by omega) (.int .i64 (-1))).set5 (by omega) (.int .i64 k) (.int .i64 a) (.int .i64 ap) (.int .i64 (-1)) (.int .i64 bp)).le (by omega)
    · go_wp2_with fail
      have hbv := (HF.out.other (m := w.heap.size) (j := 3) (by omega) (.int .i64 0)).set5 (.int .i64 k) (.int .i64 a) (.int .i64 ap) (.int .i64 0) (.int .i64 bp)
      obtain ⟨⟨t1, t2⟩, t3⟩ := id hbv
      refine bodyPost_ret (v := .agg #[.int .i64 k, .int .i64 a, .int .i64 ap, .int .i64 0, .int .i64 bp]) (by simp [results, Try.results26, go_sem, t2]) rfl ⟨⟨_, _, _, _, _, rfl⟩, ?_, ?_⟩
      · exact ap_new5 (ap_new HX (by omega) _) (by omega) (.int .i64 k) (.int .i64 a) (.int .i64 ap) (.int .i64 0) (.int .i64 bp)
      · exact ((hr.set (m := w.heap.size) (j := 3) (by omega) (.int .i64 0)).set5 (by omega) (.int .i64 k) (.int .i64 a) (.int .i64 ap) (.int .i64 0) (.int .i64 bp)).le (by omega)
    · go_wp2_with fail
      have hbv := (HF.out.other (m := w.heap.size) (j := 3) (by omega) (.int .i64 65535)).set5 (.int .i64 k) (.int .i64 a) (.int .i64 ap) (.int .i64 65535) (.int .i64 bp)
      obtain ⟨⟨t1, t2⟩, t3⟩ := id hbv
      refine bodyPost_ret (v := .agg #[.int .i64 k, .int .i64 a, .int .i64 ap, .int .i64 65535, .int .i64 bp]) (by simp [results, Try.results26, go_sem, t2]) rfl ⟨⟨_, _, _, _, _, rfl⟩, ?_, ?_⟩
      · exact ap_new5 (ap_new HX (by omega) _) (by omega) (.int .i64 k) (.int .i64 a) (.int .i64 ap) (.int .i64 65535) (.int .i64 bp)
      · exact ((hr.set (m := w.heap.size) (j := 3) (by omega) (.int .i64 65535)).set5 (by omega) (.int .i64 k) (.int .i64 a) (.int .i64 ap) (.int .i64 65535) (.int .i64 bp)).le (by omega)
    · go_wp2_with fail
      have hbv := (HF.out.other (m := w.heap.size) (j := 3) (by omega) (.int .i64 65536)).set5 (.int .i64 k) (.int .i64 a) (.int .i64 ap) (.int .i64 65536) (.int .i64 bp)
      obtain ⟨⟨t1, t2⟩, t3⟩ := id hbv
      refine bodyPost_ret (v := .agg #[.int .i64 k, .int .i64 a, .int .i64 ap, .int .i64 65536, .int .i64 bp]) (by simp [results, Try.results26, go_sem, t2]) rfl ⟨⟨_, _, _, _, _, rfl⟩, ?_, ?_⟩
      · exact ap_new5 (ap_new HX (by omega) _) (by omega) (.int .i64 k) (.int .i64 a) (.int .i64 ap) (.int .i64 65536) (.int .i64 bp)
      · exact ((hr.set (m := w.heap.size) (j := 3) (by omega) (.int .i64 65536)).set5 (by omega) (.int .i64 k) (.int .i64 a) (.int .i64 ap) (.int .i64 65536) (.int .i64 bp)).le (by omega)
    · go_wp2_with fail
      have hbv := (HF.out.other (m := w.heap.size) (j := 3) (by omega) (.int .i64 2560)).set5 (.int .i64 k) (.int .i64 a) (.int .i64 ap) (.int .i64 2560) (.int .i64 bp)
      obtain ⟨⟨t1, t2⟩, t3⟩ := id hbv
      refine bodyPost_ret (v := .agg #[.int .i64 k, .int .i64 a, .int .i64 ap, .int .i64 2560, .int .i64 bp]) (by simp [results, Try.results26, go_sem, t2]) rfl ⟨⟨_, _, _, _, _, rfl⟩, ?_, ?_⟩
      · exact ap_new5 (ap_new HX (by omega) _) (by omega) (.int .i64 k) (.int .i64 a) (.int .i64 ap) (.int .i64 2560) (.int .i64 bp)
      · exact ((hr.set (m := w.heap.size) (j := 3) (by omega) (.int .i64 2560)).set5 (by omega) (.int .i64 k) (.int .i64 a) (.int .i64 ap) (.int .i64 2560) (.int .i64 bp)).le (by omega)
    · go_wp2_with fail
      have hbv := (HF.out.other (m := w.heap.size) (j := 3) (by omega) (.int .i64 51201)).set5 (.int .i64 k) (.int .i64 a) (.int .i64 ap) (.int .i64 51201) (.int .i64 bp)
      obtain ⟨⟨t1, t2⟩, t3⟩ := id hbv
      refine bodyPost_ret (v := .agg #[.int .i64 k, .int .i64 a, .int .i64 ap, .int .i64 51201, .int .i64 bp]) (by simp [results, Try.results26, go_sem, t2]) rfl ⟨⟨_, _, _, _, _, rfl⟩, ?_, ?_⟩
      · exact ap_new5 (ap_new HX (by omega) _) (by omega) (.int .i64 k) (.int .i64 a) (.int .i64 ap) (.int .i64 51201) (.int .i64 bp)
      · exact ((hr.set (m := w.heap.size) (j := 3) (by omega) (.int .i64 51201)).set5 (by omega) (.int .i64 k) (.int .i64 a) (.int .i64 ap) (.int .i64 51201) (.int .i64 bp)).le (by omega)
  · skip
    have hBl := bl_alloc (bl_refl w1) (.cells #[.int .i64 0, .int .i64 (-1), .int .i64 65535, .int .i64 65536] 3)
    have bg := Box.new w1 #[.int .i64 0, .int .i64 (-1), .int .i64 65535, .int .i64 65536] 3
    go_wp2_with fail
    refine (pick_rb R _ 4 _ (HR.below hBl) (by omega) (by omega) (by omega)).mono ?_
    rintro e w2 ⟨⟨s, rfl, s0, s1⟩, ha, hr⟩
    have HX := ap_trans (ap_trans HX (ap_of_bl hBl)) ha
    have bf := (bf.below hBl).apart ha (by omega)
    have bx := (bx.below hBl).apart ha (by omega)
    have bg := bg.apart ha (by omega)
    clear hBl ha HR
    obtain ⟨⟨p1, p2⟩, p3⟩ := id bf
    obtain ⟨⟨q1, q2⟩, q3⟩ := id bx
    obtain ⟨g1, g2⟩ := id bg
    have HF : Hid (Bx w2 (w.heap.size + 1) #[.int .i64 0, .int .i64 0, .int .i64 0, .int .i64 0, .int .i64 0]) := bx
    clear bf bx bg
    rcases (show s = 0 ∨ s = 1 ∨ s = 2 ∨ s = 3 by omega) with rfl | rfl | rfl | rfl
    · go_wp2_with fail
      have hbv := (HF.out.other (m := w.heap.size) (j := 2) (by omega) (.int .i64 0)).set5 (.int .i64 k) (.int .i64 a) (.int .i64 0) (.int .i64 b) (.int .i64 bp)
      obtain ⟨⟨t1, t2⟩, t3⟩ := id hbv
      refine bodyPost_ret (v := .agg #[.int .i64 k, .int .i64 a, .int .i64 0, .int .i64 b, .int .i64 bp]) (by simp [results, Try.results26, go_sem, t2]) rfl ⟨⟨_, _, _, _, _, rfl⟩, ?_, ?_⟩
      · exact ap_new5 (ap_new HX (by omega) _) (by omega) (.int .i64 k) (.int .i64 a) (.int .i64 0) (.int .i64 b) (.int .i64 bp)
      · exact ((hr.set (m := w.heap.size) (j := 2) (by omega) (.int .i64 0)).set5 (by omega) (.int .i64 k) (.int .i64 a) (.int .i64 0) (.int .i64 b) (.int .i64 bp)).le (by omega)
    · go_wp2_with fail
      have hbv := (HF.out.other (m := w.heap.size) (j := 2) (by omega) (.int .i64 (-1))).set5 (.int .i64 k) (.int .i64 a) (.int .i64 (-1)) (.int .i64 b) (.int .i64 bp)
      obtain ⟨⟨t1, t2⟩, t3⟩ := id hbv
      refine bodyPost_ret (v := .agg #[.int .i64 k, .int .i64 a, .int .i64 (-1), .int .i64 b, .int .i64 bp]) (by simp [results, Try.results26, go_sem, t2]) rfl ⟨⟨_, _, _, _, _, rfl⟩, ?_, ?_⟩
      · exact ap_new5 (ap_new HX (by omega) _) (by omega) (.int .i64 k) (.int .i64 a) (.int .i64 (-1)) (.int .i64 b) (.int .i64 bp)
      · exact ((hr.set (m := w.heap.size) (j := 2) (by omega) (.int .i64 (-1))).set5 (by omega) (.int .i64 k) (.int .i64 a) (.int .i64 (-1)) (.int .i64 b) (.int .i64 bp)).le (by omega)
    · go_wp2_with fail
      have hbv := (HF.out.other (m := w.heap.size) (j := 2) (by omega) (.int .i64 65535)).set5 (.int .i64 k) (.int .i64 a) (.int .i64 65535) (.int .i64 b) (.int .i64 bp)
      obtain ⟨⟨t1, t2⟩, t3⟩ := id hbv
      refine bodyPost_ret (v := .agg #[.int .i64 k, .int .i64 a, .int .i64 65535, .int .i64 b, .int .i64 bp]) (by simp [results, Try.results26, go_sem, t2]) rfl ⟨⟨_, _, _, _, _, rfl⟩, ?_, ?_⟩
      · exact ap_new5 (ap_new HX (by omega) _) (by omega) (.int .i64 k) (.int .i64 a) (.int .i64 65535) (.int .i64 b) (.int .i64 bp)
      · exact ((hr.set (m := w.heap.size) (j := 2) (by omega) (.int .i64 65535)).set5 (by omega) (.int .i64 k) (.int .i64 a) (.int .i64 65535) (.int .i64 b) (.int .i64 bp)).le (by omega)
    · go_wp2_with fail
      have hbv := (HF.out.other (m := w.heap.size) (j := 2) (by omega) (.int .i64 65536)).set5 (.int .i64 k) (.int .i64 a) (.int .i64 65536) (.int .i64 b) (.int .i64 bp)
      obtain ⟨⟨t1, t2⟩, t3⟩ := id hbv
      refine bodyPost_ret (v := .agg #[.int .i64 k, .int .i64 a, .int .i64 65536, .int .i64 b, .int .i64 bp]) (by simp [results, Try.results26, go_sem, t2]) rfl ⟨⟨_, _, _, _, _, rfl⟩, ?_, ?_⟩
      · exact ap_new5 (ap_new HX (by omega) _) (by omega) (.int .i64 k) (.int .i64 a) (.int .i64 65536) (.int .i64 b) (.int .i64 bp)
      · exact ((hr.set (m := w.heap.size) (j := 2) (by omega) (.int .i64 65536)).set5 (by omega) (.int .i64 k) (.int .i64 a) (.int .i64 65536) (.int .i64 b) (.int .i64 bp)).le (by omega)
  · skip
    have hBl := bl_alloc (bl_refl w1) (.cells #[.int .i64 0, .int .i64 (-1), .int .i64 65535, .int .i64 65536] 3)
    have bg := Box.new w1 #[.int .i64 0, .int .i64 (-1), .int .i64 65535, .int .i64 65536] 3
    go_wp2_with fail
    refine (pick_rb R _ 4 _ (HR.below hBl) (by omega) (by omega) (by omega)).mono ?_
    rintro e w2 ⟨⟨s, rfl, s0, s1⟩, ha, hr⟩
    have HX := ap_trans (ap_trans HX (ap_of_bl hBl)) ha
    have bf := (bf.below hBl).apart ha (by omega)
    have bx := (bx.below hBl).apart ha (by omega)
    have bg := bg.apart ha (by omega)
    clear hBl ha HR
    obtain ⟨⟨p1, p2⟩, p3⟩ := id bf
    obtain ⟨⟨q1, q2⟩, q3⟩ := id bx
    obtain ⟨g1, g2⟩ := id bg
    have HF : Hid (Bx w2 (w.heap.size + 1) #[.int .i64 0, .int .i64 0, .int .i64 0, .int .i64 0, .int .i64 0]) := bx
    clear bf bx bg
    rcases (show s = 0 ∨ s = 1 ∨ s = 2 ∨ s = 3 by omega) with rfl | rfl | rfl | rfl
    · go_wp2_with fail
      have hbv := (HF.out.other (m := w.heap.size) (j := 4) (by omega) (.int .i64 0)).set5 (.int .i64 k) (.int .i64 a) (.int .i64 ap) (.int .i64 b) (.int .i64 0)
      obtain ⟨⟨t1, t2⟩, t3⟩ := id hbv
      refine bodyPost_ret (v := .agg #[.int .i64 k, .int .i64 a, .int .i64 ap, .int .i64 b, .int .i64 0]) (by simp [results, Try.results26, go_sem, t2]) rfl ⟨⟨_, _, _, _, _, rfl⟩, ?_, ?_⟩
      · exact ap_new5 (ap_new HX (by omega) _) (by omega) (.int .i64 k) (.int .i64 a) (.int .i64 ap) (.int .i64 b) (.int .i64 0)
      · exact ((hr.set (m := w.heap.size) (j := 4) (by omega) (.int .i64 0)).set5 (by omega) (.int .i64 k) (.int .i64 a) (.int .i64 ap) (.int .i64 b) (.int .i64 0)).le (by omega)
    · go_wp2_with fail
      have hbv := (HF.out.other (m := w.heap.size) (j := 4) (by omega) (.int .i64 (-1))).set5 (.int .i64 k) (.int .i64 a) (.int .i64 ap) (.int .i64 b) (.int .i64 (-1))
      obtain ⟨⟨t1, t2⟩, t3⟩ := id hbv
      refine bodyPost_ret (v := .agg #[.int .i64 k, .int .i64 a, .int .i64 ap, .int .i64 b, .int .i64 (-1)]) (by simp [results, Try.results26, go_sem, t2]) rfl ⟨⟨_, _, _, _, _, rfl⟩, ?_, ?_⟩
      · exact ap_new5 (ap_new HX (by omega) _) (by omega) (.int .i64 k) (.int .i64 a) (.int .i64 ap) (.int .i64 b) (.int .i64 (-1))
      · exact ((hr.set (m := w.heap.size) (j := 4) (by omega) (.int .i64 (-1))).set5 (by omega) (.int .i64 k) (.int .i64 a) (.int .i64 ap) (.int .i64 b) (.int .i64 (-1))).le (by omega)
    · go_wp2_with fail
      have hbv := (HF.out.other (m := w.heap.size) (j := 4) (by omega) (.int .i64 65535)).set5 (.int .i64 k) (.int .i64 a) (.int .i64 ap) (.int .i64 b) (.int .i64 65535)
      obtain ⟨⟨t1, t2⟩, t3⟩ := id hbv
      refine bodyPost_ret (v := .agg #[.int .i64 k, .int .i64 a, .int .i64 ap, .int .i64 b, .int .i64 65535]) (by simp [results, Try.results26, go_sem, t2]) rfl ⟨⟨_, _, _, _, _, rfl⟩, ?_, ?_⟩
      · exact ap_new5 (ap_new HX (by omega) _) (by omega) (.int .i64 k) (.int .i64 a) (.int .i64 ap) (.int .i64 b) (.int .i64 65535)
      · exact ((hr.set (m := w.heap.size) (j := 4) (by omega) (.int .i64 65535)).set5 (by omega) (.int .i64 k) (.int .i64 a) (.int .i64 ap) (.int .i64 b) (.int .i64 65535)).le (by omega)
    · go_wp2_with fail
      have hbv := (HF.out.other (m := w.heap.size) (j := 4) (by omega) (.int .i64 65536)).set5 (.int .i64 k) (.int .i64 a) (.int .i64 ap) (.int .i64 b) (.int .i64 65536)
      obtain ⟨⟨t1, t2⟩, t3⟩ := id hbv
      refine bodyPost_ret (v := .agg #[.int .i64 k, .int .i64 a, .int .i64 ap, .int .i64 b, .int .i64 65536]) (by simp [results, Try.results26, go_sem, t2]) rfl ⟨⟨_, _, _, _, _, rfl⟩, ?_, ?_⟩
      · exact ap_new5 (ap_new HX (by omega) _) (by omega) (.int .i64 k) (.int .i64 a) (.int .i64 ap) (.int .i64 b) (.int .i64 65536)
      · exact ((hr.set (m := w.heap.size) (j := 4) (by omega) (.int .i64 65536)).set5 (by omega) (.int .i64 k) (.int .i64 a) (.int .i64 ap) (.int .i64 b) (.int .i64 65536)).le (by omega)
end Go.Proofs.Ytcgjpmhjijmplaa
