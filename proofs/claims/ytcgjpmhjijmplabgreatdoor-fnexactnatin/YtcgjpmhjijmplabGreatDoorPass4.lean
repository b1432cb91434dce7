/- The program's NatIn at every book and flow, walked. -/
import Derived.Test.YtcgjpmhjijmplabGreatDoorPass3
namespace Go.Proofs.YtcgjpmhjijmplabGreatDoor
open Go.ChangeShapes Go.WideShapes Go.ChangeAt Go.RowKit Go.Maps

theorem bl_set5 {w0 w : World} (h : Below w0.heap.size w0 w) {n : Nat} (hn : w0.heap.size ≤ n) (a b c d e : Value) : Below w0.heap.size w0 (((((w.setCell ⟨n, 0, none⟩ a).setCell ⟨n, 1, none⟩ b).setCell ⟨n, 2, none⟩ c).setCell ⟨n, 3, none⟩ d).setCell ⟨n, 4, none⟩ e) :=
  bl_set (bl_set (bl_set (bl_set (bl_set h hn a) hn b) hn c) hn d) hn e
/-- What NatIn tells: the flow inside beside 0, nothing beside another code. -/
noncomputable def inTold (ad ln ow lo hi nw : Int) (ds : List Dr) (es : List En) (k a ap b bp : Int) : Value :=
  if inCode ad ln ow lo hi nw ds es k a ap b bp = 0 then .agg #[.int .i64 k, .int .i64 a, .int .i64 ap, .int .i64 (inSeat ad ln ow lo hi nw ds es k a ap b bp).2.1, .int .i64 (inSeat ad ln ow lo hi nw ds es k a ap b bp).2.2] else .agg #[.int .i64 0, .int .i64 0, .int .i64 0, .int .i64 0, .int .i64 0]
set_option maxRecDepth 20000 in
set_option maxHeartbeats 4000000 in
theorem implIn_ret (ad ln ow lo hi nw : Int) (da : Option Addr) (dn dc : Nat) (ea : Option Addr) (en ec : Nat) (k a ap b bp : Int) (ds : List Dr) (es : List En) (w : World) (hg : Gl w) (hD : DoorsAt w da dn ds) (hE : EntriesAt w ea en es) :
    Calls Tryz.prog 10 #[.agg #[.int .i64 ad, .int .i64 ln, .int .i64 ow, .int .i64 lo, .int .i64 hi, .slice da dn dc, .int .i64 nw, .slice ea en ec], .agg #[.int .i64 k, .int .i64 a, .int .i64 ap, .int .i64 b, .int .i64 bp]] w fun e w' => e = .returned (.tuple #[inTold ad ln ow lo hi nw ds es k a ap b bp, .int .i64 (inCode ad ln ow lo hi nw ds es k a ap b bp)]) ∧ Below w.heap.size w w' := by
  have hb0 := bl_alloc (bl_alloc (bl_alloc (bl_refl w) (.cells #[.int .i64 ad, .int .i64 ln, .int .i64 ow, .int .i64 lo, .int .i64 hi, .slice da dn dc, .int .i64 nw, .slice ea en ec] 35)) (.cells #[.int .i64 k, .int .i64 a, .int .i64 ap, .int .i64 b, .int .i64 bp] 29)) (.cells #[.int .i64 0, .int .i64 0, .int .i64 0, .int .i64 0, .int .i64 0] 29)
  have x2 := (Bx.new (w.alloc (.cells #[.int .i64 ad, .int .i64 ln, .int .i64 ow, .int .i64 lo, .int .i64 hi, .slice da dn dc, .int .i64 nw, .slice ea en ec] 35)) #[.int .i64 k, .int .i64 a, .int .i64 ap, .int .i64 b, .int .i64 bp] 29).below (bl_alloc (bl_refl _) (.cells #[.int .i64 0, .int .i64 0, .int .i64 0, .int .i64 0, .int .i64 0] 29))
  have bx := Bx.new ((w.alloc (.cells #[.int .i64 ad, .int .i64 ln, .int .i64 ow, .int .i64 lo, .int .i64 hi, .slice da dn dc, .int .i64 nw, .slice ea en ec] 35)).alloc (.cells #[.int .i64 k, .int .i64 a, .int .i64 ap, .int .i64 b, .int .i64 bp] 29)) #[.int .i64 0, .int .i64 0, .int .i64 0, .int .i64 0, .int .i64 0] 29
  simp only [World.size_alloc] at x2 bx
  have H1 : Hid (Calls Tryz.prog _ _ _ _) := receive_ret ad ln ow lo hi nw da dn dc ea en ec k a ap b bp ds es _ (hD.below hb0) (hE.below hb0)
  have hF : Hid (inTold ad ln ow lo hi nw ds es k a ap b bp = if inCode ad ln ow lo hi nw ds es k a ap b bp = 0 then .agg #[.int .i64 k, .int .i64 a, .int .i64 ap, .int .i64 (inSeat ad ln ow lo hi nw ds es k a ap b bp).2.1, .int .i64 (inSeat ad ln ow lo hi nw ds es k a ap b bp).2.2] else .agg #[.int .i64 0, .int .i64 0, .int .i64 0, .int .i64 0, .int .i64 0]) := rfl
  generalize inTold ad ln ow lo hi nw ds es k a ap b bp = F at *
  generalize inCode ad ln ow lo hi nw ds es k a ap b bp = c at *
  generalize inSeat ad ln ow lo hi nw ds es k a ap b bp = s at *
  obtain ⟨s1, s2, s3⟩ := s
  clear hD hE
  by_cases hc : c = 0
  · subst hc
    have hF : Hid (F = .agg #[.int .i64 k, .int .i64 a, .int .i64 ap, .int .i64 s2, .int .i64 s3]) := hF.out
    have H1 : Hid (Calls Tryz.prog _ _ _ fun e w' => e = .returned (.tuple #[.agg #[.int .i64 s1, .int .i64 s2, .int .i64 s3], .nilIface]) ∧ _) := H1
    go_enter Tryz.func10, Tryz.ntmps10
    go_wp2_with fail
    refine H1.out.mono ?_
    rintro e w1 ⟨rfl, hb1⟩
    have hl1 := (bx.below hb1).1.1
    have hBl := bl_alloc (bl_refl w1) (.cells #[.int .i64 s1, .int .i64 s2, .int .i64 s3] 60)
    have x3 := Bx.new w1 #[.int .i64 s1, .int .i64 s2, .int .i64 s3] 60
    have hB := bl_trans (bl_trans hb0 hb1) hBl
    have x2 := (x2.below hb1).below hBl
    have bx := (bx.below hb1).below hBl
    clear H1 hb0 hb1 hBl
    go_wp2_with fail
    generalize hns : w1.heap.size = ns at *
    generalize (w1.alloc (.cells #[.int .i64 s1, .int .i64 s2, .int .i64 s3] 60)) = W9 at x2 x3 bx hB ⊢
    refine wp_region_held_drew (S := (fun w' => Box w' ns #[.int .i64 s1, .int .i64 s2, .int .i64 s3])) (by kernel_rfl) ?_ (fun hHeld => ?_)
    · exact x3.1.below (bl_drew (bl_refl _))
    have hB := bl_drew hB
    have x2 := x2.below (bl_drew (bl_refl _))
    have x3 := x3.below (bl_drew (bl_refl _))
    have bx := bx.below (bl_drew (bl_refl _))
    generalize W9.drew = W0 at x2 x3 bx hB hHeld ⊢
    refine takeAt (i := 0) (d := 19) (v := ?_) rfl (by kernel_rfl) (by kernel_rfl) (by kernel_rfl) (by kernel_rfl) (fun _ _ _ h => h) (Or.inl ⟨by kernel_rfl, ?_⟩) hHeld ?_
    rotate_left
    · (intro w hSw; (try dsimp only at hSw); simp only [Box] at hSw; go_simp; try with_reducible rfl)
    simp only [Act.put, List.setIfInBounds_toArray, List.set_cons_zero, List.set_cons_succ]
    refine takeAt (i := 1) (d := 20) (v := ?_) rfl (by kernel_rfl) (by kernel_rfl) (by kernel_rfl) (by kernel_rfl) (fun _ _ _ h => h) (Or.inl ⟨by kernel_rfl, ?_⟩) hHeld ?_
    rotate_left
    · (intro w hSw; (try dsimp only at hSw); simp only [Box] at hSw; go_simp; try with_reducible rfl)
    simp only [Act.put, List.setIfInBounds_toArray, List.set_cons_zero, List.set_cons_succ]
    refine takeAt (i := 2) (d := 21) (v := ?_) rfl (by kernel_rfl) (by kernel_rfl) (by kernel_rfl) (by kernel_rfl) (fun _ _ _ h => h) (Or.inl ⟨by kernel_rfl, ?_⟩) hHeld ?_
    rotate_left
    · (intro w hSw; (try dsimp only at hSw); simp only [Box] at hSw; go_simp; try with_reducible rfl)
    simp only [Act.put, List.setIfInBounds_toArray, List.set_cons_zero, List.set_cons_succ]
    refine takeAt (i := 3) (d := 22) (v := ?_) rfl (by kernel_rfl) (by kernel_rfl) (by kernel_rfl) (by kernel_rfl) (fun _ _ _ h => h) (Or.inl ⟨by kernel_rfl, ?_⟩) hHeld ?_
    rotate_left
    · (intro w hSw; (try dsimp only at hSw); simp only [Box] at hSw; go_simp; try with_reducible rfl)
    simp only [Act.put, List.setIfInBounds_toArray, List.set_cons_zero, List.set_cons_succ]
    refine takeAt (i := 4) (d := 23) (v := ?_) rfl (by kernel_rfl) (by kernel_rfl) (by kernel_rfl) (by kernel_rfl) (fun _ _ _ h => h) (Or.inl ⟨by kernel_rfl, ?_⟩) hHeld ?_
    rotate_left
    · (intro w hSw; (try dsimp only at hSw); simp only [Box] at hSw; go_simp; try with_reducible rfl)
    simp only [Act.put, List.setIfInBounds_toArray, List.set_cons_zero, List.set_cons_succ]
    refine wpAnyH_ready (rs := [5]) (by kernel_rfl) (by simp) (AllReadyH.cons rfl (fun K hK => ?_) (AllReadyH.nil))
    obtain ⟨⟨q1, q2⟩, q3⟩ := id x2
    go_simp
    have x2 := x2.set (j := 3) (by simp) (.int .i64 s2)
    have hB := bl_set (p := ⟨w.heap.size + 1, 3, none⟩) hB (by simp) (.int .i64 s2)
    have x3 := x3.other (m := w.heap.size + 1) (j := 3) (by omega) (.int .i64 s2)
    have bx := bx.other (m := w.heap.size + 1) (j := 3) (by omega) (.int .i64 s2)
    refine hK.out _ _ ?_ (fun hHeld1 => ?_)
    · exact x3.1
    clear hK K hHeld
    have hHeld := hHeld1
    clear hHeld1
    refine takeAt (i := 6) (d := 24) (v := ?_) rfl (by kernel_rfl) (by kernel_rfl) (by kernel_rfl) (by kernel_rfl) (fun _ _ _ h => h) (Or.inl ⟨by kernel_rfl, ?_⟩) hHeld ?_
    rotate_left
    · (intro w hSw; (try dsimp only at hSw); simp only [Box] at hSw; go_simp; try with_reducible rfl)
    simp only [Act.put, List.setIfInBounds_toArray, List.set_cons_zero, List.set_cons_succ]
    refine wpAnyH_ready (rs := [7]) (by kernel_rfl) (by simp) (AllReadyH.cons rfl (fun K hK => ?_) (AllReadyH.nil))
    obtain ⟨⟨q1, q2⟩, q3⟩ := id x2
    go_simp
    have x2 := x2.set (j := 4) (by simp) (.int .i64 s3)
    have hB := bl_set (p := ⟨w.heap.size + 1, 4, none⟩) hB (by simp) (.int .i64 s3)
    have x3 := x3.other (m := w.heap.size + 1) (j := 4) (by omega) (.int .i64 s3)
    have bx := bx.other (m := w.heap.size + 1) (j := 4) (by omega) (.int .i64 s3)
    refine hK.out _ _ ?_ (fun hHeld1 => ?_)
    · exact x3.1
    clear hK K hHeld
    have hHeld := hHeld1
    clear hHeld1
    refine wpAnyH_done (by kernel_rfl) ?_ _
    have x2 : Bx _ (w.heap.size + 1) #[.int .i64 k, .int .i64 a, .int .i64 ap, .int .i64 s2, .int .i64 s3] := x2
    obtain ⟨⟨q1, q2⟩, q3⟩ := id x2
    obtain ⟨⟨p1, p2⟩, p3⟩ := id bx
    generalize ((W0.setCell ⟨w.heap.size + 1, 3, none⟩ (.int .i64 s2)).setCell ⟨w.heap.size + 1, 4, none⟩ (.int .i64 s3)) = W5 at *
    go_wp2_with fail
    have hbv := bx.set5 (.int .i64 k) (.int .i64 a) (.int .i64 ap) (.int .i64 s2) (.int .i64 s3)
    obtain ⟨⟨t1, t2⟩, t3⟩ := id hbv
    exact bodyPost_ret (v := .tuple #[.agg #[.int .i64 k, .int .i64 a, .int .i64 ap, .int .i64 s2, .int .i64 s3], .int .i64 0]) (by simp [results, Tryz.results10, go_sem, t2]) rfl ⟨by have h := hF.out; simp_all, bl_set5 hB (by omega) (.int .i64 k) (.int .i64 a) (.int .i64 ap) (.int .i64 s2) (.int .i64 s3)⟩
  · have hF : Hid (F = .agg #[.int .i64 0, .int .i64 0, .int .i64 0, .int .i64 0, .int .i64 0]) := by have := hF.out; rw [if_neg hc] at this; exact this
    have hcv : errV c = .iface 107 (.int .i64 c) := by simp [errV, hc]
    rw [hcv] at H1
    go_enter Tryz.func10, Tryz.ntmps10
    go_wp2_with fail
    refine H1.out.mono ?_
    rintro e w1 ⟨rfl, hb1⟩
    have hBl := bl_alloc (bl_refl w1) (.cells #[.int .i64 s1, .int .i64 s2, .int .i64 s3] 60)
    have hB := bl_trans (bl_trans hb0 hb1) hBl
    have bx := (bx.below hb1).below hBl
    have H2 : Hid (Calls Tryz.prog _ _ _ _) := natCode_ret c _ (hg.below hB)
    clear H1 hb0 hb1 hBl
    go_wp2_with fail
    refine H2.out.mono ?_
    rintro e w2 ⟨rfl, hb2⟩
    have hB2 := bl_trans hB hb2
    have bx := bx.below hb2
    clear H2
    obtain ⟨⟨q1, q2⟩, q3⟩ := id bx
    go_wp2_with fail
    have hbv := bx.set5 (.int .i64 0) (.int .i64 0) (.int .i64 0) (.int .i64 0) (.int .i64 0)
    obtain ⟨⟨t1, t2⟩, t3⟩ := id hbv
    exact bodyPost_ret (v := .tuple #[.agg #[.int .i64 0, .int .i64 0, .int .i64 0, .int .i64 0, .int .i64 0], .int .i64 c]) (by simp [results, Tryz.results10, go_sem, t2]) rfl ⟨by have h := hF.out; simp_all, bl_set5 hB2 (by omega) (.int .i64 0) (.int .i64 0) (.int .i64 0) (.int .i64 0) (.int .i64 0)⟩
end Go.Proofs.YtcgjpmhjijmplabGreatDoor
