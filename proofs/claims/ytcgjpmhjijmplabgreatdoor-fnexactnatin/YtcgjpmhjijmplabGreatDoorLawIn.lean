/- The law FnExactNatIn, walked. -/
import Derived.Test.YtcgjpmhjijmplabGreatDoorSpecIn
import Derived.Deep.DeepCutAuto
namespace Go.Proofs.YtcgjpmhjijmplabGreatDoor
open Go.ChangeShapes Go.WideShapes Go.ChangeAt Go.RowKit Go.Maps

theorem bl_set5b {w0 w : World} {n : Nat} {C : Array Value} (_h : Bx w n C) (hB : Below w0.heap.size w0 w) (hn : w0.heap.size ≤ n) (a b c d e : Value) : Below w0.heap.size w0 (((((w.setCell ⟨n, 0, none⟩ a).setCell ⟨n, 1, none⟩ b).setCell ⟨n, 2, none⟩ c).setCell ⟨n, 3, none⟩ d).setCell ⟨n, 4, none⟩ e) := bl_set5 hB hn a b c d e
theorem Box.other5b {w : World} {n m : Nat} {C D : Array Value} (_h : Bx w n C) (x : Box w m D) (hm : m ≠ n) (a b c d e : Value) : Box (((((w.setCell ⟨n, 0, none⟩ a).setCell ⟨n, 1, none⟩ b).setCell ⟨n, 2, none⟩ c).setCell ⟨n, 3, none⟩ d).setCell ⟨n, 4, none⟩ e) m D := x.other5 hm a b c d e
theorem specIn_v {F : Value} {c : Int} (ad ln ow lo hi nw : Int) (da : Option Addr) (dn dc : Nat) (ea : Option Addr) (en ec : Nat) (k a ap b bp : Int) (ds : List Dr) (es : List En) (w : World) (hD : DoorsAt w da dn ds) (hE : EntriesAt w ea en es) (hF : inTold ad ln ow lo hi nw ds es k a ap b bp = F) (hc : inCode ad ln ow lo hi nw ds es k a ap b bp = c) :
    Calls Tryz.prog 7 #[.agg #[.int .i64 ad, .int .i64 ln, .int .i64 ow, .int .i64 lo, .int .i64 hi, .slice da dn dc, .int .i64 nw, .slice ea en ec], .agg #[.int .i64 k, .int .i64 a, .int .i64 ap, .int .i64 b, .int .i64 bp]] w fun e w' => e = .returned (.tuple #[F, .int .i64 c]) ∧ Below w.heap.size w w' := by
  subst hF; subst hc; exact specIn_ret ad ln ow lo hi nw da dn dc ea en ec k a ap b bp ds es w hD hE
theorem implIn_v {F : Value} {c : Int} (ad ln ow lo hi nw : Int) (da : Option Addr) (dn dc : Nat) (ea : Option Addr) (en ec : Nat) (k a ap b bp : Int) (ds : List Dr) (es : List En) (w : World) (hg : Gl w) (hD : DoorsAt w da dn ds) (hE : EntriesAt w ea en es) (hF : inTold ad ln ow lo hi nw ds es k a ap b bp = F) (hc : inCode ad ln ow lo hi nw ds es k a ap b bp = c) :
    Calls Tryz.prog 10 #[.agg #[.int .i64 ad, .int .i64 ln, .int .i64 ow, .int .i64 lo, .int .i64 hi, .slice da dn dc, .int .i64 nw, .slice ea en ec], .agg #[.int .i64 k, .int .i64 a, .int .i64 ap, .int .i64 b, .int .i64 bp]] w fun e w' => e = .returned (.tuple #[F, .int .i64 c]) ∧ Below w.heap.size w w' := by
  subst hF; subst hc; exact implIn_ret ad ln ow lo hi nw da dn dc ea en ec k a ap b bp ds es w hg hD hE
theorem inTold_agg (ad ln ow lo hi nw : Int) (ds : List Dr) (es : List En) (k a ap b bp : Int) : ∃ f1 f2 f3 f4 f5 : Int, inTold ad ln ow lo hi nw ds es k a ap b bp = .agg #[.int .i64 f1, .int .i64 f2, .int .i64 f3, .int .i64 f4, .int .i64 f5] := by
  unfold inTold
  split
  · exact ⟨_, _, _, _, _, rfl⟩
  · exact ⟨_, _, _, _, _, rfl⟩
set_option maxRecDepth 20000 in
set_option maxHeartbeats 4000000 in
theorem lawIn_ret (ad ln ow lo hi nw : Int) (da : Option Addr) (dn dc : Nat) (ea : Option Addr) (en ec : Nat) (k a ap b bp : Int) (ds : List Dr) (es : List En) (w : World) (hg : Gl w) (hd : dn ≤ maxLen) (he : en ≤ maxLen) (hD : DoorsAt w da dn ds) (hE : EntriesAt w ea en es) :
    Calls Tryz.prog 3 #[.agg #[.int .i64 ad, .int .i64 ln, .int .i64 ow, .int .i64 lo, .int .i64 hi, .slice da dn dc, .int .i64 nw, .slice ea en ec], .agg #[.int .i64 k, .int .i64 a, .int .i64 ap, .int .i64 b, .int .i64 bp]] w fun e w' => e = .returned (.bool true) ∧ Below w.heap.size w w' := by
  obtain ⟨f1, f2, f3, f4, f5, hF⟩ := inTold_agg ad ln ow lo hi nw ds es k a ap b bp
  obtain ⟨c, hc⟩ : ∃ c, inCode ad ln ow lo hi nw ds es k a ap b bp = c := ⟨_, rfl⟩
  have hF : Hid (inTold ad ln ow lo hi nw ds es k a ap b bp = .agg #[.int .i64 f1, .int .i64 f2, .int .i64 f3, .int .i64 f4, .int .i64 f5]) := hF
  have hc : Hid (inCode ad ln ow lo hi nw ds es k a ap b bp = c) := hc
  have HD : Hid (∀ W, Below w.heap.size w W → DoorsAt W da dn ds) := fun W h => hD.below h
  have HE : Hid (∀ W, Below w.heap.size w W → EntriesAt W ea en es) := fun W h => hE.below h
  have hld' : dn = ds.length := hD.1
  have hle' : en = es.length := hE.1
  have hB := bl_alloc (bl_alloc (bl_refl w) (.cells #[.int .i64 ad, .int .i64 ln, .int .i64 ow, .int .i64 lo, .int .i64 hi, .slice da dn dc, .int .i64 nw, .slice ea en ec] 25)) (.cells #[.int .i64 k, .int .i64 a, .int .i64 ap, .int .i64 b, .int .i64 bp] 27)
  have xA := (Box.new w #[.int .i64 ad, .int .i64 ln, .int .i64 ow, .int .i64 lo, .int .i64 hi, .slice da dn dc, .int .i64 nw, .slice ea en ec] 25).below (bl_alloc (bl_refl _) (.cells #[.int .i64 k, .int .i64 a, .int .i64 ap, .int .i64 b, .int .i64 bp] 27))
  have xF := Box.new (w.alloc (.cells #[.int .i64 ad, .int .i64 ln, .int .i64 ow, .int .i64 lo, .int .i64 hi, .slice da dn dc, .int .i64 nw, .slice ea en ec] 25)) #[.int .i64 k, .int .i64 a, .int .i64 ap, .int .i64 b, .int .i64 bp] 27
  simp only [World.size_alloc] at xF
  have hq := fun W => szB_ret ad ln ow lo hi nw da dn dc ea en ec W hd he
  have hsz : 0 ≤ szI dn en → dn ≤ 1048576 ∧ en ≤ 1048576 := by
    unfold szI subI
    repeat' split
    all_goals omega
  clear hD hE
  generalize szI dn en = left at hq hsz
  by_cases hl : left < 0
  · clear hsz hld' hle'
    go_enter Tryz.func3, Tryz.ntmps3
    go_wp2_with fail
    refine (hq _).mono ?_
    rintro e w1 ⟨rfl, hb1⟩
    go_wp2
    go_ret
    exact ⟨rfl, bl_trans hB hb1⟩
  · obtain ⟨hld0, hle0⟩ := hsz (by omega)
    have hld : ds.length ≤ 1048576 := by omega
    have hle : es.length ≤ 1048576 := by omega
    have hg : Hid (Gl w) := hg
    clear hsz hld0 hle0 hld' hle'
    go_enter Tryz.func3, Tryz.ntmps3
    go_wp2_with fail
    refine (hq _).mono ?_
    rintro e wr ⟨rfl, hb1⟩
    replace xA := xA.below hb1
    replace xF := xF.below hb1
    replace hB := bl_trans hB hb1
    clear hb1 hq
    have yA := xA.2
    go_upto_region 5 with fail
    clear yA
    go_cut [6, 7] (fun s6 s7 wc => ∃ h : Nat, s6 = .pointer (some ⟨h, 0, none⟩) ∧ s7 = .int .i64 c ∧ w.heap.size + 1 < h ∧ Box wc h #[.int .i64 f1, .int .i64 f2, .int .i64 f3, .int .i64 f4, .int .i64 f5] ∧ Below w.heap.size w wc ∧ Box wc w.heap.size #[.int .i64 ad, .int .i64 ln, .int .i64 ow, .int .i64 lo, .int .i64 hi, .slice da dn dc, .int .i64 nw, .slice ea en ec] ∧ Box wc (w.heap.size + 1) #[.int .i64 k, .int .i64 a, .int .i64 ap, .int .i64 b, .int .i64 bp])
    case first =>
      refine wp_region_held_drew (S := (fun w' => Box w' w.heap.size #[.int .i64 ad, .int .i64 ln, .int .i64 ow, .int .i64 lo, .int .i64 hi, .slice da dn dc, .int .i64 nw, .slice ea en ec] ∧ Box w' (w.heap.size + 1) #[.int .i64 k, .int .i64 a, .int .i64 ap, .int .i64 b, .int .i64 bp])) (by kernel_rfl) ?_ (fun hHeld => ?_)
      · exact ⟨xA.below (bl_drew (bl_refl _)), xF.below (bl_drew (bl_refl _))⟩
      have hq := bl_drew (bl_refl wr)
      replace hB := bl_trans hB hq
      replace xA := xA.below hq
      replace xF := xF.below hq
      clear hq
      generalize wr.drew = W0 at xA xF hB hHeld ⊢
      refine takeAt (i := 0) (d := 17) (v := ?_) rfl (by kernel_rfl) (by kernel_rfl) (by kernel_rfl) (by kernel_rfl) (fun _ _ _ h => h) (Or.inl ⟨by kernel_rfl, ?_⟩) hHeld ?_
      rotate_left
      · (intro w hSw; (try dsimp only at hSw); simp only [Box] at hSw; go_simp; try with_reducible rfl)
      simp only [Act.put, List.setIfInBounds_toArray, List.set_cons_zero, List.set_cons_succ]
      refine takeAt (i := 2) (d := 19) (v := ?_) rfl (by kernel_rfl) (by kernel_rfl) (by kernel_rfl) (by kernel_rfl) (fun _ _ _ h => h) (Or.inl ⟨by kernel_rfl, ?_⟩) hHeld ?_
      rotate_left
      · (intro w hSw; (try dsimp only at hSw); simp only [Box] at hSw; go_simp; try with_reducible rfl)
      simp only [Act.put, List.setIfInBounds_toArray, List.set_cons_zero, List.set_cons_succ]
      refine wpAnyH_ready (rs := [1, 8]) (by kernel_rfl) (by simp) (AllReadyH.cons rfl (fun K hK => ?_) (AllReadyH.cons rfl (fun K hK => ?_) (AllReadyH.nil)))
      · skip
        refine step_callg 18 8 rfl (by kernel_rfl) (toBook_ret ad ln ow lo hi nw da dn dc ea en ec ds es _ hld hle (HD.out _ hB) (HE.out _ hB)) (by kernel_rfl) ?_
        rintro e W ⟨g1, g2, rfl, hb, hDx, hEx⟩
        refine ⟨_, rfl, ?_⟩
        simp only [Act.put, List.setIfInBounds_toArray, List.set_cons_zero, List.set_cons_succ]
        replace hB := bl_trans hB hb
        replace xA := xA.below hb
        replace xF := xF.below hb
        clear hb
        refine hK.out _ _ ?_ (fun hHeld1 => ?_)
        · exact ⟨xA, xF⟩
        clear hK K hHeld
        have hHeld := hHeld1
        clear hHeld1
        refine wpAnyH_ready (rs := [3, 8]) (by kernel_rfl) (by simp) (AllReadyH.cons rfl (fun K hK => ?_) (AllReadyH.cons rfl (fun K hK => ?_) (AllReadyH.nil)))
        · skip
          refine step_callg 20 9 rfl (by kernel_rfl) (toFlow_ret k a ap b bp _) (by kernel_rfl) ?_
          rintro e W ⟨rfl, hb⟩
          refine ⟨_, rfl, ?_⟩
          simp only [Act.put, List.setIfInBounds_toArray, List.set_cons_zero, List.set_cons_succ]
          replace hB := bl_trans hB hb
          replace xA := xA.below hb
          replace xF := xF.below hb
          replace hDx := hDx.below hb
          replace hEx := hEx.below hb
          clear hb
          refine hK.out _ _ ?_ (fun hHeld1 => ?_)
          · exact ⟨xA, xF⟩
          clear hK K hHeld
          have hHeld := hHeld1
          clear hHeld1
          refine wpAnyH_ready (rs := [4, 8]) (by kernel_rfl) (by simp) (AllReadyH.cons rfl (fun K hK => ?_) (AllReadyH.cons rfl (fun K hK => ?_) (AllReadyH.nil)))
          · skip
            refine step_callg 21 7 rfl (by kernel_rfl) (specIn_v (F := .agg #[.int .i64 f1, .int .i64 f2, .int .i64 f3, .int .i64 f4, .int .i64 f5]) (c := c) ad ln ow lo hi nw _ dn dn _ en en k a ap b bp ds es _ hDx hEx hF.out hc.out) (by kernel_rfl) ?_
            rintro e W ⟨rfl, hb⟩
            refine ⟨_, rfl, ?_⟩
            simp only [Act.put, List.setIfInBounds_toArray, List.set_cons_zero, List.set_cons_succ]
            replace hB := bl_trans hB hb
            replace xA := xA.below hb
            replace xF := xF.below hb
            replace hDx := hDx.below hb
            replace hEx := hEx.below hb
            clear hb
            refine hK.out _ _ ?_ (fun hHeld1 => ?_)
            · exact ⟨xA, xF⟩
            clear hK K hHeld
            have hHeld := hHeld1
            clear hHeld1
            refine takeAt (i := 5) (d := 16) (v := ?_) rfl (by kernel_rfl) (by kernel_rfl) (by kernel_rfl) (by kernel_rfl) (fun _ _ _ h => h) (Or.inl ⟨by kernel_rfl, ?_⟩) hHeld ?_
            rotate_left
            · (intro w hSw; (try dsimp only at hSw); simp only [Box] at hSw; go_simp; try with_reducible rfl)
            simp only [Act.put, List.setIfInBounds_toArray, List.set_cons_zero, List.set_cons_succ]
            refine takeAt (i := 6) (d := 22) (v := ?_) rfl (by kernel_rfl) (by kernel_rfl) (by kernel_rfl) (by kernel_rfl) (fun _ _ _ h => h) (Or.inl ⟨by kernel_rfl, ?_⟩) hHeld ?_
            rotate_left
            · (intro w hSw; (try dsimp only at hSw); simp only [Box] at hSw; go_simp; try with_reducible rfl)
            simp only [Act.put, List.setIfInBounds_toArray, List.set_cons_zero, List.set_cons_succ]
            refine takeAt (i := 7) (d := 23) (v := ?_) rfl (by kernel_rfl) (by kernel_rfl) (by kernel_rfl) (by kernel_rfl) (fun _ _ _ h => h) (Or.inl ⟨by kernel_rfl, ?_⟩) hHeld ?_
            rotate_left
            · (intro w hSw; (try dsimp only at hSw); simp only [Box] at hSw; go_simp; try with_reducible rfl)
            simp only [Act.put, List.setIfInBounds_toArray, List.set_cons_zero, List.set_cons_succ]
            refine wpAnyH_ready (rs := [8]) (by kernel_rfl) (by simp) (AllReadyH.cons rfl (fun K hK => ?_) (AllReadyH.nil))
            refine step_val 6 (.pointer (some ⟨W.heap.size, 0, none⟩)) (World.alloc W (.cells #[.int .i64 0, .int .i64 0, .int .i64 0, .int .i64 0, .int .i64 0] 29)) rfl rfl (by kernel_rfl) ?_
            simp only [Act.put, List.setIfInBounds_toArray, List.set_cons_zero, List.set_cons_succ]
            refine hK.out _ _ ?_ (fun hHeld1 => ?_)
            · exact ⟨xA.below (bl_alloc (bl_refl _) _), xF.below (bl_alloc (bl_refl _) _)⟩
            clear hK K hHeld
            have hHeld := hHeld1
            clear hHeld1
            refine wpAnyH_newx (fun W hb bh => ?_)
            have hshB := hB.size
            have htxA := xA.1
            have htxF := xF.1
            replace hB := bl_trans hB hb
            replace xA := xA.below hb
            replace xF := xF.below hb
            replace hDx := hDx.below hb
            replace hEx := hEx.below hb
            clear hHeld hb
            have hHeld : Box _ _ _ ∧ Box _ _ _ := ⟨xA, xF⟩
            refine wpAnyH_ready (rs := [9]) (by kernel_rfl) (by simp) (AllReadyH.cons rfl (fun K hK => ?_) (AllReadyH.nil))
            obtain ⟨⟨q1, q2⟩, q3⟩ := id bh
            go_simp
            replace hB := bl_set5b bh hB (by omega) (.int .i64 f1) (.int .i64 f2) (.int .i64 f3) (.int .i64 f4) (.int .i64 f5)
            replace xA := Box.other5b bh xA (by omega) (.int .i64 f1) (.int .i64 f2) (.int .i64 f3) (.int .i64 f4) (.int .i64 f5)
            replace xF := Box.other5b bh xF (by omega) (.int .i64 f1) (.int .i64 f2) (.int .i64 f3) (.int .i64 f4) (.int .i64 f5)
            replace bh := bh.set5 (.int .i64 f1) (.int .i64 f2) (.int .i64 f3) (.int .i64 f4) (.int .i64 f5)
            refine hK.out _ _ ?_ (fun hHeld1 => ?_)
            · exact ⟨xA, xF⟩
            clear hK K hHeld
            have hHeld := hHeld1
            clear hHeld1
            refine takeAt (i := 10) (d := 7) (v := ?_) rfl (by kernel_rfl) (by kernel_rfl) (by kernel_rfl) (by kernel_rfl) (fun _ _ _ h => h) (Or.inl ⟨by kernel_rfl, ?_⟩) hHeld ?_
            rotate_left
            · (intro w hSw; (try dsimp only at hSw); simp only [Box] at hSw; go_simp; try with_reducible rfl)
            simp only [Act.put, List.setIfInBounds_toArray, List.set_cons_zero, List.set_cons_succ]
            refine wpAnyH_done (by kernel_rfl) ?_ _
            go_wp2_with fail
            go_meet
            exact ⟨_, rfl, rfl, by omega, bh.1, hB, xA, xF⟩
          · skip
            refine step_val 6 (.pointer (some ⟨W.heap.size, 0, none⟩)) (World.alloc W (.cells #[.int .i64 0, .int .i64 0, .int .i64 0, .int .i64 0, .int .i64 0] 29)) rfl rfl (by kernel_rfl) ?_
            simp only [Act.put, List.setIfInBounds_toArray, List.set_cons_zero, List.set_cons_succ]
            refine hK.out _ _ ?_ (fun hHeld1 => ?_)
            · exact ⟨xA.below (bl_alloc (bl_refl _) _), xF.below (bl_alloc (bl_refl _) _)⟩
            clear hK K hHeld
            have hHeld := hHeld1
            clear hHeld1
            refine wpAnyH_newx (fun W hb bh => ?_)
            have hshB := hB.size
            have htxA := xA.1
            have htxF := xF.1
            replace hB := bl_trans hB hb
            replace xA := xA.below hb
            replace xF := xF.below hb
            replace hDx := hDx.below hb
            replace hEx := hEx.below hb
            clear hHeld hb
            have hHeld : Box _ _ _ ∧ Box _ _ _ := ⟨xA, xF⟩
            refine wpAnyH_ready (rs := [4]) (by kernel_rfl) (by simp) (AllReadyH.cons rfl (fun K hK => ?_) (AllReadyH.nil))
            refine step_callg 21 7 rfl (by kernel_rfl) (specIn_v (F := .agg #[.int .i64 f1, .int .i64 f2, .int .i64 f3, .int .i64 f4, .int .i64 f5]) (c := c) ad ln ow lo hi nw _ dn dn _ en en k a ap b bp ds es _ hDx hEx hF.out hc.out) (by kernel_rfl) ?_
            rintro e W ⟨rfl, hb⟩
            refine ⟨_, rfl, ?_⟩
            simp only [Act.put, List.setIfInBounds_toArray, List.set_cons_zero, List.set_cons_succ]
            replace hB := bl_trans hB hb
            replace xA := xA.below hb
            replace xF := xF.below hb
            replace hDx := hDx.below hb
            replace hEx := hEx.below hb
            replace bh := bh.below hb
            clear hb
            refine hK.out _ _ ?_ (fun hHeld1 => ?_)
            · exact ⟨xA, xF⟩
            clear hK K hHeld
            have hHeld := hHeld1
            clear hHeld1
            refine takeAt (i := 5) (d := 16) (v := ?_) rfl (by kernel_rfl) (by kernel_rfl) (by kernel_rfl) (by kernel_rfl) (fun _ _ _ h => h) (Or.inl ⟨by kernel_rfl, ?_⟩) hHeld ?_
            rotate_left
            · (intro w hSw; (try dsimp only at hSw); simp only [Box] at hSw; go_simp; try with_reducible rfl)
            simp only [Act.put, List.setIfInBounds_toArray, List.set_cons_zero, List.set_cons_succ]
            refine takeAt (i := 6) (d := 22) (v := ?_) rfl (by kernel_rfl) (by kernel_rfl) (by kernel_rfl) (by kernel_rfl) (fun _ _ _ h => h) (Or.inl ⟨by kernel_rfl, ?_⟩) hHeld ?_
            rotate_left
            · (intro w hSw; (try dsimp only at hSw); simp only [Box] at hSw; go_simp; try with_reducible rfl)
            simp only [Act.put, List.setIfInBounds_toArray, List.set_cons_zero, List.set_cons_succ]
            refine takeAt (i := 7) (d := 23) (v := ?_) rfl (by kernel_rfl) (by kernel_rfl) (by kernel_rfl) (by kernel_rfl) (fun _ _ _ h => h) (Or.inl ⟨by kernel_rfl, ?_⟩) hHeld ?_
            rotate_left
            · (intro w hSw; (try dsimp only at hSw); simp only [Box] at hSw; go_simp; try with_reducible rfl)
            simp only [Act.put, List.setIfInBounds_toArray, List.set_cons_zero, List.set_cons_succ]
            refine wpAnyH_ready (rs := [9]) (by kernel_rfl) (by simp) (AllReadyH.cons rfl (fun K hK => ?_) (AllReadyH.nil))
            obtain ⟨⟨q1, q2⟩, q3⟩ := id bh
            go_simp
            replace hB := bl_set5b bh hB (by omega) (.int .i64 f1) (.int .i64 f2) (.int .i64 f3) (.int .i64 f4) (.int .i64 f5)
            replace xA := Box.other5b bh xA (by omega) (.int .i64 f1) (.int .i64 f2) (.int .i64 f3) (.int .i64 f4) (.int .i64 f5)
            replace xF := Box.other5b bh xF (by omega) (.int .i64 f1) (.int .i64 f2) (.int .i64 f3) (.int .i64 f4) (.int .i64 f5)
            replace bh := bh.set5 (.int .i64 f1) (.int .i64 f2) (.int .i64 f3) (.int .i64 f4) (.int .i64 f5)
            refine hK.out _ _ ?_ (fun hHeld1 => ?_)
            · exact ⟨xA, xF⟩
            clear hK K hHeld
            have hHeld := hHeld1
            clear hHeld1
            refine takeAt (i := 10) (d := 7) (v := ?_) rfl (by kernel_rfl) (by kernel_rfl) (by kernel_rfl) (by kernel_rfl) (fun _ _ _ h => h) (Or.inl ⟨by kernel_rfl, ?_⟩) hHeld ?_
            rotate_left
            · (intro w hSw; (try dsimp only at hSw); simp only [Box] at hSw; go_simp; try with_reducible rfl)
            simp only [Act.put, List.setIfInBounds_toArray, List.set_cons_zero, List.set_cons_succ]
            refine wpAnyH_done (by kernel_rfl) ?_ _
            go_wp2_with fail
            go_meet
            exact ⟨_, rfl, rfl, by omega, bh.1, hB, xA, xF⟩
        · skip
          refine step_val 6 (.pointer (some ⟨W.heap.size, 0, none⟩)) (World.alloc W (.cells #[.int .i64 0, .int .i64 0, .int .i64 0, .int .i64 0, .int .i64 0] 29)) rfl rfl (by kernel_rfl) ?_
          simp only [Act.put, List.setIfInBounds_toArray, List.set_cons_zero, List.set_cons_succ]
          refine hK.out _ _ ?_ (fun hHeld1 => ?_)
          · exact ⟨xA.below (bl_alloc (bl_refl _) _), xF.below (bl_alloc (bl_refl _) _)⟩
          clear hK K hHeld
          have hHeld := hHeld1
          clear hHeld1
          refine wpAnyH_newx (fun W hb bh => ?_)
          have hshB := hB.size
          have htxA := xA.1
          have htxF := xF.1
          replace hB := bl_trans hB hb
          replace xA := xA.below hb
          replace xF := xF.below hb
          replace hDx := hDx.below hb
          replace hEx := hEx.below hb
          clear hHeld hb
          have hHeld : Box _ _ _ ∧ Box _ _ _ := ⟨xA, xF⟩
          refine wpAnyH_ready (rs := [3]) (by kernel_rfl) (by simp) (AllReadyH.cons rfl (fun K hK => ?_) (AllReadyH.nil))
          refine step_callg 20 9 rfl (by kernel_rfl) (toFlow_ret k a ap b bp _) (by kernel_rfl) ?_
          rintro e W ⟨rfl, hb⟩
          refine ⟨_, rfl, ?_⟩
          simp only [Act.put, List.setIfInBounds_toArray, List.set_cons_zero, List.set_cons_succ]
          replace hB := bl_trans hB hb
          replace xA := xA.below hb
          replace xF := xF.below hb
          replace hDx := hDx.below hb
          replace hEx := hEx.below hb
          replace bh := bh.below hb
          clear hb
          refine hK.out _ _ ?_ (fun hHeld1 => ?_)
          · exact ⟨xA, xF⟩
          clear hK K hHeld
          have hHeld := hHeld1
          clear hHeld1
          refine wpAnyH_ready (rs := [4]) (by kernel_rfl) (by simp) (AllReadyH.cons rfl (fun K hK => ?_) (AllReadyH.nil))
          refine step_callg 21 7 rfl (by kernel_rfl) (specIn_v (F := .agg #[.int .i64 f1, .int .i64 f2, .int .i64 f3, .int .i64 f4, .int .i64 f5]) (c := c) ad ln ow lo hi nw _ dn dn _ en en k a ap b bp ds es _ hDx hEx hF.out hc.out) (by kernel_rfl) ?_
          rintro e W ⟨rfl, hb⟩
          refine ⟨_, rfl, ?_⟩
          simp only [Act.put, List.setIfInBounds_toArray, List.set_cons_zero, List.set_cons_succ]
          replace hB := bl_trans hB hb
          replace xA := xA.below hb
          replace xF := xF.below hb
          replace hDx := hDx.below hb
          replace hEx := hEx.below hb
          replace bh := bh.below hb
          clear hb
          refine hK.out _ _ ?_ (fun hHeld1 => ?_)
          · exact ⟨xA, xF⟩
          clear hK K hHeld
          have hHeld := hHeld1
          clear hHeld1
          refine takeAt (i := 5) (d := 16) (v := ?_) rfl (by kernel_rfl) (by kernel_rfl) (by kernel_rfl) (by kernel_rfl) (fun _ _ _ h => h) (Or.inl ⟨by kernel_rfl, ?_⟩) hHeld ?_
          rotate_left
          · (intro w hSw; (try dsimp only at hSw); simp only [Box] at hSw; go_simp; try with_reducible rfl)
          simp only [Act.put, List.setIfInBounds_toArray, List.set_cons_zero, List.set_cons_succ]
          refine takeAt (i := 6) (d := 22) (v := ?_) rfl (by kernel_rfl) (by kernel_rfl) (by kernel_rfl) (by kernel_rfl) (fun _ _ _ h => h) (Or.inl ⟨by kernel_rfl, ?_⟩) hHeld ?_
          rotate_left
          · (intro w hSw; (try dsimp only at hSw); simp only [Box] at hSw; go_simp; try with_reducible rfl)
          simp only [Act.put, List.setIfInBounds_toArray, List.set_cons_zero, List.set_cons_succ]
          refine takeAt (i := 7) (d := 23) (v := ?_) rfl (by kernel_rfl) (by kernel_rfl) (by kernel_rfl) (by kernel_rfl) (fun _ _ _ h => h) (Or.inl ⟨by kernel_rfl, ?_⟩) hHeld ?_
          rotate_left
          · (intro w hSw; (try dsimp only at hSw); simp only [Box] at hSw; go_simp; try with_reducible rfl)
          simp only [Act.put, List.setIfInBounds_toArray, List.set_cons_zero, List.set_cons_succ]
          refine wpAnyH_ready (rs := [9]) (by kernel_rfl) (by simp) (AllReadyH.cons rfl (fun K hK => ?_) (AllReadyH.nil))
          obtain ⟨⟨q1, q2⟩, q3⟩ := id bh
          go_simp
          replace hB := bl_set5b bh hB (by omega) (.int .i64 f1) (.int .i64 f2) (.int .i64 f3) (.int .i64 f4) (.int .i64 f5)
          replace xA := Box.other5b bh xA (by omega) (.int .i64 f1) (.int .i64 f2) (.int .i64 f3) (.int .i64 f4) (.int .i64 f5)
          replace xF := Box.other5b bh xF (by omega) (.int .i64 f1) (.int .i64 f2) (.int .i64 f3) (.int .i64 f4) (.int .i64 f5)
          replace bh := bh.set5 (.int .i64 f1) (.int .i64 f2) (.int .i64 f3) (.int .i64 f4) (.int .i64 f5)
          refine hK.out _ _ ?_ (fun hHeld1 => ?_)
          · exact ⟨xA, xF⟩
          clear hK K hHeld
          have hHeld := hHeld1
          clear hHeld1
          refine takeAt (i := 10) (d := 7) (v := ?_) rfl (by kernel_rfl) (by kernel_rfl) (by kernel_rfl) (by kernel_rfl) (fun _ _ _ h => h) (Or.inl ⟨by kernel_rfl, ?_⟩) hHeld ?_
          rotate_left
          · (intro w hSw; (try dsimp only at hSw); simp only [Box] at hSw; go_simp; try with_reducible rfl)
          simp only [Act.put, List.setIfInBounds_toArray, List.set_cons_zero, List.set_cons_succ]
          refine wpAnyH_done (by kernel_rfl) ?_ _
          go_wp2_with fail
          go_meet
          exact ⟨_, rfl, rfl, by omega, bh.1, hB, xA, xF⟩
      · skip
        refine step_val 6 (.pointer (some ⟨W0.heap.size, 0, none⟩)) (World.alloc W0 (.cells #[.int .i64 0, .int .i64 0, .int .i64 0, .int .i64 0, .int .i64 0] 29)) rfl rfl (by kernel_rfl) ?_
        simp only [Act.put, List.setIfInBounds_toArray, List.set_cons_zero, List.set_cons_succ]
        refine hK.out _ _ ?_ (fun hHeld1 => ?_)
        · exact ⟨xA.below (bl_alloc (bl_refl _) _), xF.below (bl_alloc (bl_refl _) _)⟩
        clear hK K hHeld
        have hHeld := hHeld1
        clear hHeld1
        refine wpAnyH_newx (fun W hb bh => ?_)
        have hshB := hB.size
        have htxA := xA.1
        have htxF := xF.1
        replace hB := bl_trans hB hb
        replace xA := xA.below hb
        replace xF := xF.below hb
        clear hHeld hb
        have hHeld : Box _ _ _ ∧ Box _ _ _ := ⟨xA, xF⟩
        refine wpAnyH_ready (rs := [1]) (by kernel_rfl) (by simp) (AllReadyH.cons rfl (fun K hK => ?_) (AllReadyH.nil))
        refine step_callg 18 8 rfl (by kernel_rfl) (toBook_ret ad ln ow lo hi nw da dn dc ea en ec ds es _ hld hle (HD.out _ hB) (HE.out _ hB)) (by kernel_rfl) ?_
        rintro e W ⟨g1, g2, rfl, hb, hDx, hEx⟩
        refine ⟨_, rfl, ?_⟩
        simp only [Act.put, List.setIfInBounds_toArray, List.set_cons_zero, List.set_cons_succ]
        replace hB := bl_trans hB hb
        replace xA := xA.below hb
        replace xF := xF.below hb
        replace bh := bh.below hb
        clear hb
        refine hK.out _ _ ?_ (fun hHeld1 => ?_)
        · exact ⟨xA, xF⟩
        clear hK K hHeld
        have hHeld := hHeld1
        clear hHeld1
        refine wpAnyH_ready (rs := [3]) (by kernel_rfl) (by simp) (AllReadyH.cons rfl (fun K hK => ?_) (AllReadyH.nil))
        refine step_callg 20 9 rfl (by kernel_rfl) (toFlow_ret k a ap b bp _) (by kernel_rfl) ?_
        rintro e W ⟨rfl, hb⟩
        refine ⟨_, rfl, ?_⟩
        simp only [Act.put, List.setIfInBounds_toArray, List.set_cons_zero, List.set_cons_succ]
        replace hB := bl_trans hB hb
        replace xA := xA.below hb
        replace xF := xF.below hb
        replace hDx := hDx.below hb
        replace hEx := hEx.below hb
        replace bh := bh.below hb
        clear hb
        refine hK.out _ _ ?_ (fun hHeld1 => ?_)
        · exact ⟨xA, xF⟩
        clear hK K hHeld
        have hHeld := hHeld1
        clear hHeld1
        refine wpAnyH_ready (rs := [4]) (by kernel_rfl) (by simp) (AllReadyH.cons rfl (fun K hK => ?_) (AllReadyH.nil))
        refine step_callg 21 7 rfl (by kernel_rfl) (specIn_v (F := .agg #[.int .i64 f1, .int .i64 f2, .int .i64 f3, .int .i64 f4, .int .i64 f5]) (c := c) ad ln ow lo hi nw _ dn dn _ en en k a ap b bp ds es _ hDx hEx hF.out hc.out) (by kernel_rfl) ?_
        rintro e W ⟨rfl, hb⟩
        refine ⟨_, rfl, ?_⟩
        simp only [Act.put, List.setIfInBounds_toArray, List.set_cons_zero, List.set_cons_succ]
        replace hB := bl_trans hB hb
        replace xA := xA.below hb
        replace xF := xF.below hb
        replace hDx := hDx.below hb
        replace hEx := hEx.below hb
        replace bh := bh.below hb
        clear hb
        refine hK.out _ _ ?_ (fun hHeld1 => ?_)
        · exact ⟨xA, xF⟩
        clear hK K hHeld
        have hHeld := hHeld1
        clear hHeld1
        refine takeAt (i := 5) (d := 16) (v := ?_) rfl (by kernel_rfl) (by kernel_rfl) (by kernel_rfl) (by kernel_rfl) (fun _ _ _ h => h) (Or.inl ⟨by kernel_rfl, ?_⟩) hHeld ?_
        rotate_left
        · (intro w hSw; (try dsimp only at hSw); simp only [Box] at hSw; go_simp; try with_reducible rfl)
        simp only [Act.put, List.setIfInBounds_toArray, List.set_cons_zero, List.set_cons_succ]
        refine takeAt (i := 6) (d := 22) (v := ?_) rfl (by kernel_rfl) (by kernel_rfl) (by kernel_rfl) (by kernel_rfl) (fun _ _ _ h => h) (Or.inl ⟨by kernel_rfl, ?_⟩) hHeld ?_
        rotate_left
        · (intro w hSw; (try dsimp only at hSw); simp only [Box] at hSw; go_simp; try with_reducible rfl)
        simp only [Act.put, List.setIfInBounds_toArray, List.set_cons_zero, List.set_cons_succ]
        refine takeAt (i := 7) (d := 23) (v := ?_) rfl (by kernel_rfl) (by kernel_rfl) (by kernel_rfl) (by kernel_rfl) (fun _ _ _ h => h) (Or.inl ⟨by kernel_rfl, ?_⟩) hHeld ?_
        rotate_left
        · (intro w hSw; (try dsimp only at hSw); simp only [Box] at hSw; go_simp; try with_reducible rfl)
        simp only [Act.put, List.setIfInBounds_toArray, List.set_cons_zero, List.set_cons_succ]
        refine wpAnyH_ready (rs := [9]) (by kernel_rfl) (by simp) (AllReadyH.cons rfl (fun K hK => ?_) (AllReadyH.nil))
        obtain ⟨⟨q1, q2⟩, q3⟩ := id bh
        go_simp
        replace hB := bl_set5b bh hB (by omega) (.int .i64 f1) (.int .i64 f2) (.int .i64 f3) (.int .i64 f4) (.int .i64 f5)
        replace xA := Box.other5b bh xA (by omega) (.int .i64 f1) (.int .i64 f2) (.int .i64 f3) (.int .i64 f4) (.int .i64 f5)
        replace xF := Box.other5b bh xF (by omega) (.int .i64 f1) (.int .i64 f2) (.int .i64 f3) (.int .i64 f4) (.int .i64 f5)
        replace bh := bh.set5 (.int .i64 f1) (.int .i64 f2) (.int .i64 f3) (.int .i64 f4) (.int .i64 f5)
        refine hK.out _ _ ?_ (fun hHeld1 => ?_)
        · exact ⟨xA, xF⟩
        clear hK K hHeld
        have hHeld := hHeld1
        clear hHeld1
        refine takeAt (i := 10) (d := 7) (v := ?_) rfl (by kernel_rfl) (by kernel_rfl) (by kernel_rfl) (by kernel_rfl) (fun _ _ _ h => h) (Or.inl ⟨by kernel_rfl, ?_⟩) hHeld ?_
        rotate_left
        · (intro w hSw; (try dsimp only at hSw); simp only [Box] at hSw; go_simp; try with_reducible rfl)
        simp only [Act.put, List.setIfInBounds_toArray, List.set_cons_zero, List.set_cons_succ]
        refine wpAnyH_done (by kernel_rfl) ?_ _
        go_wp2_with fail
        go_meet
        exact ⟨_, rfl, rfl, by omega, bh.1, hB, xA, xF⟩
    case rest =>
      clear xA xF hB
      obtain ⟨h6, rfl, rfl, hh6, x6, hB, xA, xF⟩ := hcut
      have yA := xA.2
      go_wp2_with fail
      refine (toBook_ret _ _ _ _ _ _ _ _ _ _ _ _ ds es _ hld hle (HD.out _ hB) (HE.out _ hB)).mono ?_
      rintro e w4 ⟨g3, g4, rfl, hb4, hDx, hEx⟩
      clear yA
      replace xA := xA.below hb4
      replace xF := xF.below hb4
      replace x6 := x6.below hb4
      replace hB := bl_trans hB hb4
      have hBl := bl_alloc (bl_refl w4) (.cells #[.int .i64 ad, .int .i64 ln, .int .i64 ow, .int .i64 lo, .int .i64 hi, .slice (some ⟨g3, 0, none⟩) dn dn, .int .i64 nw, .slice (some ⟨g4, 0, none⟩) en en] 35)
      have xO := Box.new w4 #[.int .i64 ad, .int .i64 ln, .int .i64 ow, .int .i64 lo, .int .i64 hi, .slice (some ⟨g3, 0, none⟩) dn dn, .int .i64 nw, .slice (some ⟨g4, 0, none⟩) en en] 35
      replace xA := xA.below hBl
      replace xF := xF.below hBl
      replace x6 := x6.below hBl
      replace hB := bl_trans hB hBl
      replace hDx := hDx.below hBl
      replace hEx := hEx.below hBl
      clear hb4 hBl
      go_upto_region 7 with fail
      have hnb := (Box.new w4 #[.int .i64 ad, .int .i64 ln, .int .i64 ow, .int .i64 lo, .int .i64 hi, .slice (some ⟨g3, 0, none⟩) dn dn, .int .i64 nw, .slice (some ⟨g4, 0, none⟩) en en] 35).1
      generalize w4.heap.size = nb at *
      generalize w4.alloc (.cells #[.int .i64 ad, .int .i64 ln, .int .i64 ow, .int .i64 lo, .int .i64 hi, .slice (some ⟨g3, 0, none⟩) dn dn, .int .i64 nw, .slice (some ⟨g4, 0, none⟩) en en] 35) = wv at *
      have hC := bl_refl wv
      go_cut [9, 10] (fun s9 s10 wc => ∃ h : Nat, s9 = .pointer (some ⟨h, 0, none⟩) ∧ s10 = .int .i64 c ∧ Box wc h #[.int .i64 f1, .int .i64 f2, .int .i64 f3, .int .i64 f4, .int .i64 f5] ∧ Below wv.heap.size wv wc)
      case first =>
        refine wp_region_held_drew (S := (fun w' => Box w' nb #[.int .i64 ad, .int .i64 ln, .int .i64 ow, .int .i64 lo, .int .i64 hi, .slice (some ⟨g3, 0, none⟩) dn dn, .int .i64 nw, .slice (some ⟨g4, 0, none⟩) en en] ∧ Box w' (w.heap.size + 1) #[.int .i64 k, .int .i64 a, .int .i64 ap, .int .i64 b, .int .i64 bp])) (by kernel_rfl) ?_ (fun hHeld => ?_)
        · exact ⟨xO.below (bl_drew (bl_refl _)), xF.below (bl_drew (bl_refl _))⟩
        have hq := bl_drew (bl_refl wv)
        replace hB := bl_trans hB hq
        replace hC := bl_trans hC hq
        replace xO := xO.below hq
        replace xF := xF.below hq
        replace hDx := hDx.below hq
        replace hEx := hEx.below hq
        clear hq
        generalize wv.drew = W0 at xO xF hDx hEx hB hC hHeld ⊢
        refine takeAt (i := 0) (d := 27) (v := ?_) rfl (by kernel_rfl) (by kernel_rfl) (by kernel_rfl) (by kernel_rfl) (fun _ _ _ h => h) (Or.inl ⟨by kernel_rfl, ?_⟩) hHeld ?_
        rotate_left
        · (intro w hSw; (try dsimp only at hSw); simp only [Box] at hSw; go_simp; try with_reducible rfl)
        simp only [Act.put, List.setIfInBounds_toArray, List.set_cons_zero, List.set_cons_succ]
        refine takeAt (i := 1) (d := 28) (v := ?_) rfl (by kernel_rfl) (by kernel_rfl) (by kernel_rfl) (by kernel_rfl) (fun _ _ _ h => h) (Or.inl ⟨by kernel_rfl, ?_⟩) hHeld ?_
        rotate_left
        · (intro w hSw; (try dsimp only at hSw); simp only [Box] at hSw; go_simp; try with_reducible rfl)
        simp only [Act.put, List.setIfInBounds_toArray, List.set_cons_zero, List.set_cons_succ]
        refine wpAnyH_ready (rs := [2, 7]) (by kernel_rfl) (by simp) (AllReadyH.cons rfl (fun K hK => ?_) (AllReadyH.cons rfl (fun K hK => ?_) (AllReadyH.nil)))
        · skip
          refine step_callg 29 9 rfl (by kernel_rfl) (toFlow_ret k a ap b bp _) (by kernel_rfl) ?_
          rintro e W ⟨rfl, hb⟩
          refine ⟨_, rfl, ?_⟩
          simp only [Act.put, List.setIfInBounds_toArray, List.set_cons_zero, List.set_cons_succ]
          replace hB := bl_trans hB hb
          replace hC := bl_trans hC hb
          replace xO := xO.below hb
          replace xF := xF.below hb
          replace hDx := hDx.below hb
          replace hEx := hEx.below hb
          clear hb
          refine hK.out _ _ ?_ (fun hHeld1 => ?_)
          · exact ⟨xO, xF⟩
          clear hK K hHeld
          have hHeld := hHeld1
          clear hHeld1
          refine wpAnyH_ready (rs := [3, 7]) (by kernel_rfl) (by simp) (AllReadyH.cons rfl (fun K hK => ?_) (AllReadyH.cons rfl (fun K hK => ?_) (AllReadyH.nil)))
          · skip
            refine step_callg 30 10 rfl (by kernel_rfl) (implIn_v (F := .agg #[.int .i64 f1, .int .i64 f2, .int .i64 f3, .int .i64 f4, .int .i64 f5]) (c := c) ad ln ow lo hi nw _ dn dn _ en en k a ap b bp ds es _ (hg.out.below hB) hDx hEx hF.out hc.out) (by kernel_rfl) ?_
            rintro e W ⟨rfl, hb⟩
            refine ⟨_, rfl, ?_⟩
            simp only [Act.put, List.setIfInBounds_toArray, List.set_cons_zero, List.set_cons_succ]
            replace hB := bl_trans hB hb
            replace hC := bl_trans hC hb
            replace xO := xO.below hb
            replace xF := xF.below hb
            replace hDx := hDx.below hb
            replace hEx := hEx.below hb
            clear hb
            refine hK.out _ _ ?_ (fun hHeld1 => ?_)
            · exact ⟨xO, xF⟩
            clear hK K hHeld
            have hHeld := hHeld1
            clear hHeld1
            refine takeAt (i := 4) (d := 26) (v := ?_) rfl (by kernel_rfl) (by kernel_rfl) (by kernel_rfl) (by kernel_rfl) (fun _ _ _ h => h) (Or.inl ⟨by kernel_rfl, ?_⟩) hHeld ?_
            rotate_left
            · (intro w hSw; (try dsimp only at hSw); simp only [Box] at hSw; go_simp; try with_reducible rfl)
            simp only [Act.put, List.setIfInBounds_toArray, List.set_cons_zero, List.set_cons_succ]
            refine takeAt (i := 5) (d := 31) (v := ?_) rfl (by kernel_rfl) (by kernel_rfl) (by kernel_rfl) (by kernel_rfl) (fun _ _ _ h => h) (Or.inl ⟨by kernel_rfl, ?_⟩) hHeld ?_
            rotate_left
            · (intro w hSw; (try dsimp only at hSw); simp only [Box] at hSw; go_simp; try with_reducible rfl)
            simp only [Act.put, List.setIfInBounds_toArray, List.set_cons_zero, List.set_cons_succ]
            refine takeAt (i := 6) (d := 32) (v := ?_) rfl (by kernel_rfl) (by kernel_rfl) (by kernel_rfl) (by kernel_rfl) (fun _ _ _ h => h) (Or.inl ⟨by kernel_rfl, ?_⟩) hHeld ?_
            rotate_left
            · (intro w hSw; (try dsimp only at hSw); simp only [Box] at hSw; go_simp; try with_reducible rfl)
            simp only [Act.put, List.setIfInBounds_toArray, List.set_cons_zero, List.set_cons_succ]
            refine wpAnyH_ready (rs := [7]) (by kernel_rfl) (by simp) (AllReadyH.cons rfl (fun K hK => ?_) (AllReadyH.nil))
            refine step_val 9 (.pointer (some ⟨W.heap.size, 0, none⟩)) (World.alloc W (.cells #[.int .i64 0, .int .i64 0, .int .i64 0, .int .i64 0, .int .i64 0] 29)) rfl rfl (by kernel_rfl) ?_
            simp only [Act.put, List.setIfInBounds_toArray, List.set_cons_zero, List.set_cons_succ]
            refine hK.out _ _ ?_ (fun hHeld1 => ?_)
            · exact ⟨xO.below (bl_alloc (bl_refl _) _), xF.below (bl_alloc (bl_refl _) _)⟩
            clear hK K hHeld
            have hHeld := hHeld1
            clear hHeld1
            refine wpAnyH_newx (fun W hb bh => ?_)
            have hshB := hB.size
            have hshC := hC.size
            have htxO := xO.1
            have htxF := xF.1
            replace hB := bl_trans hB hb
            replace hC := bl_trans hC hb
            replace xO := xO.below hb
            replace xF := xF.below hb
            replace hDx := hDx.below hb
            replace hEx := hEx.below hb
            clear hHeld hb
            have hHeld : Box _ _ _ ∧ Box _ _ _ := ⟨xO, xF⟩
            refine wpAnyH_ready (rs := [8]) (by kernel_rfl) (by simp) (AllReadyH.cons rfl (fun K hK => ?_) (AllReadyH.nil))
            obtain ⟨⟨q1, q2⟩, q3⟩ := id bh
            go_simp
            replace hB := bl_set5b bh hB (by omega) (.int .i64 f1) (.int .i64 f2) (.int .i64 f3) (.int .i64 f4) (.int .i64 f5)
            replace hC := bl_set5b bh hC (by omega) (.int .i64 f1) (.int .i64 f2) (.int .i64 f3) (.int .i64 f4) (.int .i64 f5)
            replace xO := Box.other5b bh xO (by omega) (.int .i64 f1) (.int .i64 f2) (.int .i64 f3) (.int .i64 f4) (.int .i64 f5)
            replace xF := Box.other5b bh xF (by omega) (.int .i64 f1) (.int .i64 f2) (.int .i64 f3) (.int .i64 f4) (.int .i64 f5)
            replace bh := bh.set5 (.int .i64 f1) (.int .i64 f2) (.int .i64 f3) (.int .i64 f4) (.int .i64 f5)
            refine hK.out _ _ ?_ (fun hHeld1 => ?_)
            · exact ⟨xO, xF⟩
            clear hK K hHeld
            have hHeld := hHeld1
            clear hHeld1
            refine takeAt (i := 9) (d := 10) (v := ?_) rfl (by kernel_rfl) (by kernel_rfl) (by kernel_rfl) (by kernel_rfl) (fun _ _ _ h => h) (Or.inl ⟨by kernel_rfl, ?_⟩) hHeld ?_
            rotate_left
            · (intro w hSw; (try dsimp only at hSw); simp only [Box] at hSw; go_simp; try with_reducible rfl)
            simp only [Act.put, List.setIfInBounds_toArray, List.set_cons_zero, List.set_cons_succ]
            refine wpAnyH_done (by kernel_rfl) ?_ _
            go_wp2_with fail
            go_meet
            exact ⟨_, rfl, rfl, bh.1, hC⟩
          · skip
            refine step_val 9 (.pointer (some ⟨W.heap.size, 0, none⟩)) (World.alloc W (.cells #[.int .i64 0, .int .i64 0, .int .i64 0, .int .i64 0, .int .i64 0] 29)) rfl rfl (by kernel_rfl) ?_
            simp only [Act.put, List.setIfInBounds_toArray, List.set_cons_zero, List.set_cons_succ]
            refine hK.out _ _ ?_ (fun hHeld1 => ?_)
            · exact ⟨xO.below (bl_alloc (bl_refl _) _), xF.below (bl_alloc (bl_refl _) _)⟩
            clear hK K hHeld
            have hHeld := hHeld1
            clear hHeld1
            refine wpAnyH_newx (fun W hb bh => ?_)
            have hshB := hB.size
            have hshC := hC.size
            have htxO := xO.1
            have htxF := xF.1
            replace hB := bl_trans hB hb
            replace hC := bl_trans hC hb
            replace xO := xO.below hb
            replace xF := xF.below hb
            replace hDx := hDx.below hb
            replace hEx := hEx.below hb
            clear hHeld hb
            have hHeld : Box _ _ _ ∧ Box _ _ _ := ⟨xO, xF⟩
            refine wpAnyH_ready (rs := [3]) (by kernel_rfl) (by simp) (AllReadyH.cons rfl (fun K hK => ?_) (AllReadyH.nil))
            refine step_callg 30 10 rfl (by kernel_rfl) (implIn_v (F := .agg #[.int .i64 f1, .int .i64 f2, .int .i64 f3, .int .i64 f4, .int .i64 f5]) (c := c) ad ln ow lo hi nw _ dn dn _ en en k a ap b bp ds es _ (hg.out.below hB) hDx hEx hF.out hc.out) (by kernel_rfl) ?_
            rintro e W ⟨rfl, hb⟩
            refine ⟨_, rfl, ?_⟩
            simp only [Act.put, List.setIfInBounds_toArray, List.set_cons_zero, List.set_cons_succ]
            replace hB := bl_trans hB hb
            replace hC := bl_trans hC hb
            replace xO := xO.below hb
            replace xF := xF.below hb
            replace hDx := hDx.below hb
            replace hEx := hEx.below hb
            replace bh := bh.below hb
            clear hb
            refine hK.out _ _ ?_ (fun hHeld1 => ?_)
            · exact ⟨xO, xF⟩
            clear hK K hHeld
            have hHeld := hHeld1
            clear hHeld1
            refine takeAt (i := 4) (d := 26) (v := ?_) rfl (by kernel_rfl) (by kernel_rfl) (by kernel_rfl) (by kernel_rfl) (fun _ _ _ h => h) (Or.inl ⟨by kernel_rfl, ?_⟩) hHeld ?_
            rotate_left
            · (intro w hSw; (try dsimp only at hSw); simp only [Box] at hSw; go_simp; try with_reducible rfl)
            simp only [Act.put, List.setIfInBounds_toArray, List.set_cons_zero, List.set_cons_succ]
            refine takeAt (i := 5) (d := 31) (v := ?_) rfl (by kernel_rfl) (by kernel_rfl) (by kernel_rfl) (by kernel_rfl) (fun _ _ _ h => h) (Or.inl ⟨by kernel_rfl, ?_⟩) hHeld ?_
            rotate_left
            · (intro w hSw; (try dsimp only at hSw); simp only [Box] at hSw; go_simp; try with_reducible rfl)
            simp only [Act.put, List.setIfInBounds_toArray, List.set_cons_zero, List.set_cons_succ]
            refine takeAt (i := 6) (d := 32) (v := ?_) rfl (by kernel_rfl) (by kernel_rfl) (by kernel_rfl) (by kernel_rfl) (fun _ _ _ h => h) (Or.inl ⟨by kernel_rfl, ?_⟩) hHeld ?_
            rotate_left
            · (intro w hSw; (try dsimp only at hSw); simp only [Box] at hSw; go_simp; try with_reducible rfl)
            simp only [Act.put, List.setIfInBounds_toArray, List.set_cons_zero, List.set_cons_succ]
            refine wpAnyH_ready (rs := [8]) (by kernel_rfl) (by simp) (AllReadyH.cons rfl (fun K hK => ?_) (AllReadyH.nil))
            obtain ⟨⟨q1, q2⟩, q3⟩ := id bh
            go_simp
            replace hB := bl_set5b bh hB (by omega) (.int .i64 f1) (.int .i64 f2) (.int .i64 f3) (.int .i64 f4) (.int .i64 f5)
            replace hC := bl_set5b bh hC (by omega) (.int .i64 f1) (.int .i64 f2) (.int .i64 f3) (.int .i64 f4) (.int .i64 f5)
            replace xO := Box.other5b bh xO (by omega) (.int .i64 f1) (.int .i64 f2) (.int .i64 f3) (.int .i64 f4) (.int .i64 f5)
            replace xF := Box.other5b bh xF (by omega) (.int .i64 f1) (.int .i64 f2) (.int .i64 f3) (.int .i64 f4) (.int .i64 f5)
            replace bh := bh.set5 (.int .i64 f1) (.int .i64 f2) (.int .i64 f3) (.int .i64 f4) (.int .i64 f5)
            refine hK.out _ _ ?_ (fun hHeld1 => ?_)
            · exact ⟨xO, xF⟩
            clear hK K hHeld
            have hHeld := hHeld1
            clear hHeld1
            refine takeAt (i := 9) (d := 10) (v := ?_) rfl (by kernel_rfl) (by kernel_rfl) (by kernel_rfl) (by kernel_rfl) (fun _ _ _ h => h) (Or.inl ⟨by kernel_rfl, ?_⟩) hHeld ?_
            rotate_left
            · (intro w hSw; (try dsimp only at hSw); simp only [Box] at hSw; go_simp; try with_reducible rfl)
            simp only [Act.put, List.setIfInBounds_toArray, List.set_cons_zero, List.set_cons_succ]
            refine wpAnyH_done (by kernel_rfl) ?_ _
            go_wp2_with fail
            go_meet
            exact ⟨_, rfl, rfl, bh.1, hC⟩
        · skip
          refine step_val 9 (.pointer (some ⟨W0.heap.size, 0, none⟩)) (World.alloc W0 (.cells #[.int .i64 0, .int .i64 0, .int .i64 0, .int .i64 0, .int .i64 0] 29)) rfl rfl (by kernel_rfl) ?_
          simp only [Act.put, List.setIfInBounds_toArray, List.set_cons_zero, List.set_cons_succ]
          refine hK.out _ _ ?_ (fun hHeld1 => ?_)
          · exact ⟨xO.below (bl_alloc (bl_refl _) _), xF.below (bl_alloc (bl_refl _) _)⟩
          clear hK K hHeld
          have hHeld := hHeld1
          clear hHeld1
          refine wpAnyH_newx (fun W hb bh => ?_)
          have hshB := hB.size
          have hshC := hC.size
          have htxO := xO.1
          have htxF := xF.1
          replace hB := bl_trans hB hb
          replace hC := bl_trans hC hb
          replace xO := xO.below hb
          replace xF := xF.below hb
          replace hDx := hDx.below hb
          replace hEx := hEx.below hb
          clear hHeld hb
          have hHeld : Box _ _ _ ∧ Box _ _ _ := ⟨xO, xF⟩
          refine wpAnyH_ready (rs := [2]) (by kernel_rfl) (by simp) (AllReadyH.cons rfl (fun K hK => ?_) (AllReadyH.nil))
          refine step_callg 29 9 rfl (by kernel_rfl) (toFlow_ret k a ap b bp _) (by kernel_rfl) ?_
          rintro e W ⟨rfl, hb⟩
          refine ⟨_, rfl, ?_⟩
          simp only [Act.put, List.setIfInBounds_toArray, List.set_cons_zero, List.set_cons_succ]
          replace hB := bl_trans hB hb
          replace hC := bl_trans hC hb
          replace xO := xO.below hb
          replace xF := xF.below hb
          replace hDx := hDx.below hb
          replace hEx := hEx.below hb
          replace bh := bh.below hb
          clear hb
          refine hK.out _ _ ?_ (fun hHeld1 => ?_)
          · exact ⟨xO, xF⟩
          clear hK K hHeld
          have hHeld := hHeld1
          clear hHeld1
          refine wpAnyH_ready (rs := [3]) (by kernel_rfl) (by simp) (AllReadyH.cons rfl (fun K hK => ?_) (AllReadyH.nil))
          refine step_callg 30 10 rfl (by kernel_rfl) (implIn_v (F := .agg #[.int .i64 f1, .int .i64 f2, .int .i64 f3, .int .i64 f4, .int .i64 f5]) (c := c) ad ln ow lo hi nw _ dn dn _ en en k a ap b bp ds es _ (hg.out.below hB) hDx hEx hF.out hc.out) (by kernel_rfl) ?_
          rintro e W ⟨rfl, hb⟩
          refine ⟨_, rfl, ?_⟩
          simp only [Act.put, List.setIfInBounds_toArray, List.set_cons_zero, List.set_cons_succ]
          replace hB := bl_trans hB hb
          replace hC := bl_trans hC hb
          replace xO := xO.below hb
          replace xF := xF.below hb
          replace hDx := hDx.below hb
          replace hEx := hEx.below hb
          replace bh := bh.below hb
          clear hb
          refine hK.out _ _ ?_ (fun hHeld1 => ?_)
          · exact ⟨xO, xF⟩
          clear hK K hHeld
          have hHeld := hHeld1
          clear hHeld1
          refine takeAt (i := 4) (d := 26) (v := ?_) rfl (by kernel_rfl) (by kernel_rfl) (by kernel_rfl) (by kernel_rfl) (fun _ _ _ h => h) (Or.inl ⟨by kernel_rfl, ?_⟩) hHeld ?_
          rotate_left
          · (intro w hSw; (try dsimp only at hSw); simp only [Box] at hSw; go_simp; try with_reducible rfl)
          simp only [Act.put, List.setIfInBounds_toArray, List.set_cons_zero, List.set_cons_succ]
          refine takeAt (i := 5) (d := 31) (v := ?_) rfl (by kernel_rfl) (by kernel_rfl) (by kernel_rfl) (by kernel_rfl) (fun _ _ _ h => h) (Or.inl ⟨by kernel_rfl, ?_⟩) hHeld ?_
          rotate_left
          · (intro w hSw; (try dsimp only at hSw); simp only [Box] at hSw; go_simp; try with_reducible rfl)
          simp only [Act.put, List.setIfInBounds_toArray, List.set_cons_zero, List.set_cons_succ]
          refine takeAt (i := 6) (d := 32) (v := ?_) rfl (by kernel_rfl) (by kernel_rfl) (by kernel_rfl) (by kernel_rfl) (fun _ _ _ h => h) (Or.inl ⟨by kernel_rfl, ?_⟩) hHeld ?_
          rotate_left
          · (intro w hSw; (try dsimp only at hSw); simp only [Box] at hSw; go_simp; try with_reducible rfl)
          simp only [Act.put, List.setIfInBounds_toArray, List.set_cons_zero, List.set_cons_succ]
          refine wpAnyH_ready (rs := [8]) (by kernel_rfl) (by simp) (AllReadyH.cons rfl (fun K hK => ?_) (AllReadyH.nil))
          obtain ⟨⟨q1, q2⟩, q3⟩ := id bh
          go_simp
          replace hB := bl_set5b bh hB (by omega) (.int .i64 f1) (.int .i64 f2) (.int .i64 f3) (.int .i64 f4) (.int .i64 f5)
          replace hC := bl_set5b bh hC (by omega) (.int .i64 f1) (.int .i64 f2) (.int .i64 f3) (.int .i64 f4) (.int .i64 f5)
          replace xO := Box.other5b bh xO (by omega) (.int .i64 f1) (.int .i64 f2) (.int .i64 f3) (.int .i64 f4) (.int .i64 f5)
          replace xF := Box.other5b bh xF (by omega) (.int .i64 f1) (.int .i64 f2) (.int .i64 f3) (.int .i64 f4) (.int .i64 f5)
          replace bh := bh.set5 (.int .i64 f1) (.int .i64 f2) (.int .i64 f3) (.int .i64 f4) (.int .i64 f5)
          refine hK.out _ _ ?_ (fun hHeld1 => ?_)
          · exact ⟨xO, xF⟩
          clear hK K hHeld
          have hHeld := hHeld1
          clear hHeld1
          refine takeAt (i := 9) (d := 10) (v := ?_) rfl (by kernel_rfl) (by kernel_rfl) (by kernel_rfl) (by kernel_rfl) (fun _ _ _ h => h) (Or.inl ⟨by kernel_rfl, ?_⟩) hHeld ?_
          rotate_left
          · (intro w hSw; (try dsimp only at hSw); simp only [Box] at hSw; go_simp; try with_reducible rfl)
          simp only [Act.put, List.setIfInBounds_toArray, List.set_cons_zero, List.set_cons_succ]
          refine wpAnyH_done (by kernel_rfl) ?_ _
          go_wp2_with fail
          go_meet
          exact ⟨_, rfl, rfl, bh.1, hC⟩
      case rest =>
        clear hC
        obtain ⟨h9, rfl, rfl, x9, hC⟩ := hcut
        replace hB := bl_trans hB hC
        replace xA := xA.below hC
        replace xO := xO.below hC
        replace x6 := x6.below hC
        replace hDx := hDx.below hC
        replace hEx := hEx.below hC
        clear hC
        have y6 := x6.2
        have y9 := x9.2
        go_wp2_with fail
        refine (eqFlow_same f1 f2 f3 f4 f5 _).mono ?_
        rintro e w8 ⟨rfl, hb8⟩
        replace hB := bl_trans hB hb8
        replace xA := xA.below hb8
        replace xO := xO.below hb8
        replace hDx := hDx.below hb8
        replace hEx := hEx.below hb8
        clear hb8 y6 y9
        go_wp2_with fail
        refine wp_region_held_drew (S := (fun w' => Box w' nb #[.int .i64 ad, .int .i64 ln, .int .i64 ow, .int .i64 lo, .int .i64 hi, .slice (some ⟨g3, 0, none⟩) dn dn, .int .i64 nw, .slice (some ⟨g4, 0, none⟩) en en] ∧ Box w' w.heap.size #[.int .i64 ad, .int .i64 ln, .int .i64 ow, .int .i64 lo, .int .i64 hi, .slice da dn dc, .int .i64 nw, .slice ea en ec])) (by kernel_rfl) ?_ (fun hHeld => ?_)
        · exact ⟨xO.below (bl_drew (bl_refl _)), xA.below (bl_drew (bl_refl _))⟩
        have hq := bl_drew (bl_refl w8)
        replace hB := bl_trans hB hq
        replace xO := xO.below hq
        replace xA := xA.below hq
        replace hDx := hDx.below hq
        replace hEx := hEx.below hq
        clear hq
        generalize w8.drew = W0 at xO xA hDx hEx hB hHeld ⊢
        refine takeAt (i := 0) (d := 42) (v := ?_) rfl (by kernel_rfl) (by kernel_rfl) (by kernel_rfl) (by kernel_rfl) (fun _ _ _ h => h) (Or.inl ⟨by kernel_rfl, ?_⟩) hHeld ?_
        rotate_left
        · (intro w hSw; (try dsimp only at hSw); simp only [Box] at hSw; go_simp; try with_reducible rfl)
        simp only [Act.put, List.setIfInBounds_toArray, List.set_cons_zero, List.set_cons_succ]
        refine takeAt (i := 1) (d := 43) (v := ?_) rfl (by kernel_rfl) (by kernel_rfl) (by kernel_rfl) (by kernel_rfl) (fun _ _ _ h => h) (Or.inl ⟨by kernel_rfl, ?_⟩) hHeld ?_
        rotate_left
        · (intro w hSw; (try dsimp only at hSw); simp only [Box] at hSw; go_simp; try with_reducible rfl)
        simp only [Act.put, List.setIfInBounds_toArray, List.set_cons_zero, List.set_cons_succ]
        refine wpAnyH_ready (rs := [2]) (by kernel_rfl) (by simp) (AllReadyH.cons rfl (fun K hK => ?_) (AllReadyH.nil))
        refine step_callg 44 8 rfl (by kernel_rfl) (toBook_ret ad ln ow lo hi nw da dn dc ea en ec ds es _ hld hle (HD.out _ hB) (HE.out _ hB)) (by kernel_rfl) ?_
        rintro e W ⟨g5, g6, rfl, hb, hDy, hEy⟩
        refine ⟨_, rfl, ?_⟩
        simp only [Act.put, List.setIfInBounds_toArray, List.set_cons_zero, List.set_cons_succ]
        replace hB := bl_trans hB hb
        replace xO := xO.below hb
        replace xA := xA.below hb
        replace hDx := hDx.below hb
        replace hEx := hEx.below hb
        clear hb
        refine hK.out _ _ ?_ (fun hHeld1 => ?_)
        · exact ⟨xO, xA⟩
        clear hK K hHeld
        have hHeld := hHeld1
        clear hHeld1
        refine wpAnyH_ready (rs := [3]) (by kernel_rfl) (by simp) (AllReadyH.cons rfl (fun K hK => ?_) (AllReadyH.nil))
        refine step_callg 45 12 rfl (by kernel_rfl) (eqBook_same ad ln ow lo hi nw _ _ dn dn dn _ _ en en en ds es _ hld hle hDx hEx hDy hEy) (by kernel_rfl) ?_
        rintro e W ⟨rfl, hb⟩
        refine ⟨_, rfl, ?_⟩
        simp only [Act.put, List.setIfInBounds_toArray, List.set_cons_zero, List.set_cons_succ]
        replace hB := bl_trans hB hb
        replace xO := xO.below hb
        replace xA := xA.below hb
        clear hb
        refine hK.out _ _ ?_ (fun hHeld1 => ?_)
        · exact ⟨xO, xA⟩
        clear hK K hHeld
        have hHeld := hHeld1
        clear hHeld1
        refine takeAt (i := 4) (d := 46) (v := ?_) rfl (by kernel_rfl) (by kernel_rfl) (by kernel_rfl) (by kernel_rfl) (fun _ _ _ h => h) (Or.inl ⟨by kernel_rfl, ?_⟩) hHeld ?_
        rotate_left
        · (intro w hSw; (try dsimp only at hSw); simp only [Box] at hSw; go_simp; try with_reducible rfl)
        simp only [Act.put, List.setIfInBounds_toArray, List.set_cons_zero, List.set_cons_succ]
        refine wpAnyH_done (by kernel_rfl) ?_ _
        go_wp2_with fail
        go_ret
        exact ⟨rfl, hB⟩
end Go.Proofs.YtcgjpmhjijmplabGreatDoor
