/- The board of the specification, whole. -/
import Derived.Test.YtcgjpmhjijmplabGreatDoorBrd2
namespace Go.Proofs.YtcgjpmhjijmplabGreatDoor
open Go.ChangeShapes Go.WideShapes Go.ChangeAt Go.RowKit Go.Maps

set_option maxRecDepth 20000 in
theorem l4Entry_live (ad ln ow lo hi nw : Int) (da : Option Addr) (dn dc : Nat) (ea : Option Addr) (en ec : Nat) (d : En) (w : World) (how : 0 ≤ ow ∧ ow ≤ 65535) (hn : 0 ≤ nw ∧ nw ≤ 1000000) (hd : ENum nw d) (hv : liveB nw d.l = true) : Calls Tryz.prog 41 #[.agg #[.int .i64 ad, .int .i64 ln, .int .i64 ow, .int .i64 lo, .int .i64 hi, .slice da dn dc, .int .i64 nw, .slice ea en ec], .agg #[.int .i64 d.k, .int .i64 d.pr, .int .i64 d.pp, .int .i64 d.o, .int .i64 d.i, .int .i64 d.ip, .int .i64 d.l]] w fun e w' => e = .returned (.string (St (flowL ow nw d ++ [10]))) ∧ Below w.heap.size w w' := by
  obtain ⟨⟨k0, k1, k2⟩, ⟨k3, k4, k5⟩, ⟨q0, q1⟩, hlt⟩ := hd
  have hL : nw - d.l < 8 := by simpa [liveB] using hv
  have hB := bl_alloc (bl_alloc (bl_refl w) (.cells #[.int .i64 ad, .int .i64 ln, .int .i64 ow, .int .i64 lo, .int .i64 hi, .slice da dn dc, .int .i64 nw, .slice ea en ec] 35)) (.cells #[.int .i64 d.k, .int .i64 d.pr, .int .i64 d.pp, .int .i64 d.o, .int .i64 d.i, .int .i64 d.ip, .int .i64 d.l] 55)
  have x2 := (Box.new w #[.int .i64 ad, .int .i64 ln, .int .i64 ow, .int .i64 lo, .int .i64 hi, .slice da dn dc, .int .i64 nw, .slice ea en ec] 35).below (bl_alloc (bl_refl _) (.cells #[.int .i64 d.k, .int .i64 d.pr, .int .i64 d.pp, .int .i64 d.o, .int .i64 d.i, .int .i64 d.ip, .int .i64 d.l] 55))
  have x3 := Box.new (w.alloc (.cells #[.int .i64 ad, .int .i64 ln, .int .i64 ow, .int .i64 lo, .int .i64 hi, .slice da dn dc, .int .i64 nw, .slice ea en ec] 35)) #[.int .i64 d.k, .int .i64 d.pr, .int .i64 d.pp, .int .i64 d.o, .int .i64 d.i, .int .i64 d.ip, .int .i64 d.l] 55
  simp only [World.size_alloc] at x3
  obtain ⟨x, hx⟩ : ∃ x, Lib.itoa d.k = x := ⟨_, rfl⟩
  obtain ⟨A1, hA1⟩ : ∃ x, atL d.i d.ip = x := ⟨_, rfl⟩
  obtain ⟨A2, hA2⟩ : ∃ x, atL ow d.o = x := ⟨_, rfl⟩
  obtain ⟨A3, hA3⟩ : ∃ x, atL d.pr d.pp = x := ⟨_, rfl⟩
  have lx : x.length ≤ 21 := hx ▸ itoa_len (by omega) (by omega)
  have lA1 : A1.length ≤ 70 := hA1 ▸ atL_len (by omega) (by omega) (by omega) (by omega)
  have lA2 : A2.length ≤ 70 := hA2 ▸ atL_len (by omega) (by omega) (by omega) (by omega)
  have lA3 : A3.length ≤ 70 := hA3 ▸ atL_len (by omega) (by omega) (by omega) (by omega)
  obtain ⟨z, hz⟩ : ∃ z, Lib.itoa (8 - (nw - d.l)) = z := ⟨_, rfl⟩
  have lz : z.length ≤ 21 := hz ▸ itoa_len (by omega) (by omega)
  have hF : flowL ow nw d ++ [10] = [102, 108, 111, 119, 32] ++ x ++ [32] ++ A1 ++ [32, 97, 115, 32] ++ A2 ++ [32, 116, 111, 32] ++ A3 ++ [32, 108, 101, 102, 116, 32] ++ z ++ [10] := by
    rw [flowL, leftW, leftN, if_pos hv, if_pos hv, hx, hA1, hA2, hA3, hz]
    simp
  obtain ⟨t1, ht1⟩ : ∃ t, t = [102, 108, 111, 119, 32] ++ x := ⟨_, rfl⟩
  have lt1 : t1.length = 5 + x.length := (congrArg List.length ht1).trans List.length_append
  have ft1 := cat_facts ht1 (by omega)
  obtain ⟨t2, ht2⟩ : ∃ t, t = t1 ++ [32] := ⟨_, rfl⟩
  have lt2 : t2.length = t1.length + 1 := (congrArg List.length ht2).trans List.length_append
  have ft2 := cat_facts ht2 (by omega)
  obtain ⟨t3, ht3⟩ : ∃ t, t = t2 ++ A1 := ⟨_, rfl⟩
  have lt3 : t3.length = t2.length + A1.length := (congrArg List.length ht3).trans List.length_append
  have ft3 := cat_facts ht3 (by omega)
  obtain ⟨t4, ht4⟩ : ∃ t, t = t3 ++ [32, 97, 115, 32] := ⟨_, rfl⟩
  have lt4 : t4.length = t3.length + 4 := (congrArg List.length ht4).trans List.length_append
  have ft4 := cat_facts ht4 (by omega)
  obtain ⟨t5, ht5⟩ : ∃ t, t = t4 ++ A2 := ⟨_, rfl⟩
  have lt5 : t5.length = t4.length + A2.length := (congrArg List.length ht5).trans List.length_append
  have ft5 := cat_facts ht5 (by omega)
  obtain ⟨t6, ht6⟩ : ∃ t, t = t5 ++ [32, 116, 111, 32] := ⟨_, rfl⟩
  have lt6 : t6.length = t5.length + 4 := (congrArg List.length ht6).trans List.length_append
  have ft6 := cat_facts ht6 (by omega)
  obtain ⟨t7, ht7⟩ : ∃ t, t = t6 ++ A3 := ⟨_, rfl⟩
  have lt7 : t7.length = t6.length + A3.length := (congrArg List.length ht7).trans List.length_append
  have ft7 := cat_facts ht7 (by omega)
  obtain ⟨s1, hs1⟩ : ∃ t, t = t7 ++ [32, 108, 101, 102, 116, 32] := ⟨_, rfl⟩
  have ls1 : s1.length = t7.length + 6 := (congrArg List.length hs1).trans List.length_append
  have fs1 := cat_facts hs1 (by omega)
  obtain ⟨s2, hs2⟩ : ∃ t, t = s1 ++ z := ⟨_, rfl⟩
  have ls2 : s2.length = s1.length + z.length := (congrArg List.length hs2).trans List.length_append
  have fs2 := cat_facts hs2 (by omega)
  obtain ⟨s3, hs3⟩ : ∃ t, t = s2 ++ [10] := ⟨_, rfl⟩
  have ls3 : s3.length = s2.length + 1 := (congrArg List.length hs3).trans List.length_append
  have fs3 := cat_facts hs3 (by omega)
  rw [hF, show [102, 108, 111, 119, 32] ++ x ++ [32] ++ A1 ++ [32, 97, 115, 32] ++ A2 ++ [32, 116, 111, 32] ++ A3 ++ [32, 108, 101, 102, 116, 32] ++ z ++ [10] = s3 by rw [hs3, hs2, hs1, ht7, ht6, ht5, ht4, ht3, ht2, ht1]]
  have wN : IntKind.i64.wrap (nw - d.l) = nw - d.l := wrapI (by omega) (by omega)
  have wM : IntKind.i64.wrap (8 - (nw - d.l)) = 8 - (nw - d.l) := wrapI (by omega) (by omega)
  have Hx : Hid (∀ w, Calls Tryz.prog 39 #[.int .i64 d.k] w fun e w' => e = .returned (.string (St x)) ∧ Below w.heap.size w w') := fun w => by rw [← hx]; exact l4Dec_i (by omega) (by omega) w
  have HA1 : Hid (∀ w, Calls Tryz.prog 40 #[.int .i64 d.i, .int .i64 d.ip] w fun e w' => e = .returned (.string (St A1)) ∧ Below w.heap.size w w') := fun w => by rw [← hA1]; exact l4At_ret (by omega) (by omega) (by omega) (by omega) w
  have HA2 : Hid (∀ w, Calls Tryz.prog 40 #[.int .i64 ow, .int .i64 d.o] w fun e w' => e = .returned (.string (St A2)) ∧ Below w.heap.size w w') := fun w => by rw [← hA2]; exact l4At_ret (by omega) (by omega) (by omega) (by omega) w
  have HA3 : Hid (∀ w, Calls Tryz.prog 40 #[.int .i64 d.pr, .int .i64 d.pp] w fun e w' => e = .returned (.string (St A3)) ∧ Below w.heap.size w w') := fun w => by rw [← hA3]; exact l4At_ret (by omega) (by omega) (by omega) (by omega) w
  have Hz : Hid (∀ w, Calls Tryz.prog 39 #[.int .i64 (8 - (nw - d.l))] w fun e w' => e = .returned (.string (St z)) ∧ Below w.heap.size w w') := fun w => by rw [← hz]; exact l4Dec_i (by omega) (by omega) w
  have hv : Hid (liveB nw d.l = true) := hv
  clear hF hx hA1 hA2 hA3 hz lx lA1 lA2 lA3 lz
  have kt1 : (9223372036854775807 < 5 + x.length) = False := ft1.1
  have jt1 := ft1.2
  clear ft1 lt1 ht1
  have kt2 : (9223372036854775807 < t1.length + 1) = False := ft2.1
  have jt2 := ft2.2
  clear ft2 lt2 ht2
  have kt3 : (9223372036854775807 < t2.length + A1.length) = False := ft3.1
  have jt3 := ft3.2
  clear ft3 lt3 ht3
  have kt4 : (9223372036854775807 < t3.length + 4) = False := ft4.1
  have jt4 := ft4.2
  clear ft4 lt4 ht4
  have kt5 : (9223372036854775807 < t4.length + A2.length) = False := ft5.1
  have jt5 := ft5.2
  clear ft5 lt5 ht5
  have kt6 : (9223372036854775807 < t5.length + 4) = False := ft6.1
  have jt6 := ft6.2
  clear ft6 lt6 ht6
  have kt7 : (9223372036854775807 < t6.length + A3.length) = False := ft7.1
  have jt7 := ft7.2
  clear ft7 lt7 ht7
  have ks1 : (9223372036854775807 < t7.length + 6) = False := fs1.1
  have js1 := fs1.2
  clear fs1 ls1 hs1
  have ks2 : (9223372036854775807 < s1.length + z.length) = False := fs2.1
  have js2 := fs2.2
  clear fs2 ls2 hs2
  have ks3 : (9223372036854775807 < s2.length + 1) = False := fs3.1
  have js3 := fs3.2
  clear fs3 ls3 hs3
  have n0 : Hid (0 ≤ nw) := hn.1
  have n1 : Hid (nw ≤ 1000000) := hn.2
  have q0 : Hid (0 ≤ d.l) := q0
  have q1 : Hid (d.l ≤ nw) := q1
  clear how hn k0 k1 k2 k3 k4 k5 hlt
  go_enter Tryz.func41, Tryz.ntmps41
  go_upto_region 1 with fail
  generalize ((w.alloc (.cells #[.int .i64 ad, .int .i64 ln, .int .i64 ow, .int .i64 lo, .int .i64 hi, .slice da dn dc, .int .i64 nw, .slice ea en ec] 35)).alloc (.cells #[.int .i64 d.k, .int .i64 d.pr, .int .i64 d.pp, .int .i64 d.o, .int .i64 d.i, .int .i64 d.ip, .int .i64 d.l] 55)) = W2 at *
  generalize w.heap.size + 1 = n3 at *
  generalize hn2 : w.heap.size = n2 at x2 x3 ⊢
  refine wp_region_held_drew (S := (fun w' => Box w' n2 #[.int .i64 ad, .int .i64 ln, .int .i64 ow, .int .i64 lo, .int .i64 hi, .slice da dn dc, .int .i64 nw, .slice ea en ec] ∧ Box w' n3 #[.int .i64 d.k, .int .i64 d.pr, .int .i64 d.pp, .int .i64 d.o, .int .i64 d.i, .int .i64 d.ip, .int .i64 d.l])) (by kernel_rfl) ?_ (fun hHeld => ?_)
  · exact ⟨x2.below (bl_drew (bl_refl _)), x3.below (bl_drew (bl_refl _))⟩
  have hb := bl_drew (bl_refl W2)
  replace x2 := x2.below hb
  replace x3 := x3.below hb
  replace hB := bl_trans hB hb
  clear hb
  generalize W2.drew = W0 at x2 x3 hB hHeld ⊢
  refine takeL 0 6 ?_ ?_ hHeld ?_
  rotate_left
  · (intro w hSw; (try dsimp only at hSw); simp only [Box] at hSw; go_simp; try with_reducible rfl)
  simp only [Act.put, puA, puB, puC]
  refine takeL 1 7 ?_ ?_ hHeld ?_
  rotate_left
  · (intro w hSw; (try dsimp only at hSw); simp only [Box] at hSw; go_simp; try with_reducible rfl)
  simp only [Act.put, puA, puB, puC]
  refine takeL 5 11 ?_ ?_ hHeld ?_
  rotate_left
  · (intro w hSw; (try dsimp only at hSw); simp only [Box] at hSw; go_simp; try with_reducible rfl)
  simp only [Act.put, puA, puB, puC]
  refine takeL 6 12 ?_ ?_ hHeld ?_
  rotate_left
  · (intro w hSw; (try dsimp only at hSw); simp only [Box] at hSw; go_simp; try with_reducible rfl)
  simp only [Act.put, puA, puB, puC]
  refine takeL 7 13 ?_ ?_ hHeld ?_
  rotate_left
  · (intro w hSw; (try dsimp only at hSw); simp only [Box] at hSw; go_simp; try with_reducible rfl)
  simp only [Act.put, puA, puB, puC]
  refine takeL 8 14 ?_ ?_ hHeld ?_
  rotate_left
  · (intro w hSw; (try dsimp only at hSw); simp only [Box] at hSw; go_simp; try with_reducible rfl)
  simp only [Act.put, puA, puB, puC]
  refine takeL 12 18 ?_ ?_ hHeld ?_
  rotate_left
  · (intro w hSw; (try dsimp only at hSw); simp only [Box] at hSw; go_simp; try with_reducible rfl)
  simp only [Act.put, puA, puB, puC]
  refine takeL 13 19 ?_ ?_ hHeld ?_
  rotate_left
  · (intro w hSw; (try dsimp only at hSw); simp only [Box] at hSw; go_simp; try with_reducible rfl)
  simp only [Act.put, puA, puB, puC]
  refine takeL 14 20 ?_ ?_ hHeld ?_
  rotate_left
  · (intro w hSw; (try dsimp only at hSw); simp only [Box] at hSw; go_simp; try with_reducible rfl)
  simp only [Act.put, puA, puB, puC]
  refine takeL 15 21 ?_ ?_ hHeld ?_
  rotate_left
  · (intro w hSw; (try dsimp only at hSw); simp only [Box] at hSw; go_simp; try with_reducible rfl)
  simp only [Act.put, puA, puB, puC]
  refine takeL 19 25 ?_ ?_ hHeld ?_
  rotate_left
  · (intro w hSw; (try dsimp only at hSw); simp only [Box] at hSw; go_simp; try with_reducible rfl)
  simp only [Act.put, puA, puB, puC]
  refine takeL 20 26 ?_ ?_ hHeld ?_
  rotate_left
  · (intro w hSw; (try dsimp only at hSw); simp only [Box] at hSw; go_simp; try with_reducible rfl)
  simp only [Act.put, puA, puB, puC]
  refine takeL 21 27 ?_ ?_ hHeld ?_
  rotate_left
  · (intro w hSw; (try dsimp only at hSw); simp only [Box] at hSw; go_simp; try with_reducible rfl)
  simp only [Act.put, puA, puB, puC]
  refine takeL 22 28 ?_ ?_ hHeld ?_
  rotate_left
  · (intro w hSw; (try dsimp only at hSw); simp only [Box] at hSw; go_simp; try with_reducible rfl)
  simp only [Act.put, puA, puB, puC]
  refine wpAnyH_ready (rs := [2]) (by kernel_rfl) (by simp) (AllReadyH.cons rfl (fun K hK => ?_) (AllReadyH.nil))
  refine step_callg 8 39 rfl (by kernel_rfl) (Hx.out _) (by kernel_rfl) ?_
  rintro e W1 ⟨rfl, hb⟩
  refine ⟨_, rfl, ?_⟩
  simp only [Act.put, puA, puB, puC]
  replace x2 := x2.below hb
  replace x3 := x3.below hb
  replace hB := bl_trans hB hb
  clear hb
  refine hK.out _ _ ?_ (fun hHeld1 => ?_)
  · exact ⟨x2, x3⟩
  clear hK K hHeld
  have hHeld := hHeld1
  clear hHeld1
  refine takeL 3 9 ?_ ?_ hHeld ?_
  rotate_left
  · (intro w hSw; (try dsimp only at hSw); simp only [Box] at hSw; go_simp; try with_reducible rfl)
  simp only [Act.put, puA, puB, puC]
  refine takeL 4 10 ?_ ?_ hHeld ?_
  rotate_left
  · (intro w hSw; (try dsimp only at hSw); simp only [Box] at hSw; go_simp; try with_reducible rfl)
  simp only [Act.put, puA, puB, puC]
  refine wpAnyH_ready (rs := [9]) (by kernel_rfl) (by simp) (AllReadyH.cons rfl (fun K hK => ?_) (AllReadyH.nil))
  refine step_callg 15 40 rfl (by kernel_rfl) (HA1.out _) (by kernel_rfl) ?_
  rintro e W1 ⟨rfl, hb⟩
  refine ⟨_, rfl, ?_⟩
  simp only [Act.put, puA, puB, puC]
  replace x2 := x2.below hb
  replace x3 := x3.below hb
  replace hB := bl_trans hB hb
  clear hb
  refine hK.out _ _ ?_ (fun hHeld1 => ?_)
  · exact ⟨x2, x3⟩
  clear hK K hHeld
  have hHeld := hHeld1
  clear hHeld1
  refine takeL 10 16 ?_ ?_ hHeld ?_
  rotate_left
  · (intro w hSw; (try dsimp only at hSw); simp only [Box] at hSw; go_simp; try with_reducible rfl)
  simp only [Act.put, puA, puB, puC]
  refine takeL 11 17 ?_ ?_ hHeld ?_
  rotate_left
  · (intro w hSw; (try dsimp only at hSw); simp only [Box] at hSw; go_simp; try with_reducible rfl)
  simp only [Act.put, puA, puB, puC]
  refine wpAnyH_ready (rs := [16]) (by kernel_rfl) (by simp) (AllReadyH.cons rfl (fun K hK => ?_) (AllReadyH.nil))
  refine step_callg 22 40 rfl (by kernel_rfl) (HA2.out _) (by kernel_rfl) ?_
  rintro e W1 ⟨rfl, hb⟩
  refine ⟨_, rfl, ?_⟩
  simp only [Act.put, puA, puB, puC]
  replace x2 := x2.below hb
  replace x3 := x3.below hb
  replace hB := bl_trans hB hb
  clear hb
  refine hK.out _ _ ?_ (fun hHeld1 => ?_)
  · exact ⟨x2, x3⟩
  clear hK K hHeld
  have hHeld := hHeld1
  clear hHeld1
  refine takeL 17 23 ?_ ?_ hHeld ?_
  rotate_left
  · (intro w hSw; (try dsimp only at hSw); simp only [Box] at hSw; go_simp; try with_reducible rfl)
  simp only [Act.put, puA, puB, puC]
  refine takeL 18 24 ?_ ?_ hHeld ?_
  rotate_left
  · (intro w hSw; (try dsimp only at hSw); simp only [Box] at hSw; go_simp; try with_reducible rfl)
  simp only [Act.put, puA, puB, puC]
  refine wpAnyH_ready (rs := [23]) (by kernel_rfl) (by simp) (AllReadyH.cons rfl (fun K hK => ?_) (AllReadyH.nil))
  refine step_callg 29 40 rfl (by kernel_rfl) (HA3.out _) (by kernel_rfl) ?_
  rintro e W1 ⟨rfl, hb⟩
  refine ⟨_, rfl, ?_⟩
  simp only [Act.put, puA, puB, puC]
  replace x2 := x2.below hb
  replace x3 := x3.below hb
  replace hB := bl_trans hB hb
  clear hb
  refine hK.out _ _ ?_ (fun hHeld1 => ?_)
  · exact ⟨x2, x3⟩
  clear hK K hHeld
  have hHeld := hHeld1
  clear hHeld1
  refine takeL 24 30 ?_ ?_ hHeld ?_
  rotate_left
  · (intro w hSw; (try dsimp only at hSw); simp only [Box] at hSw; go_simp; try with_reducible rfl)
  simp only [Act.put, puA, puB, puC]
  refine takeL 25 5 ?_ ?_ hHeld ?_
  rotate_left
  · (intro w hSw; (try dsimp only at hSw); simp only [Box] at hSw; go_simp; try with_reducible rfl)
  simp only [Act.put, puA, puB, puC]
  refine wpAnyH_done (by kernel_rfl) ?_ _
  clear hHeld
  have y2 := x2.2
  have y3 := x3.2
  go_wp2_with fail
  refine (l2Live_b ad ln ow lo hi nw da dn dc ea en ec d _ n0.out n1.out q0.out q1.out true hv.out).mono ?_
  rintro e W3 ⟨rfl, hb⟩
  replace x2 := x2.below hb
  replace x3 := x3.below hb
  replace hB := bl_trans hB hb
  clear hb y2 y3
  have y2 := x2.2
  have y3 := x3.2
  go_wp2_with fail
  refine (Hz.out _).mono ?_
  rintro e W4 ⟨rfl, hb⟩
  replace hB := bl_trans hB hb
  go_wp2_with fail
  go_ret
  exact ⟨rfl, hB⟩
set_option maxRecDepth 20000 in
theorem l4Entry_rest (ad ln ow lo hi nw : Int) (da : Option Addr) (dn dc : Nat) (ea : Option Addr) (en ec : Nat) (d : En) (w : World) (how : 0 ≤ ow ∧ ow ≤ 65535) (hn : 0 ≤ nw ∧ nw ≤ 1000000) (hd : ENum nw d) (hv : ¬ liveB nw d.l = true) : Calls Tryz.prog 41 #[.agg #[.int .i64 ad, .int .i64 ln, .int .i64 ow, .int .i64 lo, .int .i64 hi, .slice da dn dc, .int .i64 nw, .slice ea en ec], .agg #[.int .i64 d.k, .int .i64 d.pr, .int .i64 d.pp, .int .i64 d.o, .int .i64 d.i, .int .i64 d.ip, .int .i64 d.l]] w fun e w' => e = .returned (.string (St (flowL ow nw d ++ [10]))) ∧ Below w.heap.size w w' := by
  obtain ⟨⟨k0, k1, k2⟩, ⟨k3, k4, k5⟩, ⟨q0, q1⟩, hlt⟩ := hd
  have hB := bl_alloc (bl_alloc (bl_refl w) (.cells #[.int .i64 ad, .int .i64 ln, .int .i64 ow, .int .i64 lo, .int .i64 hi, .slice da dn dc, .int .i64 nw, .slice ea en ec] 35)) (.cells #[.int .i64 d.k, .int .i64 d.pr, .int .i64 d.pp, .int .i64 d.o, .int .i64 d.i, .int .i64 d.ip, .int .i64 d.l] 55)
  have x2 := (Box.new w #[.int .i64 ad, .int .i64 ln, .int .i64 ow, .int .i64 lo, .int .i64 hi, .slice da dn dc, .int .i64 nw, .slice ea en ec] 35).below (bl_alloc (bl_refl _) (.cells #[.int .i64 d.k, .int .i64 d.pr, .int .i64 d.pp, .int .i64 d.o, .int .i64 d.i, .int .i64 d.ip, .int .i64 d.l] 55))
  have x3 := Box.new (w.alloc (.cells #[.int .i64 ad, .int .i64 ln, .int .i64 ow, .int .i64 lo, .int .i64 hi, .slice da dn dc, .int .i64 nw, .slice ea en ec] 35)) #[.int .i64 d.k, .int .i64 d.pr, .int .i64 d.pp, .int .i64 d.o, .int .i64 d.i, .int .i64 d.ip, .int .i64 d.l] 55
  simp only [World.size_alloc] at x3
  obtain ⟨x, hx⟩ : ∃ x, Lib.itoa d.k = x := ⟨_, rfl⟩
  obtain ⟨A1, hA1⟩ : ∃ x, atL d.i d.ip = x := ⟨_, rfl⟩
  obtain ⟨A2, hA2⟩ : ∃ x, atL ow d.o = x := ⟨_, rfl⟩
  obtain ⟨A3, hA3⟩ : ∃ x, atL d.pr d.pp = x := ⟨_, rfl⟩
  have lx : x.length ≤ 21 := hx ▸ itoa_len (by omega) (by omega)
  have lA1 : A1.length ≤ 70 := hA1 ▸ atL_len (by omega) (by omega) (by omega) (by omega)
  have lA2 : A2.length ≤ 70 := hA2 ▸ atL_len (by omega) (by omega) (by omega) (by omega)
  have lA3 : A3.length ≤ 70 := hA3 ▸ atL_len (by omega) (by omega) (by omega) (by omega)
  obtain ⟨z, hz⟩ : ∃ z, Lib.itoa (12 - (nw - d.l)) = z := ⟨_, rfl⟩
  have lz : z.length ≤ 21 := hz ▸ itoa_len (by omega) (by omega)
  have hF : flowL ow nw d ++ [10] = [102, 108, 111, 119, 32] ++ x ++ [32] ++ A1 ++ [32, 97, 115, 32] ++ A2 ++ [32, 116, 111, 32] ++ A3 ++ [32, 114, 101, 115, 116, 115, 32] ++ z ++ [10] := by
    rw [flowL, leftW, leftN, if_neg hv, if_neg hv, hx, hA1, hA2, hA3, hz]
    simp
  obtain ⟨t1, ht1⟩ : ∃ t, t = [102, 108, 111, 119, 32] ++ x := ⟨_, rfl⟩
  have lt1 : t1.length = 5 + x.length := (congrArg List.length ht1).trans List.length_append
  have ft1 := cat_facts ht1 (by omega)
  obtain ⟨t2, ht2⟩ : ∃ t, t = t1 ++ [32] := ⟨_, rfl⟩
  have lt2 : t2.length = t1.length + 1 := (congrArg List.length ht2).trans List.length_append
  have ft2 := cat_facts ht2 (by omega)
  obtain ⟨t3, ht3⟩ : ∃ t, t = t2 ++ A1 := ⟨_, rfl⟩
  have lt3 : t3.length = t2.length + A1.length := (congrArg List.length ht3).trans List.length_append
  have ft3 := cat_facts ht3 (by omega)
  obtain ⟨t4, ht4⟩ : ∃ t, t = t3 ++ [32, 97, 115, 32] := ⟨_, rfl⟩
  have lt4 : t4.length = t3.length + 4 := (congrArg List.length ht4).trans List.length_append
  have ft4 := cat_facts ht4 (by omega)
  obtain ⟨t5, ht5⟩ : ∃ t, t = t4 ++ A2 := ⟨_, rfl⟩
  have lt5 : t5.length = t4.length + A2.length := (congrArg List.length ht5).trans List.length_append
  have ft5 := cat_facts ht5 (by omega)
  obtain ⟨t6, ht6⟩ : ∃ t, t = t5 ++ [32, 116, 111, 32] := ⟨_, rfl⟩
  have lt6 : t6.length = t5.length + 4 := (congrArg List.length ht6).trans List.length_append
  have ft6 := cat_facts ht6 (by omega)
  obtain ⟨t7, ht7⟩ : ∃ t, t = t6 ++ A3 := ⟨_, rfl⟩
  have lt7 : t7.length = t6.length + A3.length := (congrArg List.length ht7).trans List.length_append
  have ft7 := cat_facts ht7 (by omega)
  obtain ⟨s1, hs1⟩ : ∃ t, t = t7 ++ [32, 114, 101, 115, 116, 115, 32] := ⟨_, rfl⟩
  have ls1 : s1.length = t7.length + 7 := (congrArg List.length hs1).trans List.length_append
  have fs1 := cat_facts hs1 (by omega)
  obtain ⟨s2, hs2⟩ : ∃ t, t = s1 ++ z := ⟨_, rfl⟩
  have ls2 : s2.length = s1.length + z.length := (congrArg List.length hs2).trans List.length_append
  have fs2 := cat_facts hs2 (by omega)
  obtain ⟨s3, hs3⟩ : ∃ t, t = s2 ++ [10] := ⟨_, rfl⟩
  have ls3 : s3.length = s2.length + 1 := (congrArg List.length hs3).trans List.length_append
  have fs3 := cat_facts hs3 (by omega)
  rw [hF, show [102, 108, 111, 119, 32] ++ x ++ [32] ++ A1 ++ [32, 97, 115, 32] ++ A2 ++ [32, 116, 111, 32] ++ A3 ++ [32, 114, 101, 115, 116, 115, 32] ++ z ++ [10] = s3 by rw [hs3, hs2, hs1, ht7, ht6, ht5, ht4, ht3, ht2, ht1]]
  have wN : IntKind.i64.wrap (nw - d.l) = nw - d.l := wrapI (by omega) (by omega)
  have wM : IntKind.i64.wrap (12 - (nw - d.l)) = 12 - (nw - d.l) := wrapI (by omega) (by omega)
  have Hx : Hid (∀ w, Calls Tryz.prog 39 #[.int .i64 d.k] w fun e w' => e = .returned (.string (St x)) ∧ Below w.heap.size w w') := fun w => by rw [← hx]; exact l4Dec_i (by omega) (by omega) w
  have HA1 : Hid (∀ w, Calls Tryz.prog 40 #[.int .i64 d.i, .int .i64 d.ip] w fun e w' => e = .returned (.string (St A1)) ∧ Below w.heap.size w w') := fun w => by rw [← hA1]; exact l4At_ret (by omega) (by omega) (by omega) (by omega) w
  have HA2 : Hid (∀ w, Calls Tryz.prog 40 #[.int .i64 ow, .int .i64 d.o] w fun e w' => e = .returned (.string (St A2)) ∧ Below w.heap.size w w') := fun w => by rw [← hA2]; exact l4At_ret (by omega) (by omega) (by omega) (by omega) w
  have HA3 : Hid (∀ w, Calls Tryz.prog 40 #[.int .i64 d.pr, .int .i64 d.pp] w fun e w' => e = .returned (.string (St A3)) ∧ Below w.heap.size w w') := fun w => by rw [← hA3]; exact l4At_ret (by omega) (by omega) (by omega) (by omega) w
  have Hz : Hid (∀ w, Calls Tryz.prog 39 #[.int .i64 (12 - (nw - d.l))] w fun e w' => e = .returned (.string (St z)) ∧ Below w.heap.size w w') := fun w => by rw [← hz]; exact l4Dec_i (by omega) (by omega) w
  have hv : Hid (liveB nw d.l = false) := Bool.eq_false_iff.2 hv
  clear hF hx hA1 hA2 hA3 hz lx lA1 lA2 lA3 lz
  have kt1 : (9223372036854775807 < 5 + x.length) = False := ft1.1
  have jt1 := ft1.2
  clear ft1 lt1 ht1
  have kt2 : (9223372036854775807 < t1.length + 1) = False := ft2.1
  have jt2 := ft2.2
  clear ft2 lt2 ht2
  have kt3 : (9223372036854775807 < t2.length + A1.length) = False := ft3.1
  have jt3 := ft3.2
  clear ft3 lt3 ht3
  have kt4 : (9223372036854775807 < t3.length + 4) = False := ft4.1
  have jt4 := ft4.2
  clear ft4 lt4 ht4
  have kt5 : (9223372036854775807 < t4.length + A2.length) = False := ft5.1
  have jt5 := ft5.2
  clear ft5 lt5 ht5
  have kt6 : (9223372036854775807 < t5.length + 4) = False := ft6.1
  have jt6 := ft6.2
  clear ft6 lt6 ht6
  have kt7 : (9223372036854775807 < t6.length + A3.length) = False := ft7.1
  have jt7 := ft7.2
  clear ft7 lt7 ht7
  have ks1 : (9223372036854775807 < t7.length + 7) = False := fs1.1
  have js1 := fs1.2
  clear fs1 ls1 hs1
  have ks2 : (9223372036854775807 < s1.length + z.length) = False := fs2.1
  have js2 := fs2.2
  clear fs2 ls2 hs2
  have ks3 : (9223372036854775807 < s2.length + 1) = False := fs3.1
  have js3 := fs3.2
  clear fs3 ls3 hs3
  have n0 : Hid (0 ≤ nw) := hn.1
  have n1 : Hid (nw ≤ 1000000) := hn.2
  have q0 : Hid (0 ≤ d.l) := q0
  have q1 : Hid (d.l ≤ nw) := q1
  clear how hn k0 k1 k2 k3 k4 k5 hlt
  go_enter Tryz.func41, Tryz.ntmps41
  go_upto_region 1 with fail
  generalize ((w.alloc (.cells #[.int .i64 ad, .int .i64 ln, .int .i64 ow, .int .i64 lo, .int .i64 hi, .slice da dn dc, .int .i64 nw, .slice ea en ec] 35)).alloc (.cells #[.int .i64 d.k, .int .i64 d.pr, .int .i64 d.pp, .int .i64 d.o, .int .i64 d.i, .int .i64 d.ip, .int .i64 d.l] 55)) = W2 at *
  generalize w.heap.size + 1 = n3 at *
  generalize hn2 : w.heap.size = n2 at x2 x3 ⊢
  refine wp_region_held_drew (S := (fun w' => Box w' n2 #[.int .i64 ad, .int .i64 ln, .int .i64 ow, .int .i64 lo, .int .i64 hi, .slice da dn dc, .int .i64 nw, .slice ea en ec] ∧ Box w' n3 #[.int .i64 d.k, .int .i64 d.pr, .int .i64 d.pp, .int .i64 d.o, .int .i64 d.i, .int .i64 d.ip, .int .i64 d.l])) (by kernel_rfl) ?_ (fun hHeld => ?_)
  · exact ⟨x2.below (bl_drew (bl_refl _)), x3.below (bl_drew (bl_refl _))⟩
  have hb := bl_drew (bl_refl W2)
  replace x2 := x2.below hb
  replace x3 := x3.below hb
  replace hB := bl_trans hB hb
  clear hb
  generalize W2.drew = W0 at x2 x3 hB hHeld ⊢
  refine takeL 0 6 ?_ ?_ hHeld ?_
  rotate_left
  · (intro w hSw; (try dsimp only at hSw); simp only [Box] at hSw; go_simp; try with_reducible rfl)
  simp only [Act.put, puA, puB, puC]
  refine takeL 1 7 ?_ ?_ hHeld ?_
  rotate_left
  · (intro w hSw; (try dsimp only at hSw); simp only [Box] at hSw; go_simp; try with_reducible rfl)
  simp only [Act.put, puA, puB, puC]
  refine takeL 5 11 ?_ ?_ hHeld ?_
  rotate_left
  · (intro w hSw; (try dsimp only at hSw); simp only [Box] at hSw; go_simp; try with_reducible rfl)
  simp only [Act.put, puA, puB, puC]
  refine takeL 6 12 ?_ ?_ hHeld ?_
  rotate_left
  · (intro w hSw; (try dsimp only at hSw); simp only [Box] at hSw; go_simp; try with_reducible rfl)
  simp only [Act.put, puA, puB, puC]
  refine takeL 7 13 ?_ ?_ hHeld ?_
  rotate_left
  · (intro w hSw; (try dsimp only at hSw); simp only [Box] at hSw; go_simp; try with_reducible rfl)
  simp only [Act.put, puA, puB, puC]
  refine takeL 8 14 ?_ ?_ hHeld ?_
  rotate_left
  · (intro w hSw; (try dsimp only at hSw); simp only [Box] at hSw; go_simp; try with_reducible rfl)
  simp only [Act.put, puA, puB, puC]
  refine takeL 12 18 ?_ ?_ hHeld ?_
  rotate_left
  · (intro w hSw; (try dsimp only at hSw); simp only [Box] at hSw; go_simp; try with_reducible rfl)
  simp only [Act.put, puA, puB, puC]
  refine takeL 13 19 ?_ ?_ hHeld ?_
  rotate_left
  · (intro w hSw; (try dsimp only at hSw); simp only [Box] at hSw; go_simp; try with_reducible rfl)
  simp only [Act.put, puA, puB, puC]
  refine takeL 14 20 ?_ ?_ hHeld ?_
  rotate_left
  · (intro w hSw; (try dsimp only at hSw); simp only [Box] at hSw; go_simp; try with_reducible rfl)
  simp only [Act.put, puA, puB, puC]
  refine takeL 15 21 ?_ ?_ hHeld ?_
  rotate_left
  · (intro w hSw; (try dsimp only at hSw); simp only [Box] at hSw; go_simp; try with_reducible rfl)
  simp only [Act.put, puA, puB, puC]
  refine takeL 19 25 ?_ ?_ hHeld ?_
  rotate_left
  · (intro w hSw; (try dsimp only at hSw); simp only [Box] at hSw; go_simp; try with_reducible rfl)
  simp only [Act.put, puA, puB, puC]
  refine takeL 20 26 ?_ ?_ hHeld ?_
  rotate_left
  · (intro w hSw; (try dsimp only at hSw); simp only [Box] at hSw; go_simp; try with_reducible rfl)
  simp only [Act.put, puA, puB, puC]
  refine takeL 21 27 ?_ ?_ hHeld ?_
  rotate_left
  · (intro w hSw; (try dsimp only at hSw); simp only [Box] at hSw; go_simp; try with_reducible rfl)
  simp only [Act.put, puA, puB, puC]
  refine takeL 22 28 ?_ ?_ hHeld ?_
  rotate_left
  · (intro w hSw; (try dsimp only at hSw); simp only [Box] at hSw; go_simp; try with_reducible rfl)
  simp only [Act.put, puA, puB, puC]
  refine wpAnyH_ready (rs := [2]) (by kernel_rfl) (by simp) (AllReadyH.cons rfl (fun K hK => ?_) (AllReadyH.nil))
  refine step_callg 8 39 rfl (by kernel_rfl) (Hx.out _) (by kernel_rfl) ?_
  rintro e W1 ⟨rfl, hb⟩
  refine ⟨_, rfl, ?_⟩
  simp only [Act.put, puA, puB, puC]
  replace x2 := x2.below hb
  replace x3 := x3.below hb
  replace hB := bl_trans hB hb
  clear hb
  refine hK.out _ _ ?_ (fun hHeld1 => ?_)
  · exact ⟨x2, x3⟩
  clear hK K hHeld
  have hHeld := hHeld1
  clear hHeld1
  refine takeL 3 9 ?_ ?_ hHeld ?_
  rotate_left
  · (intro w hSw; (try dsimp only at hSw); simp only [Box] at hSw; go_simp; try with_reducible rfl)
  simp only [Act.put, puA, puB, puC]
  refine takeL 4 10 ?_ ?_ hHeld ?_
  rotate_left
  · (intro w hSw; (try dsimp only at hSw); simp only [Box] at hSw; go_simp; try with_reducible rfl)
  simp only [Act.put, puA, puB, puC]
  refine wpAnyH_ready (rs := [9]) (by kernel_rfl) (by simp) (AllReadyH.cons rfl (fun K hK => ?_) (AllReadyH.nil))
  refine step_callg 15 40 rfl (by kernel_rfl) (HA1.out _) (by kernel_rfl) ?_
  rintro e W1 ⟨rfl, hb⟩
  refine ⟨_, rfl, ?_⟩
  simp only [Act.put, puA, puB, puC]
  replace x2 := x2.below hb
  replace x3 := x3.below hb
  replace hB := bl_trans hB hb
  clear hb
  refine hK.out _ _ ?_ (fun hHeld1 => ?_)
  · exact ⟨x2, x3⟩
  clear hK K hHeld
  have hHeld := hHeld1
  clear hHeld1
  refine takeL 10 16 ?_ ?_ hHeld ?_
  rotate_left
  · (intro w hSw; (try dsimp only at hSw); simp only [Box] at hSw; go_simp; try with_reducible rfl)
  simp only [Act.put, puA, puB, puC]
  refine takeL 11 17 ?_ ?_ hHeld ?_
  rotate_left
  · (intro w hSw; (try dsimp only at hSw); simp only [Box] at hSw; go_simp; try with_reducible rfl)
  simp only [Act.put, puA, puB, puC]
  refine wpAnyH_ready (rs := [16]) (by kernel_rfl) (by simp) (AllReadyH.cons rfl (fun K hK => ?_) (AllReadyH.nil))
  refine step_callg 22 40 rfl (by kernel_rfl) (HA2.out _) (by kernel_rfl) ?_
  rintro e W1 ⟨rfl, hb⟩
  refine ⟨_, rfl, ?_⟩
  simp only [Act.put, puA, puB, puC]
  replace x2 := x2.below hb
  replace x3 := x3.below hb
  replace hB := bl_trans hB hb
  clear hb
  refine hK.out _ _ ?_ (fun hHeld1 => ?_)
  · exact ⟨x2, x3⟩
  clear hK K hHeld
  have hHeld := hHeld1
  clear hHeld1
  refine takeL 17 23 ?_ ?_ hHeld ?_
  rotate_left
  · (intro w hSw; (try dsimp only at hSw); simp only [Box] at hSw; go_simp; try with_reducible rfl)
  simp only [Act.put, puA, puB, puC]
  refine takeL 18 24 ?_ ?_ hHeld ?_
  rotate_left
  · (intro w hSw; (try dsimp only at hSw); simp only [Box] at hSw; go_simp; try with_reducible rfl)
  simp only [Act.put, puA, puB, puC]
  refine wpAnyH_ready (rs := [23]) (by kernel_rfl) (by simp) (AllReadyH.cons rfl (fun K hK => ?_) (AllReadyH.nil))
  refine step_callg 29 40 rfl (by kernel_rfl) (HA3.out _) (by kernel_rfl) ?_
  rintro e W1 ⟨rfl, hb⟩
  refine ⟨_, rfl, ?_⟩
  simp only [Act.put, puA, puB, puC]
  replace x2 := x2.below hb
  replace x3 := x3.below hb
  replace hB := bl_trans hB hb
  clear hb
  refine hK.out _ _ ?_ (fun hHeld1 => ?_)
  · exact ⟨x2, x3⟩
  clear hK K hHeld
  have hHeld := hHeld1
  clear hHeld1
  refine takeL 24 30 ?_ ?_ hHeld ?_
  rotate_left
  · (intro w hSw; (try dsimp only at hSw); simp only [Box] at hSw; go_simp; try with_reducible rfl)
  simp only [Act.put, puA, puB, puC]
  refine takeL 25 5 ?_ ?_ hHeld ?_
  rotate_left
  · (intro w hSw; (try dsimp only at hSw); simp only [Box] at hSw; go_simp; try with_reducible rfl)
  simp only [Act.put, puA, puB, puC]
  refine wpAnyH_done (by kernel_rfl) ?_ _
  clear hHeld
  have y2 := x2.2
  have y3 := x3.2
  go_wp2_with fail
  refine (l2Live_b ad ln ow lo hi nw da dn dc ea en ec d _ n0.out n1.out q0.out q1.out false hv.out).mono ?_
  rintro e W3 ⟨rfl, hb⟩
  replace x2 := x2.below hb
  replace x3 := x3.below hb
  replace hB := bl_trans hB hb
  clear hb y2 y3
  have y2 := x2.2
  have y3 := x3.2
  go_wp2_with fail
  refine (Hz.out _).mono ?_
  rintro e W4 ⟨rfl, hb⟩
  replace hB := bl_trans hB hb
  go_wp2_with fail
  go_ret
  exact ⟨rfl, hB⟩
theorem l4Entry_ret (ad ln ow lo hi nw : Int) (da : Option Addr) (dn dc : Nat) (ea : Option Addr) (en ec : Nat) (d : En) (w : World) (how : 0 ≤ ow ∧ ow ≤ 65535) (hn : 0 ≤ nw ∧ nw ≤ 1000000) (hd : ENum nw d) : Calls Tryz.prog 41 #[.agg #[.int .i64 ad, .int .i64 ln, .int .i64 ow, .int .i64 lo, .int .i64 hi, .slice da dn dc, .int .i64 nw, .slice ea en ec], .agg #[.int .i64 d.k, .int .i64 d.pr, .int .i64 d.pp, .int .i64 d.o, .int .i64 d.i, .int .i64 d.ip, .int .i64 d.l]] w fun e w' => e = .returned (.string (St (flowL ow nw d ++ [10]))) ∧ Below w.heap.size w w' := by
  by_cases hv : liveB nw d.l = true
  · exact l4Entry_live ad ln ow lo hi nw da dn dc ea en ec d w how hn hd hv
  · exact l4Entry_rest ad ln ow lo hi nw da dn dc ea en ec d w how hn hd hv
/-- An entry in memory. -/
def EnAt (w : World) (b k : Nat) (d : En) : Prop := w.cell? ⟨b, k, none⟩ = some (.int .i64 d.k) ∧ w.cell? ⟨b, k + 1, none⟩ = some (.int .i64 d.pr) ∧ w.cell? ⟨b, k + 2, none⟩ = some (.int .i64 d.pp) ∧ w.cell? ⟨b, k + 3, none⟩ = some (.int .i64 d.o) ∧ w.cell? ⟨b, k + 4, none⟩ = some (.int .i64 d.i) ∧ w.cell? ⟨b, k + 5, none⟩ = some (.int .i64 d.ip) ∧ w.cell? ⟨b, k + 6, none⟩ = some (.int .i64 d.l)
theorem EnAt.below {w w' : World} {b k : Nat} {d : En} (h : EnAt w b k d) (hb : Below w.heap.size w w') (hlt : b < w.heap.size) : EnAt w' b k d := by
  obtain ⟨h0, h1, h2, h3, h4, h5, h6⟩ := h
  refine ⟨?_, ?_, ?_, ?_, ?_, ?_, ?_⟩ <;> (rw [hb.cell (by simpa using hlt)]; assumption)
noncomputable def boardS (ad ln ow lo hi nw : Int) (ds : List Dr) (es : List En) : List UInt8 := if bookB ad ln ow lo hi nw ds es = true then boardT ow nw ds es else []
set_option maxRecDepth 20000 in
set_option maxHeartbeats 4000000 in
theorem specBoard_ok (ad ln ow lo hi nw : Int) (da : Option Addr) (dn dc : Nat) (ea : Option Addr) (en ec : Nat) (ds : List Dr) (es : List En) (w : World) (hD : DoorsAt w da dn ds) (hE : EntriesAt w ea en es) (hok : bookB ad ln ow lo hi nw ds es = true) :
    Calls Tryz.prog 17 #[.agg #[.int .i64 ad, .int .i64 ln, .int .i64 ow, .int .i64 lo, .int .i64 hi, .slice da dn dc, .int .i64 nw, .slice ea en ec]] w fun e w' => e = .returned (.string (St (boardT ow nw ds es))) ∧ Below w.heap.size w w' := by
  obtain ⟨how, hn, ⟨hds, hes⟩, hdn, hen⟩ := book_nums hok
  obtain rfl : dn = ds.length := hD.1
  obtain rfl : en = es.length := hE.1
  have hB := bl_alloc (bl_refl w) (.cells #[.int .i64 ad, .int .i64 ln, .int .i64 ow, .int .i64 lo, .int .i64 hi, .slice da ds.length dc, .int .i64 nw, .slice ea es.length ec] 35)
  have x1 := Box.new w #[.int .i64 ad, .int .i64 ln, .int .i64 ow, .int .i64 lo, .int .i64 hi, .slice da ds.length dc, .int .i64 nw, .slice ea es.length ec] 35
  have HK : Hid (∀ W, Below w.heap.size w W → Calls Tryz.prog 21 #[.agg #[.int .i64 ad, .int .i64 ln, .int .i64 ow, .int .i64 lo, .int .i64 hi, .slice da ds.length dc, .int .i64 nw, .slice ea es.length ec]] W fun e w' => e = .returned (.bool true) ∧ Below W.heap.size W w') := fun W h => by have := specBookOk_ret ad ln ow lo hi nw da ds.length dc ea es.length ec ds es W (hD.below h) (hE.below h); rw [hok] at this; exact this
  replace hD : Hid (DoorsAt w da ds.length ds) := hD
  replace hE : Hid (EntriesAt w ea es.length es) := hE
  replace hdn : Hid (∀ (i : Nat) d, ds[i]? = some d → DNum d) := hdn
  replace hen : Hid (∀ (i : Nat) d, es[i]? = some d → ENum nw d) := hen
  clear hok
  obtain ⟨x, hx⟩ : ∃ x, Lib.itoa nw = x := ⟨_, rfl⟩
  have lx : x.length ≤ 21 := hx ▸ itoa_len (by omega) (by omega)
  obtain ⟨s1, hs1⟩ : ∃ t, t = [110, 111, 119, 32] ++ x := ⟨_, rfl⟩
  have ls1 : s1.length = 4 + x.length := (congrArg List.length hs1).trans List.length_append
  have fs1 := cat_facts hs1 (by omega)
  obtain ⟨s2, hs2⟩ : ∃ t, t = s1 ++ [10] := ⟨_, rfl⟩
  have ls2 : s2.length = s1.length + 1 := (congrArg List.length hs2).trans List.length_append
  have fs2 := cat_facts hs2 (by omega)
  have hs2' : Hid (s2 = nowL nw ++ [10]) := by
    show _ = _
    rw [nowL, hx, hs2, hs1]
    rfl
  have hsl : s2.length ≤ 30 := by omega
  have Hx : Hid (∀ w, Calls Tryz.prog 39 #[.int .i64 nw] w fun e w' => e = .returned (.string (St x)) ∧ Below w.heap.size w w') := fun w => by rw [← hx]; exact l4Dec_i (by omega) (by omega) w
  have ks1 : (9223372036854775807 < 4 + x.length) = False := fs1.1
  have js1 := fs1.2
  clear fs1 ls1 hs1
  have ks2 : (9223372036854775807 < s1.length + 1) = False := fs2.1
  have js2 := fs2.2
  clear fs2 ls2 hs2
  clear hx lx
  go_enter Tryz.func17, Tryz.ntmps17
  have y1 := x1.2
  go_wp2_with fail
  refine (HK.out _ hB).mono ?_
  rintro e v1 ⟨rfl, hb⟩
  replace x1 := x1.below hb
  replace hB := bl_trans hB hb
  clear hb y1 HK
  have y1 := x1.2
  go_wp2_with fail
  refine (Hx.out _).mono ?_
  rintro e v2 ⟨rfl, hb⟩
  replace x1 := x1.below hb
  replace hB := bl_trans hB hb
  clear hb y1 Hx
  go_wp2_with fail
  clear ks1 js1 ks2 js2
  generalize hn1 : w.heap.size = n1 at x1 ⊢
  go_loopg [3, 4] ds.length (fun g ov iv wr => ∃ (i : Nat) (o : List UInt8), ov = .string (St o) ∧ g = ds.length - i ∧ i ≤ ds.length ∧ iv = .int .i64 i ∧ o.length ≤ 30 + 201 * i ∧ Hid (o = s2 ++ doorsT ow (ds.take i)) ∧ Box wr n1 #[.int .i64 ad, .int .i64 ln, .int .i64 ow, .int .i64 lo, .int .i64 hi, .slice da ds.length dc, .int .i64 nw, .slice ea es.length ec] ∧ Below w.heap.size w wr)
  case atStart => exact ⟨0, s2, rfl, by omega, by omega, rfl, by omega, (by show _ = _; simp [doorsT]), x1, hB⟩
  case round =>
    clear x1 hB
    obtain ⟨i, o, rfl, hgi, hi9, rfl, hol, ho, x1, hB⟩ := hrel
    by_cases hlt : i < ds.length
    · obtain ⟨d, hd⟩ : ∃ d, ds[i]? = some d := ⟨ds[i], by simp [hlt]⟩
      have hlt' : (i : Int) < (ds.length : Int) := by omega
      obtain ⟨-, h0 | ⟨b, of, rfl, hbl, hc⟩⟩ := hD.out.below hB
      · rw [h0] at hlt
        simp at hlt
      obtain ⟨c0, c1, c2, c3⟩ := hc i d hd
      obtain ⟨k0, k1, k2, k3⟩ := hdn.out i d hd
      obtain ⟨x, hx⟩ : ∃ x, Lib.itoa d.k = x := ⟨_, rfl⟩
      obtain ⟨A1, hA1⟩ : ∃ x, atL ow d.o = x := ⟨_, rfl⟩
      obtain ⟨A2, hA2⟩ : ∃ x, atL d.i d.p = x := ⟨_, rfl⟩
      have lx : x.length ≤ 21 := hx ▸ itoa_len (by omega) (by omega)
      have lA1 : A1.length ≤ 70 := hA1 ▸ atL_len (by omega) (by omega) (by omega) (by omega)
      have lA2 : A2.length ≤ 70 := hA2 ▸ atL_len (by omega) (by omega) (by omega) (by omega)
      obtain ⟨t1, ht1⟩ : ∃ t, t = o ++ [100, 111, 111, 114, 32] := ⟨_, rfl⟩
      have lt1 : t1.length = o.length + 5 := (congrArg List.length ht1).trans List.length_append
      have ft1 := cat_facts ht1 (by omega)
      obtain ⟨t2, ht2⟩ : ∃ t, t = t1 ++ x := ⟨_, rfl⟩
      have lt2 : t2.length = t1.length + x.length := (congrArg List.length ht2).trans List.length_append
      have ft2 := cat_facts ht2 (by omega)
      obtain ⟨t3, ht3⟩ : ∃ t, t = t2 ++ [32] := ⟨_, rfl⟩
      have lt3 : t3.length = t2.length + 1 := (congrArg List.length ht3).trans List.length_append
      have ft3 := cat_facts ht3 (by omega)
      obtain ⟨t4, ht4⟩ : ∃ t, t = t3 ++ A1 := ⟨_, rfl⟩
      have lt4 : t4.length = t3.length + A1.length := (congrArg List.length ht4).trans List.length_append
      have ft4 := cat_facts ht4 (by omega)
      obtain ⟨t5, ht5⟩ : ∃ t, t = t4 ++ [32, 116, 111, 32] := ⟨_, rfl⟩
      have lt5 : t5.length = t4.length + 4 := (congrArg List.length ht5).trans List.length_append
      have ft5 := cat_facts ht5 (by omega)
      obtain ⟨t6, ht6⟩ : ∃ t, t = t5 ++ A2 := ⟨_, rfl⟩
      have lt6 : t6.length = t5.length + A2.length := (congrArg List.length ht6).trans List.length_append
      have ft6 := cat_facts ht6 (by omega)
      obtain ⟨t7, ht7⟩ : ∃ t, t = t6 ++ [10] := ⟨_, rfl⟩
      have lt7 : t7.length = t6.length + 1 := (congrArg List.length ht7).trans List.length_append
      have ft7 := cat_facts ht7 (by omega)
      have hlen : t7.length ≤ 30 + 201 * (i + 1) := by omega
      have hnew : Hid (t7 = s2 ++ doorsT ow (ds.take (i + 1))) := by
        show _ = _
        rw [List.take_add_one, hd, show (some d).toList = [d] from rfl, doorsT_snoc, doorL, hx, hA1, hA2, ht7, ht6, ht5, ht4, ht3, ht2, ht1, ho.out]
        simp
      have Hx : Hid (∀ w, Calls Tryz.prog 39 #[.int .i64 d.k] w fun e w' => e = .returned (.string (St x)) ∧ Below w.heap.size w w') := fun w => by rw [← hx]; exact l4Dec_i (by omega) (by omega) w
      have HA1 : Hid (∀ w, Calls Tryz.prog 40 #[.int .i64 ow, .int .i64 d.o] w fun e w' => e = .returned (.string (St A1)) ∧ Below w.heap.size w w') := fun w => by rw [← hA1]; exact l4At_ret (by omega) (by omega) (by omega) (by omega) w
      have HA2 : Hid (∀ w, Calls Tryz.prog 40 #[.int .i64 d.i, .int .i64 d.p] w fun e w' => e = .returned (.string (St A2)) ∧ Below w.heap.size w w') := fun w => by rw [← hA2]; exact l4At_ret (by omega) (by omega) (by omega) (by omega) w
      have kt1 : (9223372036854775807 < o.length + 5) = False := ft1.1
      have jt1 := ft1.2
      clear ft1 lt1 ht1
      have kt2 : (9223372036854775807 < t1.length + x.length) = False := ft2.1
      have jt2 := ft2.2
      clear ft2 lt2 ht2
      have kt3 : (9223372036854775807 < t2.length + 1) = False := ft3.1
      have jt3 := ft3.2
      clear ft3 lt3 ht3
      have kt4 : (9223372036854775807 < t3.length + A1.length) = False := ft4.1
      have jt4 := ft4.2
      clear ft4 lt4 ht4
      have kt5 : (9223372036854775807 < t4.length + 4) = False := ft5.1
      have jt5 := ft5.2
      clear ft5 lt5 ht5
      have kt6 : (9223372036854775807 < t5.length + A2.length) = False := ft6.1
      have jt6 := ft6.2
      clear ft6 lt6 ht6
      have kt7 : (9223372036854775807 < t6.length + 1) = False := ft7.1
      have jt7 := ft7.2
      clear ft7 lt7 ht7
      clear hx hA1 hA2 lx lA1 lA2 k0 k1 k2 k3 hd hc
      have y1 := x1.2
      have hBl := bl_alloc (bl_refl wr) (.cells #[.int .i64 d.k, .int .i64 d.o, .int .i64 d.i, .int .i64 d.p] 52)
      have x5 := Box.new wr #[.int .i64 d.k, .int .i64 d.o, .int .i64 d.i, .int .i64 d.p] 52
      go_upto_region 8 with fail
      clear y1
      replace x1 := x1.below hBl
      replace hB := bl_trans hB hBl
      clear hBl c0 c1 c2 c3
      generalize wr.alloc (.cells #[.int .i64 d.k, .int .i64 d.o, .int .i64 d.i, .int .i64 d.p] 52) = W5 at x1 x5 hB ⊢
      generalize wr.heap.size = n5 at x5 ⊢
      refine wp_region_held_drew (S := (fun w' => Box w' n1 #[.int .i64 ad, .int .i64 ln, .int .i64 ow, .int .i64 lo, .int .i64 hi, .slice (some ⟨b, of, none⟩) ds.length dc, .int .i64 nw, .slice ea es.length ec] ∧ Box w' n5 #[.int .i64 d.k, .int .i64 d.o, .int .i64 d.i, .int .i64 d.p])) (by kernel_rfl) ?_ (fun hHeld => ?_)
      · exact ⟨x1.below (bl_drew (bl_refl _)), x5.below (bl_drew (bl_refl _))⟩
      have hb := bl_drew (bl_refl W5)
      replace x1 := x1.below hb
      replace x5 := x5.below hb
      replace hB := bl_trans hB hb
      clear hb
      generalize W5.drew = W0 at x1 x5 hB hHeld ⊢
      refine takeL 0 27 ?_ ?_ hHeld ?_
      rotate_left
      · (intro w hSw; (try dsimp only at hSw); simp only [Box] at hSw; go_simp; try with_reducible rfl)
      simp only [Act.put, puA, puB, puC]
      refine takeL 1 28 ?_ ?_ hHeld ?_
      rotate_left
      · (intro w hSw; (try dsimp only at hSw); simp only [Box] at hSw; go_simp; try with_reducible rfl)
      simp only [Act.put, puA, puB, puC]
      refine takeL 2 29 ?_ ?_ hHeld ?_
      rotate_left
      · (intro w hSw; (try dsimp only at hSw); simp only [Box] at hSw; go_simp; try with_reducible rfl)
      simp only [Act.put, puA, puB, puC]
      refine takeL 3 30 ?_ ?_ hHeld ?_
      rotate_left
      · (intro w hSw; (try dsimp only at hSw); simp only [Box] at hSw; go_simp; try with_reducible rfl)
      simp only [Act.put, puA, puB, puC]
      refine takeL 7 34 ?_ ?_ hHeld ?_
      rotate_left
      · (intro w hSw; (try dsimp only at hSw); simp only [Box] at hSw; go_simp; try with_reducible rfl)
      simp only [Act.put, puA, puB, puC]
      refine takeL 8 35 ?_ ?_ hHeld ?_
      rotate_left
      · (intro w hSw; (try dsimp only at hSw); simp only [Box] at hSw; go_simp; try with_reducible rfl)
      simp only [Act.put, puA, puB, puC]
      refine takeL 9 36 ?_ ?_ hHeld ?_
      rotate_left
      · (intro w hSw; (try dsimp only at hSw); simp only [Box] at hSw; go_simp; try with_reducible rfl)
      simp only [Act.put, puA, puB, puC]
      refine takeL 10 37 ?_ ?_ hHeld ?_
      rotate_left
      · (intro w hSw; (try dsimp only at hSw); simp only [Box] at hSw; go_simp; try with_reducible rfl)
      simp only [Act.put, puA, puB, puC]
      refine takeL 14 41 ?_ ?_ hHeld ?_
      rotate_left
      · (intro w hSw; (try dsimp only at hSw); simp only [Box] at hSw; go_simp; try with_reducible rfl)
      simp only [Act.put, puA, puB, puC]
      refine takeL 15 42 ?_ ?_ hHeld ?_
      rotate_left
      · (intro w hSw; (try dsimp only at hSw); simp only [Box] at hSw; go_simp; try with_reducible rfl)
      simp only [Act.put, puA, puB, puC]
      refine takeL 16 43 ?_ ?_ hHeld ?_
      rotate_left
      · (intro w hSw; (try dsimp only at hSw); simp only [Box] at hSw; go_simp; try with_reducible rfl)
      simp only [Act.put, puA, puB, puC]
      refine takeL 17 44 ?_ ?_ hHeld ?_
      rotate_left
      · (intro w hSw; (try dsimp only at hSw); simp only [Box] at hSw; go_simp; try with_reducible rfl)
      simp only [Act.put, puA, puB, puC]
      refine wpAnyH_ready (rs := [4]) (by kernel_rfl) (by simp) (AllReadyH.cons rfl (fun K hK => ?_) (AllReadyH.nil))
      refine step_callg 31 39 rfl (by kernel_rfl) (Hx.out _) (by kernel_rfl) ?_
      rintro e W1 ⟨rfl, hb⟩
      refine ⟨_, rfl, ?_⟩
      simp only [Act.put, puA, puB, puC]
      replace x1 := x1.below hb
      replace x5 := x5.below hb
      replace hB := bl_trans hB hb
      clear hb
      refine hK.out _ _ ?_ (fun hHeld1 => ?_)
      · exact ⟨x1, x5⟩
      clear hK K hHeld
      have hHeld := hHeld1
      clear hHeld1
      refine takeL 5 32 ?_ ?_ hHeld ?_
      rotate_left
      · (intro w hSw; (try dsimp only at hSw); simp only [Box] at hSw; go_simp; try with_reducible rfl)
      simp only [Act.put, puA, puB, puC]
      refine takeL 6 33 ?_ ?_ hHeld ?_
      rotate_left
      · (intro w hSw; (try dsimp only at hSw); simp only [Box] at hSw; go_simp; try with_reducible rfl)
      simp only [Act.put, puA, puB, puC]
      refine wpAnyH_ready (rs := [11]) (by kernel_rfl) (by simp) (AllReadyH.cons rfl (fun K hK => ?_) (AllReadyH.nil))
      refine step_callg 38 40 rfl (by kernel_rfl) (HA1.out _) (by kernel_rfl) ?_
      rintro e W1 ⟨rfl, hb⟩
      refine ⟨_, rfl, ?_⟩
      simp only [Act.put, puA, puB, puC]
      replace x1 := x1.below hb
      replace x5 := x5.below hb
      replace hB := bl_trans hB hb
      clear hb
      refine hK.out _ _ ?_ (fun hHeld1 => ?_)
      · exact ⟨x1, x5⟩
      clear hK K hHeld
      have hHeld := hHeld1
      clear hHeld1
      refine takeL 12 39 ?_ ?_ hHeld ?_
      rotate_left
      · (intro w hSw; (try dsimp only at hSw); simp only [Box] at hSw; go_simp; try with_reducible rfl)
      simp only [Act.put, puA, puB, puC]
      refine takeL 13 40 ?_ ?_ hHeld ?_
      rotate_left
      · (intro w hSw; (try dsimp only at hSw); simp only [Box] at hSw; go_simp; try with_reducible rfl)
      simp only [Act.put, puA, puB, puC]
      refine wpAnyH_ready (rs := [18]) (by kernel_rfl) (by simp) (AllReadyH.cons rfl (fun K hK => ?_) (AllReadyH.nil))
      refine step_callg 45 40 rfl (by kernel_rfl) (HA2.out _) (by kernel_rfl) ?_
      rintro e W1 ⟨rfl, hb⟩
      refine ⟨_, rfl, ?_⟩
      simp only [Act.put, puA, puB, puC]
      replace x1 := x1.below hb
      replace x5 := x5.below hb
      replace hB := bl_trans hB hb
      clear hb
      refine hK.out _ _ ?_ (fun hHeld1 => ?_)
      · exact ⟨x1, x5⟩
      clear hK K hHeld
      have hHeld := hHeld1
      clear hHeld1
      refine takeL 19 46 ?_ ?_ hHeld ?_
      rotate_left
      · (intro w hSw; (try dsimp only at hSw); simp only [Box] at hSw; go_simp; try with_reducible rfl)
      simp only [Act.put, puA, puB, puC]
      refine takeL 20 47 ?_ ?_ hHeld ?_
      rotate_left
      · (intro w hSw; (try dsimp only at hSw); simp only [Box] at hSw; go_simp; try with_reducible rfl)
      simp only [Act.put, puA, puB, puC]
      refine takeL 21 3 ?_ ?_ hHeld ?_
      rotate_left
      · (intro w hSw; (try dsimp only at hSw); simp only [Box] at hSw; go_simp; try with_reducible rfl)
      simp only [Act.put, puA, puB, puC]
      refine wpAnyH_done (by kernel_rfl) ?_ _
      clear hHeld x5
      go_wp2_with fail
      go_roundg (ds.length - (i + 1))
      case measure => omega
      case rel => exact ⟨i + 1, t7, rfl, rfl, by omega, by go_num, hlen, hnew, x1, hB⟩
    · obtain rfl : i = ds.length := by omega
      rw [List.take_length] at ho
      have hlt' : ¬ ((ds.length : Int) < (ds.length : Int)) := by omega
      have y1 := x1.2
      go_wp2_with fail
      clear y1
      go_loopg [3, 6] es.length (fun g ov iv wr => ∃ (i : Nat) (o : List UInt8), ov = .string (St o) ∧ g = es.length - i ∧ i ≤ es.length ∧ iv = .int .i64 i ∧ o.length ≤ 5000 + 301 * i ∧ Hid (o = s2 ++ (doorsT ow ds ++ flowsT ow nw (es.take i))) ∧ Box wr n1 #[.int .i64 ad, .int .i64 ln, .int .i64 ow, .int .i64 lo, .int .i64 hi, .slice da ds.length dc, .int .i64 nw, .slice ea es.length ec] ∧ Below w.heap.size w wr)
      case atStart => exact ⟨0, o, rfl, by omega, by omega, rfl, by omega, (by show _ = _; simp [flowsT, ho.out]), x1, hB⟩
      case round =>
        clear x1 hB ho hol hgi hi9
        obtain ⟨i, o, rfl, hgi, hi9, rfl, hol, ho, x1, hB⟩ := hrel
        by_cases hlt : i < es.length
        · obtain ⟨d, hd⟩ : ∃ d, es[i]? = some d := ⟨es[i], by simp [hlt]⟩
          have hlt' : (i : Int) < (es.length : Int) := by omega
          obtain ⟨-, h0 | ⟨b, of, rfl, hbl, hc⟩⟩ := hE.out.below hB
          · rw [h0] at hlt
            simp at hlt
          have hy : EnAt wr b (of + i * 7) d := hc i d hd
          have hN := hen.out i d hd
          obtain ⟨y, hyy⟩ : ∃ y, flowL ow nw d ++ [10] = y := ⟨_, rfl⟩
          have ly : y.length ≤ 301 := by
            have := flowL_len how.1 how.2 hN
            rw [← hyy, List.length_append]
            simp only [List.length_cons, List.length_nil]
            omega
          obtain ⟨t1, ht1⟩ : ∃ t, t = o ++ y := ⟨_, rfl⟩
          have lt1 : t1.length = o.length + y.length := (congrArg List.length ht1).trans List.length_append
          have ft1 := cat_facts ht1 (by omega)
          have hlen : t1.length ≤ 5000 + 301 * (i + 1) := by omega
          have hnew : Hid (t1 = s2 ++ (doorsT ow ds ++ flowsT ow nw (es.take (i + 1)))) := by
            show _ = _
            rw [List.take_add_one, hd, show (some d).toList = [d] from rfl, flowsT_snoc, hyy, ht1, ho.out]
            simp
          have Hy : Hid (∀ w, Calls Tryz.prog 41 #[.agg #[.int .i64 ad, .int .i64 ln, .int .i64 ow, .int .i64 lo, .int .i64 hi, .slice da ds.length dc, .int .i64 nw, .slice (some ⟨b, of, none⟩) es.length ec], .agg #[.int .i64 d.k, .int .i64 d.pr, .int .i64 d.pp, .int .i64 d.o, .int .i64 d.i, .int .i64 d.ip, .int .i64 d.l]] w fun e w' => e = .returned (.string (St y)) ∧ Below w.heap.size w w') := fun w => by rw [← hyy]; exact l4Entry_ret ad ln ow lo hi nw da ds.length dc (some ⟨b, of, none⟩) es.length ec d w how hn hN
          have kt1 : (9223372036854775807 < o.length + y.length) = False := ft1.1
          have jt1 := ft1.2
          clear ft1 lt1 ht1
          clear hyy ly hN hd hc
          have y1 := x1.2
          go_upto_region 12 with fail
          clear y1
          refine wp_region_held_drew (S := (fun w' => Box w' n1 #[.int .i64 ad, .int .i64 ln, .int .i64 ow, .int .i64 lo, .int .i64 hi, .slice da ds.length dc, .int .i64 nw, .slice (some ⟨b, of, none⟩) es.length ec] ∧ EnAt w' b (of + i * 7) d)) (by kernel_rfl) ?_ (fun hHeld => ?_)
          · exact ⟨x1.below (bl_drew (bl_refl _)), hy.below (bl_drew (bl_refl _)) hbl⟩
          have hb := bl_drew (bl_refl wr)
          replace x1 := x1.below hb
          replace hB := bl_trans hB hb
          replace hy := hy.below hb hbl
          replace hbl := Nat.lt_of_lt_of_le hbl hb.size
          clear hb
          generalize wr.drew = W0 at x1 hy hbl hB hHeld ⊢
          refine takeL 0 55 ?_ ?_ hHeld ?_
          rotate_left
          · (intro w hSw; (try dsimp only at hSw); simp only [Box, EnAt] at hSw; go_simp; try with_reducible rfl)
          simp only [Act.put, puA, puB, puC]
          refine takeL 1 56 ?_ ?_ hHeld ?_
          rotate_left
          · (intro w hSw; (try dsimp only at hSw); simp only [Box, EnAt] at hSw; go_simp; try with_reducible rfl)
          simp only [Act.put, puA, puB, puC]
          refine takeL 2 57 ?_ ?_ hHeld ?_
          rotate_left
          · (intro w hSw; (try dsimp only at hSw); simp only [Box, EnAt] at hSw; go_simp; try with_reducible rfl)
          simp only [Act.put, puA, puB, puC]
          refine takeL 3 58 ?_ ?_ hHeld ?_
          rotate_left
          · (intro w hSw; (try dsimp only at hSw); simp only [Box, EnAt] at hSw; go_simp; try with_reducible rfl)
          simp only [Act.put, puA, puB, puC]
          refine takeL 4 59 ?_ ?_ hHeld ?_
          rotate_left
          · (intro w hSw; (try dsimp only at hSw); simp only [Box, EnAt] at hSw; go_simp; try with_reducible rfl)
          simp only [Act.put, puA, puB, puC]
          refine takeL 5 60 ?_ ?_ hHeld ?_
          rotate_left
          · (intro w hSw; (try dsimp only at hSw); simp only [Box, EnAt] at hSw; go_simp; try with_reducible rfl)
          simp only [Act.put, puA, puB, puC]
          refine takeL 6 61 ?_ ?_ hHeld ?_
          rotate_left
          · (intro w hSw; (try dsimp only at hSw); simp only [Box, EnAt] at hSw; go_simp; try with_reducible rfl)
          simp only [Act.put, puA, puB, puC]
          refine wpAnyH_ready (rs := [7]) (by kernel_rfl) (by simp) (AllReadyH.cons rfl (fun K hK => ?_) (AllReadyH.nil))
          refine step_callg 62 41 rfl (by kernel_rfl) (Hy.out _) (by kernel_rfl) ?_
          rintro e W1 ⟨rfl, hb⟩
          refine ⟨_, rfl, ?_⟩
          simp only [Act.put, puA, puB, puC]
          have hb0 := hb
          replace x1 := x1.below hb
          replace hB := bl_trans hB hb
          replace hy := hy.below hb0 hbl
          replace hbl := Nat.lt_of_lt_of_le hbl hb0.size
          clear hb0
          clear hb
          refine hK.out _ _ ?_ (fun hHeld1 => ?_)
          · exact ⟨x1, hy⟩
          clear hK K hHeld
          have hHeld := hHeld1
          clear hHeld1
          refine takeL 8 63 ?_ ?_ hHeld ?_
          rotate_left
          · (intro w hSw; (try dsimp only at hSw); simp only [Box, EnAt] at hSw; go_simp; try with_reducible rfl)
          simp only [Act.put, puA, puB, puC]
          refine takeL 9 3 ?_ ?_ hHeld ?_
          rotate_left
          · (intro w hSw; (try dsimp only at hSw); simp only [Box, EnAt] at hSw; go_simp; try with_reducible rfl)
          simp only [Act.put, puA, puB, puC]
          refine wpAnyH_done (by kernel_rfl) ?_ _
          clear hHeld
          go_wp2_with fail
          go_roundg (es.length - (i + 1))
          case measure => omega
          case rel => exact ⟨i + 1, t1, rfl, rfl, by omega, by go_num, hlen, hnew, x1, hB⟩
        · obtain rfl : i = es.length := by omega
          rw [List.take_length] at ho
          have hlt' : ¬ ((es.length : Int) < (es.length : Int)) := by omega
          have y1 := x1.2
          go_wp2_with fail
          go_ret
          exact ⟨by rw [boardT, ← hs2'.out, ← ho.out]; rfl, by rw [← hn1]; exact hB⟩
theorem specBoard_ret (ad ln ow lo hi nw : Int) (da : Option Addr) (dn dc : Nat) (ea : Option Addr) (en ec : Nat) (ds : List Dr) (es : List En) (w : World) (hD : DoorsAt w da dn ds) (hE : EntriesAt w ea en es) :
    Calls Tryz.prog 17 #[.agg #[.int .i64 ad, .int .i64 ln, .int .i64 ow, .int .i64 lo, .int .i64 hi, .slice da dn dc, .int .i64 nw, .slice ea en ec]] w fun e w' => e = .returned (.string (St (boardS ad ln ow lo hi nw ds es))) ∧ Below w.heap.size w w' := by
  unfold boardS
  by_cases hok : bookB ad ln ow lo hi nw ds es = true
  · rw [if_pos hok]
    exact specBoard_ok ad ln ow lo hi nw da dn dc ea en ec ds es w hD hE hok
  · rw [if_neg hok]
    have hok' : bookB ad ln ow lo hi nw ds es = false := by simpa using hok
    have HK : Hid (∀ W, Below w.heap.size w W → Calls Tryz.prog 21 #[.agg #[.int .i64 ad, .int .i64 ln, .int .i64 ow, .int .i64 lo, .int .i64 hi, .slice da dn dc, .int .i64 nw, .slice ea en ec]] W fun e w' => e = .returned (.bool false) ∧ Below W.heap.size W w') := fun W h => by have := specBookOk_ret ad ln ow lo hi nw da dn dc ea en ec ds es W (hD.below h) (hE.below h); rw [hok'] at this; exact this
    clear hok hok' hD hE
    have hB := bl_alloc (bl_refl w) (.cells #[.int .i64 ad, .int .i64 ln, .int .i64 ow, .int .i64 lo, .int .i64 hi, .slice da dn dc, .int .i64 nw, .slice ea en ec] 35)
    go_enter Tryz.func17, Tryz.ntmps17
    go_wp2_with fail
    refine (HK.out _ hB).mono ?_
    rintro e v1 ⟨rfl, hb⟩
    go_wp2_with fail
    go_ret
    exact ⟨rfl, bl_trans hB hb⟩
end Go.Proofs.YtcgjpmhjijmplabGreatDoor
