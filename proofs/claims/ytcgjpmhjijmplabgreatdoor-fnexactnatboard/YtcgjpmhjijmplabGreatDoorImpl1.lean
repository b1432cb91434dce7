/- The program's functions of chapter 2 (books) that hold no loop over a list, walked. -/
import Derived.Test.YtcgjpmhjijmplabGreatDoorJoinF
namespace Go.Proofs.YtcgjpmhjijmplabGreatDoor
open Go.ChangeShapes Go.WideShapes Go.ChangeAt Go.RowKit

theorem within_q (n lo hi : Int) (w : World) : Calls Tryz.prog 104 #[.int .i64 n, .int .i64 lo, .int .i64 hi] w fun e w' => e = .returned (.bool (inB n lo hi)) ∧ w' = w := by
  go_enter Tryz.func104, Tryz.ntmps104
  go_wp2
  all_goals go_ret
  · exact ⟨ret_bool (by simp [inB, *]), rfl⟩
  · exact ⟨ret_bool (by simp [inB]; omega), rfl⟩
theorem isAddr_q (n : Int) (w : World) : Calls Tryz.prog 105 #[.int .i64 n] w fun e w' => e = .returned (.bool (inB n 0 65535)) ∧ w' = w := by
  go_enter Tryz.func105, Tryz.ntmps105
  go_wp2_with (go_at_call 104; refine (within_q _ _ _ _).mono ?_; rintro e w' ⟨rfl, rfl⟩)
  go_ret
  exact ⟨rfl, rfl⟩
theorem isPort_q (n : Int) (w : World) : Calls Tryz.prog 121 #[.int .i64 n] w fun e w' => e = .returned (.bool (inB n 1 65535)) ∧ w' = w := by
  go_enter Tryz.func121, Tryz.ntmps121
  go_wp2_with (go_at_call 104; refine (within_q _ _ _ _).mono ?_; rintro e w' ⟨rfl, rfl⟩)
  go_ret
  exact ⟨rfl, rfl⟩
theorem isKind_q (n : Int) (w : World) : Calls Tryz.prog 120 #[.int .i64 n] w fun e w' => e = .returned (.bool (inB n 1 7)) ∧ w' = w := by
  go_enter Tryz.func120, Tryz.ntmps120
  go_wp2_with (go_at_call 104; refine (within_q _ _ _ _).mono ?_; rintro e w' ⟨rfl, rfl⟩)
  go_ret
  exact ⟨rfl, rfl⟩

theorem natSize_ret (ad ln ow lo hi nw : Int) (da : Option Addr) (dn dc : Nat) (ea : Option Addr) (en ec : Nat) (w : World) (h0 : 0 ≤ ln) (h1 : ln ≤ 16) : Calls Tryz.prog 106 #[.agg #[.int .i64 ad, .int .i64 ln, .int .i64 ow, .int .i64 lo, .int .i64 hi, .slice da dn dc, .int .i64 nw, .slice ea en ec]] w fun e w' => e = .returned (.int .i64 (sz ln)) ∧ Below w.heap.size w w' := by
  obtain ⟨hs1, hs2⟩ := sz_bd ln h0
  have e2 : (2 : Int) ^ (16 - ln).toNat = sz ln := by unfold sz; simp
  go_enter Tryz.func106, Tryz.ntmps106
  go_wp2
  go_ret
  exact ⟨rfl, bl_alloc (bl_refl _) _⟩

theorem ins_eq (ad ln x : Int) : inB x ad (ad + sz ln - 1) = insB ad ln x := by
  unfold inB insB
  congr 1
  rw [decide_eq_decide]; omega

theorem isInside_ret (ad ln ow lo hi nw : Int) (da : Option Addr) (dn dc : Nat) (ea : Option Addr) (en ec : Nat) (x : Int) (w : World) (l0 : 0 ≤ ln) (l1 : ln ≤ 16) (a0 : 0 ≤ ad) (a1 : ad ≤ 65535) : Calls Tryz.prog 100 #[.agg #[.int .i64 ad, .int .i64 ln, .int .i64 ow, .int .i64 lo, .int .i64 hi, .slice da dn dc, .int .i64 nw, .slice ea en ec], .int .i64 x] w fun e w' => e = .returned (.bool (insB ad ln x)) ∧ Below w.heap.size w w' := by
  rw [← ins_eq]
  obtain ⟨hs1, hs2⟩ := sz_bd ln l0
  have hX := Box.new w #[.int .i64 ad, .int .i64 ln, .int .i64 ow, .int .i64 lo, .int .i64 hi, .slice da dn dc, .int .i64 nw, .slice ea en ec] 35
  have hw1 : IntKind.i64.wrap (ad + sz ln) = ad + sz ln := wrap_of _ (by omega) (by omega)
  have hw2 : IntKind.i64.wrap (ad + sz ln - 1) = ad + sz ln - 1 := wrap_of _ (by omega) (by omega)
  go_enter Tryz.func100, Tryz.ntmps100
  go_wp2_with fail
  refine wp_region_held_drew (S := (fun w' => w'.cell? ⟨w.heap.size, 0, none⟩ = some (.int .i64 ad) ∧ w'.cell? ⟨w.heap.size, 1, none⟩ = some (.int .i64 ln) ∧ w'.cell? ⟨w.heap.size, 2, none⟩ = some (.int .i64 ow) ∧ w'.cell? ⟨w.heap.size, 3, none⟩ = some (.int .i64 lo) ∧ w'.cell? ⟨w.heap.size, 4, none⟩ = some (.int .i64 hi) ∧ w'.cell? ⟨w.heap.size, 5, none⟩ = some (.slice da dn dc) ∧ w'.cell? ⟨w.heap.size, 6, none⟩ = some (.int .i64 nw) ∧ w'.cell? ⟨w.heap.size, 7, none⟩ = some (.slice ea en ec))) (by kernel_rfl) ?_ (fun hHeld => ?_)
  · go_keep
  refine takeL 0 5 ?_ ?_ hHeld ?_
  rotate_left
  · (intro w hSw; (try dsimp only at hSw); go_simp; try with_reducible rfl)
  simp only [Act.put, puA, puB, puC]
  refine takeL 1 6 ?_ ?_ hHeld ?_
  rotate_left
  · (intro w hSw; (try dsimp only at hSw); go_simp; try with_reducible rfl)
  simp only [Act.put, puA, puB, puC]
  refine takeL 2 7 ?_ ?_ hHeld ?_
  rotate_left
  · (intro w hSw; (try dsimp only at hSw); go_simp; try with_reducible rfl)
  simp only [Act.put, puA, puB, puC]
  refine takeL 3 8 ?_ ?_ hHeld ?_
  rotate_left
  · (intro w hSw; (try dsimp only at hSw); go_simp; try with_reducible rfl)
  simp only [Act.put, puA, puB, puC]
  refine takeL 4 9 ?_ ?_ hHeld ?_
  rotate_left
  · (intro w hSw; (try dsimp only at hSw); go_simp; try with_reducible rfl)
  simp only [Act.put, puA, puB, puC]
  refine takeL 5 10 ?_ ?_ hHeld ?_
  rotate_left
  · (intro w hSw; (try dsimp only at hSw); go_simp; try with_reducible rfl)
  simp only [Act.put, puA, puB, puC]
  refine wpAnyH_ready (rs := [6]) (by kernel_rfl) (by simp) (AllReadyH.cons rfl (fun K hK => ?_) AllReadyH.nil)
  go_simp
  go_wp2_with ((go_at_call 106; refine (natSize_ret _ _ _ _ _ _ _ _ _ _ _ _ _ l0 l1).mono ?_; rintro e w1 ⟨rfl, hb1⟩; have hX1 := (hX.below (bl_drew (bl_refl _))).below hb1; have hx1 := hX1.2))
  refine hK.out _ _ ?_ (fun hHeld1 => ?_)
  · go_keep
  clear hK K hHeld
  have hHeld := hHeld1
  clear hHeld1
  refine takeL 7 12 ?_ ?_ hHeld ?_
  rotate_left
  · (intro w hSw; (try dsimp only at hSw); go_simp; try with_reducible rfl)
  simp only [Act.put, puA, puB, puC]
  refine takeL 8 13 ?_ ?_ hHeld ?_
  rotate_left
  · (intro w hSw; (try dsimp only at hSw); go_simp; try with_reducible rfl)
  simp only [Act.put, puA, puB, puC]
  refine wpAnyH_ready (rs := [9]) (by kernel_rfl) (by simp) (AllReadyH.cons rfl (fun K hK => ?_) AllReadyH.nil)
  go_simp
  go_wp2_with ((go_at_call 104; refine (within_q _ _ _ _).mono ?_; rintro e w2 ⟨rfl, rfl⟩))
  refine hK.out _ _ ?_ (fun hHeld1 => ?_)
  · go_keep
  clear hK K hHeld
  have hHeld := hHeld1
  clear hHeld1
  refine takeL 10 4 ?_ ?_ hHeld ?_
  rotate_left
  · (intro w hSw; (try dsimp only at hSw); go_simp; try with_reducible rfl)
  simp only [Act.put, puA, puB, puC]
  refine wpAnyH_done (by kernel_rfl) ?_ _
  go_wp2
  go_ret
  exact ⟨rfl, bl_trans (bl_drew (bl_alloc (bl_refl _) _)) hb1⟩

def rangeB (ad ln : Int) : Bool := inB ln 0 16 && inB ad 0 65535 && remB ad ln
set_option maxHeartbeats 1000000 in
theorem rangeOk_ret (ad ln ow lo hi nw : Int) (da : Option Addr) (dn dc : Nat) (ea : Option Addr) (en ec : Nat) (w : World) : Calls Tryz.prog 84 #[.agg #[.int .i64 ad, .int .i64 ln, .int .i64 ow, .int .i64 lo, .int .i64 hi, .slice da dn dc, .int .i64 nw, .slice ea en ec]] w fun e w' => e = .returned (.bool (rangeB ad ln)) ∧ Below w.heap.size w w' := by
  have hX := Box.new w #[.int .i64 ad, .int .i64 ln, .int .i64 ow, .int .i64 lo, .int .i64 hi, .slice da dn dc, .int .i64 nw, .slice ea en ec] 35
  by_cases h : inB ln 0 16 = true
  · by_cases h' : inB ad 0 65535 = true
    · obtain ⟨l0, l1⟩ := inB_true h
      obtain ⟨a0, a1⟩ := inB_true h'
      obtain ⟨hs1, hs2⟩ := sz_bd ln l0
      have hnz : ¬ sz ln = 0 := by omega
      have htm : ad.tmod (sz ln) = ad % sz ln := Int.tmod_eq_emod_of_nonneg a0
      have hbd := Int.emod_lt_of_pos ad (show 0 < sz ln by omega)
      have hbd0 := Int.emod_nonneg ad hnz
      have hwr : IntKind.i64.wrap (ad % sz ln) = ad % sz ln := wrap_of _ (by omega) (by omega)
      clear hbd hbd0
      go_enter Tryz.func84, Tryz.ntmps84
      go_wp2_with fail
      refine wp_region_held_drew (S := (fun w' => w'.cell? ⟨w.heap.size, 0, none⟩ = some (.int .i64 ad) ∧ w'.cell? ⟨w.heap.size, 1, none⟩ = some (.int .i64 ln) ∧ w'.cell? ⟨w.heap.size, 2, none⟩ = some (.int .i64 ow) ∧ w'.cell? ⟨w.heap.size, 3, none⟩ = some (.int .i64 lo) ∧ w'.cell? ⟨w.heap.size, 4, none⟩ = some (.int .i64 hi) ∧ w'.cell? ⟨w.heap.size, 5, none⟩ = some (.slice da dn dc) ∧ w'.cell? ⟨w.heap.size, 6, none⟩ = some (.int .i64 nw) ∧ w'.cell? ⟨w.heap.size, 7, none⟩ = some (.slice ea en ec))) (by kernel_rfl) ?_ (fun hHeld => ?_)
      · go_keep
      refine takeL 0 3 ?_ ?_ hHeld ?_
      rotate_left
      · (intro w hSw; (try dsimp only at hSw); go_simp; try with_reducible rfl)
      simp only [Act.put, puA, puB, puC]
      refine takeL 1 4 ?_ ?_ hHeld ?_
      rotate_left
      · (intro w hSw; (try dsimp only at hSw); go_simp; try with_reducible rfl)
      simp only [Act.put, puA, puB, puC]
      refine wpAnyH_ready (rs := [2]) (by kernel_rfl) (by simp) (AllReadyH.cons rfl (fun K hK => ?_) AllReadyH.nil)
      go_simp
      go_wp2_with ((go_at_call 104; refine (within_q _ _ _ _).mono ?_; rintro e w2 ⟨rfl, rfl⟩))
      refine hK.out _ _ ?_ (fun hHeld1 => ?_)
      · go_keep
      clear hK K hHeld
      have hHeld := hHeld1
      clear hHeld1
      refine takeL 3 6 ?_ ?_ hHeld ?_
      rotate_left
      · (intro w hSw; (try dsimp only at hSw); go_simp; try with_reducible rfl)
      simp only [Act.put, puA, puB, puC]
      refine takeL 4 7 ?_ ?_ hHeld ?_
      rotate_left
      · (intro w hSw; (try dsimp only at hSw); go_simp; try with_reducible rfl)
      simp only [Act.put, puA, puB, puC]
      refine takeL 5 8 ?_ ?_ hHeld ?_
      rotate_left
      · (intro w hSw; (try dsimp only at hSw); go_simp; try with_reducible rfl)
      simp only [Act.put, puA, puB, puC]
      refine wpAnyH_ready (rs := [6]) (by kernel_rfl) (by simp) (AllReadyH.cons rfl (fun K hK => ?_) AllReadyH.nil)
      go_simp
      go_wp2_with ((go_at_call 105; refine (isAddr_q _ _).mono ?_; rintro e w2 ⟨rfl, rfl⟩))
      refine hK.out _ _ ?_ (fun hHeld1 => ?_)
      · go_keep
      clear hK K hHeld
      have hHeld := hHeld1
      clear hHeld1
      refine takeL 7 10 ?_ ?_ hHeld ?_
      rotate_left
      · (intro w hSw; (try dsimp only at hSw); go_simp; try with_reducible rfl)
      simp only [Act.put, puA, puB, puC]
      refine takeL 8 11 ?_ ?_ hHeld ?_
      rotate_left
      · (intro w hSw; (try dsimp only at hSw); go_simp; try with_reducible rfl)
      simp only [Act.put, puA, puB, puC]
      refine takeL 9 12 ?_ ?_ hHeld ?_
      rotate_left
      · (intro w hSw; (try dsimp only at hSw); go_simp; try with_reducible rfl)
      simp only [Act.put, puA, puB, puC]
      refine takeL 10 13 ?_ ?_ hHeld ?_
      rotate_left
      · (intro w hSw; (try dsimp only at hSw); go_simp; try with_reducible rfl)
      simp only [Act.put, puA, puB, puC]
      refine takeL 11 14 ?_ ?_ hHeld ?_
      rotate_left
      · (intro w hSw; (try dsimp only at hSw); go_simp; try with_reducible rfl)
      simp only [Act.put, puA, puB, puC]
      refine wpAnyH_ready (rs := [12]) (by kernel_rfl) (by simp) (AllReadyH.cons rfl (fun K hK => ?_) AllReadyH.nil)
      go_simp
      go_wp2_with ((go_at_call 106; refine (natSize_ret _ _ _ _ _ _ _ _ _ _ _ _ _ l0 l1).mono ?_; rintro e w1 ⟨rfl, hb1⟩; have hX1 := (hX.below (bl_drew (bl_refl _))).below hb1; have hx1 := hX1.2))
      refine hK.out _ _ ?_ (fun hHeld1 => ?_)
      · go_keep
      clear hK K hHeld
      have hHeld := hHeld1
      clear hHeld1
      refine takeL 13 16 ?_ ?_ hHeld ?_
      rotate_left
      · (intro w hSw; (try dsimp only at hSw); go_simp; try with_reducible rfl)
      simp only [Act.put, puA, puB, puC]
      refine takeL 14 17 ?_ ?_ hHeld ?_
      rotate_left
      · (intro w hSw; (try dsimp only at hSw); go_simp; try with_reducible rfl)
      simp only [Act.put, puA, puB, puC]
      refine takeL 15 18 ?_ ?_ hHeld ?_
      rotate_left
      · (intro w hSw; (try dsimp only at hSw); go_simp; try with_reducible rfl)
      simp only [Act.put, puA, puB, puC]
      refine takeL 16 2 ?_ ?_ hHeld ?_
      rotate_left
      · (intro w hSw; (try dsimp only at hSw); go_simp; try with_reducible rfl)
      simp only [Act.put, puA, puB, puC]
      refine wpAnyH_done (by kernel_rfl) ?_ _
      go_wp2
      go_ret
      exact ⟨ret_bool (by simp [rangeB, h, h', remB]), bl_trans (bl_drew (bl_alloc (bl_refl _) _)) hb1⟩
    · have h2 : inB ad 0 65535 = false := by simpa using h'
      go_enter Tryz.func84, Tryz.ntmps84
      go_wp2_with fail
      refine wp_region_held_drew (S := (fun w' => w'.cell? ⟨w.heap.size, 0, none⟩ = some (.int .i64 ad) ∧ w'.cell? ⟨w.heap.size, 1, none⟩ = some (.int .i64 ln) ∧ w'.cell? ⟨w.heap.size, 2, none⟩ = some (.int .i64 ow) ∧ w'.cell? ⟨w.heap.size, 3, none⟩ = some (.int .i64 lo) ∧ w'.cell? ⟨w.heap.size, 4, none⟩ = some (.int .i64 hi) ∧ w'.cell? ⟨w.heap.size, 5, none⟩ = some (.slice da dn dc) ∧ w'.cell? ⟨w.heap.size, 6, none⟩ = some (.int .i64 nw) ∧ w'.cell? ⟨w.heap.size, 7, none⟩ = some (.slice ea en ec))) (by kernel_rfl) ?_ (fun hHeld => ?_)
      · go_keep
      refine takeL 0 3 ?_ ?_ hHeld ?_
      rotate_left
      · (intro w hSw; (try dsimp only at hSw); go_simp; try with_reducible rfl)
      simp only [Act.put, puA, puB, puC]
      refine takeL 1 4 ?_ ?_ hHeld ?_
      rotate_left
      · (intro w hSw; (try dsimp only at hSw); go_simp; try with_reducible rfl)
      simp only [Act.put, puA, puB, puC]
      refine wpAnyH_ready (rs := [2]) (by kernel_rfl) (by simp) (AllReadyH.cons rfl (fun K hK => ?_) AllReadyH.nil)
      go_simp
      go_wp2_with ((go_at_call 104; refine (within_q _ _ _ _).mono ?_; rintro e w2 ⟨rfl, rfl⟩))
      refine hK.out _ _ ?_ (fun hHeld1 => ?_)
      · go_keep
      clear hK K hHeld
      have hHeld := hHeld1
      clear hHeld1
      refine takeL 3 6 ?_ ?_ hHeld ?_
      rotate_left
      · (intro w hSw; (try dsimp only at hSw); go_simp; try with_reducible rfl)
      simp only [Act.put, puA, puB, puC]
      refine takeL 4 7 ?_ ?_ hHeld ?_
      rotate_left
      · (intro w hSw; (try dsimp only at hSw); go_simp; try with_reducible rfl)
      simp only [Act.put, puA, puB, puC]
      refine takeL 5 8 ?_ ?_ hHeld ?_
      rotate_left
      · (intro w hSw; (try dsimp only at hSw); go_simp; try with_reducible rfl)
      simp only [Act.put, puA, puB, puC]
      refine wpAnyH_ready (rs := [6]) (by kernel_rfl) (by simp) (AllReadyH.cons rfl (fun K hK => ?_) AllReadyH.nil)
      go_simp
      go_wp2_with ((go_at_call 105; refine (isAddr_q _ _).mono ?_; rintro e w2 ⟨rfl, rfl⟩))
      refine hK.out _ _ ?_ (fun hHeld1 => ?_)
      · go_keep
      clear hK K hHeld
      have hHeld := hHeld1
      clear hHeld1
      refine takeL 7 10 ?_ ?_ hHeld ?_
      rotate_left
      · (intro w hSw; (try dsimp only at hSw); go_simp; try with_reducible rfl)
      simp only [Act.put, puA, puB, puC]
      refine takeL 8 11 ?_ ?_ hHeld ?_
      rotate_left
      · (intro w hSw; (try dsimp only at hSw); go_simp; try with_reducible rfl)
      simp only [Act.put, puA, puB, puC]
      refine takeN 9 12 hHeld ?_
      simp only [Act.put, puA, puB, puC]
      refine takeN 10 13 hHeld ?_
      simp only [Act.put, puA, puB, puC]
      refine takeN 11 14 hHeld ?_
      simp only [Act.put, puA, puB, puC]
      refine takeN 12 15 hHeld ?_
      simp only [Act.put, puA, puB, puC]
      refine takeN 13 16 hHeld ?_
      simp only [Act.put, puA, puB, puC]
      refine takeN 14 17 hHeld ?_
      simp only [Act.put, puA, puB, puC]
      refine takeL 15 18 ?_ ?_ hHeld ?_
      rotate_left
      · (intro w hSw; (try dsimp only at hSw); go_simp; try with_reducible rfl)
      simp only [Act.put, puA, puB, puC]
      refine takeL 16 2 ?_ ?_ hHeld ?_
      rotate_left
      · (intro w hSw; (try dsimp only at hSw); go_simp; try with_reducible rfl)
      simp only [Act.put, puA, puB, puC]
      refine wpAnyH_done (by kernel_rfl) ?_ _
      go_wp2
      go_ret
      exact ⟨ret_bool (by simp [rangeB, h2]), bl_drew (bl_alloc (bl_refl _) _)⟩
  · have h2 : inB ln 0 16 = false := by simpa using h
    go_enter Tryz.func84, Tryz.ntmps84
    go_wp2_with fail
    refine wp_region_held_drew (S := (fun w' => w'.cell? ⟨w.heap.size, 0, none⟩ = some (.int .i64 ad) ∧ w'.cell? ⟨w.heap.size, 1, none⟩ = some (.int .i64 ln) ∧ w'.cell? ⟨w.heap.size, 2, none⟩ = some (.int .i64 ow) ∧ w'.cell? ⟨w.heap.size, 3, none⟩ = some (.int .i64 lo) ∧ w'.cell? ⟨w.heap.size, 4, none⟩ = some (.int .i64 hi) ∧ w'.cell? ⟨w.heap.size, 5, none⟩ = some (.slice da dn dc) ∧ w'.cell? ⟨w.heap.size, 6, none⟩ = some (.int .i64 nw) ∧ w'.cell? ⟨w.heap.size, 7, none⟩ = some (.slice ea en ec))) (by kernel_rfl) ?_ (fun hHeld => ?_)
    · go_keep
    refine takeL 0 3 ?_ ?_ hHeld ?_
    rotate_left
    · (intro w hSw; (try dsimp only at hSw); go_simp; try with_reducible rfl)
    simp only [Act.put, puA, puB, puC]
    refine takeL 1 4 ?_ ?_ hHeld ?_
    rotate_left
    · (intro w hSw; (try dsimp only at hSw); go_simp; try with_reducible rfl)
    simp only [Act.put, puA, puB, puC]
    refine wpAnyH_ready (rs := [2]) (by kernel_rfl) (by simp) (AllReadyH.cons rfl (fun K hK => ?_) AllReadyH.nil)
    go_simp
    go_wp2_with ((go_at_call 104; refine (within_q _ _ _ _).mono ?_; rintro e w2 ⟨rfl, rfl⟩))
    refine hK.out _ _ ?_ (fun hHeld1 => ?_)
    · go_keep
    clear hK K hHeld
    have hHeld := hHeld1
    clear hHeld1
    refine takeL 3 6 ?_ ?_ hHeld ?_
    rotate_left
    · (intro w hSw; (try dsimp only at hSw); go_simp; try with_reducible rfl)
    simp only [Act.put, puA, puB, puC]
    refine takeN 4 7 hHeld ?_
    simp only [Act.put, puA, puB, puC]
    refine takeN 5 8 hHeld ?_
    simp only [Act.put, puA, puB, puC]
    refine takeN 6 9 hHeld ?_
    simp only [Act.put, puA, puB, puC]
    refine takeL 7 10 ?_ ?_ hHeld ?_
    rotate_left
    · (intro w hSw; (try dsimp only at hSw); go_simp; try with_reducible rfl)
    simp only [Act.put, puA, puB, puC]
    refine takeL 8 11 ?_ ?_ hHeld ?_
    rotate_left
    · (intro w hSw; (try dsimp only at hSw); go_simp; try with_reducible rfl)
    simp only [Act.put, puA, puB, puC]
    refine takeN 9 12 hHeld ?_
    simp only [Act.put, puA, puB, puC]
    refine takeN 10 13 hHeld ?_
    simp only [Act.put, puA, puB, puC]
    refine takeN 11 14 hHeld ?_
    simp only [Act.put, puA, puB, puC]
    refine takeN 12 15 hHeld ?_
    simp only [Act.put, puA, puB, puC]
    refine takeN 13 16 hHeld ?_
    simp only [Act.put, puA, puB, puC]
    refine takeN 14 17 hHeld ?_
    simp only [Act.put, puA, puB, puC]
    refine takeL 15 18 ?_ ?_ hHeld ?_
    rotate_left
    · (intro w hSw; (try dsimp only at hSw); go_simp; try with_reducible rfl)
    simp only [Act.put, puA, puB, puC]
    refine takeL 16 2 ?_ ?_ hHeld ?_
    rotate_left
    · (intro w hSw; (try dsimp only at hSw); go_simp; try with_reducible rfl)
    simp only [Act.put, puA, puB, puC]
    refine wpAnyH_done (by kernel_rfl) ?_ _
    go_wp2
    go_ret
    exact ⟨ret_bool (by simp [rangeB, h2]), bl_drew (bl_alloc (bl_refl _) _)⟩

def ownB (ad ln ow : Int) : Bool := inB ow 0 65535 && !insB ad ln ow
theorem ownOk_ret (ad ln ow lo hi nw : Int) (da : Option Addr) (dn dc : Nat) (ea : Option Addr) (en ec : Nat) (w : World) (l0 : 0 ≤ ln) (l1 : ln ≤ 16) (a0 : 0 ≤ ad) (a1 : ad ≤ 65535) : Calls Tryz.prog 85 #[.agg #[.int .i64 ad, .int .i64 ln, .int .i64 ow, .int .i64 lo, .int .i64 hi, .slice da dn dc, .int .i64 nw, .slice ea en ec]] w fun e w' => e = .returned (.bool (ownB ad ln ow)) ∧ Below w.heap.size w w' := by
  go_enter Tryz.func85, Tryz.ntmps85
  go_wp2_with (first
    | (go_at_call 105; refine (isAddr_q _ _).mono ?_; rintro e w' ⟨rfl, rfl⟩)
    | (go_at_call 100; refine (isInside_ret _ _ _ _ _ _ _ _ _ _ _ _ _ _ l0 l1 a0 a1).mono ?_; rintro e w' ⟨rfl, hb⟩; obtain ⟨hc, hf⟩ := bl_cells hb))
  all_goals go_ret
  all_goals refine ⟨?_, ?_⟩
  all_goals first
    | (apply ret_bool; simp [ownB, *]; done)
    | (repeat (first | exact bl_refl _ | apply bl_alloc | apply bl_drew | (refine bl_trans ?_ (by assumption))))

theorem portsOk_ret (ad ln ow lo hi nw : Int) (da : Option Addr) (dn dc : Nat) (ea : Option Addr) (en ec : Nat) (w : World) : Calls Tryz.prog 86 #[.agg #[.int .i64 ad, .int .i64 ln, .int .i64 ow, .int .i64 lo, .int .i64 hi, .slice da dn dc, .int .i64 nw, .slice ea en ec]] w fun e w' => e = .returned (.bool (portsB lo hi)) ∧ Below w.heap.size w w' := by
  go_enter Tryz.func86, Tryz.ntmps86
  go_wp2
  all_goals go_ret
  all_goals refine ⟨?_, bl_alloc (bl_refl _) _⟩
  all_goals first
    | (apply ret_bool; simp [portsB, *]; done)
    | (apply ret_bool; simp [portsB, *]; intros; omega)

theorem nowOk_ret (ad ln ow lo hi nw : Int) (da : Option Addr) (dn dc : Nat) (ea : Option Addr) (en ec : Nat) (w : World) : Calls Tryz.prog 87 #[.agg #[.int .i64 ad, .int .i64 ln, .int .i64 ow, .int .i64 lo, .int .i64 hi, .slice da dn dc, .int .i64 nw, .slice ea en ec]] w fun e w' => e = .returned (.bool (inB nw 0 1000000)) ∧ Below w.heap.size w w' := by
  go_enter Tryz.func87, Tryz.ntmps87
  go_wp2_with (go_at_call 104; refine (within_q _ _ _ _).mono ?_; rintro e w' ⟨rfl, rfl⟩)
  go_ret
  exact ⟨rfl, bl_alloc (bl_refl _) _⟩
end Go.Proofs.YtcgjpmhjijmplabGreatDoor
