/- The program's walk over neighbours, at doors. -/
import Derived.Test.YtcgjpmhjijmplabGreatDoorImpl2
namespace Go.Proofs.YtcgjpmhjijmplabGreatDoor
open Go.ChangeShapes Go.WideShapes Go.ChangeAt Go.RowKit

set_option maxHeartbeats 2000000 in
theorem neighD_some (b o : Nat) (ds : List Dr) (dc : Nat) (w : World) (hlt : b < w.heap.size) (hc : DrCells w b o ds) (hl : ds.length ≤ 6) :
    Calls Tryz.prog 108 #[.slice (some ⟨b, o, none⟩) ds.length dc, .func (.func 109) #[] #[]] w fun e w' => e = .returned (.bool (drOrdB ds)) ∧ Below w.heap.size w w' := by
  go_enter Tryz.func108, Tryz.ntmps108
  go_wp2_with fail
  go_loopg [5] (ds.length + 1) (fun g i wr => ∃ m : Nat, g = ds.length + 1 - m ∧ m ≤ ds.length ∧ i = .int .i64 ((m : Int) + 1) ∧ DrOrd ds (m + 1) ∧ Below w.heap.size w wr)
  case atStart => exact ⟨0, by omega, by omega, rfl, fun _ _ _ h => absurd h (by omega), bl_refl _⟩
  case round =>
    obtain ⟨m, hg, hn, rfl, hup, hB⟩ := hrel
    have hUp : Hid (DrOrd ds (m + 1)) := hup
    clear hup
    by_cases hlt2 : m + 1 < ds.length
    · obtain ⟨d, hd'⟩ : ∃ d, ds[m]? = some d := ⟨ds[m], by simp⟩
      obtain ⟨f, hf'⟩ : ∃ f, ds[m + 1]? = some f := ⟨ds[m + 1], by simp [hlt2]⟩
      obtain ⟨c0, c1, c2, c3⟩ := hc.below hB hlt m d hd'
      obtain ⟨d0, d1, d2, d3⟩ := hc.below hB hlt (m + 1) f hf'
      have hd : Hid (ds[m]? = some d) := hd'
      have hf : Hid (ds[m + 1]? = some f) := hf'
      clear hd' hf'
      have hb2 : b < wr.heap.size := by have := hB.size; omega
      have hwm : IntKind.i64.wrap (m : Int) = (m : Int) := wrap_of _ (by omega) (by omega)
      have hm0 : (0 : Int) ≤ (m : Int) := by omega
      have hm1 : (m : Int) < (ds.length : Int) := by omega
      have hm2 : (m : Int) + 1 < (ds.length : Int) := by omega
      have hm3 : (0 : Int) ≤ (m : Int) + 1 := by omega
      have htn : ((m : Int) + 1).toNat = m + 1 := by omega
      by_cases hok : dAhead d f = true
      · go_wp2_with fail
        refine wp_region_held_drew (S := (fun w' => w'.cell? ⟨b, o + m * 4, none⟩ = some (.int .i64 d.k) ∧ w'.cell? ⟨b, o + m * 4 + 1, none⟩ = some (.int .i64 d.o) ∧ w'.cell? ⟨b, o + m * 4 + 2, none⟩ = some (.int .i64 d.i) ∧ w'.cell? ⟨b, o + m * 4 + 3, none⟩ = some (.int .i64 d.p) ∧ w'.cell? ⟨b, o + (m + 1) * 4, none⟩ = some (.int .i64 f.k) ∧ w'.cell? ⟨b, o + (m + 1) * 4 + 1, none⟩ = some (.int .i64 f.o) ∧ w'.cell? ⟨b, o + (m + 1) * 4 + 2, none⟩ = some (.int .i64 f.i) ∧ w'.cell? ⟨b, o + (m + 1) * 4 + 3, none⟩ = some (.int .i64 f.p))) (by kernel_rfl) ?_ (fun hHeld => ?_)
        · go_keep
        refine takeAt (i := 0) (d := 12) (v := ?_) rfl (by kernel_rfl) (by kernel_rfl) (by kernel_rfl) (by kernel_rfl) (fun _ _ _ h => h) (Or.inl ⟨by kernel_rfl, ?_⟩) hHeld ?_
        rotate_left
        · (intro w hSw; (try dsimp only at hSw); go_simp; try with_reducible rfl)
        simp only [Act.put, List.setIfInBounds_toArray, List.set_cons_zero, List.set_cons_succ]
        refine takeAt (i := 1) (d := 13) (v := ?_) rfl (by kernel_rfl) (by kernel_rfl) (by kernel_rfl) (by kernel_rfl) (fun _ _ _ h => h) (Or.inl ⟨by kernel_rfl, ?_⟩) hHeld ?_
        rotate_left
        · (intro w hSw; (try dsimp only at hSw); go_simp; try with_reducible rfl)
        simp only [Act.put, List.setIfInBounds_toArray, List.set_cons_zero, List.set_cons_succ]
        refine takeAt (i := 2) (d := 14) (v := ?_) rfl (by kernel_rfl) (by kernel_rfl) (by kernel_rfl) (by kernel_rfl) (fun _ _ _ h => h) (Or.inl ⟨by kernel_rfl, ?_⟩) hHeld ?_
        rotate_left
        · (intro w hSw; (try dsimp only at hSw); go_simp; try with_reducible rfl)
        simp only [Act.put, List.setIfInBounds_toArray, List.set_cons_zero, List.set_cons_succ]
        refine takeAt (i := 3) (d := 15) (v := ?_) rfl (by kernel_rfl) (by kernel_rfl) (by kernel_rfl) (by kernel_rfl) (fun _ _ _ h => h) (Or.inl ⟨by kernel_rfl, ?_⟩) hHeld ?_
        rotate_left
        · (intro w hSw; (try dsimp only at hSw); go_simp; try with_reducible rfl)
        simp only [Act.put, List.setIfInBounds_toArray, List.set_cons_zero, List.set_cons_succ]
        refine takeAt (i := 4) (d := 16) (v := ?_) rfl (by kernel_rfl) (by kernel_rfl) (by kernel_rfl) (by kernel_rfl) (fun _ _ _ h => h) (Or.inl ⟨by kernel_rfl, ?_⟩) hHeld ?_
        rotate_left
        · (intro w hSw; (try dsimp only at hSw); go_simp; try with_reducible rfl)
        simp only [Act.put, List.setIfInBounds_toArray, List.set_cons_zero, List.set_cons_succ]
        refine takeAt (i := 5) (d := 17) (v := ?_) rfl (by kernel_rfl) (by kernel_rfl) (by kernel_rfl) (by kernel_rfl) (fun _ _ _ h => h) (Or.inl ⟨by kernel_rfl, ?_⟩) hHeld ?_
        rotate_left
        · (intro w hSw; (try dsimp only at hSw); go_simp; try with_reducible rfl)
        simp only [Act.put, List.setIfInBounds_toArray, List.set_cons_zero, List.set_cons_succ]
        refine takeAt (i := 6) (d := 18) (v := ?_) rfl (by kernel_rfl) (by kernel_rfl) (by kernel_rfl) (by kernel_rfl) (fun _ _ _ h => h) (Or.inl ⟨by kernel_rfl, ?_⟩) hHeld ?_
        rotate_left
        · (intro w hSw; (try dsimp only at hSw); go_simp; try with_reducible rfl)
        simp only [Act.put, List.setIfInBounds_toArray, List.set_cons_zero, List.set_cons_succ]
        refine takeAt (i := 7) (d := 19) (v := ?_) rfl (by kernel_rfl) (by kernel_rfl) (by kernel_rfl) (by kernel_rfl) (fun _ _ _ h => h) (Or.inl ⟨by kernel_rfl, ?_⟩) hHeld ?_
        rotate_left
        · (intro w hSw; (try dsimp only at hSw); go_simp; try with_reducible rfl)
        simp only [Act.put, List.setIfInBounds_toArray, List.set_cons_zero, List.set_cons_succ]
        refine takeAt (i := 8) (d := 20) (v := ?_) rfl (by kernel_rfl) (by kernel_rfl) (by kernel_rfl) (by kernel_rfl) (fun _ _ _ h => h) (Or.inl ⟨by kernel_rfl, ?_⟩) hHeld ?_
        rotate_left
        · (intro w hSw; (try dsimp only at hSw); go_simp; try with_reducible rfl)
        simp only [Act.put, List.setIfInBounds_toArray, List.set_cons_zero, List.set_cons_succ]
        refine takeAt (i := 9) (d := 21) (v := ?_) rfl (by kernel_rfl) (by kernel_rfl) (by kernel_rfl) (by kernel_rfl) (fun _ _ _ h => h) (Or.inl ⟨by kernel_rfl, ?_⟩) hHeld ?_
        rotate_left
        · (intro w hSw; (try dsimp only at hSw); go_simp; try with_reducible rfl)
        simp only [Act.put, List.setIfInBounds_toArray, List.set_cons_zero, List.set_cons_succ]
        refine wpAnyH_ready (rs := [10]) (by kernel_rfl) (by simp) (AllReadyH.cons rfl (fun K hK => ?_) AllReadyH.nil)
        go_simp
        go_wp2_with ((go_at_call 109; refine (doorAhead_b d f _ true hok).mono ?_; rintro e w1 ⟨rfl, hb1⟩; have hB1 := bl_trans (bl_drew hB) hb1; obtain ⟨p0, p1, p2, p3⟩ := hc.below hB1 hlt m d hd.out; obtain ⟨q0, q1, q2, q3⟩ := hc.below hB1 hlt (m + 1) f hf.out))
        refine hK.out _ _ ?_ (fun hHeld1 => ?_)
        · go_keep
        clear hK K hHeld
        have hHeld := hHeld1
        clear hHeld1
        refine takeAt (i := 11) (d := 23) (v := ?_) rfl (by kernel_rfl) (by kernel_rfl) (by kernel_rfl) (by kernel_rfl) (fun _ _ _ h => h) (Or.inl ⟨by kernel_rfl, ?_⟩) hHeld ?_
        rotate_left
        · (intro w hSw; (try dsimp only at hSw); go_simp; try with_reducible rfl)
        simp only [Act.put, List.setIfInBounds_toArray, List.set_cons_zero, List.set_cons_succ]
        refine wpAnyH_done (by kernel_rfl) ?_ _
        go_wp2_with fail
        go_roundg (ds.length + 1 - (m + 1))
        case measure => omega
        case rel =>
          refine ⟨m + 1, rfl, by omega, by go_num, ?_, hB1⟩
          intro i d' f' hi hd' hf'
          by_cases him : i < m
          · exact hUp.out i d' f' (by omega) hd' hf'
          · have him' : i = m := by omega
            subst him'
            rw [some_one hd' hd.out, some_one hf' hf.out]; exact hok
      · have hok' : dAhead d f = false := by simpa using hok
        go_wp2_with fail
        refine wp_region_held_drew (S := (fun w' => w'.cell? ⟨b, o + m * 4, none⟩ = some (.int .i64 d.k) ∧ w'.cell? ⟨b, o + m * 4 + 1, none⟩ = some (.int .i64 d.o) ∧ w'.cell? ⟨b, o + m * 4 + 2, none⟩ = some (.int .i64 d.i) ∧ w'.cell? ⟨b, o + m * 4 + 3, none⟩ = some (.int .i64 d.p) ∧ w'.cell? ⟨b, o + (m + 1) * 4, none⟩ = some (.int .i64 f.k) ∧ w'.cell? ⟨b, o + (m + 1) * 4 + 1, none⟩ = some (.int .i64 f.o) ∧ w'.cell? ⟨b, o + (m + 1) * 4 + 2, none⟩ = some (.int .i64 f.i) ∧ w'.cell? ⟨b, o + (m + 1) * 4 + 3, none⟩ = some (.int .i64 f.p))) (by kernel_rfl) ?_ (fun hHeld => ?_)
        · go_keep
        refine takeAt (i := 0) (d := 12) (v := ?_) rfl (by kernel_rfl) (by kernel_rfl) (by kernel_rfl) (by kernel_rfl) (fun _ _ _ h => h) (Or.inl ⟨by kernel_rfl, ?_⟩) hHeld ?_
        rotate_left
        · (intro w hSw; (try dsimp only at hSw); go_simp; try with_reducible rfl)
        simp only [Act.put, List.setIfInBounds_toArray, List.set_cons_zero, List.set_cons_succ]
        refine takeAt (i := 1) (d := 13) (v := ?_) rfl (by kernel_rfl) (by kernel_rfl) (by kernel_rfl) (by kernel_rfl) (fun _ _ _ h => h) (Or.inl ⟨by kernel_rfl, ?_⟩) hHeld ?_
        rotate_left
        · (intro w hSw; (try dsimp only at hSw); go_simp; try with_reducible rfl)
        simp only [Act.put, List.setIfInBounds_toArray, List.set_cons_zero, List.set_cons_succ]
        refine takeAt (i := 2) (d := 14) (v := ?_) rfl (by kernel_rfl) (by kernel_rfl) (by kernel_rfl) (by kernel_rfl) (fun _ _ _ h => h) (Or.inl ⟨by kernel_rfl, ?_⟩) hHeld ?_
        rotate_left
        · (intro w hSw; (try dsimp only at hSw); go_simp; try with_reducible rfl)
        simp only [Act.put, List.setIfInBounds_toArray, List.set_cons_zero, List.set_cons_succ]
        refine takeAt (i := 3) (d := 15) (v := ?_) rfl (by kernel_rfl) (by kernel_rfl) (by kernel_rfl) (by kernel_rfl) (fun _ _ _ h => h) (Or.inl ⟨by kernel_rfl, ?_⟩) hHeld ?_
        rotate_left
        · (intro w hSw; (try dsimp only at hSw); go_simp; try with_reducible rfl)
        simp only [Act.put, List.setIfInBounds_toArray, List.set_cons_zero, List.set_cons_succ]
        refine takeAt (i := 4) (d := 16) (v := ?_) rfl (by kernel_rfl) (by kernel_rfl) (by kernel_rfl) (by kernel_rfl) (fun _ _ _ h => h) (Or.inl ⟨by kernel_rfl, ?_⟩) hHeld ?_
        rotate_left
        · (intro w hSw; (try dsimp only at hSw); go_simp; try with_reducible rfl)
        simp only [Act.put, List.setIfInBounds_toArray, List.set_cons_zero, List.set_cons_succ]
        refine takeAt (i := 5) (d := 17) (v := ?_) rfl (by kernel_rfl) (by kernel_rfl) (by kernel_rfl) (by kernel_rfl) (fun _ _ _ h => h) (Or.inl ⟨by kernel_rfl, ?_⟩) hHeld ?_
        rotate_left
        · (intro w hSw; (try dsimp only at hSw); go_simp; try with_reducible rfl)
        simp only [Act.put, List.setIfInBounds_toArray, List.set_cons_zero, List.set_cons_succ]
        refine takeAt (i := 6) (d := 18) (v := ?_) rfl (by kernel_rfl) (by kernel_rfl) (by kernel_rfl) (by kernel_rfl) (fun _ _ _ h => h) (Or.inl ⟨by kernel_rfl, ?_⟩) hHeld ?_
        rotate_left
        · (intro w hSw; (try dsimp only at hSw); go_simp; try with_reducible rfl)
        simp only [Act.put, List.setIfInBounds_toArray, List.set_cons_zero, List.set_cons_succ]
        refine takeAt (i := 7) (d := 19) (v := ?_) rfl (by kernel_rfl) (by kernel_rfl) (by kernel_rfl) (by kernel_rfl) (fun _ _ _ h => h) (Or.inl ⟨by kernel_rfl, ?_⟩) hHeld ?_
        rotate_left
        · (intro w hSw; (try dsimp only at hSw); go_simp; try with_reducible rfl)
        simp only [Act.put, List.setIfInBounds_toArray, List.set_cons_zero, List.set_cons_succ]
        refine takeAt (i := 8) (d := 20) (v := ?_) rfl (by kernel_rfl) (by kernel_rfl) (by kernel_rfl) (by kernel_rfl) (fun _ _ _ h => h) (Or.inl ⟨by kernel_rfl, ?_⟩) hHeld ?_
        rotate_left
        · (intro w hSw; (try dsimp only at hSw); go_simp; try with_reducible rfl)
        simp only [Act.put, List.setIfInBounds_toArray, List.set_cons_zero, List.set_cons_succ]
        refine takeAt (i := 9) (d := 21) (v := ?_) rfl (by kernel_rfl) (by kernel_rfl) (by kernel_rfl) (by kernel_rfl) (fun _ _ _ h => h) (Or.inl ⟨by kernel_rfl, ?_⟩) hHeld ?_
        rotate_left
        · (intro w hSw; (try dsimp only at hSw); go_simp; try with_reducible rfl)
        simp only [Act.put, List.setIfInBounds_toArray, List.set_cons_zero, List.set_cons_succ]
        refine wpAnyH_ready (rs := [10]) (by kernel_rfl) (by simp) (AllReadyH.cons rfl (fun K hK => ?_) AllReadyH.nil)
        go_simp
        go_wp2_with ((go_at_call 109; refine (doorAhead_b d f _ false hok').mono ?_; rintro e w1 ⟨rfl, hb1⟩; have hB1 := bl_trans (bl_drew hB) hb1; obtain ⟨p0, p1, p2, p3⟩ := hc.below hB1 hlt m d hd.out; obtain ⟨q0, q1, q2, q3⟩ := hc.below hB1 hlt (m + 1) f hf.out))
        refine hK.out _ _ ?_ (fun hHeld1 => ?_)
        · go_keep
        clear hK K hHeld
        have hHeld := hHeld1
        clear hHeld1
        refine takeAt (i := 11) (d := 23) (v := ?_) rfl (by kernel_rfl) (by kernel_rfl) (by kernel_rfl) (by kernel_rfl) (fun _ _ _ h => h) (Or.inl ⟨by kernel_rfl, ?_⟩) hHeld ?_
        rotate_left
        · (intro w hSw; (try dsimp only at hSw); go_simp; try with_reducible rfl)
        simp only [Act.put, List.setIfInBounds_toArray, List.set_cons_zero, List.set_cons_succ]
        refine wpAnyH_done (by kernel_rfl) ?_ _
        go_wp2_with fail
        go_ret
        refine ⟨ret_bool ?_, hB1⟩
        symm
        simp only [drOrdB, decide_eq_false_iff_not]
        intro hall
        exact hok (hall m d f hlt2 hd.out hf.out)
    · have hm2 : ¬ (m : Int) + 1 < (ds.length : Int) := by omega
      go_wp2_with fail
      go_ret
      refine ⟨ret_bool ?_, hB⟩
      symm
      simp only [drOrdB, decide_eq_true_eq]
      intro i d' f' hi hd' hf'
      exact hUp.out i d' f' (by omega) hd' hf'
theorem neighD_nil (da : Option Addr) (dc : Nat) (w : World) (v : Value) :
    Calls Tryz.prog 108 #[.slice da 0 dc, v] w fun e w' => e = .returned (.bool true) ∧ Below w.heap.size w w' := by
  go_enter Tryz.func108, Tryz.ntmps108
  go_wp2_with fail
  go_loopg [5] 0 (fun _ i wr => i = .int .i64 1 ∧ Below w.heap.size w wr)
  case atStart => exact ⟨rfl, bl_refl _⟩
  case round =>
    obtain ⟨rfl, hB⟩ := hrel
    go_wp2_with fail
    go_ret
    exact ⟨rfl, hB⟩

theorem doorsOrdered_ret (ad ln ow lo hi nw : Int) (da : Option Addr) (dn dc : Nat) (ea : Option Addr) (en ec : Nat) (ds : List Dr) (w : World) (h : DoorsAt w da dn ds) (hl : ds.length ≤ 6) :
    Calls Tryz.prog 89 #[.agg #[.int .i64 ad, .int .i64 ln, .int .i64 ow, .int .i64 lo, .int .i64 hi, .slice da dn dc, .int .i64 nw, .slice ea en ec]] w fun e w' => e = .returned (.bool (drOrdB ds)) ∧ Below w.heap.size w w' := by
  have hb := bl_alloc (bl_refl w) (.cells #[.int .i64 ad, .int .i64 ln, .int .i64 ow, .int .i64 lo, .int .i64 hi, .slice da dn dc, .int .i64 nw, .slice ea en ec] 35)
  have H : Hid (Calls Tryz.prog 108 #[.slice da dn dc, .func (.func 109) #[] #[]] (w.alloc (.cells #[.int .i64 ad, .int .i64 ln, .int .i64 ow, .int .i64 lo, .int .i64 hi, .slice da dn dc, .int .i64 nw, .slice ea en ec] 35)) fun e w' => e = .returned (.bool (drOrdB ds)) ∧ Below (w.alloc (.cells #[.int .i64 ad, .int .i64 ln, .int .i64 ow, .int .i64 lo, .int .i64 hi, .slice da dn dc, .int .i64 nw, .slice ea en ec] 35)).heap.size (w.alloc (.cells #[.int .i64 ad, .int .i64 ln, .int .i64 ow, .int .i64 lo, .int .i64 hi, .slice da dn dc, .int .i64 nw, .slice ea en ec] 35)) w') := by
    obtain ⟨rfl, h⟩ := h.below hb
    rcases h with h | ⟨b, o, rfl, hlt, hc⟩
    · subst h
      have e : drOrdB [] = true := by simp [drOrdB, DrOrd]
      rw [e]
      exact neighD_nil da dc _ _
    · exact neighD_some b o ds dc _ hlt hc hl
  clear h
  go_enter Tryz.func89, Tryz.ntmps89
  go_wp2_with fail
  refine H.out.mono ?_
  rintro e w1 ⟨rfl, hb1⟩
  go_wp2
  go_ret
  exact ⟨rfl, bl_trans hb hb1⟩

theorem doorsOk_ret (ad ln ow lo hi nw : Int) (da : Option Addr) (dn dc : Nat) (ea : Option Addr) (en ec : Nat) (ds : List Dr) (w : World) (l0 : 0 ≤ ln) (l1 : ln ≤ 16) (a0 : 0 ≤ ad) (a1 : ad ≤ 65535) (h : DoorsAt w da dn ds) :
    Calls Tryz.prog 88 #[.agg #[.int .i64 ad, .int .i64 ln, .int .i64 ow, .int .i64 lo, .int .i64 hi, .slice da dn dc, .int .i64 nw, .slice ea en ec]] w fun e w' => e = .returned (.bool (drAllB ad ln lo hi ds)) ∧ Below w.heap.size w w' := by
  obtain ⟨rfl, h⟩ := h
  by_cases hl : ds.length ≤ 6
  · rcases h with rfl | ⟨b, o, rfl, hlt, hc⟩
    · have e : drAllB ad ln lo hi [] = true := by simp [drAllB, DrAll]
      rw [e]
      go_enter Tryz.func88, Tryz.ntmps88
      go_wp2_with fail
      go_loopg [12] 0 (fun _ i wr => i = .int .i64 0 ∧ Below w.heap.size w wr)
      case atStart => exact ⟨rfl, bl_alloc (bl_refl _) _⟩
      case round =>
        obtain ⟨rfl, hB⟩ := hrel
        go_wp2_with fail
        go_ret
        exact ⟨rfl, hB⟩
    · exact doorsOk_some ad ln ow lo hi nw b o ds dc ea en ec w l0 l1 a0 a1 hlt hc hl
  · have e : drAllB ad ln lo hi ds = false := by simp [drAllB, hl]
    rw [e]
    have hl' : (6 : Int) < (ds.length : Int) := by omega
    go_enter Tryz.func88, Tryz.ntmps88
    go_wp2
    go_ret
    exact ⟨rfl, bl_alloc (bl_refl _) _⟩
end Go.Proofs.YtcgjpmhjijmplabGreatDoor
