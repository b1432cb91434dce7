/- The program's functions of chapter 2 that go through the doors, walked (all but the map). -/
import Derived.Test.YtcgjpmhjijmplabGreatDoorImpl1
namespace Go.Proofs.YtcgjpmhjijmplabGreatDoor
open Go.ChangeShapes Go.WideShapes Go.ChangeAt Go.RowKit

theorem doorOk_ret (ad ln ow lo hi nw : Int) (da : Option Addr) (dn dc : Nat) (ea : Option Addr) (en ec : Nat) (dk dou din dip : Int) (w : World) (l0 : 0 ≤ ln) (l1 : ln ≤ 16) (a0 : 0 ≤ ad) (a1 : ad ≤ 65535) : Calls Tryz.prog 107 #[.agg #[.int .i64 ad, .int .i64 ln, .int .i64 ow, .int .i64 lo, .int .i64 hi, .slice da dn dc, .int .i64 nw, .slice ea en ec], .agg #[.int .i64 dk, .int .i64 dou, .int .i64 din, .int .i64 dip]] w fun e w' => e = .returned (.bool (dokB ad ln lo hi dk dou din dip)) ∧ Below w.heap.size w w' := by
  go_enter Tryz.func107, Tryz.ntmps107
  go_wp2_with (first
    | (go_at_call 120; refine (isKind_q _ _).mono ?_; rintro e w' ⟨rfl, rfl⟩)
    | (go_at_call 121; refine (isPort_q _ _).mono ?_; rintro e w' ⟨rfl, rfl⟩)
    | (go_at_call 104; refine (within_q _ _ _ _).mono ?_; rintro e w' ⟨rfl, rfl⟩)
    | (go_at_call 100; refine (isInside_ret _ _ _ _ _ _ _ _ _ _ _ _ _ _ l0 l1 a0 a1).mono ?_; rintro e w' ⟨rfl, hb⟩; obtain ⟨hc, hf⟩ := bl_cells hb; have hz1 : w.heap.size < w'.heap.size := (by have := hb.size; (try simp at this); omega); have hz2 : w.heap.size + 1 < w'.heap.size := (by have := hb.size; (try simp at this); omega)))
  all_goals go_ret
  all_goals refine ⟨?_, ?_⟩
  all_goals first
    | (apply ret_bool; simp [dokB, *]; done)
    | (repeat (first | exact bl_refl _ | apply bl_alloc | apply bl_drew | (refine bl_trans ?_ (by assumption))))

def cmpI (a b : Int) : Int := if a < b then -1 else if b < a then 1 else 0
theorem nan_q (n : Int) (w : World) : Calls Tryz.prog 127 #[.int .i64 n] w fun e w' => e = .returned (.bool false) ∧ w' = w := by
  go_enter Tryz.func127, Tryz.ntmps127
  go_wp2
  go_ret
  exact ⟨ret_bool (by simp), rfl⟩
theorem cmp_q (a b : Int) (w : World) : Calls Tryz.prog 123 #[.int .i64 a, .int .i64 b] w fun e w' => e = .returned (.int .i64 (cmpI a b)) ∧ w' = w := by
  go_enter Tryz.func123, Tryz.ntmps123
  go_wp2_with (go_at_call 127; refine (nan_q _ _).mono ?_; rintro e w' ⟨rfl, rfl⟩)
  all_goals go_ret
  all_goals refine ⟨ret_int ?_, rfl⟩
  all_goals (unfold cmpI; split <;> (try split) <;> omega)

def orI : List Int → Int
  | [] => 0
  | x :: xs => if x = 0 then orI xs else x
def IntsAt (w : World) (b : Nat) (zs : List Int) : Prop := ∀ i, i < zs.length → w.cell? ⟨b, i, none⟩ = some (.int .i64 (zs.getD i 0))
theorem orI_drop (zs : List Int) (k : Nat) (h : k < zs.length) : orI (zs.drop k) = if zs.getD k 0 = 0 then orI (zs.drop (k + 1)) else zs.getD k 0 := by
  rw [List.drop_eq_getElem_cons h]
  simp [orI, List.getD, h]
theorem or_q (b : Nat) (zs : List Int) (w : World) (hl : zs.length ≤ 100) (hc : IntsAt w b zs) : Calls Tryz.prog 122 #[.slice (some ⟨b, 0, none⟩) zs.length zs.length] w fun e w' => e = .returned (.int .i64 (orI zs)) ∧ w' = w := by
  go_enter Tryz.func122, Tryz.ntmps122
  go_wp2
  go_loop [8] (fun i => ∃ k : Nat, k ≤ zs.length ∧ i = .int .i64 k ∧ orI zs = orI (zs.drop k)) (fun i => zs.length - (intOf i).toNat)
  case atStart => exact ⟨0, by omega, rfl, rfl⟩
  case round =>
    obtain ⟨k, hk, rfl, heq⟩ := hrel
    have HE : Hid (orI zs = orI (zs.drop k)) := heq
    clear heq
    by_cases hlt : k < zs.length
    · have hd := hc k hlt
      have hst : Hid (orI (zs.drop k) = if zs.getD k 0 = 0 then orI (zs.drop (k + 1)) else zs.getD k 0) := orI_drop zs k hlt
      generalize zs.getD k 0 = z at hd hst
      by_cases hz : z = 0
      · subst hz
        go_wp2
        go_round
        case rel => exact ⟨k + 1, by omega, by go_num, by rw [HE.out, hst.out]; simp⟩
        case measure => simp [intOf]; omega
      · have hz' : (z != 0) = true := by simpa using hz
        go_wp2
        go_ret
        exact ⟨ret_int (by rw [HE.out, hst.out, if_neg hz]), rfl⟩
    · go_wp2
      go_ret
      exact ⟨ret_int (by rw [HE.out, List.drop_eq_nil_of_le (by omega)]; rfl), rfl⟩

theorem or2_q (b : Nat) (x y : Int) (w : World) (h0 : w.cell? ⟨b, 0, none⟩ = some (.int .i64 x)) (h1 : w.cell? ⟨b, 1, none⟩ = some (.int .i64 y)) : Calls Tryz.prog 122 #[.slice (some ⟨b, 0, none⟩) 2 2] w fun e w' => e = .returned (.int .i64 (orI [x, y])) ∧ w' = w :=
  or_q b [x, y] w (by simp) (fun i hi => by
    match i, hi with
    | 0, _ => exact h0
    | 1, _ => exact h1)
theorem or4_q (b : Nat) (x y z u : Int) (w : World) (h0 : w.cell? ⟨b, 0, none⟩ = some (.int .i64 x)) (h1 : w.cell? ⟨b, 1, none⟩ = some (.int .i64 y)) (h2 : w.cell? ⟨b, 2, none⟩ = some (.int .i64 z)) (h3 : w.cell? ⟨b, 3, none⟩ = some (.int .i64 u)) : Calls Tryz.prog 122 #[.slice (some ⟨b, 0, none⟩) 4 4] w fun e w' => e = .returned (.int .i64 (orI [x, y, z, u])) ∧ w' = w :=
  or_q b [x, y, z, u] w (by simp) (fun i hi => by
    match i, hi with
    | 0, _ => exact h0
    | 1, _ => exact h1
    | 2, _ => exact h2
    | 3, _ => exact h3)
def dAheadB (dk dou fk fou : Int) : Bool := decide (orI [cmpI dk fk, cmpI dou fou] < 0)
theorem doorAhead_ret (dk dou din dip : Int) (fk fou fin fip : Int) (w : World) : Calls Tryz.prog 109 #[.agg #[.int .i64 dk, .int .i64 dou, .int .i64 din, .int .i64 dip], .agg #[.int .i64 fk, .int .i64 fou, .int .i64 fin, .int .i64 fip]] w fun e w' => e = .returned (.bool (dAheadB dk dou fk fou)) ∧ Below w.heap.size w w' := by
  go_enter Tryz.func109, Tryz.ntmps109
  go_wp2_with fail
  refine wp_region_held_drew (S := (fun w' => w'.cell? ⟨w.heap.size, 0, none⟩ = some (.int .i64 dk) ∧ w'.cell? ⟨w.heap.size, 1, none⟩ = some (.int .i64 dou) ∧ w'.cell? ⟨w.heap.size, 2, none⟩ = some (.int .i64 din) ∧ w'.cell? ⟨w.heap.size, 3, none⟩ = some (.int .i64 dip) ∧ w'.cell? ⟨w.heap.size + 1, 0, none⟩ = some (.int .i64 fk) ∧ w'.cell? ⟨w.heap.size + 1, 1, none⟩ = some (.int .i64 fou) ∧ w'.cell? ⟨w.heap.size + 1, 2, none⟩ = some (.int .i64 fin) ∧ w'.cell? ⟨w.heap.size + 1, 3, none⟩ = some (.int .i64 fip))) (by kernel_rfl) ?_ (fun hHeld => ?_)
  · go_keep
  refine takeAt (i := 0) (d := 5) (v := ?_) rfl (by kernel_rfl) (by kernel_rfl) (by kernel_rfl) (by kernel_rfl) (fun _ _ _ h => h) (Or.inl ⟨by kernel_rfl, ?_⟩) hHeld ?_
  rotate_left
  · (intro w hSw; (try dsimp only at hSw); go_simp; try with_reducible rfl)
  simp only [Act.put, List.setIfInBounds_toArray, List.set_cons_zero, List.set_cons_succ]
  refine takeAt (i := 1) (d := 6) (v := ?_) rfl (by kernel_rfl) (by kernel_rfl) (by kernel_rfl) (by kernel_rfl) (fun _ _ _ h => h) (Or.inl ⟨by kernel_rfl, ?_⟩) hHeld ?_
  rotate_left
  · (intro w hSw; (try dsimp only at hSw); go_simp; try with_reducible rfl)
  simp only [Act.put, List.setIfInBounds_toArray, List.set_cons_zero, List.set_cons_succ]
  refine takeAt (i := 2) (d := 7) (v := ?_) rfl (by kernel_rfl) (by kernel_rfl) (by kernel_rfl) (by kernel_rfl) (fun _ _ _ h => h) (Or.inl ⟨by kernel_rfl, ?_⟩) hHeld ?_
  rotate_left
  · (intro w hSw; (try dsimp only at hSw); go_simp; try with_reducible rfl)
  simp only [Act.put, List.setIfInBounds_toArray, List.set_cons_zero, List.set_cons_succ]
  refine takeAt (i := 3) (d := 8) (v := ?_) rfl (by kernel_rfl) (by kernel_rfl) (by kernel_rfl) (by kernel_rfl) (fun _ _ _ h => h) (Or.inl ⟨by kernel_rfl, ?_⟩) hHeld ?_
  rotate_left
  · (intro w hSw; (try dsimp only at hSw); go_simp; try with_reducible rfl)
  simp only [Act.put, List.setIfInBounds_toArray, List.set_cons_zero, List.set_cons_succ]
  refine takeAt (i := 5) (d := 10) (v := ?_) rfl (by kernel_rfl) (by kernel_rfl) (by kernel_rfl) (by kernel_rfl) (fun _ _ _ h => h) (Or.inl ⟨by kernel_rfl, ?_⟩) hHeld ?_
  rotate_left
  · (intro w hSw; (try dsimp only at hSw); go_simp; try with_reducible rfl)
  simp only [Act.put, List.setIfInBounds_toArray, List.set_cons_zero, List.set_cons_succ]
  refine takeAt (i := 6) (d := 11) (v := ?_) rfl (by kernel_rfl) (by kernel_rfl) (by kernel_rfl) (by kernel_rfl) (fun _ _ _ h => h) (Or.inl ⟨by kernel_rfl, ?_⟩) hHeld ?_
  rotate_left
  · (intro w hSw; (try dsimp only at hSw); go_simp; try with_reducible rfl)
  simp only [Act.put, List.setIfInBounds_toArray, List.set_cons_zero, List.set_cons_succ]
  refine takeAt (i := 7) (d := 12) (v := ?_) rfl (by kernel_rfl) (by kernel_rfl) (by kernel_rfl) (by kernel_rfl) (fun _ _ _ h => h) (Or.inl ⟨by kernel_rfl, ?_⟩) hHeld ?_
  rotate_left
  · (intro w hSw; (try dsimp only at hSw); go_simp; try with_reducible rfl)
  simp only [Act.put, List.setIfInBounds_toArray, List.set_cons_zero, List.set_cons_succ]
  refine takeAt (i := 8) (d := 13) (v := ?_) rfl (by kernel_rfl) (by kernel_rfl) (by kernel_rfl) (by kernel_rfl) (fun _ _ _ h => h) (Or.inl ⟨by kernel_rfl, ?_⟩) hHeld ?_
  rotate_left
  · (intro w hSw; (try dsimp only at hSw); go_simp; try with_reducible rfl)
  simp only [Act.put, List.setIfInBounds_toArray, List.set_cons_zero, List.set_cons_succ]
  refine wpAnyH_ready (rs := [4]) (by kernel_rfl) (by simp) (AllReadyH.cons rfl (fun K hK => ?_) AllReadyH.nil)
  go_simp
  go_wp2_with ((go_at_call 123; refine (cmp_q _ _ _).mono ?_; rintro e w2 ⟨rfl, rfl⟩))
  refine hK.out _ _ ?_ (fun hHeld1 => ?_)
  · go_keep
  clear hK K hHeld
  have hHeld := hHeld1
  clear hHeld1
  refine wpAnyH_ready (rs := [9]) (by kernel_rfl) (by simp) (AllReadyH.cons rfl (fun K hK => ?_) AllReadyH.nil)
  go_simp
  go_wp2_with ((go_at_call 123; refine (cmp_q _ _ _).mono ?_; rintro e w2 ⟨rfl, rfl⟩))
  refine hK.out _ _ ?_ (fun hHeld1 => ?_)
  · go_keep
  clear hK K hHeld
  have hHeld := hHeld1
  clear hHeld1
  refine wpAnyH_ready (rs := [10]) (by kernel_rfl) (by simp) (AllReadyH.cons rfl (fun K hK => ?_) AllReadyH.nil)
  go_simp
  refine hK.out _ _ ?_ (fun hHeld1 => ?_)
  · go_keep
  clear hK K hHeld
  have hHeld := hHeld1
  clear hHeld1
  refine wpAnyH_ready (rs := [11]) (by kernel_rfl) (by simp) (AllReadyH.cons rfl (fun K hK => ?_) AllReadyH.nil)
  go_simp
  go_wp2_with ((go_at_call 122; refine (or2_q _ (cmpI dk fk) (cmpI dou fou) _ ?h0 ?h1).mono ?_; (case h0 => go_simp); (case h1 => go_simp); rintro e w2 ⟨rfl, rfl⟩))
  refine hK.out _ _ ?_ (fun hHeld1 => ?_)
  · go_keep
  clear hK K hHeld
  have hHeld := hHeld1
  clear hHeld1
  refine takeAt (i := 12) (d := 17) (v := ?_) rfl (by kernel_rfl) (by kernel_rfl) (by kernel_rfl) (by kernel_rfl) (fun _ _ _ h => h) (Or.inl ⟨by kernel_rfl, ?_⟩) hHeld ?_
  rotate_left
  · (intro w hSw; (try dsimp only at hSw); go_simp; try with_reducible rfl)
  simp only [Act.put, List.setIfInBounds_toArray, List.set_cons_zero, List.set_cons_succ]
  refine takeAt (i := 13) (d := 4) (v := ?_) rfl (by kernel_rfl) (by kernel_rfl) (by kernel_rfl) (by kernel_rfl) (fun _ _ _ h => h) (Or.inl ⟨by kernel_rfl, ?_⟩) hHeld ?_
  rotate_left
  · (intro w hSw; (try dsimp only at hSw); go_simp; try with_reducible rfl)
  simp only [Act.put, List.setIfInBounds_toArray, List.set_cons_zero, List.set_cons_succ]
  refine wpAnyH_done (by kernel_rfl) ?_ _
  go_wp2
  go_ret
  exact ⟨rfl, by repeat (first | exact bl_refl _ | apply bl_drew | apply bl_alloc)⟩

def dAhead (d f : Dr) : Bool := dAheadB d.k d.o f.k f.o
def DrOrd (ds : List Dr) (n : Nat) : Prop := ∀ i d f, i + 1 < n → ds[i]? = some d → ds[i + 1]? = some f → dAhead d f = true
open Classical in
noncomputable def drOrdB (ds : List Dr) : Bool := decide (DrOrd ds ds.length)
def DrAll (ad ln lo hi : Int) (ds : List Dr) (n : Nat) : Prop := ∀ i d, i < n → ds[i]? = some d → doorB ad ln lo hi d = true
open Classical in
noncomputable def drAllB (ad ln lo hi : Int) (ds : List Dr) : Bool := decide (ds.length ≤ 6 ∧ DrAll ad ln lo hi ds ds.length)
theorem doorAhead_b (d f : Dr) (w : World) (r : Bool) (hr : dAhead d f = r) : Calls Tryz.prog 109 #[.agg #[.int .i64 d.k, .int .i64 d.o, .int .i64 d.i, .int .i64 d.p], .agg #[.int .i64 f.k, .int .i64 f.o, .int .i64 f.i, .int .i64 f.p]] w fun e w' => e = .returned (.bool r) ∧ Below w.heap.size w w' := by
  subst hr; exact doorAhead_ret _ _ _ _ _ _ _ _ w

set_option maxHeartbeats 2000000 in
theorem doorsOk_some (ad ln ow lo hi nw : Int) (b o : Nat) (ds : List Dr) (dc : Nat) (ea : Option Addr) (en ec : Nat) (w : World) (l0 : 0 ≤ ln) (l1 : ln ≤ 16) (a0 : 0 ≤ ad) (a1 : ad ≤ 65535) (hlt : b < w.heap.size) (hc : DrCells w b o ds) (hl : ds.length ≤ 6) :
    Calls Tryz.prog 88 #[.agg #[.int .i64 ad, .int .i64 ln, .int .i64 ow, .int .i64 lo, .int .i64 hi, .slice (some ⟨b, o, none⟩) ds.length dc, .int .i64 nw, .slice ea en ec]] w fun e w' => e = .returned (.bool (drAllB ad ln lo hi ds)) ∧ Below w.heap.size w w' := by
  go_enter Tryz.func88, Tryz.ntmps88
  go_wp2_with fail
  go_loopg [12] ds.length (fun g i wr => ∃ n : Nat, g = ds.length - n ∧ n ≤ ds.length ∧ i = .int .i64 n ∧ DrAll ad ln lo hi ds n ∧ Below w.heap.size w wr ∧ Box wr w.heap.size #[.int .i64 ad, .int .i64 ln, .int .i64 ow, .int .i64 lo, .int .i64 hi, .slice (some ⟨b, o, none⟩) ds.length dc, .int .i64 nw, .slice ea en ec])
  case atStart => exact ⟨0, by omega, by omega, rfl, fun _ _ h => absurd h (by omega), bl_alloc (bl_refl _) _, Box.new _ _ _⟩
  case round =>
    obtain ⟨n, hg, hn, rfl, hup, hB, hX⟩ := hrel
    obtain ⟨hsz, hbox⟩ := id hX
    by_cases hlt2 : n < ds.length
    · obtain ⟨d, hd⟩ : ∃ d, ds[n]? = some d := ⟨ds[n], by simp [hlt2]⟩
      obtain ⟨c0, c1, c2, c3⟩ := hc.below hB hlt n d hd
      have hUp : Hid (DrAll ad ln lo hi ds n) := hup
      have hD : Hid (ds[n]? = some d) := hd
      clear hup hd
      have hb2 : b < wr.heap.size := by have := hB.size; omega
      go_wp2_with fail
      refine (doorOk_ret _ _ _ _ _ _ _ _ _ _ _ _ _ _ _ _ _ l0 l1 a0 a1).mono ?_
      rintro e w1 ⟨rfl, hb1⟩
      have hB1 := bl_trans (bl_alloc hB _) hb1
      have hX1 := (hX.below (bl_alloc (bl_refl _) _)).below hb1
      by_cases hok : dokB ad ln lo hi d.k d.o d.i d.p = true
      · go_wp2_with fail
        go_roundg (ds.length - (n + 1))
        case measure => omega
        case rel =>
          refine ⟨n + 1, rfl, by omega, by go_num, ?_, hB1, hX1⟩
          intro j e' hj he'
          by_cases hjm : j < n
          · exact hUp.out j e' hjm he'
          · have hjm' : j = n := by omega
            subst hjm'
            rw [some_one he' hD.out]; exact hok
      · go_wp2_with fail
        go_ret
        refine ⟨ret_bool ?_, hB1⟩
        symm
        simp only [drAllB, decide_eq_false_iff_not]
        rintro ⟨_, hall⟩
        exact hok (hall n d hlt2 hD.out)
    · go_wp2_with fail
      go_ret
      refine ⟨ret_bool ?_, hB⟩
      symm
      simp only [drAllB, decide_eq_true_eq]
      have : n = ds.length := by omega
      exact ⟨hl, this ▸ hup⟩
end Go.Proofs.YtcgjpmhjijmplabGreatDoor
