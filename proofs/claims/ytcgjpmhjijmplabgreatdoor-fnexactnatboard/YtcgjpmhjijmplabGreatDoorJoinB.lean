/- Joined: Impl2, Impl3, Impl4. -/
import Derived.Test.YtcgjpmhjijmplabGreatDoorImpl1
import Derived.Maps.OwnSet
/- The program's functions of chapter 2 that go through the doors, walked (all but the map). -/
namespace Go.Proofs.YtcgjpmhjijmplabGreatDoor
open Go.ChangeShapes Go.WideShapes Go.ChangeAt Go.RowKit

theorem doorOk_ret (ad ln ow lo hi nw : Int) (da : Option Addr) (dn dc : Nat) (ea : Option Addr) (en ec : Nat) (dk dou din dip : Int) (w : World) (l0 : 0 ≤ ln) (l1 : ln ≤ 16) (a0 : 0 ≤ ad) (a1 : ad ≤ 65535) : Calls Tryz.prog 107 #[.agg #[.int .i64 ad, .int .i64 ln, .int .i64 ow, .int .i64 lo, .int .i64 hi, .slice da dn dc, .int .i64 nw, .slice ea en ec], .agg #[.int .i64 dk, .int .i64 dou, .int .i64 din, .int .i64 dip]] w fun e w' => e = .returned (.bool (dokB ad ln lo hi dk dou din dip)) ∧ Below w.heap.size w w' := by
  go_enter Tryz.func107, Tryz.ntmps107
  go_wp2_with (first
    | (go_at_call 120; refine (isKind_q _ _).mono ?_; rintro e w' ⟨rfl, rfl⟩)
    | (go_at_call 121; refine (isPort_q _ _).mono ?_; rintro e w' ⟨rfl, rfl⟩)
    | (go_at_call 104; refine (within_q _ _ _ _).mono ?_; rintro e w' ⟨rfl, rfl⟩)
    | (go_at_call 100; refine (isInside_ret _ _ _ _ _ _ _ _ _ _ _ _ _ _ l0 l1 a0 a1).mono ?_; rintro e w' ⟨rfl, hb⟩; obtain ⟨hc, hf⟩ := bl_cells hb; have hz1 : w.heap.size < w'.heap.size := (by have := hb.size; (try simp at this); omega); have hz2 : w.heap.size + 1 < w'.heap.size := (by have := hb.size; (try simp at this); omega)))
  all_goals go_ret
  all_goals refine ⟨?_, ?_⟩
  all_goals first
    | (apply ret_bool; simp [dokB, *]; done)
    | (repeat (first | exact bl_refl _ | apply bl_alloc | apply bl_drew | (refine bl_trans ?_ (by assumption))))

def cmpI (a b : Int) : Int := if a < b then -1 else if b < a then 1 else 0
theorem nan_q (n : Int) (w : World) : Calls Tryz.prog 127 #[.int .i64 n] w fun e w' => e = .returned (.bool false) ∧ w' = w := by
  go_enter Tryz.func127, Tryz.ntmps127
  go_wp2
  go_ret
  exact ⟨ret_bool (by simp), rfl⟩
theorem cmp_q (a b : Int) (w : World) : Calls Tryz.prog 123 #[.int .i64 a, .int .i64 b] w fun e w' => e = .returned (.int .i64 (cmpI a b)) ∧ w' = w := by
  go_enter Tryz.func123, Tryz.ntmps123
  go_wp2_with (go_at_call 127; refine (nan_q _ _).mono ?_; rintro e w' ⟨rfl, rfl⟩)
  all_goals go_ret
  all_goals refine ⟨ret_int ?_, rfl⟩
  all_goals (unfold cmpI; split <;> (try split) <;> omega)

def orI : List Int → Int
  | [] => 0
  | x :: xs => if x = 0 then orI xs else x
def IntsAt (w : World) (b : Nat) (zs : List Int) : Prop := ∀ i, i < zs.length → w.cell? ⟨b, i, none⟩ = some (.int .i64 (zs.getD i 0))
theorem orI_drop (zs : List Int) (k : Nat) (h : k < zs.length) : orI (zs.drop k) = if zs.getD k 0 = 0 then orI (zs.drop (k + 1)) else zs.getD k 0 := by
  rw [List.drop_eq_getElem_cons h]
  simp [orI, List.getD, h]
theorem or_q (b : Nat) (zs : List Int) (w : World) (hl : zs.length ≤ 100) (hc : IntsAt w b zs) : Calls Tryz.prog 122 #[.slice (some ⟨b, 0, none⟩) zs.length zs.length] w fun e w' => e = .returned (.int .i64 (orI zs)) ∧ w' = w := by
  go_enter Tryz.func122, Tryz.ntmps122
  go_wp2
  go_loop [8] (fun i => ∃ k : Nat, k ≤ zs.length ∧ i = .int .i64 k ∧ orI zs = orI (zs.drop k)) (fun i => zs.length - (intOf i).toNat)
  case atStart => exact ⟨0, by omega, rfl, rfl⟩
  case round =>
    obtain ⟨k, hk, rfl, heq⟩ := hrel
    have HE : Hid (orI zs = orI (zs.drop k)) := heq
    clear heq
    by_cases hlt : k < zs.length
    · have hd := hc k hlt
      have hst : Hid (orI (zs.drop k) = if zs.getD k 0 = 0 then orI (zs.drop (k + 1)) else zs.getD k 0) := orI_drop zs k hlt
      generalize zs.getD k 0 = z at hd hst
      by_cases hz : z = 0
      · subst hz
        go_wp2
        go_round
        case rel => exact ⟨k + 1, by omega, by go_num, by rw [HE.out, hst.out]; simp⟩
        case measure => simp [intOf]; omega
      · have hz' : (z != 0) = true := by simpa using hz
        go_wp2
        go_ret
        exact ⟨ret_int (by rw [HE.out, hst.out, if_neg hz]), rfl⟩
    · go_wp2
      go_ret
      exact ⟨ret_int (by rw [HE.out, List.drop_eq_nil_of_le (by omega)]; rfl), rfl⟩

theorem or2_q (b : Nat) (x y : Int) (w : World) (h0 : w.cell? ⟨b, 0, none⟩ = some (.int .i64 x)) (h1 : w.cell? ⟨b, 1, none⟩ = some (.int .i64 y)) : Calls Tryz.prog 122 #[.slice (some ⟨b, 0, none⟩) 2 2] w fun e w' => e = .returned (.int .i64 (orI [x, y])) ∧ w' = w :=
  or_q b [x, y] w (by simp) (fun i hi => by
    match i, hi with
    | 0, _ => exact h0
    | 1, _ => exact h1)
theorem or4_q (b : Nat) (x y z u : Int) (w : World) (h0 : w.cell? ⟨b, 0, none⟩ = some (.int .i64 x)) (h1 : w.cell? ⟨b, 1, none⟩ = some (.int .i64 y)) (h2 : w.cell? ⟨b, 2, none⟩ = some (.int .i64 z)) (h3 : w.cell? ⟨b, 3, none⟩ = some (.int .i64 u)) : Calls Tryz.prog 122 #[.slice (some ⟨b, 0, none⟩) 4 4] w fun e w' => e = .returned (.int .i64 (orI [x, y, z, u])) ∧ w' = w :=
  or_q b [x, y, z, u] w (by simp) (fun i hi => by
    match i, hi with
    | 0, _ => exact h0
    | 1, _ => exact h1
    | 2, _ => exact h2
    | 3, _ => exact h3)
def dAheadB (dk dou fk fou : Int) : Bool := decide (orI [cmpI dk fk, cmpI dou fou] < 0)
theorem doorAhead_ret (dk dou din dip : Int) (fk fou fin fip : Int) (w : World) : Calls Tryz.prog 109 #[.agg #[.int .i64 dk, .int .i64 dou, .int .i64 din, .int .i64 dip], .agg #[.int .i64 fk, .int .i64 fou, .int .i64 fin, .int .i64 fip]] w fun e w' => e = .returned (.bool (dAheadB dk dou fk fou)) ∧ Below w.heap.size w w' := by
  go_enter Tryz.func109, Tryz.ntmps109
  go_wp2_with fail
  refine wp_region_held_drew (S := (fun w' => w'.cell? ⟨w.heap.size, 0, none⟩ = some (.int .i64 dk) ∧ w'.cell? ⟨w.heap.size, 1, none⟩ = some (.int .i64 dou) ∧ w'.cell? ⟨w.heap.size, 2, none⟩ = some (.int .i64 din) ∧ w'.cell? ⟨w.heap.size, 3, none⟩ = some (.int .i64 dip) ∧ w'.cell? ⟨w.heap.size + 1, 0, none⟩ = some (.int .i64 fk) ∧ w'.cell? ⟨w.heap.size + 1, 1, none⟩ = some (.int .i64 fou) ∧ w'.cell? ⟨w.heap.size + 1, 2, none⟩ = some (.int .i64 fin) ∧ w'.cell? ⟨w.heap.size + 1, 3, none⟩ = some (.int .i64 fip))) (by kernel_rfl) ?_ (fun hHeld => ?_)
  · go_keep
  refine takeL 0 5 ?_ ?_ hHeld ?_
  rotate_left
  · (intro w hSw; (try dsimp only at hSw); go_simp; try with_reducible rfl)
  simp only [Act.put, puA, puB, puC]
  refine takeL 1 6 ?_ ?_ hHeld ?_
  rotate_left
  · (intro w hSw; (try dsimp only at hSw); go_simp; try with_reducible rfl)
  simp only [Act.put, puA, puB, puC]
  refine takeL 2 7 ?_ ?_ hHeld ?_
  rotate_left
  · (intro w hSw; (try dsimp only at hSw); go_simp; try with_reducible rfl)
  simp only [Act.put, puA, puB, puC]
  refine takeL 3 8 ?_ ?_ hHeld ?_
  rotate_left
  · (intro w hSw; (try dsimp only at hSw); go_simp; try with_reducible rfl)
  simp only [Act.put, puA, puB, puC]
  refine takeL 5 10 ?_ ?_ hHeld ?_
  rotate_left
  · (intro w hSw; (try dsimp only at hSw); go_simp; try with_reducible rfl)
  simp only [Act.put, puA, puB, puC]
  refine takeL 6 11 ?_ ?_ hHeld ?_
  rotate_left
  · (intro w hSw; (try dsimp only at hSw); go_simp; try with_reducible rfl)
  simp only [Act.put, puA, puB, puC]
  refine takeL 7 12 ?_ ?_ hHeld ?_
  rotate_left
  · (intro w hSw; (try dsimp only at hSw); go_simp; try with_reducible rfl)
  simp only [Act.put, puA, puB, puC]
  refine takeL 8 13 ?_ ?_ hHeld ?_
  rotate_left
  · (intro w hSw; (try dsimp only at hSw); go_simp; try with_reducible rfl)
  simp only [Act.put, puA, puB, puC]
  refine wpAnyH_ready (rs := [4]) (by kernel_rfl) (by simp) (AllReadyH.cons rfl (fun K hK => ?_) AllReadyH.nil)
  go_simp
  go_wp2_with ((go_at_call 123; refine (cmp_q _ _ _).mono ?_; rintro e w2 ⟨rfl, rfl⟩))
  refine hK.out _ _ ?_ (fun hHeld1 => ?_)
  · go_keep
  clear hK K hHeld
  have hHeld := hHeld1
  clear hHeld1
  refine wpAnyH_ready (rs := [9]) (by kernel_rfl) (by simp) (AllReadyH.cons rfl (fun K hK => ?_) AllReadyH.nil)
  go_simp
  go_wp2_with ((go_at_call 123; refine (cmp_q _ _ _).mono ?_; rintro e w2 ⟨rfl, rfl⟩))
  refine hK.out _ _ ?_ (fun hHeld1 => ?_)
  · go_keep
  clear hK K hHeld
  have hHeld := hHeld1
  clear hHeld1
  refine wpAnyH_ready (rs := [10]) (by kernel_rfl) (by simp) (AllReadyH.cons rfl (fun K hK => ?_) AllReadyH.nil)
  go_simp
  refine hK.out _ _ ?_ (fun hHeld1 => ?_)
  · go_keep
  clear hK K hHeld
  have hHeld := hHeld1
  clear hHeld1
  refine wpAnyH_ready (rs := [11]) (by kernel_rfl) (by simp) (AllReadyH.cons rfl (fun K hK => ?_) AllReadyH.nil)
  go_simp
  go_wp2_with ((go_at_call 122; refine (or2_q _ (cmpI dk fk) (cmpI dou fou) _ ?h0 ?h1).mono ?_; (case h0 => go_simp); (case h1 => go_simp); rintro e w2 ⟨rfl, rfl⟩))
  refine hK.out _ _ ?_ (fun hHeld1 => ?_)
  · go_keep
  clear hK K hHeld
  have hHeld := hHeld1
  clear hHeld1
  refine takeL 12 17 ?_ ?_ hHeld ?_
  rotate_left
  · (intro w hSw; (try dsimp only at hSw); go_simp; try with_reducible rfl)
  simp only [Act.put, puA, puB, puC]
  refine takeL 13 4 ?_ ?_ hHeld ?_
  rotate_left
  · (intro w hSw; (try dsimp only at hSw); go_simp; try with_reducible rfl)
  simp only [Act.put, puA, puB, puC]
  refine wpAnyH_done (by kernel_rfl) ?_ _
  go_wp2
  go_ret
  exact ⟨rfl, by repeat (first | exact bl_refl _ | apply bl_drew | apply bl_alloc)⟩

def dAhead (d f : Dr) : Bool := dAheadB d.k d.o f.k f.o
def DrOrd (ds : List Dr) (n : Nat) : Prop := ∀ i d f, i + 1 < n → ds[i]? = some d → ds[i + 1]? = some f → dAhead d f = true
open Classical in
noncomputable def drOrdB (ds : List Dr) : Bool := decide (DrOrd ds ds.length)
def DrAll (ad ln lo hi : Int) (ds : List Dr) (n : Nat) : Prop := ∀ i d, i < n → ds[i]? = some d → doorB ad ln lo hi d = true
open Classical in
noncomputable def drAllB (ad ln lo hi : Int) (ds : List Dr) : Bool := decide (ds.length ≤ 6 ∧ DrAll ad ln lo hi ds ds.length)
theorem doorAhead_b (d f : Dr) (w : World) (r : Bool) (hr : dAhead d f = r) : Calls Tryz.prog 109 #[.agg #[.int .i64 d.k, .int .i64 d.o, .int .i64 d.i, .int .i64 d.p], .agg #[.int .i64 f.k, .int .i64 f.o, .int .i64 f.i, .int .i64 f.p]] w fun e w' => e = .returned (.bool r) ∧ Below w.heap.size w w' := by
  subst hr; exact doorAhead_ret _ _ _ _ _ _ _ _ w

set_option maxHeartbeats 2000000 in
theorem doorsOk_some (ad ln ow lo hi nw : Int) (b o : Nat) (ds : List Dr) (dc : Nat) (ea : Option Addr) (en ec : Nat) (w : World) (l0 : 0 ≤ ln) (l1 : ln ≤ 16) (a0 : 0 ≤ ad) (a1 : ad ≤ 65535) (hlt : b < w.heap.size) (hc : DrCells w b o ds) (hl : ds.length ≤ 6) :
    Calls Tryz.prog 88 #[.agg #[.int .i64 ad, .int .i64 ln, .int .i64 ow, .int .i64 lo, .int .i64 hi, .slice (some ⟨b, o, none⟩) ds.length dc, .int .i64 nw, .slice ea en ec]] w fun e w' => e = .returned (.bool (drAllB ad ln lo hi ds)) ∧ Below w.heap.size w w' := by
  go_enter Tryz.func88, Tryz.ntmps88
  go_wp2_with fail
  go_loopg [12] ds.length (fun g i wr => ∃ n : Nat, g = ds.length - n ∧ n ≤ ds.length ∧ i = .int .i64 n ∧ DrAll ad ln lo hi ds n ∧ Below w.heap.size w wr ∧ Box wr w.heap.size #[.int .i64 ad, .int .i64 ln, .int .i64 ow, .int .i64 lo, .int .i64 hi, .slice (some ⟨b, o, none⟩) ds.length dc, .int .i64 nw, .slice ea en ec])
  case atStart => exact ⟨0, by omega, by omega, rfl, fun _ _ h => absurd h (by omega), bl_alloc (bl_refl _) _, Box.new _ _ _⟩
  case round =>
    obtain ⟨n, hg, hn, rfl, hup, hB, hX⟩ := hrel
    obtain ⟨hsz, hbox⟩ := id hX
    by_cases hlt2 : n < ds.length
    · obtain ⟨d, hd⟩ : ∃ d, ds[n]? = some d := ⟨ds[n], by simp [hlt2]⟩
      obtain ⟨c0, c1, c2, c3⟩ := hc.below hB hlt n d hd
      have hUp : Hid (DrAll ad ln lo hi ds n) := hup
      have hD : Hid (ds[n]? = some d) := hd
      clear hup hd
      have hb2 : b < wr.heap.size := by have := hB.size; omega
      go_wp2_with fail
      refine (doorOk_ret _ _ _ _ _ _ _ _ _ _ _ _ _ _ _ _ _ l0 l1 a0 a1).mono ?_
      rintro e w1 ⟨rfl, hb1⟩
      have hB1 := bl_trans (bl_alloc hB _) hb1
      have hX1 := (hX.below (bl_alloc (bl_refl _) _)).below hb1
      by_cases hok : dokB ad ln lo hi d.k d.o d.i d.p = true
      · go_wp2_with fail
        go_roundg (ds.length - (n + 1))
        case measure => omega
        case rel =>
          refine ⟨n + 1, rfl, by omega, by go_num, ?_, hB1, hX1⟩
          intro j e' hj he'
          by_cases hjm : j < n
          · exact hUp.out j e' hjm he'
          · have hjm' : j = n := by omega
            subst hjm'
            rw [some_one he' hD.out]; exact hok
      · go_wp2_with fail
        go_ret
        refine ⟨ret_bool ?_, hB1⟩
        symm
        simp only [drAllB, decide_eq_false_iff_not]
        rintro ⟨_, hall⟩
        exact hok (hall n d hlt2 hD.out)
    · go_wp2_with fail
      go_ret
      refine ⟨ret_bool ?_, hB⟩
      symm
      simp only [drAllB, decide_eq_true_eq]
      have : n = ds.length := by omega
      exact ⟨hl, this ▸ hup⟩
end Go.Proofs.YtcgjpmhjijmplabGreatDoor

/- The program's walk over neighbours, at doors. -/
namespace Go.Proofs.YtcgjpmhjijmplabGreatDoor
open Go.ChangeShapes Go.WideShapes Go.ChangeAt Go.RowKit

set_option maxHeartbeats 2000000 in
theorem neighD_some (b o : Nat) (ds : List Dr) (dc : Nat) (w : World) (hlt : b < w.heap.size) (hc : DrCells w b o ds) (hl : ds.length ≤ 6) :
    Calls Tryz.prog 108 #[.slice (some ⟨b, o, none⟩) ds.length dc, .func (.func 109) #[] #[]] w fun e w' => e = .returned (.bool (drOrdB ds)) ∧ Below w.heap.size w w' := by
  go_enter Tryz.func108, Tryz.ntmps108
  go_wp2_with fail
  go_loopg [5] (ds.length + 1) (fun g i wr => ∃ m : Nat, g = ds.length + 1 - m ∧ m ≤ ds.length ∧ i = .int .i64 ((m : Int) + 1) ∧ DrOrd ds (m + 1) ∧ Below w.heap.size w wr)
  case atStart => exact ⟨0, by omega, by omega, rfl, fun _ _ _ h => absurd h (by omega), bl_refl _⟩
  case round =>
    obtain ⟨m, hg, hn, rfl, hup, hB⟩ := hrel
    have hUp : Hid (DrOrd ds (m + 1)) := hup
    clear hup
    by_cases hlt2 : m + 1 < ds.length
    · obtain ⟨d, hd'⟩ : ∃ d, ds[m]? = some d := ⟨ds[m], by simp⟩
      obtain ⟨f, hf'⟩ : ∃ f, ds[m + 1]? = some f := ⟨ds[m + 1], by simp [hlt2]⟩
      obtain ⟨c0, c1, c2, c3⟩ := hc.below hB hlt m d hd'
      obtain ⟨d0, d1, d2, d3⟩ := hc.below hB hlt (m + 1) f hf'
      have hd : Hid (ds[m]? = some d) := hd'
      have hf : Hid (ds[m + 1]? = some f) := hf'
      clear hd' hf'
      have hb2 : b < wr.heap.size := by have := hB.size; omega
      have hwm : IntKind.i64.wrap (m : Int) = (m : Int) := wrap_of _ (by omega) (by omega)
      have hm0 : (0 : Int) ≤ (m : Int) := by omega
      have hm1 : (m : Int) < (ds.length : Int) := by omega
      have hm2 : (m : Int) + 1 < (ds.length : Int) := by omega
      have hm3 : (0 : Int) ≤ (m : Int) + 1 := by omega
      have htn : ((m : Int) + 1).toNat = m + 1 := by omega
      by_cases hok : dAhead d f = true
      · go_wp2_with fail
        refine wp_region_held_drew (S := (fun w' => w'.cell? ⟨b, o + m * 4, none⟩ = some (.int .i64 d.k) ∧ w'.cell? ⟨b, o + m * 4 + 1, none⟩ = some (.int .i64 d.o) ∧ w'.cell? ⟨b, o + m * 4 + 2, none⟩ = some (.int .i64 d.i) ∧ w'.cell? ⟨b, o + m * 4 + 3, none⟩ = some (.int .i64 d.p) ∧ w'.cell? ⟨b, o + (m + 1) * 4, none⟩ = some (.int .i64 f.k) ∧ w'.cell? ⟨b, o + (m + 1) * 4 + 1, none⟩ = some (.int .i64 f.o) ∧ w'.cell? ⟨b, o + (m + 1) * 4 + 2, none⟩ = some (.int .i64 f.i) ∧ w'.cell? ⟨b, o + (m + 1) * 4 + 3, none⟩ = some (.int .i64 f.p))) (by kernel_rfl) ?_ (fun hHeld => ?_)
        · go_keep
        refine takeL 0 12 ?_ ?_ hHeld ?_
        rotate_left
        · (intro w hSw; (try dsimp only at hSw); go_simp; try with_reducible rfl)
        simp only [Act.put, puA, puB, puC]
        refine takeL 1 13 ?_ ?_ hHeld ?_
        rotate_left
        · (intro w hSw; (try dsimp only at hSw); go_simp; try with_reducible rfl)
        simp only [Act.put, puA, puB, puC]
        refine takeL 2 14 ?_ ?_ hHeld ?_
        rotate_left
        · (intro w hSw; (try dsimp only at hSw); go_simp; try with_reducible rfl)
        simp only [Act.put, puA, puB, puC]
        refine takeL 3 15 ?_ ?_ hHeld ?_
        rotate_left
        · (intro w hSw; (try dsimp only at hSw); go_simp; try with_reducible rfl)
        simp only [Act.put, puA, puB, puC]
        refine takeL 4 16 ?_ ?_ hHeld ?_
        rotate_left
        · (intro w hSw; (try dsimp only at hSw); go_simp; try with_reducible rfl)
        simp only [Act.put, puA, puB, puC]
        refine takeL 5 17 ?_ ?_ hHeld ?_
        rotate_left
        · (intro w hSw; (try dsimp only at hSw); go_simp; try with_reducible rfl)
        simp only [Act.put, puA, puB, puC]
        refine takeL 6 18 ?_ ?_ hHeld ?_
        rotate_left
        · (intro w hSw; (try dsimp only at hSw); go_simp; try with_reducible rfl)
        simp only [Act.put, puA, puB, puC]
        refine takeL 7 19 ?_ ?_ hHeld ?_
        rotate_left
        · (intro w hSw; (try dsimp only at hSw); go_simp; try with_reducible rfl)
        simp only [Act.put, puA, puB, puC]
        refine takeL 8 20 ?_ ?_ hHeld ?_
        rotate_left
        · (intro w hSw; (try dsimp only at hSw); go_simp; try with_reducible rfl)
        simp only [Act.put, puA, puB, puC]
        refine takeL 9 21 ?_ ?_ hHeld ?_
        rotate_left
        · (intro w hSw; (try dsimp only at hSw); go_simp; try with_reducible rfl)
        simp only [Act.put, puA, puB, puC]
        refine wpAnyH_ready (rs := [10]) (by kernel_rfl) (by simp) (AllReadyH.cons rfl (fun K hK => ?_) AllReadyH.nil)
        go_simp
        go_wp2_with ((go_at_call 109; refine (doorAhead_b d f _ true hok).mono ?_; rintro e w1 ⟨rfl, hb1⟩; have hB1 := bl_trans (bl_drew hB) hb1; obtain ⟨p0, p1, p2, p3⟩ := hc.below hB1 hlt m d hd.out; obtain ⟨q0, q1, q2, q3⟩ := hc.below hB1 hlt (m + 1) f hf.out))
        refine hK.out _ _ ?_ (fun hHeld1 => ?_)
        · go_keep
        clear hK K hHeld
        have hHeld := hHeld1
        clear hHeld1
        refine takeL 11 23 ?_ ?_ hHeld ?_
        rotate_left
        · (intro w hSw; (try dsimp only at hSw); go_simp; try with_reducible rfl)
        simp only [Act.put, puA, puB, puC]
        refine wpAnyH_done (by kernel_rfl) ?_ _
        go_wp2_with fail
        go_roundg (ds.length + 1 - (m + 1))
        case measure => omega
        case rel =>
          refine ⟨m + 1, rfl, by omega, by go_num, ?_, hB1⟩
          intro i d' f' hi hd' hf'
          by_cases him : i < m
          · exact hUp.out i d' f' (by omega) hd' hf'
          · have him' : i = m := by omega
            subst him'
            rw [some_one hd' hd.out, some_one hf' hf.out]; exact hok
      · have hok' : dAhead d f = false := by simpa using hok
        go_wp2_with fail
        refine wp_region_held_drew (S := (fun w' => w'.cell? ⟨b, o + m * 4, none⟩ = some (.int .i64 d.k) ∧ w'.cell? ⟨b, o + m * 4 + 1, none⟩ = some (.int .i64 d.o) ∧ w'.cell? ⟨b, o + m * 4 + 2, none⟩ = some (.int .i64 d.i) ∧ w'.cell? ⟨b, o + m * 4 + 3, none⟩ = some (.int .i64 d.p) ∧ w'.cell? ⟨b, o + (m + 1) * 4, none⟩ = some (.int .i64 f.k) ∧ w'.cell? ⟨b, o + (m + 1) * 4 + 1, none⟩ = some (.int .i64 f.o) ∧ w'.cell? ⟨b, o + (m + 1) * 4 + 2, none⟩ = some (.int .i64 f.i) ∧ w'.cell? ⟨b, o + (m + 1) * 4 + 3, none⟩ = some (.int .i64 f.p))) (by kernel_rfl) ?_ (fun hHeld => ?_)
        · go_keep
        refine takeL 0 12 ?_ ?_ hHeld ?_
        rotate_left
        · (intro w hSw; (try dsimp only at hSw); go_simp; try with_reducible rfl)
        simp only [Act.put, puA, puB, puC]
        refine takeL 1 13 ?_ ?_ hHeld ?_
        rotate_left
        · (intro w hSw; (try dsimp only at hSw); go_simp; try with_reducible rfl)
        simp only [Act.put, puA, puB, puC]
        refine takeL 2 14 ?_ ?_ hHeld ?_
        rotate_left
        · (intro w hSw; (try dsimp only at hSw); go_simp; try with_reducible rfl)
        simp only [Act.put, puA, puB, puC]
        refine takeL 3 15 ?_ ?_ hHeld ?_
        rotate_left
        · (intro w hSw; (try dsimp only at hSw); go_simp; try with_reducible rfl)
        simp only [Act.put, puA, puB, puC]
        refine takeL 4 16 ?_ ?_ hHeld ?_
        rotate_left
        · (intro w hSw; (try dsimp only at hSw); go_simp; try with_reducible rfl)
        simp only [Act.put, puA, puB, puC]
        refine takeL 5 17 ?_ ?_ hHeld ?_
        rotate_left
        · (intro w hSw; (try dsimp only at hSw); go_simp; try with_reducible rfl)
        simp only [Act.put, puA, puB, puC]
        refine takeL 6 18 ?_ ?_ hHeld ?_
        rotate_left
        · (intro w hSw; (try dsimp only at hSw); go_simp; try with_reducible rfl)
        simp only [Act.put, puA, puB, puC]
        refine takeL 7 19 ?_ ?_ hHeld ?_
        rotate_left
        · (intro w hSw; (try dsimp only at hSw); go_simp; try with_reducible rfl)
        simp only [Act.put, puA, puB, puC]
        refine takeL 8 20 ?_ ?_ hHeld ?_
        rotate_left
        · (intro w hSw; (try dsimp only at hSw); go_simp; try with_reducible rfl)
        simp only [Act.put, puA, puB, puC]
        refine takeL 9 21 ?_ ?_ hHeld ?_
        rotate_left
        · (intro w hSw; (try dsimp only at hSw); go_simp; try with_reducible rfl)
        simp only [Act.put, puA, puB, puC]
        refine wpAnyH_ready (rs := [10]) (by kernel_rfl) (by simp) (AllReadyH.cons rfl (fun K hK => ?_) AllReadyH.nil)
        go_simp
        go_wp2_with ((go_at_call 109; refine (doorAhead_b d f _ false hok').mono ?_; rintro e w1 ⟨rfl, hb1⟩; have hB1 := bl_trans (bl_drew hB) hb1; obtain ⟨p0, p1, p2, p3⟩ := hc.below hB1 hlt m d hd.out; obtain ⟨q0, q1, q2, q3⟩ := hc.below hB1 hlt (m + 1) f hf.out))
        refine hK.out _ _ ?_ (fun hHeld1 => ?_)
        · go_keep
        clear hK K hHeld
        have hHeld := hHeld1
        clear hHeld1
        refine takeL 11 23 ?_ ?_ hHeld ?_
        rotate_left
        · (intro w hSw; (try dsimp only at hSw); go_simp; try with_reducible rfl)
        simp only [Act.put, puA, puB, puC]
        refine wpAnyH_done (by kernel_rfl) ?_ _
        go_wp2_with fail
        go_ret
        refine ⟨ret_bool ?_, hB1⟩
        symm
        simp only [drOrdB, decide_eq_false_iff_not]
        intro hall
        exact hok (hall m d f hlt2 hd.out hf.out)
    · have hm2 : ¬ (m : Int) + 1 < (ds.length : Int) := by omega
      go_wp2_with fail
      go_ret
      refine ⟨ret_bool ?_, hB⟩
      symm
      simp only [drOrdB, decide_eq_true_eq]
      intro i d' f' hi hd' hf'
      exact hUp.out i d' f' (by omega) hd' hf'
theorem neighD_nil (da : Option Addr) (dc : Nat) (w : World) (v : Value) :
    Calls Tryz.prog 108 #[.slice da 0 dc, v] w fun e w' => e = .returned (.bool true) ∧ Below w.heap.size w w' := by
  go_enter Tryz.func108, Tryz.ntmps108
  go_wp2_with fail
  go_loopg [5] 0 (fun _ i wr => i = .int .i64 1 ∧ Below w.heap.size w wr)
  case atStart => exact ⟨rfl, bl_refl _⟩
  case round =>
    obtain ⟨rfl, hB⟩ := hrel
    go_wp2_with fail
    go_ret
    exact ⟨rfl, hB⟩

theorem doorsOrdered_ret (ad ln ow lo hi nw : Int) (da : Option Addr) (dn dc : Nat) (ea : Option Addr) (en ec : Nat) (ds : List Dr) (w : World) (h : DoorsAt w da dn ds) (hl : ds.length ≤ 6) :
    Calls Tryz.prog 89 #[.agg #[.int .i64 ad, .int .i64 ln, .int .i64 ow, .int .i64 lo, .int .i64 hi, .slice da dn dc, .int .i64 nw, .slice ea en ec]] w fun e w' => e = .returned (.bool (drOrdB ds)) ∧ Below w.heap.size w w' := by
  have hb := bl_alloc (bl_refl w) (.cells #[.int .i64 ad, .int .i64 ln, .int .i64 ow, .int .i64 lo, .int .i64 hi, .slice da dn dc, .int .i64 nw, .slice ea en ec] 35)
  have H : Hid (Calls Tryz.prog 108 #[.slice da dn dc, .func (.func 109) #[] #[]] (w.alloc (.cells #[.int .i64 ad, .int .i64 ln, .int .i64 ow, .int .i64 lo, .int .i64 hi, .slice da dn dc, .int .i64 nw, .slice ea en ec] 35)) fun e w' => e = .returned (.bool (drOrdB ds)) ∧ Below (w.alloc (.cells #[.int .i64 ad, .int .i64 ln, .int .i64 ow, .int .i64 lo, .int .i64 hi, .slice da dn dc, .int .i64 nw, .slice ea en ec] 35)).heap.size (w.alloc (.cells #[.int .i64 ad, .int .i64 ln, .int .i64 ow, .int .i64 lo, .int .i64 hi, .slice da dn dc, .int .i64 nw, .slice ea en ec] 35)) w') := by
    obtain ⟨rfl, h⟩ := h.below hb
    rcases h with h | ⟨b, o, rfl, hlt, hc⟩
    · subst h
      have e : drOrdB [] = true := by simp [drOrdB, DrOrd]
      rw [e]
      exact neighD_nil da dc _ _
    · exact neighD_some b o ds dc _ hlt hc hl
  clear h
  go_enter Tryz.func89, Tryz.ntmps89
  go_wp2_with fail
  refine H.out.mono ?_
  rintro e w1 ⟨rfl, hb1⟩
  go_wp2
  go_ret
  exact ⟨rfl, bl_trans hb hb1⟩

theorem doorsOk_ret (ad ln ow lo hi nw : Int) (da : Option Addr) (dn dc : Nat) (ea : Option Addr) (en ec : Nat) (ds : List Dr) (w : World) (l0 : 0 ≤ ln) (l1 : ln ≤ 16) (a0 : 0 ≤ ad) (a1 : ad ≤ 65535) (h : DoorsAt w da dn ds) :
    Calls Tryz.prog 88 #[.agg #[.int .i64 ad, .int .i64 ln, .int .i64 ow, .int .i64 lo, .int .i64 hi, .slice da dn dc, .int .i64 nw, .slice ea en ec]] w fun e w' => e = .returned (.bool (drAllB ad ln lo hi ds)) ∧ Below w.heap.size w w' := by
  obtain ⟨rfl, h⟩ := h
  by_cases hl : ds.length ≤ 6
  · rcases h with rfl | ⟨b, o, rfl, hlt, hc⟩
    · have e : drAllB ad ln lo hi [] = true := by simp [drAllB, DrAll]
      rw [e]
      go_enter Tryz.func88, Tryz.ntmps88
      go_wp2_with fail
      go_loopg [12] 0 (fun _ i wr => i = .int .i64 0 ∧ Below w.heap.size w wr)
      case atStart => exact ⟨rfl, bl_alloc (bl_refl _) _⟩
      case round =>
        obtain ⟨rfl, hB⟩ := hrel
        go_wp2_with fail
        go_ret
        exact ⟨rfl, hB⟩
    · exact doorsOk_some ad ln ow lo hi nw b o ds dc ea en ec w l0 l1 a0 a1 hlt hc hl
  · have e : drAllB ad ln lo hi ds = false := by simp [drAllB, hl]
    rw [e]
    have hl' : (6 : Int) < (ds.length : Int) := by omega
    go_enter Tryz.func88, Tryz.ntmps88
    go_wp2
    go_ret
    exact ⟨rfl, bl_alloc (bl_refl _) _⟩
end Go.Proofs.YtcgjpmhjijmplabGreatDoor

/- The program's natApart (a map keyed by a struct), walked. -/
namespace Go.Proofs.YtcgjpmhjijmplabGreatDoor
open Go.ChangeShapes Go.WideShapes Go.ChangeAt Go.RowKit Go.Maps

theorem laidOut2 : laidOutB Tryz.prog = true := by kernel_rfl
theorem intCells : Tryz.prog.cellsOf 3 = 1 := by kernel_rfl
theorem zeroInt (w : World) : (zeroValue 3).run Tryz.prog w = .ok (.int .i64 0) w := by kernel_rfl
theorem lits_int (d : Nat) (a : Int) (wa : (Lit.int .i64 a).wf = true) : Tryz.prog.keyLits (d + 1) 3 [.int .i64 a] = some [.int .i64 a] := by
  unfold Program.keyLits
  simp [Tryz.underlying3, wa]
theorem isMap_put {D : DataW Unit} (h : IsMap D) (k : Lit) (v : DataW Unit) : IsMap (D.put k v) := by
  obtain ⟨es, rfl⟩ := h
  exact ⟨_, rfl⟩
theorem ownsMap_below {H : Type} {P : Program} {k : TypeId} {R : Value → Option (DataW H × List MemPlace)} {w w' : World} {b n : Nat} {D : DataW H} (h : w.ownsMap P k R b n D) (hb : Below w.heap.size w w') (hlt : b < w.heap.size) : w'.ownsMap P k R b n D := by
  obtain ⟨es, clock, h1, h2⟩ := h
  exact ⟨es, clock, (hb.block b hlt).trans h1, h2⟩
theorem seat_ret (d : Dr) (w : World) : Calls Tryz.prog 111 #[.agg #[.int .i64 d.k, .int .i64 d.o, .int .i64 d.i, .int .i64 d.p]] w fun e w' => e = .returned (.agg #[.int .i64 d.k, .int .i64 d.i, .int .i64 d.p]) ∧ Below w.heap.size w w' := by
  go_enter Tryz.func111, Tryz.ntmps111
  go_wp2
  exact bodyPost_ret (v := .agg #[.int .i64 d.k, .int .i64 d.i, .int .i64 d.p]) (by simp [results, Tryz.results111, go_sem]) rfl ⟨rfl, bl_alloc (bl_alloc (bl_refl _) _) _⟩

theorem seatKeyed : Keyed Tryz.prog 60 := Keyed.of_law (deep_law_laid laidOut2 (m := 3) (by omega) (of_decide_eq_true (by kernel_rfl)) (by kernel_rfl) (by kernel_rfl))
theorem seatKT : Tryz.prog.keyType 60 = true := by kernel_rfl
theorem seatCells : Tryz.prog.cellsOf 60 = 3 := by kernel_rfl
theorem seat_key (a b c : Int) (wa : (Lit.int .i64 a).wf = true) (wb : (Lit.int .i64 b).wf = true) (wc : (Lit.int .i64 c).wf = true) :
    keyOf Tryz.prog 60 (.agg #[.int .i64 a, .int .i64 b, .int .i64 c]) = some (.string (keyBytes [.int .i64 a, .int .i64 b, .int .i64 c])) := by
  have hp : 1 ≤ Tryz.prog.types.size := of_decide_eq_true (by kernel_rfl)
  obtain ⟨z, hz⟩ : ∃ z, Tryz.prog.types.size + 1 = z + 1 + 1 := ⟨Tryz.prog.types.size - 1, by omega⟩
  have h : Tryz.prog.keyLits (z + 1 + 1) 60 [.int .i64 a, .int .i64 b, .int .i64 c] = some [.int .i64 a, .int .i64 b, .int .i64 c] := by
    have h1 := fun a wa => lits_int z a wa
    unfold Program.keyLits
    simp only [Tryz.underlying60, seatCells]
    generalize Tryz.prog.keyLits (z + 1) = F at h1
    simp [intCells, h1, wa, wb, wc]
  simp only [keyOf, Tryz.underlying60, seatKT, Value.formed, seatCells, hz]
  simp [Value.cells, h]
def seatLit (d : Dr) : Lit := .string (keyBytes [.int .i64 d.k, .int .i64 d.i, .int .i64 d.p])
def seatWf (d : Dr) : Prop := (Lit.int .i64 d.k).wf = true ∧ (Lit.int .i64 d.i).wf = true ∧ (Lit.int .i64 d.p).wf = true
def seatSame (e d : Dr) : Prop := e.k = d.k ∧ e.i = d.i ∧ e.p = d.p
theorem seat_at {d : Dr} (h : seatWf d) : keyOf Tryz.prog 60 (.agg #[.int .i64 d.k, .int .i64 d.i, .int .i64 d.p]) = some (seatLit d) := by
  obtain ⟨h0, h1, h2⟩ := h
  exact seat_key d.k d.i d.p h0 h1 h2
theorem seat_lit {e d : Dr} (he : seatWf e) (hd : seatWf d) : seatLit e = seatLit d ↔ seatSame e d := by
  constructor
  · intro h
    have := seatKeyed.inj (seat_at he) (h ▸ seat_at hd)
    simpa [seatSame] using this
  · rintro ⟨h0, h1, h2⟩
    unfold seatLit
    rw [h0, h1, h2]
/-- What the map holds behind n rounds: just the keys of the first n. -/
def seatHas (D : DataW Unit) (ds : List Dr) (n : Nat) : Prop := IsMap D ∧ ∀ d, seatWf d → (Maps.has D (seatLit d) = true ↔ ∃ j e, j < n ∧ ds[j]? = some e ∧ seatSame e d)
def seatUp (ds : List Dr) (n : Nat) : Prop := ∀ i d, i < n → ds[i]? = some d → ∀ j e, j < i → ds[j]? = some e → ¬ seatSame e d
open Classical in
noncomputable def seatB (ds : List Dr) : Bool := decide (seatUp ds ds.length)
theorem seat_put {D : DataW Unit} {ds : List Dr} {n : Nat} {d : Dr} (hwf : ∀ (i : Nat) d, ds[i]? = some d → seatWf d) (h : seatHas D ds n) (hd : ds[n]? = some d) (v : DataW Unit) : seatHas (D.put (seatLit d) v) ds (n + 1) := by
  have hk : WideAt.IsKeyLit (seatLit d) := seatKeyed.key (seat_at (hwf n d hd))
  refine ⟨isMap_put h.1 _ _, fun f hf => ?_⟩
  by_cases e : seatLit f = seatLit d
  · rw [e, has_put_same h.1 hk]
    simp only [true_iff]
    exact ⟨n, d, by omega, hd, (seat_lit (hwf n d hd) hf).1 e.symm⟩
  · rw [has_put_other e, h.2 f hf]
    constructor
    · rintro ⟨j, x, hj, hx, hs⟩; exact ⟨j, x, by omega, hx, hs⟩
    · rintro ⟨j, x, hj, hx, hs⟩
      refine ⟨j, x, ?_, hx, hs⟩
      rcases Nat.lt_or_ge j n with h' | h'
      · exact h'
      · have : j = n := by omega
        subst this
        rw [some_one hx hd] at hs
        exact absurd ((seat_lit (hwf _ _ hd) hf).2 hs).symm e

set_option maxHeartbeats 4000000 in
set_option maxRecDepth 100000 in
theorem seat_some (b o : Nat) (ds : List Dr) (dc : Nat) (w : World) (hlt : b < w.heap.size) (hc : DrCells w b o ds) (hl : ds.length ≤ 6) (hwf : ∀ (i : Nat) d, ds[i]? = some d → seatWf d) :
    Calls Tryz.prog 110 #[.slice (some ⟨b, o, none⟩) ds.length dc, .func (.func 111) #[] #[]] w fun e w' => e = .returned (.bool (seatB ds)) ∧ Below w.heap.size w w' := by
  have hmm := @run_makeMap Tryz.prog
  go_enter Tryz.func110, Tryz.ntmps110
  go_wp2_with fail
  go_loopg [14] ds.length (fun g i wr => ∃ (n : Nat) (D : DataW Unit), g = ds.length - n ∧ n ≤ ds.length ∧ i = .int .i64 n ∧ wr.ownsMap Tryz.prog 60 (plainElem Tryz.prog 3) w.heap.size n D ∧ seatHas D ds n ∧ seatUp ds n ∧ Below w.heap.size w wr ∧ w.heap.size < wr.heap.size)
  case atStart => exact ⟨0, .map [], by omega, by omega, rfl, World.ownsMap_made _ _ _ _, ⟨isMap_empty, fun d _ => by simp [Maps.has]⟩, fun _ _ h => absurd h (by omega), bl_alloc (bl_refl _) _, by simp⟩
  case round =>
    obtain ⟨n, D, hg, hn, rfl, hown, hhas', hup', hB, hsz⟩ := hrel
    have hHas : Hid (seatHas D ds n) := hhas'
    have hUp : Hid (seatUp ds n) := hup'
    clear hhas' hup'
    by_cases hlt2 : n < ds.length
    · obtain ⟨d, hd'⟩ : ∃ d, ds[n]? = some d := ⟨ds[n], by simp [hlt2]⟩
      obtain ⟨c0, c1, c2, c3⟩ := hc.below hB hlt n d hd'
      have hD : Hid (ds[n]? = some d) := hd'
      have hkey : Hid (keyOf Tryz.prog 60 (.agg #[.int .i64 d.k, .int .i64 d.i, .int .i64 d.p]) = some (seatLit d)) := seat_at (hwf n d hd')
      have hwd : Hid (seatWf d) := hwf n d hd'
      clear hd'
      have hb2 : b < wr.heap.size := by have := hB.size; omega
      go_wp2_with fail
      refine (seat_ret d _).mono ?_
      rintro e w1 ⟨rfl, hb1⟩
      have hB1 := bl_trans (bl_alloc hB _) hb1
      have hown1 := ownsMap_below (hown.alloc _) hb1 (by simp; omega)
      have hz1 := hb1.size
      simp only [World.size_alloc] at hz1
      have hsz1 : w.heap.size < w1.heap.size := by omega
      by_cases hh : Maps.has D (seatLit d) = true
      · go_wp2_with (first
          | (at_lookup; refine wpList_lookup_own_ok_int _ rfl _ _ 168 rfl 60 3 .i64 seatKeyed Tryz.underlying168 Tryz.underlying3 (zeroInt _) w.heap.size n D rfl (hown1.alloc _) _ _ rfl hkey.out ?_; intro c hat hwc))
        go_ret
        refine ⟨ret_bool ?_, bl_alloc hB1 _⟩
        symm
        simp only [seatB, decide_eq_false_iff_not]
        intro hall
        obtain ⟨j, e, hj, he, hs⟩ := (hHas.out.2 d hwd.out).1 hh
        exact hall n d hlt2 hD.out j e hj he hs
      · have hh' : Maps.has D (seatLit d) = false := by simpa using hh
        go_wp2_with (first
          | (at_lookup; refine wpList_lookup_own_ok_int _ rfl _ _ 168 rfl 60 3 .i64 seatKeyed Tryz.underlying168 Tryz.underlying3 (zeroInt _) w.heap.size n D rfl (hown1.alloc _) _ _ rfl hkey.out ?_; intro c hat hwc)
          | (at_mapUpdate; refine wpList_mapUpdate_own _ rfl _ _ _ 168 rfl 60 3 seatKeyed Tryz.underlying168 _ w.heap.size n D rfl (hown1.alloc _) (by unfold maxLen; omega) _ _ _ rfl rfl hkey.out _ [] (plainElem_int Tryz.underlying3 (WalkArith.wf_i64 (by omega))) ?_; intro w2 hown2 hgrow2))
        have hz2 := hgrow2.size
        simp only [World.size_alloc] at hz2
        go_roundg (ds.length - (n + 1))
        case measure => omega
        case rel =>
          refine ⟨n + 1, _, rfl, by omega, by go_num, hown2, seat_put hwf hHas.out hD.out _, ?_, (bl_alloc hB1 _).grown hgrow2 (by simp; omega) (fun k hk => by cases hk; exact Nat.le_refl _), by omega⟩
          intro j x hj hx
          by_cases hjm : j < n
          · exact hUp.out j x hjm hx
          · have hjm' : j = n := by omega
            subst hjm'
            rw [some_one hx hD.out]
            intro i y hi hy hs
            exact hh ((hHas.out.2 d hwd.out).2 ⟨i, y, hi, hy, hs⟩)
    · go_wp2_with fail
      go_ret
      refine ⟨ret_bool ?_, hB⟩
      symm
      simp only [seatB, decide_eq_true_eq]
      have : n = ds.length := by omega
      exact this ▸ hUp.out
end Go.Proofs.YtcgjpmhjijmplabGreatDoor
