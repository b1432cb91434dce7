/- The program's functions of chapter 2 that go through the entries, walked. -/
import Derived.Test.YtcgjpmhjijmplabGreatDoorJoinB
namespace Go.Proofs.YtcgjpmhjijmplabGreatDoor
open Go.ChangeShapes Go.WideShapes Go.ChangeAt Go.RowKit Go.Maps

theorem entryFlow_ret (ek epr epp eou ein eip ela : Int) (w : World) : Calls Tryz.prog 117 #[.agg #[.int .i64 ek, .int .i64 epr, .int .i64 epp, .int .i64 eou, .int .i64 ein, .int .i64 eip, .int .i64 ela]] w fun e w' => e = .returned (.agg #[.int .i64 ek, .int .i64 ein, .int .i64 eip, .int .i64 epr, .int .i64 epp]) ∧ Below w.heap.size w w' := by
  go_enter Tryz.func117, Tryz.ntmps117
  go_wp2
  exact bodyPost_ret (v := .agg #[.int .i64 ek, .int .i64 ein, .int .i64 eip, .int .i64 epr, .int .i64 epp]) (by simp [results, Tryz.results117, go_sem]) rfl ⟨rfl, bl_alloc (bl_alloc (bl_refl _) _) _⟩
theorem eflow_ret (d : En) (w : World) : Calls Tryz.prog 117 #[.agg #[.int .i64 d.k, .int .i64 d.pr, .int .i64 d.pp, .int .i64 d.o, .int .i64 d.i, .int .i64 d.ip, .int .i64 d.l]] w fun e w' => e = .returned (.agg #[.int .i64 d.k, .int .i64 d.i, .int .i64 d.ip, .int .i64 d.pr, .int .i64 d.pp]) ∧ Below w.heap.size w w' := entryFlow_ret _ _ _ _ _ _ _ w

def peerB (ad ln ow x : Int) : Bool := !insB ad ln x && !(x == ow)
def ientB (ad ln ow lo hi nw : Int) (ek epr epp eou ein eip ela : Int) : Bool := flowB ek ein eip epr epp && insB ad ln ein && peerB ad ln ow epr && inB eou lo hi && inB ela 0 nw && decide (nw - ela < 12)
def ientE (ad ln ow lo hi nw : Int) (d : En) : Bool := ientB ad ln ow lo hi nw d.k d.pr d.pp d.o d.i d.ip d.l

theorem isPeer_ret (ad ln ow lo hi nw : Int) (da : Option Addr) (dn dc : Nat) (ea : Option Addr) (en ec : Nat) (x : Int) (w : World) (l0 : 0 ≤ ln) (l1 : ln ≤ 16) (a0 : 0 ≤ ad) (a1 : ad ≤ 65535) : Calls Tryz.prog 76 #[.agg #[.int .i64 ad, .int .i64 ln, .int .i64 ow, .int .i64 lo, .int .i64 hi, .slice da dn dc, .int .i64 nw, .slice ea en ec], .int .i64 x] w fun e w' => e = .returned (.bool (peerB ad ln ow x)) ∧ Below w.heap.size w w' := by
  go_enter Tryz.func76, Tryz.ntmps76
  go_wp2_with (go_at_call 100; refine (isInside_ret _ _ _ _ _ _ _ _ _ _ _ _ _ _ l0 l1 a0 a1).mono ?_; rintro e w' ⟨rfl, hb⟩; obtain ⟨hc, hf⟩ := bl_cells hb)
  all_goals go_ret
  all_goals exact ⟨ret_bool (by simp_all [peerB, bne]), bl_trans (bl_alloc (bl_refl _) _) hb⟩
set_option maxHeartbeats 2000000 in
theorem entryOk_ret (ad ln ow lo hi nw : Int) (da : Option Addr) (dn dc : Nat) (ea : Option Addr) (en ec : Nat) (ek epr epp eou ein eip ela : Int) (w : World) (l0 : 0 ≤ ln) (l1 : ln ≤ 16) (a0 : 0 ≤ ad) (a1 : ad ≤ 65535) (n0 : 0 ≤ nw) (n1 : nw ≤ 1000000) : Calls Tryz.prog 112 #[.agg #[.int .i64 ad, .int .i64 ln, .int .i64 ow, .int .i64 lo, .int .i64 hi, .slice da dn dc, .int .i64 nw, .slice ea en ec], .agg #[.int .i64 ek, .int .i64 epr, .int .i64 epp, .int .i64 eou, .int .i64 ein, .int .i64 eip, .int .i64 ela]] w fun e w' => e = .returned (.bool (ientB ad ln ow lo hi nw ek epr epp eou ein eip ela)) ∧ Below w.heap.size w w' := by
  by_cases hla : inB ela 0 nw = true
  · obtain ⟨q0, q1⟩ := inB_true hla
    go_enter Tryz.func112, Tryz.ntmps112
    go_wp2_with (first
      | (go_at_call 104; refine (within_q _ _ _ _).mono ?_; rintro e w' ⟨rfl, rfl⟩)
      | (go_at_call 117; refine (entryFlow_ret _ _ _ _ _ _ _ _).mono ?_; rintro e w' ⟨rfl, hb⟩; obtain ⟨hc, hf⟩ := bl_cells hb; have hz1 : w.heap.size < w'.heap.size := (by have := hb.size; (try simp at this); omega); have hz2 : w.heap.size + 1 < w'.heap.size := (by have := hb.size; (try simp at this); omega))
      | (go_at_call 75; refine (implFlowOk_ret _ _ _ _ _ _).mono ?_; rintro e w' ⟨rfl, hb⟩; obtain ⟨hc, hf⟩ := bl_cells hb; have hz1 : w.heap.size < w'.heap.size := (by have := hb.size; (try simp at this); omega); have hz2 : w.heap.size + 1 < w'.heap.size := (by have := hb.size; (try simp at this); omega))
      | (go_at_call 100; refine (isInside_ret _ _ _ _ _ _ _ _ _ _ _ _ _ _ l0 l1 a0 a1).mono ?_; rintro e w' ⟨rfl, hb⟩; obtain ⟨hc, hf⟩ := bl_cells hb; have hz1 : w.heap.size < w'.heap.size := (by have := hb.size; (try simp at this); omega); have hz2 : w.heap.size + 1 < w'.heap.size := (by have := hb.size; (try simp at this); omega))
      | (go_at_call 76; refine (isPeer_ret _ _ _ _ _ _ _ _ _ _ _ _ _ _ l0 l1 a0 a1).mono ?_; rintro e w' ⟨rfl, hb⟩; obtain ⟨hc, hf⟩ := bl_cells hb; have hz1 : w.heap.size < w'.heap.size := (by have := hb.size; (try simp at this); omega); have hz2 : w.heap.size + 1 < w'.heap.size := (by have := hb.size; (try simp at this); omega)))
    all_goals go_ret
    all_goals refine ⟨?_, ?_⟩
    all_goals first
      | (apply ret_bool; simp_all [ientB]; done)
      | (repeat (first | exact bl_refl _ | apply bl_alloc | apply bl_drew | (refine bl_trans ?_ (by assumption))))
  · go_enter Tryz.func112, Tryz.ntmps112
    go_wp2_with (first
      | (go_at_call 104; refine (within_q _ _ _ _).mono ?_; rintro e w' ⟨rfl, rfl⟩)
      | (go_at_call 117; refine (entryFlow_ret _ _ _ _ _ _ _ _).mono ?_; rintro e w' ⟨rfl, hb⟩; obtain ⟨hc, hf⟩ := bl_cells hb; have hz1 : w.heap.size < w'.heap.size := (by have := hb.size; (try simp at this); omega); have hz2 : w.heap.size + 1 < w'.heap.size := (by have := hb.size; (try simp at this); omega))
      | (go_at_call 75; refine (implFlowOk_ret _ _ _ _ _ _).mono ?_; rintro e w' ⟨rfl, hb⟩; obtain ⟨hc, hf⟩ := bl_cells hb; have hz1 : w.heap.size < w'.heap.size := (by have := hb.size; (try simp at this); omega); have hz2 : w.heap.size + 1 < w'.heap.size := (by have := hb.size; (try simp at this); omega))
      | (go_at_call 100; refine (isInside_ret _ _ _ _ _ _ _ _ _ _ _ _ _ _ l0 l1 a0 a1).mono ?_; rintro e w' ⟨rfl, hb⟩; obtain ⟨hc, hf⟩ := bl_cells hb; have hz1 : w.heap.size < w'.heap.size := (by have := hb.size; (try simp at this); omega); have hz2 : w.heap.size + 1 < w'.heap.size := (by have := hb.size; (try simp at this); omega))
      | (go_at_call 76; refine (isPeer_ret _ _ _ _ _ _ _ _ _ _ _ _ _ _ l0 l1 a0 a1).mono ?_; rintro e w' ⟨rfl, hb⟩; obtain ⟨hc, hf⟩ := bl_cells hb; have hz1 : w.heap.size < w'.heap.size := (by have := hb.size; (try simp at this); omega); have hz2 : w.heap.size + 1 < w'.heap.size := (by have := hb.size; (try simp at this); omega)))
    all_goals go_ret
    all_goals refine ⟨?_, ?_⟩
    all_goals first
      | (apply ret_bool; simp_all [ientB]; done)
      | (repeat (first | exact bl_refl _ | apply bl_alloc | apply bl_drew | (refine bl_trans ?_ (by assumption))))

theorem entryOk_b (ad ln ow lo hi nw : Int) (da : Option Addr) (dn dc : Nat) (ea : Option Addr) (en ec : Nat) (d : En) (w : World) (l0 : 0 ≤ ln) (l1 : ln ≤ 16) (a0 : 0 ≤ ad) (a1 : ad ≤ 65535) (n0 : 0 ≤ nw) (n1 : nw ≤ 1000000) : Calls Tryz.prog 112 #[.agg #[.int .i64 ad, .int .i64 ln, .int .i64 ow, .int .i64 lo, .int .i64 hi, .slice da dn dc, .int .i64 nw, .slice ea en ec], .agg #[.int .i64 d.k, .int .i64 d.pr, .int .i64 d.pp, .int .i64 d.o, .int .i64 d.i, .int .i64 d.ip, .int .i64 d.l]] w fun e w' => e = .returned (.bool (ientE ad ln ow lo hi nw d)) ∧ Below w.heap.size w w' :=
  entryOk_ret ad ln ow lo hi nw da dn dc ea en ec _ _ _ _ _ _ _ w l0 l1 a0 a1 n0 n1

def eAheadB (ek epr epp eou fk fpr fpp fou : Int) : Bool := decide (orI [cmpI ek fk, cmpI epr fpr, cmpI epp fpp, cmpI eou fou] < 0)
def eAhead (d f : En) : Bool := eAheadB d.k d.pr d.pp d.o f.k f.pr f.pp f.o
def eOrdI (ek epr epp eou fk fpr fpp fou : Int) : Int := orI [cmpI ek fk, cmpI epr fpr, cmpI epp fpp, cmpI eou fou]
set_option maxHeartbeats 2000000 in
theorem entryOrder_ret (ek epr epp eou ein eip ela : Int) (fk fpr fpp fou fin fip fla : Int) (w : World) : Calls Tryz.prog 124 #[.agg #[.int .i64 ek, .int .i64 epr, .int .i64 epp, .int .i64 eou, .int .i64 ein, .int .i64 eip, .int .i64 ela], .agg #[.int .i64 fk, .int .i64 fpr, .int .i64 fpp, .int .i64 fou, .int .i64 fin, .int .i64 fip, .int .i64 fla]] w fun e w' => e = .returned (.int .i64 (eOrdI ek epr epp eou fk fpr fpp fou)) ∧ Below w.heap.size w w' := by
  go_enter Tryz.func124, Tryz.ntmps124
  go_wp2_with fail
  refine wp_region_held_drew (S := (fun w' => w'.cell? ⟨w.heap.size, 0, none⟩ = some (.int .i64 ek) ∧ w'.cell? ⟨w.heap.size, 1, none⟩ = some (.int .i64 epr) ∧ w'.cell? ⟨w.heap.size, 2, none⟩ = some (.int .i64 epp) ∧ w'.cell? ⟨w.heap.size, 3, none⟩ = some (.int .i64 eou) ∧ w'.cell? ⟨w.heap.size, 4, none⟩ = some (.int .i64 ein) ∧ w'.cell? ⟨w.heap.size, 5, none⟩ = some (.int .i64 eip) ∧ w'.cell? ⟨w.heap.size, 6, none⟩ = some (.int .i64 ela) ∧ w'.cell? ⟨w.heap.size + 1, 0, none⟩ = some (.int .i64 fk) ∧ w'.cell? ⟨w.heap.size + 1, 1, none⟩ = some (.int .i64 fpr) ∧ w'.cell? ⟨w.heap.size + 1, 2, none⟩ = some (.int .i64 fpp) ∧ w'.cell? ⟨w.heap.size + 1, 3, none⟩ = some (.int .i64 fou) ∧ w'.cell? ⟨w.heap.size + 1, 4, none⟩ = some (.int .i64 fin) ∧ w'.cell? ⟨w.heap.size + 1, 5, none⟩ = some (.int .i64 fip) ∧ w'.cell? ⟨w.heap.size + 1, 6, none⟩ = some (.int .i64 fla))) (by kernel_rfl) ?_ (fun hHeld => ?_)
  · go_keep
  refine takeL 0 5 ?_ ?_ hHeld ?_
  rotate_left
  · (intro w hSw; (try dsimp only at hSw); go_simp; try with_reducible rfl)
  simp only [Act.put, puA, puB, puC]
  refine takeL 1 6 ?_ ?_ hHeld ?_
  rotate_left
  · (intro w hSw; (try dsimp only at hSw); go_simp; try with_reducible rfl)
  simp only [Act.put, puA, puB, puC]
  refine takeL 2 7 ?_ ?_ hHeld ?_
  rotate_left
  · (intro w hSw; (try dsimp only at hSw); go_simp; try with_reducible rfl)
  simp only [Act.put, puA, puB, puC]
  refine takeL 3 8 ?_ ?_ hHeld ?_
  rotate_left
  · (intro w hSw; (try dsimp only at hSw); go_simp; try with_reducible rfl)
  simp only [Act.put, puA, puB, puC]
  refine takeL 5 10 ?_ ?_ hHeld ?_
  rotate_left
  · (intro w hSw; (try dsimp only at hSw); go_simp; try with_reducible rfl)
  simp only [Act.put, puA, puB, puC]
  refine takeL 6 11 ?_ ?_ hHeld ?_
  rotate_left
  · (intro w hSw; (try dsimp only at hSw); go_simp; try with_reducible rfl)
  simp only [Act.put, puA, puB, puC]
  refine takeL 7 12 ?_ ?_ hHeld ?_
  rotate_left
  · (intro w hSw; (try dsimp only at hSw); go_simp; try with_reducible rfl)
  simp only [Act.put, puA, puB, puC]
  refine takeL 8 13 ?_ ?_ hHeld ?_
  rotate_left
  · (intro w hSw; (try dsimp only at hSw); go_simp; try with_reducible rfl)
  simp only [Act.put, puA, puB, puC]
  refine takeL 10 15 ?_ ?_ hHeld ?_
  rotate_left
  · (intro w hSw; (try dsimp only at hSw); go_simp; try with_reducible rfl)
  simp only [Act.put, puA, puB, puC]
  refine takeL 11 16 ?_ ?_ hHeld ?_
  rotate_left
  · (intro w hSw; (try dsimp only at hSw); go_simp; try with_reducible rfl)
  simp only [Act.put, puA, puB, puC]
  refine takeL 12 17 ?_ ?_ hHeld ?_
  rotate_left
  · (intro w hSw; (try dsimp only at hSw); go_simp; try with_reducible rfl)
  simp only [Act.put, puA, puB, puC]
  refine takeL 13 18 ?_ ?_ hHeld ?_
  rotate_left
  · (intro w hSw; (try dsimp only at hSw); go_simp; try with_reducible rfl)
  simp only [Act.put, puA, puB, puC]
  refine takeL 15 20 ?_ ?_ hHeld ?_
  rotate_left
  · (intro w hSw; (try dsimp only at hSw); go_simp; try with_reducible rfl)
  simp only [Act.put, puA, puB, puC]
  refine takeL 16 21 ?_ ?_ hHeld ?_
  rotate_left
  · (intro w hSw; (try dsimp only at hSw); go_simp; try with_reducible rfl)
  simp only [Act.put, puA, puB, puC]
  refine takeL 17 22 ?_ ?_ hHeld ?_
  rotate_left
  · (intro w hSw; (try dsimp only at hSw); go_simp; try with_reducible rfl)
  simp only [Act.put, puA, puB, puC]
  refine takeL 18 23 ?_ ?_ hHeld ?_
  rotate_left
  · (intro w hSw; (try dsimp only at hSw); go_simp; try with_reducible rfl)
  simp only [Act.put, puA, puB, puC]
  refine wpAnyH_ready (rs := [4]) (by kernel_rfl) (by simp) (AllReadyH.cons rfl (fun K hK => ?_) AllReadyH.nil)
  go_simp
  go_wp2_with ((go_at_call 123; refine (cmp_q _ _ _).mono ?_; rintro e w2 ⟨rfl, rfl⟩))
  refine hK.out _ _ ?_ (fun hHeld1 => ?_)
  · go_keep
  clear hK K hHeld
  have hHeld := hHeld1
  clear hHeld1
  refine wpAnyH_ready (rs := [9]) (by kernel_rfl) (by simp) (AllReadyH.cons rfl (fun K hK => ?_) AllReadyH.nil)
  go_simp
  go_wp2_with ((go_at_call 123; refine (cmp_q _ _ _).mono ?_; rintro e w2 ⟨rfl, rfl⟩))
  refine hK.out _ _ ?_ (fun hHeld1 => ?_)
  · go_keep
  clear hK K hHeld
  have hHeld := hHeld1
  clear hHeld1
  refine wpAnyH_ready (rs := [14]) (by kernel_rfl) (by simp) (AllReadyH.cons rfl (fun K hK => ?_) AllReadyH.nil)
  go_simp
  go_wp2_with ((go_at_call 123; refine (cmp_q _ _ _).mono ?_; rintro e w2 ⟨rfl, rfl⟩))
  refine hK.out _ _ ?_ (fun hHeld1 => ?_)
  · go_keep
  clear hK K hHeld
  have hHeld := hHeld1
  clear hHeld1
  refine wpAnyH_ready (rs := [19]) (by kernel_rfl) (by simp) (AllReadyH.cons rfl (fun K hK => ?_) AllReadyH.nil)
  go_simp
  go_wp2_with ((go_at_call 123; refine (cmp_q _ _ _).mono ?_; rintro e w2 ⟨rfl, rfl⟩))
  refine hK.out _ _ ?_ (fun hHeld1 => ?_)
  · go_keep
  clear hK K hHeld
  have hHeld := hHeld1
  clear hHeld1
  refine wpAnyH_ready (rs := [20]) (by kernel_rfl) (by simp) (AllReadyH.cons rfl (fun K hK => ?_) AllReadyH.nil)
  go_simp
  refine hK.out _ _ ?_ (fun hHeld1 => ?_)
  · go_keep
  clear hK K hHeld
  have hHeld := hHeld1
  clear hHeld1
  refine wpAnyH_ready (rs := [21]) (by kernel_rfl) (by simp) (AllReadyH.cons rfl (fun K hK => ?_) AllReadyH.nil)
  go_simp
  go_wp2_with ((go_at_call 122; refine (or4_q _ (cmpI ek fk) (cmpI epr fpr) (cmpI epp fpp) (cmpI eou fou) _ ?h0 ?h1 ?h2 ?h3).mono ?_; (case h0 => go_simp); (case h1 => go_simp); (case h2 => go_simp); (case h3 => go_simp); rintro e w2 ⟨rfl, rfl⟩))
  refine hK.out _ _ ?_ (fun hHeld1 => ?_)
  · go_keep
  clear hK K hHeld
  have hHeld := hHeld1
  clear hHeld1
  refine takeL 22 4 ?_ ?_ hHeld ?_
  rotate_left
  · (intro w hSw; (try dsimp only at hSw); go_simp; try with_reducible rfl)
  simp only [Act.put, puA, puB, puC]
  refine wpAnyH_done (by kernel_rfl) ?_ _
  go_wp2
  go_ret
  exact ⟨rfl, by repeat (first | exact bl_refl _ | apply bl_drew | apply bl_alloc)⟩
theorem entryAhead_ret (ek epr epp eou ein eip ela : Int) (fk fpr fpp fou fin fip fla : Int) (w : World) : Calls Tryz.prog 114 #[.agg #[.int .i64 ek, .int .i64 epr, .int .i64 epp, .int .i64 eou, .int .i64 ein, .int .i64 eip, .int .i64 ela], .agg #[.int .i64 fk, .int .i64 fpr, .int .i64 fpp, .int .i64 fou, .int .i64 fin, .int .i64 fip, .int .i64 fla]] w fun e w' => e = .returned (.bool (eAheadB ek epr epp eou fk fpr fpp fou)) ∧ Below w.heap.size w w' := by
  go_enter Tryz.func114, Tryz.ntmps114
  go_wp2_with fail
  refine (entryOrder_ret _ _ _ _ _ _ _ _ _ _ _ _ _ _ _).mono ?_
  rintro e w1 ⟨rfl, hb⟩
  go_wp2
  go_ret
  exact ⟨rfl, bl_trans (bl_alloc (bl_alloc (bl_refl _) _) _) hb⟩
theorem entryAhead_b (d f : En) (w : World) (r : Bool) (hr : eAhead d f = r) : Calls Tryz.prog 114 #[.agg #[.int .i64 d.k, .int .i64 d.pr, .int .i64 d.pp, .int .i64 d.o, .int .i64 d.i, .int .i64 d.ip, .int .i64 d.l], .agg #[.int .i64 f.k, .int .i64 f.pr, .int .i64 f.pp, .int .i64 f.o, .int .i64 f.i, .int .i64 f.ip, .int .i64 f.l]] w fun e w' => e = .returned (.bool r) ∧ Below w.heap.size w w' := by
  subst hr; exact entryAhead_ret _ _ _ _ _ _ _ _ _ _ _ _ _ _ w
def EnOrd (ds : List En) (n : Nat) : Prop := ∀ i d f, i + 1 < n → ds[i]? = some d → ds[i + 1]? = some f → eAhead d f = true
open Classical in
noncomputable def enOrdB (ds : List En) : Bool := decide (EnOrd ds ds.length)
def EnAll (ad ln ow lo hi nw : Int) (es : List En) (n : Nat) : Prop := ∀ i d, i < n → es[i]? = some d → ientE ad ln ow lo hi nw d = true
open Classical in
noncomputable def enAllB (ad ln ow lo hi nw : Int) (es : List En) : Bool := decide (es.length ≤ 16 ∧ EnAll ad ln ow lo hi nw es es.length)

set_option maxHeartbeats 2000000 in
theorem neighE_some (b o : Nat) (ds : List En) (dc : Nat) (w : World) (hlt : b < w.heap.size) (hc : EnCells w b o ds) (hl : ds.length ≤ 16) :
    Calls Tryz.prog 113 #[.slice (some ⟨b, o, none⟩) ds.length dc, .func (.func 114) #[] #[]] w fun e w' => e = .returned (.bool (enOrdB ds)) ∧ Below w.heap.size w w' := by
  go_enter Tryz.func113, Tryz.ntmps113
  go_wp2_with fail
  go_loopg [5] (ds.length + 1) (fun g i wr => ∃ m : Nat, g = ds.length + 1 - m ∧ m ≤ ds.length ∧ i = .int .i64 ((m : Int) + 1) ∧ EnOrd ds (m + 1) ∧ Below w.heap.size w wr)
  case atStart => exact ⟨0, by omega, by omega, rfl, fun _ _ _ h => absurd h (by omega), bl_refl _⟩
  case round =>
    obtain ⟨m, hg, hn, rfl, hup, hB⟩ := hrel
    have hUp : Hid (EnOrd ds (m + 1)) := hup
    clear hup
    by_cases hlt2 : m + 1 < ds.length
    · obtain ⟨d, hd'⟩ : ∃ d, ds[m]? = some d := ⟨ds[m], by simp⟩
      obtain ⟨f, hf'⟩ : ∃ f, ds[m + 1]? = some f := ⟨ds[m + 1], by simp [hlt2]⟩
      obtain ⟨c0, c1, c2, c3, c4, c5, c6⟩ := hc.below hB hlt m d hd'
      obtain ⟨d0, d1, d2, d3, d4, d5, d6⟩ := hc.below hB hlt (m + 1) f hf'
      have hd : Hid (ds[m]? = some d) := hd'
      have hf : Hid (ds[m + 1]? = some f) := hf'
      clear hd' hf'
      have hb2 : b < wr.heap.size := by have := hB.size; omega
      have hwm : IntKind.i64.wrap (m : Int) = (m : Int) := wrap_of _ (by omega) (by omega)
      have hm0 : (0 : Int) ≤ (m : Int) := by omega
      have hm1 : (m : Int) < (ds.length : Int) := by omega
      have hm2 : (m : Int) + 1 < (ds.length : Int) := by omega
      have hm3 : (0 : Int) ≤ (m : Int) + 1 := by omega
      have htn : ((m : Int) + 1).toNat = m + 1 := by omega
      by_cases hok : eAhead d f = true
      · go_wp2_with fail
        refine wp_region_held_drew (S := (fun w' => w'.cell? ⟨b, o + m * 7, none⟩ = some (.int .i64 d.k) ∧ w'.cell? ⟨b, o + m * 7 + 1, none⟩ = some (.int .i64 d.pr) ∧ w'.cell? ⟨b, o + m * 7 + 2, none⟩ = some (.int .i64 d.pp) ∧ w'.cell? ⟨b, o + m * 7 + 3, none⟩ = some (.int .i64 d.o) ∧ w'.cell? ⟨b, o + m * 7 + 4, none⟩ = some (.int .i64 d.i) ∧ w'.cell? ⟨b, o + m * 7 + 5, none⟩ = some (.int .i64 d.ip) ∧ w'.cell? ⟨b, o + m * 7 + 6, none⟩ = some (.int .i64 d.l) ∧ w'.cell? ⟨b, o + (m + 1) * 7, none⟩ = some (.int .i64 f.k) ∧ w'.cell? ⟨b, o + (m + 1) * 7 + 1, none⟩ = some (.int .i64 f.pr) ∧ w'.cell? ⟨b, o + (m + 1) * 7 + 2, none⟩ = some (.int .i64 f.pp) ∧ w'.cell? ⟨b, o + (m + 1) * 7 + 3, none⟩ = some (.int .i64 f.o) ∧ w'.cell? ⟨b, o + (m + 1) * 7 + 4, none⟩ = some (.int .i64 f.i) ∧ w'.cell? ⟨b, o + (m + 1) * 7 + 5, none⟩ = some (.int .i64 f.ip) ∧ w'.cell? ⟨b, o + (m + 1) * 7 + 6, none⟩ = some (.int .i64 f.l))) (by kernel_rfl) ?_ (fun hHeld => ?_)
        · go_keep
        refine takeL 0 12 ?_ ?_ hHeld ?_
        rotate_left
        · (intro w hSw; (try dsimp only at hSw); go_simp; try with_reducible rfl)
        simp only [Act.put, puA, puB, puC]
        refine takeL 1 13 ?_ ?_ hHeld ?_
        rotate_left
        · (intro w hSw; (try dsimp only at hSw); go_simp; try with_reducible rfl)
        simp only [Act.put, puA, puB, puC]
        refine takeL 2 14 ?_ ?_ hHeld ?_
        rotate_left
        · (intro w hSw; (try dsimp only at hSw); go_simp; try with_reducible rfl)
        simp only [Act.put, puA, puB, puC]
        refine takeL 3 15 ?_ ?_ hHeld ?_
        rotate_left
        · (intro w hSw; (try dsimp only at hSw); go_simp; try with_reducible rfl)
        simp only [Act.put, puA, puB, puC]
        refine takeL 4 16 ?_ ?_ hHeld ?_
        rotate_left
        · (intro w hSw; (try dsimp only at hSw); go_simp; try with_reducible rfl)
        simp only [Act.put, puA, puB, puC]
        refine takeL 5 17 ?_ ?_ hHeld ?_
        rotate_left
        · (intro w hSw; (try dsimp only at hSw); go_simp; try with_reducible rfl)
        simp only [Act.put, puA, puB, puC]
        refine takeL 6 18 ?_ ?_ hHeld ?_
        rotate_left
        · (intro w hSw; (try dsimp only at hSw); go_simp; try with_reducible rfl)
        simp only [Act.put, puA, puB, puC]
        refine takeL 7 19 ?_ ?_ hHeld ?_
        rotate_left
        · (intro w hSw; (try dsimp only at hSw); go_simp; try with_reducible rfl)
        simp only [Act.put, puA, puB, puC]
        refine takeL 8 20 ?_ ?_ hHeld ?_
        rotate_left
        · (intro w hSw; (try dsimp only at hSw); go_simp; try with_reducible rfl)
        simp only [Act.put, puA, puB, puC]
        refine takeL 9 21 ?_ ?_ hHeld ?_
        rotate_left
        · (intro w hSw; (try dsimp only at hSw); go_simp; try with_reducible rfl)
        simp only [Act.put, puA, puB, puC]
        refine wpAnyH_ready (rs := [10]) (by kernel_rfl) (by simp) (AllReadyH.cons rfl (fun K hK => ?_) AllReadyH.nil)
        go_simp
        go_wp2_with ((go_at_call 114; refine (entryAhead_b d f _ true hok).mono ?_; rintro e w1 ⟨rfl, hb1⟩; have hB1 := bl_trans (bl_drew hB) hb1; obtain ⟨p0, p1, p2, p3, p4, p5, p6⟩ := hc.below hB1 hlt m d hd.out; obtain ⟨q0, q1, q2, q3, q4, q5, q6⟩ := hc.below hB1 hlt (m + 1) f hf.out))
        refine hK.out _ _ ?_ (fun hHeld1 => ?_)
        · go_keep
        clear hK K hHeld
        have hHeld := hHeld1
        clear hHeld1
        refine takeL 11 23 ?_ ?_ hHeld ?_
        rotate_left
        · (intro w hSw; (try dsimp only at hSw); go_simp; try with_reducible rfl)
        simp only [Act.put, puA, puB, puC]
        refine wpAnyH_done (by kernel_rfl) ?_ _
        go_wp2_with fail
        go_roundg (ds.length + 1 - (m + 1))
        case measure => omega
        case rel =>
          refine ⟨m + 1, rfl, by omega, by go_num, ?_, hB1⟩
          intro i d' f' hi hd' hf'
          by_cases him : i < m
          · exact hUp.out i d' f' (by omega) hd' hf'
          · have him' : i = m := by omega
            subst him'
            rw [some_one hd' hd.out, some_one hf' hf.out]; exact hok
      · have hok' : eAhead d f = false := by simpa using hok
        go_wp2_with fail
        refine wp_region_held_drew (S := (fun w' => w'.cell? ⟨b, o + m * 7, none⟩ = some (.int .i64 d.k) ∧ w'.cell? ⟨b, o + m * 7 + 1, none⟩ = some (.int .i64 d.pr) ∧ w'.cell? ⟨b, o + m * 7 + 2, none⟩ = some (.int .i64 d.pp) ∧ w'.cell? ⟨b, o + m * 7 + 3, none⟩ = some (.int .i64 d.o) ∧ w'.cell? ⟨b, o + m * 7 + 4, none⟩ = some (.int .i64 d.i) ∧ w'.cell? ⟨b, o + m * 7 + 5, none⟩ = some (.int .i64 d.ip) ∧ w'.cell? ⟨b, o + m * 7 + 6, none⟩ = some (.int .i64 d.l) ∧ w'.cell? ⟨b, o + (m + 1) * 7, none⟩ = some (.int .i64 f.k) ∧ w'.cell? ⟨b, o + (m + 1) * 7 + 1, none⟩ = some (.int .i64 f.pr) ∧ w'.cell? ⟨b, o + (m + 1) * 7 + 2, none⟩ = some (.int .i64 f.pp) ∧ w'.cell? ⟨b, o + (m + 1) * 7 + 3, none⟩ = some (.int .i64 f.o) ∧ w'.cell? ⟨b, o + (m + 1) * 7 + 4, none⟩ = some (.int .i64 f.i) ∧ w'.cell? ⟨b, o + (m + 1) * 7 + 5, none⟩ = some (.int .i64 f.ip) ∧ w'.cell? ⟨b, o + (m + 1) * 7 + 6, none⟩ = some (.int .i64 f.l))) (by kernel_rfl) ?_ (fun hHeld => ?_)
        · go_keep
        refine takeL 0 12 ?_ ?_ hHeld ?_
        rotate_left
        · (intro w hSw; (try dsimp only at hSw); go_simp; try with_reducible rfl)
        simp only [Act.put, puA, puB, puC]
        refine takeL 1 13 ?_ ?_ hHeld ?_
        rotate_left
        · (intro w hSw; (try dsimp only at hSw); go_simp; try with_reducible rfl)
        simp only [Act.put, puA, puB, puC]
        refine takeL 2 14 ?_ ?_ hHeld ?_
        rotate_left
        · (intro w hSw; (try dsimp only at hSw); go_simp; try with_reducible rfl)
        simp only [Act.put, puA, puB, puC]
        refine takeL 3 15 ?_ ?_ hHeld ?_
        rotate_left
        · (intro w hSw; (try dsimp only at hSw); go_simp; try with_reducible rfl)
        simp only [Act.put, puA, puB, puC]
        refine takeL 4 16 ?_ ?_ hHeld ?_
        rotate_left
        · (intro w hSw; (try dsimp only at hSw); go_simp; try with_reducible rfl)
        simp only [Act.put, puA, puB, puC]
        refine takeL 5 17 ?_ ?_ hHeld ?_
        rotate_left
        · (intro w hSw; (try dsimp only at hSw); go_simp; try with_reducible rfl)
        simp only [Act.put, puA, puB, puC]
        refine takeL 6 18 ?_ ?_ hHeld ?_
        rotate_left
        · (intro w hSw; (try dsimp only at hSw); go_simp; try with_reducible rfl)
        simp only [Act.put, puA, puB, puC]
        refine takeL 7 19 ?_ ?_ hHeld ?_
        rotate_left
        · (intro w hSw; (try dsimp only at hSw); go_simp; try with_reducible rfl)
        simp only [Act.put, puA, puB, puC]
        refine takeL 8 20 ?_ ?_ hHeld ?_
        rotate_left
        · (intro w hSw; (try dsimp only at hSw); go_simp; try with_reducible rfl)
        simp only [Act.put, puA, puB, puC]
        refine takeL 9 21 ?_ ?_ hHeld ?_
        rotate_left
        · (intro w hSw; (try dsimp only at hSw); go_simp; try with_reducible rfl)
        simp only [Act.put, puA, puB, puC]
        refine wpAnyH_ready (rs := [10]) (by kernel_rfl) (by simp) (AllReadyH.cons rfl (fun K hK => ?_) AllReadyH.nil)
        go_simp
        go_wp2_with ((go_at_call 114; refine (entryAhead_b d f _ false hok').mono ?_; rintro e w1 ⟨rfl, hb1⟩; have hB1 := bl_trans (bl_drew hB) hb1; obtain ⟨p0, p1, p2, p3, p4, p5, p6⟩ := hc.below hB1 hlt m d hd.out; obtain ⟨q0, q1, q2, q3, q4, q5, q6⟩ := hc.below hB1 hlt (m + 1) f hf.out))
        refine hK.out _ _ ?_ (fun hHeld1 => ?_)
        · go_keep
        clear hK K hHeld
        have hHeld := hHeld1
        clear hHeld1
        refine takeL 11 23 ?_ ?_ hHeld ?_
        rotate_left
        · (intro w hSw; (try dsimp only at hSw); go_simp; try with_reducible rfl)
        simp only [Act.put, puA, puB, puC]
        refine wpAnyH_done (by kernel_rfl) ?_ _
        go_wp2_with fail
        go_ret
        refine ⟨ret_bool ?_, hB1⟩
        symm
        simp only [enOrdB, decide_eq_false_iff_not]
        intro hall
        exact hok (hall m d f hlt2 hd.out hf.out)
    · have hm2 : ¬ (m : Int) + 1 < (ds.length : Int) := by omega
      go_wp2_with fail
      go_ret
      refine ⟨ret_bool ?_, hB⟩
      symm
      simp only [enOrdB, decide_eq_true_eq]
      intro i d' f' hi hd' hf'
      exact hUp.out i d' f' (by omega) hd' hf'
theorem neighE_nil (da : Option Addr) (dc : Nat) (w : World) (v : Value) :
    Calls Tryz.prog 113 #[.slice da 0 dc, v] w fun e w' => e = .returned (.bool true) ∧ Below w.heap.size w w' := by
  go_enter Tryz.func113, Tryz.ntmps113
  go_wp2_with fail
  go_loopg [5] 0 (fun _ i wr => i = .int .i64 1 ∧ Below w.heap.size w wr)
  case atStart => exact ⟨rfl, bl_refl _⟩
  case round =>
    obtain ⟨rfl, hB⟩ := hrel
    go_wp2_with fail
    go_ret
    exact ⟨rfl, hB⟩

set_option maxHeartbeats 2000000 in
theorem entriesOk_some (ad ln ow lo hi nw : Int) (da : Option Addr) (dn dc : Nat) (b o : Nat) (es : List En) (ec : Nat) (w : World) (l0 : 0 ≤ ln) (l1 : ln ≤ 16) (a0 : 0 ≤ ad) (a1 : ad ≤ 65535) (n0 : 0 ≤ nw) (n1 : nw ≤ 1000000) (hlt : b < w.heap.size) (hc : EnCells w b o es) (hl : es.length ≤ 16) :
    Calls Tryz.prog 91 #[.agg #[.int .i64 ad, .int .i64 ln, .int .i64 ow, .int .i64 lo, .int .i64 hi, .slice da dn dc, .int .i64 nw, .slice (some ⟨b, o, none⟩) es.length ec]] w fun e w' => e = .returned (.bool (enAllB ad ln ow lo hi nw es)) ∧ Below w.heap.size w w' := by
  go_enter Tryz.func91, Tryz.ntmps91
  go_wp2_with fail
  go_loopg [12] es.length (fun g i wr => ∃ n : Nat, g = es.length - n ∧ n ≤ es.length ∧ i = .int .i64 n ∧ EnAll ad ln ow lo hi nw es n ∧ Below w.heap.size w wr ∧ Box wr w.heap.size #[.int .i64 ad, .int .i64 ln, .int .i64 ow, .int .i64 lo, .int .i64 hi, .slice da dn dc, .int .i64 nw, .slice (some ⟨b, o, none⟩) es.length ec])
  case atStart => exact ⟨0, by omega, by omega, rfl, fun _ _ h => absurd h (by omega), bl_alloc (bl_refl _) _, Box.new _ _ _⟩
  case round =>
    obtain ⟨n, hg, hn, rfl, hup, hB, hX⟩ := hrel
    obtain ⟨hsz, hbox⟩ := id hX
    by_cases hlt2 : n < es.length
    · obtain ⟨d, hd⟩ : ∃ d, es[n]? = some d := ⟨es[n], by simp [hlt2]⟩
      obtain ⟨c0, c1, c2, c3, c4, c5, c6⟩ := hc.below hB hlt n d hd
      have hUp : Hid (EnAll ad ln ow lo hi nw es n) := hup
      have hD : Hid (es[n]? = some d) := hd
      clear hup hd
      have hb2 : b < wr.heap.size := by have := hB.size; omega
      go_wp2_with fail
      refine (entryOk_b _ _ _ _ _ _ _ _ _ _ _ _ d _ l0 l1 a0 a1 n0 n1).mono ?_
      rintro e w1 ⟨rfl, hb1⟩
      have hB1 := bl_trans (bl_alloc hB _) hb1
      have hX1 := (hX.below (bl_alloc (bl_refl _) _)).below hb1
      by_cases hok : ientE ad ln ow lo hi nw d = true
      · go_wp2_with fail
        go_roundg (es.length - (n + 1))
        case measure => omega
        case rel =>
          refine ⟨n + 1, rfl, by omega, by go_num, ?_, hB1, hX1⟩
          intro j e' hj he'
          by_cases hjm : j < n
          · exact hUp.out j e' hjm he'
          · have hjm' : j = n := by omega
            subst hjm'
            rw [some_one he' hD.out]; exact hok
      · go_wp2_with fail
        go_ret
        refine ⟨ret_bool ?_, hB1⟩
        symm
        simp only [enAllB, decide_eq_false_iff_not]
        rintro ⟨_, hall⟩
        exact hok (hall n d hlt2 hD.out)
    · go_wp2_with fail
      go_ret
      refine ⟨ret_bool ?_, hB⟩
      symm
      simp only [enAllB, decide_eq_true_eq]
      have : n = es.length := by omega
      exact ⟨hl, this ▸ hup⟩

theorem eflowKeyed : Keyed Tryz.prog 29 := Keyed.of_law (deep_law_laid laidOut2 (m := 3) (by omega) (of_decide_eq_true (by kernel_rfl)) (by kernel_rfl) (by kernel_rfl))
theorem eflowKT : Tryz.prog.keyType 29 = true := by kernel_rfl
theorem eflowCells : Tryz.prog.cellsOf 29 = 5 := by kernel_rfl
theorem eflow_key (a b c d e : Int) (wa : (Lit.int .i64 a).wf = true) (wb : (Lit.int .i64 b).wf = true) (wc : (Lit.int .i64 c).wf = true) (wd : (Lit.int .i64 d).wf = true) (we : (Lit.int .i64 e).wf = true) :
    keyOf Tryz.prog 29 (.agg #[.int .i64 a, .int .i64 b, .int .i64 c, .int .i64 d, .int .i64 e]) = some (.string (keyBytes [.int .i64 a, .int .i64 b, .int .i64 c, .int .i64 d, .int .i64 e])) := by
  have hp : 1 ≤ Tryz.prog.types.size := of_decide_eq_true (by kernel_rfl)
  obtain ⟨z, hz⟩ : ∃ z, Tryz.prog.types.size + 1 = z + 1 + 1 := ⟨Tryz.prog.types.size - 1, by omega⟩
  have h : Tryz.prog.keyLits (z + 1 + 1) 29 [.int .i64 a, .int .i64 b, .int .i64 c, .int .i64 d, .int .i64 e] = some [.int .i64 a, .int .i64 b, .int .i64 c, .int .i64 d, .int .i64 e] := by
    have h1 := fun a wa => lits_int z a wa
    unfold Program.keyLits
    simp only [Tryz.underlying29, eflowCells]
    generalize Tryz.prog.keyLits (z + 1) = F at h1
    simp [intCells, h1, wa, wb, wc, wd, we]
  simp only [keyOf, Tryz.underlying29, eflowKT, Value.formed, eflowCells, hz]
  simp [Value.cells, h]
def eflowLit (d : En) : Lit := .string (keyBytes [.int .i64 d.k, .int .i64 d.i, .int .i64 d.ip, .int .i64 d.pr, .int .i64 d.pp])
def eflowWf (d : En) : Prop := (Lit.int .i64 d.k).wf = true ∧ (Lit.int .i64 d.i).wf = true ∧ (Lit.int .i64 d.ip).wf = true ∧ (Lit.int .i64 d.pr).wf = true ∧ (Lit.int .i64 d.pp).wf = true
def eflowSame (e d : En) : Prop := e.k = d.k ∧ e.i = d.i ∧ e.ip = d.ip ∧ e.pr = d.pr ∧ e.pp = d.pp
theorem eflow_at {d : En} (h : eflowWf d) : keyOf Tryz.prog 29 (.agg #[.int .i64 d.k, .int .i64 d.i, .int .i64 d.ip, .int .i64 d.pr, .int .i64 d.pp]) = some (eflowLit d) := by
  obtain ⟨h0, h1, h2, h3, h4⟩ := h
  exact eflow_key d.k d.i d.ip d.pr d.pp h0 h1 h2 h3 h4
theorem eflow_lit {e d : En} (he : eflowWf e) (hd : eflowWf d) : eflowLit e = eflowLit d ↔ eflowSame e d := by
  constructor
  · intro h
    have := eflowKeyed.inj (eflow_at he) (h ▸ eflow_at hd)
    simpa [eflowSame] using this
  · rintro ⟨h0, h1, h2, h3, h4⟩
    unfold eflowLit
    rw [h0, h1, h2, h3, h4]
/-- What the map holds behind n rounds: just the keys of the first n. -/
def eflowHas (D : DataW Unit) (ds : List En) (n : Nat) : Prop := IsMap D ∧ ∀ d, eflowWf d → (Maps.has D (eflowLit d) = true ↔ ∃ j e, j < n ∧ ds[j]? = some e ∧ eflowSame e d)
def eflowUp (ds : List En) (n : Nat) : Prop := ∀ i d, i < n → ds[i]? = some d → ∀ j e, j < i → ds[j]? = some e → ¬ eflowSame e d
open Classical in
noncomputable def eflowB (ds : List En) : Bool := decide (eflowUp ds ds.length)
theorem eflow_put {D : DataW Unit} {ds : List En} {n : Nat} {d : En} (hwf : ∀ (i : Nat) d, ds[i]? = some d → eflowWf d) (h : eflowHas D ds n) (hd : ds[n]? = some d) (v : DataW Unit) : eflowHas (D.put (eflowLit d) v) ds (n + 1) := by
  have hk : WideAt.IsKeyLit (eflowLit d) := eflowKeyed.key (eflow_at (hwf n d hd))
  refine ⟨isMap_put h.1 _ _, fun f hf => ?_⟩
  by_cases e : eflowLit f = eflowLit d
  · rw [e, has_put_same h.1 hk]
    simp only [true_iff]
    exact ⟨n, d, by omega, hd, (eflow_lit (hwf n d hd) hf).1 e.symm⟩
  · rw [has_put_other e, h.2 f hf]
    constructor
    · rintro ⟨j, x, hj, hx, hs⟩; exact ⟨j, x, by omega, hx, hs⟩
    · rintro ⟨j, x, hj, hx, hs⟩
      refine ⟨j, x, ?_, hx, hs⟩
      rcases Nat.lt_or_ge j n with h' | h'
      · exact h'
      · have : j = n := by omega
        subst this
        rw [some_one hx hd] at hs
        exact absurd ((eflow_lit (hwf _ _ hd) hf).2 hs).symm e

set_option maxHeartbeats 4000000 in
set_option maxRecDepth 100000 in
theorem eflow_some (b o : Nat) (ds : List En) (dc : Nat) (w : World) (hlt : b < w.heap.size) (hc : EnCells w b o ds) (hl : ds.length ≤ 16) (hwf : ∀ (i : Nat) d, ds[i]? = some d → eflowWf d) :
    Calls Tryz.prog 116 #[.slice (some ⟨b, o, none⟩) ds.length dc, .func (.func 117) #[] #[]] w fun e w' => e = .returned (.bool (eflowB ds)) ∧ Below w.heap.size w w' := by
  have hmm := @run_makeMap Tryz.prog
  go_enter Tryz.func116, Tryz.ntmps116
  go_wp2_with fail
  go_loopg [14] ds.length (fun g i wr => ∃ (n : Nat) (D : DataW Unit), g = ds.length - n ∧ n ≤ ds.length ∧ i = .int .i64 n ∧ wr.ownsMap Tryz.prog 29 (plainElem Tryz.prog 3) w.heap.size n D ∧ eflowHas D ds n ∧ eflowUp ds n ∧ Below w.heap.size w wr ∧ w.heap.size < wr.heap.size)
  case atStart => exact ⟨0, .map [], by omega, by omega, rfl, World.ownsMap_made _ _ _ _, ⟨isMap_empty, fun d _ => by simp [Maps.has]⟩, fun _ _ h => absurd h (by omega), bl_alloc (bl_refl _) _, by simp⟩
  case round =>
    obtain ⟨n, D, hg, hn, rfl, hown, hhas', hup', hB, hsz⟩ := hrel
    have hHas : Hid (eflowHas D ds n) := hhas'
    have hUp : Hid (eflowUp ds n) := hup'
    clear hhas' hup'
    by_cases hlt2 : n < ds.length
    · obtain ⟨d, hd'⟩ : ∃ d, ds[n]? = some d := ⟨ds[n], by simp [hlt2]⟩
      obtain ⟨c0, c1, c2, c3, c4, c5, c6⟩ := hc.below hB hlt n d hd'
      have hD : Hid (ds[n]? = some d) := hd'
      have hkey : Hid (keyOf Tryz.prog 29 (.agg #[.int .i64 d.k, .int .i64 d.i, .int .i64 d.ip, .int .i64 d.pr, .int .i64 d.pp]) = some (eflowLit d)) := eflow_at (hwf n d hd')
      have hwd : Hid (eflowWf d) := hwf n d hd'
      clear hd'
      have hb2 : b < wr.heap.size := by have := hB.size; omega
      go_wp2_with fail
      refine (eflow_ret d _).mono ?_
      rintro e w1 ⟨rfl, hb1⟩
      have hB1 := bl_trans (bl_alloc hB _) hb1
      have hown1 := ownsMap_below (hown.alloc _) hb1 (by simp; omega)
      have hz1 := hb1.size
      simp only [World.size_alloc] at hz1
      have hsz1 : w.heap.size < w1.heap.size := by omega
      by_cases hh : Maps.has D (eflowLit d) = true
      · go_wp2_with (first
          | (at_lookup; refine wpList_lookup_own_ok_int _ rfl _ _ 171 rfl 29 3 .i64 eflowKeyed Tryz.underlying171 Tryz.underlying3 (zeroInt _) w.heap.size n D rfl (hown1.alloc _) _ _ rfl hkey.out ?_; intro c hat hwc))
        go_ret
        refine ⟨ret_bool ?_, bl_alloc hB1 _⟩
        symm
        simp only [eflowB, decide_eq_false_iff_not]
        intro hall
        obtain ⟨j, e, hj, he, hs⟩ := (hHas.out.2 d hwd.out).1 hh
        exact hall n d hlt2 hD.out j e hj he hs
      · have hh' : Maps.has D (eflowLit d) = false := by simpa using hh
        go_wp2_with (first
          | (at_lookup; refine wpList_lookup_own_ok_int _ rfl _ _ 171 rfl 29 3 .i64 eflowKeyed Tryz.underlying171 Tryz.underlying3 (zeroInt _) w.heap.size n D rfl (hown1.alloc _) _ _ rfl hkey.out ?_; intro c hat hwc)
          | (at_mapUpdate; refine wpList_mapUpdate_own _ rfl _ _ _ 171 rfl 29 3 eflowKeyed Tryz.underlying171 _ w.heap.size n D rfl (hown1.alloc _) (by unfold maxLen; omega) _ _ _ rfl rfl hkey.out _ [] (plainElem_int Tryz.underlying3 (WalkArith.wf_i64 (by omega))) ?_; intro w2 hown2 hgrow2))
        have hz2 := hgrow2.size
        simp only [World.size_alloc] at hz2
        go_roundg (ds.length - (n + 1))
        case measure => omega
        case rel =>
          refine ⟨n + 1, _, rfl, by omega, by go_num, hown2, eflow_put hwf hHas.out hD.out _, ?_, (bl_alloc hB1 _).grown hgrow2 (by simp; omega) (fun k hk => by cases hk; exact Nat.le_refl _), by omega⟩
          intro j x hj hx
          by_cases hjm : j < n
          · exact hUp.out j x hjm hx
          · have hjm' : j = n := by omega
            subst hjm'
            rw [some_one hx hD.out]
            intro i y hi hy hs
            exact hh ((hHas.out.2 d hwd.out).2 ⟨i, y, hi, hy, hs⟩)
    · go_wp2_with fail
      go_ret
      refine ⟨ret_bool ?_, hB⟩
      symm
      simp only [eflowB, decide_eq_true_eq]
      have : n = ds.length := by omega
      exact this ▸ hUp.out
end Go.Proofs.YtcgjpmhjijmplabGreatDoor
