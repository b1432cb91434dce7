/- The specification's functions of chapter 2 (books) that hold no loop over a list, walked. -/
import Derived.Test.YtcgjpmhjijmplabGreatDoorFlow
import Derived.Deep.QuietTactic
import Derived.BigQuiet
namespace Go.Proofs.YtcgjpmhjijmplabGreatDoor
open Go.ChangeShapes Go.WideShapes Go.ChangeAt Go.RowKit

def sz (n : Int) : Int := ((2 ^ (16 - n).toNat : Nat) : Int)
theorem pow_le (k : Nat) (h : k ≤ 16) : 2 ^ k ≤ 65536 := by
  have : (2:Nat) ^ k ≤ 2 ^ 16 := Nat.pow_le_pow_right (by omega) h
  simpa using this
theorem sz_bd (n : Int) (h0 : 0 ≤ n) : 1 ≤ sz n ∧ sz n ≤ 65536 := by
  unfold sz
  have h1 := pow_le (16 - n).toNat (by omega)
  have h2 : 0 < 2 ^ (16 - n).toNat := Nat.pow_pos (by omega)
  omega

theorem l2Size_ret (n : Int) (w : World) (h0 : 0 ≤ n) (h1 : n ≤ 16) : Calls Tryz.prog 52 #[.int .i64 n] w fun e w' => e = .returned (.int .i64 (sz n)) ∧ w = w' := by
  go_enter Tryz.func52, Tryz.ntmps52
  go_wp2
  go_loop [3, 4] (fun o i => ∃ k : Nat, n + (k : Int) ≤ 16 ∧ i = .int .i64 (n + (k : Int)) ∧ o = .int .i64 ((2 ^ k : Nat) : Int)) (fun _ i => (16 - intOf i).toNat)
  case atStart => exact ⟨0, by omega, by simp, by simp⟩
  case round =>
    obtain ⟨k, hk, rfl, rfl⟩ := hrel
    by_cases hlt : n + (k : Int) < 16
    · have hp := pow_le k (by omega)
      have hp0 : 0 < 2 ^ k := Nat.pow_pos (by omega)
      have e2 : Hid (2 ^ (k + 1) = 2 ^ k * 2) := Nat.pow_succ _ _
      generalize hq : 2 ^ k = q at hp hp0 e2
      clear hq
      go_wp2
      go_round
      case rel => exact ⟨k + 1, by omega, by go_num, by rw [e2.out]; go_num⟩
      case measure => simp [intOf]; omega
    · go_wp2
      go_ret
      have : k = (16 - n).toNat := by omega
      subst this
      exact ⟨rfl, rfl⟩

def insB (ad ln x : Int) : Bool := decide (ad ≤ x) && decide (x < ad + sz ln)

theorem l2Inside_ret (ad ln ow lo hi nw : Int) (da : Option Addr) (dn dc : Nat) (ea : Option Addr) (en ec : Nat) (x : Int) (w : World) (h0 : 0 ≤ ln) (h1 : ln ≤ 16) (h2 : 0 ≤ ad) (h3 : ad ≤ 65535) : Calls Tryz.prog 23 #[.agg #[.int .i64 ad, .int .i64 ln, .int .i64 ow, .int .i64 lo, .int .i64 hi, .slice da dn dc, .int .i64 nw, .slice ea en ec], .int .i64 x] w fun e w' => e = .returned (.bool (insB ad ln x)) ∧ Below w.heap.size w w' := by
  obtain ⟨hs1, hs2⟩ := sz_bd ln h0
  have hq : ∀ w, Calls Tryz.prog 52 #[.int .i64 ln] w fun e w' => e = .returned (.int .i64 (sz ln)) ∧ w' = w := fun w => (l2Size_ret ln w h0 h1).mono fun e w' h => ⟨h.1, h.2.symm⟩
  by_cases hx : ad ≤ x
  · go_enter Tryz.func23, Tryz.ntmps23
    go_wp2_with fail
    go_quiet ((go_at_call 52; exact Calls.quiet_of_same (hq _)))
    go_wp2
    go_ret
    exact ⟨ret_bool (by simp [insB, hx]), bl_draws (bl_alloc (bl_refl _) _) _⟩
  · have hx' : decide (ad ≤ x) = false := by simpa using hx
    go_enter Tryz.func23, Tryz.ntmps23
    go_wp2_with fail
    go_quiet ((go_at_call 52; exact Calls.quiet_of_same (hq _)))
    go_wp2
    go_ret
    exact ⟨ret_bool (by simp [insB, hx']), bl_draws (bl_alloc (bl_refl _) _) _⟩

theorem l1In_q (n lo hi : Int) (w : World) : Calls Tryz.prog 51 #[.int .i64 n, .int .i64 lo, .int .i64 hi] w fun e w' => e = .returned (.bool (inB n lo hi)) ∧ w' = w :=
  (l1In_ret n lo hi w).mono fun _ _ h => ⟨h.1, h.2.symm⟩
theorem l2Size_q (n : Int) (w : World) (h0 : 0 ≤ n) (h1 : n ≤ 16) : Calls Tryz.prog 52 #[.int .i64 n] w fun e w' => e = .returned (.int .i64 (sz n)) ∧ w' = w :=
  (l2Size_ret n w h0 h1).mono fun _ _ h => ⟨h.1, h.2.symm⟩
theorem inB_true {n lo hi : Int} (h : inB n lo hi = true) : lo ≤ n ∧ n ≤ hi := by simpa [inB] using h
theorem inB_mk {n lo hi : Int} (h : lo ≤ n) (h' : n ≤ hi) : inB n lo hi = true := by simp [inB, h, h']

def remB (ad ln : Int) : Bool := ad % sz ln == 0
def portsB (lo hi : Int) : Bool := decide (1 ≤ lo) && decide (lo ≤ hi) && decide (hi ≤ 65535)
def frameB (ad ln ow lo hi nw : Int) : Bool := inB ln 0 16 && inB ad 0 65535 && remB ad ln && inB ow 0 65535 && !insB ad ln ow && portsB lo hi && inB nw 0 1000000

theorem l2Frame_no1 (ad ln ow lo hi nw : Int) (da : Option Addr) (dn dc : Nat) (ea : Option Addr) (en ec : Nat) (w : World) (h : inB ln 0 16 = false) : Calls Tryz.prog 48 #[.agg #[.int .i64 ad, .int .i64 ln, .int .i64 ow, .int .i64 lo, .int .i64 hi, .slice da dn dc, .int .i64 nw, .slice ea en ec]] w fun e w' => e = .returned (.bool false) ∧ Below w.heap.size w w' := by
  go_enter Tryz.func48, Tryz.ntmps48
  go_wp2_with fail
  go_quiet ((go_at_call 51; exact Calls.quiet_of_same (l1In_q _ _ _ _)))
  go_wp2
  go_ret
  exact ⟨rfl, bl_draws (bl_alloc (bl_refl _) _) _⟩
theorem l2Frame_no2 (ad ln ow lo hi nw : Int) (da : Option Addr) (dn dc : Nat) (ea : Option Addr) (en ec : Nat) (w : World) (h : inB ln 0 16 = true) (h' : inB ad 0 65535 = false) : Calls Tryz.prog 48 #[.agg #[.int .i64 ad, .int .i64 ln, .int .i64 ow, .int .i64 lo, .int .i64 hi, .slice da dn dc, .int .i64 nw, .slice ea en ec]] w fun e w' => e = .returned (.bool false) ∧ Below w.heap.size w w' := by
  go_enter Tryz.func48, Tryz.ntmps48
  go_wp2_with fail
  go_quiet ((go_at_call 51; exact Calls.quiet_of_same (l1In_q _ _ _ _)))
  go_wp2
  go_ret
  exact ⟨rfl, bl_draws (bl_alloc (bl_refl _) _) _⟩
theorem l2Frame_yes (ad ln ow lo hi nw : Int) (da : Option Addr) (dn dc : Nat) (ea : Option Addr) (en ec : Nat) (w : World) (h : inB ln 0 16 = true) (h' : inB ad 0 65535 = true) : Calls Tryz.prog 48 #[.agg #[.int .i64 ad, .int .i64 ln, .int .i64 ow, .int .i64 lo, .int .i64 hi, .slice da dn dc, .int .i64 nw, .slice ea en ec]] w fun e w' => e = .returned (.bool (frameB ad ln ow lo hi nw)) ∧ Below w.heap.size w w' := by
  have hln := inB_true h
  have had := inB_true h'
  obtain ⟨hs1, hs2⟩ := sz_bd ln hln.1
  obtain ⟨l0, l1⟩ := hln
  obtain ⟨a0, a1⟩ := had
  have hnz : (sz ln == 0) = false := by simp; omega
  have hr : remB ad ln = !(ad % sz ln != 0) := by simp [remB, bne]
  go_enter Tryz.func48, Tryz.ntmps48
  go_wp2_with fail
  go_quiet ((first | (go_at_call 51; exact Calls.quiet_of_same (l1In_q _ _ _ _)) | (go_at_call 52; exact Calls.quiet_of_same (l2Size_q _ _ l0 l1))))
  go_wp2_with (first
    | (go_at_call 51; refine (l1In_ret _ _ _ _).mono ?_; rintro e w' ⟨rfl, rfl⟩)
    | (go_at_call 23; refine (l2Inside_ret _ _ _ _ _ _ _ _ _ _ _ _ _ _ l0 l1 a0 a1).mono ?_; rintro e w' ⟨rfl, hb⟩; obtain ⟨hc, hf⟩ := bl_cells hb))
  all_goals go_ret
  all_goals refine ⟨?_, ?_⟩
  all_goals first
    | (apply ret_bool; simp [frameB, portsB, *]; done)
    | (apply ret_bool; simp [frameB, portsB, *]; intros; omega)
    | (repeat (first | exact bl_refl _ | apply bl_alloc | apply bl_draws | (refine bl_trans ?_ (by assumption))))

theorem l2Frame_ret (ad ln ow lo hi nw : Int) (da : Option Addr) (dn dc : Nat) (ea : Option Addr) (en ec : Nat) (w : World) : Calls Tryz.prog 48 #[.agg #[.int .i64 ad, .int .i64 ln, .int .i64 ow, .int .i64 lo, .int .i64 hi, .slice da dn dc, .int .i64 nw, .slice ea en ec]] w fun e w' => e = .returned (.bool (frameB ad ln ow lo hi nw)) ∧ Below w.heap.size w w' := by
  by_cases h : inB ln 0 16 = true
  · by_cases h' : inB ad 0 65535 = true
    · exact l2Frame_yes ad ln ow lo hi nw da dn dc ea en ec w h h'
    · have h2 : inB ad 0 65535 = false := by simpa using h'
      have e : frameB ad ln ow lo hi nw = false := by simp [frameB, h2]
      rw [e]
      exact l2Frame_no2 ad ln ow lo hi nw da dn dc ea en ec w h h2
  · have h2 : inB ln 0 16 = false := by simpa using h
    have e : frameB ad ln ow lo hi nw = false := by simp [frameB, h2]
    rw [e]
    exact l2Frame_no1 ad ln ow lo hi nw da dn dc ea en ec w h2

/-- What a frame that is ok says. -/
theorem frameB_true {ad ln ow lo hi nw : Int} (h : frameB ad ln ow lo hi nw = true) : (0 ≤ ln ∧ ln ≤ 16) ∧ (0 ≤ ad ∧ ad ≤ 65535) ∧ (0 ≤ ow ∧ ow ≤ 65535) ∧ (1 ≤ lo ∧ lo ≤ hi ∧ hi ≤ 65535) ∧ (0 ≤ nw ∧ nw ≤ 1000000) := by
  simp [frameB, inB, portsB] at h
  omega

def dokB (ad ln lo hi : Int) (dk dou din dip : Int) : Bool := inB dk 1 7 && inB dou 1 65535 && !inB dou lo hi && insB ad ln din && inB dip 1 65535

theorem l2DoorOk_ret (ad ln ow lo hi nw : Int) (da : Option Addr) (dn dc : Nat) (ea : Option Addr) (en ec : Nat) (dk dou din dip : Int) (w : World) (l0 : 0 ≤ ln) (l1 : ln ≤ 16) (a0 : 0 ≤ ad) (a1 : ad ≤ 65535) : Calls Tryz.prog 70 #[.agg #[.int .i64 ad, .int .i64 ln, .int .i64 ow, .int .i64 lo, .int .i64 hi, .slice da dn dc, .int .i64 nw, .slice ea en ec], .agg #[.int .i64 dk, .int .i64 dou, .int .i64 din, .int .i64 dip]] w fun e w' => e = .returned (.bool (dokB ad ln lo hi dk dou din dip)) ∧ Below w.heap.size w w' := by
  go_enter Tryz.func70, Tryz.ntmps70
  go_wp2_with (first
    | (go_at_call 51; refine (l1In_ret _ _ _ _).mono ?_; rintro e w' ⟨rfl, rfl⟩)
    | (go_at_call 23; refine (l2Inside_ret _ _ _ _ _ _ _ _ _ _ _ _ _ _ l0 l1 a0 a1).mono ?_; rintro e w' ⟨rfl, hb⟩; obtain ⟨hc, hf⟩ := bl_cells hb))
  all_goals go_ret
  all_goals refine ⟨?_, ?_⟩
  all_goals first
    | (apply ret_bool; simp [dokB, *]; done)
    | (repeat (first | exact bl_refl _ | apply bl_alloc | apply bl_draws | (refine bl_trans ?_ (by assumption))))

def liveB (nw la : Int) : Bool := decide (nw - la < 8)
def eokB (ad ln ow lo hi nw : Int) (ek epr epp eou ein eip ela : Int) : Bool := inB ek 1 7 && inB epr 0 65535 && !insB ad ln epr && !(epr == ow) && inB epp 1 65535 && inB eou lo hi && insB ad ln ein && inB eip 1 65535 && inB ela 0 nw && decide (nw - ela < 12)

set_option maxHeartbeats 1000000 in
theorem l2EntryOk_ret (ad ln ow lo hi nw : Int) (da : Option Addr) (dn dc : Nat) (ea : Option Addr) (en ec : Nat) (ek epr epp eou ein eip ela : Int) (w : World) (l0 : 0 ≤ ln) (l1 : ln ≤ 16) (a0 : 0 ≤ ad) (a1 : ad ≤ 65535) (n0 : 0 ≤ nw) (n1 : nw ≤ 1000000) : Calls Tryz.prog 71 #[.agg #[.int .i64 ad, .int .i64 ln, .int .i64 ow, .int .i64 lo, .int .i64 hi, .slice da dn dc, .int .i64 nw, .slice ea en ec], .agg #[.int .i64 ek, .int .i64 epr, .int .i64 epp, .int .i64 eou, .int .i64 ein, .int .i64 eip, .int .i64 ela]] w fun e w' => e = .returned (.bool (eokB ad ln ow lo hi nw ek epr epp eou ein eip ela)) ∧ Below w.heap.size w w' := by
  by_cases hla : inB ela 0 nw = true
  · obtain ⟨q0, q1⟩ := inB_true hla
    go_enter Tryz.func71, Tryz.ntmps71
    go_wp2_with (first
      | (go_at_call 51; refine (l1In_ret _ _ _ _).mono ?_; rintro e w' ⟨rfl, rfl⟩)
      | (go_at_call 23; refine (l2Inside_ret _ _ _ _ _ _ _ _ _ _ _ _ _ _ l0 l1 a0 a1).mono ?_; rintro e w' ⟨rfl, hb⟩; obtain ⟨hc, hf⟩ := bl_cells hb; have hz1 : w.heap.size < w'.heap.size := (by have := hb.size; (try simp at this); omega); have hz2 : w.heap.size + 1 < w'.heap.size := (by have := hb.size; (try simp at this); omega)))
    all_goals go_ret
    all_goals refine ⟨?_, ?_⟩
    all_goals first
      | (apply ret_bool; simp_all [eokB]; done)
      | (repeat (first | exact bl_refl _ | apply bl_alloc | apply bl_draws | (refine bl_trans ?_ (by assumption))))
  · go_enter Tryz.func71, Tryz.ntmps71
    go_wp2_with (first
      | (go_at_call 51; refine (l1In_ret _ _ _ _).mono ?_; rintro e w' ⟨rfl, rfl⟩)
      | (go_at_call 23; refine (l2Inside_ret _ _ _ _ _ _ _ _ _ _ _ _ _ _ l0 l1 a0 a1).mono ?_; rintro e w' ⟨rfl, hb⟩; obtain ⟨hc, hf⟩ := bl_cells hb; have hz1 : w.heap.size < w'.heap.size := (by have := hb.size; (try simp at this); omega); have hz2 : w.heap.size + 1 < w'.heap.size := (by have := hb.size; (try simp at this); omega)))
    all_goals go_ret
    all_goals refine ⟨?_, ?_⟩
    all_goals first
      | (apply ret_bool; simp_all [eokB]; done)
      | (repeat (first | exact bl_refl _ | apply bl_alloc | apply bl_draws | (refine bl_trans ?_ (by assumption))))

def lessB (ek epr epp eou fk fpr fpp fou : Int) : Bool :=
  if ek = fk then (if epr = fpr then (if epp = fpp then decide (eou < fou) else decide (epp < fpp)) else decide (epr < fpr)) else decide (ek < fk)
theorem l2Less_ret (ek epr epp eou ein eip ela : Int) (fk fpr fpp fou fin fip fla : Int) (w : World) : Calls Tryz.prog 72 #[.agg #[.int .i64 ek, .int .i64 epr, .int .i64 epp, .int .i64 eou, .int .i64 ein, .int .i64 eip, .int .i64 ela], .agg #[.int .i64 fk, .int .i64 fpr, .int .i64 fpp, .int .i64 fou, .int .i64 fin, .int .i64 fip, .int .i64 fla]] w fun e w' => e = .returned (.bool (lessB ek epr epp eou fk fpr fpp fou)) ∧ Below w.heap.size w w' := by
  go_enter Tryz.func72, Tryz.ntmps72
  go_wp2
  all_goals go_ret
  all_goals exact ⟨ret_bool (by simp_all [lessB]), bl_alloc (bl_alloc (bl_refl _) _) _⟩

theorem l2Live_ret (ad ln ow lo hi nw : Int) (da : Option Addr) (dn dc : Nat) (ea : Option Addr) (en ec : Nat) (ek epr epp eou ein eip ela : Int) (w : World) (n0 : 0 ≤ nw) (n1 : nw ≤ 1000000) (q0 : 0 ≤ ela) (q1 : ela ≤ nw) : Calls Tryz.prog 25 #[.agg #[.int .i64 ad, .int .i64 ln, .int .i64 ow, .int .i64 lo, .int .i64 hi, .slice da dn dc, .int .i64 nw, .slice ea en ec], .agg #[.int .i64 ek, .int .i64 epr, .int .i64 epp, .int .i64 eou, .int .i64 ein, .int .i64 eip, .int .i64 ela]] w fun e w' => e = .returned (.bool (liveB nw ela)) ∧ Below w.heap.size w w' := by
  go_enter Tryz.func25, Tryz.ntmps25
  go_wp2
  all_goals go_ret
  all_goals exact ⟨rfl, bl_alloc (bl_alloc (bl_refl _) _) _⟩

theorem l2Flow_ret (ek epr epp eou ein eip ela : Int) (w : World) : Calls Tryz.prog 74 #[.agg #[.int .i64 ek, .int .i64 epr, .int .i64 epp, .int .i64 eou, .int .i64 ein, .int .i64 eip, .int .i64 ela]] w fun e w' => e = .returned (.agg #[.int .i64 ek, .int .i64 ein, .int .i64 eip, .int .i64 epr, .int .i64 epp]) ∧ Below w.heap.size w w' := by
  go_enter Tryz.func74, Tryz.ntmps74
  go_wp2
  exact bodyPost_ret (v := .agg #[.int .i64 ek, .int .i64 ein, .int .i64 eip, .int .i64 epr, .int .i64 epp]) (by simp [results, Tryz.results74, go_sem]) rfl ⟨rfl, bl_alloc (bl_alloc (bl_refl _) _) _⟩

theorem l2Is_ret (ek epr epp eou ein eip ela : Int) (k a ap b bp : Int) (w : World) : Calls Tryz.prog 73 #[.agg #[.int .i64 ek, .int .i64 epr, .int .i64 epp, .int .i64 eou, .int .i64 ein, .int .i64 eip, .int .i64 ela], .agg #[.int .i64 k, .int .i64 a, .int .i64 ap, .int .i64 b, .int .i64 bp]] w fun e w' => e = .returned (.bool (flowEq ek ein eip epr epp k a ap b bp)) ∧ Below w.heap.size w w' := by
  go_enter Tryz.func73, Tryz.ntmps73
  go_wp2
  all_goals go_ret
  all_goals exact ⟨ret_bool (by simp_all [flowEq]), bl_alloc (bl_alloc (bl_refl _) _) _⟩

end Go.Proofs.YtcgjpmhjijmplabGreatDoor
