/- Joined: Spec2, Spec3. -/
import Derived.Test.YtcgjpmhjijmplabGreatDoorFlow
import Derived.Deep.QuietTactic
import Derived.BigQuiet
import Derived.Deep.LoopGhost
import Derived.Deep.Light
/- The specification's functions of chapter 2 (books) that hold no loop over a list, walked. -/
namespace Go.Proofs.YtcgjpmhjijmplabGreatDoor
open Go.ChangeShapes Go.WideShapes Go.ChangeAt Go.RowKit

def sz (n : Int) : Int := ((2 ^ (16 - n).toNat : Nat) : Int)
theorem pow_le (k : Nat) (h : k ≤ 16) : 2 ^ k ≤ 65536 := by
  have : (2:Nat) ^ k ≤ 2 ^ 16 := Nat.pow_le_pow_right (by omega) h
  simpa using this
theorem sz_bd (n : Int) (h0 : 0 ≤ n) : 1 ≤ sz n ∧ sz n ≤ 65536 := by
  unfold sz
  have h1 := pow_le (16 - n).toNat (by omega)
  have h2 : 0 < 2 ^ (16 - n).toNat := Nat.pow_pos (by omega)
  omega

theorem l2Size_ret (n : Int) (w : World) (h0 : 0 ≤ n) (h1 : n ≤ 16) : Calls Tryz.prog 52 #[.int .i64 n] w fun e w' => e = .returned (.int .i64 (sz n)) ∧ w = w' := by
  go_enter Tryz.func52, Tryz.ntmps52
  go_wp2
  go_loop [3, 4] (fun o i => ∃ k : Nat, n + (k : Int) ≤ 16 ∧ i = .int .i64 (n + (k : Int)) ∧ o = .int .i64 ((2 ^ k : Nat) : Int)) (fun _ i => (16 - intOf i).toNat)
  case atStart => exact ⟨0, by omega, by simp, by simp⟩
  case round =>
    obtain ⟨k, hk, rfl, rfl⟩ := hrel
    by_cases hlt : n + (k : Int) < 16
    · have hp := pow_le k (by omega)
      have hp0 : 0 < 2 ^ k := Nat.pow_pos (by omega)
      have e2 : Hid (2 ^ (k + 1) = 2 ^ k * 2) := Nat.pow_succ _ _
      generalize hq : 2 ^ k = q at hp hp0 e2
      clear hq
      go_wp2
      go_round
      case rel => exact ⟨k + 1, by omega, by go_num, by rw [e2.out]; go_num⟩
      case measure => simp [intOf]; omega
    · go_wp2
      go_ret
      have : k = (16 - n).toNat := by omega
      subst this
      exact ⟨rfl, rfl⟩

def insB (ad ln x : Int) : Bool := decide (ad ≤ x) && decide (x < ad + sz ln)

theorem l2Inside_ret (ad ln ow lo hi nw : Int) (da : Option Addr) (dn dc : Nat) (ea : Option Addr) (en ec : Nat) (x : Int) (w : World) (h0 : 0 ≤ ln) (h1 : ln ≤ 16) (h2 : 0 ≤ ad) (h3 : ad ≤ 65535) : Calls Tryz.prog 23 #[.agg #[.int .i64 ad, .int .i64 ln, .int .i64 ow, .int .i64 lo, .int .i64 hi, .slice da dn dc, .int .i64 nw, .slice ea en ec], .int .i64 x] w fun e w' => e = .returned (.bool (insB ad ln x)) ∧ Below w.heap.size w w' := by
  obtain ⟨hs1, hs2⟩ := sz_bd ln h0
  have hq : ∀ w, Calls Tryz.prog 52 #[.int .i64 ln] w fun e w' => e = .returned (.int .i64 (sz ln)) ∧ w' = w := fun w => (l2Size_ret ln w h0 h1).mono fun e w' h => ⟨h.1, h.2.symm⟩
  by_cases hx : ad ≤ x
  · go_enter Tryz.func23, Tryz.ntmps23
    go_wp2_with fail
    go_quiet ((go_at_call 52; exact Calls.quiet_of_same (hq _)))
    go_wp2
    go_ret
    exact ⟨ret_bool (by simp [insB, hx]), bl_draws (bl_alloc (bl_refl _) _) _⟩
  · have hx' : decide (ad ≤ x) = false := by simpa using hx
    go_enter Tryz.func23, Tryz.ntmps23
    go_wp2_with fail
    go_quiet ((go_at_call 52; exact Calls.quiet_of_same (hq _)))
    go_wp2
    go_ret
    exact ⟨ret_bool (by simp [insB, hx']), bl_draws (bl_alloc (bl_refl _) _) _⟩

theorem l1In_q (n lo hi : Int) (w : World) : Calls Tryz.prog 51 #[.int .i64 n, .int .i64 lo, .int .i64 hi] w fun e w' => e = .returned (.bool (inB n lo hi)) ∧ w' = w :=
  (l1In_ret n lo hi w).mono fun _ _ h => ⟨h.1, h.2.symm⟩
theorem l2Size_q (n : Int) (w : World) (h0 : 0 ≤ n) (h1 : n ≤ 16) : Calls Tryz.prog 52 #[.int .i64 n] w fun e w' => e = .returned (.int .i64 (sz n)) ∧ w' = w :=
  (l2Size_ret n w h0 h1).mono fun _ _ h => ⟨h.1, h.2.symm⟩
theorem inB_true {n lo hi : Int} (h : inB n lo hi = true) : lo ≤ n ∧ n ≤ hi := by simpa [inB] using h
theorem inB_mk {n lo hi : Int} (h : lo ≤ n) (h' : n ≤ hi) : inB n lo hi = true := by simp [inB, h, h']

def remB (ad ln : Int) : Bool := ad % sz ln == 0
def portsB (lo hi : Int) : Bool := decide (1 ≤ lo) && decide (lo ≤ hi) && decide (hi ≤ 65535)
def frameB (ad ln ow lo hi nw : Int) : Bool := inB ln 0 16 && inB ad 0 65535 && remB ad ln && inB ow 0 65535 && !insB ad ln ow && portsB lo hi && inB nw 0 1000000

theorem l2Frame_no1 (ad ln ow lo hi nw : Int) (da : Option Addr) (dn dc : Nat) (ea : Option Addr) (en ec : Nat) (w : World) (h : inB ln 0 16 = false) : Calls Tryz.prog 48 #[.agg #[.int .i64 ad, .int .i64 ln, .int .i64 ow, .int .i64 lo, .int .i64 hi, .slice da dn dc, .int .i64 nw, .slice ea en ec]] w fun e w' => e = .returned (.bool false) ∧ Below w.heap.size w w' := by
  go_enter Tryz.func48, Tryz.ntmps48
  go_wp2_with fail
  go_quiet ((go_at_call 51; exact Calls.quiet_of_same (l1In_q _ _ _ _)))
  go_wp2
  go_ret
  exact ⟨rfl, bl_draws (bl_alloc (bl_refl _) _) _⟩
theorem l2Frame_no2 (ad ln ow lo hi nw : Int) (da : Option Addr) (dn dc : Nat) (ea : Option Addr) (en ec : Nat) (w : World) (h : inB ln 0 16 = true) (h' : inB ad 0 65535 = false) : Calls Tryz.prog 48 #[.agg #[.int .i64 ad, .int .i64 ln, .int .i64 ow, .int .i64 lo, .int .i64 hi, .slice da dn dc, .int .i64 nw, .slice ea en ec]] w fun e w' => e = .returned (.bool false) ∧ Below w.heap.size w w' := by
  go_enter Tryz.func48, Tryz.ntmps48
  go_wp2_with fail
  go_quiet ((go_at_call 51; exact Calls.quiet_of_same (l1In_q _ _ _ _)))
  go_wp2
  go_ret
  exact ⟨rfl, bl_draws (bl_alloc (bl_refl _) _) _⟩
theorem l2Frame_yes (ad ln ow lo hi nw : Int) (da : Option Addr) (dn dc : Nat) (ea : Option Addr) (en ec : Nat) (w : World) (h : inB ln 0 16 = true) (h' : inB ad 0 65535 = true) : Calls Tryz.prog 48 #[.agg #[.int .i64 ad, .int .i64 ln, .int .i64 ow, .int .i64 lo, .int .i64 hi, .slice da dn dc, .int .i64 nw, .slice ea en ec]] w fun e w' => e = .returned (.bool (frameB ad ln ow lo hi nw)) ∧ Below w.heap.size w w' := by
  have hln := inB_true h
  have had := inB_true h'
  obtain ⟨hs1, hs2⟩ := sz_bd ln hln.1
  obtain ⟨l0, l1⟩ := hln
  obtain ⟨a0, a1⟩ := had
  have hnz : (sz ln == 0) = false := by simp; omega
  have hr : remB ad ln = !(ad % sz ln != 0) := by simp [remB, bne]
  go_enter Tryz.func48, Tryz.ntmps48
  go_wp2_with fail
  go_quiet ((first | (go_at_call 51; exact Calls.quiet_of_same (l1In_q _ _ _ _)) | (go_at_call 52; exact Calls.quiet_of_same (l2Size_q _ _ l0 l1))))
  go_wp2_with (first
    | (go_at_call 51; refine (l1In_ret _ _ _ _).mono ?_; rintro e w' ⟨rfl, rfl⟩)
    | (go_at_call 23; refine (l2Inside_ret _ _ _ _ _ _ _ _ _ _ _ _ _ _ l0 l1 a0 a1).mono ?_; rintro e w' ⟨rfl, hb⟩; obtain ⟨hc, hf⟩ := bl_cells hb))
  all_goals go_ret
  all_goals refine ⟨?_, ?_⟩
  all_goals first
    | (apply ret_bool; simp [frameB, portsB, *]; done)
    | (apply ret_bool; simp [frameB, portsB, *]; intros; omega)
    | (repeat (first | exact bl_refl _ | apply bl_alloc | apply bl_draws | (refine bl_trans ?_ (by assumption))))

theorem l2Frame_ret (ad ln ow lo hi nw : Int) (da : Option Addr) (dn dc : Nat) (ea : Option Addr) (en ec : Nat) (w : World) : Calls Tryz.prog 48 #[.agg #[.int .i64 ad, .int .i64 ln, .int .i64 ow, .int .i64 lo, .int .i64 hi, .slice da dn dc, .int .i64 nw, .slice ea en ec]] w fun e w' => e = .returned (.bool (frameB ad ln ow lo hi nw)) ∧ Below w.heap.size w w' := by
  by_cases h : inB ln 0 16 = true
  · by_cases h' : inB ad 0 65535 = true
    · exact l2Frame_yes ad ln ow lo hi nw da dn dc ea en ec w h h'
    · have h2 : inB ad 0 65535 = false := by simpa using h'
      have e : frameB ad ln ow lo hi nw = false := by simp [frameB, h2]
      rw [e]
      exact l2Frame_no2 ad ln ow lo hi nw da dn dc ea en ec w h h2
  · have h2 : inB ln 0 16 = false := by simpa using h
    have e : frameB ad ln ow lo hi nw = false := by simp [frameB, h2]
    rw [e]
    exact l2Frame_no1 ad ln ow lo hi nw da dn dc ea en ec w h2

/-- What a frame that is ok says. -/
theorem frameB_true {ad ln ow lo hi nw : Int} (h : frameB ad ln ow lo hi nw = true) : (0 ≤ ln ∧ ln ≤ 16) ∧ (0 ≤ ad ∧ ad ≤ 65535) ∧ (0 ≤ ow ∧ ow ≤ 65535) ∧ (1 ≤ lo ∧ lo ≤ hi ∧ hi ≤ 65535) ∧ (0 ≤ nw ∧ nw ≤ 1000000) := by
  simp [frameB, inB, portsB] at h
  omega

def dokB (ad ln lo hi : Int) (dk dou din dip : Int) : Bool := inB dk 1 7 && inB dou 1 65535 && !inB dou lo hi && insB ad ln din && inB dip 1 65535

theorem l2DoorOk_ret (ad ln ow lo hi nw : Int) (da : Option Addr) (dn dc : Nat) (ea : Option Addr) (en ec : Nat) (dk dou din dip : Int) (w : World) (l0 : 0 ≤ ln) (l1 : ln ≤ 16) (a0 : 0 ≤ ad) (a1 : ad ≤ 65535) : Calls Tryz.prog 70 #[.agg #[.int .i64 ad, .int .i64 ln, .int .i64 ow, .int .i64 lo, .int .i64 hi, .slice da dn dc, .int .i64 nw, .slice ea en ec], .agg #[.int .i64 dk, .int .i64 dou, .int .i64 din, .int .i64 dip]] w fun e w' => e = .returned (.bool (dokB ad ln lo hi dk dou din dip)) ∧ Below w.heap.size w w' := by
  go_enter Tryz.func70, Tryz.ntmps70
  go_wp2_with (first
    | (go_at_call 51; refine (l1In_ret _ _ _ _).mono ?_; rintro e w' ⟨rfl, rfl⟩)
    | (go_at_call 23; refine (l2Inside_ret _ _ _ _ _ _ _ _ _ _ _ _ _ _ l0 l1 a0 a1).mono ?_; rintro e w' ⟨rfl, hb⟩; obtain ⟨hc, hf⟩ := bl_cells hb))
  all_goals go_ret
  all_goals refine ⟨?_, ?_⟩
  all_goals first
    | (apply ret_bool; simp [dokB, *]; done)
    | (repeat (first | exact bl_refl _ | apply bl_alloc | apply bl_draws | (refine bl_trans ?_ (by assumption))))

def liveB (nw la : Int) : Bool := decide (nw - la < 8)
def eokB (ad ln ow lo hi nw : Int) (ek epr epp eou ein eip ela : Int) : Bool := inB ek 1 7 && inB epr 0 65535 && !insB ad ln epr && !(epr == ow) && inB epp 1 65535 && inB eou lo hi && insB ad ln ein && inB eip 1 65535 && inB ela 0 nw && decide (nw - ela < 12)

set_option maxHeartbeats 1000000 in
theorem l2EntryOk_ret (ad ln ow lo hi nw : Int) (da : Option Addr) (dn dc : Nat) (ea : Option Addr) (en ec : Nat) (ek epr epp eou ein eip ela : Int) (w : World) (l0 : 0 ≤ ln) (l1 : ln ≤ 16) (a0 : 0 ≤ ad) (a1 : ad ≤ 65535) (n0 : 0 ≤ nw) (n1 : nw ≤ 1000000) : Calls Tryz.prog 71 #[.agg #[.int .i64 ad, .int .i64 ln, .int .i64 ow, .int .i64 lo, .int .i64 hi, .slice da dn dc, .int .i64 nw, .slice ea en ec], .agg #[.int .i64 ek, .int .i64 epr, .int .i64 epp, .int .i64 eou, .int .i64 ein, .int .i64 eip, .int .i64 ela]] w fun e w' => e = .returned (.bool (eokB ad ln ow lo hi nw ek epr epp eou ein eip ela)) ∧ Below w.heap.size w w' := by
  by_cases hla : inB ela 0 nw = true
  · obtain ⟨q0, q1⟩ := inB_true hla
    go_enter Tryz.func71, Tryz.ntmps71
    go_wp2_with (first
      | (go_at_call 51; refine (l1In_ret _ _ _ _).mono ?_; rintro e w' ⟨rfl, rfl⟩)
      | (go_at_call 23; refine (l2Inside_ret _ _ _ _ _ _ _ _ _ _ _ _ _ _ l0 l1 a0 a1).mono ?_; rintro e w' ⟨rfl, hb⟩; obtain ⟨hc, hf⟩ := bl_cells hb; have hz1 : w.heap.size < w'.heap.size := (by have := hb.size; (try simp at this); omega); have hz2 : w.heap.size + 1 < w'.heap.size := (by have := hb.size; (try simp at this); omega)))
    all_goals go_ret
    all_goals refine ⟨?_, ?_⟩
    all_goals first
      | (apply ret_bool; simp_all [eokB]; done)
      | (repeat (first | exact bl_refl _ | apply bl_alloc | apply bl_draws | (refine bl_trans ?_ (by assumption))))
  · go_enter Tryz.func71, Tryz.ntmps71
    go_wp2_with (first
      | (go_at_call 51; refine (l1In_ret _ _ _ _).mono ?_; rintro e w' ⟨rfl, rfl⟩)
      | (go_at_call 23; refine (l2Inside_ret _ _ _ _ _ _ _ _ _ _ _ _ _ _ l0 l1 a0 a1).mono ?_; rintro e w' ⟨rfl, hb⟩; obtain ⟨hc, hf⟩ := bl_cells hb; have hz1 : w.heap.size < w'.heap.size := (by have := hb.size; (try simp at this); omega); have hz2 : w.heap.size + 1 < w'.heap.size := (by have := hb.size; (try simp at this); omega)))
    all_goals go_ret
    all_goals refine ⟨?_, ?_⟩
    all_goals first
      | (apply ret_bool; simp_all [eokB]; done)
      | (repeat (first | exact bl_refl _ | apply bl_alloc | apply bl_draws | (refine bl_trans ?_ (by assumption))))

def lessB (ek epr epp eou fk fpr fpp fou : Int) : Bool :=
  if ek = fk then (if epr = fpr then (if epp = fpp then decide (eou < fou) else decide (epp < fpp)) else decide (epr < fpr)) else decide (ek < fk)
theorem l2Less_ret (ek epr epp eou ein eip ela : Int) (fk fpr fpp fou fin fip fla : Int) (w : World) : Calls Tryz.prog 72 #[.agg #[.int .i64 ek, .int .i64 epr, .int .i64 epp, .int .i64 eou, .int .i64 ein, .int .i64 eip, .int .i64 ela], .agg #[.int .i64 fk, .int .i64 fpr, .int .i64 fpp, .int .i64 fou, .int .i64 fin, .int .i64 fip, .int .i64 fla]] w fun e w' => e = .returned (.bool (lessB ek epr epp eou fk fpr fpp fou)) ∧ Below w.heap.size w w' := by
  go_enter Tryz.func72, Tryz.ntmps72
  go_wp2
  all_goals go_ret
  all_goals exact ⟨ret_bool (by simp_all [lessB]), bl_alloc (bl_alloc (bl_refl _) _) _⟩

theorem l2Live_ret (ad ln ow lo hi nw : Int) (da : Option Addr) (dn dc : Nat) (ea : Option Addr) (en ec : Nat) (ek epr epp eou ein eip ela : Int) (w : World) (n0 : 0 ≤ nw) (n1 : nw ≤ 1000000) (q0 : 0 ≤ ela) (q1 : ela ≤ nw) : Calls Tryz.prog 25 #[.agg #[.int .i64 ad, .int .i64 ln, .int .i64 ow, .int .i64 lo, .int .i64 hi, .slice da dn dc, .int .i64 nw, .slice ea en ec], .agg #[.int .i64 ek, .int .i64 epr, .int .i64 epp, .int .i64 eou, .int .i64 ein, .int .i64 eip, .int .i64 ela]] w fun e w' => e = .returned (.bool (liveB nw ela)) ∧ Below w.heap.size w w' := by
  go_enter Tryz.func25, Tryz.ntmps25
  go_wp2
  all_goals go_ret
  all_goals exact ⟨rfl, bl_alloc (bl_alloc (bl_refl _) _) _⟩

theorem l2Flow_ret (ek epr epp eou ein eip ela : Int) (w : World) : Calls Tryz.prog 74 #[.agg #[.int .i64 ek, .int .i64 epr, .int .i64 epp, .int .i64 eou, .int .i64 ein, .int .i64 eip, .int .i64 ela]] w fun e w' => e = .returned (.agg #[.int .i64 ek, .int .i64 ein, .int .i64 eip, .int .i64 epr, .int .i64 epp]) ∧ Below w.heap.size w w' := by
  go_enter Tryz.func74, Tryz.ntmps74
  go_wp2
  exact bodyPost_ret (v := .agg #[.int .i64 ek, .int .i64 ein, .int .i64 eip, .int .i64 epr, .int .i64 epp]) (by simp [results, Tryz.results74, go_sem]) rfl ⟨rfl, bl_alloc (bl_alloc (bl_refl _) _) _⟩

theorem l2Is_ret (ek epr epp eou ein eip ela : Int) (k a ap b bp : Int) (w : World) : Calls Tryz.prog 73 #[.agg #[.int .i64 ek, .int .i64 epr, .int .i64 epp, .int .i64 eou, .int .i64 ein, .int .i64 eip, .int .i64 ela], .agg #[.int .i64 k, .int .i64 a, .int .i64 ap, .int .i64 b, .int .i64 bp]] w fun e w' => e = .returned (.bool (flowEq ek ein eip epr epp k a ap b bp)) ∧ Below w.heap.size w w' := by
  go_enter Tryz.func73, Tryz.ntmps73
  go_wp2
  all_goals go_ret
  all_goals exact ⟨ret_bool (by simp_all [flowEq]), bl_alloc (bl_alloc (bl_refl _) _) _⟩

end Go.Proofs.YtcgjpmhjijmplabGreatDoor

/- The specification's functions of chapter 2 (books) that go through a list, walked. -/
namespace Go.Proofs.YtcgjpmhjijmplabGreatDoor
open Go.ChangeShapes Go.WideShapes Go.ChangeAt Go.RowKit

structure Dr where
  k : Int
  o : Int
  i : Int
  p : Int
structure En where
  k : Int
  pr : Int
  pp : Int
  o : Int
  i : Int
  ip : Int
  l : Int

/-- The cells from (b, o) on hold these doors, each of four cells. -/
def DrCells (w : World) (b o : Nat) (ds : List Dr) : Prop :=
  ∀ (i : Nat) (d : Dr), ds[i]? = some d → w.cell? ⟨b, o + i * 4, none⟩ = some (.int .i64 d.k) ∧ w.cell? ⟨b, o + i * 4 + 1, none⟩ = some (.int .i64 d.o) ∧ w.cell? ⟨b, o + i * 4 + 2, none⟩ = some (.int .i64 d.i) ∧ w.cell? ⟨b, o + i * 4 + 3, none⟩ = some (.int .i64 d.p)
def EnCells (w : World) (b o : Nat) (es : List En) : Prop :=
  ∀ (i : Nat) (d : En), es[i]? = some d → w.cell? ⟨b, o + i * 7, none⟩ = some (.int .i64 d.k) ∧ w.cell? ⟨b, o + i * 7 + 1, none⟩ = some (.int .i64 d.pr) ∧ w.cell? ⟨b, o + i * 7 + 2, none⟩ = some (.int .i64 d.pp) ∧ w.cell? ⟨b, o + i * 7 + 3, none⟩ = some (.int .i64 d.o) ∧ w.cell? ⟨b, o + i * 7 + 4, none⟩ = some (.int .i64 d.i) ∧ w.cell? ⟨b, o + i * 7 + 5, none⟩ = some (.int .i64 d.ip) ∧ w.cell? ⟨b, o + i * 7 + 6, none⟩ = some (.int .i64 d.l)
theorem DrCells.below {w w' : World} {b o : Nat} {ds : List Dr} (h : DrCells w b o ds) (hb : Below w.heap.size w w') (hlt : b < w.heap.size) : DrCells w' b o ds := by
  intro i d hi
  obtain ⟨h0, h1, h2, h3⟩ := h i d hi
  refine ⟨?_, ?_, ?_, ?_⟩ <;> (rw [hb.cell (by simpa using hlt)]; assumption)
theorem EnCells.below {w w' : World} {b o : Nat} {es : List En} (h : EnCells w b o es) (hb : Below w.heap.size w w') (hlt : b < w.heap.size) : EnCells w' b o es := by
  intro i d hi
  obtain ⟨h0, h1, h2, h3, h4, h5, h6⟩ := h i d hi
  refine ⟨?_, ?_, ?_, ?_, ?_, ?_, ?_⟩ <;> (rw [hb.cell (by simpa using hlt)]; assumption)

/-- Two doors, the first ahead of the second: as the document asks. -/
def pairB (e d : Dr) : Bool := !(decide (d.k < e.k) || (e.k == d.k && (decide (d.o ≤ e.o) || (e.i == d.i && e.p == d.p))))
theorem pair1 {e d : Dr} (h1 : e.k = d.k) (h3 : e.i = d.i) (h4 : d.o ≤ e.o ∨ (e.p == d.p) = true) : pairB e d = false := by
  rcases h4 with h | h <;> simp_all [pairB]
theorem pair2 {e d : Dr} (h1 : e.k = d.k) (h : e.o < d.o ∧ (e.p == d.p) = false) : pairB e d = true := by
  have h2 := h.2
  simp [pairB, h1, h.1, h2]
theorem pair3 {e d : Dr} (h1 : e.k = d.k) (h2 : e.o < d.o) (h3 : ¬ e.i = d.i) : pairB e d = true := by
  simp [pairB, h1, h2, h3]
theorem pair4 {e d : Dr} (h1 : e.k = d.k) (h2 : d.o ≤ e.o) : pairB e d = false := by
  simp [pairB, h1, h2]
theorem pair5 {e d : Dr} (h1 : e.k ≤ d.k) (h2 : ¬ e.k = d.k) : pairB e d = true := by
  simp [pairB, h1, h2]
theorem pair6 {e d : Dr} (h1 : d.k < e.k) : pairB e d = false := by
  simp [pairB, h1]
theorem some_one {α : Type} {x : Option α} {a b : α} (h : x = some a) (h' : x = some b) : a = b := Option.some.inj (h.symm.trans h')
theorem pairs_up {ds : List Dr} {m : Nat} {d e : Dr} (hp : ∀ j e, j < m → ds[j]? = some e → pairB e d = true) (he : ds[m]? = some e) (h : pairB e d = true) : ∀ j e, j < m + 1 → ds[j]? = some e → pairB e d = true := by
  intro j e' hj he'
  by_cases hjm : j < m
  · exact hp j e' hjm he'
  · have hjm' : j = m := by omega
    subst hjm'
    rw [some_one he' he]; exact h
def doorB (ad ln lo hi : Int) (d : Dr) : Bool := dokB ad ln lo hi d.k d.o d.i d.p
def DoorsUp (ad ln lo hi : Int) (ds : List Dr) (n : Nat) : Prop := ∀ i d, i < n → ds[i]? = some d → doorB ad ln lo hi d = true ∧ ∀ j e, j < i → ds[j]? = some e → pairB e d = true
open Classical in
noncomputable def doorsB (ad ln lo hi : Int) (ds : List Dr) : Bool := decide (ds.length ≤ 6 ∧ DoorsUp ad ln lo hi ds ds.length)

theorem doors_up {ad ln lo hi : Int} {ds : List Dr} {n m : Nat} {d : Dr} (hu : DoorsUp ad ln lo hi ds n) (hd : ds[n]? = some d) (hok : dokB ad ln lo hi d.k d.o d.i d.p = true) (hm : ¬ m < n) (hp : ∀ j e, j < m → ds[j]? = some e → pairB e d = true) : DoorsUp ad ln lo hi ds (n + 1) := by
  intro j e' hj he'
  by_cases hjm : j < n
  · exact hu j e' hjm he'
  · have hjm' : j = n := by omega
    subst hjm'
    rw [some_one he' hd]
    exact ⟨hok, fun i f hi hf => hp i f (by omega) hf⟩
theorem doors_no1 {ad ln lo hi : Int} {ds : List Dr} {n : Nat} {d : Dr} (hn : n < ds.length) (hd : ds[n]? = some d) (h : ¬ dokB ad ln lo hi d.k d.o d.i d.p = true) : false = doorsB ad ln lo hi ds := by
  symm
  simp only [doorsB, decide_eq_false_iff_not]
  rintro ⟨_, hall⟩
  exact h (hall n d hn hd).1
theorem doors_no2 {ad ln lo hi : Int} {ds : List Dr} {n m : Nat} {d e : Dr} (hn : n < ds.length) (hd : ds[n]? = some d) (hm : m < n) (he : ds[m]? = some e) (h : pairB e d = false) : false = doorsB ad ln lo hi ds := by
  symm
  simp only [doorsB, decide_eq_false_iff_not]
  rintro ⟨_, hall⟩
  have := (hall n d hn hd).2 m e hm he
  rw [h] at this
  cases this
/-- Block n is there, and holds these cells. -/
def Box (w : World) (n : Nat) (C : Array Value) : Prop := n < w.heap.size ∧ ∀ j, w.cell? ⟨n, j, none⟩ = C[j]?
theorem Box.new (w : World) (C : Array Value) (t : TypeId) : Box (w.alloc (.cells C t)) w.heap.size C := ⟨by simp, fun j => World.cell?_alloc_new w C t j⟩
theorem Box.below {W w1 : World} {n : Nat} {C : Array Value} (h : Box W n C) (hb : Below W.heap.size W w1) : Box w1 n C :=
  ⟨Nat.lt_of_lt_of_le h.1 hb.size, fun j => (hb.cell (p := ⟨n, j, none⟩) h.1).trans (h.2 j)⟩

set_option maxHeartbeats 4000000 in
theorem l2Doors_some (ad ln ow lo hi nw : Int) (b o : Nat) (ds : List Dr) (dc : Nat) (ea : Option Addr) (en ec : Nat) (w : World) (l0 : 0 ≤ ln) (l1 : ln ≤ 16) (a0 : 0 ≤ ad) (a1 : ad ≤ 65535) (hlt : b < w.heap.size) (hc : DrCells w b o ds) (hl : ds.length ≤ 6) :
    Calls Tryz.prog 49 #[.agg #[.int .i64 ad, .int .i64 ln, .int .i64 ow, .int .i64 lo, .int .i64 hi, .slice (some ⟨b, o, none⟩) ds.length dc, .int .i64 nw, .slice ea en ec]] w fun e w' => e = .returned (.bool (doorsB ad ln lo hi ds)) ∧ Below w.heap.size w w' := by
  go_enter Tryz.func49, Tryz.ntmps49
  go_wp2_with fail
  go_loopg [3] ds.length (fun g i wr => ∃ n : Nat, g = ds.length - n ∧ n ≤ ds.length ∧ i = .int .i64 n ∧ DoorsUp ad ln lo hi ds n ∧ Below w.heap.size w wr ∧ Box wr w.heap.size #[.int .i64 ad, .int .i64 ln, .int .i64 ow, .int .i64 lo, .int .i64 hi, .slice (some ⟨b, o, none⟩) ds.length dc, .int .i64 nw, .slice ea en ec])
  case atStart => exact ⟨0, by omega, by omega, rfl, fun _ _ h => absurd h (by omega), bl_alloc (bl_refl _) _, Box.new _ _ _⟩
  case round =>
    obtain ⟨n, hg, hn, rfl, hup, hB, hX⟩ := hrel
    obtain ⟨hsz, hbox⟩ := id hX
    by_cases hlt2 : n < ds.length
    · obtain ⟨d, hd⟩ : ∃ d, ds[n]? = some d := ⟨ds[n], by simp [hlt2]⟩
      obtain ⟨c0, c1, c2, c3⟩ := hc.below hB hlt n d hd
      have hUp : Hid (DoorsUp ad ln lo hi ds n) := hup
      have hD : Hid (ds[n]? = some d) := hd
      clear hup hd
      have hb2 : b < wr.heap.size := by have := hB.size; omega
      go_wp2_with fail
      refine (l2DoorOk_ret _ _ _ _ _ _ _ _ _ _ _ _ _ _ _ _ _ l0 l1 a0 a1).mono ?_
      rintro e w1 ⟨rfl, hb1⟩
      have hB1 := bl_trans (bl_alloc hB _) hb1
      have hX1 := (hX.below (bl_alloc (bl_refl _) _)).below hb1
      have hY1 := (Box.new wr #[.int .i64 d.k, .int .i64 d.o, .int .i64 d.i, .int .i64 d.p] 52).below hb1
      by_cases hok : dokB ad ln lo hi d.k d.o d.i d.p = true
      · go_wp2_with fail
        go_loopg [5] n (fun g k wq => ∃ m : Nat, g = n - m ∧ m ≤ n ∧ k = .int .i64 m ∧ (∀ j e, j < m → ds[j]? = some e → pairB e d = true) ∧ Below w.heap.size w wq ∧ Box wq w.heap.size #[.int .i64 ad, .int .i64 ln, .int .i64 ow, .int .i64 lo, .int .i64 hi, .slice (some ⟨b, o, none⟩) ds.length dc, .int .i64 nw, .slice ea en ec] ∧ Box wq wr.heap.size #[.int .i64 d.k, .int .i64 d.o, .int .i64 d.i, .int .i64 d.p])
        case atStart => exact ⟨0, by omega, by omega, rfl, fun _ _ h => absurd h (by omega), hB1, hX1, hY1⟩
        case round =>
          obtain ⟨m, hgm, hm, rfl, hpr, hBq, hXq, hYq⟩ := hrel
          have HP : Hid (∀ j e, j < m → ds[j]? = some e → pairB e d = true) := hpr
          obtain ⟨hsx, hbx⟩ := id hXq
          obtain ⟨hsy, hby⟩ := id hYq
          clear hpr hbox c0 c1 c2 c3
          by_cases hlm : m < n
          · obtain ⟨e, he⟩ : ∃ e, ds[m]? = some e := ⟨ds[m], by simp⟩
            obtain ⟨c0, c1, c2, c3⟩ := hc.below hBq hlt m e he
            have hE : Hid (ds[m]? = some e) := he
            clear he
            have hb3 : b < wr.heap.size := by have := hBq.size; omega
            have hmd : (m : Int) < (ds.length : Int) := by omega
            go_wp2_with fail
            all_goals first
              | (go_ret
                 exact ⟨ret_bool (doors_no2 hlt2 hD.out hlm hE.out (by first | exact pair1 ‹_› ‹_› ‹_› | exact pair4 ‹_› ‹_› | exact pair6 ‹_›)), bl_alloc hBq _⟩)
              | (go_roundg (n - (m + 1))
                 case measure => omega
                 case rel => exact ⟨m + 1, rfl, by omega, by go_num, pairs_up HP.out hE.out (by first | exact pair2 ‹_› ‹_› | exact pair3 ‹_› ‹_› ‹_› | exact pair5 ‹_› ‹_›), bl_alloc hBq _, hXq.below (bl_alloc (bl_refl _) _), hYq.below (bl_alloc (bl_refl _) _)⟩)
          · go_wp2_with fail
            go_roundg (ds.length - (n + 1))
            case measure => omega
            case rel => exact ⟨n + 1, rfl, by omega, by go_num, doors_up hUp.out hD.out hok hlm HP.out, hBq, hXq⟩
      · go_wp2
        go_ret
        exact ⟨ret_bool (doors_no1 hlt2 hD.out hok), hB1⟩
    · go_wp2_with fail
      go_ret
      refine ⟨ret_bool ?_, hB⟩
      symm
      simp only [doorsB, decide_eq_true_eq]
      have : n = ds.length := by omega
      exact ⟨hl, this ▸ hup⟩

theorem l2Doors_many (ad ln ow lo hi nw : Int) (da : Option Addr) (dn dc : Nat) (ea : Option Addr) (en ec : Nat) (w : World) (hl : 6 < dn) :
    Calls Tryz.prog 49 #[.agg #[.int .i64 ad, .int .i64 ln, .int .i64 ow, .int .i64 lo, .int .i64 hi, .slice da dn dc, .int .i64 nw, .slice ea en ec]] w fun e w' => e = .returned (.bool false) ∧ Below w.heap.size w w' := by
  have hl' : (6 : Int) < (dn : Int) := by omega
  go_enter Tryz.func49, Tryz.ntmps49
  go_wp2
  go_ret
  exact ⟨rfl, bl_alloc (bl_refl _) _⟩

theorem l2Doors_nil (ad ln ow lo hi nw : Int) (da : Option Addr) (dc : Nat) (ea : Option Addr) (en ec : Nat) (w : World) :
    Calls Tryz.prog 49 #[.agg #[.int .i64 ad, .int .i64 ln, .int .i64 ow, .int .i64 lo, .int .i64 hi, .slice da 0 dc, .int .i64 nw, .slice ea en ec]] w fun e w' => e = .returned (.bool true) ∧ Below w.heap.size w w' := by
  go_enter Tryz.func49, Tryz.ntmps49
  go_wp2_with fail
  go_loopg [3] 0 (fun _ i wr => i = .int .i64 0 ∧ Below w.heap.size w wr ∧ Box wr w.heap.size #[.int .i64 ad, .int .i64 ln, .int .i64 ow, .int .i64 lo, .int .i64 hi, .slice da 0 dc, .int .i64 nw, .slice ea en ec])
  case atStart => exact ⟨rfl, bl_alloc (bl_refl _) _, Box.new _ _ _⟩
  case round =>
    obtain ⟨rfl, hB, hX⟩ := hrel
    obtain ⟨hsz, hbox⟩ := id hX
    go_wp2_with fail
    go_ret
    exact ⟨rfl, hB⟩

/-- A slice that holds these doors. -/
def DoorsAt (w : World) (da : Option Addr) (dn : Nat) (ds : List Dr) : Prop := dn = ds.length ∧ (ds = [] ∨ ∃ b o, da = some ⟨b, o, none⟩ ∧ b < w.heap.size ∧ DrCells w b o ds)
def EntriesAt (w : World) (ea : Option Addr) (en : Nat) (es : List En) : Prop := en = es.length ∧ (es = [] ∨ ∃ b o, ea = some ⟨b, o, none⟩ ∧ b < w.heap.size ∧ EnCells w b o es)
theorem DoorsAt.below {w w' : World} {da : Option Addr} {dn : Nat} {ds : List Dr} (h : DoorsAt w da dn ds) (hb : Below w.heap.size w w') : DoorsAt w' da dn ds := by
  refine ⟨h.1, ?_⟩
  rcases h.2 with h | ⟨b, o, rfl, hlt, hc⟩
  · exact Or.inl h
  · exact Or.inr ⟨b, o, rfl, Nat.lt_of_lt_of_le hlt hb.size, hc.below hb hlt⟩
theorem EntriesAt.below {w w' : World} {ea : Option Addr} {en : Nat} {es : List En} (h : EntriesAt w ea en es) (hb : Below w.heap.size w w') : EntriesAt w' ea en es := by
  refine ⟨h.1, ?_⟩
  rcases h.2 with h | ⟨b, o, rfl, hlt, hc⟩
  · exact Or.inl h
  · exact Or.inr ⟨b, o, rfl, Nat.lt_of_lt_of_le hlt hb.size, hc.below hb hlt⟩

theorem l2Doors_ret (ad ln ow lo hi nw : Int) (da : Option Addr) (dn dc : Nat) (ea : Option Addr) (en ec : Nat) (ds : List Dr) (w : World) (l0 : 0 ≤ ln) (l1 : ln ≤ 16) (a0 : 0 ≤ ad) (a1 : ad ≤ 65535) (h : DoorsAt w da dn ds) :
    Calls Tryz.prog 49 #[.agg #[.int .i64 ad, .int .i64 ln, .int .i64 ow, .int .i64 lo, .int .i64 hi, .slice da dn dc, .int .i64 nw, .slice ea en ec]] w fun e w' => e = .returned (.bool (doorsB ad ln lo hi ds)) ∧ Below w.heap.size w w' := by
  obtain ⟨rfl, h⟩ := h
  by_cases hl : ds.length ≤ 6
  · rcases h with rfl | ⟨b, o, rfl, hlt, hc⟩
    · have e : doorsB ad ln lo hi [] = true := by simp [doorsB, DoorsUp]
      rw [e]
      exact l2Doors_nil ad ln ow lo hi nw da dc ea en ec w
    · exact l2Doors_some ad ln ow lo hi nw b o ds dc ea en ec w l0 l1 a0 a1 hlt hc hl
  · have e : doorsB ad ln lo hi ds = false := by simp [doorsB, hl]
    rw [e]
    exact l2Doors_many ad ln ow lo hi nw da ds.length dc ea en ec w (by omega)
end Go.Proofs.YtcgjpmhjijmplabGreatDoor
