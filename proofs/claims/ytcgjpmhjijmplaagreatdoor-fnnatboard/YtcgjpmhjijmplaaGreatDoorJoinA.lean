/- Joined: Ap, Draw1, Draw2. -/
import Derived.Test.YtcgjpmhjijmplaaGreatDoorBase
import Derived.Deep.QuietTactic
import Derived.BigQuiet
/- All blocks but one are as they were. -/
namespace Go.Proofs.YtcgjpmhjijmplaaGreatDoor
open Go.ChangeShapes Go.WideShapes Go.ChangeAt Go.RowKit

/-- All blocks but R are as they were. -/
structure Apart (R : Nat) (w w' : World) : Prop where
  os : w'.os = w.os
  tape : w'.tape = w.tape
  output : w'.output = w.output
  size : w.heap.size ≤ w'.heap.size
  block : ∀ k, k < w.heap.size → k ≠ R → w'.heap[k]? = w.heap[k]?
theorem ap_set {R : Nat} {w w1 : World} (h : Apart R w w1) (j : Nat) (v : Value) : Apart R w (w1.setCell ⟨R, j, none⟩ v) :=
  ⟨h.os, h.tape, h.output, by simpa [World.setCell] using h.size, fun k hk hn => (Below.heap_setCell _ _ _ _ (by simpa using hn)).trans (h.block k hk hn)⟩
theorem ap_refl (R : Nat) (w : World) : Apart R w w := ⟨rfl, rfl, rfl, Nat.le_refl _, fun _ _ _ => rfl⟩

theorem Apart.cell {R : Nat} {w w' : World} (h : Apart R w w') {b o : Nat} (hb : b < w.heap.size) (hn : b ≠ R) : w'.cell? ⟨b, o, none⟩ = w.cell? ⟨b, o, none⟩ := World.cell?_of_block (w := w) (h.block b hb hn)
theorem ap_alloc {R : Nat} {w w1 : World} (h : Apart R w w1) (o : Obj) : Apart R w (w1.alloc o) :=
  ⟨h.os, h.tape, h.output, by have := h.size; simp; omega, fun k hk hn => (Below.heap_alloc _ _ _ (Nat.lt_of_lt_of_le hk h.size)).trans (h.block k hk hn)⟩
theorem ap_trans {R : Nat} {a b c : World} (h : Apart R a b) (k : Apart R b c) : Apart R a c :=
  ⟨k.os.trans h.os, k.tape.trans h.tape, k.output.trans h.output, Nat.le_trans h.size k.size, fun i hi hn => (k.block i (Nat.lt_of_lt_of_le hi h.size) hn).trans (h.block i hi hn)⟩
theorem ap_of_bl {R : Nat} {w w' : World} (h : Below w.heap.size w w') : Apart R w w' := ⟨h.os, h.tape, h.output, h.size, fun k hk _ => h.block k hk⟩
theorem ap_new {R : Nat} {w w1 : World} (h : Apart R w w1) {n j : Nat} (hn : w.heap.size ≤ n) (v : Value) : Apart R w (w1.setCell ⟨n, j, none⟩ v) :=
  ⟨h.os, h.tape, h.output, by simpa [World.setCell] using h.size, fun k hk hne => (Below.heap_setCell _ _ _ _ (by simp; omega)).trans (h.block k hk hne)⟩

end Go.Proofs.YtcgjpmhjijmplaaGreatDoor

/- The specification's reader of drawn bytes: pick, walked. -/
namespace Go.Proofs.YtcgjpmhjijmplaaGreatDoor
open Go.ChangeShapes Go.WideShapes Go.ChangeAt Go.RowKit

theorem xor_i64 (a b : Nat) (ha : a < 4611686018427387904) (hb : b < 4611686018427387904) : bits .xor .i64 (a : Int) (b : Int) = ((a ^^^ b : Nat) : Int) := by
  have hx : a ^^^ b < 2 ^ 62 := Nat.xor_lt_two_pow (by omega) (by omega)
  have h1 : (BitVec.ofInt 64 (a : Int)).toNat = a := by
    rw [BitVec.ofInt_natCast, BitVec.toNat_ofNat]; exact Nat.mod_eq_of_lt (by omega)
  have h2 : (BitVec.ofInt 64 (b : Int)).toNat = b := by
    rw [BitVec.ofInt_natCast, BitVec.toNat_ofNat]; exact Nat.mod_eq_of_lt (by omega)
  show IntKind.i64.wrap ((BitVec.ofInt 64 (a : Int) ^^^ BitVec.ofInt 64 (b : Int)).toNat : Int) = _
  rw [BitVec.toNat_xor, h1, h2]
  exact wrap_of _ (by omega) (by omega)
theorem xor_rem (x n : Int) (h0 : 0 ≤ x) (h1 : x ≤ 4611686018427387903) (hn : 1 ≤ n) : 0 ≤ (bits .xor .i64 x (x / 64)).tmod n ∧ (bits .xor .i64 x (x / 64)).tmod n < n := by
  obtain ⟨a, rfl⟩ := Int.eq_ofNat_of_zero_le h0
  have e : ((a : Int) / 64) = ((a / 64 : Nat) : Int) := by omega
  rw [e, xor_i64 a (a / 64) (by omega) (by omega)]
  rw [Int.tmod_eq_emod_of_nonneg (by omega)]
  exact ⟨Int.emod_nonneg _ (by omega), Int.emod_lt_of_pos _ (by omega)⟩

theorem pick_in (R b o : Nat) (bn bc : Nat) (p n : Int) (u : Int) (w : World) (h0 : w.cell? ⟨R, 0, none⟩ = some (.slice (some ⟨b, o, none⟩) bn bc)) (h1 : w.cell? ⟨R, 1, none⟩ = some (.int .i64 p)) (hf : ∀ j, w.frozen? ⟨R, j, none⟩ = false) (p0 : 0 ≤ p) (hn : 1 ≤ n) (hbn : bn ≤ 2000) (hbR : b ≠ R) (hp : p < bn) (hu : w.cell? ⟨b, o + p.toNat, none⟩ = some (.int .u8 u)) (u0 : 0 ≤ u) (u1 : u ≤ 255) :
    Calls Tryz.prog 42 #[.pointer (some ⟨R, 0, none⟩), .int .i64 n] w fun e w' => e = .returned (.int .i64 (u % n)) ∧ w.setCell ⟨R, 1, none⟩ (.int .i64 (p + 1)) = w' := by
  have hnz : ¬ n = 0 := by omega
  have hb0 : ((bn : Int) == 0) = false := by simp; omega
  go_enter Tryz.func42, Tryz.ntmps42
  go_wp2
  all_goals go_ret
  all_goals exact ⟨rfl, rfl⟩
theorem pick_none (R : Nat) (ba : Option Addr) (bc : Nat) (p n : Int) (w : World) (h0 : w.cell? ⟨R, 0, none⟩ = some (.slice ba 0 bc)) (h1 : w.cell? ⟨R, 1, none⟩ = some (.int .i64 p)) (hf : ∀ j, w.frozen? ⟨R, j, none⟩ = false) (p0 : 0 ≤ p) (p1 : p ≤ 1000000000) (hn : 1 ≤ n) :
    Calls Tryz.prog 42 #[.pointer (some ⟨R, 0, none⟩), .int .i64 n] w fun e w' => e = .returned (.int .i64 0) ∧ w.setCell ⟨R, 1, none⟩ (.int .i64 (p + 1)) = w' := by
  go_enter Tryz.func42, Tryz.ntmps42
  go_wp2
  all_goals go_ret
  all_goals exact ⟨rfl, rfl⟩
theorem pick_past (R b o : Nat) (bn bc : Nat) (p n : Int) (u v : Int) (w : World) (h0 : w.cell? ⟨R, 0, none⟩ = some (.slice (some ⟨b, o, none⟩) bn bc)) (h1 : w.cell? ⟨R, 1, none⟩ = some (.int .i64 p)) (hf : ∀ j, w.frozen? ⟨R, j, none⟩ = false) (p0 : 0 ≤ p) (p1 : p ≤ 1000000000) (hn : 1 ≤ n) (hn1 : n ≤ 1000000) (hbn : bn ≤ 2000) (hb1 : 1 ≤ bn) (hbR : b ≠ R) (hp : ¬ p < bn) (hu : w.cell? ⟨b, o + (p % bn).toNat, none⟩ = some (.int .u8 u)) (hv : w.cell? ⟨b, o + ((p * 7 + 3) % bn).toNat, none⟩ = some (.int .u8 v)) (u0 : 0 ≤ u) (u1 : u ≤ 255) (v0 : 0 ≤ v) (v1 : v ≤ 255) :
    Calls Tryz.prog 42 #[.pointer (some ⟨R, 0, none⟩), .int .i64 n] w fun e w' => (∃ r, e = .returned (.int .i64 r) ∧ 0 ≤ r ∧ r < n) ∧ ∃ k, (w.setCell ⟨R, 1, none⟩ (.int .i64 (p + 1))).drewN k = w' := by
  have hnz : ¬ n = 0 := by omega
  have hb0 : ((bn : Int) == 0) = false := by simp; omega
  have hb2 : ¬ (bn : Int) = 0 := by omega
  have m1 : 0 ≤ p % (bn : Int) := Int.emod_nonneg _ hb2
  have m2 : p % (bn : Int) < (bn : Int) := Int.emod_lt_of_pos _ (by omega)
  have m3 : 0 ≤ (p * 7 + 3) % (bn : Int) := Int.emod_nonneg _ hb2
  have m4 : (p * 7 + 3) % (bn : Int) < (bn : Int) := Int.emod_lt_of_pos _ (by omega)
  have m5 : 0 ≤ p / (bn : Int) := Int.ediv_nonneg p0 (by omega)
  have m6 : p / (bn : Int) ≤ p := Int.ediv_le_self _ p0
  go_enter Tryz.func42, Tryz.ntmps42
  go_wp2_with fail
  go_quiet (fail)
  go_wp2_with fail
  go_ret
  obtain ⟨r0, r1⟩ := xor_rem (u * 131 + v * 1117 + p * 29 + p / (bn : Int) * 53) n (by omega) (by omega) hn
  exact ⟨⟨_, rfl, r0, r1⟩, _, rfl⟩

/-- The reader lies in block R: a slice of bytes, and how many were read. -/
def Rd (w : World) (R : Nat) (p : Int) : Prop := R < w.heap.size ∧ (∀ j, w.frozen? ⟨R, j, none⟩ = false) ∧ w.cell? ⟨R, 1, none⟩ = some (.int .i64 p) ∧
  ∃ ba bn bc, w.cell? ⟨R, 0, none⟩ = some (.slice ba bn bc) ∧ bn ≤ 2000 ∧ (bn = 0 ∨ ∃ b o, ba = some ⟨b, o, none⟩ ∧ b < R ∧ ∀ i, i < bn → ∃ u : Int, 0 ≤ u ∧ u ≤ 255 ∧ w.cell? ⟨b, o + i, none⟩ = some (.int .u8 u))
theorem rd_step {w : World} {R : Nat} {p : Int} (h : Rd w R p) : Rd (w.setCell ⟨R, 1, none⟩ (.int .i64 (p + 1))) R (p + 1) := by
  obtain ⟨h1, h2, h3, ba, bn, bc, h4, h5, h6⟩ := h
  refine ⟨by simpa [World.setCell] using h1, fun j => by simp [h2], World.cell?_setCell_same _ _ _ h3, ba, bn, bc, ?_, h5, ?_⟩
  · rw [World.cell?_setCell_other _ _ _ _ (by simp)]; exact h4
  · rcases h6 with h6 | ⟨b, o, hb, hn, hc⟩
    · exact Or.inl h6
    · refine Or.inr ⟨b, o, hb, hn, fun i hi => ?_⟩
      obtain ⟨u, u0, u1, hu⟩ := hc i hi
      exact ⟨u, u0, u1, by rw [World.cell?_setCell_other _ _ _ _ (fun e => Nat.ne_of_lt hn (by injection e with e1; exact e1.symm))]; exact hu⟩
theorem rd_draws {w : World} {R : Nat} {p : Int} (h : Rd w R p) (n : Nat) : Rd (w.drewN n) R p := h
theorem ap_draws {R : Nat} {w w1 : World} (h : Apart R w w1) (n : Nat) : Apart R w (w1.drewN n) := ⟨h.os, h.tape, h.output, h.size, h.block⟩
theorem pick_ret (R : Nat) (p n : Int) (w : World) (h : Rd w R p) (p0 : 0 ≤ p) (p1 : p ≤ 1000000000) (hn : 1 ≤ n) (hn1 : n ≤ 1000000) :
    Calls Tryz.prog 42 #[.pointer (some ⟨R, 0, none⟩), .int .i64 n] w fun e w' => (∃ r, e = .returned (.int .i64 r) ∧ 0 ≤ r ∧ r < n) ∧ Apart R w w' ∧ Rd w' R (p + 1) := by
  have hs := rd_step h
  have ha : Apart R w (w.setCell ⟨R, 1, none⟩ (.int .i64 (p + 1))) := ap_set (ap_refl R w) 1 _
  obtain ⟨h1, h2, h3, ba, bn, bc, h4, h5, h6⟩ := h
  rcases h6 with rfl | ⟨b, o, rfl, hbR, hc⟩
  rotate_left
  have hbn : b ≠ R := Nat.ne_of_lt hbR
  rotate_left
  · refine (pick_none R ba bc p n w h4 h3 h2 p0 p1 hn).mono ?_
    rintro e w' ⟨rfl, rfl⟩
    exact ⟨⟨0, rfl, by omega, by omega⟩, ha, hs⟩
  · by_cases hz : bn = 0
    · subst hz
      refine (pick_none R _ bc p n w h4 h3 h2 p0 p1 hn).mono ?_
      rintro e w' ⟨rfl, rfl⟩
      exact ⟨⟨0, rfl, by omega, by omega⟩, ha, hs⟩
    · by_cases hp : p < bn
      · obtain ⟨u, u0, u1, hu⟩ := hc p.toNat (by omega)
        refine (pick_in R b o bn bc p n u w h4 h3 h2 p0 hn h5 hbn hp hu u0 u1).mono ?_
        rintro e w' ⟨rfl, rfl⟩
        exact ⟨⟨_, rfl, Int.emod_nonneg _ (by omega), Int.emod_lt_of_pos _ (by omega)⟩, ha, hs⟩
      · have m2 : p % (bn : Int) < (bn : Int) := Int.emod_lt_of_pos _ (by omega)
        have m1 : 0 ≤ p % (bn : Int) := Int.emod_nonneg _ (by omega)
        have m4 : (p * 7 + 3) % (bn : Int) < (bn : Int) := Int.emod_lt_of_pos _ (by omega)
        have m3 : 0 ≤ (p * 7 + 3) % (bn : Int) := Int.emod_nonneg _ (by omega)
        obtain ⟨u, u0, u1, hu⟩ := hc (p % (bn : Int)).toNat (by omega)
        obtain ⟨v, v0, v1, hv⟩ := hc ((p * 7 + 3) % (bn : Int)).toNat (by omega)
        refine (pick_past R b o bn bc p n u v w h4 h3 h2 p0 p1 hn hn1 h5 (by omega) hbn hp hu hv u0 u1 v0 v1).mono ?_
        rintro e w' ⟨⟨r, he, hr⟩, k, rfl⟩
        exact ⟨⟨r, he, hr⟩, ap_draws ha k, rd_draws hs k⟩
end Go.Proofs.YtcgjpmhjijmplaaGreatDoor

/- The specification's small draws: l1Open, l5Port, l5Peer; walked. -/
namespace Go.Proofs.YtcgjpmhjijmplaaGreatDoor
open Go.ChangeShapes Go.WideShapes Go.ChangeAt Go.RowKit

theorem rd_below {w w' : World} {R : Nat} {p : Int} (h : Rd w R p) (hb : Below w.heap.size w w') : Rd w' R p := by
  obtain ⟨h1, h2, h3, ba, bn, bc, h4, h5, h6⟩ := h
  refine ⟨Nat.lt_of_lt_of_le h1 hb.size, fun j => (hb.frozen (p := ⟨R, j, none⟩) h1).trans (h2 j), (hb.cell (p := ⟨R, 1, none⟩) h1).trans h3, ba, bn, bc, (hb.cell (p := ⟨R, 0, none⟩) h1).trans h4, h5, ?_⟩
  rcases h6 with h6 | ⟨b, o, hb', hn, hc⟩
  · exact Or.inl h6
  · refine Or.inr ⟨b, o, hb', hn, fun i hi => ?_⟩
    obtain ⟨u, u0, u1, hu⟩ := hc i hi
    exact ⟨u, u0, u1, (hb.cell (p := ⟨b, o + i, none⟩) (Nat.lt_trans hn h1)).trans hu⟩
theorem rd_set {w : World} {R : Nat} {p : Int} (h : Rd w R p) {n j : Nat} (hn : R < n) (v : Value) : Rd (w.setCell ⟨n, j, none⟩ v) R p := by
  obtain ⟨h1, h2, h3, ba, bn, bc, h4, h5, h6⟩ := h
  have hc : ∀ b o, b ≤ R → (w.setCell ⟨n, j, none⟩ v).cell? ⟨b, o, none⟩ = w.cell? ⟨b, o, none⟩ := fun b o hb => World.cell?_setCell_other _ _ _ _ (fun e => by injection e with e1; omega)
  refine ⟨by simpa [World.setCell] using h1, fun i => by simp [h2], (hc R 1 (Nat.le_refl _)).trans h3, ba, bn, bc, (hc R 0 (Nat.le_refl _)).trans h4, h5, ?_⟩
  rcases h6 with h6 | ⟨b, o, hb', hl, hcs⟩
  · exact Or.inl h6
  · refine Or.inr ⟨b, o, hb', hl, fun i hi => ?_⟩
    obtain ⟨u, u0, u1, hu⟩ := hcs i hi
    exact ⟨u, u0, u1, (hc b _ (Nat.le_of_lt hl)).trans hu⟩
theorem port_ret (R : Nat) (p : Int) (w : World) (h : Rd w R p) (p0 : 0 ≤ p) (p1 : p ≤ 1000000000) :
    Calls Tryz.prog 88 #[.pointer (some ⟨R, 0, none⟩)] w fun e w' => (∃ r, e = .returned (.int .i64 r) ∧ 1 ≤ r ∧ r ≤ 65535) ∧ Apart R w w' ∧ Rd w' R (p + 1) := by
  have hR := h.1
  have hq : Hid (∀ o, Calls Tryz.prog 42 #[.pointer (some ⟨R, 0, none⟩), .int .i64 5] (w.alloc o) fun e w' => (∃ r, e = .returned (.int .i64 r) ∧ 0 ≤ r ∧ r < 5) ∧ Apart R (w.alloc o) w' ∧ Rd w' R (p + 1)) := fun o => pick_ret R p 5 (w.alloc o) (rd_below h (bl_alloc (bl_refl _) o)) p0 p1 (by omega) (by omega)
  clear h
  go_enter Tryz.func88, Tryz.ntmps88
  go_wp2_with fail
  refine (hq.out _).mono ?_
  rintro e w1 ⟨⟨r, rfl, r0, r1⟩, ha, hr⟩
  have hc : ∀ j, w1.cell? ⟨w.heap.size, j, none⟩ = _ := fun j => ha.cell (b := w.heap.size) (o := j) (by simp) (by omega)
  have HA : Hid (Apart R w w1) := ap_trans (ap_alloc (ap_refl R w) _) ha
  have HR : Hid (Rd w1 R (p + 1)) := hr
  clear ha hr hq
  rcases (show r = 0 ∨ r = 1 ∨ r = 2 ∨ r = 3 ∨ r = 4 by omega) with rfl | rfl | rfl | rfl | rfl
  all_goals
    go_wp2
    go_ret
    exact ⟨⟨_, rfl, by omega, by omega⟩, HA.out, HR.out⟩
theorem peer_ret (R : Nat) (p : Int) (w : World) (h : Rd w R p) (p0 : 0 ≤ p) (p1 : p ≤ 1000000000) :
    Calls Tryz.prog 90 #[.pointer (some ⟨R, 0, none⟩)] w fun e w' => (∃ r, e = .returned (.int .i64 r) ∧ (r = 51202 ∨ r = 51203 ∨ r = 65535 ∨ r = 61440)) ∧ Apart R w w' ∧ Rd w' R (p + 1) := by
  have hR := h.1
  have hq : Hid (∀ o, Calls Tryz.prog 42 #[.pointer (some ⟨R, 0, none⟩), .int .i64 4] (w.alloc o) fun e w' => (∃ r, e = .returned (.int .i64 r) ∧ 0 ≤ r ∧ r < 4) ∧ Apart R (w.alloc o) w' ∧ Rd w' R (p + 1)) := fun o => pick_ret R p 4 (w.alloc o) (rd_below h (bl_alloc (bl_refl _) o)) p0 p1 (by omega) (by omega)
  clear h
  go_enter Tryz.func90, Tryz.ntmps90
  go_wp2_with fail
  refine (hq.out _).mono ?_
  rintro e w1 ⟨⟨r, rfl, r0, r1⟩, ha, hr⟩
  have hc : ∀ j, w1.cell? ⟨w.heap.size, j, none⟩ = _ := fun j => ha.cell (b := w.heap.size) (o := j) (by simp) (by omega)
  have HA : Hid (Apart R w w1) := ap_trans (ap_alloc (ap_refl R w) _) ha
  have HR : Hid (Rd w1 R (p + 1)) := hr
  clear ha hr hq
  rcases (show r = 0 ∨ r = 1 ∨ r = 2 ∨ r = 3 by omega) with rfl | rfl | rfl | rfl
  all_goals
    go_wp2
    go_ret
    exact ⟨⟨_, rfl, by omega⟩, HA.out, HR.out⟩

/-- A slice of bytes that came in. -/
def BytesIn (w : World) (a : Option Addr) (n : Nat) : Prop := n = 0 ∨ ∃ b o, a = some ⟨b, o, none⟩ ∧ b < w.heap.size ∧ ∀ i, i < n → ∃ u : Int, 0 ≤ u ∧ u ≤ 255 ∧ w.cell? ⟨b, o + i, none⟩ = some (.int .u8 u)
theorem rd_new {w : World} {a : Option Addr} {n c : Nat} (h : BytesIn w a n) (hn : n ≤ 2000) (t : TypeId) : Rd (w.alloc (.cells #[.slice a n c, .int .i64 0] t)) w.heap.size 0 := by
  refine ⟨by simp, fun j => by simp, by rw [World.cell?_alloc_new]; rfl, a, n, c, by rw [World.cell?_alloc_new]; rfl, hn, ?_⟩
  rcases h with h | ⟨b, o, hb, hlt, hc⟩
  · exact Or.inl h
  · refine Or.inr ⟨b, o, hb, hlt, fun i hi => ?_⟩
    obtain ⟨u, u0, u1, hu⟩ := hc i hi
    exact ⟨u, u0, u1, by rw [World.cell?_alloc_old _ _ _ (by simp; omega)]; exact hu⟩
theorem open_ret (a : Option Addr) (n c : Nat) (w : World) (hn : n ≤ c) (hc : c ≤ maxLen) (h : BytesIn w a n) :
    Calls Tryz.prog 40 #[.slice a n c] w fun e w' => e = .returned (.pointer (some ⟨w.heap.size, 0, none⟩)) ∧ Below w.heap.size w w' ∧ Rd w' w.heap.size 0 := by
  unfold maxLen at hc
  by_cases hl : n ≤ 2000
  · have hl' : (n : Int) ≤ 2000 := by omega
    have H : Hid (∀ t, Rd (w.alloc (.cells #[.slice a n c, .int .i64 0] t)) w.heap.size 0) := fun t => rd_new h hl t
    clear h hl
    go_enter Tryz.func40, Tryz.ntmps40
    go_wp2
    go_ret
    exact ⟨rfl, bl_alloc (bl_refl _) _, H.out _⟩
  · have hl' : ¬ (n : Int) ≤ 2000 := by omega
    have hl2 : (2000 : Int) < (n : Int) := by omega
    have hl3 : (2000 : Int) ≤ (c : Int) := by omega
    rcases h with h | ⟨b, o, rfl, hlt, hcs⟩
    · omega
    · have h' : BytesIn w (some ⟨b, o, none⟩) 2000 := Or.inr ⟨b, o, rfl, hlt, fun i hi => hcs i (by omega)⟩
      have H : Hid (∀ t, Rd (w.alloc (.cells #[.slice (some ⟨b, o, none⟩) 2000 c, .int .i64 0] t)) w.heap.size 0) := fun t => rd_new h' (by omega) t
      clear h' hcs hl
      go_enter Tryz.func40, Tryz.ntmps40
      go_wp2
      go_ret
      exact ⟨rfl, bl_alloc (bl_refl _) _, H.out _⟩
end Go.Proofs.YtcgjpmhjijmplaaGreatDoor
