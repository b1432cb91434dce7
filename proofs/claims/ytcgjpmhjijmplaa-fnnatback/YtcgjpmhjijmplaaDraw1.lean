/- The specification's reader of drawn bytes: pick, walked. -/
import Derived.Test.YtcgjpmhjijmplaaAp
import Derived.Deep.QuietTactic
import Derived.BigQuiet
namespace Go.Proofs.Ytcgjpmhjijmplaa
open Go.ChangeShapes Go.WideShapes Go.ChangeAt Go.RowKit

theorem xor_i64 (a b : Nat) (ha : a < 4611686018427387904) (hb : b < 4611686018427387904) : bits .xor .i64 (a : Int) (b : Int) = ((a ^^^ b : Nat) : Int) := by
  have hx : a ^^^ b < 2 ^ 62 := Nat.xor_lt_two_pow (by omega) (by omega)
  have h1 : (BitVec.ofInt 64 (a : Int)).toNat = a := by
    rw [BitVec.ofInt_natCast, BitVec.toNat_ofNat]; exact Nat.mod_eq_of_lt (by omega)
  have h2 : (BitVec.ofInt 64 (b : Int)).toNat = b := by
    rw [BitVec.ofInt_natCast, BitVec.toNat_ofNat]; exact Nat.mod_eq_of_lt (by omega)
  show IntKind.i64.wrap ((BitVec.ofInt 64 (a : Int) ^^^ BitVec.ofInt 64 (b : Int)).toNat : Int) = _
  rw [BitVec.toNat_xor, h1, h2]
  exact wrap_of _ (by omega) (by omega)
theorem xor_rem (x n : Int) (h0 : 0 ≤ x) (h1 : x ≤ 4611686018427387903) (hn : 1 ≤ n) : 0 ≤ (bits .xor .i64 x (x / 64)).tmod n ∧ (bits .xor .i64 x (x / 64)).tmod n < n := by
  obtain ⟨a, rfl⟩ := Int.eq_ofNat_of_zero_le h0
  have e : ((a : Int) / 64) = ((a / 64 : Nat) : Int) := by omega
  rw [e, xor_i64 a (a / 64) (by omega) (by omega)]
  rw [Int.tmod_eq_emod_of_nonneg (by omega)]
  exact ⟨Int.emod_nonneg _ (by omega), Int.emod_lt_of_pos _ (by omega)⟩

theorem pick_small (R : Nat) (ba : Option Addr) (bn bc : Nat) (p n : Int) (w : World) (_h0 : w.cell? ⟨R, 0, none⟩ = some (.slice ba bn bc)) (h1 : w.cell? ⟨R, 1, none⟩ = some (.int .i64 p)) (hf : ∀ j, w.frozen? ⟨R, j, none⟩ = false) (p0 : 0 ≤ p) (p1 : p ≤ 1000000000) (hn : n < 1) :
    Calls Try.prog 25 #[.pointer (some ⟨R, 0, none⟩), .int .i64 n] w fun e w' => e = .returned (.int .i64 0) ∧ w.setCell ⟨R, 1, none⟩ (.int .i64 (p + 1)) = w' := by
  have hn' : decide (n < 1) = true := by simpa using hn
  go_enter Try.func25, Try.ntmps25
  go_wp2
  all_goals go_ret
  all_goals exact ⟨rfl, rfl⟩
theorem pick_in (R b o : Nat) (bn bc : Nat) (p n : Int) (u : Int) (w : World) (h0 : w.cell? ⟨R, 0, none⟩ = some (.slice (some ⟨b, o, none⟩) bn bc)) (h1 : w.cell? ⟨R, 1, none⟩ = some (.int .i64 p)) (hf : ∀ j, w.frozen? ⟨R, j, none⟩ = false) (p0 : 0 ≤ p) (hn : 1 ≤ n) (hbn : bn ≤ 2000) (hbR : b ≠ R) (hp : p < bn) (hu : w.cell? ⟨b, o + p.toNat, none⟩ = some (.int .u8 u)) (u0 : 0 ≤ u) (u1 : u ≤ 255) :
    Calls Try.prog 25 #[.pointer (some ⟨R, 0, none⟩), .int .i64 n] w fun e w' => e = .returned (.int .i64 (u % n)) ∧ w.setCell ⟨R, 1, none⟩ (.int .i64 (p + 1)) = w' := by
  have hnz : ¬ n = 0 := by omega
  have hb0 : ((bn : Int) == 0) = false := by simp; omega
  go_enter Try.func25, Try.ntmps25
  go_wp2
  all_goals go_ret
  all_goals exact ⟨rfl, rfl⟩
theorem pick_none (R : Nat) (ba : Option Addr) (bc : Nat) (p n : Int) (w : World) (h0 : w.cell? ⟨R, 0, none⟩ = some (.slice ba 0 bc)) (h1 : w.cell? ⟨R, 1, none⟩ = some (.int .i64 p)) (hf : ∀ j, w.frozen? ⟨R, j, none⟩ = false) (p0 : 0 ≤ p) (p1 : p ≤ 1000000000) (hn : 1 ≤ n) :
    Calls Try.prog 25 #[.pointer (some ⟨R, 0, none⟩), .int .i64 n] w fun e w' => e = .returned (.int .i64 0) ∧ w.setCell ⟨R, 1, none⟩ (.int .i64 (p + 1)) = w' := by
  go_enter Try.func25, Try.ntmps25
  go_wp2
  all_goals go_ret
  all_goals exact ⟨rfl, rfl⟩
theorem pick_past (R b o : Nat) (bn bc : Nat) (p n : Int) (u v : Int) (w : World) (h0 : w.cell? ⟨R, 0, none⟩ = some (.slice (some ⟨b, o, none⟩) bn bc)) (h1 : w.cell? ⟨R, 1, none⟩ = some (.int .i64 p)) (hf : ∀ j, w.frozen? ⟨R, j, none⟩ = false) (p0 : 0 ≤ p) (p1 : p ≤ 1000000000) (hn : 1 ≤ n) (hn1 : n ≤ 1000000) (hbn : bn ≤ 2000) (hb1 : 1 ≤ bn) (hbR : b ≠ R) (hp : ¬ p < bn) (hu : w.cell? ⟨b, o + (p % bn).toNat, none⟩ = some (.int .u8 u)) (hv : w.cell? ⟨b, o + ((p * 7 + 3) % bn).toNat, none⟩ = some (.int .u8 v)) (u0 : 0 ≤ u) (u1 : u ≤ 255) (v0 : 0 ≤ v) (v1 : v ≤ 255) :
    Calls Try.prog 25 #[.pointer (some ⟨R, 0, none⟩), .int .i64 n] w fun e w' => (∃ r, e = .returned (.int .i64 r) ∧ 0 ≤ r ∧ r < n) ∧ ∃ k, (w.setCell ⟨R, 1, none⟩ (.int .i64 (p + 1))).drewN k = w' := by
  have hnz : ¬ n = 0 := by omega
  have hb0 : ((bn : Int) == 0) = false := by simp; omega
  have hb2 : ¬ (bn : Int) = 0 := by omega
  have m1 : 0 ≤ p % (bn : Int) := Int.emod_nonneg _ hb2
  have m2 : p % (bn : Int) < (bn : Int) := Int.emod_lt_of_pos _ (by omega)
  have m3 : 0 ≤ (p * 7 + 3) % (bn : Int) := Int.emod_nonneg _ hb2
  have m4 : (p * 7 + 3) % (bn : Int) < (bn : Int) := Int.emod_lt_of_pos _ (by omega)
  have m5 : 0 ≤ p / (bn : Int) := Int.ediv_nonneg p0 (by omega)
  have m6 : p / (bn : Int) ≤ p := Int.ediv_le_self _ p0
  go_enter Try.func25, Try.ntmps25
  go_wp2_with fail
  go_quiet (fail)
  go_wp2_with fail
  go_ret
  obtain ⟨r0, r1⟩ := xor_rem (u * 131 + v * 1117 + p * 29 + p / (bn : Int) * 53) n (by omega) (by omega) hn
  exact ⟨⟨_, rfl, r0, r1⟩, _, rfl⟩

/-- The reader lies in block R: a slice of bytes, and how many were read. -/
def Rd (w : World) (R : Nat) (p : Int) : Prop := R < w.heap.size ∧ (∀ j, w.frozen? ⟨R, j, none⟩ = false) ∧ w.cell? ⟨R, 1, none⟩ = some (.int .i64 p) ∧
  ∃ ba bn bc, w.cell? ⟨R, 0, none⟩ = some (.slice ba bn bc) ∧ bn ≤ 2000 ∧ (bn = 0 ∨ ∃ b o, ba = some ⟨b, o, none⟩ ∧ b < R ∧ ∀ i, i < bn → ∃ u : Int, 0 ≤ u ∧ u ≤ 255 ∧ w.cell? ⟨b, o + i, none⟩ = some (.int .u8 u))
theorem rd_step {w : World} {R : Nat} {p : Int} (h : Rd w R p) : Rd (w.setCell ⟨R, 1, none⟩ (.int .i64 (p + 1))) R (p + 1) := by
  obtain ⟨h1, h2, h3, ba, bn, bc, h4, h5, h6⟩ := h
  refine ⟨by simpa [World.setCell] using h1, fun j => by simp [h2], World.cell?_setCell_same _ _ _ h3, ba, bn, bc, ?_, h5, ?_⟩
  · rw [World.cell?_setCell_other _ _ _ _ (by simp)]; exact h4
  · rcases h6 with h6 | ⟨b, o, hb, hn, hc⟩
    · exact Or.inl h6
    · refine Or.inr ⟨b, o, hb, hn, fun i hi => ?_⟩
      obtain ⟨u, u0, u1, hu⟩ := hc i hi
      exact ⟨u, u0, u1, by rw [World.cell?_setCell_other _ _ _ _ (fun e => Nat.ne_of_lt hn (by injection e with e1; exact e1.symm))]; exact hu⟩
theorem rd_draws {w : World} {R : Nat} {p : Int} (h : Rd w R p) (n : Nat) : Rd (w.drewN n) R p := h
theorem ap_draws {R : Nat} {w w1 : World} (h : Apart R w w1) (n : Nat) : Apart R w (w1.drewN n) := ⟨h.os, h.tape, h.output, h.size, h.block⟩
theorem pick_ret (R : Nat) (p n : Int) (w : World) (h : Rd w R p) (p0 : 0 ≤ p) (p1 : p ≤ 1000000000) (hn : 1 ≤ n) (hn1 : n ≤ 1000000) :
    Calls Try.prog 25 #[.pointer (some ⟨R, 0, none⟩), .int .i64 n] w fun e w' => (∃ r, e = .returned (.int .i64 r) ∧ 0 ≤ r ∧ r < n) ∧ Apart R w w' ∧ Rd w' R (p + 1) := by
  have hs := rd_step h
  have ha : Apart R w (w.setCell ⟨R, 1, none⟩ (.int .i64 (p + 1))) := ap_set (ap_refl R w) 1 _
  obtain ⟨h1, h2, h3, ba, bn, bc, h4, h5, h6⟩ := h
  rcases h6 with rfl | ⟨b, o, rfl, hbR, hc⟩
  rotate_left
  have hbn : b ≠ R := Nat.ne_of_lt hbR
  rotate_left
  · refine (pick_none R ba bc p n w h4 h3 h2 p0 p1 hn).mono ?_
    rintro e w' ⟨rfl, rfl⟩
    exact ⟨⟨0, rfl, by omega, by omega⟩, ha, hs⟩
  · by_cases hz : bn = 0
    · subst hz
      refine (pick_none R _ bc p n w h4 h3 h2 p0 p1 hn).mono ?_
      rintro e w' ⟨rfl, rfl⟩
      exact ⟨⟨0, rfl, by omega, by omega⟩, ha, hs⟩
    · by_cases hp : p < bn
      · obtain ⟨u, u0, u1, hu⟩ := hc p.toNat (by omega)
        refine (pick_in R b o bn bc p n u w h4 h3 h2 p0 hn h5 hbn hp hu u0 u1).mono ?_
        rintro e w' ⟨rfl, rfl⟩
        exact ⟨⟨_, rfl, Int.emod_nonneg _ (by omega), Int.emod_lt_of_pos _ (by omega)⟩, ha, hs⟩
      · have m2 : p % (bn : Int) < (bn : Int) := Int.emod_lt_of_pos _ (by omega)
        have m1 : 0 ≤ p % (bn : Int) := Int.emod_nonneg _ (by omega)
        have m4 : (p * 7 + 3) % (bn : Int) < (bn : Int) := Int.emod_lt_of_pos _ (by omega)
        have m3 : 0 ≤ (p * 7 + 3) % (bn : Int) := Int.emod_nonneg _ (by omega)
        obtain ⟨u, u0, u1, hu⟩ := hc (p % (bn : Int)).toNat (by omega)
        obtain ⟨v, v0, v1, hv⟩ := hc ((p * 7 + 3) % (bn : Int)).toNat (by omega)
        refine (pick_past R b o bn bc p n u v w h4 h3 h2 p0 p1 hn hn1 h5 (by omega) hbn hp hu hv u0 u1 v0 v1).mono ?_
        rintro e w' ⟨⟨r, he, hr⟩, k, rfl⟩
        exact ⟨⟨r, he, hr⟩, ap_draws ha k, rd_draws hs k⟩
end Go.Proofs.Ytcgjpmhjijmplaa
