/- The specification's small draws: l1Open, l5Port, l5Peer; walked. -/
import Derived.Test.YtcgjpmhjijmplaaDraw1
namespace Go.Proofs.Ytcgjpmhjijmplaa
open Go.ChangeShapes Go.WideShapes Go.ChangeAt Go.RowKit

theorem rd_below {w w' : World} {R : Nat} {p : Int} (h : Rd w R p) (hb : Below w.heap.size w w') : Rd w' R p := by
  obtain ⟨h1, h2, h3, ba, bn, bc, h4, h5, h6⟩ := h
  refine ⟨Nat.lt_of_lt_of_le h1 hb.size, fun j => (hb.frozen (p := ⟨R, j, none⟩) h1).trans (h2 j), (hb.cell (p := ⟨R, 1, none⟩) h1).trans h3, ba, bn, bc, (hb.cell (p := ⟨R, 0, none⟩) h1).trans h4, h5, ?_⟩
  rcases h6 with h6 | ⟨b, o, hb', hn, hc⟩
  · exact Or.inl h6
  · refine Or.inr ⟨b, o, hb', hn, fun i hi => ?_⟩
    obtain ⟨u, u0, u1, hu⟩ := hc i hi
    exact ⟨u, u0, u1, (hb.cell (p := ⟨b, o + i, none⟩) (Nat.lt_trans hn h1)).trans hu⟩
theorem rd_set {w : World} {R : Nat} {p : Int} (h : Rd w R p) {n j : Nat} (hn : R < n) (v : Value) : Rd (w.setCell ⟨n, j, none⟩ v) R p := by
  obtain ⟨h1, h2, h3, ba, bn, bc, h4, h5, h6⟩ := h
  have hc : ∀ b o, b ≤ R → (w.setCell ⟨n, j, none⟩ v).cell? ⟨b, o, none⟩ = w.cell? ⟨b, o, none⟩ := fun b o hb => World.cell?_setCell_other _ _ _ _ (fun e => by injection e with e1; omega)
  refine ⟨by simpa [World.setCell] using h1, fun i => by simp [h2], (hc R 1 (Nat.le_refl _)).trans h3, ba, bn, bc, (hc R 0 (Nat.le_refl _)).trans h4, h5, ?_⟩
  rcases h6 with h6 | ⟨b, o, hb', hl, hcs⟩
  · exact Or.inl h6
  · refine Or.inr ⟨b, o, hb', hl, fun i hi => ?_⟩
    obtain ⟨u, u0, u1, hu⟩ := hcs i hi
    exact ⟨u, u0, u1, (hc b _ (Nat.le_of_lt hl)).trans hu⟩
theorem port_ret (R : Nat) (p : Int) (w : World) (h : Rd w R p) (p0 : 0 ≤ p) (p1 : p ≤ 1000000000) :
    Calls Try.prog 44 #[.pointer (some ⟨R, 0, none⟩)] w fun e w' => (∃ r, e = .returned (.int .i64 r) ∧ 1 ≤ r ∧ r ≤ 65535) ∧ Apart R w w' ∧ Rd w' R (p + 1) := by
  have hR := h.1
  have hq : Hid (∀ o, Calls Try.prog 25 #[.pointer (some ⟨R, 0, none⟩), .int .i64 5] (w.alloc o) fun e w' => (∃ r, e = .returned (.int .i64 r) ∧ 0 ≤ r ∧ r < 5) ∧ Apart R (w.alloc o) w' ∧ Rd w' R (p + 1)) := fun o => pick_ret R p 5 (w.alloc o) (rd_below h (bl_alloc (bl_refl _) o)) p0 p1 (by omega) (by omega)
  clear h
  go_enter Try.func44, Try.ntmps44
  go_wp2_with fail
  refine (hq.out _).mono ?_
  rintro e w1 ⟨⟨r, rfl, r0, r1⟩, ha, hr⟩
  have hc : ∀ j, w1.cell? ⟨w.heap.size, j, none⟩ = _ := fun j => ha.cell (b := w.heap.size) (o := j) (by simp) (by omega)
  have HA : Hid (Apart R w w1) := ap_trans (ap_alloc (ap_refl R w) _) ha
  have HR : Hid (Rd w1 R (p + 1)) := hr
  clear ha hr hq
  rcases (show r = 0 ∨ r = 1 ∨ r = 2 ∨ r = 3 ∨ r = 4 by omega) with rfl | rfl | rfl | rfl | rfl
  all_goals
    go_wp2
    go_ret
    exact ⟨⟨_, rfl, by omega, by omega⟩, HA.out, HR.out⟩
theorem peer_ret (R : Nat) (p : Int) (w : World) (h : Rd w R p) (p0 : 0 ≤ p) (p1 : p ≤ 1000000000) :
    Calls Try.prog 42 #[.pointer (some ⟨R, 0, none⟩)] w fun e w' => (∃ r, e = .returned (.int .i64 r) ∧ (r = 51202 ∨ r = 51203 ∨ r = 65535 ∨ r = 61440)) ∧ Apart R w w' ∧ Rd w' R (p + 1) := by
  have hR := h.1
  have hq : Hid (∀ o, Calls Try.prog 25 #[.pointer (some ⟨R, 0, none⟩), .int .i64 4] (w.alloc o) fun e w' => (∃ r, e = .returned (.int .i64 r) ∧ 0 ≤ r ∧ r < 4) ∧ Apart R (w.alloc o) w' ∧ Rd w' R (p + 1)) := fun o => pick_ret R p 4 (w.alloc o) (rd_below h (bl_alloc (bl_refl _) o)) p0 p1 (by omega) (by omega)
  clear h
  go_enter Try.func42, Try.ntmps42
  go_wp2_with fail
  refine (hq.out _).mono ?_
  rintro e w1 ⟨⟨r, rfl, r0, r1⟩, ha, hr⟩
  have hc : ∀ j, w1.cell? ⟨w.heap.size, j, none⟩ = _ := fun j => ha.cell (b := w.heap.size) (o := j) (by simp) (by omega)
  have HA : Hid (Apart R w w1) := ap_trans (ap_alloc (ap_refl R w) _) ha
  have HR : Hid (Rd w1 R (p + 1)) := hr
  clear ha hr hq
  rcases (show r = 0 ∨ r = 1 ∨ r = 2 ∨ r = 3 by omega) with rfl | rfl | rfl | rfl
  all_goals
    go_wp2
    go_ret
    exact ⟨⟨_, rfl, by omega⟩, HA.out, HR.out⟩

/-- A slice of bytes that came in. -/
def BytesIn (w : World) (a : Option Addr) (n : Nat) : Prop := n = 0 ∨ ∃ b o, a = some ⟨b, o, none⟩ ∧ b < w.heap.size ∧ ∀ i, i < n → ∃ u : Int, 0 ≤ u ∧ u ≤ 255 ∧ w.cell? ⟨b, o + i, none⟩ = some (.int .u8 u)
theorem rd_new {w : World} {a : Option Addr} {n c : Nat} (h : BytesIn w a n) (hn : n ≤ 2000) (t : TypeId) : Rd (w.alloc (.cells #[.slice a n c, .int .i64 0] t)) w.heap.size 0 := by
  refine ⟨by simp, fun j => by simp, by rw [World.cell?_alloc_new]; rfl, a, n, c, by rw [World.cell?_alloc_new]; rfl, hn, ?_⟩
  rcases h with h | ⟨b, o, hb, hlt, hc⟩
  · exact Or.inl h
  · refine Or.inr ⟨b, o, hb, hlt, fun i hi => ?_⟩
    obtain ⟨u, u0, u1, hu⟩ := hc i hi
    exact ⟨u, u0, u1, by rw [World.cell?_alloc_old _ _ _ (by simp; omega)]; exact hu⟩
theorem open_ret (a : Option Addr) (n c : Nat) (w : World) (hn : n ≤ c) (hc : c ≤ maxLen) (h : BytesIn w a n) :
    Calls Try.prog 22 #[.slice a n c] w fun e w' => e = .returned (.pointer (some ⟨w.heap.size, 0, none⟩)) ∧ Below w.heap.size w w' ∧ Rd w' w.heap.size 0 := by
  unfold maxLen at hc
  by_cases hl : n ≤ 2000
  · have hl' : (n : Int) ≤ 2000 := by omega
    have H : Hid (∀ t, Rd (w.alloc (.cells #[.slice a n c, .int .i64 0] t)) w.heap.size 0) := fun t => rd_new h hl t
    clear h hl
    go_enter Try.func22, Try.ntmps22
    go_wp2
    go_ret
    exact ⟨rfl, bl_alloc (bl_refl _) _, H.out _⟩
  · have hl' : ¬ (n : Int) ≤ 2000 := by omega
    have hl2 : (2000 : Int) < (n : Int) := by omega
    have hl3 : (2000 : Int) ≤ (c : Int) := by omega
    rcases h with h | ⟨b, o, rfl, hlt, hcs⟩
    · omega
    · have h' : BytesIn w (some ⟨b, o, none⟩) 2000 := Or.inr ⟨b, o, rfl, hlt, fun i hi => hcs i (by omega)⟩
      have H : Hid (∀ t, Rd (w.alloc (.cells #[.slice (some ⟨b, o, none⟩) 2000 c, .int .i64 0] t)) w.heap.size 0) := fun t => rd_new h' (by omega) t
      clear h' hcs hl
      go_enter Try.func22, Try.ntmps22
      go_wp2
      go_ret
      exact ⟨rfl, bl_alloc (bl_refl _) _, H.out _⟩
end Go.Proofs.Ytcgjpmhjijmplaa
