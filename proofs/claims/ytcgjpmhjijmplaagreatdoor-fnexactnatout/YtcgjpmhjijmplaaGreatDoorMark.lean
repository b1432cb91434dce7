/- The laws' marks on memory: markNatDoorS, markNatEntryS, heldNatDoorS, heldNatEntryS, walked. -/
import Derived.Test.YtcgjpmhjijmplaaGreatDoorBase
import Derived.Test.YtcgjpmhjijmplaaGreatDoorAp
import Derived.Deep.LoopGhost
namespace Go.Proofs.YtcgjpmhjijmplaaGreatDoor
open Go.ChangeShapes Go.WideShapes Go.ChangeAt Go.RowKit

/-- Block g is there, its first m cells too, and none is frozen. -/
def Rowed (w : World) (g m : Nat) : Prop := g < w.heap.size ∧ (∀ j, w.frozen? ⟨g, j, none⟩ = false) ∧ ∀ p, p < m → ∃ v, w.cell? ⟨g, p, none⟩ = some v
def Marked (w : World) (g m : Nat) (k : Int) : Prop := ∀ p, p < m → w.cell? ⟨g, p, none⟩ = some (.int .i64 (k + (p : Int)))
theorem Rowed.set {w : World} {g m : Nat} (h : Rowed w g m) (j : Nat) (v : Value) : Rowed (w.setCell ⟨g, j, none⟩ v) g m := by
  refine ⟨by simpa [World.setCell] using h.1, fun i => by simp [h.2.1], fun p hp => ?_⟩
  obtain ⟨u, hu⟩ := h.2.2 p hp
  by_cases e : p = j
  · subst e; exact ⟨v, World.cell?_setCell_same _ _ _ hu⟩
  · exact ⟨u, by rw [World.cell?_setCell_other _ _ _ _ (fun e' => e (by injection e' with _ e2; exact e2.symm))]; exact hu⟩
theorem Marked.step {w : World} {g p m : Nat} {k v : Int} (h : Marked w g p k) (hR : Rowed w g m) (hp : p < m) (hv : v = k + (p : Int)) : Marked (w.setCell ⟨g, p, none⟩ (.int .i64 v)) g (p + 1) k := by
  intro q hq
  by_cases e : q = p
  · subst e
    obtain ⟨u, hu⟩ := hR.2.2 q hp
    rw [World.cell?_setCell_same _ _ _ hu, hv]
  · rw [World.cell?_setCell_other _ _ _ _ (fun e' => e (by injection e' with _ e2; exact e2.symm))]
    exact h q (by omega)

set_option maxRecDepth 20000 in
set_option maxHeartbeats 2000000 in
theorem markD_ret (g m cap : Nat) (k : Int) (w : World) (hR : Rowed w g (m * 4)) (hm : m ≤ 1048576) (k0 : 0 ≤ k) (k1 : k ≤ 100000000) :
    Calls Tryz.prog 83 #[.slice (some ⟨g, 0, none⟩) m cap, .int .i64 k] w fun e w' => e = .returned (.int .i64 (k + (m * 4 : Nat))) ∧ Apart g w w' ∧ Rowed w' g (m * 4) ∧ Marked w' g (m * 4) k := by
  go_enter Tryz.func83, Tryz.ntmps83
  go_wp2_with fail
  go_loopg [1, 5] m (fun gg kv i wr => ∃ n : Nat, gg = m - n ∧ n ≤ m ∧ i = .int .i64 n ∧ kv = .int .i64 (k + (n * 4 : Nat)) ∧ Apart g w wr ∧ Rowed wr g (m * 4) ∧ Marked wr g (n * 4) k)
  case atStart => exact ⟨0, by omega, by omega, rfl, by simp, ap_refl g w, hR, fun p hp => absurd hp (by omega)⟩
  case round =>
    clear hR
    obtain ⟨n, hg, hn, rfl, rfl, hA, hR, hM⟩ := hrel
    have hM : Hid (Marked wr g (n * 4) k) := hM
    by_cases hlt : n < m
    · have hlt' : (n : Int) < (m : Int) := by omega
      obtain ⟨u0, c0⟩ := hR.2.2 (n * 4) (by omega)
      obtain ⟨u1, c1⟩ := hR.2.2 (n * 4 + 1) (by omega)
      obtain ⟨u2, c2⟩ := hR.2.2 (n * 4 + 2) (by omega)
      obtain ⟨u3, c3⟩ := hR.2.2 (n * 4 + 3) (by omega)
      have hfz := hR.2.1
      have kk0 : 0 ≤ k + (n : Int) * 4 := by omega
      have kk1 : k + (n : Int) * 4 ≤ 200000000 := by omega
      go_wp2_with fail
      go_roundg (m - (n + 1))
      case measure => omega
      case rel =>
        refine ⟨n + 1, rfl, by omega, by go_num, ?_, ?_, ?_, ?_⟩
        · congr 1; omega
        · iterate 4 (refine ap_set ?_ _ _)
          exact hA
        · iterate 4 (refine Rowed.set ?_ _ _)
          exact hR
        · have s0 := hM.out
          have r0 := hR
          have s1 := Marked.step s0 r0 (by omega) (v := k + (n : Int) * 4) (by omega)
          have r1 := Rowed.set r0 (n * 4) (.int .i64 (k + (n : Int) * 4))
          have s2 := Marked.step s1 r1 (by omega) (v := k + (n : Int) * 4 + 1) (by omega)
          have r2 := Rowed.set r1 (n * 4 + 1) (.int .i64 (k + (n : Int) * 4 + 1))
          have s3 := Marked.step s2 r2 (by omega) (v := k + (n : Int) * 4 + 1 + 1) (by omega)
          have r3 := Rowed.set r2 (n * 4 + 1 + 1) (.int .i64 (k + (n : Int) * 4 + 1 + 1))
          have s4 := Marked.step s3 r3 (by omega) (v := k + (n : Int) * 4 + 1 + 1 + 1) (by omega)
          have r4 := Rowed.set r3 (n * 4 + 1 + 1 + 1) (.int .i64 (k + (n : Int) * 4 + 1 + 1 + 1))
          rw [show (n + 1) * 4 = n * 4 + 1 + 1 + 1 + 1 by omega]
          exact s4
    · have hlt' : ¬ (n : Int) < (m : Int) := by omega
      go_wp2_with fail
      go_ret
      have e : n = m := by omega
      subst e
      exact ⟨rfl, hA, hR, hM.out⟩

set_option maxRecDepth 20000 in
set_option maxHeartbeats 2000000 in
theorem markE_ret (g m cap : Nat) (k : Int) (w : World) (hR : Rowed w g (m * 7)) (hm : m ≤ 1048576) (k0 : 0 ≤ k) (k1 : k ≤ 100000000) :
    Calls Tryz.prog 84 #[.slice (some ⟨g, 0, none⟩) m cap, .int .i64 k] w fun e w' => e = .returned (.int .i64 (k + (m * 7 : Nat))) ∧ Apart g w w' ∧ Rowed w' g (m * 7) ∧ Marked w' g (m * 7) k := by
  go_enter Tryz.func84, Tryz.ntmps84
  go_wp2_with fail
  go_loopg [1, 5] m (fun gg kv i wr => ∃ n : Nat, gg = m - n ∧ n ≤ m ∧ i = .int .i64 n ∧ kv = .int .i64 (k + (n * 7 : Nat)) ∧ Apart g w wr ∧ Rowed wr g (m * 7) ∧ Marked wr g (n * 7) k)
  case atStart => exact ⟨0, by omega, by omega, rfl, by simp, ap_refl g w, hR, fun p hp => absurd hp (by omega)⟩
  case round =>
    clear hR
    obtain ⟨n, hg, hn, rfl, rfl, hA, hR, hM⟩ := hrel
    have hM : Hid (Marked wr g (n * 7) k) := hM
    by_cases hlt : n < m
    · have hlt' : (n : Int) < (m : Int) := by omega
      obtain ⟨u0, c0⟩ := hR.2.2 (n * 7) (by omega)
      obtain ⟨u1, c1⟩ := hR.2.2 (n * 7 + 1) (by omega)
      obtain ⟨u2, c2⟩ := hR.2.2 (n * 7 + 2) (by omega)
      obtain ⟨u3, c3⟩ := hR.2.2 (n * 7 + 3) (by omega)
      obtain ⟨u4, c4⟩ := hR.2.2 (n * 7 + 4) (by omega)
      obtain ⟨u5, c5⟩ := hR.2.2 (n * 7 + 5) (by omega)
      obtain ⟨u6, c6⟩ := hR.2.2 (n * 7 + 6) (by omega)
      have hfz := hR.2.1
      have kk0 : 0 ≤ k + (n : Int) * 7 := by omega
      have kk1 : k + (n : Int) * 7 ≤ 200000000 := by omega
      go_wp2_with fail
      go_roundg (m - (n + 1))
      case measure => omega
      case rel =>
        refine ⟨n + 1, rfl, by omega, by go_num, ?_, ?_, ?_, ?_⟩
        · congr 1; omega
        · iterate 7 (refine ap_set ?_ _ _)
          exact hA
        · iterate 7 (refine Rowed.set ?_ _ _)
          exact hR
        · have s0 := hM.out
          have r0 := hR
          have s1 := Marked.step s0 r0 (by omega) (v := k + (n : Int) * 7) (by omega)
          have r1 := Rowed.set r0 (n * 7) (.int .i64 (k + (n : Int) * 7))
          have s2 := Marked.step s1 r1 (by omega) (v := k + (n : Int) * 7 + 1) (by omega)
          have r2 := Rowed.set r1 (n * 7 + 1) (.int .i64 (k + (n : Int) * 7 + 1))
          have s3 := Marked.step s2 r2 (by omega) (v := k + (n : Int) * 7 + 1 + 1) (by omega)
          have r3 := Rowed.set r2 (n * 7 + 1 + 1) (.int .i64 (k + (n : Int) * 7 + 1 + 1))
          have s4 := Marked.step s3 r3 (by omega) (v := k + (n : Int) * 7 + 1 + 1 + 1) (by omega)
          have r4 := Rowed.set r3 (n * 7 + 1 + 1 + 1) (.int .i64 (k + (n : Int) * 7 + 1 + 1 + 1))
          have s5 := Marked.step s4 r4 (by omega) (v := k + (n : Int) * 7 + 1 + 1 + 1 + 1) (by omega)
          have r5 := Rowed.set r4 (n * 7 + 1 + 1 + 1 + 1) (.int .i64 (k + (n : Int) * 7 + 1 + 1 + 1 + 1))
          have s6 := Marked.step s5 r5 (by omega) (v := k + (n : Int) * 7 + 1 + 1 + 1 + 1 + 1) (by omega)
          have r6 := Rowed.set r5 (n * 7 + 1 + 1 + 1 + 1 + 1) (.int .i64 (k + (n : Int) * 7 + 1 + 1 + 1 + 1 + 1))
          have s7 := Marked.step s6 r6 (by omega) (v := k + (n : Int) * 7 + 1 + 1 + 1 + 1 + 1 + 1) (by omega)
          have r7 := Rowed.set r6 (n * 7 + 1 + 1 + 1 + 1 + 1 + 1) (.int .i64 (k + (n : Int) * 7 + 1 + 1 + 1 + 1 + 1 + 1))
          rw [show (n + 1) * 7 = n * 7 + 1 + 1 + 1 + 1 + 1 + 1 + 1 by omega]
          exact s7
    · have hlt' : ¬ (n : Int) < (m : Int) := by omega
      go_wp2_with fail
      go_ret
      have e : n = m := by omega
      subst e
      exact ⟨rfl, hA, hR, hM.out⟩

set_option maxRecDepth 20000 in
set_option maxHeartbeats 2000000 in
theorem heldD_ret (g m cap : Nat) (k : Int) (w : World) (hM : Marked w g (m * 4) k) (hm : m ≤ 1048576) (k0 : 0 ≤ k) (k1 : k ≤ 100000000) :
    Calls Tryz.prog 85 #[.slice (some ⟨g, 0, none⟩) m cap, .int .i64 k] w fun e w' => e = .returned (.int .i64 (k + (m * 4 : Nat))) ∧ w' = w := by
  go_enter Tryz.func85, Tryz.ntmps85
  go_wp2_with fail
  go_loopg [1, 5] m (fun gg kv i wr => ∃ n : Nat, gg = m - n ∧ n ≤ m ∧ i = .int .i64 n ∧ kv = .int .i64 (k + (n * 4 : Nat)) ∧ wr = w)
  case atStart => exact ⟨0, by omega, by omega, rfl, by simp, rfl⟩
  case round =>
    obtain ⟨n, hg, hn, rfl, rfl, rfl⟩ := hrel
    by_cases hlt : n < m
    · have hlt' : (n : Int) < (m : Int) := by omega
      have c0 : wr.cell? ⟨g, n * 4, none⟩ = some (.int .i64 (k + (n : Int) * 4)) := by have := hM (n * 4) (by omega); rw [this]; congr 2; try omega
      have c1 : wr.cell? ⟨g, n * 4 + 1, none⟩ = some (.int .i64 (k + (n : Int) * 4 + 1)) := by have := hM (n * 4 + 1) (by omega); rw [this]; congr 2; try omega
      have c2 : wr.cell? ⟨g, n * 4 + 2, none⟩ = some (.int .i64 (k + (n : Int) * 4 + 1 + 1)) := by have := hM (n * 4 + 2) (by omega); rw [this]; congr 2; try omega
      have c3 : wr.cell? ⟨g, n * 4 + 3, none⟩ = some (.int .i64 (k + (n : Int) * 4 + 1 + 1 + 1)) := by have := hM (n * 4 + 3) (by omega); rw [this]; congr 2; try omega
      have kk0 : 0 ≤ k + (n : Int) * 4 := by omega
      have kk1 : k + (n : Int) * 4 ≤ 200000000 := by omega
      clear hM
      go_wp2_with fail
      go_roundg (m - (n + 1))
      case measure => omega
      case rel => exact ⟨n + 1, rfl, by omega, by go_num, by congr 1; omega, rfl⟩
    · have hlt' : ¬ (n : Int) < (m : Int) := by omega
      go_wp2_with fail
      go_ret
      have e : n = m := by omega
      subst e
      exact ⟨rfl, rfl⟩

set_option maxRecDepth 20000 in
set_option maxHeartbeats 2000000 in
theorem heldE_ret (g m cap : Nat) (k : Int) (w : World) (hM : Marked w g (m * 7) k) (hm : m ≤ 1048576) (k0 : 0 ≤ k) (k1 : k ≤ 100000000) :
    Calls Tryz.prog 86 #[.slice (some ⟨g, 0, none⟩) m cap, .int .i64 k] w fun e w' => e = .returned (.int .i64 (k + (m * 7 : Nat))) ∧ w' = w := by
  go_enter Tryz.func86, Tryz.ntmps86
  go_wp2_with fail
  go_loopg [1, 5] m (fun gg kv i wr => ∃ n : Nat, gg = m - n ∧ n ≤ m ∧ i = .int .i64 n ∧ kv = .int .i64 (k + (n * 7 : Nat)) ∧ wr = w)
  case atStart => exact ⟨0, by omega, by omega, rfl, by simp, rfl⟩
  case round =>
    obtain ⟨n, hg, hn, rfl, rfl, rfl⟩ := hrel
    by_cases hlt : n < m
    · have hlt' : (n : Int) < (m : Int) := by omega
      have c0 : wr.cell? ⟨g, n * 7, none⟩ = some (.int .i64 (k + (n : Int) * 7)) := by have := hM (n * 7) (by omega); rw [this]; congr 2; try omega
      have c1 : wr.cell? ⟨g, n * 7 + 1, none⟩ = some (.int .i64 (k + (n : Int) * 7 + 1)) := by have := hM (n * 7 + 1) (by omega); rw [this]; congr 2; try omega
      have c2 : wr.cell? ⟨g, n * 7 + 2, none⟩ = some (.int .i64 (k + (n : Int) * 7 + 1 + 1)) := by have := hM (n * 7 + 2) (by omega); rw [this]; congr 2; try omega
      have c3 : wr.cell? ⟨g, n * 7 + 3, none⟩ = some (.int .i64 (k + (n : Int) * 7 + 1 + 1 + 1)) := by have := hM (n * 7 + 3) (by omega); rw [this]; congr 2; try omega
      have c4 : wr.cell? ⟨g, n * 7 + 4, none⟩ = some (.int .i64 (k + (n : Int) * 7 + 1 + 1 + 1 + 1)) := by have := hM (n * 7 + 4) (by omega); rw [this]; congr 2; try omega
      have c5 : wr.cell? ⟨g, n * 7 + 5, none⟩ = some (.int .i64 (k + (n : Int) * 7 + 1 + 1 + 1 + 1 + 1)) := by have := hM (n * 7 + 5) (by omega); rw [this]; congr 2; try omega
      have c6 : wr.cell? ⟨g, n * 7 + 6, none⟩ = some (.int .i64 (k + (n : Int) * 7 + 1 + 1 + 1 + 1 + 1 + 1)) := by have := hM (n * 7 + 6) (by omega); rw [this]; congr 2; try omega
      have kk0 : 0 ≤ k + (n : Int) * 7 := by omega
      have kk1 : k + (n : Int) * 7 ≤ 200000000 := by omega
      clear hM
      go_wp2_with fail
      go_roundg (m - (n + 1))
      case measure => omega
      case rel => exact ⟨n + 1, rfl, by omega, by go_num, by congr 1; omega, rfl⟩
    · have hlt' : ¬ (n : Int) < (m : Int) := by omega
      go_wp2_with fail
      go_ret
      have e : n = m := by omega
      subst e
      exact ⟨rfl, rfl⟩
end Go.Proofs.YtcgjpmhjijmplaaGreatDoor
