/- The laws' copies of lists, walked. -/
import Derived.Test.YtcgjpmhjijmplabGreatDoorLaws2
import Derived.Laws.IdiomCopy
namespace Go.Proofs.YtcgjpmhjijmplabGreatDoor
open Go.ChangeShapes Go.WideShapes Go.ChangeAt Go.RowKit Go.Maps
theorem size_setCells (g : Nat) : ∀ (vs : List Value) (p : Nat) (w : World), (w.setCells g p vs).heap.size = w.heap.size
  | [], _, _ => rfl
  | v :: r, p, w => by rw [World.setCells, size_setCells g r]; simp [World.setCell]
theorem bl_cells_set {W : World} {g : Nat} : ∀ {w : World}, Below W.heap.size W w → W.heap.size ≤ g → ∀ (p : Nat) (vs : List Value), Below W.heap.size W (w.setCells g p vs)
  | _, h, _, _, [] => h
  | _, h, hg, p, v :: r => bl_cells_set (bl_set h hg v) hg (p + 1) r

set_option maxHeartbeats 1000000 in
theorem toDs_row {w : World} {g k m : Nat} {ds : List Dr} {d : Dr} (hd : ds[k]? = some d) (hk : k < m) (hsome : ∀ j, j < m * 4 → (w.cell? ⟨g, j, none⟩).isSome = true) (hc : DrCells w g 0 (ds.take k)) :
    (∀ j, j < m * 4 → ((w.setCells g (k * 4) [.int .i64 d.k, .int .i64 d.o, .int .i64 d.i, .int .i64 d.p]).cell? ⟨g, j, none⟩).isSome = true) ∧ DrCells (w.setCells g (k * 4) [.int .i64 d.k, .int .i64 d.o, .int .i64 d.i, .int .i64 d.p]) g 0 (ds.take (k + 1)) := by
  have hsm : ∀ j, j < ([.int .i64 d.k, .int .i64 d.o, .int .i64 d.i, .int .i64 d.p] : List Value).length → (w.cell? ⟨g, k * 4 + j, none⟩).isSome = true := fun j hj => hsome _ (by simp at hj; omega)
  constructor
  · intro j hj
    by_cases h : j < k * 4 ∨ k * 4 + 4 ≤ j
    · rw [World.cell?_setCells_out _ _ _ _ _ (fun _ _ => by simpa using h)]; exact hsome j hj
    · obtain ⟨i, hi⟩ : ∃ i, j = k * 4 + i := ⟨j - k * 4, by omega⟩
      subst hi
      have := World.cell?_setCells_in g ([.int .i64 d.k, .int .i64 d.o, .int .i64 d.i, .int .i64 d.p] : List Value) (k * 4) w hsm i (by simp; omega)
      rw [this]; rfl
  · intro i e he
    rw [List.take_add_one, hd] at he
    by_cases hik : i < k
    · have he' : (ds.take k)[i]? = some e := by
        rw [List.getElem?_append_left (by have := get_lt hd; simp; omega)] at he
        exact he
      obtain ⟨h0, h1, h2, h3⟩ := hc i e he'
      exact ⟨(by rw [World.cell?_setCells_out _ _ _ _ _ (fun _ _ => Or.inl (by simp; omega))]; exact h0), (by rw [World.cell?_setCells_out _ _ _ _ _ (fun _ _ => Or.inl (by simp; omega))]; exact h1), (by rw [World.cell?_setCells_out _ _ _ _ _ (fun _ _ => Or.inl (by simp; omega))]; exact h2), (by rw [World.cell?_setCells_out _ _ _ _ _ (fun _ _ => Or.inl (by simp; omega))]; exact h3)⟩
    · have hl : (ds.take k).length = k := by have := get_lt hd; simp; omega
      have hik' : k = i := by
        have := get_lt he; simp at this; omega
      subst hik'
      rw [List.getElem?_append_right (by omega), hl] at he
      simp at he
      subst he
      exact ⟨(by have := World.cell?_setCells_in g ([.int .i64 d.k, .int .i64 d.o, .int .i64 d.i, .int .i64 d.p] : List Value) (k * 4) w hsm 0 (by simp); simpa using this), (by have := World.cell?_setCells_in g ([.int .i64 d.k, .int .i64 d.o, .int .i64 d.i, .int .i64 d.p] : List Value) (k * 4) w hsm 1 (by simp); simpa using this), (by have := World.cell?_setCells_in g ([.int .i64 d.k, .int .i64 d.o, .int .i64 d.i, .int .i64 d.p] : List Value) (k * 4) w hsm 2 (by simp); simpa using this), (by have := World.cell?_setCells_in g ([.int .i64 d.k, .int .i64 d.o, .int .i64 d.i, .int .i64 d.p] : List Value) (k * 4) w hsm 3 (by simp); simpa using this)⟩
theorem toDs_info : (Tryz.prog.info? 52).map (fun i => (i.zero, i.size, i.bytes)) = some (some (.agg #[.int .i64 0, .int .i64 0, .int .i64 0, .int .i64 0]), 4, 32) := by kernel_rfl
theorem toDs_mk (ds : List Dr) (hl : ds.length ≤ 1048576) (W : World) : (Instr.makeSlice 32 (.int .i64 (ds.length : Int)) (.int .i64 (ds.length : Int))).run Tryz.prog W = .ok (.slice (some ⟨W.heap.size, 0, none⟩) ds.length ds.length) (W.alloc (.cells (madeCells #[.int .i64 0, .int .i64 0, .int .i64 0, .int .i64 0] (ds.length * 4)) 52)) := by
  obtain ⟨i0, hi0, hz0, hz1, hz2⟩ := info_parts toDs_info
  have hmk := run_make (P := Tryz.prog) W 32 52 i0 _ Tryz.underlying32 hi0 hz0 .i64 .i64 (ds.length : Int) (ds.length : Int) (by omega) (by omega) (by rw [hz2]; omega) (by omega)
  rw [hz1] at hmk
  simpa [Value.cells] using hmk
theorem toDs_start (w : World) (C : Array Value) (t : TypeId) (m : Nat) (hC : C.size = m) : (∀ j, j < m → ((w.alloc (.cells C t)).cell? ⟨w.heap.size, j, none⟩).isSome = true) ∧ (∀ j, (w.alloc (.cells C t)).frozen? ⟨w.heap.size, j, none⟩ = false) := by
  refine ⟨fun j hj => ?_, fun j => ?_⟩
  · rw [World.cell?_alloc_new]; simp [hC, hj]
  · simp
theorem toDs_set (w : World) (g p : Nat) (x0 x1 x2 x3 : Value) : ((((w.setCell ⟨g, p, none⟩ x0).setCell ⟨g, p + 1, none⟩ x1).setCell ⟨g, p + 2, none⟩ x2).setCell ⟨g, p + 3, none⟩ x3) = w.setCells g p [x0, x1, x2, x3] := rfl
set_option maxHeartbeats 4000000 in
theorem toDs_some (b o c : Nat) (ds : List Dr) (w : World) (hl : ds.length ≤ 1048576) (hlt : b < w.heap.size) (hc : DrCells w b o ds) :
    Calls Tryz.prog 26 #[.slice (some ⟨b, o, none⟩) ds.length c] w fun e w' => e = .returned (.slice (some ⟨w.heap.size, 0, none⟩) ds.length ds.length) ∧ Below w.heap.size w w' ∧ w.heap.size < w'.heap.size ∧ DrCells w' w.heap.size 0 ds ∧ ∀ j, w'.frozen? ⟨w.heap.size, j, none⟩ = false := by
  have hmk := toDs_mk ds hl
  obtain ⟨hs0, hf0⟩ := toDs_start w (madeCells #[.int .i64 0, .int .i64 0, .int .i64 0, .int .i64 0] (ds.length * 4)) 52 (ds.length * 4) (size_madeCells _ _)
  go_enter Tryz.func26, Tryz.ntmps26
  go_wp2_with fail
  go_loopg [4] ds.length (fun gg i wr => ∃ k : Nat, gg = ds.length - k ∧ k ≤ ds.length ∧ i = .int .i64 k ∧ (∀ j, j < ds.length * 4 → (wr.cell? ⟨w.heap.size, j, none⟩).isSome = true) ∧ (∀ j, wr.frozen? ⟨w.heap.size, j, none⟩ = false) ∧ DrCells wr w.heap.size 0 (ds.take k) ∧ Below w.heap.size w wr ∧ w.heap.size < wr.heap.size)
  case atStart => exact ⟨0, by omega, by omega, rfl, hs0, hf0, fun i d hd => by simp at hd, bl_alloc (bl_refl _) _, by simp⟩
  case round =>
    clear hs0 hf0 hmk
    obtain ⟨k, hg, hk, rfl, hsome, hfz, hrow, hB, hsz⟩ := hrel
    by_cases hlt2 : k < ds.length
    · obtain ⟨d, hd'⟩ : ∃ d, ds[k]? = some d := ⟨ds[k], by simp [hlt2]⟩
      obtain ⟨c0, c1, c2, c3⟩ := hc.below hB hlt k d hd'
      have hD : Hid (ds[k]? = some d) := hd'
      have hS : Hid (∀ j, j < ds.length * 4 → (wr.cell? ⟨w.heap.size, j, none⟩).isSome = true) := hsome
      clear hd' hsome
      go_wp2_with fail
      refine (toDoor_ret d _).mono ?_
      rintro e w1 ⟨rfl, hb1⟩
      have hsz1 : w.heap.size < w1.heap.size := Nat.lt_of_lt_of_le hsz hb1.size
      have hsome1 : ∀ j, j < ds.length * 4 → (w1.cell? ⟨w.heap.size, j, none⟩).isSome = true := fun j hj => by rw [hb1.cell (p := ⟨w.heap.size, j, none⟩) hsz]; exact hS.out j hj
      have hfz1 : ∀ j, w1.frozen? ⟨w.heap.size, j, none⟩ = false := fun j => by rw [hb1.frozen (p := ⟨w.heap.size, j, none⟩) hsz]; exact hfz j
      have hrow1 := hrow.below hb1 hsz
      obtain ⟨u0, e0⟩ := Option.isSome_iff_exists.1 (hsome1 (k * 4) (by omega))
      obtain ⟨u1, e1⟩ := Option.isSome_iff_exists.1 (hsome1 (k * 4 + 1) (by omega))
      obtain ⟨u2, e2⟩ := Option.isSome_iff_exists.1 (hsome1 (k * 4 + 2) (by omega))
      obtain ⟨u3, e3⟩ := Option.isSome_iff_exists.1 (hsome1 (k * 4 + 3) (by omega))
      have hres := toDs_row (m := ds.length) hD.out hlt2 hsome1 hrow1
      have HR : Hid (_ ∧ _) := hres
      clear hsome1 hres
      go_wp2_with fail
      go_roundg (ds.length - (k + 1))
      case measure => omega
      case rel =>
        rw [toDs_set]
        exact ⟨k + 1, rfl, by omega, by go_num, HR.out.1, fun j => (World.frozen?_setCells _ _ _ _ _).trans (hfz1 j), HR.out.2, bl_cells_set (bl_trans hB hb1) (Nat.le_refl _) _ _, by rw [size_setCells]; exact hsz1⟩
    · have hke : k = ds.length := by omega
      subst hke
      go_wp2_with fail
      go_ret
      exact ⟨rfl, hB, hsz, by simpa using hrow, hfz⟩
theorem toDs_nil (a : Option Addr) (c : Nat) (w : World) :
    Calls Tryz.prog 26 #[.slice a 0 c] w fun e w' => e = .returned (.slice (some ⟨w.heap.size, 0, none⟩) 0 0) ∧ Below w.heap.size w w' ∧ w.heap.size < w'.heap.size ∧ ∀ j, w'.frozen? ⟨w.heap.size, j, none⟩ = false := by
  have hmk := toDs_mk [] (by simp)
  simp only [List.length_nil, Int.natCast_zero] at hmk
  go_enter Tryz.func26, Tryz.ntmps26
  go_wp2_with fail
  go_loopg [4] 0 (fun _ i wr => i = .int .i64 0 ∧ Below w.heap.size w wr ∧ w.heap.size < wr.heap.size ∧ ∀ j, wr.frozen? ⟨w.heap.size, j, none⟩ = false)
  case atStart => exact ⟨rfl, bl_alloc (bl_refl _) _, by simp, fun j => by simp⟩
  case round =>
    obtain ⟨rfl, hB, hsz, hfz⟩ := hrel
    go_wp2_with fail
    go_ret
    exact ⟨rfl, hB, hsz, hfz⟩
theorem toDs_own (a : Option Addr) (m c : Nat) (ds : List Dr) (w : World) (hl : ds.length ≤ 1048576) (h : DoorsAt w a m ds) :
    Calls Tryz.prog 26 #[.slice a m c] w fun e w' => e = .returned (.slice (some ⟨w.heap.size, 0, none⟩) m m) ∧ Below w.heap.size w w' ∧ DoorsAt w' (some ⟨w.heap.size, 0, none⟩) m ds ∧ w.heap.size < w'.heap.size ∧ ∀ j, w'.frozen? ⟨w.heap.size, j, none⟩ = false := by
  obtain ⟨rfl, h⟩ := h
  rcases h with rfl | ⟨b, o, rfl, hlt, hc⟩
  · exact (toDs_nil a c w).mono fun e w' h => ⟨h.1, h.2.1, ⟨rfl, Or.inl rfl⟩, h.2.2⟩
  · exact (toDs_some b o c ds w hl hlt hc).mono fun e w' h => ⟨h.1, h.2.1, ⟨rfl, Or.inr ⟨_, _, rfl, h.2.2.1, h.2.2.2.1⟩⟩, h.2.2.1, h.2.2.2.2⟩
set_option maxHeartbeats 4000000 in
theorem eqDs_some (b o c b2 o2 c2 : Nat) (ds : List Dr) (w : World) (hl : ds.length ≤ 1048576) (hlt : b < w.heap.size) (hc : DrCells w b o ds) (hlt2 : b2 < w.heap.size) (hc2 : DrCells w b2 o2 ds) :
    Calls Tryz.prog 30 #[.slice (some ⟨b, o, none⟩) ds.length c, .slice (some ⟨b2, o2, none⟩) ds.length c2] w fun e w' => e = .returned (.bool true) ∧ Below w.heap.size w w' := by
  go_enter Tryz.func30, Tryz.ntmps30
  go_wp2_with fail
  go_loopg [5] ds.length (fun gg i wr => ∃ k : Nat, gg = ds.length - k ∧ k ≤ ds.length ∧ i = .int .i64 k ∧ Below w.heap.size w wr)
  case atStart => exact ⟨0, by omega, by omega, rfl, bl_refl _⟩
  case round =>
    obtain ⟨k, hg, hk, rfl, hB⟩ := hrel
    by_cases hlt3 : k < ds.length
    · obtain ⟨d, hd⟩ : ∃ d, ds[k]? = some d := ⟨ds[k], by simp [hlt3]⟩
      obtain ⟨c0, c1, c2, c3⟩ := hc.below hB hlt k d hd
      obtain ⟨d0, d1, d2, d3⟩ := hc2.below hB hlt2 k d hd
      have hD : Hid (ds[k]? = some d) := hd
      clear hd
      have hk0 : (0 : Int) ≤ (k : Int) := by omega
      have hk1 : (k : Int) < (ds.length : Int) := by omega
      go_wp2_with fail
      refine wp_region_held_drew (S := (fun w' => w'.cell? ⟨b, o + k * 4, none⟩ = some (.int .i64 d.k) ∧ w'.cell? ⟨b, o + k * 4 + 1, none⟩ = some (.int .i64 d.o) ∧ w'.cell? ⟨b, o + k * 4 + 2, none⟩ = some (.int .i64 d.i) ∧ w'.cell? ⟨b, o + k * 4 + 3, none⟩ = some (.int .i64 d.p) ∧ w'.cell? ⟨b2, o2 + k * 4, none⟩ = some (.int .i64 d.k) ∧ w'.cell? ⟨b2, o2 + k * 4 + 1, none⟩ = some (.int .i64 d.o) ∧ w'.cell? ⟨b2, o2 + k * 4 + 2, none⟩ = some (.int .i64 d.i) ∧ w'.cell? ⟨b2, o2 + k * 4 + 3, none⟩ = some (.int .i64 d.p))) (by kernel_rfl) ?_ (fun hHeld => ?_)
      · go_keep
      refine takeL 0 17 ?_ ?_ hHeld ?_
      rotate_left
      · (intro w hSw; (try dsimp only at hSw); go_simp; try with_reducible rfl)
      simp only [Act.put, puA, puB, puC]
      refine takeL 1 18 ?_ ?_ hHeld ?_
      rotate_left
      · (intro w hSw; (try dsimp only at hSw); go_simp; try with_reducible rfl)
      simp only [Act.put, puA, puB, puC]
      refine takeL 2 19 ?_ ?_ hHeld ?_
      rotate_left
      · (intro w hSw; (try dsimp only at hSw); go_simp; try with_reducible rfl)
      simp only [Act.put, puA, puB, puC]
      refine takeL 3 20 ?_ ?_ hHeld ?_
      rotate_left
      · (intro w hSw; (try dsimp only at hSw); go_simp; try with_reducible rfl)
      simp only [Act.put, puA, puB, puC]
      refine takeL 4 21 ?_ ?_ hHeld ?_
      rotate_left
      · (intro w hSw; (try dsimp only at hSw); go_simp; try with_reducible rfl)
      simp only [Act.put, puA, puB, puC]
      refine takeL 5 22 ?_ ?_ hHeld ?_
      rotate_left
      · (intro w hSw; (try dsimp only at hSw); go_simp; try with_reducible rfl)
      simp only [Act.put, puA, puB, puC]
      refine takeL 6 23 ?_ ?_ hHeld ?_
      rotate_left
      · (intro w hSw; (try dsimp only at hSw); go_simp; try with_reducible rfl)
      simp only [Act.put, puA, puB, puC]
      refine takeL 7 24 ?_ ?_ hHeld ?_
      rotate_left
      · (intro w hSw; (try dsimp only at hSw); go_simp; try with_reducible rfl)
      simp only [Act.put, puA, puB, puC]
      refine wpAnyH_ready (rs := [8]) (by kernel_rfl) (by simp) (AllReadyH.cons rfl (fun K hK => ?_) AllReadyH.nil)
      go_simp
      go_wp2_with ((go_at_call 59; refine (eqDoor_same d _).mono ?_; rintro e w1 ⟨rfl, hb1⟩; have hB1 := bl_trans (bl_drew hB) hb1; obtain ⟨p0, p1, p2, p3⟩ := hc.below hB1 hlt k d hD.out; obtain ⟨q0, q1, q2, q3⟩ := hc2.below hB1 hlt2 k d hD.out))
      refine hK.out _ _ ?_ (fun hHeld1 => ?_)
      · go_keep
      clear hK K hHeld
      have hHeld := hHeld1
      clear hHeld1
      refine takeL 9 26 ?_ ?_ hHeld ?_
      rotate_left
      · (intro w hSw; (try dsimp only at hSw); go_simp; try with_reducible rfl)
      simp only [Act.put, puA, puB, puC]
      refine wpAnyH_done (by kernel_rfl) ?_ _
      go_wp2_with fail
      go_roundg (ds.length - (k + 1))
      case measure => omega
      case rel => exact ⟨k + 1, rfl, by omega, by go_num, hB1⟩
    · go_wp2_with fail
      go_ret
      exact ⟨rfl, hB⟩
theorem eqDs_nil (a : Option Addr) (c : Nat) (a2 : Option Addr) (c2 : Nat) (w : World) :
    Calls Tryz.prog 30 #[.slice a 0 c, .slice a2 0 c2] w fun e w' => e = .returned (.bool true) ∧ Below w.heap.size w w' := by
  go_enter Tryz.func30, Tryz.ntmps30
  go_wp2_with fail
  go_loopg [5] 0 (fun _ i wr => i = .int .i64 0 ∧ Below w.heap.size w wr)
  case atStart => exact ⟨rfl, bl_refl _⟩
  case round =>
    obtain ⟨rfl, hB⟩ := hrel
    go_wp2_with fail
    go_ret
    exact ⟨rfl, hB⟩
theorem eqDs_ret (a a2 : Option Addr) (m c c2 : Nat) (ds : List Dr) (w : World) (hl : ds.length ≤ 1048576) (h : DoorsAt w a m ds) (h2 : DoorsAt w a2 m ds) :
    Calls Tryz.prog 30 #[.slice a m c, .slice a2 m c2] w fun e w' => e = .returned (.bool true) ∧ Below w.heap.size w w' := by
  obtain ⟨rfl, h⟩ := h
  rcases h with rfl | ⟨b, o, rfl, hlt, hc⟩
  · exact eqDs_nil a c a2 c2 w
  · rcases h2.2 with rfl | ⟨b2, o2, rfl, hlt2, hc2⟩
    · exact eqDs_nil _ c a2 c2 w
    · exact eqDs_some b o c b2 o2 c2 ds w hl hlt hc hlt2 hc2
end Go.Proofs.YtcgjpmhjijmplabGreatDoor
