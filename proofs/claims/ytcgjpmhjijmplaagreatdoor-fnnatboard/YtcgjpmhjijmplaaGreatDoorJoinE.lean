/- Joined: Draw3, Draw4. -/
import Derived.Test.YtcgjpmhjijmplaaGreatDoorJoinA
import Derived.Test.YtcgjpmhjijmplaaGreatDoorMem
/- The specification's l5Inner: it tells an address inside; walked. -/
namespace Go.Proofs.YtcgjpmhjijmplaaGreatDoor
open Go.ChangeShapes Go.WideShapes Go.ChangeAt Go.RowKit

/-- The reader lies in block R, and has read n or less. -/
def Rb (w : World) (R : Nat) (n : Int) : Prop := ∃ p, 0 ≤ p ∧ p ≤ n ∧ Rd w R p
theorem Rb.below {w w' : World} {R : Nat} {n : Int} (h : Rb w R n) (hb : Below w.heap.size w w') : Rb w' R n := by
  obtain ⟨p, h0, h1, h2⟩ := h
  exact ⟨p, h0, h1, rd_below h2 hb⟩
theorem Rb.lt {w : World} {R : Nat} {n : Int} (h : Rb w R n) : R < w.heap.size := by
  obtain ⟨p, h0, h1, h2⟩ := h
  exact h2.1
theorem Rb.le {w : World} {R : Nat} {n m : Int} (h : Rb w R n) (hm : n ≤ m) : Rb w R m := by
  obtain ⟨p, h0, h1, h2⟩ := h
  exact ⟨p, h0, by omega, h2⟩
theorem Rb.set {w : World} {R : Nat} {n : Int} (h : Rb w R n) {m j : Nat} (hm : R < m) (v : Value) : Rb (w.setCell ⟨m, j, none⟩ v) R n := by
  obtain ⟨p, h0, h1, h2⟩ := h
  exact ⟨p, h0, h1, rd_set h2 hm v⟩
theorem pick_rb (R : Nat) (n k : Int) (w : World) (h : Rb w R n) (hn : n ≤ 1000000000) (hk : 1 ≤ k) (hk1 : k ≤ 1000000) :
    Calls Tryz.prog 42 #[.pointer (some ⟨R, 0, none⟩), .int .i64 k] w fun e w' => (∃ r, e = .returned (.int .i64 r) ∧ 0 ≤ r ∧ r < k) ∧ Apart R w w' ∧ Rb w' R (n + 1) := by
  obtain ⟨p, h0, h1, h2⟩ := h
  refine (pick_ret R p k w h2 h0 (by omega) hk hk1).mono ?_
  rintro e w' ⟨hr, ha, hd⟩
  exact ⟨hr, ha, p + 1, by omega, by omega, hd⟩
theorem Box.apart {R : Nat} {w w' : World} {n : Nat} {C : Array Value} (h : Box w n C) (ha : Apart R w w') (hn : n ≠ R) : Box w' n C :=
  ⟨Nat.lt_of_lt_of_le h.1 ha.size, fun j => (ha.cell (b := n) (o := j) h.1 hn).trans (h.2 j)⟩
theorem Bx.apart {R : Nat} {w w' : World} {n : Nat} {C : Array Value} (h : Bx w n C) (ha : Apart R w w') (hn : n ≠ R) : Bx w' n C :=
  ⟨h.1.apart ha hn, fun j => (World.frozen?_of_block (w := w) (a := ⟨n, j, none⟩) (ha.block n h.1.1 hn)).trans (h.2 j)⟩
theorem ap_new4 {R : Nat} {w w1 : World} (h : Apart R w w1) {n : Nat} (hn : w.heap.size ≤ n) (a b c d : Value) : Apart R w ((((w1.setCell ⟨n, 0, none⟩ a).setCell ⟨n, 1, none⟩ b).setCell ⟨n, 2, none⟩ c).setCell ⟨n, 3, none⟩ d) :=
  ap_new (ap_new (ap_new (ap_new h hn a) hn b) hn c) hn d
theorem Rb.set4 {w : World} {R : Nat} {k : Int} (h : Rb w R k) {n : Nat} (hn : R < n) (a b c d : Value) : Rb ((((w.setCell ⟨n, 0, none⟩ a).setCell ⟨n, 1, none⟩ b).setCell ⟨n, 2, none⟩ c).setCell ⟨n, 3, none⟩ d) R k :=
  (((h.set hn a).set hn b).set hn c).set hn d
theorem ap_new8 {R : Nat} {w w1 : World} (h : Apart R w w1) {n : Nat} (hn : w.heap.size ≤ n) (a b c d e f g i : Value) : Apart R w ((((((((w1.setCell ⟨n, 0, none⟩ a).setCell ⟨n, 1, none⟩ b).setCell ⟨n, 2, none⟩ c).setCell ⟨n, 3, none⟩ d).setCell ⟨n, 4, none⟩ e).setCell ⟨n, 5, none⟩ f).setCell ⟨n, 6, none⟩ g).setCell ⟨n, 7, none⟩ i) :=
  ap_new (ap_new (ap_new (ap_new (ap_new (ap_new (ap_new (ap_new h hn a) hn b) hn c) hn d) hn e) hn f) hn g) hn i
theorem Rb.set8 {w : World} {R : Nat} {k : Int} (h : Rb w R k) {n : Nat} (hn : R < n) (a b c d e f g i : Value) : Rb ((((((((w.setCell ⟨n, 0, none⟩ a).setCell ⟨n, 1, none⟩ b).setCell ⟨n, 2, none⟩ c).setCell ⟨n, 3, none⟩ d).setCell ⟨n, 4, none⟩ e).setCell ⟨n, 5, none⟩ f).setCell ⟨n, 6, none⟩ g).setCell ⟨n, 7, none⟩ i) R k :=
  (((((((h.set hn a).set hn b).set hn c).set hn d).set hn e).set hn f).set hn g).set hn i
theorem tmod_bd {y m : Int} (y0 : 0 ≤ y) (hm : 1 ≤ m) : 0 ≤ y.tmod m ∧ y.tmod m < m := by
  rw [Int.tmod_eq_emod_of_nonneg y0]
  exact ⟨Int.emod_nonneg _ (by omega), Int.emod_lt_of_pos _ (by omega)⟩
theorem inner_pick {m x y : Int} {r : Int} (h0 : 0 ≤ r) (h1 : r < 4) (hm : 1 ≤ m) (x0 : 0 ≤ x) (x1 : x < m) (y0 : 0 ≤ y) (y1 : y < m) :
    ∃ v, (#[.int .i64 0, .int .i64 (m - 1), .int .i64 x, .int .i64 y] : Array Value)[r.toNat]? = some (.int .i64 v) ∧ 0 ≤ v ∧ v < m := by
  rcases (show r = 0 ∨ r = 1 ∨ r = 2 ∨ r = 3 by omega) with rfl | rfl | rfl | rfl
  · exact ⟨0, rfl, by omega, by omega⟩
  · exact ⟨m - 1, rfl, by omega, by omega⟩
  · exact ⟨x, rfl, by omega, by omega⟩
  · exact ⟨y, rfl, by omega, by omega⟩

set_option maxHeartbeats 4000000 in
theorem inner_ret (R : Nat) (n : Int) (ad ln ow lo hi nw : Int) (da : Option Addr) (dn dc : Nat) (ea : Option Addr) (en ec : Nat) (w : World) (h : Rb w R n) (hn : n ≤ 900000000) (a0 : -1000000 ≤ ad) (a1 : ad ≤ 1000000) :
    Calls Tryz.prog 87 #[.pointer (some ⟨R, 0, none⟩), .agg #[.int .i64 ad, .int .i64 ln, .int .i64 ow, .int .i64 lo, .int .i64 hi, .slice da dn dc, .int .i64 nw, .slice ea en ec]] w fun e w' => (∃ r, e = .returned (.int .i64 r) ∧ (inB ln 0 16 = true → insB ad ln r = true) ∧ -1000000 ≤ r ∧ r ≤ 2000000) ∧ Apart R w w' ∧ Rb w' R (n + 3) := by
  have hR := h.lt
  have hX := Box.new w #[.int .i64 ad, .int .i64 ln, .int .i64 ow, .int .i64 lo, .int .i64 hi, .slice da dn dc, .int .i64 nw, .slice ea en ec] 26
  have HA : Apart R w (w.alloc (.cells #[.int .i64 ad, .int .i64 ln, .int .i64 ow, .int .i64 lo, .int .i64 hi, .slice da dn dc, .int .i64 nw, .slice ea en ec] 26)) := ap_alloc (ap_refl R w) _
  have HR := h.below (bl_alloc (bl_refl w) (.cells #[.int .i64 ad, .int .i64 ln, .int .i64 ow, .int .i64 lo, .int .i64 hi, .slice da dn dc, .int .i64 nw, .slice ea en ec] 26))
  by_cases hl : inB ln 0 16 = true
  · obtain ⟨l0, l1⟩ := inB_true hl
    obtain ⟨z0, z1⟩ := sz_bd ln l0
    have hsz := l2Size_ret ln
    have hI : insB ad ln = fun r => decide (ad ≤ r) && decide (r < ad + sz ln) := rfl
    generalize sz ln = m at hsz z0 z1 hI
    have hm0 : ¬ m = 0 := by omega
    go_enter Tryz.func87, Tryz.ntmps87
    go_wp2_with (first
      | (go_at_call 102; refine (l1In_ret _ _ _ _).mono ?_; rintro e w' ⟨rfl, rfl⟩)
      | (go_at_call 95; refine (hsz _ l0 l1).mono ?_; rintro e w' ⟨rfl, rfl⟩))
    clear hsz
    have hw1 : IntKind.i64.wrap (m - 1) = m - 1 := wrap_of _ (by omega) (by omega)
    refine wp_region_held_drew (S := (fun w' => Box w' w.heap.size #[.int .i64 ad, .int .i64 ln, .int .i64 ow, .int .i64 lo, .int .i64 hi, .slice da dn dc, .int .i64 nw, .slice ea en ec])) (by kernel_rfl) ?_ (fun hHeld => ?_)
    · exact Box.below hX (bl_drew (bl_refl _))
    have HA := ap_trans HA (ap_of_bl (bl_drew (bl_refl _)))
    have HR := HR.below (bl_drew (bl_refl _))
    refine takeL 0 15 ?_ ?_ hHeld ?_
    rotate_left
    · (intro w hSw; (try dsimp only at hSw); simp only [Box] at hSw; go_simp; try with_reducible rfl)
    simp only [Act.put, puA, puB, puC]
    refine takeL 1 16 ?_ ?_ hHeld ?_
    rotate_left
    · (intro w hSw; (try dsimp only at hSw); simp only [Box] at hSw; go_simp; try with_reducible rfl)
    simp only [Act.put, puA, puB, puC]
    refine takeL 2 17 ?_ ?_ hHeld ?_
    rotate_left
    · (intro w hSw; (try dsimp only at hSw); simp only [Box] at hSw; go_simp; try with_reducible rfl)
    simp only [Act.put, puA, puB, puC]
    refine takeL 3 18 ?_ ?_ hHeld ?_
    rotate_left
    · (intro w hSw; (try dsimp only at hSw); simp only [Box] at hSw; go_simp; try with_reducible rfl)
    simp only [Act.put, puA, puB, puC]
    refine takeL 4 19 ?_ ?_ hHeld ?_
    rotate_left
    · (intro w hSw; (try dsimp only at hSw); simp only [Box] at hSw; go_simp; try with_reducible rfl)
    simp only [Act.put, puA, puB, puC]
    refine takeL 5 20 ?_ ?_ hHeld ?_
    rotate_left
    · (intro w hSw; (try dsimp only at hSw); simp only [Box] at hSw; go_simp; try with_reducible rfl)
    simp only [Act.put, puA, puB, puC]
    refine takeL 7 22 ?_ ?_ hHeld ?_
    rotate_left
    · (intro w hSw; (try dsimp only at hSw); simp only [Box] at hSw; go_simp; try with_reducible rfl)
    simp only [Act.put, puA, puB, puC]
    refine takeL 9 24 ?_ ?_ hHeld ?_
    rotate_left
    · (intro w hSw; (try dsimp only at hSw); simp only [Box] at hSw; go_simp; try with_reducible rfl)
    simp only [Act.put, puA, puB, puC]
    refine takeL 12 27 ?_ ?_ hHeld ?_
    rotate_left
    · (intro w hSw; (try dsimp only at hSw); simp only [Box] at hSw; go_simp; try with_reducible rfl)
    simp only [Act.put, puA, puB, puC]
    refine wpAnyH_ready (rs := [6]) (by kernel_rfl) (by simp) (AllReadyH.cons rfl (fun K hK => ?_) (AllReadyH.nil))
    go_simp
    go_wp2_with ((go_at_call 42; refine (pick_rb R _ m _ HR (by omega) (by omega) (by omega)).mono ?_; rintro e wx ⟨⟨x, rfl, x0, x1⟩, ha, hr⟩))
    refine hK.out _ _ ?_ (fun hHeld1 => ?_)
    · exact Box.apart hHeld ha (by omega)
    clear hK K hHeld
    have hHeld := hHeld1
    clear hHeld1
    have HA := ap_trans HA ha
    clear ha HR
    have HR := hr
    clear hr
    have hs := HA.size
    refine wpAnyH_ready (rs := [8]) (by kernel_rfl) (by simp) (AllReadyH.cons rfl (fun K hK => ?_) (AllReadyH.nil))
    go_simp
    go_wp2_with ((go_at_call 42; refine (pick_rb R _ 3 _ HR (by omega) (by omega) (by omega)).mono ?_; rintro e wy ⟨⟨y, rfl, y0, y1⟩, ha, hr⟩))
    refine hK.out _ _ ?_ (fun hHeld1 => ?_)
    · exact Box.apart hHeld ha (by omega)
    clear hK K hHeld
    have hHeld := hHeld1
    clear hHeld1
    have HA := ap_trans HA ha
    clear ha HR
    have HR := hr
    clear hr
    have hs := HA.size
    refine takeL 10 25 ?_ ?_ hHeld ?_
    rotate_left
    · (intro w hSw; (try dsimp only at hSw); simp only [Box] at hSw; go_simp; try with_reducible rfl)
    simp only [Act.put, puA, puB, puC]
    refine wpAnyH_ready (rs := [11, 13]) (by kernel_rfl) (by simp) (AllReadyH.cons rfl (fun K hK => ?_) (AllReadyH.cons rfl (fun K hK => ?_) (AllReadyH.nil)))
    · skip
      go_simp
      have hHeld0 := hHeld
      refine hK.out _ _ ?_ (fun hHeld1 => ?_)
      · exact Box.below hHeld (bl_alloc (bl_refl _) _)
      clear hK K hHeld
      have hHeld := hHeld1
      clear hHeld1
      refine wpAnyH_alloc (fun C => ∀ r : Int, 0 ≤ r → r < 4 → ∃ v, C[r.toNat]? = some (.int .i64 v) ∧ 0 ≤ v ∧ v < m) (fun r r0 r1 => inner_pick r0 r1 z0 x0 x1 (tmod_bd y0 z0).1 (tmod_bd y0 z0).2) (fun C W hC hBl hBx => ?_)
      have HA := ap_trans HA (ap_of_bl hBl)
      have HR := HR.below hBl
      have hs := HA.size
      have hHeld := And.intro (Box.below hHeld0 hBl) hBx
      refine wpAnyH_ready (rs := [13]) (by kernel_rfl) (by simp) (AllReadyH.cons rfl (fun K hK => ?_) (AllReadyH.nil))
      go_simp
      go_wp2_with ((go_at_call 42; refine (pick_rb R _ 4 _ HR (by omega) (by omega) (by omega)).mono ?_; rintro e wz ⟨⟨z, rfl, z0', z1'⟩, ha, hr⟩))
      refine hK.out _ _ ?_ (fun hHeld1 => ?_)
      · exact ⟨Box.apart hHeld.1 ha (by omega), Box.apart hHeld.2 ha (by omega)⟩
      clear hK K hHeld
      have hHeld := hHeld1
      clear hHeld1
      have HA := ap_trans HA ha
      clear ha HR
      have HR := hr
      clear hr
      have hs := HA.size
      obtain ⟨v, hv, v0, v1⟩ := hC z z0' z1'
      have hw2 : IntKind.i64.wrap (ad + v) = ad + v := wrap_of _ (by omega) (by omega)
      refine takeL 14 29 ?_ ?_ hHeld ?_
      rotate_left
      · (intro w hSw; (try dsimp only at hSw); simp only [Box] at hSw; go_simp; try with_reducible rfl)
      simp only [Act.put, puA, puB, puC]
      refine takeL 15 30 ?_ ?_ hHeld ?_
      rotate_left
      · (intro w hSw; (try dsimp only at hSw); simp only [Box] at hSw; go_simp; try with_reducible rfl)
      simp only [Act.put, puA, puB, puC]
      refine takeL 16 31 ?_ ?_ hHeld ?_
      rotate_left
      · (intro w hSw; (try dsimp only at hSw); simp only [Box] at hSw; go_simp; try with_reducible rfl)
      simp only [Act.put, puA, puB, puC]
      refine takeL 17 4 ?_ ?_ hHeld ?_
      rotate_left
      · (intro w hSw; (try dsimp only at hSw); simp only [Box] at hSw; go_simp; try with_reducible rfl)
      simp only [Act.put, puA, puB, puC]
      refine wpAnyH_done (by kernel_rfl) ?_ _
      go_wp2
      go_ret
      exact ⟨⟨_, rfl, fun _ => by rw [hI]; simp; omega, by omega, by omega⟩, HA, HR.le (by omega)⟩
    · skip
      go_simp
      go_wp2_with ((go_at_call 42; refine (pick_rb R _ 4 _ HR (by omega) (by omega) (by omega)).mono ?_; rintro e wz ⟨⟨z, rfl, z0', z1'⟩, ha, hr⟩))
      refine hK.out _ _ ?_ (fun hHeld1 => ?_)
      · exact Box.apart hHeld ha (by omega)
      clear hK K hHeld
      have hHeld := hHeld1
      clear hHeld1
      have HA := ap_trans HA ha
      clear ha HR
      have HR := hr
      clear hr
      have hs := HA.size
      refine wpAnyH_ready (rs := [11]) (by kernel_rfl) (by simp) (AllReadyH.cons rfl (fun K hK => ?_) (AllReadyH.nil))
      go_simp
      have hHeld0 := hHeld
      refine hK.out _ _ ?_ (fun hHeld1 => ?_)
      · exact Box.below hHeld (bl_alloc (bl_refl _) _)
      clear hK K hHeld
      have hHeld := hHeld1
      clear hHeld1
      refine wpAnyH_alloc (fun C => ∀ r : Int, 0 ≤ r → r < 4 → ∃ v, C[r.toNat]? = some (.int .i64 v) ∧ 0 ≤ v ∧ v < m) (fun r r0 r1 => inner_pick r0 r1 z0 x0 x1 (tmod_bd y0 z0).1 (tmod_bd y0 z0).2) (fun C W hC hBl hBx => ?_)
      have HA := ap_trans HA (ap_of_bl hBl)
      have HR := HR.below hBl
      have hs := HA.size
      have hHeld := And.intro (Box.below hHeld0 hBl) hBx
      obtain ⟨v, hv, v0, v1⟩ := hC z z0' z1'
      have hw2 : IntKind.i64.wrap (ad + v) = ad + v := wrap_of _ (by omega) (by omega)
      refine takeL 14 29 ?_ ?_ hHeld ?_
      rotate_left
      · (intro w hSw; (try dsimp only at hSw); simp only [Box] at hSw; go_simp; try with_reducible rfl)
      simp only [Act.put, puA, puB, puC]
      refine takeL 15 30 ?_ ?_ hHeld ?_
      rotate_left
      · (intro w hSw; (try dsimp only at hSw); simp only [Box] at hSw; go_simp; try with_reducible rfl)
      simp only [Act.put, puA, puB, puC]
      refine takeL 16 31 ?_ ?_ hHeld ?_
      rotate_left
      · (intro w hSw; (try dsimp only at hSw); simp only [Box] at hSw; go_simp; try with_reducible rfl)
      simp only [Act.put, puA, puB, puC]
      refine takeL 17 4 ?_ ?_ hHeld ?_
      rotate_left
      · (intro w hSw; (try dsimp only at hSw); simp only [Box] at hSw; go_simp; try with_reducible rfl)
      simp only [Act.put, puA, puB, puC]
      refine wpAnyH_done (by kernel_rfl) ?_ _
      go_wp2
      go_ret
      exact ⟨⟨_, rfl, fun _ => by rw [hI]; simp; omega, by omega, by omega⟩, HA, HR.le (by omega)⟩
  · have hl' : inB ln 0 16 = false := by simpa using hl
    go_enter Tryz.func87, Tryz.ntmps87
    go_wp2_with ((go_at_call 102; refine (l1In_ret _ _ _ _).mono ?_; rintro e w' ⟨rfl, rfl⟩))
    go_ret
    exact ⟨⟨_, rfl, fun h => by simp [hl'] at h, by omega, by omega⟩, HA, HR.le (by omega)⟩
end Go.Proofs.YtcgjpmhjijmplaaGreatDoor

/- append of anything onto a slice that the call owns; the specification's l5PutDoor, walked. -/
namespace Go.Proofs.YtcgjpmhjijmplaaGreatDoor
open Go.ChangeShapes Go.WideShapes Go.ChangeAt Go.RowKit

/-- Where a door goes: behind k others. -/
def putD (k : Nat) (ds : List Dr) (d : Dr) : List Dr := ds.take k ++ [d] ++ ds.drop k
theorem own_put {W : World} {base n : Nat} {T : TypeId} {v : Value} {ds : List Dr} {d : Dr} (hn : n ≤ ds.length) (own : W.ownsRow base T 4 v (0 + n + 1 + (ds.length - n)) ([] ++ flatD (ds.take n) ++ flatD [d] ++ flatD (ds.drop n))) :
    ∃ g cap, v = .slice (some ⟨g, 0, none⟩) (ds.length + 1) cap ∧ base ≤ g ∧ g < W.heap.size ∧ ds.length + 1 ≤ cap ∧ cap ≤ maxLen ∧ DrCells W g 0 (putD n ds d) := by
  have e1 : 0 + n + 1 + (ds.length - n) = ds.length + 1 := by omega
  have e2 : [] ++ flatD (ds.take n) ++ flatD [d] ++ flatD (ds.drop n) = flatD (putD n ds d) := by
    simp only [putD, flatD_append, List.nil_append]
  have e3 : (putD n ds d).length = ds.length + 1 := by simp [putD]; omega
  rw [e1, e2] at own
  obtain ⟨g, cap, rfl, h1, h2, h3, h4⟩ := own_form own (by omega)
  refine ⟨g, cap, rfl, h1, h2, h3, h4, ?_⟩
  rw [← e3] at own
  exact drCells_of_own own rfl
theorem far0 {W : World} {n : Nat} {C : Array Value} (bx : Box W n C) : ∀ k, (Value.slice (some ⟨W.heap.size, 0, none⟩) 0 0).ownBlock = some k → n ≠ k := by
  intro k hk
  simp [Value.ownBlock] at hk
  have := bx.1
  omega
end Go.Proofs.YtcgjpmhjijmplaaGreatDoor
