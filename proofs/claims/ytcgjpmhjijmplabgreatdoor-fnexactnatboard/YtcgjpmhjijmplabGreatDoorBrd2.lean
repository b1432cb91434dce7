/- The board of the specification. -/
import Derived.Test.YtcgjpmhjijmplabGreatDoorBrd1
import Derived.Test.YtcgjpmhjijmplabGreatDoorMem
import Derived.Laws.IdiomStrings
import Derived.Deep.DeepCutAuto
namespace Go.Proofs.YtcgjpmhjijmplabGreatDoor
open Go.ChangeShapes Go.WideShapes Go.ChangeAt Go.RowKit Go.Maps

theorem conv1 (w : World) (g x c : Nat) (hx : x < 256) (z : Int) (hz : z = x) (hc : w.cell? ⟨g, 0, none⟩ = some (.int .u8 z)) : (convert 80 9 (.slice (some ⟨g, 0, none⟩) 1 c)).run Tryz.prog w = .ok (.string (St [UInt8.ofNat x])) w :=
  run_convert_bytes_back w _ _ 5 ⟨g, 0, none⟩ c [UInt8.ofNat x] Tryz.underlying80 Tryz.underlying5 Tryz.underlying9 (fun j hj => by
    obtain rfl : j = 0 := by simpa using hj
    simpa [Addr.add, Nat.mod_eq_of_lt hx, hz] using hc)
theorem wrapI {n : Int} (h0 : -1000000000 ≤ n) (h1 : n ≤ 1000000000) : IntKind.i64.wrap n = n := by
  simp [IntKind.wrap, IntKind.bits, IntKind.signed]
  omega
theorem cat_facts {l m r : List UInt8} (h : r = l ++ m) (hl : r.length ≤ 100000) : (9223372036854775807 < l.length + m.length) = False ∧ St l ++ St m = St r := by
  subst h
  rw [List.length_append] at hl
  exact ⟨eq_false (by omega), st_app l m⟩
theorem dec_len {u : Nat} (h : u ≤ 100000000) : (Lib.decDigits u).length ≤ 100000 := by
  have := Lib.nDigits_le20 u (by omega)
  rw [Lib.decDigits_length]
  omega
theorem dec_small {u : Nat} (h : u < 10) : Lib.decDigits u = [UInt8.ofNat (48 + u)] := by rw [Lib.decDigits, dif_pos h]
theorem dec_big {u : Nat} (h : ¬ u < 10) : Lib.decDigits u = Lib.decDigits (u / 10) ++ [UInt8.ofNat (48 + u % 10)] := by rw [Lib.decDigits, dif_neg h]

set_option maxRecDepth 20000 in
theorem l4Dec_small (u : Nat) (h : u < 10) (w : World) : Calls Tryz.prog 39 #[.int .i64 u] w fun e w' => e = .returned (.string (St (Lib.decDigits u))) ∧ Below w.heap.size w w' := by
  have h' : (u : Int) < 10 := by omega
  have hcv := conv1 (w.alloc (.cells #[.int .u8 (48 + (u : Int))] 5)) w.heap.size (48 + u) 1 (by omega) (48 + (u : Int)) (by omega) (by simp)
  obtain ⟨s, hs⟩ : ∃ s, St [UInt8.ofNat (48 + u)] = s := ⟨_, rfl⟩
  rw [hs] at hcv
  replace hs : Hid (St [UInt8.ofNat (48 + u)] = s) := hs
  go_enter Tryz.func39, Tryz.ntmps39
  go_wp2_with fail
  go_ret
  exact ⟨by rw [dec_small h, hs.out]; rfl, bl_alloc (bl_refl w) _⟩
set_option maxRecDepth 20000 in
theorem l4Dec_ret (u : Nat) (hu : u ≤ 100000000) (w : World) : Calls Tryz.prog 39 #[.int .i64 u] w fun e w' => e = .returned (.string (St (Lib.decDigits u))) ∧ Below w.heap.size w w' := by
  induction u using Nat.strongRecOn generalizing w with
  | _ u ih =>
  by_cases h : u < 10
  · exact l4Dec_small u h w
  · have h' : ¬ (u : Int) < 10 := by omega
    go_enter Tryz.func39, Tryz.ntmps39
    obtain ⟨q, hq⟩ : ∃ q, q = u / 10 := ⟨_, rfl⟩
    obtain ⟨r, hr⟩ : ∃ r, r = u % 10 := ⟨_, rfl⟩
    obtain ⟨c, hc⟩ : ∃ c, c = 48 + r := ⟨_, rfl⟩
    have hq1 : Hid (q < u) := (by omega : q < u)
    have hq2 : Hid (q ≤ 100000000) := (by omega : q ≤ 100000000)
    have e1 : IntKind.i64.wrap ((u : Int) / 10) = (q : Int) := by
      rw [wrapI (by omega) (by omega)]
      omega
    have e2 : (u : Int).tmod 10 = (r : Int) := by rw [hr]; rfl
    have e3 : IntKind.i64.wrap (48 + (r : Int)) = (c : Int) := by
      rw [wrapI (by omega) (by omega)]
      omega
    have e4 : IntKind.u8.wrap (c : Int) = (c : Int) := by
      show (c : Int) % 256 = _
      omega
    have hd : Hid (Lib.decDigits u = Lib.decDigits q ++ [UInt8.ofNat c]) := by
      show _ = _
      rw [dec_big h, hc, hr, hq]
    have hc2 : Hid (c < 256) := (by omega : c < 256)
    clear hq hr hc
    obtain ⟨m, hm⟩ : ∃ m, [UInt8.ofNat c] = m := ⟨_, rfl⟩
    rw [hm] at hd
    obtain ⟨k1, j1⟩ := cat_facts hd.out (dec_len hu)
    replace hm : Hid ([UInt8.ofNat c] = m) := hm
    go_upto_region 3 with fail
    refine wp_region_held_drew (S := (fun _ => True)) (by kernel_rfl) ?_ (fun hHeld => ?_)
    · trivial
    have hB := bl_drew (bl_refl w)
    generalize w.drew = W0 at hB hHeld ⊢
    refine takeL 0 10 ?_ ?_ hHeld ?_
    rotate_left
    · (intro w hSw; (try dsimp only at hSw); skip; go_simp; try with_reducible rfl)
    simp only [Act.put, puA, puB, puC]
    refine takeL 1 11 ?_ ?_ hHeld ?_
    rotate_left
    · (intro w hSw; (try dsimp only at hSw); skip; go_simp; try with_reducible rfl)
    simp only [Act.put, puA, puB, puC]
    refine takeL 3 13 ?_ ?_ hHeld ?_
    rotate_left
    · (intro w hSw; (try dsimp only at hSw); skip; go_simp; try with_reducible rfl)
    simp only [Act.put, puA, puB, puC]
    refine takeL 4 14 ?_ ?_ hHeld ?_
    rotate_left
    · (intro w hSw; (try dsimp only at hSw); skip; go_simp; try with_reducible rfl)
    simp only [Act.put, puA, puB, puC]
    refine takeL 5 15 ?_ ?_ hHeld ?_
    rotate_left
    · (intro w hSw; (try dsimp only at hSw); skip; go_simp; try with_reducible rfl)
    simp only [Act.put, puA, puB, puC]
    refine takeL 6 16 ?_ ?_ hHeld ?_
    rotate_left
    · (intro w hSw; (try dsimp only at hSw); skip; go_simp; try with_reducible rfl)
    simp only [Act.put, puA, puB, puC]
    refine wpAnyH_ready (rs := [2, 7]) (by kernel_rfl) (by simp) (AllReadyH.cons rfl (fun K hK => ?_) (AllReadyH.cons rfl (fun K hK => ?_) (AllReadyH.nil)))
    · skip
      refine step_callg 12 39 rfl (by kernel_rfl) (ih q hq1.out hq2.out _) (by kernel_rfl) ?_
      rintro e Wc ⟨rfl, hb⟩
      refine ⟨_, rfl, ?_⟩
      simp only [Act.put, puA, puB, puC]
      replace hB := bl_trans hB hb
      clear hb
      refine hK.out _ _ ?_ (fun hHeld1 => ?_)
      · trivial
      clear hK K hHeld
      have hHeld := hHeld1
      clear hHeld1
      refine wpAnyH_ready (rs := [7]) (by kernel_rfl) (by simp) (AllReadyH.cons rfl (fun K hK => ?_) (AllReadyH.nil))
      go_simp
      skip
      refine hK.out _ _ ?_ (fun hHeld1 => ?_)
      · trivial
      clear hK K hHeld
      have hHeld := hHeld1
      clear hHeld1
      replace hB := bl_alloc hB (.cells #[.int .u8 (c : Int)] 5)
      have hcl := Box.new Wc #[.int .u8 (c : Int)] 5
      generalize Wc.alloc (.cells #[.int .u8 (c : Int)] 5) = Wb at hB hcl hHeld ⊢
      generalize Wc.heap.size = g at hB hcl hHeld ⊢
      refine wpAnyH_ready (rs := [8]) (by kernel_rfl) (by simp) (AllReadyH.cons rfl (fun K hK => ?_) (AllReadyH.nil))
      go_simp
      have hcv := conv1 Wb g c 1 hc2.out _ rfl (hcl.2 0)
      rw [hm.out] at hcv
      go_simp
      refine hK.out _ _ ?_ (fun hHeld1 => ?_)
      · trivial
      clear hK K hHeld
      have hHeld := hHeld1
      clear hHeld1
      clear hcv
      refine takeL 9 19 ?_ ?_ hHeld ?_
      rotate_left
      · (intro w hSw; (try dsimp only at hSw); skip; go_simp; try with_reducible rfl)
      simp only [Act.put, puA, puB, puC]
      refine takeL 10 2 ?_ ?_ hHeld ?_
      rotate_left
      · (intro w hSw; (try dsimp only at hSw); skip; go_simp; try with_reducible rfl)
      simp only [Act.put, puA, puB, puC]
      refine wpAnyH_done (by kernel_rfl) ?_ _
      clear hHeld
      go_wp2_with fail
      go_ret
      exact ⟨rfl, hB⟩
    · skip
      go_simp
      skip
      refine hK.out _ _ ?_ (fun hHeld1 => ?_)
      · trivial
      clear hK K hHeld
      have hHeld := hHeld1
      clear hHeld1
      replace hB := bl_alloc hB (.cells #[.int .u8 (c : Int)] 5)
      have hcl := Box.new W0 #[.int .u8 (c : Int)] 5
      generalize W0.alloc (.cells #[.int .u8 (c : Int)] 5) = Wb at hB hcl hHeld ⊢
      generalize W0.heap.size = g at hB hcl hHeld ⊢
      refine wpAnyH_ready (rs := [2, 8]) (by kernel_rfl) (by simp) (AllReadyH.cons rfl (fun K hK => ?_) (AllReadyH.cons rfl (fun K hK => ?_) (AllReadyH.nil)))
      · skip
        refine step_callg 12 39 rfl (by kernel_rfl) (ih q hq1.out hq2.out _) (by kernel_rfl) ?_
        rintro e Wc ⟨rfl, hb⟩
        refine ⟨_, rfl, ?_⟩
        simp only [Act.put, puA, puB, puC]
        replace hB := bl_trans hB hb
        replace hcl := hcl.below hb
        clear hb
        refine hK.out _ _ ?_ (fun hHeld1 => ?_)
        · trivial
        clear hK K hHeld
        have hHeld := hHeld1
        clear hHeld1
        refine wpAnyH_ready (rs := [8]) (by kernel_rfl) (by simp) (AllReadyH.cons rfl (fun K hK => ?_) (AllReadyH.nil))
        go_simp
        have hcv := conv1 Wc g c 1 hc2.out _ rfl (hcl.2 0)
        rw [hm.out] at hcv
        go_simp
        refine hK.out _ _ ?_ (fun hHeld1 => ?_)
        · trivial
        clear hK K hHeld
        have hHeld := hHeld1
        clear hHeld1
        clear hcv
        refine takeL 9 19 ?_ ?_ hHeld ?_
        rotate_left
        · (intro w hSw; (try dsimp only at hSw); skip; go_simp; try with_reducible rfl)
        simp only [Act.put, puA, puB, puC]
        refine takeL 10 2 ?_ ?_ hHeld ?_
        rotate_left
        · (intro w hSw; (try dsimp only at hSw); skip; go_simp; try with_reducible rfl)
        simp only [Act.put, puA, puB, puC]
        refine wpAnyH_done (by kernel_rfl) ?_ _
        clear hHeld
        go_wp2_with fail
        go_ret
        exact ⟨rfl, hB⟩
      · skip
        go_simp
        have hcv := conv1 Wb g c 1 hc2.out _ rfl (hcl.2 0)
        rw [hm.out] at hcv
        go_simp
        refine hK.out _ _ ?_ (fun hHeld1 => ?_)
        · trivial
        clear hK K hHeld
        have hHeld := hHeld1
        clear hHeld1
        clear hcv
        refine wpAnyH_ready (rs := [2]) (by kernel_rfl) (by simp) (AllReadyH.cons rfl (fun K hK => ?_) (AllReadyH.nil))
        refine step_callg 12 39 rfl (by kernel_rfl) (ih q hq1.out hq2.out _) (by kernel_rfl) ?_
        rintro e Wc ⟨rfl, hb⟩
        refine ⟨_, rfl, ?_⟩
        simp only [Act.put, puA, puB, puC]
        replace hB := bl_trans hB hb
        clear hb
        refine hK.out _ _ ?_ (fun hHeld1 => ?_)
        · trivial
        clear hK K hHeld
        have hHeld := hHeld1
        clear hHeld1
        refine takeL 9 19 ?_ ?_ hHeld ?_
        rotate_left
        · (intro w hSw; (try dsimp only at hSw); skip; go_simp; try with_reducible rfl)
        simp only [Act.put, puA, puB, puC]
        refine takeL 10 2 ?_ ?_ hHeld ?_
        rotate_left
        · (intro w hSw; (try dsimp only at hSw); skip; go_simp; try with_reducible rfl)
        simp only [Act.put, puA, puB, puC]
        refine wpAnyH_done (by kernel_rfl) ?_ _
        clear hHeld
        go_wp2_with fail
        go_ret
        exact ⟨rfl, hB⟩
theorem l4Dec_i {n : Int} (h0 : 0 ≤ n) (h1 : n ≤ 100000000) (w : World) : Calls Tryz.prog 39 #[.int .i64 n] w fun e w' => e = .returned (.string (St (Lib.itoa n))) ∧ Below w.heap.size w w' := by
  obtain ⟨u, rfl⟩ := Int.eq_ofNat_of_zero_le h0
  rw [Lib.itoa_nonneg]
  exact l4Dec_ret u (by omega) w
set_option maxRecDepth 20000 in
theorem l4At_ret {a p : Int} (h0 : 0 ≤ a) (h1 : a ≤ 1000000) (h2 : 0 ≤ p) (h3 : p ≤ 1000000) (w : World) : Calls Tryz.prog 40 #[.int .i64 a, .int .i64 p] w fun e w' => e = .returned (.string (St (atL a p))) ∧ Below w.heap.size w w' := by
  have hal := atL_len h0 h1 h2 h3
  obtain ⟨q, hq⟩ : ∃ q, a / 256 = q := ⟨_, rfl⟩
  obtain ⟨r, hr⟩ : ∃ r, a % 256 = r := ⟨_, rfl⟩
  have e1 : IntKind.i64.wrap (a.tdiv 256) = q := by
    rw [Int.tdiv_eq_ediv_of_nonneg h0, wrapI (by omega) (by omega)]
    exact hq
  have e2 : a.tmod 256 = r := by
    rw [Int.tmod_eq_emod_of_nonneg h0]
    exact hr
  have e3 : IntKind.i64.wrap (a / 256) = q := by rw [wrapI (by omega) (by omega)]; exact hq
  obtain ⟨x, hx⟩ : ∃ x, Lib.itoa q = x := ⟨_, rfl⟩
  obtain ⟨y, hy⟩ : ∃ x, Lib.itoa r = x := ⟨_, rfl⟩
  obtain ⟨z, hz⟩ : ∃ x, Lib.itoa p = x := ⟨_, rfl⟩
  have H1 : Hid (∀ w, Calls Tryz.prog 39 #[.int .i64 q] w fun e w' => e = .returned (.string (St x)) ∧ Below w.heap.size w w') := fun w => by rw [← hx]; exact l4Dec_i (by omega) (by omega) w
  have H2 : Hid (∀ w, Calls Tryz.prog 39 #[.int .i64 r] w fun e w' => e = .returned (.string (St y)) ∧ Below w.heap.size w w') := fun w => by rw [← hy]; exact l4Dec_i (by omega) (by omega) w
  have H3 : Hid (∀ w, Calls Tryz.prog 39 #[.int .i64 p] w fun e w' => e = .returned (.string (St z)) ∧ Below w.heap.size w w') := fun w => by rw [← hz]; exact l4Dec_i (by omega) (by omega) w
  have hA : atL a p = x ++ (46 :: (y ++ (58 :: z))) := by rw [atL, hq, hr, hx, hy, hz]
  rw [hA] at hal
  simp only [List.length_append, List.length_cons] at hal
  obtain ⟨t1, ht1⟩ : ∃ t, t = x ++ [46] := ⟨_, rfl⟩
  obtain ⟨t2, ht2⟩ : ∃ t, t = t1 ++ y := ⟨_, rfl⟩
  obtain ⟨t3, ht3⟩ : ∃ t, t = t2 ++ [58] := ⟨_, rfl⟩
  obtain ⟨t4, ht4⟩ : ∃ t, t = t3 ++ z := ⟨_, rfl⟩
  have l1 : t1.length = x.length + 1 := by rw [ht1]; simp
  have l2 : t2.length = t1.length + y.length := by rw [ht2]; simp
  have l3 : t3.length = t2.length + 1 := by rw [ht3]; simp
  have l4 : t4.length = t3.length + z.length := by rw [ht4]; simp
  have f1 := cat_facts ht1 (by omega)
  have f2 := cat_facts ht2 (by omega)
  have f3 := cat_facts ht3 (by omega)
  have f4 := cat_facts ht4 (by omega)
  rw [hA, show x ++ (46 :: (y ++ (58 :: z))) = t4 by rw [ht4, ht3, ht2, ht1]; simp]
  clear hA hal hq hr hx hy hz l1 l2 l3 l4 ht1 ht2 ht3 ht4
  obtain ⟨k1, j1⟩ := f1
  obtain ⟨k2, j2⟩ := f2
  obtain ⟨k3, j3⟩ := f3
  obtain ⟨k4, j4⟩ := f4
  simp only [List.length_cons, List.length_nil] at k1 k3
  go_enter Tryz.func40, Tryz.ntmps40
  go_wp2_with fail
  refine (H1.out _).mono ?_
  rintro e w1 ⟨rfl, b1⟩
  go_wp2_with fail
  refine (H2.out _).mono ?_
  rintro e w2 ⟨rfl, b2⟩
  go_wp2_with fail
  refine (H3.out _).mono ?_
  rintro e w3 ⟨rfl, b3⟩
  go_wp2_with fail
  go_ret
  exact ⟨rfl, bl_trans (bl_trans b1 b2) b3⟩
end Go.Proofs.YtcgjpmhjijmplabGreatDoor
