/- The program's small functions on the way out, walked. -/
import Derived.Test.YtcgjpmhjijmplaaGreatDoorOutM
import Derived.Test.YtcgjpmhjijmplaaGreatDoorJoinG
import Derived.Test.YtcgjpmhjijmplaaGreatDoorBook
namespace Go.Proofs.YtcgjpmhjijmplaaGreatDoor
open Go.ChangeShapes Go.WideShapes Go.ChangeAt Go.RowKit Go.Maps

theorem goesOut_ret (ad ln ow lo hi nw : Int) (da : Option Addr) (dn dc : Nat) (ea : Option Addr) (en ec : Nat) (k a ap b bp : Int) (w : World) (l0 : 0 ≤ ln) (l1 : ln ≤ 16) (a0 : 0 ≤ ad) (a1 : ad ≤ 65535) : Calls Tryz.prog 97 #[.agg #[.int .i64 ad, .int .i64 ln, .int .i64 ow, .int .i64 lo, .int .i64 hi, .slice da dn dc, .int .i64 nw, .slice ea en ec], .agg #[.int .i64 k, .int .i64 a, .int .i64 ap, .int .i64 b, .int .i64 bp]] w fun e w' => e = .returned (.bool (goesB ad ln ow a b)) ∧ Below w.heap.size w w' := by
  have hB := bl_alloc (bl_alloc (bl_refl w) (.cells #[.int .i64 ad, .int .i64 ln, .int .i64 ow, .int .i64 lo, .int .i64 hi, .slice da dn dc, .int .i64 nw, .slice ea en ec] 26)) (.cells #[.int .i64 k, .int .i64 a, .int .i64 ap, .int .i64 b, .int .i64 bp] 32)
  have x1 := (Box.new w #[.int .i64 ad, .int .i64 ln, .int .i64 ow, .int .i64 lo, .int .i64 hi, .slice da dn dc, .int .i64 nw, .slice ea en ec] 26).below (bl_alloc (bl_refl _) (.cells #[.int .i64 k, .int .i64 a, .int .i64 ap, .int .i64 b, .int .i64 bp] 32))
  have x2 := Box.new (w.alloc (.cells #[.int .i64 ad, .int .i64 ln, .int .i64 ow, .int .i64 lo, .int .i64 hi, .slice da dn dc, .int .i64 nw, .slice ea en ec] 26)) #[.int .i64 k, .int .i64 a, .int .i64 ap, .int .i64 b, .int .i64 bp] 32
  simp only [World.size_alloc] at x2
  go_enter Tryz.func97, Tryz.ntmps97
  go_wp2_with fail
  refine (isInside_ret _ _ _ _ _ _ _ _ _ _ _ _ _ _ l0 l1 a0 a1).mono ?_
  rintro e w1 ⟨rfl, hb1⟩
  replace hB := bl_trans hB hb1
  have y1 := (x1.below hb1).2
  have y2 := (x2.below hb1).2
  clear hb1
  by_cases hi : insB ad ln a = true
  · go_wp2_with fail
    refine (isPeer_ret _ _ _ _ _ _ _ _ _ _ _ _ _ _ l0 l1 a0 a1).mono ?_
    rintro e w2 ⟨rfl, hb2⟩
    go_wp2
    go_ret
    exact ⟨ret_bool (by simp [goesB, hi]), bl_trans hB hb2⟩
  · have hi' : insB ad ln a = false := by simpa using hi
    go_wp2
    go_ret
    exact ⟨ret_bool (by simp [goesB, hi']), hB⟩
noncomputable def mayOut (ad ln ow lo hi nw : Int) (ds : List Dr) (es : List En) (k a ap b bp : Int) : Int :=
  if bookB ad ln ow lo hi nw ds es = true then (if flowB k a ap b bp = true then (if goesB ad ln ow a b = true then 0 else 3) else 2) else 1
set_option maxHeartbeats 2000000 in
theorem mayOut_ret (ad ln ow lo hi nw : Int) (da : Option Addr) (dn dc : Nat) (ea : Option Addr) (en ec : Nat) (k a ap b bp : Int) (ds : List Dr) (es : List En) (w : World) (hD : DoorsAt w da dn ds) (hE : EntriesAt w ea en es) :
    Calls Tryz.prog 96 #[.agg #[.int .i64 ad, .int .i64 ln, .int .i64 ow, .int .i64 lo, .int .i64 hi, .slice da dn dc, .int .i64 nw, .slice ea en ec], .agg #[.int .i64 k, .int .i64 a, .int .i64 ap, .int .i64 b, .int .i64 bp], .func (.func 97) #[] #[]] w fun e w' => e = .returned (errV (mayOut ad ln ow lo hi nw ds es k a ap b bp)) ∧ Below w.heap.size w w' := by
  have hb0 := bl_alloc (bl_alloc (bl_refl w) (.cells #[.int .i64 ad, .int .i64 ln, .int .i64 ow, .int .i64 lo, .int .i64 hi, .slice da dn dc, .int .i64 nw, .slice ea en ec] 26)) (.cells #[.int .i64 k, .int .i64 a, .int .i64 ap, .int .i64 b, .int .i64 bp] 32)
  have x1 := (Box.new w #[.int .i64 ad, .int .i64 ln, .int .i64 ow, .int .i64 lo, .int .i64 hi, .slice da dn dc, .int .i64 nw, .slice ea en ec] 26).below (bl_alloc (bl_refl _) (.cells #[.int .i64 k, .int .i64 a, .int .i64 ap, .int .i64 b, .int .i64 bp] 32))
  have x2 := Box.new (w.alloc (.cells #[.int .i64 ad, .int .i64 ln, .int .i64 ow, .int .i64 lo, .int .i64 hi, .slice da dn dc, .int .i64 nw, .slice ea en ec] 26)) #[.int .i64 k, .int .i64 a, .int .i64 ap, .int .i64 b, .int .i64 bp] 32
  simp only [World.size_alloc] at x2
  have H1 : Hid (Calls Tryz.prog _ _ _ _) := implBook_ret ad ln ow lo hi nw da dn dc ea en ec ds es _ (hD.below hb0) (hE.below hb0)
  by_cases hk : bookB ad ln ow lo hi nw ds es = true
  · have hfr : frameB ad ln ow lo hi nw = true := by simp [bookB] at hk; exact hk.1.1
    obtain ⟨⟨l0, l1⟩, ⟨a0, a1⟩, _, _, _⟩ := frameB_true hfr
    go_enter Tryz.func96, Tryz.ntmps96
    go_wp2_with fail
    refine H1.out.mono ?_
    rintro e w1 ⟨rfl, hb1⟩
    have hB1 := bl_trans hb0 hb1
    have x1 := x1.below hb1
    have x2 := x2.below hb1
    have y1 := x1.2
    have y2 := x2.2
    clear hb0 hb1 H1
    by_cases hf : flowB k a ap b bp = true
    · go_wp2_with fail
      refine (implFlowOk_ret _ _ _ _ _ _).mono ?_
      rintro e w2 ⟨rfl, hb2⟩
      have hB2 := bl_trans hB1 hb2
      have x1 := x1.below hb2
      have x2 := x2.below hb2
      clear y1 y2
      have y1 := x1.2
      have y2 := x2.2
      go_wp2_with fail
      refine (goesOut_ret _ _ _ _ _ _ _ _ _ _ _ _ _ _ _ _ _ _ l0 l1 a0 a1).mono ?_
      rintro e w3 ⟨rfl, hb3⟩
      have hB3 := bl_trans hB2 hb3
      by_cases hc : goesB ad ln ow a b = true
      · go_wp2
        go_ret
        exact ⟨by simp [mayOut, errV, hk, hf, hc], hB3⟩
      · have hc' : goesB ad ln ow a b = false := by simpa using hc
        go_wp2
        go_ret
        exact ⟨by simp [mayOut, errV, hk, hf, hc'], hB3⟩
    · have hf' : flowB k a ap b bp = false := by simpa using hf
      go_wp2_with fail
      refine (implFlowOk_ret _ _ _ _ _ _).mono ?_
      rintro e w2 ⟨rfl, hb2⟩
      have hB2 := bl_trans hB1 hb2
      go_wp2
      go_ret
      exact ⟨by simp [mayOut, errV, hk, hf'], hB2⟩
  · have hk' : bookB ad ln ow lo hi nw ds es = false := by simpa using hk
    go_enter Tryz.func96, Tryz.ntmps96
    go_wp2_with fail
    refine H1.out.mono ?_
    rintro e w1 ⟨rfl, hb1⟩
    have hB1 := bl_trans hb0 hb1
    go_wp2
    go_ret
    exact ⟨by simp [mayOut, errV, hk'], hB1⟩

theorem fieldsSeat : Tryz.prog.underlying 88 = some (.struct (Tryz.prog.fieldsOf 88)) := by kernel_rfl
theorem stoodSeat : Tryz.prog.stoodInHeld 88 = false := by kernel_rfl
theorem guardSeat : Tryz.prog.eqGuardType Tryz.prog.depth 88 = false := by kernel_rfl
theorem run_eql_seat (w : World) (k a ap k' a' ap' : Int) : (binOp .eql 88 (.agg #[.int .i64 k, .int .i64 a, .int .i64 ap]) (.agg #[.int .i64 k', .int .i64 a', .int .i64 ap'])).run Tryz.prog w = .ok (.bool (k == k' && (a == a' && ap == ap'))) w := by
  rw [run_eql_struct]
  rw [show (10000:Nat) = 9999 + 1 from rfl, run_equalIn_agg _ _ _ _ _ fieldsSeat stoodSeat]
  have h3 := Tryz.underlying3
  simp only [Program.fieldsOf, Tryz.underlying88, Op.eqFields]
  simp [go_sem, h3]
  by_cases h1 : k = k' <;> by_cases h2 : a = a' <;> by_cases h3 : ap = ap' <;> simp [*]
set_option maxRecDepth 20000 in
set_option maxHeartbeats 2000000 in
theorem doorSends_ret (ad ln ow lo hi nw : Int) (da : Option Addr) (dn dc : Nat) (ea : Option Addr) (en ec : Nat) (d : Dr) (k a ap b bp : Int) (w : World) : Calls Tryz.prog 217 #[.agg #[.int .i64 d.k, .int .i64 d.o, .int .i64 d.i, .int .i64 d.p], .agg #[.int .i64 ad, .int .i64 ln, .int .i64 ow, .int .i64 lo, .int .i64 hi, .slice da dn dc, .int .i64 nw, .slice ea en ec], .agg #[.int .i64 k, .int .i64 a, .int .i64 ap, .int .i64 b, .int .i64 bp]] w fun e w' => e = .returned (.bool (sendsD k a ap d)) ∧ Below w.heap.size w w' := by
  have heq := run_eql_seat
  have hgf := guardSeat
  have hB := bl_alloc (bl_alloc (bl_alloc (bl_refl w) (.cells #[.int .i64 d.k, .int .i64 d.o, .int .i64 d.i, .int .i64 d.p] 85)) (.cells #[.int .i64 ad, .int .i64 ln, .int .i64 ow, .int .i64 lo, .int .i64 hi, .slice da dn dc, .int .i64 nw, .slice ea en ec] 26)) (.cells #[.int .i64 k, .int .i64 a, .int .i64 ap, .int .i64 b, .int .i64 bp] 32)
  have x1 := ((Box.new w #[.int .i64 d.k, .int .i64 d.o, .int .i64 d.i, .int .i64 d.p] 85).below (bl_alloc (bl_refl _) (.cells #[.int .i64 ad, .int .i64 ln, .int .i64 ow, .int .i64 lo, .int .i64 hi, .slice da dn dc, .int .i64 nw, .slice ea en ec] 26))).below (bl_alloc (bl_refl _) (.cells #[.int .i64 k, .int .i64 a, .int .i64 ap, .int .i64 b, .int .i64 bp] 32))
  have x2 := (Box.new (w.alloc (.cells #[.int .i64 d.k, .int .i64 d.o, .int .i64 d.i, .int .i64 d.p] 85)) #[.int .i64 ad, .int .i64 ln, .int .i64 ow, .int .i64 lo, .int .i64 hi, .slice da dn dc, .int .i64 nw, .slice ea en ec] 26).below (bl_alloc (bl_refl _) (.cells #[.int .i64 k, .int .i64 a, .int .i64 ap, .int .i64 b, .int .i64 bp] 32))
  have x3 := Box.new ((w.alloc (.cells #[.int .i64 d.k, .int .i64 d.o, .int .i64 d.i, .int .i64 d.p] 85)).alloc (.cells #[.int .i64 ad, .int .i64 ln, .int .i64 ow, .int .i64 lo, .int .i64 hi, .slice da dn dc, .int .i64 nw, .slice ea en ec] 26)) #[.int .i64 k, .int .i64 a, .int .i64 ap, .int .i64 b, .int .i64 bp] 32
  simp only [World.size_alloc] at x2 x3
  go_enter Tryz.func217, Tryz.ntmps217
  go_wp2_with fail
  generalize (((w.alloc (.cells #[.int .i64 d.k, .int .i64 d.o, .int .i64 d.i, .int .i64 d.p] 85)).alloc (.cells #[.int .i64 ad, .int .i64 ln, .int .i64 ow, .int .i64 lo, .int .i64 hi, .slice da dn dc, .int .i64 nw, .slice ea en ec] 26)).alloc (.cells #[.int .i64 k, .int .i64 a, .int .i64 ap, .int .i64 b, .int .i64 bp] 32)) = W9 at x1 x2 x3 hB ⊢
  refine wp_region_held_drew (S := (fun w' => Box w' w.heap.size #[.int .i64 d.k, .int .i64 d.o, .int .i64 d.i, .int .i64 d.p] ∧ Box w' (w.heap.size + 1) #[.int .i64 ad, .int .i64 ln, .int .i64 ow, .int .i64 lo, .int .i64 hi, .slice da dn dc, .int .i64 nw, .slice ea en ec] ∧ Box w' (w.heap.size + 1 + 1) #[.int .i64 k, .int .i64 a, .int .i64 ap, .int .i64 b, .int .i64 bp])) (by kernel_rfl) ?_ (fun hHeld => ?_)
  · exact ⟨x1.below (bl_drew (bl_refl _)), x2.below (bl_drew (bl_refl _)), x3.below (bl_drew (bl_refl _))⟩
  have hB := bl_drew hB
  have x1 := x1.below (bl_drew (bl_refl _))
  have x2 := x2.below (bl_drew (bl_refl _))
  have x3 := x3.below (bl_drew (bl_refl _))
  generalize W9.drew = W0 at x1 x2 x3 hB hHeld ⊢
  refine takeL 0 7 ?_ ?_ hHeld ?_
  rotate_left
  · (intro w hSw; (try dsimp only at hSw); simp only [Box] at hSw; go_simp; try with_reducible rfl)
  simp only [Act.put, puA, puB, puC]
  refine takeL 2 9 ?_ ?_ hHeld ?_
  rotate_left
  · (intro w hSw; (try dsimp only at hSw); simp only [Box] at hSw; go_simp; try with_reducible rfl)
  simp only [Act.put, puA, puB, puC]
  refine takeL 3 10 ?_ ?_ hHeld ?_
  rotate_left
  · (intro w hSw; (try dsimp only at hSw); simp only [Box] at hSw; go_simp; try with_reducible rfl)
  simp only [Act.put, puA, puB, puC]
  refine takeL 4 11 ?_ ?_ hHeld ?_
  rotate_left
  · (intro w hSw; (try dsimp only at hSw); simp only [Box] at hSw; go_simp; try with_reducible rfl)
  simp only [Act.put, puA, puB, puC]
  refine takeL 5 12 ?_ ?_ hHeld ?_
  rotate_left
  · (intro w hSw; (try dsimp only at hSw); simp only [Box] at hSw; go_simp; try with_reducible rfl)
  simp only [Act.put, puA, puB, puC]
  refine takeL 6 13 ?_ ?_ hHeld ?_
  rotate_left
  · (intro w hSw; (try dsimp only at hSw); simp only [Box] at hSw; go_simp; try with_reducible rfl)
  simp only [Act.put, puA, puB, puC]
  refine takeL 7 14 ?_ ?_ hHeld ?_
  rotate_left
  · (intro w hSw; (try dsimp only at hSw); simp only [Box] at hSw; go_simp; try with_reducible rfl)
  simp only [Act.put, puA, puB, puC]
  refine takeL 8 15 ?_ ?_ hHeld ?_
  rotate_left
  · (intro w hSw; (try dsimp only at hSw); simp only [Box] at hSw; go_simp; try with_reducible rfl)
  simp only [Act.put, puA, puB, puC]
  refine wpAnyH_ready (rs := [1]) (by kernel_rfl) (by simp) (AllReadyH.cons rfl (fun K hK => ?_) (AllReadyH.nil))
  refine step_callg 8 151 rfl (by kernel_rfl) (seat_ret d _) (by kernel_rfl) ?_
  rintro e w1 ⟨rfl, hb⟩
  refine ⟨_, rfl, ?_⟩
  simp only [Act.put, puA, puB, puC]
  have hB := bl_trans hB hb
  have x1 := x1.below hb
  have x2 := x2.below hb
  have x3 := x3.below hb
  clear hb
  refine hK.out _ _ ?_ (fun hHeld1 => ?_)
  · exact ⟨x1, x2, x3⟩
  clear hK K hHeld
  have hHeld := hHeld1
  clear hHeld1
  refine takeL 9 16 ?_ ?_ hHeld ?_
  rotate_left
  · (intro w hSw; (try dsimp only at hSw); simp only [Box] at hSw; go_simp; try with_reducible rfl)
  simp only [Act.put, puA, puB, puC]
  refine takeL 10 6 ?_ ?_ hHeld ?_
  rotate_left
  · (intro w hSw; (try dsimp only at hSw); simp only [Box] at hSw; go_simp; try with_reducible rfl)
  simp only [Act.put, puA, puB, puC]
  refine wpAnyH_done (by kernel_rfl) ?_ _
  go_wp2
  go_ret
  exact ⟨ret_bool (by simp [sendsD]), hB⟩
set_option maxRecDepth 20000 in
set_option maxHeartbeats 2000000 in
theorem entrySends_ret (ad ln ow lo hi nw : Int) (da : Option Addr) (dn dc : Nat) (ea : Option Addr) (en ec : Nat) (d : En) (k a ap b bp : Int) (w : World) (n0 : 0 ≤ nw) (n1 : nw ≤ 1000000) (q0 : 0 ≤ d.l) (q1 : d.l ≤ nw) : Calls Tryz.prog 214 #[.agg #[.int .i64 d.k, .int .i64 d.pr, .int .i64 d.pp, .int .i64 d.o, .int .i64 d.i, .int .i64 d.ip, .int .i64 d.l], .agg #[.int .i64 ad, .int .i64 ln, .int .i64 ow, .int .i64 lo, .int .i64 hi, .slice da dn dc, .int .i64 nw, .slice ea en ec], .agg #[.int .i64 k, .int .i64 a, .int .i64 ap, .int .i64 b, .int .i64 bp]] w fun e w' => e = .returned (.bool (sendsE nw k a ap b bp d)) ∧ Below w.heap.size w w' := by
  have heq := run_eql_flow
  have hgf := guardFlow
  have hB := bl_alloc (bl_alloc (bl_alloc (bl_refl w) (.cells #[.int .i64 d.k, .int .i64 d.pr, .int .i64 d.pp, .int .i64 d.o, .int .i64 d.i, .int .i64 d.ip, .int .i64 d.l] 52)) (.cells #[.int .i64 ad, .int .i64 ln, .int .i64 ow, .int .i64 lo, .int .i64 hi, .slice da dn dc, .int .i64 nw, .slice ea en ec] 26)) (.cells #[.int .i64 k, .int .i64 a, .int .i64 ap, .int .i64 b, .int .i64 bp] 32)
  have x1 := ((Box.new w #[.int .i64 d.k, .int .i64 d.pr, .int .i64 d.pp, .int .i64 d.o, .int .i64 d.i, .int .i64 d.ip, .int .i64 d.l] 52).below (bl_alloc (bl_refl _) (.cells #[.int .i64 ad, .int .i64 ln, .int .i64 ow, .int .i64 lo, .int .i64 hi, .slice da dn dc, .int .i64 nw, .slice ea en ec] 26))).below (bl_alloc (bl_refl _) (.cells #[.int .i64 k, .int .i64 a, .int .i64 ap, .int .i64 b, .int .i64 bp] 32))
  have x2 := (Box.new (w.alloc (.cells #[.int .i64 d.k, .int .i64 d.pr, .int .i64 d.pp, .int .i64 d.o, .int .i64 d.i, .int .i64 d.ip, .int .i64 d.l] 52)) #[.int .i64 ad, .int .i64 ln, .int .i64 ow, .int .i64 lo, .int .i64 hi, .slice da dn dc, .int .i64 nw, .slice ea en ec] 26).below (bl_alloc (bl_refl _) (.cells #[.int .i64 k, .int .i64 a, .int .i64 ap, .int .i64 b, .int .i64 bp] 32))
  have x3 := Box.new ((w.alloc (.cells #[.int .i64 d.k, .int .i64 d.pr, .int .i64 d.pp, .int .i64 d.o, .int .i64 d.i, .int .i64 d.ip, .int .i64 d.l] 52)).alloc (.cells #[.int .i64 ad, .int .i64 ln, .int .i64 ow, .int .i64 lo, .int .i64 hi, .slice da dn dc, .int .i64 nw, .slice ea en ec] 26)) #[.int .i64 k, .int .i64 a, .int .i64 ap, .int .i64 b, .int .i64 bp] 32
  simp only [World.size_alloc] at x2 x3
  by_cases hv : liveB nw d.l = true
  · go_enter Tryz.func214, Tryz.ntmps214
    go_wp2_with fail
    generalize (((w.alloc (.cells #[.int .i64 d.k, .int .i64 d.pr, .int .i64 d.pp, .int .i64 d.o, .int .i64 d.i, .int .i64 d.ip, .int .i64 d.l] 52)).alloc (.cells #[.int .i64 ad, .int .i64 ln, .int .i64 ow, .int .i64 lo, .int .i64 hi, .slice da dn dc, .int .i64 nw, .slice ea en ec] 26)).alloc (.cells #[.int .i64 k, .int .i64 a, .int .i64 ap, .int .i64 b, .int .i64 bp] 32)) = W9 at x1 x2 x3 hB ⊢
    refine wp_region_held_drew (S := (fun w' => Box w' w.heap.size #[.int .i64 d.k, .int .i64 d.pr, .int .i64 d.pp, .int .i64 d.o, .int .i64 d.i, .int .i64 d.ip, .int .i64 d.l] ∧ Box w' (w.heap.size + 1) #[.int .i64 ad, .int .i64 ln, .int .i64 ow, .int .i64 lo, .int .i64 hi, .slice da dn dc, .int .i64 nw, .slice ea en ec] ∧ Box w' (w.heap.size + 1 + 1) #[.int .i64 k, .int .i64 a, .int .i64 ap, .int .i64 b, .int .i64 bp])) (by kernel_rfl) ?_ (fun hHeld => ?_)
    · exact ⟨x1.below (bl_drew (bl_refl _)), x2.below (bl_drew (bl_refl _)), x3.below (bl_drew (bl_refl _))⟩
    have hB := bl_drew hB
    have x1 := x1.below (bl_drew (bl_refl _))
    have x2 := x2.below (bl_drew (bl_refl _))
    have x3 := x3.below (bl_drew (bl_refl _))
    generalize W9.drew = W0 at x1 x2 x3 hB hHeld ⊢
    refine takeL 0 7 ?_ ?_ hHeld ?_
    rotate_left
    · (intro w hSw; (try dsimp only at hSw); simp only [Box] at hSw; go_simp; try with_reducible rfl)
    simp only [Act.put, puA, puB, puC]
    refine takeL 1 8 ?_ ?_ hHeld ?_
    rotate_left
    · (intro w hSw; (try dsimp only at hSw); simp only [Box] at hSw; go_simp; try with_reducible rfl)
    simp only [Act.put, puA, puB, puC]
    refine wpAnyH_ready (rs := [2]) (by kernel_rfl) (by simp) (AllReadyH.cons rfl (fun K hK => ?_) (AllReadyH.nil))
    refine step_callg 9 155 rfl (by kernel_rfl) (lives_v ad ln ow lo hi nw da dn dc ea en ec d true _ n0 n1 q0 q1 hv) (by kernel_rfl) ?_
    rintro e w1 ⟨rfl, hb⟩
    refine ⟨_, rfl, ?_⟩
    simp only [Act.put, puA, puB, puC]
    have hB := bl_trans hB hb
    have x1 := x1.below hb
    have x2 := x2.below hb
    have x3 := x3.below hb
    clear hb
    refine hK.out _ _ ?_ (fun hHeld1 => ?_)
    · exact ⟨x1, x2, x3⟩
    clear hK K hHeld
    have hHeld := hHeld1
    clear hHeld1
    refine takeL 3 10 ?_ ?_ hHeld ?_
    rotate_left
    · (intro w hSw; (try dsimp only at hSw); simp only [Box] at hSw; go_simp; try with_reducible rfl)
    simp only [Act.put, puA, puB, puC]
    refine takeL 4 11 ?_ ?_ hHeld ?_
    rotate_left
    · (intro w hSw; (try dsimp only at hSw); simp only [Box] at hSw; go_simp; try with_reducible rfl)
    simp only [Act.put, puA, puB, puC]
    refine takeL 6 13 ?_ ?_ hHeld ?_
    rotate_left
    · (intro w hSw; (try dsimp only at hSw); simp only [Box] at hSw; go_simp; try with_reducible rfl)
    simp only [Act.put, puA, puB, puC]
    refine wpAnyH_ready (rs := [5]) (by kernel_rfl) (by simp) (AllReadyH.cons rfl (fun K hK => ?_) (AllReadyH.nil))
    refine step_callg 12 157 rfl (by kernel_rfl) (eflow_ret d _) (by kernel_rfl) ?_
    rintro e w1 ⟨rfl, hb⟩
    refine ⟨_, rfl, ?_⟩
    simp only [Act.put, puA, puB, puC]
    have hB := bl_trans hB hb
    have x1 := x1.below hb
    have x2 := x2.below hb
    have x3 := x3.below hb
    clear hb
    refine hK.out _ _ ?_ (fun hHeld1 => ?_)
    · exact ⟨x1, x2, x3⟩
    clear hK K hHeld
    have hHeld := hHeld1
    clear hHeld1
    refine takeL 7 14 ?_ ?_ hHeld ?_
    rotate_left
    · (intro w hSw; (try dsimp only at hSw); simp only [Box] at hSw; go_simp; try with_reducible rfl)
    simp only [Act.put, puA, puB, puC]
    refine takeL 8 15 ?_ ?_ hHeld ?_
    rotate_left
    · (intro w hSw; (try dsimp only at hSw); simp only [Box] at hSw; go_simp; try with_reducible rfl)
    simp only [Act.put, puA, puB, puC]
    refine takeL 9 6 ?_ ?_ hHeld ?_
    rotate_left
    · (intro w hSw; (try dsimp only at hSw); simp only [Box] at hSw; go_simp; try with_reducible rfl)
    simp only [Act.put, puA, puB, puC]
    refine wpAnyH_done (by kernel_rfl) ?_ _
    go_wp2
    go_ret
    exact ⟨ret_bool (by simp [sendsE, hv]), hB⟩
  · have hv : liveB nw d.l = false := by simpa using hv
    go_enter Tryz.func214, Tryz.ntmps214
    go_wp2_with fail
    generalize (((w.alloc (.cells #[.int .i64 d.k, .int .i64 d.pr, .int .i64 d.pp, .int .i64 d.o, .int .i64 d.i, .int .i64 d.ip, .int .i64 d.l] 52)).alloc (.cells #[.int .i64 ad, .int .i64 ln, .int .i64 ow, .int .i64 lo, .int .i64 hi, .slice da dn dc, .int .i64 nw, .slice ea en ec] 26)).alloc (.cells #[.int .i64 k, .int .i64 a, .int .i64 ap, .int .i64 b, .int .i64 bp] 32)) = W9 at x1 x2 x3 hB ⊢
    refine wp_region_held_drew (S := (fun w' => Box w' w.heap.size #[.int .i64 d.k, .int .i64 d.pr, .int .i64 d.pp, .int .i64 d.o, .int .i64 d.i, .int .i64 d.ip, .int .i64 d.l] ∧ Box w' (w.heap.size + 1) #[.int .i64 ad, .int .i64 ln, .int .i64 ow, .int .i64 lo, .int .i64 hi, .slice da dn dc, .int .i64 nw, .slice ea en ec] ∧ Box w' (w.heap.size + 1 + 1) #[.int .i64 k, .int .i64 a, .int .i64 ap, .int .i64 b, .int .i64 bp])) (by kernel_rfl) ?_ (fun hHeld => ?_)
    · exact ⟨x1.below (bl_drew (bl_refl _)), x2.below (bl_drew (bl_refl _)), x3.below (bl_drew (bl_refl _))⟩
    have hB := bl_drew hB
    have x1 := x1.below (bl_drew (bl_refl _))
    have x2 := x2.below (bl_drew (bl_refl _))
    have x3 := x3.below (bl_drew (bl_refl _))
    generalize W9.drew = W0 at x1 x2 x3 hB hHeld ⊢
    refine takeL 0 7 ?_ ?_ hHeld ?_
    rotate_left
    · (intro w hSw; (try dsimp only at hSw); simp only [Box] at hSw; go_simp; try with_reducible rfl)
    simp only [Act.put, puA, puB, puC]
    refine takeL 1 8 ?_ ?_ hHeld ?_
    rotate_left
    · (intro w hSw; (try dsimp only at hSw); simp only [Box] at hSw; go_simp; try with_reducible rfl)
    simp only [Act.put, puA, puB, puC]
    refine wpAnyH_ready (rs := [2]) (by kernel_rfl) (by simp) (AllReadyH.cons rfl (fun K hK => ?_) (AllReadyH.nil))
    refine step_callg 9 155 rfl (by kernel_rfl) (lives_v ad ln ow lo hi nw da dn dc ea en ec d false _ n0 n1 q0 q1 hv) (by kernel_rfl) ?_
    rintro e w1 ⟨rfl, hb⟩
    refine ⟨_, rfl, ?_⟩
    simp only [Act.put, puA, puB, puC]
    have hB := bl_trans hB hb
    have x1 := x1.below hb
    have x2 := x2.below hb
    have x3 := x3.below hb
    clear hb
    refine hK.out _ _ ?_ (fun hHeld1 => ?_)
    · exact ⟨x1, x2, x3⟩
    clear hK K hHeld
    have hHeld := hHeld1
    clear hHeld1
    refine takeL 3 10 ?_ ?_ hHeld ?_
    rotate_left
    · (intro w hSw; (try dsimp only at hSw); simp only [Box] at hSw; go_simp; try with_reducible rfl)
    simp only [Act.put, puA, puB, puC]
    refine takeN 4 11 hHeld ?_
    simp only [Act.put, puA, puB, puC]
    refine takeN 5 12 hHeld ?_
    simp only [Act.put, puA, puB, puC]
    refine takeN 6 13 hHeld ?_
    simp only [Act.put, puA, puB, puC]
    refine takeN 7 14 hHeld ?_
    simp only [Act.put, puA, puB, puC]
    refine takeL 8 15 ?_ ?_ hHeld ?_
    rotate_left
    · (intro w hSw; (try dsimp only at hSw); simp only [Box] at hSw; go_simp; try with_reducible rfl)
    simp only [Act.put, puA, puB, puC]
    refine takeL 9 6 ?_ ?_ hHeld ?_
    rotate_left
    · (intro w hSw; (try dsimp only at hSw); simp only [Box] at hSw; go_simp; try with_reducible rfl)
    simp only [Act.put, puA, puB, puC]
    refine wpAnyH_done (by kernel_rfl) ?_ _
    go_wp2
    go_ret
    exact ⟨ret_bool (by simp [sendsE, hv]), hB⟩
end Go.Proofs.YtcgjpmhjijmplaaGreatDoor
