/- Joined: Go1, Go2. -/
import Derived.Test.YtcgjpmhjijmplaaGreatDoorOutM
import Derived.Test.YtcgjpmhjijmplaaGreatDoorJoinG
import Derived.Test.YtcgjpmhjijmplaaGreatDoorBook
import Derived.Deep.DeepCutAuto
import Derived.WalkMore
/- The program's small functions on the way out, walked. -/
namespace Go.Proofs.YtcgjpmhjijmplaaGreatDoor
open Go.ChangeShapes Go.WideShapes Go.ChangeAt Go.RowKit Go.Maps

theorem goesOut_ret (ad ln ow lo hi nw : Int) (da : Option Addr) (dn dc : Nat) (ea : Option Addr) (en ec : Nat) (k a ap b bp : Int) (w : World) (l0 : 0 ≤ ln) (l1 : ln ≤ 16) (a0 : 0 ≤ ad) (a1 : ad ≤ 65535) : Calls Tryz.prog 97 #[.agg #[.int .i64 ad, .int .i64 ln, .int .i64 ow, .int .i64 lo, .int .i64 hi, .slice da dn dc, .int .i64 nw, .slice ea en ec], .agg #[.int .i64 k, .int .i64 a, .int .i64 ap, .int .i64 b, .int .i64 bp]] w fun e w' => e = .returned (.bool (goesB ad ln ow a b)) ∧ Below w.heap.size w w' := by
  have hB := bl_alloc (bl_alloc (bl_refl w) (.cells #[.int .i64 ad, .int .i64 ln, .int .i64 ow, .int .i64 lo, .int .i64 hi, .slice da dn dc, .int .i64 nw, .slice ea en ec] 26)) (.cells #[.int .i64 k, .int .i64 a, .int .i64 ap, .int .i64 b, .int .i64 bp] 32)
  have x1 := (Box.new w #[.int .i64 ad, .int .i64 ln, .int .i64 ow, .int .i64 lo, .int .i64 hi, .slice da dn dc, .int .i64 nw, .slice ea en ec] 26).below (bl_alloc (bl_refl _) (.cells #[.int .i64 k, .int .i64 a, .int .i64 ap, .int .i64 b, .int .i64 bp] 32))
  have x2 := Box.new (w.alloc (.cells #[.int .i64 ad, .int .i64 ln, .int .i64 ow, .int .i64 lo, .int .i64 hi, .slice da dn dc, .int .i64 nw, .slice ea en ec] 26)) #[.int .i64 k, .int .i64 a, .int .i64 ap, .int .i64 b, .int .i64 bp] 32
  simp only [World.size_alloc] at x2
  go_enter Tryz.func97, Tryz.ntmps97
  go_wp2_with fail
  refine (isInside_ret _ _ _ _ _ _ _ _ _ _ _ _ _ _ l0 l1 a0 a1).mono ?_
  rintro e w1 ⟨rfl, hb1⟩
  replace hB := bl_trans hB hb1
  have y1 := (x1.below hb1).2
  have y2 := (x2.below hb1).2
  clear hb1
  by_cases hi : insB ad ln a = true
  · go_wp2_with fail
    refine (isPeer_ret _ _ _ _ _ _ _ _ _ _ _ _ _ _ l0 l1 a0 a1).mono ?_
    rintro e w2 ⟨rfl, hb2⟩
    go_wp2
    go_ret
    exact ⟨ret_bool (by simp [goesB, hi]), bl_trans hB hb2⟩
  · have hi' : insB ad ln a = false := by simpa using hi
    go_wp2
    go_ret
    exact ⟨ret_bool (by simp [goesB, hi']), hB⟩
noncomputable def mayOut (ad ln ow lo hi nw : Int) (ds : List Dr) (es : List En) (k a ap b bp : Int) : Int :=
  if bookB ad ln ow lo hi nw ds es = true then (if flowB k a ap b bp = true then (if goesB ad ln ow a b = true then 0 else 3) else 2) else 1
set_option maxHeartbeats 2000000 in
theorem mayOut_ret (ad ln ow lo hi nw : Int) (da : Option Addr) (dn dc : Nat) (ea : Option Addr) (en ec : Nat) (k a ap b bp : Int) (ds : List Dr) (es : List En) (w : World) (hD : DoorsAt w da dn ds) (hE : EntriesAt w ea en es) :
    Calls Tryz.prog 96 #[.agg #[.int .i64 ad, .int .i64 ln, .int .i64 ow, .int .i64 lo, .int .i64 hi, .slice da dn dc, .int .i64 nw, .slice ea en ec], .agg #[.int .i64 k, .int .i64 a, .int .i64 ap, .int .i64 b, .int .i64 bp], .func (.func 97) #[] #[]] w fun e w' => e = .returned (errV (mayOut ad ln ow lo hi nw ds es k a ap b bp)) ∧ Below w.heap.size w w' := by
  have hb0 := bl_alloc (bl_alloc (bl_refl w) (.cells #[.int .i64 ad, .int .i64 ln, .int .i64 ow, .int .i64 lo, .int .i64 hi, .slice da dn dc, .int .i64 nw, .slice ea en ec] 26)) (.cells #[.int .i64 k, .int .i64 a, .int .i64 ap, .int .i64 b, .int .i64 bp] 32)
  have x1 := (Box.new w #[.int .i64 ad, .int .i64 ln, .int .i64 ow, .int .i64 lo, .int .i64 hi, .slice da dn dc, .int .i64 nw, .slice ea en ec] 26).below (bl_alloc (bl_refl _) (.cells #[.int .i64 k, .int .i64 a, .int .i64 ap, .int .i64 b, .int .i64 bp] 32))
  have x2 := Box.new (w.alloc (.cells #[.int .i64 ad, .int .i64 ln, .int .i64 ow, .int .i64 lo, .int .i64 hi, .slice da dn dc, .int .i64 nw, .slice ea en ec] 26)) #[.int .i64 k, .int .i64 a, .int .i64 ap, .int .i64 b, .int .i64 bp] 32
  simp only [World.size_alloc] at x2
  have H1 : Hid (Calls Tryz.prog _ _ _ _) := implBook_ret ad ln ow lo hi nw da dn dc ea en ec ds es _ (hD.below hb0) (hE.below hb0)
  by_cases hk : bookB ad ln ow lo hi nw ds es = true
  · have hfr : frameB ad ln ow lo hi nw = true := by simp [bookB] at hk; exact hk.1.1
    obtain ⟨⟨l0, l1⟩, ⟨a0, a1⟩, _, _, _⟩ := frameB_true hfr
    go_enter Tryz.func96, Tryz.ntmps96
    go_wp2_with fail
    refine H1.out.mono ?_
    rintro e w1 ⟨rfl, hb1⟩
    have hB1 := bl_trans hb0 hb1
    have x1 := x1.below hb1
    have x2 := x2.below hb1
    have y1 := x1.2
    have y2 := x2.2
    clear hb0 hb1 H1
    by_cases hf : flowB k a ap b bp = true
    · go_wp2_with fail
      refine (implFlowOk_ret _ _ _ _ _ _).mono ?_
      rintro e w2 ⟨rfl, hb2⟩
      have hB2 := bl_trans hB1 hb2
      have x1 := x1.below hb2
      have x2 := x2.below hb2
      clear y1 y2
      have y1 := x1.2
      have y2 := x2.2
      go_wp2_with fail
      refine (goesOut_ret _ _ _ _ _ _ _ _ _ _ _ _ _ _ _ _ _ _ l0 l1 a0 a1).mono ?_
      rintro e w3 ⟨rfl, hb3⟩
      have hB3 := bl_trans hB2 hb3
      by_cases hc : goesB ad ln ow a b = true
      · go_wp2
        go_ret
        exact ⟨by simp [mayOut, errV, hk, hf, hc], hB3⟩
      · have hc' : goesB ad ln ow a b = false := by simpa using hc
        go_wp2
        go_ret
        exact ⟨by simp [mayOut, errV, hk, hf, hc'], hB3⟩
    · have hf' : flowB k a ap b bp = false := by simpa using hf
      go_wp2_with fail
      refine (implFlowOk_ret _ _ _ _ _ _).mono ?_
      rintro e w2 ⟨rfl, hb2⟩
      have hB2 := bl_trans hB1 hb2
      go_wp2
      go_ret
      exact ⟨by simp [mayOut, errV, hk, hf'], hB2⟩
  · have hk' : bookB ad ln ow lo hi nw ds es = false := by simpa using hk
    go_enter Tryz.func96, Tryz.ntmps96
    go_wp2_with fail
    refine H1.out.mono ?_
    rintro e w1 ⟨rfl, hb1⟩
    have hB1 := bl_trans hb0 hb1
    go_wp2
    go_ret
    exact ⟨by simp [mayOut, errV, hk'], hB1⟩

theorem fieldsSeat : Tryz.prog.underlying 88 = some (.struct (Tryz.prog.fieldsOf 88)) := by kernel_rfl
theorem stoodSeat : Tryz.prog.stoodInHeld 88 = false := by kernel_rfl
theorem guardSeat : Tryz.prog.eqGuardType Tryz.prog.depth 88 = false := by kernel_rfl
theorem run_eql_seat (w : World) (k a ap k' a' ap' : Int) : (binOp .eql 88 (.agg #[.int .i64 k, .int .i64 a, .int .i64 ap]) (.agg #[.int .i64 k', .int .i64 a', .int .i64 ap'])).run Tryz.prog w = .ok (.bool (k == k' && (a == a' && ap == ap'))) w := by
  rw [run_eql_struct]
  rw [show (10000:Nat) = 9999 + 1 from rfl, run_equalIn_agg _ _ _ _ _ fieldsSeat stoodSeat]
  have h3 := Tryz.underlying3
  simp only [Program.fieldsOf, Tryz.underlying88, Op.eqFields]
  simp [go_sem, h3]
  by_cases h1 : k = k' <;> by_cases h2 : a = a' <;> by_cases h3 : ap = ap' <;> simp [*]
set_option maxRecDepth 20000 in
set_option maxHeartbeats 2000000 in
theorem doorSends_ret (ad ln ow lo hi nw : Int) (da : Option Addr) (dn dc : Nat) (ea : Option Addr) (en ec : Nat) (d : Dr) (k a ap b bp : Int) (w : World) : Calls Tryz.prog 217 #[.agg #[.int .i64 d.k, .int .i64 d.o, .int .i64 d.i, .int .i64 d.p], .agg #[.int .i64 ad, .int .i64 ln, .int .i64 ow, .int .i64 lo, .int .i64 hi, .slice da dn dc, .int .i64 nw, .slice ea en ec], .agg #[.int .i64 k, .int .i64 a, .int .i64 ap, .int .i64 b, .int .i64 bp]] w fun e w' => e = .returned (.bool (sendsD k a ap d)) ∧ Below w.heap.size w w' := by
  have heq := run_eql_seat
  have hgf := guardSeat
  have hB := bl_alloc (bl_alloc (bl_alloc (bl_refl w) (.cells #[.int .i64 d.k, .int .i64 d.o, .int .i64 d.i, .int .i64 d.p] 85)) (.cells #[.int .i64 ad, .int .i64 ln, .int .i64 ow, .int .i64 lo, .int .i64 hi, .slice da dn dc, .int .i64 nw, .slice ea en ec] 26)) (.cells #[.int .i64 k, .int .i64 a, .int .i64 ap, .int .i64 b, .int .i64 bp] 32)
  have x1 := ((Box.new w #[.int .i64 d.k, .int .i64 d.o, .int .i64 d.i, .int .i64 d.p] 85).below (bl_alloc (bl_refl _) (.cells #[.int .i64 ad, .int .i64 ln, .int .i64 ow, .int .i64 lo, .int .i64 hi, .slice da dn dc, .int .i64 nw, .slice ea en ec] 26))).below (bl_alloc (bl_refl _) (.cells #[.int .i64 k, .int .i64 a, .int .i64 ap, .int .i64 b, .int .i64 bp] 32))
  have x2 := (Box.new (w.alloc (.cells #[.int .i64 d.k, .int .i64 d.o, .int .i64 d.i, .int .i64 d.p] 85)) #[.int .i64 ad, .int .i64 ln, .int .i64 ow, .int .i64 lo, .int .i64 hi, .slice da dn dc, .int .i64 nw, .slice ea en ec] 26).below (bl_alloc (bl_refl _) (.cells #[.int .i64 k, .int .i64 a, .int .i64 ap, .int .i64 b, .int .i64 bp] 32))
  have x3 := Box.new ((w.alloc (.cells #[.int .i64 d.k, .int .i64 d.o, .int .i64 d.i, .int .i64 d.p] 85)).alloc (.cells #[.int .i64 ad, .int .i64 ln, .int .i64 ow, .int .i64 lo, .int .i64 hi, .slice da dn dc, .int .i64 nw, .slice ea en ec] 26)) #[.int .i64 k, .int .i64 a, .int .i64 ap, .int .i64 b, .int .i64 bp] 32
  simp only [World.size_alloc] at x2 x3
  go_enter Tryz.func217, Tryz.ntmps217
  go_wp2_with fail
  generalize (((w.alloc (.cells #[.int .i64 d.k, .int .i64 d.o, .int .i64 d.i, .int .i64 d.p] 85)).alloc (.cells #[.int .i64 ad, .int .i64 ln, .int .i64 ow, .int .i64 lo, .int .i64 hi, .slice da dn dc, .int .i64 nw, .slice ea en ec] 26)).alloc (.cells #[.int .i64 k, .int .i64 a, .int .i64 ap, .int .i64 b, .int .i64 bp] 32)) = W9 at x1 x2 x3 hB ⊢
  refine wp_region_held_drew (S := (fun w' => Box w' w.heap.size #[.int .i64 d.k, .int .i64 d.o, .int .i64 d.i, .int .i64 d.p] ∧ Box w' (w.heap.size + 1) #[.int .i64 ad, .int .i64 ln, .int .i64 ow, .int .i64 lo, .int .i64 hi, .slice da dn dc, .int .i64 nw, .slice ea en ec] ∧ Box w' (w.heap.size + 1 + 1) #[.int .i64 k, .int .i64 a, .int .i64 ap, .int .i64 b, .int .i64 bp])) (by kernel_rfl) ?_ (fun hHeld => ?_)
  · exact ⟨x1.below (bl_drew (bl_refl _)), x2.below (bl_drew (bl_refl _)), x3.below (bl_drew (bl_refl _))⟩
  have hB := bl_drew hB
  have x1 := x1.below (bl_drew (bl_refl _))
  have x2 := x2.below (bl_drew (bl_refl _))
  have x3 := x3.below (bl_drew (bl_refl _))
  generalize W9.drew = W0 at x1 x2 x3 hB hHeld ⊢
  refine takeL 0 7 ?_ ?_ hHeld ?_
  rotate_left
  · (intro w hSw; (try dsimp only at hSw); simp only [Box] at hSw; go_simp; try with_reducible rfl)
  simp only [Act.put, puA, puB, puC]
  refine takeL 2 9 ?_ ?_ hHeld ?_
  rotate_left
  · (intro w hSw; (try dsimp only at hSw); simp only [Box] at hSw; go_simp; try with_reducible rfl)
  simp only [Act.put, puA, puB, puC]
  refine takeL 3 10 ?_ ?_ hHeld ?_
  rotate_left
  · (intro w hSw; (try dsimp only at hSw); simp only [Box] at hSw; go_simp; try with_reducible rfl)
  simp only [Act.put, puA, puB, puC]
  refine takeL 4 11 ?_ ?_ hHeld ?_
  rotate_left
  · (intro w hSw; (try dsimp only at hSw); simp only [Box] at hSw; go_simp; try with_reducible rfl)
  simp only [Act.put, puA, puB, puC]
  refine takeL 5 12 ?_ ?_ hHeld ?_
  rotate_left
  · (intro w hSw; (try dsimp only at hSw); simp only [Box] at hSw; go_simp; try with_reducible rfl)
  simp only [Act.put, puA, puB, puC]
  refine takeL 6 13 ?_ ?_ hHeld ?_
  rotate_left
  · (intro w hSw; (try dsimp only at hSw); simp only [Box] at hSw; go_simp; try with_reducible rfl)
  simp only [Act.put, puA, puB, puC]
  refine takeL 7 14 ?_ ?_ hHeld ?_
  rotate_left
  · (intro w hSw; (try dsimp only at hSw); simp only [Box] at hSw; go_simp; try with_reducible rfl)
  simp only [Act.put, puA, puB, puC]
  refine takeL 8 15 ?_ ?_ hHeld ?_
  rotate_left
  · (intro w hSw; (try dsimp only at hSw); simp only [Box] at hSw; go_simp; try with_reducible rfl)
  simp only [Act.put, puA, puB, puC]
  refine wpAnyH_ready (rs := [1]) (by kernel_rfl) (by simp) (AllReadyH.cons rfl (fun K hK => ?_) (AllReadyH.nil))
  refine step_callg 8 151 rfl (by kernel_rfl) (seat_ret d _) (by kernel_rfl) ?_
  rintro e w1 ⟨rfl, hb⟩
  refine ⟨_, rfl, ?_⟩
  simp only [Act.put, puA, puB, puC]
  have hB := bl_trans hB hb
  have x1 := x1.below hb
  have x2 := x2.below hb
  have x3 := x3.below hb
  clear hb
  refine hK.out _ _ ?_ (fun hHeld1 => ?_)
  · exact ⟨x1, x2, x3⟩
  clear hK K hHeld
  have hHeld := hHeld1
  clear hHeld1
  refine takeL 9 16 ?_ ?_ hHeld ?_
  rotate_left
  · (intro w hSw; (try dsimp only at hSw); simp only [Box] at hSw; go_simp; try with_reducible rfl)
  simp only [Act.put, puA, puB, puC]
  refine takeL 10 6 ?_ ?_ hHeld ?_
  rotate_left
  · (intro w hSw; (try dsimp only at hSw); simp only [Box] at hSw; go_simp; try with_reducible rfl)
  simp only [Act.put, puA, puB, puC]
  refine wpAnyH_done (by kernel_rfl) ?_ _
  go_wp2
  go_ret
  exact ⟨ret_bool (by simp [sendsD]), hB⟩
set_option maxRecDepth 20000 in
set_option maxHeartbeats 2000000 in
theorem entrySends_ret (ad ln ow lo hi nw : Int) (da : Option Addr) (dn dc : Nat) (ea : Option Addr) (en ec : Nat) (d : En) (k a ap b bp : Int) (w : World) (n0 : 0 ≤ nw) (n1 : nw ≤ 1000000) (q0 : 0 ≤ d.l) (q1 : d.l ≤ nw) : Calls Tryz.prog 214 #[.agg #[.int .i64 d.k, .int .i64 d.pr, .int .i64 d.pp, .int .i64 d.o, .int .i64 d.i, .int .i64 d.ip, .int .i64 d.l], .agg #[.int .i64 ad, .int .i64 ln, .int .i64 ow, .int .i64 lo, .int .i64 hi, .slice da dn dc, .int .i64 nw, .slice ea en ec], .agg #[.int .i64 k, .int .i64 a, .int .i64 ap, .int .i64 b, .int .i64 bp]] w fun e w' => e = .returned (.bool (sendsE nw k a ap b bp d)) ∧ Below w.heap.size w w' := by
  have heq := run_eql_flow
  have hgf := guardFlow
  have hB := bl_alloc (bl_alloc (bl_alloc (bl_refl w) (.cells #[.int .i64 d.k, .int .i64 d.pr, .int .i64 d.pp, .int .i64 d.o, .int .i64 d.i, .int .i64 d.ip, .int .i64 d.l] 52)) (.cells #[.int .i64 ad, .int .i64 ln, .int .i64 ow, .int .i64 lo, .int .i64 hi, .slice da dn dc, .int .i64 nw, .slice ea en ec] 26)) (.cells #[.int .i64 k, .int .i64 a, .int .i64 ap, .int .i64 b, .int .i64 bp] 32)
  have x1 := ((Box.new w #[.int .i64 d.k, .int .i64 d.pr, .int .i64 d.pp, .int .i64 d.o, .int .i64 d.i, .int .i64 d.ip, .int .i64 d.l] 52).below (bl_alloc (bl_refl _) (.cells #[.int .i64 ad, .int .i64 ln, .int .i64 ow, .int .i64 lo, .int .i64 hi, .slice da dn dc, .int .i64 nw, .slice ea en ec] 26))).below (bl_alloc (bl_refl _) (.cells #[.int .i64 k, .int .i64 a, .int .i64 ap, .int .i64 b, .int .i64 bp] 32))
  have x2 := (Box.new (w.alloc (.cells #[.int .i64 d.k, .int .i64 d.pr, .int .i64 d.pp, .int .i64 d.o, .int .i64 d.i, .int .i64 d.ip, .int .i64 d.l] 52)) #[.int .i64 ad, .int .i64 ln, .int .i64 ow, .int .i64 lo, .int .i64 hi, .slice da dn dc, .int .i64 nw, .slice ea en ec] 26).below (bl_alloc (bl_refl _) (.cells #[.int .i64 k, .int .i64 a, .int .i64 ap, .int .i64 b, .int .i64 bp] 32))
  have x3 := Box.new ((w.alloc (.cells #[.int .i64 d.k, .int .i64 d.pr, .int .i64 d.pp, .int .i64 d.o, .int .i64 d.i, .int .i64 d.ip, .int .i64 d.l] 52)).alloc (.cells #[.int .i64 ad, .int .i64 ln, .int .i64 ow, .int .i64 lo, .int .i64 hi, .slice da dn dc, .int .i64 nw, .slice ea en ec] 26)) #[.int .i64 k, .int .i64 a, .int .i64 ap, .int .i64 b, .int .i64 bp] 32
  simp only [World.size_alloc] at x2 x3
  by_cases hv : liveB nw d.l = true
  · go_enter Tryz.func214, Tryz.ntmps214
    go_wp2_with fail
    generalize (((w.alloc (.cells #[.int .i64 d.k, .int .i64 d.pr, .int .i64 d.pp, .int .i64 d.o, .int .i64 d.i, .int .i64 d.ip, .int .i64 d.l] 52)).alloc (.cells #[.int .i64 ad, .int .i64 ln, .int .i64 ow, .int .i64 lo, .int .i64 hi, .slice da dn dc, .int .i64 nw, .slice ea en ec] 26)).alloc (.cells #[.int .i64 k, .int .i64 a, .int .i64 ap, .int .i64 b, .int .i64 bp] 32)) = W9 at x1 x2 x3 hB ⊢
    refine wp_region_held_drew (S := (fun w' => Box w' w.heap.size #[.int .i64 d.k, .int .i64 d.pr, .int .i64 d.pp, .int .i64 d.o, .int .i64 d.i, .int .i64 d.ip, .int .i64 d.l] ∧ Box w' (w.heap.size + 1) #[.int .i64 ad, .int .i64 ln, .int .i64 ow, .int .i64 lo, .int .i64 hi, .slice da dn dc, .int .i64 nw, .slice ea en ec] ∧ Box w' (w.heap.size + 1 + 1) #[.int .i64 k, .int .i64 a, .int .i64 ap, .int .i64 b, .int .i64 bp])) (by kernel_rfl) ?_ (fun hHeld => ?_)
    · exact ⟨x1.below (bl_drew (bl_refl _)), x2.below (bl_drew (bl_refl _)), x3.below (bl_drew (bl_refl _))⟩
    have hB := bl_drew hB
    have x1 := x1.below (bl_drew (bl_refl _))
    have x2 := x2.below (bl_drew (bl_refl _))
    have x3 := x3.below (bl_drew (bl_refl _))
    generalize W9.drew = W0 at x1 x2 x3 hB hHeld ⊢
    refine takeL 0 7 ?_ ?_ hHeld ?_
    rotate_left
    · (intro w hSw; (try dsimp only at hSw); simp only [Box] at hSw; go_simp; try with_reducible rfl)
    simp only [Act.put, puA, puB, puC]
    refine takeL 1 8 ?_ ?_ hHeld ?_
    rotate_left
    · (intro w hSw; (try dsimp only at hSw); simp only [Box] at hSw; go_simp; try with_reducible rfl)
    simp only [Act.put, puA, puB, puC]
    refine wpAnyH_ready (rs := [2]) (by kernel_rfl) (by simp) (AllReadyH.cons rfl (fun K hK => ?_) (AllReadyH.nil))
    refine step_callg 9 155 rfl (by kernel_rfl) (lives_v ad ln ow lo hi nw da dn dc ea en ec d true _ n0 n1 q0 q1 hv) (by kernel_rfl) ?_
    rintro e w1 ⟨rfl, hb⟩
    refine ⟨_, rfl, ?_⟩
    simp only [Act.put, puA, puB, puC]
    have hB := bl_trans hB hb
    have x1 := x1.below hb
    have x2 := x2.below hb
    have x3 := x3.below hb
    clear hb
    refine hK.out _ _ ?_ (fun hHeld1 => ?_)
    · exact ⟨x1, x2, x3⟩
    clear hK K hHeld
    have hHeld := hHeld1
    clear hHeld1
    refine takeL 3 10 ?_ ?_ hHeld ?_
    rotate_left
    · (intro w hSw; (try dsimp only at hSw); simp only [Box] at hSw; go_simp; try with_reducible rfl)
    simp only [Act.put, puA, puB, puC]
    refine takeL 4 11 ?_ ?_ hHeld ?_
    rotate_left
    · (intro w hSw; (try dsimp only at hSw); simp only [Box] at hSw; go_simp; try with_reducible rfl)
    simp only [Act.put, puA, puB, puC]
    refine takeL 6 13 ?_ ?_ hHeld ?_
    rotate_left
    · (intro w hSw; (try dsimp only at hSw); simp only [Box] at hSw; go_simp; try with_reducible rfl)
    simp only [Act.put, puA, puB, puC]
    refine wpAnyH_ready (rs := [5]) (by kernel_rfl) (by simp) (AllReadyH.cons rfl (fun K hK => ?_) (AllReadyH.nil))
    refine step_callg 12 157 rfl (by kernel_rfl) (eflow_ret d _) (by kernel_rfl) ?_
    rintro e w1 ⟨rfl, hb⟩
    refine ⟨_, rfl, ?_⟩
    simp only [Act.put, puA, puB, puC]
    have hB := bl_trans hB hb
    have x1 := x1.below hb
    have x2 := x2.below hb
    have x3 := x3.below hb
    clear hb
    refine hK.out _ _ ?_ (fun hHeld1 => ?_)
    · exact ⟨x1, x2, x3⟩
    clear hK K hHeld
    have hHeld := hHeld1
    clear hHeld1
    refine takeL 7 14 ?_ ?_ hHeld ?_
    rotate_left
    · (intro w hSw; (try dsimp only at hSw); simp only [Box] at hSw; go_simp; try with_reducible rfl)
    simp only [Act.put, puA, puB, puC]
    refine takeL 8 15 ?_ ?_ hHeld ?_
    rotate_left
    · (intro w hSw; (try dsimp only at hSw); simp only [Box] at hSw; go_simp; try with_reducible rfl)
    simp only [Act.put, puA, puB, puC]
    refine takeL 9 6 ?_ ?_ hHeld ?_
    rotate_left
    · (intro w hSw; (try dsimp only at hSw); simp only [Box] at hSw; go_simp; try with_reducible rfl)
    simp only [Act.put, puA, puB, puC]
    refine wpAnyH_done (by kernel_rfl) ?_ _
    go_wp2
    go_ret
    exact ⟨ret_bool (by simp [sendsE, hv]), hB⟩
  · have hv : liveB nw d.l = false := by simpa using hv
    go_enter Tryz.func214, Tryz.ntmps214
    go_wp2_with fail
    generalize (((w.alloc (.cells #[.int .i64 d.k, .int .i64 d.pr, .int .i64 d.pp, .int .i64 d.o, .int .i64 d.i, .int .i64 d.ip, .int .i64 d.l] 52)).alloc (.cells #[.int .i64 ad, .int .i64 ln, .int .i64 ow, .int .i64 lo, .int .i64 hi, .slice da dn dc, .int .i64 nw, .slice ea en ec] 26)).alloc (.cells #[.int .i64 k, .int .i64 a, .int .i64 ap, .int .i64 b, .int .i64 bp] 32)) = W9 at x1 x2 x3 hB ⊢
    refine wp_region_held_drew (S := (fun w' => Box w' w.heap.size #[.int .i64 d.k, .int .i64 d.pr, .int .i64 d.pp, .int .i64 d.o, .int .i64 d.i, .int .i64 d.ip, .int .i64 d.l] ∧ Box w' (w.heap.size + 1) #[.int .i64 ad, .int .i64 ln, .int .i64 ow, .int .i64 lo, .int .i64 hi, .slice da dn dc, .int .i64 nw, .slice ea en ec] ∧ Box w' (w.heap.size + 1 + 1) #[.int .i64 k, .int .i64 a, .int .i64 ap, .int .i64 b, .int .i64 bp])) (by kernel_rfl) ?_ (fun hHeld => ?_)
    · exact ⟨x1.below (bl_drew (bl_refl _)), x2.below (bl_drew (bl_refl _)), x3.below (bl_drew (bl_refl _))⟩
    have hB := bl_drew hB
    have x1 := x1.below (bl_drew (bl_refl _))
    have x2 := x2.below (bl_drew (bl_refl _))
    have x3 := x3.below (bl_drew (bl_refl _))
    generalize W9.drew = W0 at x1 x2 x3 hB hHeld ⊢
    refine takeL 0 7 ?_ ?_ hHeld ?_
    rotate_left
    · (intro w hSw; (try dsimp only at hSw); simp only [Box] at hSw; go_simp; try with_reducible rfl)
    simp only [Act.put, puA, puB, puC]
    refine takeL 1 8 ?_ ?_ hHeld ?_
    rotate_left
    · (intro w hSw; (try dsimp only at hSw); simp only [Box] at hSw; go_simp; try with_reducible rfl)
    simp only [Act.put, puA, puB, puC]
    refine wpAnyH_ready (rs := [2]) (by kernel_rfl) (by simp) (AllReadyH.cons rfl (fun K hK => ?_) (AllReadyH.nil))
    refine step_callg 9 155 rfl (by kernel_rfl) (lives_v ad ln ow lo hi nw da dn dc ea en ec d false _ n0 n1 q0 q1 hv) (by kernel_rfl) ?_
    rintro e w1 ⟨rfl, hb⟩
    refine ⟨_, rfl, ?_⟩
    simp only [Act.put, puA, puB, puC]
    have hB := bl_trans hB hb
    have x1 := x1.below hb
    have x2 := x2.below hb
    have x3 := x3.below hb
    clear hb
    refine hK.out _ _ ?_ (fun hHeld1 => ?_)
    · exact ⟨x1, x2, x3⟩
    clear hK K hHeld
    have hHeld := hHeld1
    clear hHeld1
    refine takeL 3 10 ?_ ?_ hHeld ?_
    rotate_left
    · (intro w hSw; (try dsimp only at hSw); simp only [Box] at hSw; go_simp; try with_reducible rfl)
    simp only [Act.put, puA, puB, puC]
    refine takeN 4 11 hHeld ?_
    simp only [Act.put, puA, puB, puC]
    refine takeN 5 12 hHeld ?_
    simp only [Act.put, puA, puB, puC]
    refine takeN 6 13 hHeld ?_
    simp only [Act.put, puA, puB, puC]
    refine takeN 7 14 hHeld ?_
    simp only [Act.put, puA, puB, puC]
    refine takeL 8 15 ?_ ?_ hHeld ?_
    rotate_left
    · (intro w hSw; (try dsimp only at hSw); simp only [Box] at hSw; go_simp; try with_reducible rfl)
    simp only [Act.put, puA, puB, puC]
    refine takeL 9 6 ?_ ?_ hHeld ?_
    rotate_left
    · (intro w hSw; (try dsimp only at hSw); simp only [Box] at hSw; go_simp; try with_reducible rfl)
    simp only [Act.put, puA, puB, puC]
    refine wpAnyH_done (by kernel_rfl) ?_ _
    go_wp2
    go_ret
    exact ⟨ret_bool (by simp [sendsE, hv]), hB⟩
end Go.Proofs.YtcgjpmhjijmplaaGreatDoor

/- The program's natFreePort and natBegin, walked. -/
namespace Go.Proofs.YtcgjpmhjijmplaaGreatDoor
open Go.ChangeShapes Go.WideShapes Go.ChangeAt Go.RowKit Go.Maps

theorem taken_eq (ow k b bp port : Int) (d : En) : flowEq d.k ow d.o d.pr d.pp k ow port b bp = takenE k b bp port d := by
  rw [Bool.eq_iff_iff]
  simp only [flowEq, takenE, Bool.and_eq_true, beq_iff_eq]
  constructor
  · rintro ⟨h1, _, h3, h4, h5⟩; exact ⟨h1, h4, h5, h3⟩
  · rintro ⟨h1, h4, h5, h3⟩; exact ⟨h1, trivial, h3, h4, h5⟩
/-- What natFreePort tells beside the port. -/
def portErr (p : Int) : Value := if p = 0 then .iface 133 (.int .i64 5) else .nilIface
set_option maxRecDepth 20000 in
set_option maxHeartbeats 4000000 in
theorem freePort_ret (ad ln ow lo hi nw : Int) (da : Option Addr) (dn dc : Nat) (ea : Option Addr) (en ec : Nat) (k a ap b bp : Int) (es : List En) (w : World) (hE : EntriesAt w ea en es) (he16 : es.length ≤ 16) (h1 : 1 ≤ lo) (h2 : lo ≤ hi) (h3 : hi ≤ 65535) :
    Calls Tryz.prog 138 #[.agg #[.int .i64 ad, .int .i64 ln, .int .i64 ow, .int .i64 lo, .int .i64 hi, .slice da dn dc, .int .i64 nw, .slice ea en ec], .agg #[.int .i64 k, .int .i64 a, .int .i64 ap, .int .i64 b, .int .i64 bp]] w fun e w' => (∃ p : Int, e = .returned (.tuple #[.int .i64 p, portErr p]) ∧ FreeAt es k b bp lo hi p) ∧ Below w.heap.size w w' := by
  obtain ⟨rfl, hE⟩ := hE
  have heq := run_eql_flow
  have hgf := guardFlow
  have hb0 := bl_alloc (bl_alloc (bl_refl w) (.cells #[.int .i64 ad, .int .i64 ln, .int .i64 ow, .int .i64 lo, .int .i64 hi, .slice da dn dc, .int .i64 nw, .slice ea es.length ec] 26)) (.cells #[.int .i64 k, .int .i64 a, .int .i64 ap, .int .i64 b, .int .i64 bp] 32)
  have x1 := (Box.new w #[.int .i64 ad, .int .i64 ln, .int .i64 ow, .int .i64 lo, .int .i64 hi, .slice da dn dc, .int .i64 nw, .slice ea es.length ec] 26).below (bl_alloc (bl_refl _) (.cells #[.int .i64 k, .int .i64 a, .int .i64 ap, .int .i64 b, .int .i64 bp] 32))
  have x2 := Box.new (w.alloc (.cells #[.int .i64 ad, .int .i64 ln, .int .i64 ow, .int .i64 lo, .int .i64 hi, .slice da dn dc, .int .i64 nw, .slice ea es.length ec] 26)) #[.int .i64 k, .int .i64 a, .int .i64 ap, .int .i64 b, .int .i64 bp] 32
  simp only [World.size_alloc] at x2
  have y1 := x1.2
  go_enter Tryz.func138, Tryz.ntmps138
  go_wp2_with fail
  go_step3
  go_wp2_with fail
  go_step3
  go_wp2_with fail
  clear y1
  generalize hW0 : ((w.alloc (.cells #[.int .i64 ad, .int .i64 ln, .int .i64 ow, .int .i64 lo, .int .i64 hi, .slice da dn dc, .int .i64 nw, .slice ea es.length ec] 26)).alloc (.cells #[.int .i64 k, .int .i64 a, .int .i64 ap, .int .i64 b, .int .i64 bp] 32)) = W0 at *
  go_loopg [6] (hi + 1 - lo).toNat (fun g i wr => ∃ p : Int, g = (hi + 1 - p).toNat ∧ lo ≤ p ∧ p ≤ hi + 1 ∧ i = .int .i64 p ∧ (∀ q, lo ≤ q → q < p → es.any (takenE k b bp q) = true) ∧ Below w.heap.size w wr ∧ Below W0.heap.size W0 wr)
  case atStart => exact ⟨lo, rfl, by omega, by omega, rfl, fun q h1 h2 => absurd h1 (by omega), hb0, bl_refl _⟩
  case round =>
    obtain ⟨p, hgn, hp0, hp1, rfl, HP, hB, hC⟩ := hrel
    have HP : Hid (∀ q, lo ≤ q → q < p → es.any (takenE k b bp q) = true) := HP
    have y1 := (x1.below hC).2
    by_cases hlt : p ≤ hi
    · go_wp2_with fail
      clear y1
      go_loopg [20] es.length (fun g i wq => ∃ n : Nat, g = es.length - n ∧ n ≤ es.length ∧ i = .int .i64 n ∧ (∀ j d, j < n → es[j]? = some d → takenE k b bp p d = false) ∧ Below w.heap.size w wq ∧ Below W0.heap.size W0 wq)
      case atStart => exact ⟨0, by omega, by omega, rfl, fun _ _ h => absurd h (by omega), hB, hC⟩
      case round =>
        clear hB hC
        obtain ⟨n, hgm, hn, rfl, HD, hB, hC⟩ := hrel
        have HD : Hid (∀ j d, j < n → es[j]? = some d → takenE k b bp p d = false) := HD
        replace x1 := x1.below hC
        replace x2 := x2.below hC
        have hn16 : n ≤ 16 := by omega
        by_cases hlt2 : n < es.length
        · rcases hE with rfl | ⟨b2, o, rfl, hgl, hcs⟩
          · simp at hlt2
          · obtain ⟨d, hd⟩ : ∃ d, es[n]? = some d := ⟨es[n], by simp [hlt2]⟩
            have hcs := hcs.below hB hgl
            have hgl2 : b2 < wr.heap.size := by have := hB.size; omega
            obtain ⟨c0, c1, c2, c3, c4, c5, c6⟩ := hcs n d hd
            have hd : Hid (es[n]? = some d) := hd
            have hlt' : (n : Int) < (es.length : Int) := by omega
            have hBl := bl_alloc (bl_refl wr) (.cells #[.int .i64 d.k, .int .i64 d.pr, .int .i64 d.pp, .int .i64 d.o, .int .i64 d.i, .int .i64 d.ip, .int .i64 d.l] 52)
            have x3 := Box.new wr #[.int .i64 d.k, .int .i64 d.pr, .int .i64 d.pp, .int .i64 d.o, .int .i64 d.i, .int .i64 d.ip, .int .i64 d.l] 52
            replace x1 := x1.below hBl
            replace x2 := x2.below hBl
            go_upto_region 7 with fail
            replace hB := bl_trans hB hBl
            replace hC := bl_trans hC hBl
            clear hBl c0 c1 c2 c3 c4 c5 c6 hcs
            generalize hne : wr.heap.size = ne at *
            generalize (wr.alloc (.cells #[.int .i64 d.k, .int .i64 d.pr, .int .i64 d.pp, .int .i64 d.o, .int .i64 d.i, .int .i64 d.ip, .int .i64 d.l] 52)) = W9 at *
            by_cases ht : takenE k b bp p d = true
            · have hfe : flowEq d.k ow d.o d.pr d.pp k ow p b bp = true := by rw [taken_eq]; exact ht
              have hany : es.any (takenE k b bp p) = true := List.any_eq_true.2 ⟨d, List.mem_of_getElem? hd.out, ht⟩
              refine wp_region_held_drew (S := (fun w' => Box w' w.heap.size #[.int .i64 ad, .int .i64 ln, .int .i64 ow, .int .i64 lo, .int .i64 hi, .slice da dn dc, .int .i64 nw, .slice (some ⟨b2, o, none⟩) es.length ec] ∧ Box w' (w.heap.size + 1) #[.int .i64 k, .int .i64 a, .int .i64 ap, .int .i64 b, .int .i64 bp] ∧ Box w' ne #[.int .i64 d.k, .int .i64 d.pr, .int .i64 d.pp, .int .i64 d.o, .int .i64 d.i, .int .i64 d.ip, .int .i64 d.l])) (by kernel_rfl) ?_ (fun hHeld => ?_)
              · exact ⟨x1.below (bl_drew (bl_refl _)), x2.below (bl_drew (bl_refl _)), x3.below (bl_drew (bl_refl _))⟩
              have hB := bl_drew hB
              have hC := bl_drew hC
              have x1 := x1.below (bl_drew (bl_refl _))
              have x2 := x2.below (bl_drew (bl_refl _))
              have x3 := x3.below (bl_drew (bl_refl _))
              generalize W9.drew = W8 at x1 x2 x3 hB hC hHeld ⊢
              refine takeL 0 24 ?_ ?_ hHeld ?_
              rotate_left
              · (intro w hSw; (try dsimp only at hSw); simp only [Box] at hSw; go_simp; try with_reducible rfl)
              simp only [Act.put, puA, puB, puC]
              refine takeL 1 25 ?_ ?_ hHeld ?_
              rotate_left
              · (intro w hSw; (try dsimp only at hSw); simp only [Box] at hSw; go_simp; try with_reducible rfl)
              simp only [Act.put, puA, puB, puC]
              refine takeL 3 27 ?_ ?_ hHeld ?_
              rotate_left
              · (intro w hSw; (try dsimp only at hSw); simp only [Box] at hSw; go_simp; try with_reducible rfl)
              simp only [Act.put, puA, puB, puC]
              refine takeL 4 28 ?_ ?_ hHeld ?_
              rotate_left
              · (intro w hSw; (try dsimp only at hSw); simp only [Box] at hSw; go_simp; try with_reducible rfl)
              simp only [Act.put, puA, puB, puC]
              refine takeL 5 29 ?_ ?_ hHeld ?_
              rotate_left
              · (intro w hSw; (try dsimp only at hSw); simp only [Box] at hSw; go_simp; try with_reducible rfl)
              simp only [Act.put, puA, puB, puC]
              refine wpAnyH_ready (rs := [2]) (by kernel_rfl) (by simp) (AllReadyH.cons rfl (fun K hK => ?_) (AllReadyH.nil))
              refine step_callg 26 165 rfl (by kernel_rfl) (entryOutside_ret ad ln ow lo hi nw da dn dc (some ⟨b2, o, none⟩) es.length ec d _) (by kernel_rfl) ?_
              rintro e w1 ⟨rfl, hb⟩
              refine ⟨_, rfl, ?_⟩
              simp only [Act.put, puA, puB, puC]
              have hB := bl_trans hB hb
              have hC := bl_trans hC hb
              have x1 := x1.below hb
              have x2 := x2.below hb
              have x3 := x3.below hb
              clear hb
              refine hK.out _ _ ?_ (fun hHeld1 => ?_)
              · exact ⟨x1, x2, x3⟩
              clear hK K hHeld
              have hHeld := hHeld1
              clear hHeld1
              refine wpAnyH_ready (rs := [6]) (by kernel_rfl) (by simp) (AllReadyH.cons rfl (fun K hK => ?_) (AllReadyH.nil))
              refine step_callg 30 49 rfl (by kernel_rfl) (natOutside_ret ad ln ow lo hi nw da dn dc (some ⟨b2, o, none⟩) es.length ec k a ap b bp p _) (by kernel_rfl) ?_
              rintro e w1 ⟨rfl, hb⟩
              refine ⟨_, rfl, ?_⟩
              simp only [Act.put, puA, puB, puC]
              have hB := bl_trans hB hb
              have hC := bl_trans hC hb
              have x1 := x1.below hb
              have x2 := x2.below hb
              have x3 := x3.below hb
              clear hb
              refine hK.out _ _ ?_ (fun hHeld1 => ?_)
              · exact ⟨x1, x2, x3⟩
              clear hK K hHeld
              have hHeld := hHeld1
              clear hHeld1
              refine takeL 7 31 ?_ ?_ hHeld ?_
              rotate_left
              · (intro w hSw; (try dsimp only at hSw); simp only [Box] at hSw; go_simp; try with_reducible rfl)
              simp only [Act.put, puA, puB, puC]
              refine wpAnyH_done (by kernel_rfl) ?_ _
              go_wp2_with fail
              go_roundg (hi + 1 - (p + 1)).toNat
              case measure => omega
              case rel => exact ⟨p + 1, rfl, by omega, by omega, rfl, fun q a1 a2 => (by by_cases hq : q = p; (rw [hq]; exact hany); exact HP.out q a1 (by omega)), hB, hC⟩
            · have ht' : takenE k b bp p d = false := by simpa using ht
              have hfe : flowEq d.k ow d.o d.pr d.pp k ow p b bp = false := by rw [taken_eq]; exact ht'
              refine wp_region_held_drew (S := (fun w' => Box w' w.heap.size #[.int .i64 ad, .int .i64 ln, .int .i64 ow, .int .i64 lo, .int .i64 hi, .slice da dn dc, .int .i64 nw, .slice (some ⟨b2, o, none⟩) es.length ec] ∧ Box w' (w.heap.size + 1) #[.int .i64 k, .int .i64 a, .int .i64 ap, .int .i64 b, .int .i64 bp] ∧ Box w' ne #[.int .i64 d.k, .int .i64 d.pr, .int .i64 d.pp, .int .i64 d.o, .int .i64 d.i, .int .i64 d.ip, .int .i64 d.l])) (by kernel_rfl) ?_ (fun hHeld => ?_)
              · exact ⟨x1.below (bl_drew (bl_refl _)), x2.below (bl_drew (bl_refl _)), x3.below (bl_drew (bl_refl _))⟩
              have hB := bl_drew hB
              have hC := bl_drew hC
              have x1 := x1.below (bl_drew (bl_refl _))
              have x2 := x2.below (bl_drew (bl_refl _))
              have x3 := x3.below (bl_drew (bl_refl _))
              generalize W9.drew = W8 at x1 x2 x3 hB hC hHeld ⊢
              refine takeL 0 24 ?_ ?_ hHeld ?_
              rotate_left
              · (intro w hSw; (try dsimp only at hSw); simp only [Box] at hSw; go_simp; try with_reducible rfl)
              simp only [Act.put, puA, puB, puC]
              refine takeL 1 25 ?_ ?_ hHeld ?_
              rotate_left
              · (intro w hSw; (try dsimp only at hSw); simp only [Box] at hSw; go_simp; try with_reducible rfl)
              simp only [Act.put, puA, puB, puC]
              refine takeL 3 27 ?_ ?_ hHeld ?_
              rotate_left
              · (intro w hSw; (try dsimp only at hSw); simp only [Box] at hSw; go_simp; try with_reducible rfl)
              simp only [Act.put, puA, puB, puC]
              refine takeL 4 28 ?_ ?_ hHeld ?_
              rotate_left
              · (intro w hSw; (try dsimp only at hSw); simp only [Box] at hSw; go_simp; try with_reducible rfl)
              simp only [Act.put, puA, puB, puC]
              refine takeL 5 29 ?_ ?_ hHeld ?_
              rotate_left
              · (intro w hSw; (try dsimp only at hSw); simp only [Box] at hSw; go_simp; try with_reducible rfl)
              simp only [Act.put, puA, puB, puC]
              refine wpAnyH_ready (rs := [2]) (by kernel_rfl) (by simp) (AllReadyH.cons rfl (fun K hK => ?_) (AllReadyH.nil))
              refine step_callg 26 165 rfl (by kernel_rfl) (entryOutside_ret ad ln ow lo hi nw da dn dc (some ⟨b2, o, none⟩) es.length ec d _) (by kernel_rfl) ?_
              rintro e w1 ⟨rfl, hb⟩
              refine ⟨_, rfl, ?_⟩
              simp only [Act.put, puA, puB, puC]
              have hB := bl_trans hB hb
              have hC := bl_trans hC hb
              have x1 := x1.below hb
              have x2 := x2.below hb
              have x3 := x3.below hb
              clear hb
              refine hK.out _ _ ?_ (fun hHeld1 => ?_)
              · exact ⟨x1, x2, x3⟩
              clear hK K hHeld
              have hHeld := hHeld1
              clear hHeld1
              refine wpAnyH_ready (rs := [6]) (by kernel_rfl) (by simp) (AllReadyH.cons rfl (fun K hK => ?_) (AllReadyH.nil))
              refine step_callg 30 49 rfl (by kernel_rfl) (natOutside_ret ad ln ow lo hi nw da dn dc (some ⟨b2, o, none⟩) es.length ec k a ap b bp p _) (by kernel_rfl) ?_
              rintro e w1 ⟨rfl, hb⟩
              refine ⟨_, rfl, ?_⟩
              simp only [Act.put, puA, puB, puC]
              have hB := bl_trans hB hb
              have hC := bl_trans hC hb
              have x1 := x1.below hb
              have x2 := x2.below hb
              have x3 := x3.below hb
              clear hb
              refine hK.out _ _ ?_ (fun hHeld1 => ?_)
              · exact ⟨x1, x2, x3⟩
              clear hK K hHeld
              have hHeld := hHeld1
              clear hHeld1
              refine takeL 7 31 ?_ ?_ hHeld ?_
              rotate_left
              · (intro w hSw; (try dsimp only at hSw); simp only [Box] at hSw; go_simp; try with_reducible rfl)
              simp only [Act.put, puA, puB, puC]
              refine wpAnyH_done (by kernel_rfl) ?_ _
              go_wp2_with fail
              go_roundg (es.length - (n + 1))
              case measure => omega
              case rel => exact ⟨n + 1, rfl, by omega, by go_num, fun j y hj hy => (by rcases Nat.lt_or_ge j n with h | h; exact HD.out j y h hy; have : j = n := (by omega); subst this; rw [some_one hy hd.out]; exact ht'), hB, hC⟩
        · have hlt' : ¬ (n : Int) < (es.length : Int) := by omega
          have hnone : es.any (takenE k b bp p) = false := by
            rw [List.any_eq_false]
            intro x hx
            obtain ⟨i, hi2, rfl⟩ := List.getElem_of_mem hx
            simp [HD.out i es[i] (by omega) (by simp)]
          have hp : portErr p = .nilIface := by unfold portErr; rw [if_neg (by omega)]
          go_wp2_with fail
          exact bodyPost_ret (v := .tuple #[.int .i64 p, .nilIface]) (by simp [results, Tryz.results138, go_sem]) rfl ⟨⟨p, by rw [hp], Or.inl ⟨hp0, hlt, hnone, HP.out⟩⟩, hB⟩
    · go_wp2_with fail
      first | rw [Exit.noGoto_ret] | skip
      exact bodyPost_ret (v := .tuple #[.int .i64 0, .iface 133 (.int .i64 5)]) (by simp [results, Tryz.results138, go_sem]) rfl ⟨⟨0, rfl, Or.inr ⟨rfl, fun q a1 a2 => HP.out q a1 (by omega)⟩⟩, hB⟩
theorem bl_set7d {w0 w : World} (h : Below w0.heap.size w0 w) {n : Nat} (hn : w0.heap.size ≤ n) (a b c d e f g : Value) : Below w0.heap.size w0 (((((((w.setCell ⟨n, 0, none⟩ a).setCell ⟨n, 1, none⟩ b).setCell ⟨n, 2, none⟩ c).setCell ⟨n, 3, none⟩ d).setCell ⟨n, 4, none⟩ e).setCell ⟨n, 5, none⟩ f).setCell ⟨n, 6, none⟩ g) :=
  bl_set (bl_set (bl_set (bl_set (bl_set (bl_set (bl_set h hn a) hn b) hn c) hn d) hn e) hn f) hn g
/-- What natBegin tells. -/
def BeginAt (es : List En) (lo hi nw : Int) (k a ap b bp : Int) (r : En) (c : Int) : Prop :=
  (es.length = 16 ∧ c = 4) ∨ (es.length ≠ 16 ∧ freeP es k b bp lo hi = none ∧ c = 5) ∨ (es.length ≠ 16 ∧ ∃ p, freeP es k b bp lo hi = some p ∧ c = 0 ∧ r = ⟨k, b, bp, p, a, ap, nw⟩)
theorem run_neq_nil (w : World) : (binOp .neq 74 .nilIface .nilIface).run Tryz.prog w = .ok (.bool false) w := by kernel_rfl
set_option maxRecDepth 20000 in
set_option maxHeartbeats 4000000 in
theorem begin_ret (ad ln ow lo hi nw : Int) (da : Option Addr) (dn dc : Nat) (ea : Option Addr) (en ec : Nat) (k a ap b bp : Int) (es : List En) (w : World) (hE : EntriesAt w ea en es) (he16 : es.length ≤ 16) (h1 : 1 ≤ lo) (h2 : lo ≤ hi) (h3 : hi ≤ 65535) :
    Calls Tryz.prog 100 #[.agg #[.int .i64 ad, .int .i64 ln, .int .i64 ow, .int .i64 lo, .int .i64 hi, .slice da dn dc, .int .i64 nw, .slice ea en ec], .agg #[.int .i64 k, .int .i64 a, .int .i64 ap, .int .i64 b, .int .i64 bp]] w fun e w' => (∃ (r : En) (c : Int), e = .returned (.tuple #[.agg #[.int .i64 r.k, .int .i64 r.pr, .int .i64 r.pp, .int .i64 r.o, .int .i64 r.i, .int .i64 r.ip, .int .i64 r.l], errV c]) ∧ BeginAt es lo hi nw k a ap b bp r c) ∧ Below w.heap.size w w' := by
  have hen := hE.1
  subst hen
  have hb0 := bl_alloc (bl_alloc (bl_alloc (bl_refl w) (.cells #[.int .i64 ad, .int .i64 ln, .int .i64 ow, .int .i64 lo, .int .i64 hi, .slice da dn dc, .int .i64 nw, .slice ea es.length ec] 26)) (.cells #[.int .i64 k, .int .i64 a, .int .i64 ap, .int .i64 b, .int .i64 bp] 32)) (.cells #[.int .i64 0, .int .i64 0, .int .i64 0, .int .i64 0, .int .i64 0, .int .i64 0, .int .i64 0] 52)
  have x1 := ((Box.new w #[.int .i64 ad, .int .i64 ln, .int .i64 ow, .int .i64 lo, .int .i64 hi, .slice da dn dc, .int .i64 nw, .slice ea es.length ec] 26).below (bl_alloc (bl_refl _) (.cells #[.int .i64 k, .int .i64 a, .int .i64 ap, .int .i64 b, .int .i64 bp] 32))).below (bl_alloc (bl_refl _) (.cells #[.int .i64 0, .int .i64 0, .int .i64 0, .int .i64 0, .int .i64 0, .int .i64 0, .int .i64 0] 52))
  have x2 := (Box.new (w.alloc (.cells #[.int .i64 ad, .int .i64 ln, .int .i64 ow, .int .i64 lo, .int .i64 hi, .slice da dn dc, .int .i64 nw, .slice ea es.length ec] 26)) #[.int .i64 k, .int .i64 a, .int .i64 ap, .int .i64 b, .int .i64 bp] 32).below (bl_alloc (bl_refl _) (.cells #[.int .i64 0, .int .i64 0, .int .i64 0, .int .i64 0, .int .i64 0, .int .i64 0, .int .i64 0] 52))
  have bx := Bx.new ((w.alloc (.cells #[.int .i64 ad, .int .i64 ln, .int .i64 ow, .int .i64 lo, .int .i64 hi, .slice da dn dc, .int .i64 nw, .slice ea es.length ec] 26)).alloc (.cells #[.int .i64 k, .int .i64 a, .int .i64 ap, .int .i64 b, .int .i64 bp] 32)) #[.int .i64 0, .int .i64 0, .int .i64 0, .int .i64 0, .int .i64 0, .int .i64 0, .int .i64 0] 52
  simp only [World.size_alloc] at x2 bx
  have y1 := x1.2
  have y2 := x2.2
  go_enter Tryz.func100, Tryz.ntmps100
  by_cases h16 : es.length = 16
  · have q16 : ((es.length : Int) == 16) = true := by rw [h16]; rfl
    clear h16
    clear y1 y2 x1 x2 bx hb0
    go_wp2
    refine bodyPost_ret (v := .tuple #[.agg #[.int .i64 0, .int .i64 0, .int .i64 0, .int .i64 0, .int .i64 0, .int .i64 0, .int .i64 0], .iface 133 (.int .i64 4)]) (by simp [results, Tryz.results100, go_sem]) rfl ⟨⟨⟨0, 0, 0, 0, 0, 0, 0⟩, 4, rfl, Or.inl ⟨by have h := q16; simp at h; omega, rfl⟩⟩, ?_⟩
    repeat (first | exact bl_refl _ | apply bl_alloc | refine bl_set ?_ (by simp) _)
  · have q16 : ((es.length : Int) == 16) = false := by simpa using (fun h => h16 (by omega))
    have HF : Hid (Calls Tryz.prog _ _ _ _) := freePort_ret ad ln ow lo hi nw da dn dc ea es.length ec k a ap b bp es _ (hE.below hb0) he16 h1 h2 h3
    have h16 : Hid (es.length ≠ 16) := h16
    go_wp2_with fail
    generalize (((w.alloc (.cells #[.int .i64 ad, .int .i64 ln, .int .i64 ow, .int .i64 lo, .int .i64 hi, .slice da dn dc, .int .i64 nw, .slice ea es.length ec] 26)).alloc (.cells #[.int .i64 k, .int .i64 a, .int .i64 ap, .int .i64 b, .int .i64 bp] 32)).alloc (.cells #[.int .i64 0, .int .i64 0, .int .i64 0, .int .i64 0, .int .i64 0, .int .i64 0, .int .i64 0] 52)) = W0 at *
    refine HF.out.mono ?_
    rintro e w1 ⟨⟨p, rfl, hp⟩, hb1⟩
    replace hb0 := bl_trans hb0 hb1
    replace bx := bx.below hb1
    clear y1 y2 HF
    have y1 := (x1.below hb1).2
    have y2 := (x2.below hb1).2
    obtain ⟨⟨p1, p2⟩, p3⟩ := id bx
    have hnn := run_neq_nil
    by_cases hp0 : p = 0
    · subst hp0
      have hpe : portErr 0 = .iface 133 (.int .i64 5) := rfl
      have hfn := free_none hp h1
      rw [hpe]
      go_wp2_with fail
      refine bodyPost_ret (v := .tuple #[.agg #[.int .i64 0, .int .i64 0, .int .i64 0, .int .i64 0, .int .i64 0, .int .i64 0, .int .i64 0], .iface 133 (.int .i64 5)]) (by simp [results, Tryz.results100, go_sem, p2]) rfl ⟨⟨⟨0, 0, 0, 0, 0, 0, 0⟩, 5, rfl, Or.inr (Or.inl ⟨h16.out, hfn, rfl⟩)⟩, bl_set7d hb0 (n := w.heap.size + 1 + 1) (by omega) (.int .i64 0) (.int .i64 0) (.int .i64 0) (.int .i64 0) (.int .i64 0) (.int .i64 0) (.int .i64 0)⟩
    · have hpe : portErr p = .nilIface := by unfold portErr; rw [if_neg hp0]
      have hfs := free_some hp hp0
      clear hp0
      rw [hpe]
      go_wp2_with fail
      refine bodyPost_ret (v := .tuple #[.agg #[.int .i64 k, .int .i64 b, .int .i64 bp, .int .i64 p, .int .i64 a, .int .i64 ap, .int .i64 nw], .nilIface]) (by simp [results, Tryz.results100, go_sem, p2]) rfl ⟨⟨⟨k, b, bp, p, a, ap, nw⟩, 0, rfl, Or.inr (Or.inr ⟨h16.out, p, hfs, rfl, rfl⟩)⟩, bl_set7d hb0 (n := w.heap.size + 1 + 1) (by omega) (.int .i64 k) (.int .i64 b) (.int .i64 bp) (.int .i64 p) (.int .i64 a) (.int .i64 ap) (.int .i64 nw)⟩
end Go.Proofs.YtcgjpmhjijmplaaGreatDoor
