/- The law FnExactNatTick, walked. -/
import Derived.Test.YtcgjpmhjijmplabGreatDoorTick12
import Derived.Deep.DeepCutAuto
namespace Go.Proofs.YtcgjpmhjijmplabGreatDoor
open Go.ChangeShapes Go.WideShapes Go.ChangeAt Go.RowKit Go.Maps

theorem doorsAt_own {w : World} {base vc : Nat} {va : Option Addr} {e : TypeId} {L : List Dr} (h : w.ownsRow base e 4 (.slice va L.length vc) L.length (flatD L)) : DoorsAt w va L.length L := by
  refine ⟨rfl, ?_⟩
  rcases h.2 with ⟨h1, h2⟩ | ⟨g, cap, cur, h1, _⟩
  · exact Or.inl (List.eq_nil_of_length_eq_zero h2)
  · have hl := (h.lt g (by rw [h1]; rfl)).2
    simp only [Value.slice.injEq] at h1
    obtain ⟨rfl, -, rfl⟩ := h1
    exact Or.inr ⟨g, 0, rfl, hl, drCells_of_own h rfl⟩
theorem entriesAt_own {w : World} {base vc : Nat} {va : Option Addr} {e : TypeId} {L : List En} (h : w.ownsRow base e 7 (.slice va L.length vc) L.length (flatE L)) : EntriesAt w va L.length L := by
  refine ⟨rfl, ?_⟩
  rcases h.2 with ⟨h1, h2⟩ | ⟨g, cap, cur, h1, _⟩
  · exact Or.inl (List.eq_nil_of_length_eq_zero h2)
  · have hl := (h.lt g (by rw [h1]; rfl)).2
    simp only [Value.slice.injEq] at h1
    obtain ⟨rfl, -, rfl⟩ := h1
    exact Or.inr ⟨g, 0, rfl, hl, enCells_of_own h rfl⟩
theorem tickR_len (ad ln ow lo hi nw : Int) (ds : List Dr) (es : List En) : (tickR ad ln ow lo hi nw ds es).ds.length ≤ ds.length ∧ (tickR ad ln ow lo hi nw ds es).es.length ≤ es.length := by
  unfold tickR
  split
  · split
    · exact ⟨Nat.le_refl _, Nat.le_refl _⟩
    · exact ⟨Nat.le_refl _, List.length_filter_le _ _⟩
  · exact ⟨Nat.zero_le _, Nat.zero_le _⟩
set_option maxRecDepth 20000 in
set_option maxHeartbeats 4000000 in
theorem lawTick_ret (ad ln ow lo hi nw : Int) (da : Option Addr) (dn dc : Nat) (ea : Option Addr) (en ec : Nat) (ds : List Dr) (es : List En) (w : World) (hg : Gl w) (hd : dn ≤ maxLen) (he : en ≤ maxLen) (hD : DoorsAt w da dn ds) (hE : EntriesAt w ea en es) :
    Calls Tryz.prog 4 #[.agg #[.int .i64 ad, .int .i64 ln, .int .i64 ow, .int .i64 lo, .int .i64 hi, .slice da dn dc, .int .i64 nw, .slice ea en ec]] w fun e w' => e = .returned (.bool true) ∧ Below w.heap.size w w' := by
  obtain ⟨hrd, hre⟩ := tickR_len ad ln ow lo hi nw ds es
  have HS : Hid (∀ W da' dc' ea' ec', DoorsAt W da' dn ds → EntriesAt W ea' en es → Calls Tryz.prog 13 #[.agg #[.int .i64 ad, .int .i64 ln, .int .i64 ow, .int .i64 lo, .int .i64 hi, .slice da' dn dc', .int .i64 nw, .slice ea' en ec']] W fun e w' => ToldB w' W.heap.size e (tickR ad ln ow lo hi nw ds es) (tickC ad ln ow lo hi nw ds es) ∧ Below W.heap.size W w') := fun W _ _ _ _ h1 h2 => specTick_ret _ _ _ _ _ _ _ _ _ _ _ _ ds es W h1 h2
  have HI : Hid (∀ W da' dc' ea' ec', Gl W → DoorsAt W da' dn ds → EntriesAt W ea' en es → Calls Tryz.prog 14 #[.agg #[.int .i64 ad, .int .i64 ln, .int .i64 ow, .int .i64 lo, .int .i64 hi, .slice da' dn dc', .int .i64 nw, .slice ea' en ec']] W fun e w' => ToldB w' W.heap.size e (tickR ad ln ow lo hi nw ds es) (tickC ad ln ow lo hi nw ds es) ∧ Below W.heap.size W w') := fun W _ _ _ _ h0 h1 h2 => implTick_ret _ _ _ _ _ _ _ _ _ _ _ _ ds es W h0 h1 h2
  generalize tickR ad ln ow lo hi nw ds es = R at *
  generalize tickC ad ln ow lo hi nw ds es = c at *
  obtain ⟨rad, rln, rw, rlo, rhi, rnw, rds, res⟩ := R
  simp only at hrd hre
  have HD : Hid (∀ W, Below w.heap.size w W → DoorsAt W da dn ds) := fun W h => hD.below h
  have HE : Hid (∀ W, Below w.heap.size w W → EntriesAt W ea en es) := fun W h => hE.below h
  have hld' : dn = ds.length := hD.1
  have hle' : en = es.length := hE.1
  have hB := bl_alloc (bl_refl w) (.cells #[.int .i64 ad, .int .i64 ln, .int .i64 ow, .int .i64 lo, .int .i64 hi, .slice da dn dc, .int .i64 nw, .slice ea en ec] 25)
  have xA := Box.new w #[.int .i64 ad, .int .i64 ln, .int .i64 ow, .int .i64 lo, .int .i64 hi, .slice da dn dc, .int .i64 nw, .slice ea en ec] 25
  have hq := fun W => szB_ret ad ln ow lo hi nw da dn dc ea en ec W hd he
  have hsz : 0 ≤ szI dn en → dn ≤ 1048576 ∧ en ≤ 1048576 := by
    unfold szI subI
    repeat' split
    all_goals omega
  clear hD hE
  generalize szI dn en = left at hq hsz
  by_cases hl : left < 0
  · clear hsz hld' hle'
    go_enter Tryz.func4, Tryz.ntmps4
    go_wp2_with fail
    refine (hq _).mono ?_
    rintro e w1 ⟨rfl, hb1⟩
    go_wp2
    go_ret
    exact ⟨rfl, bl_trans hB hb1⟩
  · obtain ⟨hld0, hle0⟩ := hsz (by omega)
    have hld : ds.length ≤ 1048576 := by omega
    have hle : es.length ≤ 1048576 := by omega
    have hg : Hid (Gl w) := hg
    clear hsz hld' hle'
    go_enter Tryz.func4, Tryz.ntmps4
    go_wp2_with fail
    refine (hq _).mono ?_
    rintro e w1 ⟨rfl, hb⟩
    replace xA := xA.below hb
    replace hB := bl_trans hB hb
    clear hb hq
    have yA := xA.2
    go_wp2_with fail
    refine (toBook_ret _ _ _ _ _ _ _ _ _ _ _ _ ds es _ hld hle (HD.out _ hB) (HE.out _ hB)).mono ?_
    rintro e w2 ⟨g1, g2, rfl, hb, hDx, hEx⟩
    replace xA := xA.below hb
    replace hB := bl_trans hB hb
    clear hb yA
    go_wp2_with fail
    refine (HS.out _ _ _ _ _ hDx hEx).mono ?_
    rintro e w3 ⟨⟨va, vc, ua, uc, rfl, hO⟩, hb⟩
    have hBl := bl_alloc (bl_refl w3) (.cells #[.int .i64 rad, .int .i64 rln, .int .i64 rw, .int .i64 rlo, .int .i64 rhi, .slice va rds.length vc, .int .i64 rnw, .slice ua res.length uc] 35)
    have x4 := Box.new w3 #[.int .i64 rad, .int .i64 rln, .int .i64 rw, .int .i64 rlo, .int .i64 rhi, .slice va rds.length vc, .int .i64 rnw, .slice ua res.length uc] 35
    have hb := bl_trans hb hBl
    replace xA := xA.below hb
    replace hB := bl_trans hB hb
    replace hO := hO.below hBl
    clear hb hBl hDx hEx
    go_upto_region 6 with fail
    have hn4 := x4.1
    generalize w3.heap.size = n4 at *
    generalize w3.alloc (.cells #[.int .i64 rad, .int .i64 rln, .int .i64 rw, .int .i64 rlo, .int .i64 rhi, .slice va rds.length vc, .int .i64 rnw, .slice ua res.length uc] 35) = W4 at *
    have hOd4 : ∀ k, (Value.slice va rds.length vc).ownBlock = some k → k < W4.heap.size := fun k h => (hO.1.lt k h).2
    have hOe4 : ∀ k, (Value.slice ua res.length uc).ownBlock = some k → k < W4.heap.size := fun k h => (hO.2.1.lt k h).2
    have yA := xA.2
    have zA := xA.1
    go_wp2_with fail
    refine (toBook_own _ _ _ _ _ _ _ _ _ _ _ _ ds es _ hld hle (HD.out _ hB) (HE.out _ hB)).mono ?_
    rintro e w5 ⟨g3, g4, rfl, hb, hDx, hEx, hg3, hg34, hg4, f3, f4⟩
    have hBl := bl_alloc (bl_refl w5) (.cells #[.int .i64 ad, .int .i64 ln, .int .i64 ow, .int .i64 lo, .int .i64 hi, .slice (some ⟨g3, 0, none⟩) dn dn, .int .i64 nw, .slice (some ⟨g4, 0, none⟩) en en] 35)
    have xO := Box.new w5 #[.int .i64 ad, .int .i64 ln, .int .i64 ow, .int .i64 lo, .int .i64 hi, .slice (some ⟨g3, 0, none⟩) dn dn, .int .i64 nw, .slice (some ⟨g4, 0, none⟩) en en] 35
    have r3 := (rowed_doors hDx (by omega) f3).far (row := none) (far_of_bl hBl) (by simp)
    have r4 := (rowed_entries hEx hg4 f4).far (row := none) (far_of_bl hBl) (by simp)
    clear f3 f4
    have hb := bl_trans hb hBl
    replace xA := xA.below hb
    replace x4 := x4.below hb
    replace hO := hO.below hb
    replace hB := bl_trans hB hb
    replace hDx := hDx.below hBl
    replace hEx := hEx.below hBl
    clear hb hBl yA
    go_upto_region 7 with fail
    have hg4 : g4 < w5.heap.size := hg4
    have hw5 : w5.heap.size < (w5.alloc (.cells #[.int .i64 ad, .int .i64 ln, .int .i64 ow, .int .i64 lo, .int .i64 hi, .slice (some ⟨g3, 0, none⟩) dn dn, .int .i64 nw, .slice (some ⟨g4, 0, none⟩) en en] 35)).heap.size := by simp
    generalize w5.heap.size = nO at *
    generalize w5.alloc (.cells #[.int .i64 ad, .int .i64 ln, .int .i64 ow, .int .i64 lo, .int .i64 hi, .slice (some ⟨g3, 0, none⟩) dn dn, .int .i64 nw, .slice (some ⟨g4, 0, none⟩) en en] 35) = W6 at *
    have yO := xO.2
    have zO := xO.1
    go_wp2_with fail
    refine (HI.out _ _ _ _ _ (hg.out.below hB) hDx hEx).mono ?_
    rintro e w7 ⟨⟨va2, vc2, ua2, uc2, rfl, hP⟩, hb⟩
    have hw7 := hb.size
    have hBl := bl_alloc (bl_refl w7) (.cells #[.int .i64 rad, .int .i64 rln, .int .i64 rw, .int .i64 rlo, .int .i64 rhi, .slice va2 rds.length vc2, .int .i64 rnw, .slice ua2 res.length uc2] 35)
    have x7 := Box.new w7 #[.int .i64 rad, .int .i64 rln, .int .i64 rw, .int .i64 rlo, .int .i64 rhi, .slice va2 rds.length vc2, .int .i64 rnw, .slice ua2 res.length uc2] 35
    have hb := bl_trans hb hBl
    replace xA := xA.below hb
    replace x4 := x4.below hb
    replace xO := xO.below hb
    replace hO := hO.below hb
    replace hB := bl_trans hB hb
    replace hDx := hDx.below hb
    replace hEx := hEx.below hb
    replace r3 := r3.far (row := none) (far_of_bl hb) (by simp)
    replace r4 := r4.far (row := none) (far_of_bl hb) (by simp)
    have hPd7 : ∀ k, (Value.slice va2 rds.length vc2).ownBlock = some k → k < w7.heap.size := fun k h => (hP.1.lt k h).2
    have hPe7 : ∀ k, (Value.slice ua2 res.length uc2).ownBlock = some k → k < w7.heap.size := fun k h => (hP.2.1.lt k h).2
    replace hP := hP.below hBl
    clear hb hBl yO
    go_upto_region 8 with fail
    generalize w7.heap.size = n7 at *
    generalize w7.alloc (.cells #[.int .i64 rad, .int .i64 rln, .int .i64 rw, .int .i64 rlo, .int .i64 rhi, .slice va2 rds.length vc2, .int .i64 rnw, .slice ua2 res.length uc2] 35) = W8 at *
    have y4 := x4.2
    have y7 := x7.2
    have z4 := x4.1
    have z7 := x7.1
    go_wp2_with fail
    refine (eqBook_same rad rln rw rlo rhi rnw va2 va rds.length vc2 vc ua2 ua res.length uc2 uc rds res _ (by omega) (by omega) (doorsAt_own hP.1) (entriesAt_own hP.2.1) (doorsAt_own hO.1) (entriesAt_own hO.2.1)).mono ?_
    rintro e w9 ⟨rfl, hb⟩
    replace xA := xA.below hb
    replace x4 := x4.below hb
    replace x7 := x7.below hb
    replace xO := xO.below hb
    replace hO := hO.below hb
    replace hP := hP.below hb
    replace hB := bl_trans hB hb
    replace hDx := hDx.below hb
    replace hEx := hEx.below hb
    replace r3 := r3.far (row := none) (far_of_bl hb) (by simp)
    replace r4 := r4.far (row := none) (far_of_bl hb) (by simp)
    clear hb y4 y7
    go_wp2_with fail
    refine wp_region_held_drew (S := (fun w' => Box w' nO #[.int .i64 ad, .int .i64 ln, .int .i64 ow, .int .i64 lo, .int .i64 hi, .slice (some ⟨g3, 0, none⟩) dn dn, .int .i64 nw, .slice (some ⟨g4, 0, none⟩) en en] ∧ Box w' w.heap.size #[.int .i64 ad, .int .i64 ln, .int .i64 ow, .int .i64 lo, .int .i64 hi, .slice da dn dc, .int .i64 nw, .slice ea en ec])) (by kernel_rfl) ?_ (fun hHeld => ?_)
    · exact ⟨xO.below (bl_drew (bl_refl _)), xA.below (bl_drew (bl_refl _))⟩
    have hq := bl_drew (bl_refl w9)
    replace hB := bl_trans hB hq
    replace xA := xA.below hq
    replace x4 := x4.below hq
    replace x7 := x7.below hq
    replace hO := hO.below hq
    replace hP := hP.below hq
    replace r3 := r3.far (row := none) (far_of_bl hq) (by simp)
    replace r4 := r4.far (row := none) (far_of_bl hq) (by simp)
    replace xO := xO.below hq
    replace hDx := hDx.below hq
    replace hEx := hEx.below hq
    clear hq
    generalize w9.drew = W0 at xA x4 x7 hO hP r3 r4 xO hDx hEx hB hHeld ⊢
    refine takeAt (i := 0) (d := 41) (v := ?_) rfl (by kernel_rfl) (by kernel_rfl) (by kernel_rfl) (by kernel_rfl) (fun _ _ _ h => h) (Or.inl ⟨by kernel_rfl, ?_⟩) hHeld ?_
    rotate_left
    · (intro w hSw; (try dsimp only at hSw); simp only [Box] at hSw; go_simp; try with_reducible rfl)
    simp only [Act.put, List.setIfInBounds_toArray, List.set_cons_zero, List.set_cons_succ]
    refine takeAt (i := 1) (d := 42) (v := ?_) rfl (by kernel_rfl) (by kernel_rfl) (by kernel_rfl) (by kernel_rfl) (fun _ _ _ h => h) (Or.inl ⟨by kernel_rfl, ?_⟩) hHeld ?_
    rotate_left
    · (intro w hSw; (try dsimp only at hSw); simp only [Box] at hSw; go_simp; try with_reducible rfl)
    simp only [Act.put, List.setIfInBounds_toArray, List.set_cons_zero, List.set_cons_succ]
    refine wpAnyH_ready (rs := [2]) (by kernel_rfl) (by simp) (AllReadyH.cons rfl (fun K hK => ?_) (AllReadyH.nil))
    refine step_callg 43 8 rfl (by kernel_rfl) (toBook_ret ad ln ow lo hi nw da dn dc ea en ec ds es _ hld hle (HD.out _ hB) (HE.out _ hB)) (by kernel_rfl) ?_
    rintro e W ⟨g5, g6, rfl, hb, hDy, hEy⟩
    refine ⟨_, rfl, ?_⟩
    simp only [Act.put, List.setIfInBounds_toArray, List.set_cons_zero, List.set_cons_succ]
    replace xA := xA.below hb
    replace x4 := x4.below hb
    replace x7 := x7.below hb
    replace hO := hO.below hb
    replace hP := hP.below hb
    replace r3 := r3.far (row := none) (far_of_bl hb) (by simp)
    replace r4 := r4.far (row := none) (far_of_bl hb) (by simp)
    replace xO := xO.below hb
    replace hDx := hDx.below hb
    replace hEx := hEx.below hb
    replace hB := bl_trans hB hb
    clear hb
    refine hK.out _ _ ?_ (fun hHeld1 => ?_)
    · exact ⟨xO, xA⟩
    clear hK K hHeld
    have hHeld := hHeld1
    clear hHeld1
    refine wpAnyH_ready (rs := [3]) (by kernel_rfl) (by simp) (AllReadyH.cons rfl (fun K hK => ?_) (AllReadyH.nil))
    refine step_callg 44 12 rfl (by kernel_rfl) (eqBook_same ad ln ow lo hi nw _ _ dn dn dn _ _ en en en ds es _ hld hle hDx hEx hDy hEy) (by kernel_rfl) ?_
    rintro e W ⟨rfl, hb⟩
    refine ⟨_, rfl, ?_⟩
    simp only [Act.put, List.setIfInBounds_toArray, List.set_cons_zero, List.set_cons_succ]
    replace xA := xA.below hb
    replace x4 := x4.below hb
    replace x7 := x7.below hb
    replace hO := hO.below hb
    replace hP := hP.below hb
    replace r3 := r3.far (row := none) (far_of_bl hb) (by simp)
    replace r4 := r4.far (row := none) (far_of_bl hb) (by simp)
    replace xO := xO.below hb
    replace hDx := hDx.below hb
    replace hEx := hEx.below hb
    replace hB := bl_trans hB hb
    clear hb
    refine hK.out _ _ ?_ (fun hHeld1 => ?_)
    · exact ⟨xO, xA⟩
    clear hK K hHeld
    have hHeld := hHeld1
    clear hHeld1
    have xO2 := xO
    refine takeAt (i := 4) (d := 45) (v := ?_) rfl (by kernel_rfl) (by kernel_rfl) (by kernel_rfl) (by kernel_rfl) (fun _ _ _ h => h) (Or.inl ⟨by kernel_rfl, ?_⟩) hHeld ?_
    rotate_left
    · (intro w hSw; (try dsimp only at hSw); simp only [Box] at hSw; go_simp; try with_reducible rfl)
    simp only [Act.put, List.setIfInBounds_toArray, List.set_cons_zero, List.set_cons_succ]
    refine wpAnyH_done (by kernel_rfl) ?_ _
    clear hHeld xO hDx hEx
    have z4 := x4.1
    have z7 := x7.1
    have yO := xO2.2
    go_wp2_with fail
    refine (markBook_rowed ad ln ow lo hi nw g3 dn dn g4 en en _ r3 r4 (by omega) (by omega) (by omega)).mono ?_
    rintro e v1 ⟨rfl, hF⟩
    clear r3 r4 yO xO2
    replace xA := hF.box xA (by simp only [ne_eq, Option.some.injEq]; omega) (by simp only [ne_eq, Option.some.injEq]; omega)
    replace x4 := hF.box x4 (by simp only [ne_eq, Option.some.injEq]; omega) (by simp only [ne_eq, Option.some.injEq]; omega)
    replace x7 := hF.box x7 (by simp only [ne_eq, Option.some.injEq]; omega) (by simp only [ne_eq, Option.some.injEq]; omega)
    replace hO := hO.far2 hF (fun k e => (by have := hOd4 k e; simp only [ne_eq, Option.some.injEq]; omega)) (fun k e => (by have := hOe4 k e; simp only [ne_eq, Option.some.injEq]; omega))
    replace hP := hP.far2 hF (fun k e => (by have := (hP.1.lt k e).1; simp only [ne_eq, Option.some.injEq]; omega)) (fun k e => (by have := (hP.2.1.lt k e).1; simp only [ne_eq, Option.some.injEq]; omega))
    replace hB := hF.bl hB (fun k e => (by simp only [Option.some.injEq] at e; omega)) (fun k e => (by simp only [Option.some.injEq] at e; omega))
    clear hF
    have k0 : ¬ ((1 : Int) + (dn * 4 : Nat) + (en * 7 : Nat) < 0) := by omega
    have y4 := x4.2
    have y7 := x7.2
    go_wp2_with fail
    refine (eqBook_same rad rln rw rlo rhi rnw va2 va rds.length vc2 vc ua2 ua res.length uc2 uc rds res _ (by omega) (by omega) (doorsAt_own hP.1) (entriesAt_own hP.2.1) (doorsAt_own hO.1) (entriesAt_own hO.2.1)).mono ?_
    rintro e v2 ⟨rfl, hb⟩
    replace xA := xA.below hb
    replace x4 := x4.below hb
    replace x7 := x7.below hb
    replace hO := hO.below hb
    replace hP := hP.below hb
    replace hB := bl_trans hB hb
    clear hb y4 y7 k0
    have y7 := x7.2
    go_wp2_with fail
    refine (markBook_ret rad rln rw rlo rhi rnw va2 rds.length vc2 ua2 res.length uc2 _ _ _ _ hP.1 hP.2.1 hP.2.2 (by omega) (by omega)).mono ?_
    rintro e v3 ⟨rfl, hF, hM, hN⟩
    replace xA := hF.box xA (fun e => (by have := (hP.1.lt _ e).1; omega)) (fun e => (by have := (hP.2.1.lt _ e).1; omega))
    replace x4 := hF.box x4 (fun e => (by have := (hP.1.lt _ e).1; omega)) (fun e => (by have := (hP.2.1.lt _ e).1; omega))
    replace x7 := hF.box x7 (fun e => (by have := hPd7 _ e; omega)) (fun e => (by have := hPe7 _ e; omega))
    replace hO := hO.far2 hF (fun k e => ⟨fun e2 => (by have := hOd4 k e; have := (hP.1.lt k e2).1; omega), fun e2 => (by have := hOd4 k e; have := (hP.2.1.lt k e2).1; omega)⟩) (fun k e => ⟨fun e2 => (by have := hOe4 k e; have := (hP.1.lt k e2).1; omega), fun e2 => (by have := hOe4 k e; have := (hP.2.1.lt k e2).1; omega)⟩)
    replace hB := hF.bl hB (fun k e => (by have := (hP.1.lt k e).1; omega)) (fun k e => (by have := (hP.2.1.lt k e).1; omega))
    clear hF hP y7
    have y7 := x7.2
    go_wp2_with fail
    refine (heldBook_ret rad rln rw rlo rhi rnw va2 rds.length vc2 ua2 res.length uc2 _ hM hN (by omega) (by omega)).mono ?_
    rintro e v4 ⟨rfl, hb⟩
    replace xA := xA.below hb
    replace x4 := x4.below hb
    replace x7 := x7.below hb
    replace hO := hO.below hb
    replace hM := hM.far (row := none) (far_of_bl hb) (fun g _ h => by cases h)
    replace hN := hN.far (row := none) (far_of_bl hb) (fun g _ h => by cases h)
    replace hB := bl_trans hB hb
    clear hb y7
    have k0 : ¬ ((1 : Int) + (rds.length * 4 : Nat) + (res.length * 7 : Nat) < 0) := by omega
    have yA := xA.2
    go_wp2_with fail
    refine (toBook_ret _ _ _ _ _ _ _ _ _ _ _ _ ds es _ hld hle (HD.out _ hB) (HE.out _ hB)).mono ?_
    rintro e v5 ⟨g5, g6, rfl, hb, hDx, hEx⟩
    replace x4 := x4.below hb
    replace x7 := x7.below hb
    replace hO := hO.below hb
    replace hM := hM.far (row := none) (far_of_bl hb) (fun g _ h => by cases h)
    replace hN := hN.far (row := none) (far_of_bl hb) (fun g _ h => by cases h)
    replace hB := bl_trans hB hb
    clear hb yA xA
    go_wp2_with fail
    refine (HI.out _ _ _ _ _ (hg.out.below hB) hDx hEx).mono ?_
    rintro e v6 ⟨⟨va3, vc3, ua3, uc3, rfl, hQ⟩, hb⟩
    have hBl := bl_alloc (bl_refl v6) (.cells #[.int .i64 rad, .int .i64 rln, .int .i64 rw, .int .i64 rlo, .int .i64 rhi, .slice va3 rds.length vc3, .int .i64 rnw, .slice ua3 res.length uc3] 35)
    have x12 := Box.new v6 #[.int .i64 rad, .int .i64 rln, .int .i64 rw, .int .i64 rlo, .int .i64 rhi, .slice va3 rds.length vc3, .int .i64 rnw, .slice ua3 res.length uc3] 35
    have hb := bl_trans hb hBl
    replace x4 := x4.below hb
    replace x7 := x7.below hb
    replace hO := hO.below hb
    replace hQ := hQ.below hBl
    replace hM := hM.far (row := none) (far_of_bl hb) (fun g _ h => by cases h)
    replace hN := hN.far (row := none) (far_of_bl hb) (fun g _ h => by cases h)
    replace hB := bl_trans hB hb
    clear hb hBl hDx hEx
    go_upto_region 25 with fail
    generalize v6.heap.size = n12 at *
    generalize v6.alloc (.cells #[.int .i64 rad, .int .i64 rln, .int .i64 rw, .int .i64 rlo, .int .i64 rhi, .slice va3 rds.length vc3, .int .i64 rnw, .slice ua3 res.length uc3] 35) = V7 at *
    have y4 := x4.2
    have y12 := x12.2
    have z4 := x4.1
    have z12 := x12.1
    go_wp2_with fail
    refine (eqBook_same rad rln rw rlo rhi rnw va3 va rds.length vc3 vc ua3 ua res.length uc3 uc rds res _ (by omega) (by omega) (doorsAt_own hQ.1) (entriesAt_own hQ.2.1) (doorsAt_own hO.1) (entriesAt_own hO.2.1)).mono ?_
    rintro e v8 ⟨rfl, hb⟩
    replace x7 := x7.below hb
    replace hM := hM.far (row := none) (far_of_bl hb) (fun g _ h => by cases h)
    replace hN := hN.far (row := none) (far_of_bl hb) (fun g _ h => by cases h)
    replace hB := bl_trans hB hb
    clear hb y4 y12 x4 x12 hO hQ
    have y7 := x7.2
    go_wp2_with fail
    refine (heldBook_ret rad rln rw rlo rhi rnw va2 rds.length vc2 ua2 res.length uc2 _ hM hN (by omega) (by omega)).mono ?_
    rintro e v9 ⟨rfl, hb⟩
    replace hB := bl_trans hB hb
    clear hb y7
    go_wp2_with fail
    go_ret
    exact ⟨rfl, hB⟩
end Go.Proofs.YtcgjpmhjijmplabGreatDoor
