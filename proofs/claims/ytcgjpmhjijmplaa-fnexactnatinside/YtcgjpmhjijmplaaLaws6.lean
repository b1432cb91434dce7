/- The exact laws of chapter 2, walked: FnExactNatBookOk, FnExactNatInside. -/
import Derived.Test.YtcgjpmhjijmplaaLaws5
namespace Go.Proofs.Ytcgjpmhjijmplaa
open Go.ChangeShapes Go.WideShapes Go.ChangeAt Go.RowKit Go.Maps

theorem implBook_ret (ad ln ow lo hi nw : Int) (da : Option Addr) (dn dc : Nat) (ea : Option Addr) (en ec : Nat) (ds : List Dr) (es : List En) (w : World) (hD : DoorsAt w da dn ds) (hE : EntriesAt w ea en es) :
    Calls Try.prog 18 #[.agg #[.int .i64 ad, .int .i64 ln, .int .i64 ow, .int .i64 lo, .int .i64 hi, .slice da dn dc, .int .i64 nw, .slice ea en ec]] w fun e w' => e = .returned (.bool (bookB ad ln ow lo hi nw ds es)) ∧ Below w.heap.size w w' := by
  rw [← ibook_eq]
  exact implBookOk_ret ad ln ow lo hi nw da dn dc ea en ec ds es w hD hE
theorem implInside_ret (ad ln ow lo hi nw : Int) (da : Option Addr) (dn dc : Nat) (ea : Option Addr) (en ec : Nat) (x : Int) (ds : List Dr) (es : List En) (w : World) (hD : DoorsAt w da dn ds) (hE : EntriesAt w ea en es) :
    Calls Try.prog 21 #[.agg #[.int .i64 ad, .int .i64 ln, .int .i64 ow, .int .i64 lo, .int .i64 hi, .slice da dn dc, .int .i64 nw, .slice ea en ec], .int .i64 x] w fun e w' => e = .returned (.bool (bookB ad ln ow lo hi nw ds es && insB ad ln x)) ∧ Below w.heap.size w w' := by
  have hb := bl_alloc (bl_refl w) (.cells #[.int .i64 ad, .int .i64 ln, .int .i64 ow, .int .i64 lo, .int .i64 hi, .slice da dn dc, .int .i64 nw, .slice ea en ec] 42)
  have hX := Box.new w #[.int .i64 ad, .int .i64 ln, .int .i64 ow, .int .i64 lo, .int .i64 hi, .slice da dn dc, .int .i64 nw, .slice ea en ec] 42
  have hD1 : Hid (DoorsAt (w.alloc (.cells #[.int .i64 ad, .int .i64 ln, .int .i64 ow, .int .i64 lo, .int .i64 hi, .slice da dn dc, .int .i64 nw, .slice ea en ec] 42)) da dn ds) := hD.below hb
  have hE1 : Hid (EntriesAt (w.alloc (.cells #[.int .i64 ad, .int .i64 ln, .int .i64 ow, .int .i64 lo, .int .i64 hi, .slice da dn dc, .int .i64 nw, .slice ea en ec] 42)) ea en es) := hE.below hb
  by_cases hk : bookB ad ln ow lo hi nw ds es = true
  · have hf : frameB ad ln ow lo hi nw = true := by simp [bookB] at hk; exact hk.1.1
    obtain ⟨⟨l0, l1⟩, ⟨a0, a1⟩, _, _, _⟩ := frameB_true hf
    go_enter Try.func21, Try.ntmps21
    go_wp2_with fail
    refine (implBook_ret _ _ _ _ _ _ _ _ _ _ _ _ ds es _ hD1.out hE1.out).mono ?_
    rintro e w1 ⟨rfl, hb1⟩
    have hB1 := bl_trans hb hb1
    have hX1 := hX.below hb1
    have hx1 := hX1.2
    go_wp2_with fail
    refine (isInside_ret _ _ _ _ _ _ _ _ _ _ _ _ _ _ l0 l1 a0 a1).mono ?_
    rintro e w2 ⟨rfl, hb2⟩
    have hB2 := bl_trans hB1 hb2
    go_wp2
    go_ret
    exact ⟨ret_bool (by simp [hk]), hB2⟩
  · have hk' : bookB ad ln ow lo hi nw ds es = false := by simpa using hk
    go_enter Try.func21, Try.ntmps21
    go_wp2_with fail
    refine (implBook_ret _ _ _ _ _ _ _ _ _ _ _ _ ds es _ hD1.out hE1.out).mono ?_
    rintro e w1 ⟨rfl, hb1⟩
    have hB1 := bl_trans hb hb1
    go_wp2
    go_ret
    exact ⟨ret_bool (by simp [hk']), hB1⟩

set_option maxHeartbeats 4000000 in
theorem lawBookOk_ret (ad ln ow lo hi nw : Int) (da : Option Addr) (dn dc : Nat) (ea : Option Addr) (en ec : Nat) (ds : List Dr) (es : List En) (w : World) (hd : dn ≤ maxLen) (he : en ≤ maxLen) (hD : DoorsAt w da dn ds) (hE : EntriesAt w ea en es) :
    Calls Try.prog 6 #[.agg #[.int .i64 ad, .int .i64 ln, .int .i64 ow, .int .i64 lo, .int .i64 hi, .slice da dn dc, .int .i64 nw, .slice ea en ec]] w fun e w' => e = .returned (.bool true) ∧ Below w.heap.size w w' := by
  have HD : Hid (∀ W, Below w.heap.size w W → DoorsAt W da dn ds) := fun W h => hD.below h
  have HE : Hid (∀ W, Below w.heap.size w W → EntriesAt W ea en es) := fun W h => hE.below h
  have hld' : dn = ds.length := hD.1
  have hle' : en = es.length := hE.1
  have hxA := Box.new w #[.int .i64 ad, .int .i64 ln, .int .i64 ow, .int .i64 lo, .int .i64 hi, .slice da dn dc, .int .i64 nw, .slice ea en ec] 36
  have hB0 := bl_alloc (bl_refl w) (.cells #[.int .i64 ad, .int .i64 ln, .int .i64 ow, .int .i64 lo, .int .i64 hi, .slice da dn dc, .int .i64 nw, .slice ea en ec] 36)
  have hq := fun W => szB_ret ad ln ow lo hi nw da dn dc ea en ec W hd he
  have hsz : 0 ≤ szI dn en → dn ≤ 1048576 ∧ en ≤ 1048576 := by
    unfold szI subI
    repeat' split
    all_goals omega
  clear hD hE
  generalize szI dn en = left at hq hsz
  by_cases hl : left < 0
  · clear hsz hld' hle'
    go_enter Try.func6, Try.ntmps6
    go_wp2_with fail
    refine (hq _).mono ?_
    rintro e w1 ⟨rfl, hb1⟩
    go_wp2
    go_ret
    exact ⟨rfl, bl_trans hB0 hb1⟩
  · obtain ⟨hld0, hle0⟩ := hsz (by omega)
    have hld : ds.length ≤ 1048576 := by omega
    have hle : es.length ≤ 1048576 := by omega
    clear hsz hld0 hle0 hld' hle'
    go_enter Try.func6, Try.ntmps6
    go_wp2_with fail
    refine (hq _).mono ?_
    rintro e w1 ⟨rfl, hb1⟩
    have xA1 := hxA.below hb1
    have hB1 := bl_trans hB0 hb1
    have yA1 := xA1.2
    go_wp2_with fail
    refine (toBook_ret _ _ _ _ _ _ _ _ _ _ _ _ ds es _ hld hle (HD.out _ hB1) (HE.out _ hB1)).mono ?_
    rintro e w2 ⟨g1, g2, rfl, hb2, hD2, hE2⟩
    have xA2 := xA1.below hb2
    have hB2 := bl_trans hB1 hb2
    have H3 : Hid (Calls Try.prog _ #[.agg #[.int .i64 ad, .int .i64 ln, .int .i64 ow, .int .i64 lo, .int .i64 hi, .slice (some ⟨g1, 0, none⟩) dn dn, .int .i64 nw, .slice (some ⟨g2, 0, none⟩) en en]] w2 _) := specBookOk_ret _ _ _ _ _ _ _ _ _ _ _ _ ds es _ hD2 hE2
    clear hD2 hE2 yA1
    go_wp2_with fail
    refine H3.out.mono ?_
    clear H3
    rintro e w3 ⟨rfl, hb3⟩
    have xA3 := xA2.below hb3
    have hB3 := bl_trans hB2 hb3
    have yA3 := xA3.2
    go_wp2_with fail
    refine (toBook_ret _ _ _ _ _ _ _ _ _ _ _ _ ds es _ hld hle (HD.out _ hB3) (HE.out _ hB3)).mono ?_
    rintro e w4 ⟨g3, g4, rfl, hb4, hD4, hE4⟩
    have xA4 := xA3.below hb4
    have hB4 := bl_trans hB3 hb4
    have hbo := bl_alloc (bl_refl w4) (.cells #[.int .i64 ad, .int .i64 ln, .int .i64 ow, .int .i64 lo, .int .i64 hi, .slice (some ⟨g3, 0, none⟩) dn dn, .int .i64 nw, .slice (some ⟨g4, 0, none⟩) en en] 42)
    have xO := Box.new w4 #[.int .i64 ad, .int .i64 ln, .int .i64 ow, .int .i64 lo, .int .i64 hi, .slice (some ⟨g3, 0, none⟩) dn dn, .int .i64 nw, .slice (some ⟨g4, 0, none⟩) en en] 42
    have hD4o : Hid (DoorsAt _ (some ⟨g3, 0, none⟩) dn ds) := hD4.below hbo
    have hE4o : Hid (EntriesAt _ (some ⟨g4, 0, none⟩) en es) := hE4.below hbo
    have H5 : Hid (Calls Try.prog _ #[.agg #[.int .i64 ad, .int .i64 ln, .int .i64 ow, .int .i64 lo, .int .i64 hi, .slice (some ⟨g3, 0, none⟩) dn dn, .int .i64 nw, .slice (some ⟨g4, 0, none⟩) en en]] (w4.alloc (.cells #[.int .i64 ad, .int .i64 ln, .int .i64 ow, .int .i64 lo, .int .i64 hi, .slice (some ⟨g3, 0, none⟩) dn dn, .int .i64 nw, .slice (some ⟨g4, 0, none⟩) en en] 42)) _) := implBook_ret _ _ _ _ _ _ _ _ _ _ _ _ ds es _ hD4o.out hE4o.out
    clear hD4 hE4 yA3 xA1 xA2 hb1 hb2 hb3
    go_wp2_with fail
    refine H5.out.mono ?_
    clear H5
    rintro e w5 ⟨rfl, hb5⟩
    have xA5 := (xA4.below hbo).below hb5
    have xO5 := xO.below hb5
    have hB5 := bl_trans (bl_trans hB4 hbo) hb5
    have hD5 : Hid (DoorsAt w5 (some ⟨g3, 0, none⟩) dn ds) := hD4o.out.below hb5
    have hE5 : Hid (EntriesAt w5 (some ⟨g4, 0, none⟩) en es) := hE4o.out.below hb5
    have yA5 := xA5.2
    have yO5 := xO5.2
    clear hD4o hE4o xA3 xA4 xO hbo hb4 hb5 hxA
    generalize (bookB ad ln ow lo hi nw ds es) = r
    go_wp2_with fail
    refine wp_region_held_drew (S := (fun w' => w'.cell? ⟨w.heap.size, 0, none⟩ = some (.int .i64 ad) ∧ w'.cell? ⟨w.heap.size, 1, none⟩ = some (.int .i64 ln) ∧ w'.cell? ⟨w.heap.size, 2, none⟩ = some (.int .i64 ow) ∧ w'.cell? ⟨w.heap.size, 3, none⟩ = some (.int .i64 lo) ∧ w'.cell? ⟨w.heap.size, 4, none⟩ = some (.int .i64 hi) ∧ w'.cell? ⟨w.heap.size, 5, none⟩ = some (.slice da dn dc) ∧ w'.cell? ⟨w.heap.size, 6, none⟩ = some (.int .i64 nw) ∧ w'.cell? ⟨w.heap.size, 7, none⟩ = some (.slice ea en ec) ∧ w'.cell? ⟨w4.heap.size, 0, none⟩ = some (.int .i64 ad) ∧ w'.cell? ⟨w4.heap.size, 1, none⟩ = some (.int .i64 ln) ∧ w'.cell? ⟨w4.heap.size, 2, none⟩ = some (.int .i64 ow) ∧ w'.cell? ⟨w4.heap.size, 3, none⟩ = some (.int .i64 lo) ∧ w'.cell? ⟨w4.heap.size, 4, none⟩ = some (.int .i64 hi) ∧ w'.cell? ⟨w4.heap.size, 5, none⟩ = some (.slice (some ⟨g3, 0, none⟩) dn dn) ∧ w'.cell? ⟨w4.heap.size, 6, none⟩ = some (.int .i64 nw) ∧ w'.cell? ⟨w4.heap.size, 7, none⟩ = some (.slice (some ⟨g4, 0, none⟩) en en))) (by kernel_rfl) ?_ (fun hHeld => ?_)
    · go_keep
    refine takeAt (i := 0) (d := 22) (v := ?_) rfl (by kernel_rfl) (by kernel_rfl) (by kernel_rfl) (by kernel_rfl) (fun _ _ _ h => h) (Or.inl ⟨by kernel_rfl, ?_⟩) hHeld ?_
    rotate_left
    · (intro w hSw; (try dsimp only at hSw); go_simp; try with_reducible rfl)
    simp only [Act.put, List.setIfInBounds_toArray, List.set_cons_zero, List.set_cons_succ]
    refine takeAt (i := 1) (d := 23) (v := ?_) rfl (by kernel_rfl) (by kernel_rfl) (by kernel_rfl) (by kernel_rfl) (fun _ _ _ h => h) (Or.inl ⟨by kernel_rfl, ?_⟩) hHeld ?_
    rotate_left
    · (intro w hSw; (try dsimp only at hSw); go_simp; try with_reducible rfl)
    simp only [Act.put, List.setIfInBounds_toArray, List.set_cons_zero, List.set_cons_succ]
    refine wpAnyH_ready (rs := [2]) (by kernel_rfl) (by simp) (AllReadyH.cons rfl (fun K hK => ?_) AllReadyH.nil)
    go_simp
    go_wp2_with ((go_at_call 17; refine (toBook_ret _ _ _ _ _ _ _ _ _ _ _ _ ds es _ hld hle (HD.out _ (bl_drew hB5)) (HE.out _ (bl_drew hB5))).mono ?_; rintro e w6 ⟨g5, g6, rfl, hb6, hD6', hE6'⟩; have xA6 := (xA5.below (bl_drew (bl_refl _))).below hb6; have xO6 := (xO5.below (bl_drew (bl_refl _))).below hb6; have yA6 := xA6.2; have yO6 := xO6.2; have hB6 := bl_trans (bl_drew hB5) hb6; have hD6 : Hid (DoorsAt w6 (some ⟨g5, 0, none⟩) dn ds) := hD6'; have hE6 : Hid (EntriesAt w6 (some ⟨g6, 0, none⟩) en es) := hE6'; clear hD6' hE6'))
    refine hK.out _ _ ?_ (fun hHeld1 => ?_)
    · go_keep
    clear hK K hHeld
    have hHeld := hHeld1
    clear hHeld1
    refine wpAnyH_ready (rs := [3]) (by kernel_rfl) (by simp) (AllReadyH.cons rfl (fun K hK => ?_) AllReadyH.nil)
    go_simp
    go_wp2_with ((go_at_call 19; refine (eqBook_same _ _ _ _ _ _ _ _ _ _ _ _ _ _ _ _ ds es _ hld hle (((hD5.out.below (bl_drew (bl_refl _))).below hb6)) (((hE5.out.below (bl_drew (bl_refl _))).below hb6)) hD6.out hE6.out).mono ?_; rintro e w7 ⟨rfl, hb7⟩; have xA7 := xA6.below hb7; have xO7 := xO6.below hb7; have yA7 := xA7.2; have yO7 := xO7.2; have hB7 := bl_trans hB6 hb7))
    refine hK.out _ _ ?_ (fun hHeld1 => ?_)
    · go_keep
    clear hK K hHeld
    have hHeld := hHeld1
    clear hHeld1
    refine takeAt (i := 4) (d := 26) (v := ?_) rfl (by kernel_rfl) (by kernel_rfl) (by kernel_rfl) (by kernel_rfl) (fun _ _ _ h => h) (Or.inl ⟨by kernel_rfl, ?_⟩) hHeld ?_
    rotate_left
    · (intro w hSw; (try dsimp only at hSw); go_simp; try with_reducible rfl)
    simp only [Act.put, List.setIfInBounds_toArray, List.set_cons_zero, List.set_cons_succ]
    refine wpAnyH_done (by kernel_rfl) ?_ _
    go_wp2
    go_ret
    exact ⟨rfl, hB7⟩

set_option maxHeartbeats 4000000 in
theorem lawInside_ret (ad ln ow lo hi nw : Int) (da : Option Addr) (dn dc : Nat) (ea : Option Addr) (en ec : Nat) (x : Int) (ds : List Dr) (es : List En) (w : World) (hd : dn ≤ maxLen) (he : en ≤ maxLen) (hD : DoorsAt w da dn ds) (hE : EntriesAt w ea en es) :
    Calls Try.prog 7 #[.agg #[.int .i64 ad, .int .i64 ln, .int .i64 ow, .int .i64 lo, .int .i64 hi, .slice da dn dc, .int .i64 nw, .slice ea en ec], .int .i64 x] w fun e w' => e = .returned (.bool true) ∧ Below w.heap.size w w' := by
  have HD : Hid (∀ W, Below w.heap.size w W → DoorsAt W da dn ds) := fun W h => hD.below h
  have HE : Hid (∀ W, Below w.heap.size w W → EntriesAt W ea en es) := fun W h => hE.below h
  have hld' : dn = ds.length := hD.1
  have hle' : en = es.length := hE.1
  have hxA := Box.new w #[.int .i64 ad, .int .i64 ln, .int .i64 ow, .int .i64 lo, .int .i64 hi, .slice da dn dc, .int .i64 nw, .slice ea en ec] 36
  have hB0 := bl_alloc (bl_refl w) (.cells #[.int .i64 ad, .int .i64 ln, .int .i64 ow, .int .i64 lo, .int .i64 hi, .slice da dn dc, .int .i64 nw, .slice ea en ec] 36)
  have hq := fun W => szB_ret ad ln ow lo hi nw da dn dc ea en ec W hd he
  have hsz : 0 ≤ szI dn en → dn ≤ 1048576 ∧ en ≤ 1048576 := by
    unfold szI subI
    repeat' split
    all_goals omega
  clear hD hE
  generalize szI dn en = left at hq hsz
  by_cases hl : left < 0
  · clear hsz hld' hle'
    go_enter Try.func7, Try.ntmps7
    go_wp2_with fail
    refine (hq _).mono ?_
    rintro e w1 ⟨rfl, hb1⟩
    go_wp2
    go_ret
    exact ⟨rfl, bl_trans hB0 hb1⟩
  · obtain ⟨hld0, hle0⟩ := hsz (by omega)
    have hld : ds.length ≤ 1048576 := by omega
    have hle : es.length ≤ 1048576 := by omega
    clear hsz hld0 hle0 hld' hle'
    go_enter Try.func7, Try.ntmps7
    go_wp2_with fail
    refine (hq _).mono ?_
    rintro e w1 ⟨rfl, hb1⟩
    have xA1 := hxA.below hb1
    have hB1 := bl_trans hB0 hb1
    have yA1 := xA1.2
    go_wp2_with fail
    refine (toBook_ret _ _ _ _ _ _ _ _ _ _ _ _ ds es _ hld hle (HD.out _ hB1) (HE.out _ hB1)).mono ?_
    rintro e w2 ⟨g1, g2, rfl, hb2, hD2, hE2⟩
    have xA2 := xA1.below hb2
    have hB2 := bl_trans hB1 hb2
    have H3 : Hid (Calls Try.prog _ #[.agg #[.int .i64 ad, .int .i64 ln, .int .i64 ow, .int .i64 lo, .int .i64 hi, .slice (some ⟨g1, 0, none⟩) dn dn, .int .i64 nw, .slice (some ⟨g2, 0, none⟩) en en], .int .i64 x] w2 _) := specInside_ret _ _ _ _ _ _ _ _ _ _ _ _ x ds es _ hD2 hE2
    clear hD2 hE2 yA1
    go_wp2_with fail
    refine H3.out.mono ?_
    clear H3
    rintro e w3 ⟨rfl, hb3⟩
    have xA3 := xA2.below hb3
    have hB3 := bl_trans hB2 hb3
    have yA3 := xA3.2
    go_wp2_with fail
    refine (toBook_ret _ _ _ _ _ _ _ _ _ _ _ _ ds es _ hld hle (HD.out _ hB3) (HE.out _ hB3)).mono ?_
    rintro e w4 ⟨g3, g4, rfl, hb4, hD4, hE4⟩
    have xA4 := xA3.below hb4
    have hB4 := bl_trans hB3 hb4
    have hbo := bl_alloc (bl_refl w4) (.cells #[.int .i64 ad, .int .i64 ln, .int .i64 ow, .int .i64 lo, .int .i64 hi, .slice (some ⟨g3, 0, none⟩) dn dn, .int .i64 nw, .slice (some ⟨g4, 0, none⟩) en en] 42)
    have xO := Box.new w4 #[.int .i64 ad, .int .i64 ln, .int .i64 ow, .int .i64 lo, .int .i64 hi, .slice (some ⟨g3, 0, none⟩) dn dn, .int .i64 nw, .slice (some ⟨g4, 0, none⟩) en en] 42
    have hD4o : Hid (DoorsAt _ (some ⟨g3, 0, none⟩) dn ds) := hD4.below hbo
    have hE4o : Hid (EntriesAt _ (some ⟨g4, 0, none⟩) en es) := hE4.below hbo
    have H5 : Hid (Calls Try.prog _ #[.agg #[.int .i64 ad, .int .i64 ln, .int .i64 ow, .int .i64 lo, .int .i64 hi, .slice (some ⟨g3, 0, none⟩) dn dn, .int .i64 nw, .slice (some ⟨g4, 0, none⟩) en en], .int .i64 x] (w4.alloc (.cells #[.int .i64 ad, .int .i64 ln, .int .i64 ow, .int .i64 lo, .int .i64 hi, .slice (some ⟨g3, 0, none⟩) dn dn, .int .i64 nw, .slice (some ⟨g4, 0, none⟩) en en] 42)) _) := implInside_ret _ _ _ _ _ _ _ _ _ _ _ _ x ds es _ hD4o.out hE4o.out
    clear hD4 hE4 yA3 xA1 xA2 hb1 hb2 hb3
    go_wp2_with fail
    refine H5.out.mono ?_
    clear H5
    rintro e w5 ⟨rfl, hb5⟩
    have xA5 := (xA4.below hbo).below hb5
    have xO5 := xO.below hb5
    have hB5 := bl_trans (bl_trans hB4 hbo) hb5
    have hD5 : Hid (DoorsAt w5 (some ⟨g3, 0, none⟩) dn ds) := hD4o.out.below hb5
    have hE5 : Hid (EntriesAt w5 (some ⟨g4, 0, none⟩) en es) := hE4o.out.below hb5
    have yA5 := xA5.2
    have yO5 := xO5.2
    clear hD4o hE4o xA3 xA4 xO hbo hb4 hb5 hxA
    generalize (bookB ad ln ow lo hi nw ds es && insB ad ln x) = r
    go_wp2_with fail
    refine wp_region_held_drew (S := (fun w' => w'.cell? ⟨w.heap.size, 0, none⟩ = some (.int .i64 ad) ∧ w'.cell? ⟨w.heap.size, 1, none⟩ = some (.int .i64 ln) ∧ w'.cell? ⟨w.heap.size, 2, none⟩ = some (.int .i64 ow) ∧ w'.cell? ⟨w.heap.size, 3, none⟩ = some (.int .i64 lo) ∧ w'.cell? ⟨w.heap.size, 4, none⟩ = some (.int .i64 hi) ∧ w'.cell? ⟨w.heap.size, 5, none⟩ = some (.slice da dn dc) ∧ w'.cell? ⟨w.heap.size, 6, none⟩ = some (.int .i64 nw) ∧ w'.cell? ⟨w.heap.size, 7, none⟩ = some (.slice ea en ec) ∧ w'.cell? ⟨w4.heap.size, 0, none⟩ = some (.int .i64 ad) ∧ w'.cell? ⟨w4.heap.size, 1, none⟩ = some (.int .i64 ln) ∧ w'.cell? ⟨w4.heap.size, 2, none⟩ = some (.int .i64 ow) ∧ w'.cell? ⟨w4.heap.size, 3, none⟩ = some (.int .i64 lo) ∧ w'.cell? ⟨w4.heap.size, 4, none⟩ = some (.int .i64 hi) ∧ w'.cell? ⟨w4.heap.size, 5, none⟩ = some (.slice (some ⟨g3, 0, none⟩) dn dn) ∧ w'.cell? ⟨w4.heap.size, 6, none⟩ = some (.int .i64 nw) ∧ w'.cell? ⟨w4.heap.size, 7, none⟩ = some (.slice (some ⟨g4, 0, none⟩) en en))) (by kernel_rfl) ?_ (fun hHeld => ?_)
    · go_keep
    refine takeAt (i := 0) (d := 26) (v := ?_) rfl (by kernel_rfl) (by kernel_rfl) (by kernel_rfl) (by kernel_rfl) (fun _ _ _ h => h) (Or.inl ⟨by kernel_rfl, ?_⟩) hHeld ?_
    rotate_left
    · (intro w hSw; (try dsimp only at hSw); go_simp; try with_reducible rfl)
    simp only [Act.put, List.setIfInBounds_toArray, List.set_cons_zero, List.set_cons_succ]
    refine takeAt (i := 1) (d := 27) (v := ?_) rfl (by kernel_rfl) (by kernel_rfl) (by kernel_rfl) (by kernel_rfl) (fun _ _ _ h => h) (Or.inl ⟨by kernel_rfl, ?_⟩) hHeld ?_
    rotate_left
    · (intro w hSw; (try dsimp only at hSw); go_simp; try with_reducible rfl)
    simp only [Act.put, List.setIfInBounds_toArray, List.set_cons_zero, List.set_cons_succ]
    refine wpAnyH_ready (rs := [2]) (by kernel_rfl) (by simp) (AllReadyH.cons rfl (fun K hK => ?_) AllReadyH.nil)
    go_simp
    go_wp2_with ((go_at_call 17; refine (toBook_ret _ _ _ _ _ _ _ _ _ _ _ _ ds es _ hld hle (HD.out _ (bl_drew hB5)) (HE.out _ (bl_drew hB5))).mono ?_; rintro e w6 ⟨g5, g6, rfl, hb6, hD6', hE6'⟩; have xA6 := (xA5.below (bl_drew (bl_refl _))).below hb6; have xO6 := (xO5.below (bl_drew (bl_refl _))).below hb6; have yA6 := xA6.2; have yO6 := xO6.2; have hB6 := bl_trans (bl_drew hB5) hb6; have hD6 : Hid (DoorsAt w6 (some ⟨g5, 0, none⟩) dn ds) := hD6'; have hE6 : Hid (EntriesAt w6 (some ⟨g6, 0, none⟩) en es) := hE6'; clear hD6' hE6'))
    refine hK.out _ _ ?_ (fun hHeld1 => ?_)
    · go_keep
    clear hK K hHeld
    have hHeld := hHeld1
    clear hHeld1
    refine wpAnyH_ready (rs := [3]) (by kernel_rfl) (by simp) (AllReadyH.cons rfl (fun K hK => ?_) AllReadyH.nil)
    go_simp
    go_wp2_with ((go_at_call 19; refine (eqBook_same _ _ _ _ _ _ _ _ _ _ _ _ _ _ _ _ ds es _ hld hle (((hD5.out.below (bl_drew (bl_refl _))).below hb6)) (((hE5.out.below (bl_drew (bl_refl _))).below hb6)) hD6.out hE6.out).mono ?_; rintro e w7 ⟨rfl, hb7⟩; have xA7 := xA6.below hb7; have xO7 := xO6.below hb7; have yA7 := xA7.2; have yO7 := xO7.2; have hB7 := bl_trans hB6 hb7))
    refine hK.out _ _ ?_ (fun hHeld1 => ?_)
    · go_keep
    clear hK K hHeld
    have hHeld := hHeld1
    clear hHeld1
    refine takeAt (i := 4) (d := 30) (v := ?_) rfl (by kernel_rfl) (by kernel_rfl) (by kernel_rfl) (by kernel_rfl) (fun _ _ _ h => h) (Or.inl ⟨by kernel_rfl, ?_⟩) hHeld ?_
    rotate_left
    · (intro w hSw; (try dsimp only at hSw); go_simp; try with_reducible rfl)
    simp only [Act.put, List.setIfInBounds_toArray, List.set_cons_zero, List.set_cons_succ]
    refine wpAnyH_done (by kernel_rfl) ?_ _
    go_wp2
    go_ret
    exact ⟨rfl, hB7⟩
end Go.Proofs.Ytcgjpmhjijmplaa
