/- The specification's l5InFlow at a book without entries, walked. -/
import Derived.Test.YtcgjpmhjijmplaaDraw6
namespace Go.Proofs.Ytcgjpmhjijmplaa
open Go.ChangeShapes Go.WideShapes Go.ChangeAt Go.RowKit

theorem ap_new5 {R : Nat} {w0 w : World} (h : Apart R w0 w) {n : Nat} (hn : w0.heap.size ≤ n) (a b c d e : Value) : Apart R w0 (((((w.setCell ⟨n, 0, none⟩ a).setCell ⟨n, 1, none⟩ b).setCell ⟨n, 2, none⟩ c).setCell ⟨n, 3, none⟩ d).setCell ⟨n, 4, none⟩ e) :=
  ap_new (ap_new (ap_new (ap_new (ap_new h hn a) hn b) hn c) hn d) hn e
theorem Rb.set5 {w : World} {R : Nat} {k : Int} (h : Rb w R k) {n : Nat} (hn : R < n) (a b c d e : Value) : Rb (((((w.setCell ⟨n, 0, none⟩ a).setCell ⟨n, 1, none⟩ b).setCell ⟨n, 2, none⟩ c).setCell ⟨n, 3, none⟩ d).setCell ⟨n, 4, none⟩ e) R k :=
  ((((h.set hn a).set hn b).set hn c).set hn d).set hn e
theorem from_pick {r : Int} (h0 : 0 ≤ r) (h1 : r < 3) : ∃ v, (#[.int .i64 80, .int .i64 443, .int .i64 7] : Array Value)[r.toNat]? = some (.int .i64 v) := by
  rcases (show r = 0 ∨ r = 1 ∨ r = 2 by omega) with rfl | rfl | rfl <;> exact ⟨_, rfl⟩

set_option maxRecDepth 20000 in
set_option maxHeartbeats 4000000 in
theorem inflow0_ret (R : Nat) (n : Int) (ad ln ow lo hi nw : Int) (da : Option Addr) (dn dc : Nat) (ea : Option Addr) (ec : Nat) (ds : List Dr) (q : Nat) (w : World) (h : Rb w R n) (hn : n ≤ 800000000) (HD : DoorsS w q da dn dc ds) (hq : R < q) (hdn : dn ≤ 100) :
    Calls Try.prog 23 #[.pointer (some ⟨R, 0, none⟩), .agg #[.int .i64 ad, .int .i64 ln, .int .i64 ow, .int .i64 lo, .int .i64 hi, .slice da dn dc, .int .i64 nw, .slice ea 0 ec]] w fun e w' => (∃ k a ap b bp : Int, e = .returned (.agg #[.int .i64 k, .int .i64 a, .int .i64 ap, .int .i64 b, .int .i64 bp])) ∧ Apart R w w' ∧ Rb w' R (n + 8) := by
  have hR := h.lt
  have hB0 := bl_alloc (bl_alloc (bl_refl w) (.cells #[.int .i64 ad, .int .i64 ln, .int .i64 ow, .int .i64 lo, .int .i64 hi, .slice da dn dc, .int .i64 nw, .slice ea 0 ec] 42)) (.cells #[.int .i64 0, .int .i64 0, .int .i64 0, .int .i64 0, .int .i64 0] 24)
  have hBl := bl_alloc (bl_refl (w.alloc (.cells #[.int .i64 ad, .int .i64 ln, .int .i64 ow, .int .i64 lo, .int .i64 hi, .slice da dn dc, .int .i64 nw, .slice ea 0 ec] 42))) (.cells #[.int .i64 0, .int .i64 0, .int .i64 0, .int .i64 0, .int .i64 0] 24)
  have HA : Apart R w _ := ap_of_bl hB0
  have HR := h.below hB0
  have bb := (Bx.new w #[.int .i64 ad, .int .i64 ln, .int .i64 ow, .int .i64 lo, .int .i64 hi, .slice da dn dc, .int .i64 nw, .slice ea 0 ec] 42).below hBl
  have bx := Bx.new (w.alloc (.cells #[.int .i64 ad, .int .i64 ln, .int .i64 ow, .int .i64 lo, .int .i64 hi, .slice da dn dc, .int .i64 nw, .slice ea 0 ec] 42)) #[.int .i64 0, .int .i64 0, .int .i64 0, .int .i64 0, .int .i64 0] 24
  simp only [World.size_alloc] at bx
  go_enter Try.func23, Try.ntmps23
  go_upto_region 1 with fail
  clear hB0 hBl h
  generalize (w.alloc (.cells #[.int .i64 ad, .int .i64 ln, .int .i64 ow, .int .i64 lo, .int .i64 hi, .slice da dn dc, .int .i64 nw, .slice ea 0 ec] 42)).alloc (.cells #[.int .i64 0, .int .i64 0, .int .i64 0, .int .i64 0, .int .i64 0] 24) = wr at *
  have hs := HA.size
  have hx1 := bx.1.1
  go_cut [5] (fun s5 wc => ∃ (h : Nat) (k a ap b bp : Int), s5 = .pointer (some ⟨h, 0, none⟩) ∧ wr.heap.size ≤ h ∧ h ≠ w.heap.size + 1 ∧ Bx wc h #[.int .i64 k, .int .i64 a, .int .i64 ap, .int .i64 b, .int .i64 bp] ∧ Apart R wr wc ∧ Rb wc R (n + 4))
  case first =>
    clear HA
    have HA := ap_refl R wr
    refine wp_region_held_drew (S := (fun w' => Box w' w.heap.size #[.int .i64 ad, .int .i64 ln, .int .i64 ow, .int .i64 lo, .int .i64 hi, .slice da dn dc, .int .i64 nw, .slice ea 0 ec])) (by kernel_rfl) ?_ (fun hHeld => ?_)
    · exact Box.below bb.1 (bl_drew (bl_refl _))
    have HB : Apart R wr wr.drew := ap_of_bl (bl_drew (bl_refl wr))
    have HR := HR.below (bl_drew (bl_refl wr))
    have hs := HB.size
    have hnw := bb.1.1
    generalize wr.drew = W0 at HB HR hs hHeld ⊢
    refine takeAt (i := 0) (d := 8) (v := ?_) rfl (by kernel_rfl) (by kernel_rfl) (by kernel_rfl) (by kernel_rfl) (fun _ _ _ h => h) (Or.inl ⟨by kernel_rfl, ?_⟩) hHeld ?_
    rotate_left
    · (intro w hSw; (try dsimp only at hSw); simp only [Box] at hSw; go_simp; try with_reducible rfl)
    simp only [Act.put, List.setIfInBounds_toArray, List.set_cons_zero, List.set_cons_succ]
    refine takeAt (i := 3) (d := 11) (v := ?_) rfl (by kernel_rfl) (by kernel_rfl) (by kernel_rfl) (by kernel_rfl) (fun _ _ _ h => h) (Or.inl ⟨by kernel_rfl, ?_⟩) hHeld ?_
    rotate_left
    · (intro w hSw; (try dsimp only at hSw); simp only [Box] at hSw; go_simp; try with_reducible rfl)
    simp only [Act.put, List.setIfInBounds_toArray, List.set_cons_zero, List.set_cons_succ]
    refine takeAt (i := 6) (d := 14) (v := ?_) rfl (by kernel_rfl) (by kernel_rfl) (by kernel_rfl) (by kernel_rfl) (fun _ _ _ h => h) (Or.inl ⟨by kernel_rfl, ?_⟩) hHeld ?_
    rotate_left
    · (intro w hSw; (try dsimp only at hSw); simp only [Box] at hSw; go_simp; try with_reducible rfl)
    simp only [Act.put, List.setIfInBounds_toArray, List.set_cons_zero, List.set_cons_succ]
    refine takeAt (i := 10) (d := 18) (v := ?_) rfl (by kernel_rfl) (by kernel_rfl) (by kernel_rfl) (by kernel_rfl) (fun _ _ _ h => h) (Or.inl ⟨by kernel_rfl, ?_⟩) hHeld ?_
    rotate_left
    · (intro w hSw; (try dsimp only at hSw); simp only [Box] at hSw; go_simp; try with_reducible rfl)
    simp only [Act.put, List.setIfInBounds_toArray, List.set_cons_zero, List.set_cons_succ]
    refine takeAt (i := 11) (d := 19) (v := ?_) rfl (by kernel_rfl) (by kernel_rfl) (by kernel_rfl) (by kernel_rfl) (fun _ _ _ h => h) (Or.inl ⟨by kernel_rfl, ?_⟩) hHeld ?_
    rotate_left
    · (intro w hSw; (try dsimp only at hSw); simp only [Box] at hSw; go_simp; try with_reducible rfl)
    simp only [Act.put, List.setIfInBounds_toArray, List.set_cons_zero, List.set_cons_succ]
    refine takeAt (i := 12) (d := 20) (v := ?_) rfl (by kernel_rfl) (by kernel_rfl) (by kernel_rfl) (by kernel_rfl) (fun _ _ _ h => h) (Or.inl ⟨by kernel_rfl, ?_⟩) hHeld ?_
    rotate_left
    · (intro w hSw; (try dsimp only at hSw); simp only [Box] at hSw; go_simp; try with_reducible rfl)
    simp only [Act.put, List.setIfInBounds_toArray, List.set_cons_zero, List.set_cons_succ]
    refine wpAnyH_ready (rs := [1, 5, 16]) (by kernel_rfl) (by simp) (AllReadyH.cons rfl (fun K hK => ?_) (AllReadyH.cons rfl (fun K hK => ?_) (AllReadyH.cons rfl (fun K hK => ?_) (AllReadyH.nil))))
    · skip
      refine step_call 9 25 rfl rfl (pick_rb R _ 2 _ HR (by omega) (by omega) (by omega)) (by kernel_rfl) ?_
      rintro e w1 ⟨⟨x, rfl, x0, x1⟩, ha, hr⟩
      refine ⟨_, rfl, ?_⟩
      simp only [Act.put, List.setIfInBounds_toArray, List.set_cons_zero, List.set_cons_succ]
      have HB := ap_trans HB ha
      clear HR ha
      have HR := hr
      clear hr
      have hs := HB.size
      refine hK.out _ _ ?_ (fun hHeld1 => ?_)
      · exact bb.1.apart HB (by omega)
      clear hK K hHeld
      have hHeld := hHeld1
      clear hHeld1
      refine takeAt (i := 2) (d := 10) (v := ?_) rfl (by kernel_rfl) (by kernel_rfl) (by kernel_rfl) (by kernel_rfl) (fun _ _ _ h => h) (Or.inl ⟨by kernel_rfl, ?_⟩) hHeld ?_
      rotate_left
      · (intro w hSw; (try dsimp only at hSw); simp only [Box] at hSw; go_simp; try with_reducible rfl)
      simp only [Act.put, List.setIfInBounds_toArray, List.set_cons_zero, List.set_cons_succ]
      refine wpAnyH_ready (rs := [4, 5, 16]) (by kernel_rfl) (by simp) (AllReadyH.cons rfl (fun K hK => ?_) (AllReadyH.cons rfl (fun K hK => ?_) (AllReadyH.cons rfl (fun K hK => ?_) (AllReadyH.nil))))
      · skip
        refine step_call 12 42 rfl rfl (peer_rb R _ _ HR (by omega)) (by kernel_rfl) ?_
        rintro e w1 ⟨⟨y, rfl, y0⟩, ha, hr⟩
        refine ⟨_, rfl, ?_⟩
        simp only [Act.put, List.setIfInBounds_toArray, List.set_cons_zero, List.set_cons_succ]
        have HB := ap_trans HB ha
        clear HR ha
        have HR := hr
        clear hr
        have hs := HB.size
        refine hK.out _ _ ?_ (fun hHeld1 => ?_)
        · exact bb.1.apart HB (by omega)
        clear hK K hHeld
        have hHeld := hHeld1
        clear hHeld1
        refine wpAnyH_ready (rs := [5, 7, 16]) (by kernel_rfl) (by simp) (AllReadyH.cons rfl (fun K hK => ?_) (AllReadyH.cons rfl (fun K hK => ?_) (AllReadyH.cons rfl (fun K hK => ?_) (AllReadyH.nil))))
        · skip
          refine step_val 13 (.slice (some ⟨w1.heap.size, 0, none⟩) 3 3) (World.alloc w1 (.cells #[.int .i64 80, .int .i64 443, .int .i64 7] 3)) rfl rfl (by kernel_rfl) ?_
          simp only [Act.put, List.setIfInBounds_toArray, List.set_cons_zero, List.set_cons_succ]
          refine hK.out _ _ ?_ (fun hHeld1 => ?_)
          · exact (bb.1.apart HB (by omega)).below (bl_alloc (bl_refl _) _)
          clear hK K hHeld
          have hHeld := hHeld1
          clear hHeld1
          refine wpAnyH_alloc (fun C => ∀ r : Int, 0 ≤ r → r < 3 → ∃ v, C[r.toNat]? = some (.int .i64 v)) (fun r r0 r1 => from_pick r0 r1) (fun C W hC hBl bg => ?_)
          have hlg := hs
          have HB := ap_trans HB (ap_of_bl hBl)
          have HR := HR.below hBl
          have hs := HB.size
          clear hHeld hBl
          have hHeld := And.intro (bb.1.apart HB (by omega)) bg
          refine wpAnyH_ready (rs := [7, 16]) (by kernel_rfl) (by simp) (AllReadyH.cons rfl (fun K hK => ?_) (AllReadyH.cons rfl (fun K hK => ?_) (AllReadyH.nil)))
          · skip
            refine step_call 15 25 rfl rfl (pick_rb R _ 3 _ HR (by omega) (by omega) (by omega)) (by kernel_rfl) ?_
            rintro e w1 ⟨⟨u, rfl, u0, u1⟩, ha, hr⟩
            refine ⟨_, rfl, ?_⟩
            simp only [Act.put, List.setIfInBounds_toArray, List.set_cons_zero, List.set_cons_succ]
            have bg := bg.apart ha (by omega)
            have HB := ap_trans HB ha
            clear HR ha
            have HR := hr
            clear hr
            have hs := HB.size
            refine hK.out _ _ ?_ (fun hHeld1 => ?_)
            · exact ⟨bb.1.apart HB (by omega), bg⟩
            clear hK K hHeld
            have hHeld := hHeld1
            clear hHeld1
            obtain ⟨v, hv⟩ := hC u u0 u1
            refine takeAt (i := 8) (d := 16) (v := ?_) rfl (by kernel_rfl) (by kernel_rfl) (by kernel_rfl) (by kernel_rfl) (fun _ _ _ h => h) (Or.inl ⟨by kernel_rfl, ?_⟩) hHeld ?_
            rotate_left
            · (intro w hSw; (try dsimp only at hSw); simp only [Box] at hSw; go_simp; try with_reducible rfl)
            simp only [Act.put, List.setIfInBounds_toArray, List.set_cons_zero, List.set_cons_succ]
            refine takeAt (i := 9) (d := 17) (v := ?_) rfl (by kernel_rfl) (by kernel_rfl) (by kernel_rfl) (by kernel_rfl) (fun _ _ _ h => h) (Or.inl ⟨by kernel_rfl, ?_⟩) hHeld ?_
            rotate_left
            · (intro w hSw; (try dsimp only at hSw); simp only [Box] at hSw; go_simp; try with_reducible rfl)
            simp only [Act.put, List.setIfInBounds_toArray, List.set_cons_zero, List.set_cons_succ]
            refine wpAnyH_ready (rs := [13, 16]) (by kernel_rfl) (by simp) (AllReadyH.cons rfl (fun K hK => ?_) (AllReadyH.cons rfl (fun K hK => ?_) (AllReadyH.nil)))
            · skip
              refine step_call 21 25 rfl rfl (pick_rb R _ 6 _ HR (by omega) (by omega) (by omega)) (by kernel_rfl) ?_
              rintro e w1 ⟨⟨z, rfl, z0, z1⟩, ha, hr⟩
              refine ⟨_, rfl, ?_⟩
              simp only [Act.put, List.setIfInBounds_toArray, List.set_cons_zero, List.set_cons_succ]
              have bg := bg.apart ha (by omega)
              have HB := ap_trans HB ha
              clear HR ha
              have HR := hr
              clear hr
              have hs := HB.size
              refine hK.out _ _ ?_ (fun hHeld1 => ?_)
              · exact ⟨bb.1.apart HB (by omega), bg⟩
              clear hK K hHeld
              have hHeld := hHeld1
              clear hHeld1
              refine takeAt (i := 14) (d := 22) (v := ?_) rfl (by kernel_rfl) (by kernel_rfl) (by kernel_rfl) (by kernel_rfl) (fun _ _ _ h => h) (Or.inl ⟨by kernel_rfl, ?_⟩) hHeld ?_
              rotate_left
              · (intro w hSw; (try dsimp only at hSw); simp only [Box] at hSw; go_simp; try with_reducible rfl)
              simp only [Act.put, List.setIfInBounds_toArray, List.set_cons_zero, List.set_cons_succ]
              refine takeAt (i := 15) (d := 23) (v := .agg #[.int .i64 (IntKind.i64.wrap (1 + x)), .int .i64 y, .int .i64 v, .int .i64 ow, .int .i64 (IntKind.i64.wrap (39 + z))]) rfl (by kernel_rfl) (by kernel_rfl) (by kernel_rfl) (by kernel_rfl) (fun _ _ _ h => h) (Or.inl ⟨by kernel_rfl, fun _ _ => by kernel_rfl⟩) hHeld ?_
              simp only [Act.put, List.setIfInBounds_toArray, List.set_cons_zero, List.set_cons_succ]
              refine wpAnyH_ready (rs := [16]) (by kernel_rfl) (by simp) (AllReadyH.cons rfl (fun K hK => ?_) (AllReadyH.nil))
              refine step_val 5 (.pointer (some ⟨w1.heap.size, 0, none⟩)) (World.alloc w1 (.cells #[.int .i64 0, .int .i64 0, .int .i64 0, .int .i64 0, .int .i64 0] 24)) rfl rfl (by kernel_rfl) ?_
              simp only [Act.put, List.setIfInBounds_toArray, List.set_cons_zero, List.set_cons_succ]
              refine hK.out _ _ ?_ (fun hHeld1 => ?_)
              · exact ⟨(bb.1.apart HB (by omega)).below (bl_alloc (bl_refl _) _), Box.below bg (bl_alloc (bl_refl _) _)⟩
              clear hK K hHeld
              have hHeld := hHeld1
              clear hHeld1
              refine wpAnyH_newx (fun W hBl bh => ?_)
              have hlh := hs
              have hlb := (bb.1.apart HB (by omega)).1
              have hgh := Nat.ne_of_lt bg.1
              have bg := bg.below hBl
              have HB := ap_trans HB (ap_of_bl hBl)
              have HR := HR.below hBl
              have hs := HB.size
              clear hHeld hBl
              have hHeld := And.intro (bb.1.apart HB (by omega)) bg
              refine wpAnyH_ready (rs := [17]) (by kernel_rfl) (by simp) (AllReadyH.cons rfl (fun K hK => ?_) (AllReadyH.nil))
              obtain ⟨⟨bh1, bh2⟩, bh3⟩ := id bh
              go_simp
              have bh := bh.set5 (.int .i64 (IntKind.i64.wrap (1 + x))) (.int .i64 y) (.int .i64 v) (.int .i64 ow) (.int .i64 (IntKind.i64.wrap (39 + z)))
              have bg := bg.other5 hgh (.int .i64 (IntKind.i64.wrap (1 + x))) (.int .i64 y) (.int .i64 v) (.int .i64 ow) (.int .i64 (IntKind.i64.wrap (39 + z)))
              have HB := ap_new5 HB hlh (.int .i64 (IntKind.i64.wrap (1 + x))) (.int .i64 y) (.int .i64 v) (.int .i64 ow) (.int .i64 (IntKind.i64.wrap (39 + z)))
              have HR := HR.set5 (Nat.lt_of_lt_of_le (show R < wr.heap.size by omega) hlh) (.int .i64 (IntKind.i64.wrap (1 + x))) (.int .i64 y) (.int .i64 v) (.int .i64 ow) (.int .i64 (IntKind.i64.wrap (39 + z)))
              refine hK.out _ _ ?_ (fun hHeld1 => ?_)
              · exact ⟨bb.1.apart HB (by omega), bg⟩
              clear hK K hHeld
              have hHeld := hHeld1
              clear hHeld1
              refine wpAnyH_done (by kernel_rfl) ?_ _
              go_wp2_with fail
              go_meet
              exact ⟨_, _, _, _, _, _, rfl, by omega, by omega, bh, ap_trans HA HB, HR.le (by omega)⟩
            · skip
              refine step_val 5 (.pointer (some ⟨w1.heap.size, 0, none⟩)) (World.alloc w1 (.cells #[.int .i64 0, .int .i64 0, .int .i64 0, .int .i64 0, .int .i64 0] 24)) rfl rfl (by kernel_rfl) ?_
              simp only [Act.put, List.setIfInBounds_toArray, List.set_cons_zero, List.set_cons_succ]
              refine hK.out _ _ ?_ (fun hHeld1 => ?_)
              · exact ⟨(bb.1.apart HB (by omega)).below (bl_alloc (bl_refl _) _), Box.below bg (bl_alloc (bl_refl _) _)⟩
              clear hK K hHeld
              have hHeld := hHeld1
              clear hHeld1
              refine wpAnyH_newx (fun W hBl bh => ?_)
              have hlh := hs
              have hlb := (bb.1.apart HB (by omega)).1
              have hgh := Nat.ne_of_lt bg.1
              have bg := bg.below hBl
              have HB := ap_trans HB (ap_of_bl hBl)
              have HR := HR.below hBl
              have hs := HB.size
              clear hHeld hBl
              have hHeld := And.intro (bb.1.apart HB (by omega)) bg
              refine wpAnyH_ready (rs := [13]) (by kernel_rfl) (by simp) (AllReadyH.cons rfl (fun K hK => ?_) (AllReadyH.nil))
              refine step_call 21 25 rfl rfl (pick_rb R _ 6 _ HR (by omega) (by omega) (by omega)) (by kernel_rfl) ?_
              rintro e w1 ⟨⟨z, rfl, z0, z1⟩, ha, hr⟩
              refine ⟨_, rfl, ?_⟩
              simp only [Act.put, List.setIfInBounds_toArray, List.set_cons_zero, List.set_cons_succ]
              have bg := bg.apart ha (by omega)
              have bh := bh.apart ha (by omega)
              have HB := ap_trans HB ha
              clear HR ha
              have HR := hr
              clear hr
              have hs := HB.size
              refine hK.out _ _ ?_ (fun hHeld1 => ?_)
              · exact ⟨bb.1.apart HB (by omega), bg⟩
              clear hK K hHeld
              have hHeld := hHeld1
              clear hHeld1
              refine takeAt (i := 14) (d := 22) (v := ?_) rfl (by kernel_rfl) (by kernel_rfl) (by kernel_rfl) (by kernel_rfl) (fun _ _ _ h => h) (Or.inl ⟨by kernel_rfl, ?_⟩) hHeld ?_
              rotate_left
              · (intro w hSw; (try dsimp only at hSw); simp only [Box] at hSw; go_simp; try with_reducible rfl)
              simp only [Act.put, List.setIfInBounds_toArray, List.set_cons_zero, List.set_cons_succ]
              refine takeAt (i := 15) (d := 23) (v := .agg #[.int .i64 (IntKind.i64.wrap (1 + x)), .int .i64 y, .int .i64 v, .int .i64 ow, .int .i64 (IntKind.i64.wrap (39 + z))]) rfl (by kernel_rfl) (by kernel_rfl) (by kernel_rfl) (by kernel_rfl) (fun _ _ _ h => h) (Or.inl ⟨by kernel_rfl, fun _ _ => by kernel_rfl⟩) hHeld ?_
              simp only [Act.put, List.setIfInBounds_toArray, List.set_cons_zero, List.set_cons_succ]
              refine wpAnyH_ready (rs := [17]) (by kernel_rfl) (by simp) (AllReadyH.cons rfl (fun K hK => ?_) (AllReadyH.nil))
              obtain ⟨⟨bh1, bh2⟩, bh3⟩ := id bh
              go_simp
              have bh := bh.set5 (.int .i64 (IntKind.i64.wrap (1 + x))) (.int .i64 y) (.int .i64 v) (.int .i64 ow) (.int .i64 (IntKind.i64.wrap (39 + z)))
              have bg := bg.other5 hgh (.int .i64 (IntKind.i64.wrap (1 + x))) (.int .i64 y) (.int .i64 v) (.int .i64 ow) (.int .i64 (IntKind.i64.wrap (39 + z)))
              have HB := ap_new5 HB hlh (.int .i64 (IntKind.i64.wrap (1 + x))) (.int .i64 y) (.int .i64 v) (.int .i64 ow) (.int .i64 (IntKind.i64.wrap (39 + z)))
              have HR := HR.set5 (Nat.lt_of_lt_of_le (show R < wr.heap.size by omega) hlh) (.int .i64 (IntKind.i64.wrap (1 + x))) (.int .i64 y) (.int .i64 v) (.int .i64 ow) (.int .i64 (IntKind.i64.wrap (39 + z)))
              refine hK.out _ _ ?_ (fun hHeld1 => ?_)
              · exact ⟨bb.1.apart HB (by omega), bg⟩
              clear hK K hHeld
              have hHeld := hHeld1
              clear hHeld1
              refine wpAnyH_done (by kernel_rfl) ?_ _
              go_wp2_with fail
              go_meet
              exact ⟨_, _, _, _, _, _, rfl, by omega, by omega, bh, ap_trans HA HB, HR.le (by omega)⟩
          · skip
            refine step_val 5 (.pointer (some ⟨W.heap.size, 0, none⟩)) (World.alloc W (.cells #[.int .i64 0, .int .i64 0, .int .i64 0, .int .i64 0, .int .i64 0] 24)) rfl rfl (by kernel_rfl) ?_
            simp only [Act.put, List.setIfInBounds_toArray, List.set_cons_zero, List.set_cons_succ]
            refine hK.out _ _ ?_ (fun hHeld1 => ?_)
            · exact ⟨(bb.1.apart HB (by omega)).below (bl_alloc (bl_refl _) _), Box.below bg (bl_alloc (bl_refl _) _)⟩
            clear hK K hHeld
            have hHeld := hHeld1
            clear hHeld1
            refine wpAnyH_newx (fun W hBl bh => ?_)
            have hlh := hs
            have hlb := (bb.1.apart HB (by omega)).1
            have hgh := Nat.ne_of_lt bg.1
            have bg := bg.below hBl
            have HB := ap_trans HB (ap_of_bl hBl)
            have HR := HR.below hBl
            have hs := HB.size
            clear hHeld hBl
            have hHeld := And.intro (bb.1.apart HB (by omega)) bg
            refine wpAnyH_ready (rs := [7]) (by kernel_rfl) (by simp) (AllReadyH.cons rfl (fun K hK => ?_) (AllReadyH.nil))
            refine step_call 15 25 rfl rfl (pick_rb R _ 3 _ HR (by omega) (by omega) (by omega)) (by kernel_rfl) ?_
            rintro e w1 ⟨⟨u, rfl, u0, u1⟩, ha, hr⟩
            refine ⟨_, rfl, ?_⟩
            simp only [Act.put, List.setIfInBounds_toArray, List.set_cons_zero, List.set_cons_succ]
            have bg := bg.apart ha (by omega)
            have bh := bh.apart ha (by omega)
            have HB := ap_trans HB ha
            clear HR ha
            have HR := hr
            clear hr
            have hs := HB.size
            refine hK.out _ _ ?_ (fun hHeld1 => ?_)
            · exact ⟨bb.1.apart HB (by omega), bg⟩
            clear hK K hHeld
            have hHeld := hHeld1
            clear hHeld1
            obtain ⟨v, hv⟩ := hC u u0 u1
            refine takeAt (i := 8) (d := 16) (v := ?_) rfl (by kernel_rfl) (by kernel_rfl) (by kernel_rfl) (by kernel_rfl) (fun _ _ _ h => h) (Or.inl ⟨by kernel_rfl, ?_⟩) hHeld ?_
            rotate_left
            · (intro w hSw; (try dsimp only at hSw); simp only [Box] at hSw; go_simp; try with_reducible rfl)
            simp only [Act.put, List.setIfInBounds_toArray, List.set_cons_zero, List.set_cons_succ]
            refine takeAt (i := 9) (d := 17) (v := ?_) rfl (by kernel_rfl) (by kernel_rfl) (by kernel_rfl) (by kernel_rfl) (fun _ _ _ h => h) (Or.inl ⟨by kernel_rfl, ?_⟩) hHeld ?_
            rotate_left
            · (intro w hSw; (try dsimp only at hSw); simp only [Box] at hSw; go_simp; try with_reducible rfl)
            simp only [Act.put, List.setIfInBounds_toArray, List.set_cons_zero, List.set_cons_succ]
            refine wpAnyH_ready (rs := [13]) (by kernel_rfl) (by simp) (AllReadyH.cons rfl (fun K hK => ?_) (AllReadyH.nil))
            refine step_call 21 25 rfl rfl (pick_rb R _ 6 _ HR (by omega) (by omega) (by omega)) (by kernel_rfl) ?_
            rintro e w1 ⟨⟨z, rfl, z0, z1⟩, ha, hr⟩
            refine ⟨_, rfl, ?_⟩
            simp only [Act.put, List.setIfInBounds_toArray, List.set_cons_zero, List.set_cons_succ]
            have bg := bg.apart ha (by omega)
            have bh := bh.apart ha (by omega)
            have HB := ap_trans HB ha
            clear HR ha
            have HR := hr
            clear hr
            have hs := HB.size
            refine hK.out _ _ ?_ (fun hHeld1 => ?_)
            · exact ⟨bb.1.apart HB (by omega), bg⟩
            clear hK K hHeld
            have hHeld := hHeld1
            clear hHeld1
            refine takeAt (i := 14) (d := 22) (v := ?_) rfl (by kernel_rfl) (by kernel_rfl) (by kernel_rfl) (by kernel_rfl) (fun _ _ _ h => h) (Or.inl ⟨by kernel_rfl, ?_⟩) hHeld ?_
            rotate_left
            · (intro w hSw; (try dsimp only at hSw); simp only [Box] at hSw; go_simp; try with_reducible rfl)
            simp only [Act.put, List.setIfInBounds_toArray, List.set_cons_zero, List.set_cons_succ]
            refine takeAt (i := 15) (d := 23) (v := .agg #[.int .i64 (IntKind.i64.wrap (1 + x)), .int .i64 y, .int .i64 v, .int .i64 ow, .int .i64 (IntKind.i64.wrap (39 + z))]) rfl (by kernel_rfl) (by kernel_rfl) (by kernel_rfl) (by kernel_rfl) (fun _ _ _ h => h) (Or.inl ⟨by kernel_rfl, fun _ _ => by kernel_rfl⟩) hHeld ?_
            simp only [Act.put, List.setIfInBounds_toArray, List.set_cons_zero, List.set_cons_succ]
            refine wpAnyH_ready (rs := [17]) (by kernel_rfl) (by simp) (AllReadyH.cons rfl (fun K hK => ?_) (AllReadyH.nil))
            obtain ⟨⟨bh1, bh2⟩, bh3⟩ := id bh
            go_simp
            have bh := bh.set5 (.int .i64 (IntKind.i64.wrap (1 + x))) (.int .i64 y) (.int .i64 v) (.int .i64 ow) (.int .i64 (IntKind.i64.wrap (39 + z)))
            have bg := bg.other5 hgh (.int .i64 (IntKind.i64.wrap (1 + x))) (.int .i64 y) (.int .i64 v) (.int .i64 ow) (.int .i64 (IntKind.i64.wrap (39 + z)))
            have HB := ap_new5 HB hlh (.int .i64 (IntKind.i64.wrap (1 + x))) (.int .i64 y) (.int .i64 v) (.int .i64 ow) (.int .i64 (IntKind.i64.wrap (39 + z)))
            have HR := HR.set5 (Nat.lt_of_lt_of_le (show R < wr.heap.size by omega) hlh) (.int .i64 (IntKind.i64.wrap (1 + x))) (.int .i64 y) (.int .i64 v) (.int .i64 ow) (.int .i64 (IntKind.i64.wrap (39 + z)))
            refine hK.out _ _ ?_ (fun hHeld1 => ?_)
            · exact ⟨bb.1.apart HB (by omega), bg⟩
            clear hK K hHeld
            have hHeld := hHeld1
            clear hHeld1
            refine wpAnyH_done (by kernel_rfl) ?_ _
            go_wp2_with fail
            go_meet
            exact ⟨_, _, _, _, _, _, rfl, by omega, by omega, bh, ap_trans HA HB, HR.le (by omega)⟩
        · skip
          refine step_call 15 25 rfl rfl (pick_rb R _ 3 _ HR (by omega) (by omega) (by omega)) (by kernel_rfl) ?_
          rintro e w1 ⟨⟨u, rfl, u0, u1⟩, ha, hr⟩
          refine ⟨_, rfl, ?_⟩
          simp only [Act.put, List.setIfInBounds_toArray, List.set_cons_zero, List.set_cons_succ]
          have HB := ap_trans HB ha
          clear HR ha
          have HR := hr
          clear hr
          have hs := HB.size
          refine hK.out _ _ ?_ (fun hHeld1 => ?_)
          · exact bb.1.apart HB (by omega)
          clear hK K hHeld
          have hHeld := hHeld1
          clear hHeld1
          refine wpAnyH_ready (rs := [5, 13, 16]) (by kernel_rfl) (by simp) (AllReadyH.cons rfl (fun K hK => ?_) (AllReadyH.cons rfl (fun K hK => ?_) (AllReadyH.cons rfl (fun K hK => ?_) (AllReadyH.nil))))
          · skip
            refine step_val 13 (.slice (some ⟨w1.heap.size, 0, none⟩) 3 3) (World.alloc w1 (.cells #[.int .i64 80, .int .i64 443, .int .i64 7] 3)) rfl rfl (by kernel_rfl) ?_
            simp only [Act.put, List.setIfInBounds_toArray, List.set_cons_zero, List.set_cons_succ]
            refine hK.out _ _ ?_ (fun hHeld1 => ?_)
            · exact (bb.1.apart HB (by omega)).below (bl_alloc (bl_refl _) _)
            clear hK K hHeld
            have hHeld := hHeld1
            clear hHeld1
            refine wpAnyH_alloc (fun C => ∀ r : Int, 0 ≤ r → r < 3 → ∃ v, C[r.toNat]? = some (.int .i64 v)) (fun r r0 r1 => from_pick r0 r1) (fun C W hC hBl bg => ?_)
            have hlg := hs
            have HB := ap_trans HB (ap_of_bl hBl)
            have HR := HR.below hBl
            have hs := HB.size
            clear hHeld hBl
            have hHeld := And.intro (bb.1.apart HB (by omega)) bg
            obtain ⟨v, hv⟩ := hC u u0 u1
            refine takeAt (i := 8) (d := 16) (v := ?_) rfl (by kernel_rfl) (by kernel_rfl) (by kernel_rfl) (by kernel_rfl) (fun _ _ _ h => h) (Or.inl ⟨by kernel_rfl, ?_⟩) hHeld ?_
            rotate_left
            · (intro w hSw; (try dsimp only at hSw); simp only [Box] at hSw; go_simp; try with_reducible rfl)
            simp only [Act.put, List.setIfInBounds_toArray, List.set_cons_zero, List.set_cons_succ]
            refine takeAt (i := 9) (d := 17) (v := ?_) rfl (by kernel_rfl) (by kernel_rfl) (by kernel_rfl) (by kernel_rfl) (fun _ _ _ h => h) (Or.inl ⟨by kernel_rfl, ?_⟩) hHeld ?_
            rotate_left
            · (intro w hSw; (try dsimp only at hSw); simp only [Box] at hSw; go_simp; try with_reducible rfl)
            simp only [Act.put, List.setIfInBounds_toArray, List.set_cons_zero, List.set_cons_succ]
            refine wpAnyH_ready (rs := [13, 16]) (by kernel_rfl) (by simp) (AllReadyH.cons rfl (fun K hK => ?_) (AllReadyH.cons rfl (fun K hK => ?_) (AllReadyH.nil)))
            · skip
              refine step_call 21 25 rfl rfl (pick_rb R _ 6 _ HR (by omega) (by omega) (by omega)) (by kernel_rfl) ?_
              rintro e w1 ⟨⟨z, rfl, z0, z1⟩, ha, hr⟩
              refine ⟨_, rfl, ?_⟩
              simp only [Act.put, List.setIfInBounds_toArray, List.set_cons_zero, List.set_cons_succ]
              have bg := bg.apart ha (by omega)
              have HB := ap_trans HB ha
              clear HR ha
              have HR := hr
              clear hr
              have hs := HB.size
              refine hK.out _ _ ?_ (fun hHeld1 => ?_)
              · exact ⟨bb.1.apart HB (by omega), bg⟩
              clear hK K hHeld
              have hHeld := hHeld1
              clear hHeld1
              refine takeAt (i := 14) (d := 22) (v := ?_) rfl (by kernel_rfl) (by kernel_rfl) (by kernel_rfl) (by kernel_rfl) (fun _ _ _ h => h) (Or.inl ⟨by kernel_rfl, ?_⟩) hHeld ?_
              rotate_left
              · (intro w hSw; (try dsimp only at hSw); simp only [Box] at hSw; go_simp; try with_reducible rfl)
              simp only [Act.put, List.setIfInBounds_toArray, List.set_cons_zero, List.set_cons_succ]
              refine takeAt (i := 15) (d := 23) (v := .agg #[.int .i64 (IntKind.i64.wrap (1 + x)), .int .i64 y, .int .i64 v, .int .i64 ow, .int .i64 (IntKind.i64.wrap (39 + z))]) rfl (by kernel_rfl) (by kernel_rfl) (by kernel_rfl) (by kernel_rfl) (fun _ _ _ h => h) (Or.inl ⟨by kernel_rfl, fun _ _ => by kernel_rfl⟩) hHeld ?_
              simp only [Act.put, List.setIfInBounds_toArray, List.set_cons_zero, List.set_cons_succ]
              refine wpAnyH_ready (rs := [16]) (by kernel_rfl) (by simp) (AllReadyH.cons rfl (fun K hK => ?_) (AllReadyH.nil))
              refine step_val 5 (.pointer (some ⟨w1.heap.size, 0, none⟩)) (World.alloc w1 (.cells #[.int .i64 0, .int .i64 0, .int .i64 0, .int .i64 0, .int .i64 0] 24)) rfl rfl (by kernel_rfl) ?_
              simp only [Act.put, List.setIfInBounds_toArray, List.set_cons_zero, List.set_cons_succ]
              refine hK.out _ _ ?_ (fun hHeld1 => ?_)
              · exact ⟨(bb.1.apart HB (by omega)).below (bl_alloc (bl_refl _) _), Box.below bg (bl_alloc (bl_refl _) _)⟩
              clear hK K hHeld
              have hHeld := hHeld1
              clear hHeld1
              refine wpAnyH_newx (fun W hBl bh => ?_)
              have hlh := hs
              have hlb := (bb.1.apart HB (by omega)).1
              have hgh := Nat.ne_of_lt bg.1
              have bg := bg.below hBl
              have HB := ap_trans HB (ap_of_bl hBl)
              have HR := HR.below hBl
              have hs := HB.size
              clear hHeld hBl
              have hHeld := And.intro (bb.1.apart HB (by omega)) bg
              refine wpAnyH_ready (rs := [17]) (by kernel_rfl) (by simp) (AllReadyH.cons rfl (fun K hK => ?_) (AllReadyH.nil))
              obtain ⟨⟨bh1, bh2⟩, bh3⟩ := id bh
              go_simp
              have bh := bh.set5 (.int .i64 (IntKind.i64.wrap (1 + x))) (.int .i64 y) (.int .i64 v) (.int .i64 ow) (.int .i64 (IntKind.i64.wrap (39 + z)))
              have bg := bg.other5 hgh (.int .i64 (IntKind.i64.wrap (1 + x))) (.int .i64 y) (.int .i64 v) (.int .i64 ow) (.int .i64 (IntKind.i64.wrap (39 + z)))
              have HB := ap_new5 HB hlh (.int .i64 (IntKind.i64.wrap (1 + x))) (.int .i64 y) (.int .i64 v) (.int .i64 ow) (.int .i64 (IntKind.i64.wrap (39 + z)))
              have HR := HR.set5 (Nat.lt_of_lt_of_le (show R < wr.heap.size by omega) hlh) (.int .i64 (IntKind.i64.wrap (1 + x))) (.int .i64 y) (.int .i64 v) (.int .i64 ow) (.int .i64 (IntKind.i64.wrap (39 + z)))
              refine hK.out _ _ ?_ (fun hHeld1 => ?_)
              · exact ⟨bb.1.apart HB (by omega), bg⟩
              clear hK K hHeld
              have hHeld := hHeld1
              clear hHeld1
              refine wpAnyH_done (by kernel_rfl) ?_ _
              go_wp2_with fail
              go_meet
              exact ⟨_, _, _, _, _, _, rfl, by omega, by omega, bh, ap_trans HA HB, HR.le (by omega)⟩
            · skip
              refine step_val 5 (.pointer (some ⟨W.heap.size, 0, none⟩)) (World.alloc W (.cells #[.int .i64 0, .int .i64 0, .int .i64 0, .int .i64 0, .int .i64 0] 24)) rfl rfl (by kernel_rfl) ?_
              simp only [Act.put, List.setIfInBounds_toArray, List.set_cons_zero, List.set_cons_succ]
              refine hK.out _ _ ?_ (fun hHeld1 => ?_)
              · exact ⟨(bb.1.apart HB (by omega)).below (bl_alloc (bl_refl _) _), Box.below bg (bl_alloc (bl_refl _) _)⟩
              clear hK K hHeld
              have hHeld := hHeld1
              clear hHeld1
              refine wpAnyH_newx (fun W hBl bh => ?_)
              have hlh := hs
              have hlb := (bb.1.apart HB (by omega)).1
              have hgh := Nat.ne_of_lt bg.1
              have bg := bg.below hBl
              have HB := ap_trans HB (ap_of_bl hBl)
              have HR := HR.below hBl
              have hs := HB.size
              clear hHeld hBl
              have hHeld := And.intro (bb.1.apart HB (by omega)) bg
              refine wpAnyH_ready (rs := [13]) (by kernel_rfl) (by simp) (AllReadyH.cons rfl (fun K hK => ?_) (AllReadyH.nil))
              refine step_call 21 25 rfl rfl (pick_rb R _ 6 _ HR (by omega) (by omega) (by omega)) (by kernel_rfl) ?_
              rintro e w1 ⟨⟨z, rfl, z0, z1⟩, ha, hr⟩
              refine ⟨_, rfl, ?_⟩
              simp only [Act.put, List.setIfInBounds_toArray, List.set_cons_zero, List.set_cons_succ]
              have bg := bg.apart ha (by omega)
              have bh := bh.apart ha (by omega)
              have HB := ap_trans HB ha
              clear HR ha
              have HR := hr
              clear hr
              have hs := HB.size
              refine hK.out _ _ ?_ (fun hHeld1 => ?_)
              · exact ⟨bb.1.apart HB (by omega), bg⟩
              clear hK K hHeld
              have hHeld := hHeld1
              clear hHeld1
              refine takeAt (i := 14) (d := 22) (v := ?_) rfl (by kernel_rfl) (by kernel_rfl) (by kernel_rfl) (by kernel_rfl) (fun _ _ _ h => h) (Or.inl ⟨by kernel_rfl, ?_⟩) hHeld ?_
              rotate_left
              · (intro w hSw; (try dsimp only at hSw); simp only [Box] at hSw; go_simp; try with_reducible rfl)
              simp only [Act.put, List.setIfInBounds_toArray, List.set_cons_zero, List.set_cons_succ]
              refine takeAt (i := 15) (d := 23) (v := .agg #[.int .i64 (IntKind.i64.wrap (1 + x)), .int .i64 y, .int .i64 v, .int .i64 ow, .int .i64 (IntKind.i64.wrap (39 + z))]) rfl (by kernel_rfl) (by kernel_rfl) (by kernel_rfl) (by kernel_rfl) (fun _ _ _ h => h) (Or.inl ⟨by kernel_rfl, fun _ _ => by kernel_rfl⟩) hHeld ?_
              simp only [Act.put, List.setIfInBounds_toArray, List.set_cons_zero, List.set_cons_succ]
              refine wpAnyH_ready (rs := [17]) (by kernel_rfl) (by simp) (AllReadyH.cons rfl (fun K hK => ?_) (AllReadyH.nil))
              obtain ⟨⟨bh1, bh2⟩, bh3⟩ := id bh
              go_simp
              have bh := bh.set5 (.int .i64 (IntKind.i64.wrap (1 + x))) (.int .i64 y) (.int .i64 v) (.int .i64 ow) (.int .i64 (IntKind.i64.wrap (39 + z)))
              have bg := bg.other5 hgh (.int .i64 (IntKind.i64.wrap (1 + x))) (.int .i64 y) (.int .i64 v) (.int .i64 ow) (.int .i64 (IntKind.i64.wrap (39 + z)))
              have HB := ap_new5 HB hlh (.int .i64 (IntKind.i64.wrap (1 + x))) (.int .i64 y) (.int .i64 v) (.int .i64 ow) (.int .i64 (IntKind.i64.wrap (39 + z)))
              have HR := HR.set5 (Nat.lt_of_lt_of_le (show R < wr.heap.size by omega) hlh) (.int .i64 (IntKind.i64.wrap (1 + x))) (.int .i64 y) (.int .i64 v) (.int .i64 ow) (.int .i64 (IntKind.i64.wrap (39 + z)))
              refine hK.out _ _ ?_ (fun hHeld1 => ?_)
              · exact ⟨bb.1.apart HB (by omega), bg⟩
              clear hK K hHeld
              have hHeld := hHeld1
              clear hHeld1
              refine wpAnyH_done (by kernel_rfl) ?_ _
              go_wp2_with fail
              go_meet
              exact ⟨_, _, _, _, _, _, rfl, by omega, by omega, bh, ap_trans HA HB, HR.le (by omega)⟩
          · skip
            refine step_call 21 25 rfl rfl (pick_rb R _ 6 _ HR (by omega) (by omega) (by omega)) (by kernel_rfl) ?_
            rintro e w1 ⟨⟨z, rfl, z0, z1⟩, ha, hr⟩
            refine ⟨_, rfl, ?_⟩
            simp only [Act.put, List.setIfInBounds_toArray, List.set_cons_zero, List.set_cons_succ]
            have HB := ap_trans HB ha
            clear HR ha
            have HR := hr
            clear hr
            have hs := HB.size
            refine hK.out _ _ ?_ (fun hHeld1 => ?_)
            · exact bb.1.apart HB (by omega)
            clear hK K hHeld
            have hHeld := hHeld1
            clear hHeld1
            refine takeAt (i := 14) (d := 22) (v := ?_) rfl (by kernel_rfl) (by kernel_rfl) (by kernel_rfl) (by kernel_rfl) (fun _ _ _ h => h) (Or.inl ⟨by kernel_rfl, ?_⟩) hHeld ?_
            rotate_left
            · (intro w hSw; (try dsimp only at hSw); simp only [Box] at hSw; go_simp; try with_reducible rfl)
            simp only [Act.put, List.setIfInBounds_toArray, List.set_cons_zero, List.set_cons_succ]
            refine wpAnyH_ready (rs := [5, 16]) (by kernel_rfl) (by simp) (AllReadyH.cons rfl (fun K hK => ?_) (AllReadyH.cons rfl (fun K hK => ?_) (AllReadyH.nil)))
            · skip
              refine step_val 13 (.slice (some ⟨w1.heap.size, 0, none⟩) 3 3) (World.alloc w1 (.cells #[.int .i64 80, .int .i64 443, .int .i64 7] 3)) rfl rfl (by kernel_rfl) ?_
              simp only [Act.put, List.setIfInBounds_toArray, List.set_cons_zero, List.set_cons_succ]
              refine hK.out _ _ ?_ (fun hHeld1 => ?_)
              · exact (bb.1.apart HB (by omega)).below (bl_alloc (bl_refl _) _)
              clear hK K hHeld
              have hHeld := hHeld1
              clear hHeld1
              refine wpAnyH_alloc (fun C => ∀ r : Int, 0 ≤ r → r < 3 → ∃ v, C[r.toNat]? = some (.int .i64 v)) (fun r r0 r1 => from_pick r0 r1) (fun C W hC hBl bg => ?_)
              have hlg := hs
              have HB := ap_trans HB (ap_of_bl hBl)
              have HR := HR.below hBl
              have hs := HB.size
              clear hHeld hBl
              have hHeld := And.intro (bb.1.apart HB (by omega)) bg
              obtain ⟨v, hv⟩ := hC u u0 u1
              refine takeAt (i := 8) (d := 16) (v := ?_) rfl (by kernel_rfl) (by kernel_rfl) (by kernel_rfl) (by kernel_rfl) (fun _ _ _ h => h) (Or.inl ⟨by kernel_rfl, ?_⟩) hHeld ?_
              rotate_left
              · (intro w hSw; (try dsimp only at hSw); simp only [Box] at hSw; go_simp; try with_reducible rfl)
              simp only [Act.put, List.setIfInBounds_toArray, List.set_cons_zero, List.set_cons_succ]
              refine takeAt (i := 9) (d := 17) (v := ?_) rfl (by kernel_rfl) (by kernel_rfl) (by kernel_rfl) (by kernel_rfl) (fun _ _ _ h => h) (Or.inl ⟨by kernel_rfl, ?_⟩) hHeld ?_
              rotate_left
              · (intro w hSw; (try dsimp only at hSw); simp only [Box] at hSw; go_simp; try with_reducible rfl)
              simp only [Act.put, List.setIfInBounds_toArray, List.set_cons_zero, List.set_cons_succ]
              refine takeAt (i := 15) (d := 23) (v := .agg #[.int .i64 (IntKind.i64.wrap (1 + x)), .int .i64 y, .int .i64 v, .int .i64 ow, .int .i64 (IntKind.i64.wrap (39 + z))]) rfl (by kernel_rfl) (by kernel_rfl) (by kernel_rfl) (by kernel_rfl) (fun _ _ _ h => h) (Or.inl ⟨by kernel_rfl, fun _ _ => by kernel_rfl⟩) hHeld ?_
              simp only [Act.put, List.setIfInBounds_toArray, List.set_cons_zero, List.set_cons_succ]
              refine wpAnyH_ready (rs := [16]) (by kernel_rfl) (by simp) (AllReadyH.cons rfl (fun K hK => ?_) (AllReadyH.nil))
              refine step_val 5 (.pointer (some ⟨W.heap.size, 0, none⟩)) (World.alloc W (.cells #[.int .i64 0, .int .i64 0, .int .i64 0, .int .i64 0, .int .i64 0] 24)) rfl rfl (by kernel_rfl) ?_
              simp only [Act.put, List.setIfInBounds_toArray, List.set_cons_zero, List.set_cons_succ]
              refine hK.out _ _ ?_ (fun hHeld1 => ?_)
              · exact ⟨(bb.1.apart HB (by omega)).below (bl_alloc (bl_refl _) _), Box.below bg (bl_alloc (bl_refl _) _)⟩
              clear hK K hHeld
              have hHeld := hHeld1
              clear hHeld1
              refine wpAnyH_newx (fun W hBl bh => ?_)
              have hlh := hs
              have hlb := (bb.1.apart HB (by omega)).1
              have hgh := Nat.ne_of_lt bg.1
              have bg := bg.below hBl
              have HB := ap_trans HB (ap_of_bl hBl)
              have HR := HR.below hBl
              have hs := HB.size
              clear hHeld hBl
              have hHeld := And.intro (bb.1.apart HB (by omega)) bg
              refine wpAnyH_ready (rs := [17]) (by kernel_rfl) (by simp) (AllReadyH.cons rfl (fun K hK => ?_) (AllReadyH.nil))
              obtain ⟨⟨bh1, bh2⟩, bh3⟩ := id bh
              go_simp
              have bh := bh.set5 (.int .i64 (IntKind.i64.wrap (1 + x))) (.int .i64 y) (.int .i64 v) (.int .i64 ow) (.int .i64 (IntKind.i64.wrap (39 + z)))
              have bg := bg.other5 hgh (.int .i64 (IntKind.i64.wrap (1 + x))) (.int .i64 y) (.int .i64 v) (.int .i64 ow) (.int .i64 (IntKind.i64.wrap (39 + z)))
              have HB := ap_new5 HB hlh (.int .i64 (IntKind.i64.wrap (1 + x))) (.int .i64 y) (.int .i64 v) (.int .i64 ow) (.int .i64 (IntKind.i64.wrap (39 + z)))
              have HR := HR.set5 (Nat.lt_of_lt_of_le (show R < wr.heap.size by omega) hlh) (.int .i64 (IntKind.i64.wrap (1 + x))) (.int .i64 y) (.int .i64 v) (.int .i64 ow) (.int .i64 (IntKind.i64.wrap (39 + z)))
              refine hK.out _ _ ?_ (fun hHeld1 => ?_)
              · exact ⟨bb.1.apart HB (by omega), bg⟩
              clear hK K hHeld
              have hHeld := hHeld1
              clear hHeld1
              refine wpAnyH_done (by kernel_rfl) ?_ _
              go_wp2_with fail
              go_meet
              exact ⟨_, _, _, _, _, _, rfl, by omega, by omega, bh, ap_trans HA HB, HR.le (by omega)⟩
            · skip
              refine step_val 5 (.pointer (some ⟨w1.heap.size, 0, none⟩)) (World.alloc w1 (.cells #[.int .i64 0, .int .i64 0, .int .i64 0, .int .i64 0, .int .i64 0] 24)) rfl rfl (by kernel_rfl) ?_
              simp only [Act.put, List.setIfInBounds_toArray, List.set_cons_zero, List.set_cons_succ]
              refine hK.out _ _ ?_ (fun hHeld1 => ?_)
              · exact (bb.1.apart HB (by omega)).below (bl_alloc (bl_refl _) _)
              clear hK K hHeld
              have hHeld := hHeld1
              clear hHeld1
              refine wpAnyH_newx (fun W hBl bh => ?_)
              have hlh := hs
              have hlb := (bb.1.apart HB (by omega)).1
              have HB := ap_trans HB (ap_of_bl hBl)
              have HR := HR.below hBl
              have hs := HB.size
              clear hHeld hBl
              have hHeld := bb.1.apart HB (by omega)
              refine wpAnyH_ready (rs := [5]) (by kernel_rfl) (by simp) (AllReadyH.cons rfl (fun K hK => ?_) (AllReadyH.nil))
              refine step_val 13 (.slice (some ⟨W.heap.size, 0, none⟩) 3 3) (World.alloc W (.cells #[.int .i64 80, .int .i64 443, .int .i64 7] 3)) rfl rfl (by kernel_rfl) ?_
              simp only [Act.put, List.setIfInBounds_toArray, List.set_cons_zero, List.set_cons_succ]
              refine hK.out _ _ ?_ (fun hHeld1 => ?_)
              · exact (bb.1.apart HB (by omega)).below (bl_alloc (bl_refl _) _)
              clear hK K hHeld
              have hHeld := hHeld1
              clear hHeld1
              refine wpAnyH_alloc (fun C => ∀ r : Int, 0 ≤ r → r < 3 → ∃ v, C[r.toNat]? = some (.int .i64 v)) (fun r r0 r1 => from_pick r0 r1) (fun C W hC hBl bg => ?_)
              have hgh := Nat.ne_of_gt bh.1.1
              have bh := bh.below hBl
              have hlg := hs
              have HB := ap_trans HB (ap_of_bl hBl)
              have HR := HR.below hBl
              have hs := HB.size
              clear hHeld hBl
              have hHeld := And.intro (bb.1.apart HB (by omega)) bg
              obtain ⟨v, hv⟩ := hC u u0 u1
              refine takeAt (i := 8) (d := 16) (v := ?_) rfl (by kernel_rfl) (by kernel_rfl) (by kernel_rfl) (by kernel_rfl) (fun _ _ _ h => h) (Or.inl ⟨by kernel_rfl, ?_⟩) hHeld ?_
              rotate_left
              · (intro w hSw; (try dsimp only at hSw); simp only [Box] at hSw; go_simp; try with_reducible rfl)
              simp only [Act.put, List.setIfInBounds_toArray, List.set_cons_zero, List.set_cons_succ]
              refine takeAt (i := 9) (d := 17) (v := ?_) rfl (by kernel_rfl) (by kernel_rfl) (by kernel_rfl) (by kernel_rfl) (fun _ _ _ h => h) (Or.inl ⟨by kernel_rfl, ?_⟩) hHeld ?_
              rotate_left
              · (intro w hSw; (try dsimp only at hSw); simp only [Box] at hSw; go_simp; try with_reducible rfl)
              simp only [Act.put, List.setIfInBounds_toArray, List.set_cons_zero, List.set_cons_succ]
              refine takeAt (i := 15) (d := 23) (v := .agg #[.int .i64 (IntKind.i64.wrap (1 + x)), .int .i64 y, .int .i64 v, .int .i64 ow, .int .i64 (IntKind.i64.wrap (39 + z))]) rfl (by kernel_rfl) (by kernel_rfl) (by kernel_rfl) (by kernel_rfl) (fun _ _ _ h => h) (Or.inl ⟨by kernel_rfl, fun _ _ => by kernel_rfl⟩) hHeld ?_
              simp only [Act.put, List.setIfInBounds_toArray, List.set_cons_zero, List.set_cons_succ]
              refine wpAnyH_ready (rs := [17]) (by kernel_rfl) (by simp) (AllReadyH.cons rfl (fun K hK => ?_) (AllReadyH.nil))
              obtain ⟨⟨bh1, bh2⟩, bh3⟩ := id bh
              go_simp
              have bh := bh.set5 (.int .i64 (IntKind.i64.wrap (1 + x))) (.int .i64 y) (.int .i64 v) (.int .i64 ow) (.int .i64 (IntKind.i64.wrap (39 + z)))
              have bg := bg.other5 hgh (.int .i64 (IntKind.i64.wrap (1 + x))) (.int .i64 y) (.int .i64 v) (.int .i64 ow) (.int .i64 (IntKind.i64.wrap (39 + z)))
              have HB := ap_new5 HB hlh (.int .i64 (IntKind.i64.wrap (1 + x))) (.int .i64 y) (.int .i64 v) (.int .i64 ow) (.int .i64 (IntKind.i64.wrap (39 + z)))
              have HR := HR.set5 (Nat.lt_of_lt_of_le (show R < wr.heap.size by omega) hlh) (.int .i64 (IntKind.i64.wrap (1 + x))) (.int .i64 y) (.int .i64 v) (.int .i64 ow) (.int .i64 (IntKind.i64.wrap (39 + z)))
              refine hK.out _ _ ?_ (fun hHeld1 => ?_)
              · exact ⟨bb.1.apart HB (by omega), bg⟩
              clear hK K hHeld
              have hHeld := hHeld1
              clear hHeld1
              refine wpAnyH_done (by kernel_rfl) ?_ _
              go_wp2_with fail
              go_meet
              exact ⟨_, _, _, _, _, _, rfl, by omega, by omega, bh, ap_trans HA HB, HR.le (by omega)⟩
          · skip
            refine step_val 5 (.pointer (some ⟨w1.heap.size, 0, none⟩)) (World.alloc w1 (.cells #[.int .i64 0, .int .i64 0, .int .i64 0, .int .i64 0, .int .i64 0] 24)) rfl rfl (by kernel_rfl) ?_
            simp only [Act.put, List.setIfInBounds_toArray, List.set_cons_zero, List.set_cons_succ]
            refine hK.out _ _ ?_ (fun hHeld1 => ?_)
            · exact (bb.1.apart HB (by omega)).below (bl_alloc (bl_refl _) _)
            clear hK K hHeld
            have hHeld := hHeld1
            clear hHeld1
            refine wpAnyH_newx (fun W hBl bh => ?_)
            have hlh := hs
            have hlb := (bb.1.apart HB (by omega)).1
            have HB := ap_trans HB (ap_of_bl hBl)
            have HR := HR.below hBl
            have hs := HB.size
            clear hHeld hBl
            have hHeld := bb.1.apart HB (by omega)
            refine wpAnyH_ready (rs := [5, 13]) (by kernel_rfl) (by simp) (AllReadyH.cons rfl (fun K hK => ?_) (AllReadyH.cons rfl (fun K hK => ?_) (AllReadyH.nil)))
            · skip
              refine step_val 13 (.slice (some ⟨W.heap.size, 0, none⟩) 3 3) (World.alloc W (.cells #[.int .i64 80, .int .i64 443, .int .i64 7] 3)) rfl rfl (by kernel_rfl) ?_
              simp only [Act.put, List.setIfInBounds_toArray, List.set_cons_zero, List.set_cons_succ]
              refine hK.out _ _ ?_ (fun hHeld1 => ?_)
              · exact (bb.1.apart HB (by omega)).below (bl_alloc (bl_refl _) _)
              clear hK K hHeld
              have hHeld := hHeld1
              clear hHeld1
              refine wpAnyH_alloc (fun C => ∀ r : Int, 0 ≤ r → r < 3 → ∃ v, C[r.toNat]? = some (.int .i64 v)) (fun r r0 r1 => from_pick r0 r1) (fun C W hC hBl bg => ?_)
              have hgh := Nat.ne_of_gt bh.1.1
              have bh := bh.below hBl
              have hlg := hs
              have HB := ap_trans HB (ap_of_bl hBl)
              have HR := HR.below hBl
              have hs := HB.size
              clear hHeld hBl
              have hHeld := And.intro (bb.1.apart HB (by omega)) bg
              obtain ⟨v, hv⟩ := hC u u0 u1
              refine takeAt (i := 8) (d := 16) (v := ?_) rfl (by kernel_rfl) (by kernel_rfl) (by kernel_rfl) (by kernel_rfl) (fun _ _ _ h => h) (Or.inl ⟨by kernel_rfl, ?_⟩) hHeld ?_
              rotate_left
              · (intro w hSw; (try dsimp only at hSw); simp only [Box] at hSw; go_simp; try with_reducible rfl)
              simp only [Act.put, List.setIfInBounds_toArray, List.set_cons_zero, List.set_cons_succ]
              refine takeAt (i := 9) (d := 17) (v := ?_) rfl (by kernel_rfl) (by kernel_rfl) (by kernel_rfl) (by kernel_rfl) (fun _ _ _ h => h) (Or.inl ⟨by kernel_rfl, ?_⟩) hHeld ?_
              rotate_left
              · (intro w hSw; (try dsimp only at hSw); simp only [Box] at hSw; go_simp; try with_reducible rfl)
              simp only [Act.put, List.setIfInBounds_toArray, List.set_cons_zero, List.set_cons_succ]
              refine wpAnyH_ready (rs := [13]) (by kernel_rfl) (by simp) (AllReadyH.cons rfl (fun K hK => ?_) (AllReadyH.nil))
              refine step_call 21 25 rfl rfl (pick_rb R _ 6 _ HR (by omega) (by omega) (by omega)) (by kernel_rfl) ?_
              rintro e w1 ⟨⟨z, rfl, z0, z1⟩, ha, hr⟩
              refine ⟨_, rfl, ?_⟩
              simp only [Act.put, List.setIfInBounds_toArray, List.set_cons_zero, List.set_cons_succ]
              have bg := bg.apart ha (by omega)
              have bh := bh.apart ha (by omega)
              have HB := ap_trans HB ha
              clear HR ha
              have HR := hr
              clear hr
              have hs := HB.size
              refine hK.out _ _ ?_ (fun hHeld1 => ?_)
              · exact ⟨bb.1.apart HB (by omega), bg⟩
              clear hK K hHeld
              have hHeld := hHeld1
              clear hHeld1
              refine takeAt (i := 14) (d := 22) (v := ?_) rfl (by kernel_rfl) (by kernel_rfl) (by kernel_rfl) (by kernel_rfl) (fun _ _ _ h => h) (Or.inl ⟨by kernel_rfl, ?_⟩) hHeld ?_
              rotate_left
              · (intro w hSw; (try dsimp only at hSw); simp only [Box] at hSw; go_simp; try with_reducible rfl)
              simp only [Act.put, List.setIfInBounds_toArray, List.set_cons_zero, List.set_cons_succ]
              refine takeAt (i := 15) (d := 23) (v := .agg #[.int .i64 (IntKind.i64.wrap (1 + x)), .int .i64 y, .int .i64 v, .int .i64 ow, .int .i64 (IntKind.i64.wrap (39 + z))]) rfl (by kernel_rfl) (by kernel_rfl) (by kernel_rfl) (by kernel_rfl) (fun _ _ _ h => h) (Or.inl ⟨by kernel_rfl, fun _ _ => by kernel_rfl⟩) hHeld ?_
              simp only [Act.put, List.setIfInBounds_toArray, List.set_cons_zero, List.set_cons_succ]
              refine wpAnyH_ready (rs := [17]) (by kernel_rfl) (by simp) (AllReadyH.cons rfl (fun K hK => ?_) (AllReadyH.nil))
              obtain ⟨⟨bh1, bh2⟩, bh3⟩ := id bh
              go_simp
              have bh := bh.set5 (.int .i64 (IntKind.i64.wrap (1 + x))) (.int .i64 y) (.int .i64 v) (.int .i64 ow) (.int .i64 (IntKind.i64.wrap (39 + z)))
              have bg := bg.other5 hgh (.int .i64 (IntKind.i64.wrap (1 + x))) (.int .i64 y) (.int .i64 v) (.int .i64 ow) (.int .i64 (IntKind.i64.wrap (39 + z)))
              have HB := ap_new5 HB hlh (.int .i64 (IntKind.i64.wrap (1 + x))) (.int .i64 y) (.int .i64 v) (.int .i64 ow) (.int .i64 (IntKind.i64.wrap (39 + z)))
              have HR := HR.set5 (Nat.lt_of_lt_of_le (show R < wr.heap.size by omega) hlh) (.int .i64 (IntKind.i64.wrap (1 + x))) (.int .i64 y) (.int .i64 v) (.int .i64 ow) (.int .i64 (IntKind.i64.wrap (39 + z)))
              refine hK.out _ _ ?_ (fun hHeld1 => ?_)
              · exact ⟨bb.1.apart HB (by omega), bg⟩
              clear hK K hHeld
              have hHeld := hHeld1
              clear hHeld1
              refine wpAnyH_done (by kernel_rfl) ?_ _
              go_wp2_with fail
              go_meet
              exact ⟨_, _, _, _, _, _, rfl, by omega, by omega, bh, ap_trans HA HB, HR.le (by omega)⟩
            · skip
              refine step_call 21 25 rfl rfl (pick_rb R _ 6 _ HR (by omega) (by omega) (by omega)) (by kernel_rfl) ?_
              rintro e w1 ⟨⟨z, rfl, z0, z1⟩, ha, hr⟩
              refine ⟨_, rfl, ?_⟩
              simp only [Act.put, List.setIfInBounds_toArray, List.set_cons_zero, List.set_cons_succ]
              have bh := bh.apart ha (by omega)
              have HB := ap_trans HB ha
              clear HR ha
              have HR := hr
              clear hr
              have hs := HB.size
              refine hK.out _ _ ?_ (fun hHeld1 => ?_)
              · exact bb.1.apart HB (by omega)
              clear hK K hHeld
              have hHeld := hHeld1
              clear hHeld1
              refine takeAt (i := 14) (d := 22) (v := ?_) rfl (by kernel_rfl) (by kernel_rfl) (by kernel_rfl) (by kernel_rfl) (fun _ _ _ h => h) (Or.inl ⟨by kernel_rfl, ?_⟩) hHeld ?_
              rotate_left
              · (intro w hSw; (try dsimp only at hSw); simp only [Box] at hSw; go_simp; try with_reducible rfl)
              simp only [Act.put, List.setIfInBounds_toArray, List.set_cons_zero, List.set_cons_succ]
              refine wpAnyH_ready (rs := [5]) (by kernel_rfl) (by simp) (AllReadyH.cons rfl (fun K hK => ?_) (AllReadyH.nil))
              refine step_val 13 (.slice (some ⟨w1.heap.size, 0, none⟩) 3 3) (World.alloc w1 (.cells #[.int .i64 80, .int .i64 443, .int .i64 7] 3)) rfl rfl (by kernel_rfl) ?_
              simp only [Act.put, List.setIfInBounds_toArray, List.set_cons_zero, List.set_cons_succ]
              refine hK.out _ _ ?_ (fun hHeld1 => ?_)
              · exact (bb.1.apart HB (by omega)).below (bl_alloc (bl_refl _) _)
              clear hK K hHeld
              have hHeld := hHeld1
              clear hHeld1
              refine wpAnyH_alloc (fun C => ∀ r : Int, 0 ≤ r → r < 3 → ∃ v, C[r.toNat]? = some (.int .i64 v)) (fun r r0 r1 => from_pick r0 r1) (fun C W hC hBl bg => ?_)
              have hgh := Nat.ne_of_gt bh.1.1
              have bh := bh.below hBl
              have hlg := hs
              have HB := ap_trans HB (ap_of_bl hBl)
              have HR := HR.below hBl
              have hs := HB.size
              clear hHeld hBl
              have hHeld := And.intro (bb.1.apart HB (by omega)) bg
              obtain ⟨v, hv⟩ := hC u u0 u1
              refine takeAt (i := 8) (d := 16) (v := ?_) rfl (by kernel_rfl) (by kernel_rfl) (by kernel_rfl) (by kernel_rfl) (fun _ _ _ h => h) (Or.inl ⟨by kernel_rfl, ?_⟩) hHeld ?_
              rotate_left
              · (intro w hSw; (try dsimp only at hSw); simp only [Box] at hSw; go_simp; try with_reducible rfl)
              simp only [Act.put, List.setIfInBounds_toArray, List.set_cons_zero, List.set_cons_succ]
              refine takeAt (i := 9) (d := 17) (v := ?_) rfl (by kernel_rfl) (by kernel_rfl) (by kernel_rfl) (by kernel_rfl) (fun _ _ _ h => h) (Or.inl ⟨by kernel_rfl, ?_⟩) hHeld ?_
              rotate_left
              · (intro w hSw; (try dsimp only at hSw); simp only [Box] at hSw; go_simp; try with_reducible rfl)
              simp only [Act.put, List.setIfInBounds_toArray, List.set_cons_zero, List.set_cons_succ]
              refine takeAt (i := 15) (d := 23) (v := .agg #[.int .i64 (IntKind.i64.wrap (1 + x)), .int .i64 y, .int .i64 v, .int .i64 ow, .int .i64 (IntKind.i64.wrap (39 + z))]) rfl (by kernel_rfl) (by kernel_rfl) (by kernel_rfl) (by kernel_rfl) (fun _ _ _ h => h) (Or.inl ⟨by kernel_rfl, fun _ _ => by kernel_rfl⟩) hHeld ?_
              simp only [Act.put, List.setIfInBounds_toArray, List.set_cons_zero, List.set_cons_succ]
              refine wpAnyH_ready (rs := [17]) (by kernel_rfl) (by simp) (AllReadyH.cons rfl (fun K hK => ?_) (AllReadyH.nil))
              obtain ⟨⟨bh1, bh2⟩, bh3⟩ := id bh
              go_simp
              have bh := bh.set5 (.int .i64 (IntKind.i64.wrap (1 + x))) (.int .i64 y) (.int .i64 v) (.int .i64 ow) (.int .i64 (IntKind.i64.wrap (39 + z)))
              have bg := bg.other5 hgh (.int .i64 (IntKind.i64.wrap (1 + x))) (.int .i64 y) (.int .i64 v) (.int .i64 ow) (.int .i64 (IntKind.i64.wrap (39 + z)))
              have HB := ap_new5 HB hlh (.int .i64 (IntKind.i64.wrap (1 + x))) (.int .i64 y) (.int .i64 v) (.int .i64 ow) (.int .i64 (IntKind.i64.wrap (39 + z)))
              have HR := HR.set5 (Nat.lt_of_lt_of_le (show R < wr.heap.size by omega) hlh) (.int .i64 (IntKind.i64.wrap (1 + x))) (.int .i64 y) (.int .i64 v) (.int .i64 ow) (.int .i64 (IntKind.i64.wrap (39 + z)))
              refine hK.out _ _ ?_ (fun hHeld1 => ?_)
              · exact ⟨bb.1.apart HB (by omega), bg⟩
              clear hK K hHeld
              have hHeld := hHeld1
              clear hHeld1
              refine wpAnyH_done (by kernel_rfl) ?_ _
              go_wp2_with fail
              go_meet
              exact ⟨_, _, _, _, _, _, rfl, by omega, by omega, bh, ap_trans HA HB, HR.le (by omega)⟩
        · skip
          refine step_val 5 (.pointer (some ⟨w1.heap.size, 0, none⟩)) (World.alloc w1 (.cells #[.int .i64 0, .int .i64 0, .int .i64 0, .int .i64 0, .int .i64 0] 24)) rfl rfl (by kernel_rfl) ?_
          simp only [Act.put, List.setIfInBounds_toArray, List.set_cons_zero, List.set_cons_succ]
          refine hK.out _ _ ?_ (fun hHeld1 => ?_)
          · exact (bb.1.apart HB (by omega)).below (bl_alloc (bl_refl _) _)
          clear hK K hHeld
          have hHeld := hHeld1
          clear hHeld1
          refine wpAnyH_newx (fun W hBl bh => ?_)
          have hlh := hs
          have hlb := (bb.1.apart HB (by omega)).1
          have HB := ap_trans HB (ap_of_bl hBl)
          have HR := HR.below hBl
          have hs := HB.size
          clear hHeld hBl
          have hHeld := bb.1.apart HB (by omega)
          refine wpAnyH_ready (rs := [5, 7]) (by kernel_rfl) (by simp) (AllReadyH.cons rfl (fun K hK => ?_) (AllReadyH.cons rfl (fun K hK => ?_) (AllReadyH.nil)))
          · skip
            refine step_val 13 (.slice (some ⟨W.heap.size, 0, none⟩) 3 3) (World.alloc W (.cells #[.int .i64 80, .int .i64 443, .int .i64 7] 3)) rfl rfl (by kernel_rfl) ?_
            simp only [Act.put, List.setIfInBounds_toArray, List.set_cons_zero, List.set_cons_succ]
            refine hK.out _ _ ?_ (fun hHeld1 => ?_)
            · exact (bb.1.apart HB (by omega)).below (bl_alloc (bl_refl _) _)
            clear hK K hHeld
            have hHeld := hHeld1
            clear hHeld1
            refine wpAnyH_alloc (fun C => ∀ r : Int, 0 ≤ r → r < 3 → ∃ v, C[r.toNat]? = some (.int .i64 v)) (fun r r0 r1 => from_pick r0 r1) (fun C W hC hBl bg => ?_)
            have hgh := Nat.ne_of_gt bh.1.1
            have bh := bh.below hBl
            have hlg := hs
            have HB := ap_trans HB (ap_of_bl hBl)
            have HR := HR.below hBl
            have hs := HB.size
            clear hHeld hBl
            have hHeld := And.intro (bb.1.apart HB (by omega)) bg
            refine wpAnyH_ready (rs := [7]) (by kernel_rfl) (by simp) (AllReadyH.cons rfl (fun K hK => ?_) (AllReadyH.nil))
            refine step_call 15 25 rfl rfl (pick_rb R _ 3 _ HR (by omega) (by omega) (by omega)) (by kernel_rfl) ?_
            rintro e w1 ⟨⟨u, rfl, u0, u1⟩, ha, hr⟩
            refine ⟨_, rfl, ?_⟩
            simp only [Act.put, List.setIfInBounds_toArray, List.set_cons_zero, List.set_cons_succ]
            have bg := bg.apart ha (by omega)
            have bh := bh.apart ha (by omega)
            have HB := ap_trans HB ha
            clear HR ha
            have HR := hr
            clear hr
            have hs := HB.size
            refine hK.out _ _ ?_ (fun hHeld1 => ?_)
            · exact ⟨bb.1.apart HB (by omega), bg⟩
            clear hK K hHeld
            have hHeld := hHeld1
            clear hHeld1
            obtain ⟨v, hv⟩ := hC u u0 u1
            refine takeAt (i := 8) (d := 16) (v := ?_) rfl (by kernel_rfl) (by kernel_rfl) (by kernel_rfl) (by kernel_rfl) (fun _ _ _ h => h) (Or.inl ⟨by kernel_rfl, ?_⟩) hHeld ?_
            rotate_left
            · (intro w hSw; (try dsimp only at hSw); simp only [Box] at hSw; go_simp; try with_reducible rfl)
            simp only [Act.put, List.setIfInBounds_toArray, List.set_cons_zero, List.set_cons_succ]
            refine takeAt (i := 9) (d := 17) (v := ?_) rfl (by kernel_rfl) (by kernel_rfl) (by kernel_rfl) (by kernel_rfl) (fun _ _ _ h => h) (Or.inl ⟨by kernel_rfl, ?_⟩) hHeld ?_
            rotate_left
            · (intro w hSw; (try dsimp only at hSw); simp only [Box] at hSw; go_simp; try with_reducible rfl)
            simp only [Act.put, List.setIfInBounds_toArray, List.set_cons_zero, List.set_cons_succ]
            refine wpAnyH_ready (rs := [13]) (by kernel_rfl) (by simp) (AllReadyH.cons rfl (fun K hK => ?_) (AllReadyH.nil))
            refine step_call 21 25 rfl rfl (pick_rb R _ 6 _ HR (by omega) (by omega) (by omega)) (by kernel_rfl) ?_
            rintro e w1 ⟨⟨z, rfl, z0, z1⟩, ha, hr⟩
            refine ⟨_, rfl, ?_⟩
            simp only [Act.put, List.setIfInBounds_toArray, List.set_cons_zero, List.set_cons_succ]
            have bg := bg.apart ha (by omega)
            have bh := bh.apart ha (by omega)
            have HB := ap_trans HB ha
            clear HR ha
            have HR := hr
            clear hr
            have hs := HB.size
            refine hK.out _ _ ?_ (fun hHeld1 => ?_)
            · exact ⟨bb.1.apart HB (by omega), bg⟩
            clear hK K hHeld
            have hHeld := hHeld1
            clear hHeld1
            refine takeAt (i := 14) (d := 22) (v := ?_) rfl (by kernel_rfl) (by kernel_rfl) (by kernel_rfl) (by kernel_rfl) (fun _ _ _ h => h) (Or.inl ⟨by kernel_rfl, ?_⟩) hHeld ?_
            rotate_left
            · (intro w hSw; (try dsimp only at hSw); simp only [Box] at hSw; go_simp; try with_reducible rfl)
            simp only [Act.put, List.setIfInBounds_toArray, List.set_cons_zero, List.set_cons_succ]
            refine takeAt (i := 15) (d := 23) (v := .agg #[.int .i64 (IntKind.i64.wrap (1 + x)), .int .i64 y, .int .i64 v, .int .i64 ow, .int .i64 (IntKind.i64.wrap (39 + z))]) rfl (by kernel_rfl) (by kernel_rfl) (by kernel_rfl) (by kernel_rfl) (fun _ _ _ h => h) (Or.inl ⟨by kernel_rfl, fun _ _ => by kernel_rfl⟩) hHeld ?_
            simp only [Act.put, List.setIfInBounds_toArray, List.set_cons_zero, List.set_cons_succ]
            refine wpAnyH_ready (rs := [17]) (by kernel_rfl) (by simp) (AllReadyH.cons rfl (fun K hK => ?_) (AllReadyH.nil))
            obtain ⟨⟨bh1, bh2⟩, bh3⟩ := id bh
            go_simp
            have bh := bh.set5 (.int .i64 (IntKind.i64.wrap (1 + x))) (.int .i64 y) (.int .i64 v) (.int .i64 ow) (.int .i64 (IntKind.i64.wrap (39 + z)))
            have bg := bg.other5 hgh (.int .i64 (IntKind.i64.wrap (1 + x))) (.int .i64 y) (.int .i64 v) (.int .i64 ow) (.int .i64 (IntKind.i64.wrap (39 + z)))
            have HB := ap_new5 HB hlh (.int .i64 (IntKind.i64.wrap (1 + x))) (.int .i64 y) (.int .i64 v) (.int .i64 ow) (.int .i64 (IntKind.i64.wrap (39 + z)))
            have HR := HR.set5 (Nat.lt_of_lt_of_le (show R < wr.heap.size by omega) hlh) (.int .i64 (IntKind.i64.wrap (1 + x))) (.int .i64 y) (.int .i64 v) (.int .i64 ow) (.int .i64 (IntKind.i64.wrap (39 + z)))
            refine hK.out _ _ ?_ (fun hHeld1 => ?_)
            · exact ⟨bb.1.apart HB (by omega), bg⟩
            clear hK K hHeld
            have hHeld := hHeld1
            clear hHeld1
            refine wpAnyH_done (by kernel_rfl) ?_ _
            go_wp2_with fail
            go_meet
            exact ⟨_, _, _, _, _, _, rfl, by omega, by omega, bh, ap_trans HA HB, HR.le (by omega)⟩
          · skip
            refine step_call 15 25 rfl rfl (pick_rb R _ 3 _ HR (by omega) (by omega) (by omega)) (by kernel_rfl) ?_
            rintro e w1 ⟨⟨u, rfl, u0, u1⟩, ha, hr⟩
            refine ⟨_, rfl, ?_⟩
            simp only [Act.put, List.setIfInBounds_toArray, List.set_cons_zero, List.set_cons_succ]
            have bh := bh.apart ha (by omega)
            have HB := ap_trans HB ha
            clear HR ha
            have HR := hr
            clear hr
            have hs := HB.size
            refine hK.out _ _ ?_ (fun hHeld1 => ?_)
            · exact bb.1.apart HB (by omega)
            clear hK K hHeld
            have hHeld := hHeld1
            clear hHeld1
            refine wpAnyH_ready (rs := [5, 13]) (by kernel_rfl) (by simp) (AllReadyH.cons rfl (fun K hK => ?_) (AllReadyH.cons rfl (fun K hK => ?_) (AllReadyH.nil)))
            · skip
              refine step_val 13 (.slice (some ⟨w1.heap.size, 0, none⟩) 3 3) (World.alloc w1 (.cells #[.int .i64 80, .int .i64 443, .int .i64 7] 3)) rfl rfl (by kernel_rfl) ?_
              simp only [Act.put, List.setIfInBounds_toArray, List.set_cons_zero, List.set_cons_succ]
              refine hK.out _ _ ?_ (fun hHeld1 => ?_)
              · exact (bb.1.apart HB (by omega)).below (bl_alloc (bl_refl _) _)
              clear hK K hHeld
              have hHeld := hHeld1
              clear hHeld1
              refine wpAnyH_alloc (fun C => ∀ r : Int, 0 ≤ r → r < 3 → ∃ v, C[r.toNat]? = some (.int .i64 v)) (fun r r0 r1 => from_pick r0 r1) (fun C W hC hBl bg => ?_)
              have hgh := Nat.ne_of_gt bh.1.1
              have bh := bh.below hBl
              have hlg := hs
              have HB := ap_trans HB (ap_of_bl hBl)
              have HR := HR.below hBl
              have hs := HB.size
              clear hHeld hBl
              have hHeld := And.intro (bb.1.apart HB (by omega)) bg
              obtain ⟨v, hv⟩ := hC u u0 u1
              refine takeAt (i := 8) (d := 16) (v := ?_) rfl (by kernel_rfl) (by kernel_rfl) (by kernel_rfl) (by kernel_rfl) (fun _ _ _ h => h) (Or.inl ⟨by kernel_rfl, ?_⟩) hHeld ?_
              rotate_left
              · (intro w hSw; (try dsimp only at hSw); simp only [Box] at hSw; go_simp; try with_reducible rfl)
              simp only [Act.put, List.setIfInBounds_toArray, List.set_cons_zero, List.set_cons_succ]
              refine takeAt (i := 9) (d := 17) (v := ?_) rfl (by kernel_rfl) (by kernel_rfl) (by kernel_rfl) (by kernel_rfl) (fun _ _ _ h => h) (Or.inl ⟨by kernel_rfl, ?_⟩) hHeld ?_
              rotate_left
              · (intro w hSw; (try dsimp only at hSw); simp only [Box] at hSw; go_simp; try with_reducible rfl)
              simp only [Act.put, List.setIfInBounds_toArray, List.set_cons_zero, List.set_cons_succ]
              refine wpAnyH_ready (rs := [13]) (by kernel_rfl) (by simp) (AllReadyH.cons rfl (fun K hK => ?_) (AllReadyH.nil))
              refine step_call 21 25 rfl rfl (pick_rb R _ 6 _ HR (by omega) (by omega) (by omega)) (by kernel_rfl) ?_
              rintro e w1 ⟨⟨z, rfl, z0, z1⟩, ha, hr⟩
              refine ⟨_, rfl, ?_⟩
              simp only [Act.put, List.setIfInBounds_toArray, List.set_cons_zero, List.set_cons_succ]
              have bg := bg.apart ha (by omega)
              have bh := bh.apart ha (by omega)
              have HB := ap_trans HB ha
              clear HR ha
              have HR := hr
              clear hr
              have hs := HB.size
              refine hK.out _ _ ?_ (fun hHeld1 => ?_)
              · exact ⟨bb.1.apart HB (by omega), bg⟩
              clear hK K hHeld
              have hHeld := hHeld1
              clear hHeld1
              refine takeAt (i := 14) (d := 22) (v := ?_) rfl (by kernel_rfl) (by kernel_rfl) (by kernel_rfl) (by kernel_rfl) (fun _ _ _ h => h) (Or.inl ⟨by kernel_rfl, ?_⟩) hHeld ?_
              rotate_left
              · (intro w hSw; (try dsimp only at hSw); simp only [Box] at hSw; go_simp; try with_reducible rfl)
              simp only [Act.put, List.setIfInBounds_toArray, List.set_cons_zero, List.set_cons_succ]
              refine takeAt (i := 15) (d := 23) (v := .agg #[.int .i64 (IntKind.i64.wrap (1 + x)), .int .i64 y, .int .i64 v, .int .i64 ow, .int .i64 (IntKind.i64.wrap (39 + z))]) rfl (by kernel_rfl) (by kernel_rfl) (by kernel_rfl) (by kernel_rfl) (fun _ _ _ h => h) (Or.inl ⟨by kernel_rfl, fun _ _ => by kernel_rfl⟩) hHeld ?_
              simp only [Act.put, List.setIfInBounds_toArray, List.set_cons_zero, List.set_cons_succ]
              refine wpAnyH_ready (rs := [17]) (by kernel_rfl) (by simp) (AllReadyH.cons rfl (fun K hK => ?_) (AllReadyH.nil))
              obtain ⟨⟨bh1, bh2⟩, bh3⟩ := id bh
              go_simp
              have bh := bh.set5 (.int .i64 (IntKind.i64.wrap (1 + x))) (.int .i64 y) (.int .i64 v) (.int .i64 ow) (.int .i64 (IntKind.i64.wrap (39 + z)))
              have bg := bg.other5 hgh (.int .i64 (IntKind.i64.wrap (1 + x))) (.int .i64 y) (.int .i64 v) (.int .i64 ow) (.int .i64 (IntKind.i64.wrap (39 + z)))
              have HB := ap_new5 HB hlh (.int .i64 (IntKind.i64.wrap (1 + x))) (.int .i64 y) (.int .i64 v) (.int .i64 ow) (.int .i64 (IntKind.i64.wrap (39 + z)))
              have HR := HR.set5 (Nat.lt_of_lt_of_le (show R < wr.heap.size by omega) hlh) (.int .i64 (IntKind.i64.wrap (1 + x))) (.int .i64 y) (.int .i64 v) (.int .i64 ow) (.int .i64 (IntKind.i64.wrap (39 + z)))
              refine hK.out _ _ ?_ (fun hHeld1 => ?_)
              · exact ⟨bb.1.apart HB (by omega), bg⟩
              clear hK K hHeld
              have hHeld := hHeld1
              clear hHeld1
              refine wpAnyH_done (by kernel_rfl) ?_ _
              go_wp2_with fail
              go_meet
              exact ⟨_, _, _, _, _, _, rfl, by omega, by omega, bh, ap_trans HA HB, HR.le (by omega)⟩
            · skip
              refine step_call 21 25 rfl rfl (pick_rb R _ 6 _ HR (by omega) (by omega) (by omega)) (by kernel_rfl) ?_
              rintro e w1 ⟨⟨z, rfl, z0, z1⟩, ha, hr⟩
              refine ⟨_, rfl, ?_⟩
              simp only [Act.put, List.setIfInBounds_toArray, List.set_cons_zero, List.set_cons_succ]
              have bh := bh.apart ha (by omega)
              have HB := ap_trans HB ha
              clear HR ha
              have HR := hr
              clear hr
              have hs := HB.size
              refine hK.out _ _ ?_ (fun hHeld1 => ?_)
              · exact bb.1.apart HB (by omega)
              clear hK K hHeld
              have hHeld := hHeld1
              clear hHeld1
              refine takeAt (i := 14) (d := 22) (v := ?_) rfl (by kernel_rfl) (by kernel_rfl) (by kernel_rfl) (by kernel_rfl) (fun _ _ _ h => h) (Or.inl ⟨by kernel_rfl, ?_⟩) hHeld ?_
              rotate_left
              · (intro w hSw; (try dsimp only at hSw); simp only [Box] at hSw; go_simp; try with_reducible rfl)
              simp only [Act.put, List.setIfInBounds_toArray, List.set_cons_zero, List.set_cons_succ]
              refine wpAnyH_ready (rs := [5]) (by kernel_rfl) (by simp) (AllReadyH.cons rfl (fun K hK => ?_) (AllReadyH.nil))
              refine step_val 13 (.slice (some ⟨w1.heap.size, 0, none⟩) 3 3) (World.alloc w1 (.cells #[.int .i64 80, .int .i64 443, .int .i64 7] 3)) rfl rfl (by kernel_rfl) ?_
              simp only [Act.put, List.setIfInBounds_toArray, List.set_cons_zero, List.set_cons_succ]
              refine hK.out _ _ ?_ (fun hHeld1 => ?_)
              · exact (bb.1.apart HB (by omega)).below (bl_alloc (bl_refl _) _)
              clear hK K hHeld
              have hHeld := hHeld1
              clear hHeld1
              refine wpAnyH_alloc (fun C => ∀ r : Int, 0 ≤ r → r < 3 → ∃ v, C[r.toNat]? = some (.int .i64 v)) (fun r r0 r1 => from_pick r0 r1) (fun C W hC hBl bg => ?_)
              have hgh := Nat.ne_of_gt bh.1.1
              have bh := bh.below hBl
              have hlg := hs
              have HB := ap_trans HB (ap_of_bl hBl)
              have HR := HR.below hBl
              have hs := HB.size
              clear hHeld hBl
              have hHeld := And.intro (bb.1.apart HB (by omega)) bg
              obtain ⟨v, hv⟩ := hC u u0 u1
              refine takeAt (i := 8) (d := 16) (v := ?_) rfl (by kernel_rfl) (by kernel_rfl) (by kernel_rfl) (by kernel_rfl) (fun _ _ _ h => h) (Or.inl ⟨by kernel_rfl, ?_⟩) hHeld ?_
              rotate_left
              · (intro w hSw; (try dsimp only at hSw); simp only [Box] at hSw; go_simp; try with_reducible rfl)
              simp only [Act.put, List.setIfInBounds_toArray, List.set_cons_zero, List.set_cons_succ]
              refine takeAt (i := 9) (d := 17) (v := ?_) rfl (by kernel_rfl) (by kernel_rfl) (by kernel_rfl) (by kernel_rfl) (fun _ _ _ h => h) (Or.inl ⟨by kernel_rfl, ?_⟩) hHeld ?_
              rotate_left
              · (intro w hSw; (try dsimp only at hSw); simp only [Box] at hSw; go_simp; try with_reducible rfl)
              simp only [Act.put, List.setIfInBounds_toArray, List.set_cons_zero, List.set_cons_succ]
              refine takeAt (i := 15) (d := 23) (v := .agg #[.int .i64 (IntKind.i64.wrap (1 + x)), .int .i64 y, .int .i64 v, .int .i64 ow, .int .i64 (IntKind.i64.wrap (39 + z))]) rfl (by kernel_rfl) (by kernel_rfl) (by kernel_rfl) (by kernel_rfl) (fun _ _ _ h => h) (Or.inl ⟨by kernel_rfl, fun _ _ => by kernel_rfl⟩) hHeld ?_
              simp only [Act.put, List.setIfInBounds_toArray, List.set_cons_zero, List.set_cons_succ]
              refine wpAnyH_ready (rs := [17]) (by kernel_rfl) (by simp) (AllReadyH.cons rfl (fun K hK => ?_) (AllReadyH.nil))
              obtain ⟨⟨bh1, bh2⟩, bh3⟩ := id bh
              go_simp
              have bh := bh.set5 (.int .i64 (IntKind.i64.wrap (1 + x))) (.int .i64 y) (.int .i64 v) (.int .i64 ow) (.int .i64 (IntKind.i64.wrap (39 + z)))
              have bg := bg.other5 hgh (.int .i64 (IntKind.i64.wrap (1 + x))) (.int .i64 y) (.int .i64 v) (.int .i64 ow) (.int .i64 (IntKind.i64.wrap (39 + z)))
              have HB := ap_new5 HB hlh (.int .i64 (IntKind.i64.wrap (1 + x))) (.int .i64 y) (.int .i64 v) (.int .i64 ow) (.int .i64 (IntKind.i64.wrap (39 + z)))
              have HR := HR.set5 (Nat.lt_of_lt_of_le (show R < wr.heap.size by omega) hlh) (.int .i64 (IntKind.i64.wrap (1 + x))) (.int .i64 y) (.int .i64 v) (.int .i64 ow) (.int .i64 (IntKind.i64.wrap (39 + z)))
              refine hK.out _ _ ?_ (fun hHeld1 => ?_)
              · exact ⟨bb.1.apart HB (by omega), bg⟩
              clear hK K hHeld
              have hHeld := hHeld1
              clear hHeld1
              refine wpAnyH_done (by kernel_rfl) ?_ _
              go_wp2_with fail
              go_meet
              exact ⟨_, _, _, _, _, _, rfl, by omega, by omega, bh, ap_trans HA HB, HR.le (by omega)⟩
      · skip
        refine step_val 13 (.slice (some ⟨w1.heap.size, 0, none⟩) 3 3) (World.alloc w1 (.cells #[.int .i64 80, .int .i64 443, .int .i64 7] 3)) rfl rfl (by kernel_rfl) ?_
        simp only [Act.put, List.setIfInBounds_toArray, List.set_cons_zero, List.set_cons_succ]
        refine hK.out _ _ ?_ (fun hHeld1 => ?_)
        · exact (bb.1.apart HB (by omega)).below (bl_alloc (bl_refl _) _)
        clear hK K hHeld
        have hHeld := hHeld1
        clear hHeld1
        refine wpAnyH_alloc (fun C => ∀ r : Int, 0 ≤ r → r < 3 → ∃ v, C[r.toNat]? = some (.int .i64 v)) (fun r r0 r1 => from_pick r0 r1) (fun C W hC hBl bg => ?_)
        have hlg := hs
        have HB := ap_trans HB (ap_of_bl hBl)
        have HR := HR.below hBl
        have hs := HB.size
        clear hHeld hBl
        have hHeld := And.intro (bb.1.apart HB (by omega)) bg
        refine wpAnyH_ready (rs := [4, 16]) (by kernel_rfl) (by simp) (AllReadyH.cons rfl (fun K hK => ?_) (AllReadyH.cons rfl (fun K hK => ?_) (AllReadyH.nil)))
        · skip
          refine step_call 12 42 rfl rfl (peer_rb R _ _ HR (by omega)) (by kernel_rfl) ?_
          rintro e w1 ⟨⟨y, rfl, y0⟩, ha, hr⟩
          refine ⟨_, rfl, ?_⟩
          simp only [Act.put, List.setIfInBounds_toArray, List.set_cons_zero, List.set_cons_succ]
          have bg := bg.apart ha (by omega)
          have HB := ap_trans HB ha
          clear HR ha
          have HR := hr
          clear hr
          have hs := HB.size
          refine hK.out _ _ ?_ (fun hHeld1 => ?_)
          · exact ⟨bb.1.apart HB (by omega), bg⟩
          clear hK K hHeld
          have hHeld := hHeld1
          clear hHeld1
          refine wpAnyH_ready (rs := [7, 16]) (by kernel_rfl) (by simp) (AllReadyH.cons rfl (fun K hK => ?_) (AllReadyH.cons rfl (fun K hK => ?_) (AllReadyH.nil)))
          · skip
            refine step_call 15 25 rfl rfl (pick_rb R _ 3 _ HR (by omega) (by omega) (by omega)) (by kernel_rfl) ?_
            rintro e w1 ⟨⟨u, rfl, u0, u1⟩, ha, hr⟩
            refine ⟨_, rfl, ?_⟩
            simp only [Act.put, List.setIfInBounds_toArray, List.set_cons_zero, List.set_cons_succ]
            have bg := bg.apart ha (by omega)
            have HB := ap_trans HB ha
            clear HR ha
            have HR := hr
            clear hr
            have hs := HB.size
            refine hK.out _ _ ?_ (fun hHeld1 => ?_)
            · exact ⟨bb.1.apart HB (by omega), bg⟩
            clear hK K hHeld
            have hHeld := hHeld1
            clear hHeld1
            obtain ⟨v, hv⟩ := hC u u0 u1
            refine takeAt (i := 8) (d := 16) (v := ?_) rfl (by kernel_rfl) (by kernel_rfl) (by kernel_rfl) (by kernel_rfl) (fun _ _ _ h => h) (Or.inl ⟨by kernel_rfl, ?_⟩) hHeld ?_
            rotate_left
            · (intro w hSw; (try dsimp only at hSw); simp only [Box] at hSw; go_simp; try with_reducible rfl)
            simp only [Act.put, List.setIfInBounds_toArray, List.set_cons_zero, List.set_cons_succ]
            refine takeAt (i := 9) (d := 17) (v := ?_) rfl (by kernel_rfl) (by kernel_rfl) (by kernel_rfl) (by kernel_rfl) (fun _ _ _ h => h) (Or.inl ⟨by kernel_rfl, ?_⟩) hHeld ?_
            rotate_left
            · (intro w hSw; (try dsimp only at hSw); simp only [Box] at hSw; go_simp; try with_reducible rfl)
            simp only [Act.put, List.setIfInBounds_toArray, List.set_cons_zero, List.set_cons_succ]
            refine wpAnyH_ready (rs := [13, 16]) (by kernel_rfl) (by simp) (AllReadyH.cons rfl (fun K hK => ?_) (AllReadyH.cons rfl (fun K hK => ?_) (AllReadyH.nil)))
            · skip
              refine step_call 21 25 rfl rfl (pick_rb R _ 6 _ HR (by omega) (by omega) (by omega)) (by kernel_rfl) ?_
              rintro e w1 ⟨⟨z, rfl, z0, z1⟩, ha, hr⟩
              refine ⟨_, rfl, ?_⟩
              simp only [Act.put, List.setIfInBounds_toArray, List.set_cons_zero, List.set_cons_succ]
              have bg := bg.apart ha (by omega)
              have HB := ap_trans HB ha
              clear HR ha
              have HR := hr
              clear hr
              have hs := HB.size
              refine hK.out _ _ ?_ (fun hHeld1 => ?_)
              · exact ⟨bb.1.apart HB (by omega), bg⟩
              clear hK K hHeld
              have hHeld := hHeld1
              clear hHeld1
              refine takeAt (i := 14) (d := 22) (v := ?_) rfl (by kernel_rfl) (by kernel_rfl) (by kernel_rfl) (by kernel_rfl) (fun _ _ _ h => h) (Or.inl ⟨by kernel_rfl, ?_⟩) hHeld ?_
              rotate_left
              · (intro w hSw; (try dsimp only at hSw); simp only [Box] at hSw; go_simp; try with_reducible rfl)
              simp only [Act.put, List.setIfInBounds_toArray, List.set_cons_zero, List.set_cons_succ]
              refine takeAt (i := 15) (d := 23) (v := .agg #[.int .i64 (IntKind.i64.wrap (1 + x)), .int .i64 y, .int .i64 v, .int .i64 ow, .int .i64 (IntKind.i64.wrap (39 + z))]) rfl (by kernel_rfl) (by kernel_rfl) (by kernel_rfl) (by kernel_rfl) (fun _ _ _ h => h) (Or.inl ⟨by kernel_rfl, fun _ _ => by kernel_rfl⟩) hHeld ?_
              simp only [Act.put, List.setIfInBounds_toArray, List.set_cons_zero, List.set_cons_succ]
              refine wpAnyH_ready (rs := [16]) (by kernel_rfl) (by simp) (AllReadyH.cons rfl (fun K hK => ?_) (AllReadyH.nil))
              refine step_val 5 (.pointer (some ⟨w1.heap.size, 0, none⟩)) (World.alloc w1 (.cells #[.int .i64 0, .int .i64 0, .int .i64 0, .int .i64 0, .int .i64 0] 24)) rfl rfl (by kernel_rfl) ?_
              simp only [Act.put, List.setIfInBounds_toArray, List.set_cons_zero, List.set_cons_succ]
              refine hK.out _ _ ?_ (fun hHeld1 => ?_)
              · exact ⟨(bb.1.apart HB (by omega)).below (bl_alloc (bl_refl _) _), Box.below bg (bl_alloc (bl_refl _) _)⟩
              clear hK K hHeld
              have hHeld := hHeld1
              clear hHeld1
              refine wpAnyH_newx (fun W hBl bh => ?_)
              have hlh := hs
              have hlb := (bb.1.apart HB (by omega)).1
              have hgh := Nat.ne_of_lt bg.1
              have bg := bg.below hBl
              have HB := ap_trans HB (ap_of_bl hBl)
              have HR := HR.below hBl
              have hs := HB.size
              clear hHeld hBl
              have hHeld := And.intro (bb.1.apart HB (by omega)) bg
              refine wpAnyH_ready (rs := [17]) (by kernel_rfl) (by simp) (AllReadyH.cons rfl (fun K hK => ?_) (AllReadyH.nil))
              obtain ⟨⟨bh1, bh2⟩, bh3⟩ := id bh
              go_simp
              have bh := bh.set5 (.int .i64 (IntKind.i64.wrap (1 + x))) (.int .i64 y) (.int .i64 v) (.int .i64 ow) (.int .i64 (IntKind.i64.wrap (39 + z)))
              have bg := bg.other5 hgh (.int .i64 (IntKind.i64.wrap (1 + x))) (.int .i64 y) (.int .i64 v) (.int .i64 ow) (.int .i64 (IntKind.i64.wrap (39 + z)))
              have HB := ap_new5 HB hlh (.int .i64 (IntKind.i64.wrap (1 + x))) (.int .i64 y) (.int .i64 v) (.int .i64 ow) (.int .i64 (IntKind.i64.wrap (39 + z)))
              have HR := HR.set5 (Nat.lt_of_lt_of_le (show R < wr.heap.size by omega) hlh) (.int .i64 (IntKind.i64.wrap (1 + x))) (.int .i64 y) (.int .i64 v) (.int .i64 ow) (.int .i64 (IntKind.i64.wrap (39 + z)))
              refine hK.out _ _ ?_ (fun hHeld1 => ?_)
              · exact ⟨bb.1.apart HB (by omega), bg⟩
              clear hK K hHeld
              have hHeld := hHeld1
              clear hHeld1
              refine wpAnyH_done (by kernel_rfl) ?_ _
              go_wp2_with fail
              go_meet
              exact ⟨_, _, _, _, _, _, rfl, by omega, by omega, bh, ap_trans HA HB, HR.le (by omega)⟩
            · skip
              refine step_val 5 (.pointer (some ⟨w1.heap.size, 0, none⟩)) (World.alloc w1 (.cells #[.int .i64 0, .int .i64 0, .int .i64 0, .int .i64 0, .int .i64 0] 24)) rfl rfl (by kernel_rfl) ?_
              simp only [Act.put, List.setIfInBounds_toArray, List.set_cons_zero, List.set_cons_succ]
              refine hK.out _ _ ?_ (fun hHeld1 => ?_)
              · exact ⟨(bb.1.apart HB (by omega)).below (bl_alloc (bl_refl _) _), Box.below bg (bl_alloc (bl_refl _) _)⟩
              clear hK K hHeld
              have hHeld := hHeld1
              clear hHeld1
              refine wpAnyH_newx (fun W hBl bh => ?_)
              have hlh := hs
              have hlb := (bb.1.apart HB (by omega)).1
              have hgh := Nat.ne_of_lt bg.1
              have bg := bg.below hBl
              have HB := ap_trans HB (ap_of_bl hBl)
              have HR := HR.below hBl
              have hs := HB.size
              clear hHeld hBl
              have hHeld := And.intro (bb.1.apart HB (by omega)) bg
              refine wpAnyH_ready (rs := [13]) (by kernel_rfl) (by simp) (AllReadyH.cons rfl (fun K hK => ?_) (AllReadyH.nil))
              refine step_call 21 25 rfl rfl (pick_rb R _ 6 _ HR (by omega) (by omega) (by omega)) (by kernel_rfl) ?_
              rintro e w1 ⟨⟨z, rfl, z0, z1⟩, ha, hr⟩
              refine ⟨_, rfl, ?_⟩
              simp only [Act.put, List.setIfInBounds_toArray, List.set_cons_zero, List.set_cons_succ]
              have bg := bg.apart ha (by omega)
              have bh := bh.apart ha (by omega)
              have HB := ap_trans HB ha
              clear HR ha
              have HR := hr
              clear hr
              have hs := HB.size
              refine hK.out _ _ ?_ (fun hHeld1 => ?_)
              · exact ⟨bb.1.apart HB (by omega), bg⟩
              clear hK K hHeld
              have hHeld := hHeld1
              clear hHeld1
              refine takeAt (i := 14) (d := 22) (v := ?_) rfl (by kernel_rfl) (by kernel_rfl) (by kernel_rfl) (by kernel_rfl) (fun _ _ _ h => h) (Or.inl ⟨by kernel_rfl, ?_⟩) hHeld ?_
              rotate_left
              · (intro w hSw; (try dsimp only at hSw); simp only [Box] at hSw; go_simp; try with_reducible rfl)
              simp only [Act.put, List.setIfInBounds_toArray, List.set_cons_zero, List.set_cons_succ]
              refine takeAt (i := 15) (d := 23) (v := .agg #[.int .i64 (IntKind.i64.wrap (1 + x)), .int .i64 y, .int .i64 v, .int .i64 ow, .int .i64 (IntKind.i64.wrap (39 + z))]) rfl (by kernel_rfl) (by kernel_rfl) (by kernel_rfl) (by kernel_rfl) (fun _ _ _ h => h) (Or.inl ⟨by kernel_rfl, fun _ _ => by kernel_rfl⟩) hHeld ?_
              simp only [Act.put, List.setIfInBounds_toArray, List.set_cons_zero, List.set_cons_succ]
              refine wpAnyH_ready (rs := [17]) (by kernel_rfl) (by simp) (AllReadyH.cons rfl (fun K hK => ?_) (AllReadyH.nil))
              obtain ⟨⟨bh1, bh2⟩, bh3⟩ := id bh
              go_simp
              have bh := bh.set5 (.int .i64 (IntKind.i64.wrap (1 + x))) (.int .i64 y) (.int .i64 v) (.int .i64 ow) (.int .i64 (IntKind.i64.wrap (39 + z)))
              have bg := bg.other5 hgh (.int .i64 (IntKind.i64.wrap (1 + x))) (.int .i64 y) (.int .i64 v) (.int .i64 ow) (.int .i64 (IntKind.i64.wrap (39 + z)))
              have HB := ap_new5 HB hlh (.int .i64 (IntKind.i64.wrap (1 + x))) (.int .i64 y) (.int .i64 v) (.int .i64 ow) (.int .i64 (IntKind.i64.wrap (39 + z)))
              have HR := HR.set5 (Nat.lt_of_lt_of_le (show R < wr.heap.size by omega) hlh) (.int .i64 (IntKind.i64.wrap (1 + x))) (.int .i64 y) (.int .i64 v) (.int .i64 ow) (.int .i64 (IntKind.i64.wrap (39 + z)))
              refine hK.out _ _ ?_ (fun hHeld1 => ?_)
              · exact ⟨bb.1.apart HB (by omega), bg⟩
              clear hK K hHeld
              have hHeld := hHeld1
              clear hHeld1
              refine wpAnyH_done (by kernel_rfl) ?_ _
              go_wp2_with fail
              go_meet
              exact ⟨_, _, _, _, _, _, rfl, by omega, by omega, bh, ap_trans HA HB, HR.le (by omega)⟩
          · skip
            refine step_val 5 (.pointer (some ⟨w1.heap.size, 0, none⟩)) (World.alloc w1 (.cells #[.int .i64 0, .int .i64 0, .int .i64 0, .int .i64 0, .int .i64 0] 24)) rfl rfl (by kernel_rfl) ?_
            simp only [Act.put, List.setIfInBounds_toArray, List.set_cons_zero, List.set_cons_succ]
            refine hK.out _ _ ?_ (fun hHeld1 => ?_)
            · exact ⟨(bb.1.apart HB (by omega)).below (bl_alloc (bl_refl _) _), Box.below bg (bl_alloc (bl_refl _) _)⟩
            clear hK K hHeld
            have hHeld := hHeld1
            clear hHeld1
            refine wpAnyH_newx (fun W hBl bh => ?_)
            have hlh := hs
            have hlb := (bb.1.apart HB (by omega)).1
            have hgh := Nat.ne_of_lt bg.1
            have bg := bg.below hBl
            have HB := ap_trans HB (ap_of_bl hBl)
            have HR := HR.below hBl
            have hs := HB.size
            clear hHeld hBl
            have hHeld := And.intro (bb.1.apart HB (by omega)) bg
            refine wpAnyH_ready (rs := [7]) (by kernel_rfl) (by simp) (AllReadyH.cons rfl (fun K hK => ?_) (AllReadyH.nil))
            refine step_call 15 25 rfl rfl (pick_rb R _ 3 _ HR (by omega) (by omega) (by omega)) (by kernel_rfl) ?_
            rintro e w1 ⟨⟨u, rfl, u0, u1⟩, ha, hr⟩
            refine ⟨_, rfl, ?_⟩
            simp only [Act.put, List.setIfInBounds_toArray, List.set_cons_zero, List.set_cons_succ]
            have bg := bg.apart ha (by omega)
            have bh := bh.apart ha (by omega)
            have HB := ap_trans HB ha
            clear HR ha
            have HR := hr
            clear hr
            have hs := HB.size
            refine hK.out _ _ ?_ (fun hHeld1 => ?_)
            · exact ⟨bb.1.apart HB (by omega), bg⟩
            clear hK K hHeld
            have hHeld := hHeld1
            clear hHeld1
            obtain ⟨v, hv⟩ := hC u u0 u1
            refine takeAt (i := 8) (d := 16) (v := ?_) rfl (by kernel_rfl) (by kernel_rfl) (by kernel_rfl) (by kernel_rfl) (fun _ _ _ h => h) (Or.inl ⟨by kernel_rfl, ?_⟩) hHeld ?_
            rotate_left
            · (intro w hSw; (try dsimp only at hSw); simp only [Box] at hSw; go_simp; try with_reducible rfl)
            simp only [Act.put, List.setIfInBounds_toArray, List.set_cons_zero, List.set_cons_succ]
            refine takeAt (i := 9) (d := 17) (v := ?_) rfl (by kernel_rfl) (by kernel_rfl) (by kernel_rfl) (by kernel_rfl) (fun _ _ _ h => h) (Or.inl ⟨by kernel_rfl, ?_⟩) hHeld ?_
            rotate_left
            · (intro w hSw; (try dsimp only at hSw); simp only [Box] at hSw; go_simp; try with_reducible rfl)
            simp only [Act.put, List.setIfInBounds_toArray, List.set_cons_zero, List.set_cons_succ]
            refine wpAnyH_ready (rs := [13]) (by kernel_rfl) (by simp) (AllReadyH.cons rfl (fun K hK => ?_) (AllReadyH.nil))
            refine step_call 21 25 rfl rfl (pick_rb R _ 6 _ HR (by omega) (by omega) (by omega)) (by kernel_rfl) ?_
            rintro e w1 ⟨⟨z, rfl, z0, z1⟩, ha, hr⟩
            refine ⟨_, rfl, ?_⟩
            simp only [Act.put, List.setIfInBounds_toArray, List.set_cons_zero, List.set_cons_succ]
            have bg := bg.apart ha (by omega)
            have bh := bh.apart ha (by omega)
            have HB := ap_trans HB ha
            clear HR ha
            have HR := hr
            clear hr
            have hs := HB.size
            refine hK.out _ _ ?_ (fun hHeld1 => ?_)
            · exact ⟨bb.1.apart HB (by omega), bg⟩
            clear hK K hHeld
            have hHeld := hHeld1
            clear hHeld1
            refine takeAt (i := 14) (d := 22) (v := ?_) rfl (by kernel_rfl) (by kernel_rfl) (by kernel_rfl) (by kernel_rfl) (fun _ _ _ h => h) (Or.inl ⟨by kernel_rfl, ?_⟩) hHeld ?_
            rotate_left
            · (intro w hSw; (try dsimp only at hSw); simp only [Box] at hSw; go_simp; try with_reducible rfl)
            simp only [Act.put, List.setIfInBounds_toArray, List.set_cons_zero, List.set_cons_succ]
            refine takeAt (i := 15) (d := 23) (v := .agg #[.int .i64 (IntKind.i64.wrap (1 + x)), .int .i64 y, .int .i64 v, .int .i64 ow, .int .i64 (IntKind.i64.wrap (39 + z))]) rfl (by kernel_rfl) (by kernel_rfl) (by kernel_rfl) (by kernel_rfl) (fun _ _ _ h => h) (Or.inl ⟨by kernel_rfl, fun _ _ => by kernel_rfl⟩) hHeld ?_
            simp only [Act.put, List.setIfInBounds_toArray, List.set_cons_zero, List.set_cons_succ]
            refine wpAnyH_ready (rs := [17]) (by kernel_rfl) (by simp) (AllReadyH.cons rfl (fun K hK => ?_) (AllReadyH.nil))
            obtain ⟨⟨bh1, bh2⟩, bh3⟩ := id bh
            go_simp
            have bh := bh.set5 (.int .i64 (IntKind.i64.wrap (1 + x))) (.int .i64 y) (.int .i64 v) (.int .i64 ow) (.int .i64 (IntKind.i64.wrap (39 + z)))
            have bg := bg.other5 hgh (.int .i64 (IntKind.i64.wrap (1 + x))) (.int .i64 y) (.int .i64 v) (.int .i64 ow) (.int .i64 (IntKind.i64.wrap (39 + z)))
            have HB := ap_new5 HB hlh (.int .i64 (IntKind.i64.wrap (1 + x))) (.int .i64 y) (.int .i64 v) (.int .i64 ow) (.int .i64 (IntKind.i64.wrap (39 + z)))
            have HR := HR.set5 (Nat.lt_of_lt_of_le (show R < wr.heap.size by omega) hlh) (.int .i64 (IntKind.i64.wrap (1 + x))) (.int .i64 y) (.int .i64 v) (.int .i64 ow) (.int .i64 (IntKind.i64.wrap (39 + z)))
            refine hK.out _ _ ?_ (fun hHeld1 => ?_)
            · exact ⟨bb.1.apart HB (by omega), bg⟩
            clear hK K hHeld
            have hHeld := hHeld1
            clear hHeld1
            refine wpAnyH_done (by kernel_rfl) ?_ _
            go_wp2_with fail
            go_meet
            exact ⟨_, _, _, _, _, _, rfl, by omega, by omega, bh, ap_trans HA HB, HR.le (by omega)⟩
        · skip
          refine step_val 5 (.pointer (some ⟨W.heap.size, 0, none⟩)) (World.alloc W (.cells #[.int .i64 0, .int .i64 0, .int .i64 0, .int .i64 0, .int .i64 0] 24)) rfl rfl (by kernel_rfl) ?_
          simp only [Act.put, List.setIfInBounds_toArray, List.set_cons_zero, List.set_cons_succ]
          refine hK.out _ _ ?_ (fun hHeld1 => ?_)
          · exact ⟨(bb.1.apart HB (by omega)).below (bl_alloc (bl_refl _) _), Box.below bg (bl_alloc (bl_refl _) _)⟩
          clear hK K hHeld
          have hHeld := hHeld1
          clear hHeld1
          refine wpAnyH_newx (fun W hBl bh => ?_)
          have hlh := hs
          have hlb := (bb.1.apart HB (by omega)).1
          have hgh := Nat.ne_of_lt bg.1
          have bg := bg.below hBl
          have HB := ap_trans HB (ap_of_bl hBl)
          have HR := HR.below hBl
          have hs := HB.size
          clear hHeld hBl
          have hHeld := And.intro (bb.1.apart HB (by omega)) bg
          refine wpAnyH_ready (rs := [4]) (by kernel_rfl) (by simp) (AllReadyH.cons rfl (fun K hK => ?_) (AllReadyH.nil))
          refine step_call 12 42 rfl rfl (peer_rb R _ _ HR (by omega)) (by kernel_rfl) ?_
          rintro e w1 ⟨⟨y, rfl, y0⟩, ha, hr⟩
          refine ⟨_, rfl, ?_⟩
          simp only [Act.put, List.setIfInBounds_toArray, List.set_cons_zero, List.set_cons_succ]
          have bg := bg.apart ha (by omega)
          have bh := bh.apart ha (by omega)
          have HB := ap_trans HB ha
          clear HR ha
          have HR := hr
          clear hr
          have hs := HB.size
          refine hK.out _ _ ?_ (fun hHeld1 => ?_)
          · exact ⟨bb.1.apart HB (by omega), bg⟩
          clear hK K hHeld
          have hHeld := hHeld1
          clear hHeld1
          refine wpAnyH_ready (rs := [7]) (by kernel_rfl) (by simp) (AllReadyH.cons rfl (fun K hK => ?_) (AllReadyH.nil))
          refine step_call 15 25 rfl rfl (pick_rb R _ 3 _ HR (by omega) (by omega) (by omega)) (by kernel_rfl) ?_
          rintro e w1 ⟨⟨u, rfl, u0, u1⟩, ha, hr⟩
          refine ⟨_, rfl, ?_⟩
          simp only [Act.put, List.setIfInBounds_toArray, List.set_cons_zero, List.set_cons_succ]
          have bg := bg.apart ha (by omega)
          have bh := bh.apart ha (by omega)
          have HB := ap_trans HB ha
          clear HR ha
          have HR := hr
          clear hr
          have hs := HB.size
          refine hK.out _ _ ?_ (fun hHeld1 => ?_)
          · exact ⟨bb.1.apart HB (by omega), bg⟩
          clear hK K hHeld
          have hHeld := hHeld1
          clear hHeld1
          obtain ⟨v, hv⟩ := hC u u0 u1
          refine takeAt (i := 8) (d := 16) (v := ?_) rfl (by kernel_rfl) (by kernel_rfl) (by kernel_rfl) (by kernel_rfl) (fun _ _ _ h => h) (Or.inl ⟨by kernel_rfl, ?_⟩) hHeld ?_
          rotate_left
          · (intro w hSw; (try dsimp only at hSw); simp only [Box] at hSw; go_simp; try with_reducible rfl)
          simp only [Act.put, List.setIfInBounds_toArray, List.set_cons_zero, List.set_cons_succ]
          refine takeAt (i := 9) (d := 17) (v := ?_) rfl (by kernel_rfl) (by kernel_rfl) (by kernel_rfl) (by kernel_rfl) (fun _ _ _ h => h) (Or.inl ⟨by kernel_rfl, ?_⟩) hHeld ?_
          rotate_left
          · (intro w hSw; (try dsimp only at hSw); simp only [Box] at hSw; go_simp; try with_reducible rfl)
          simp only [Act.put, List.setIfInBounds_toArray, List.set_cons_zero, List.set_cons_succ]
          refine wpAnyH_ready (rs := [13]) (by kernel_rfl) (by simp) (AllReadyH.cons rfl (fun K hK => ?_) (AllReadyH.nil))
          refine step_call 21 25 rfl rfl (pick_rb R _ 6 _ HR (by omega) (by omega) (by omega)) (by kernel_rfl) ?_
          rintro e w1 ⟨⟨z, rfl, z0, z1⟩, ha, hr⟩
          refine ⟨_, rfl, ?_⟩
          simp only [Act.put, List.setIfInBounds_toArray, List.set_cons_zero, List.set_cons_succ]
          have bg := bg.apart ha (by omega)
          have bh := bh.apart ha (by omega)
          have HB := ap_trans HB ha
          clear HR ha
          have HR := hr
          clear hr
          have hs := HB.size
          refine hK.out _ _ ?_ (fun hHeld1 => ?_)
          · exact ⟨bb.1.apart HB (by omega), bg⟩
          clear hK K hHeld
          have hHeld := hHeld1
          clear hHeld1
          refine takeAt (i := 14) (d := 22) (v := ?_) rfl (by kernel_rfl) (by kernel_rfl) (by kernel_rfl) (by kernel_rfl) (fun _ _ _ h => h) (Or.inl ⟨by kernel_rfl, ?_⟩) hHeld ?_
          rotate_left
          · (intro w hSw; (try dsimp only at hSw); simp only [Box] at hSw; go_simp; try with_reducible rfl)
          simp only [Act.put, List.setIfInBounds_toArray, List.set_cons_zero, List.set_cons_succ]
          refine takeAt (i := 15) (d := 23) (v := .agg #[.int .i64 (IntKind.i64.wrap (1 + x)), .int .i64 y, .int .i64 v, .int .i64 ow, .int .i64 (IntKind.i64.wrap (39 + z))]) rfl (by kernel_rfl) (by kernel_rfl) (by kernel_rfl) (by kernel_rfl) (fun _ _ _ h => h) (Or.inl ⟨by kernel_rfl, fun _ _ => by kernel_rfl⟩) hHeld ?_
          simp only [Act.put, List.setIfInBounds_toArray, List.set_cons_zero, List.set_cons_succ]
          refine wpAnyH_ready (rs := [17]) (by kernel_rfl) (by simp) (AllReadyH.cons rfl (fun K hK => ?_) (AllReadyH.nil))
          obtain ⟨⟨bh1, bh2⟩, bh3⟩ := id bh
          go_simp
          have bh := bh.set5 (.int .i64 (IntKind.i64.wrap (1 + x))) (.int .i64 y) (.int .i64 v) (.int .i64 ow) (.int .i64 (IntKind.i64.wrap (39 + z)))
          have bg := bg.other5 hgh (.int .i64 (IntKind.i64.wrap (1 + x))) (.int .i64 y) (.int .i64 v) (.int .i64 ow) (.int .i64 (IntKind.i64.wrap (39 + z)))
          have HB := ap_new5 HB hlh (.int .i64 (IntKind.i64.wrap (1 + x))) (.int .i64 y) (.int .i64 v) (.int .i64 ow) (.int .i64 (IntKind.i64.wrap (39 + z)))
          have HR := HR.set5 (Nat.lt_of_lt_of_le (show R < wr.heap.size by omega) hlh) (.int .i64 (IntKind.i64.wrap (1 + x))) (.int .i64 y) (.int .i64 v) (.int .i64 ow) (.int .i64 (IntKind.i64.wrap (39 + z)))
          refine hK.out _ _ ?_ (fun hHeld1 => ?_)
          · exact ⟨bb.1.apart HB (by omega), bg⟩
          clear hK K hHeld
          have hHeld := hHeld1
          clear hHeld1
          refine wpAnyH_done (by kernel_rfl) ?_ _
          go_wp2_with fail
          go_meet
          exact ⟨_, _, _, _, _, _, rfl, by omega, by omega, bh, ap_trans HA HB, HR.le (by omega)⟩
      · skip
        refine step_val 5 (.pointer (some ⟨w1.heap.size, 0, none⟩)) (World.alloc w1 (.cells #[.int .i64 0, .int .i64 0, .int .i64 0, .int .i64 0, .int .i64 0] 24)) rfl rfl (by kernel_rfl) ?_
        simp only [Act.put, List.setIfInBounds_toArray, List.set_cons_zero, List.set_cons_succ]
        refine hK.out _ _ ?_ (fun hHeld1 => ?_)
        · exact (bb.1.apart HB (by omega)).below (bl_alloc (bl_refl _) _)
        clear hK K hHeld
        have hHeld := hHeld1
        clear hHeld1
        refine wpAnyH_newx (fun W hBl bh => ?_)
        have hlh := hs
        have hlb := (bb.1.apart HB (by omega)).1
        have HB := ap_trans HB (ap_of_bl hBl)
        have HR := HR.below hBl
        have hs := HB.size
        clear hHeld hBl
        have hHeld := bb.1.apart HB (by omega)
        refine wpAnyH_ready (rs := [4, 5]) (by kernel_rfl) (by simp) (AllReadyH.cons rfl (fun K hK => ?_) (AllReadyH.cons rfl (fun K hK => ?_) (AllReadyH.nil)))
        · skip
          refine step_call 12 42 rfl rfl (peer_rb R _ _ HR (by omega)) (by kernel_rfl) ?_
          rintro e w1 ⟨⟨y, rfl, y0⟩, ha, hr⟩
          refine ⟨_, rfl, ?_⟩
          simp only [Act.put, List.setIfInBounds_toArray, List.set_cons_zero, List.set_cons_succ]
          have bh := bh.apart ha (by omega)
          have HB := ap_trans HB ha
          clear HR ha
          have HR := hr
          clear hr
          have hs := HB.size
          refine hK.out _ _ ?_ (fun hHeld1 => ?_)
          · exact bb.1.apart HB (by omega)
          clear hK K hHeld
          have hHeld := hHeld1
          clear hHeld1
          refine wpAnyH_ready (rs := [5, 7]) (by kernel_rfl) (by simp) (AllReadyH.cons rfl (fun K hK => ?_) (AllReadyH.cons rfl (fun K hK => ?_) (AllReadyH.nil)))
          · skip
            refine step_val 13 (.slice (some ⟨w1.heap.size, 0, none⟩) 3 3) (World.alloc w1 (.cells #[.int .i64 80, .int .i64 443, .int .i64 7] 3)) rfl rfl (by kernel_rfl) ?_
            simp only [Act.put, List.setIfInBounds_toArray, List.set_cons_zero, List.set_cons_succ]
            refine hK.out _ _ ?_ (fun hHeld1 => ?_)
            · exact (bb.1.apart HB (by omega)).below (bl_alloc (bl_refl _) _)
            clear hK K hHeld
            have hHeld := hHeld1
            clear hHeld1
            refine wpAnyH_alloc (fun C => ∀ r : Int, 0 ≤ r → r < 3 → ∃ v, C[r.toNat]? = some (.int .i64 v)) (fun r r0 r1 => from_pick r0 r1) (fun C W hC hBl bg => ?_)
            have hgh := Nat.ne_of_gt bh.1.1
            have bh := bh.below hBl
            have hlg := hs
            have HB := ap_trans HB (ap_of_bl hBl)
            have HR := HR.below hBl
            have hs := HB.size
            clear hHeld hBl
            have hHeld := And.intro (bb.1.apart HB (by omega)) bg
            refine wpAnyH_ready (rs := [7]) (by kernel_rfl) (by simp) (AllReadyH.cons rfl (fun K hK => ?_) (AllReadyH.nil))
            refine step_call 15 25 rfl rfl (pick_rb R _ 3 _ HR (by omega) (by omega) (by omega)) (by kernel_rfl) ?_
            rintro e w1 ⟨⟨u, rfl, u0, u1⟩, ha, hr⟩
            refine ⟨_, rfl, ?_⟩
            simp only [Act.put, List.setIfInBounds_toArray, List.set_cons_zero, List.set_cons_succ]
            have bg := bg.apart ha (by omega)
            have bh := bh.apart ha (by omega)
            have HB := ap_trans HB ha
            clear HR ha
            have HR := hr
            clear hr
            have hs := HB.size
            refine hK.out _ _ ?_ (fun hHeld1 => ?_)
            · exact ⟨bb.1.apart HB (by omega), bg⟩
            clear hK K hHeld
            have hHeld := hHeld1
            clear hHeld1
            obtain ⟨v, hv⟩ := hC u u0 u1
            refine takeAt (i := 8) (d := 16) (v := ?_) rfl (by kernel_rfl) (by kernel_rfl) (by kernel_rfl) (by kernel_rfl) (fun _ _ _ h => h) (Or.inl ⟨by kernel_rfl, ?_⟩) hHeld ?_
            rotate_left
            · (intro w hSw; (try dsimp only at hSw); simp only [Box] at hSw; go_simp; try with_reducible rfl)
            simp only [Act.put, List.setIfInBounds_toArray, List.set_cons_zero, List.set_cons_succ]
            refine takeAt (i := 9) (d := 17) (v := ?_) rfl (by kernel_rfl) (by kernel_rfl) (by kernel_rfl) (by kernel_rfl) (fun _ _ _ h => h) (Or.inl ⟨by kernel_rfl, ?_⟩) hHeld ?_
            rotate_left
            · (intro w hSw; (try dsimp only at hSw); simp only [Box] at hSw; go_simp; try with_reducible rfl)
            simp only [Act.put, List.setIfInBounds_toArray, List.set_cons_zero, List.set_cons_succ]
            refine wpAnyH_ready (rs := [13]) (by kernel_rfl) (by simp) (AllReadyH.cons rfl (fun K hK => ?_) (AllReadyH.nil))
            refine step_call 21 25 rfl rfl (pick_rb R _ 6 _ HR (by omega) (by omega) (by omega)) (by kernel_rfl) ?_
            rintro e w1 ⟨⟨z, rfl, z0, z1⟩, ha, hr⟩
            refine ⟨_, rfl, ?_⟩
            simp only [Act.put, List.setIfInBounds_toArray, List.set_cons_zero, List.set_cons_succ]
            have bg := bg.apart ha (by omega)
            have bh := bh.apart ha (by omega)
            have HB := ap_trans HB ha
            clear HR ha
            have HR := hr
            clear hr
            have hs := HB.size
            refine hK.out _ _ ?_ (fun hHeld1 => ?_)
            · exact ⟨bb.1.apart HB (by omega), bg⟩
            clear hK K hHeld
            have hHeld := hHeld1
            clear hHeld1
            refine takeAt (i := 14) (d := 22) (v := ?_) rfl (by kernel_rfl) (by kernel_rfl) (by kernel_rfl) (by kernel_rfl) (fun _ _ _ h => h) (Or.inl ⟨by kernel_rfl, ?_⟩) hHeld ?_
            rotate_left
            · (intro w hSw; (try dsimp only at hSw); simp only [Box] at hSw; go_simp; try with_reducible rfl)
            simp only [Act.put, List.setIfInBounds_toArray, List.set_cons_zero, List.set_cons_succ]
            refine takeAt (i := 15) (d := 23) (v := .agg #[.int .i64 (IntKind.i64.wrap (1 + x)), .int .i64 y, .int .i64 v, .int .i64 ow, .int .i64 (IntKind.i64.wrap (39 + z))]) rfl (by kernel_rfl) (by kernel_rfl) (by kernel_rfl) (by kernel_rfl) (fun _ _ _ h => h) (Or.inl ⟨by kernel_rfl, fun _ _ => by kernel_rfl⟩) hHeld ?_
            simp only [Act.put, List.setIfInBounds_toArray, List.set_cons_zero, List.set_cons_succ]
            refine wpAnyH_ready (rs := [17]) (by kernel_rfl) (by simp) (AllReadyH.cons rfl (fun K hK => ?_) (AllReadyH.nil))
            obtain ⟨⟨bh1, bh2⟩, bh3⟩ := id bh
            go_simp
            have bh := bh.set5 (.int .i64 (IntKind.i64.wrap (1 + x))) (.int .i64 y) (.int .i64 v) (.int .i64 ow) (.int .i64 (IntKind.i64.wrap (39 + z)))
            have bg := bg.other5 hgh (.int .i64 (IntKind.i64.wrap (1 + x))) (.int .i64 y) (.int .i64 v) (.int .i64 ow) (.int .i64 (IntKind.i64.wrap (39 + z)))
            have HB := ap_new5 HB hlh (.int .i64 (IntKind.i64.wrap (1 + x))) (.int .i64 y) (.int .i64 v) (.int .i64 ow) (.int .i64 (IntKind.i64.wrap (39 + z)))
            have HR := HR.set5 (Nat.lt_of_lt_of_le (show R < wr.heap.size by omega) hlh) (.int .i64 (IntKind.i64.wrap (1 + x))) (.int .i64 y) (.int .i64 v) (.int .i64 ow) (.int .i64 (IntKind.i64.wrap (39 + z)))
            refine hK.out _ _ ?_ (fun hHeld1 => ?_)
            · exact ⟨bb.1.apart HB (by omega), bg⟩
            clear hK K hHeld
            have hHeld := hHeld1
            clear hHeld1
            refine wpAnyH_done (by kernel_rfl) ?_ _
            go_wp2_with fail
            go_meet
            exact ⟨_, _, _, _, _, _, rfl, by omega, by omega, bh, ap_trans HA HB, HR.le (by omega)⟩
          · skip
            refine step_call 15 25 rfl rfl (pick_rb R _ 3 _ HR (by omega) (by omega) (by omega)) (by kernel_rfl) ?_
            rintro e w1 ⟨⟨u, rfl, u0, u1⟩, ha, hr⟩
            refine ⟨_, rfl, ?_⟩
            simp only [Act.put, List.setIfInBounds_toArray, List.set_cons_zero, List.set_cons_succ]
            have bh := bh.apart ha (by omega)
            have HB := ap_trans HB ha
            clear HR ha
            have HR := hr
            clear hr
            have hs := HB.size
            refine hK.out _ _ ?_ (fun hHeld1 => ?_)
            · exact bb.1.apart HB (by omega)
            clear hK K hHeld
            have hHeld := hHeld1
            clear hHeld1
            refine wpAnyH_ready (rs := [5, 13]) (by kernel_rfl) (by simp) (AllReadyH.cons rfl (fun K hK => ?_) (AllReadyH.cons rfl (fun K hK => ?_) (AllReadyH.nil)))
            · skip
              refine step_val 13 (.slice (some ⟨w1.heap.size, 0, none⟩) 3 3) (World.alloc w1 (.cells #[.int .i64 80, .int .i64 443, .int .i64 7] 3)) rfl rfl (by kernel_rfl) ?_
              simp only [Act.put, List.setIfInBounds_toArray, List.set_cons_zero, List.set_cons_succ]
              refine hK.out _ _ ?_ (fun hHeld1 => ?_)
              · exact (bb.1.apart HB (by omega)).below (bl_alloc (bl_refl _) _)
              clear hK K hHeld
              have hHeld := hHeld1
              clear hHeld1
              refine wpAnyH_alloc (fun C => ∀ r : Int, 0 ≤ r → r < 3 → ∃ v, C[r.toNat]? = some (.int .i64 v)) (fun r r0 r1 => from_pick r0 r1) (fun C W hC hBl bg => ?_)
              have hgh := Nat.ne_of_gt bh.1.1
              have bh := bh.below hBl
              have hlg := hs
              have HB := ap_trans HB (ap_of_bl hBl)
              have HR := HR.below hBl
              have hs := HB.size
              clear hHeld hBl
              have hHeld := And.intro (bb.1.apart HB (by omega)) bg
              obtain ⟨v, hv⟩ := hC u u0 u1
              refine takeAt (i := 8) (d := 16) (v := ?_) rfl (by kernel_rfl) (by kernel_rfl) (by kernel_rfl) (by kernel_rfl) (fun _ _ _ h => h) (Or.inl ⟨by kernel_rfl, ?_⟩) hHeld ?_
              rotate_left
              · (intro w hSw; (try dsimp only at hSw); simp only [Box] at hSw; go_simp; try with_reducible rfl)
              simp only [Act.put, List.setIfInBounds_toArray, List.set_cons_zero, List.set_cons_succ]
              refine takeAt (i := 9) (d := 17) (v := ?_) rfl (by kernel_rfl) (by kernel_rfl) (by kernel_rfl) (by kernel_rfl) (fun _ _ _ h => h) (Or.inl ⟨by kernel_rfl, ?_⟩) hHeld ?_
              rotate_left
              · (intro w hSw; (try dsimp only at hSw); simp only [Box] at hSw; go_simp; try with_reducible rfl)
              simp only [Act.put, List.setIfInBounds_toArray, List.set_cons_zero, List.set_cons_succ]
              refine wpAnyH_ready (rs := [13]) (by kernel_rfl) (by simp) (AllReadyH.cons rfl (fun K hK => ?_) (AllReadyH.nil))
              refine step_call 21 25 rfl rfl (pick_rb R _ 6 _ HR (by omega) (by omega) (by omega)) (by kernel_rfl) ?_
              rintro e w1 ⟨⟨z, rfl, z0, z1⟩, ha, hr⟩
              refine ⟨_, rfl, ?_⟩
              simp only [Act.put, List.setIfInBounds_toArray, List.set_cons_zero, List.set_cons_succ]
              have bg := bg.apart ha (by omega)
              have bh := bh.apart ha (by omega)
              have HB := ap_trans HB ha
              clear HR ha
              have HR := hr
              clear hr
              have hs := HB.size
              refine hK.out _ _ ?_ (fun hHeld1 => ?_)
              · exact ⟨bb.1.apart HB (by omega), bg⟩
              clear hK K hHeld
              have hHeld := hHeld1
              clear hHeld1
              refine takeAt (i := 14) (d := 22) (v := ?_) rfl (by kernel_rfl) (by kernel_rfl) (by kernel_rfl) (by kernel_rfl) (fun _ _ _ h => h) (Or.inl ⟨by kernel_rfl, ?_⟩) hHeld ?_
              rotate_left
              · (intro w hSw; (try dsimp only at hSw); simp only [Box] at hSw; go_simp; try with_reducible rfl)
              simp only [Act.put, List.setIfInBounds_toArray, List.set_cons_zero, List.set_cons_succ]
              refine takeAt (i := 15) (d := 23) (v := .agg #[.int .i64 (IntKind.i64.wrap (1 + x)), .int .i64 y, .int .i64 v, .int .i64 ow, .int .i64 (IntKind.i64.wrap (39 + z))]) rfl (by kernel_rfl) (by kernel_rfl) (by kernel_rfl) (by kernel_rfl) (fun _ _ _ h => h) (Or.inl ⟨by kernel_rfl, fun _ _ => by kernel_rfl⟩) hHeld ?_
              simp only [Act.put, List.setIfInBounds_toArray, List.set_cons_zero, List.set_cons_succ]
              refine wpAnyH_ready (rs := [17]) (by kernel_rfl) (by simp) (AllReadyH.cons rfl (fun K hK => ?_) (AllReadyH.nil))
              obtain ⟨⟨bh1, bh2⟩, bh3⟩ := id bh
              go_simp
              have bh := bh.set5 (.int .i64 (IntKind.i64.wrap (1 + x))) (.int .i64 y) (.int .i64 v) (.int .i64 ow) (.int .i64 (IntKind.i64.wrap (39 + z)))
              have bg := bg.other5 hgh (.int .i64 (IntKind.i64.wrap (1 + x))) (.int .i64 y) (.int .i64 v) (.int .i64 ow) (.int .i64 (IntKind.i64.wrap (39 + z)))
              have HB := ap_new5 HB hlh (.int .i64 (IntKind.i64.wrap (1 + x))) (.int .i64 y) (.int .i64 v) (.int .i64 ow) (.int .i64 (IntKind.i64.wrap (39 + z)))
              have HR := HR.set5 (Nat.lt_of_lt_of_le (show R < wr.heap.size by omega) hlh) (.int .i64 (IntKind.i64.wrap (1 + x))) (.int .i64 y) (.int .i64 v) (.int .i64 ow) (.int .i64 (IntKind.i64.wrap (39 + z)))
              refine hK.out _ _ ?_ (fun hHeld1 => ?_)
              · exact ⟨bb.1.apart HB (by omega), bg⟩
              clear hK K hHeld
              have hHeld := hHeld1
              clear hHeld1
              refine wpAnyH_done (by kernel_rfl) ?_ _
              go_wp2_with fail
              go_meet
              exact ⟨_, _, _, _, _, _, rfl, by omega, by omega, bh, ap_trans HA HB, HR.le (by omega)⟩
            · skip
              refine step_call 21 25 rfl rfl (pick_rb R _ 6 _ HR (by omega) (by omega) (by omega)) (by kernel_rfl) ?_
              rintro e w1 ⟨⟨z, rfl, z0, z1⟩, ha, hr⟩
              refine ⟨_, rfl, ?_⟩
              simp only [Act.put, List.setIfInBounds_toArray, List.set_cons_zero, List.set_cons_succ]
              have bh := bh.apart ha (by omega)
              have HB := ap_trans HB ha
              clear HR ha
              have HR := hr
              clear hr
              have hs := HB.size
              refine hK.out _ _ ?_ (fun hHeld1 => ?_)
              · exact bb.1.apart HB (by omega)
              clear hK K hHeld
              have hHeld := hHeld1
              clear hHeld1
              refine takeAt (i := 14) (d := 22) (v := ?_) rfl (by kernel_rfl) (by kernel_rfl) (by kernel_rfl) (by kernel_rfl) (fun _ _ _ h => h) (Or.inl ⟨by kernel_rfl, ?_⟩) hHeld ?_
              rotate_left
              · (intro w hSw; (try dsimp only at hSw); simp only [Box] at hSw; go_simp; try with_reducible rfl)
              simp only [Act.put, List.setIfInBounds_toArray, List.set_cons_zero, List.set_cons_succ]
              refine wpAnyH_ready (rs := [5]) (by kernel_rfl) (by simp) (AllReadyH.cons rfl (fun K hK => ?_) (AllReadyH.nil))
              refine step_val 13 (.slice (some ⟨w1.heap.size, 0, none⟩) 3 3) (World.alloc w1 (.cells #[.int .i64 80, .int .i64 443, .int .i64 7] 3)) rfl rfl (by kernel_rfl) ?_
              simp only [Act.put, List.setIfInBounds_toArray, List.set_cons_zero, List.set_cons_succ]
              refine hK.out _ _ ?_ (fun hHeld1 => ?_)
              · exact (bb.1.apart HB (by omega)).below (bl_alloc (bl_refl _) _)
              clear hK K hHeld
              have hHeld := hHeld1
              clear hHeld1
              refine wpAnyH_alloc (fun C => ∀ r : Int, 0 ≤ r → r < 3 → ∃ v, C[r.toNat]? = some (.int .i64 v)) (fun r r0 r1 => from_pick r0 r1) (fun C W hC hBl bg => ?_)
              have hgh := Nat.ne_of_gt bh.1.1
              have bh := bh.below hBl
              have hlg := hs
              have HB := ap_trans HB (ap_of_bl hBl)
              have HR := HR.below hBl
              have hs := HB.size
              clear hHeld hBl
              have hHeld := And.intro (bb.1.apart HB (by omega)) bg
              obtain ⟨v, hv⟩ := hC u u0 u1
              refine takeAt (i := 8) (d := 16) (v := ?_) rfl (by kernel_rfl) (by kernel_rfl) (by kernel_rfl) (by kernel_rfl) (fun _ _ _ h => h) (Or.inl ⟨by kernel_rfl, ?_⟩) hHeld ?_
              rotate_left
              · (intro w hSw; (try dsimp only at hSw); simp only [Box] at hSw; go_simp; try with_reducible rfl)
              simp only [Act.put, List.setIfInBounds_toArray, List.set_cons_zero, List.set_cons_succ]
              refine takeAt (i := 9) (d := 17) (v := ?_) rfl (by kernel_rfl) (by kernel_rfl) (by kernel_rfl) (by kernel_rfl) (fun _ _ _ h => h) (Or.inl ⟨by kernel_rfl, ?_⟩) hHeld ?_
              rotate_left
              · (intro w hSw; (try dsimp only at hSw); simp only [Box] at hSw; go_simp; try with_reducible rfl)
              simp only [Act.put, List.setIfInBounds_toArray, List.set_cons_zero, List.set_cons_succ]
              refine takeAt (i := 15) (d := 23) (v := .agg #[.int .i64 (IntKind.i64.wrap (1 + x)), .int .i64 y, .int .i64 v, .int .i64 ow, .int .i64 (IntKind.i64.wrap (39 + z))]) rfl (by kernel_rfl) (by kernel_rfl) (by kernel_rfl) (by kernel_rfl) (fun _ _ _ h => h) (Or.inl ⟨by kernel_rfl, fun _ _ => by kernel_rfl⟩) hHeld ?_
              simp only [Act.put, List.setIfInBounds_toArray, List.set_cons_zero, List.set_cons_succ]
              refine wpAnyH_ready (rs := [17]) (by kernel_rfl) (by simp) (AllReadyH.cons rfl (fun K hK => ?_) (AllReadyH.nil))
              obtain ⟨⟨bh1, bh2⟩, bh3⟩ := id bh
              go_simp
              have bh := bh.set5 (.int .i64 (IntKind.i64.wrap (1 + x))) (.int .i64 y) (.int .i64 v) (.int .i64 ow) (.int .i64 (IntKind.i64.wrap (39 + z)))
              have bg := bg.other5 hgh (.int .i64 (IntKind.i64.wrap (1 + x))) (.int .i64 y) (.int .i64 v) (.int .i64 ow) (.int .i64 (IntKind.i64.wrap (39 + z)))
              have HB := ap_new5 HB hlh (.int .i64 (IntKind.i64.wrap (1 + x))) (.int .i64 y) (.int .i64 v) (.int .i64 ow) (.int .i64 (IntKind.i64.wrap (39 + z)))
              have HR := HR.set5 (Nat.lt_of_lt_of_le (show R < wr.heap.size by omega) hlh) (.int .i64 (IntKind.i64.wrap (1 + x))) (.int .i64 y) (.int .i64 v) (.int .i64 ow) (.int .i64 (IntKind.i64.wrap (39 + z)))
              refine hK.out _ _ ?_ (fun hHeld1 => ?_)
              · exact ⟨bb.1.apart HB (by omega), bg⟩
              clear hK K hHeld
              have hHeld := hHeld1
              clear hHeld1
              refine wpAnyH_done (by kernel_rfl) ?_ _
              go_wp2_with fail
              go_meet
              exact ⟨_, _, _, _, _, _, rfl, by omega, by omega, bh, ap_trans HA HB, HR.le (by omega)⟩
        · skip
          refine step_val 13 (.slice (some ⟨W.heap.size, 0, none⟩) 3 3) (World.alloc W (.cells #[.int .i64 80, .int .i64 443, .int .i64 7] 3)) rfl rfl (by kernel_rfl) ?_
          simp only [Act.put, List.setIfInBounds_toArray, List.set_cons_zero, List.set_cons_succ]
          refine hK.out _ _ ?_ (fun hHeld1 => ?_)
          · exact (bb.1.apart HB (by omega)).below (bl_alloc (bl_refl _) _)
          clear hK K hHeld
          have hHeld := hHeld1
          clear hHeld1
          refine wpAnyH_alloc (fun C => ∀ r : Int, 0 ≤ r → r < 3 → ∃ v, C[r.toNat]? = some (.int .i64 v)) (fun r r0 r1 => from_pick r0 r1) (fun C W hC hBl bg => ?_)
          have hgh := Nat.ne_of_gt bh.1.1
          have bh := bh.below hBl
          have hlg := hs
          have HB := ap_trans HB (ap_of_bl hBl)
          have HR := HR.below hBl
          have hs := HB.size
          clear hHeld hBl
          have hHeld := And.intro (bb.1.apart HB (by omega)) bg
          refine wpAnyH_ready (rs := [4]) (by kernel_rfl) (by simp) (AllReadyH.cons rfl (fun K hK => ?_) (AllReadyH.nil))
          refine step_call 12 42 rfl rfl (peer_rb R _ _ HR (by omega)) (by kernel_rfl) ?_
          rintro e w1 ⟨⟨y, rfl, y0⟩, ha, hr⟩
          refine ⟨_, rfl, ?_⟩
          simp only [Act.put, List.setIfInBounds_toArray, List.set_cons_zero, List.set_cons_succ]
          have bg := bg.apart ha (by omega)
          have bh := bh.apart ha (by omega)
          have HB := ap_trans HB ha
          clear HR ha
          have HR := hr
          clear hr
          have hs := HB.size
          refine hK.out _ _ ?_ (fun hHeld1 => ?_)
          · exact ⟨bb.1.apart HB (by omega), bg⟩
          clear hK K hHeld
          have hHeld := hHeld1
          clear hHeld1
          refine wpAnyH_ready (rs := [7]) (by kernel_rfl) (by simp) (AllReadyH.cons rfl (fun K hK => ?_) (AllReadyH.nil))
          refine step_call 15 25 rfl rfl (pick_rb R _ 3 _ HR (by omega) (by omega) (by omega)) (by kernel_rfl) ?_
          rintro e w1 ⟨⟨u, rfl, u0, u1⟩, ha, hr⟩
          refine ⟨_, rfl, ?_⟩
          simp only [Act.put, List.setIfInBounds_toArray, List.set_cons_zero, List.set_cons_succ]
          have bg := bg.apart ha (by omega)
          have bh := bh.apart ha (by omega)
          have HB := ap_trans HB ha
          clear HR ha
          have HR := hr
          clear hr
          have hs := HB.size
          refine hK.out _ _ ?_ (fun hHeld1 => ?_)
          · exact ⟨bb.1.apart HB (by omega), bg⟩
          clear hK K hHeld
          have hHeld := hHeld1
          clear hHeld1
          obtain ⟨v, hv⟩ := hC u u0 u1
          refine takeAt (i := 8) (d := 16) (v := ?_) rfl (by kernel_rfl) (by kernel_rfl) (by kernel_rfl) (by kernel_rfl) (fun _ _ _ h => h) (Or.inl ⟨by kernel_rfl, ?_⟩) hHeld ?_
          rotate_left
          · (intro w hSw; (try dsimp only at hSw); simp only [Box] at hSw; go_simp; try with_reducible rfl)
          simp only [Act.put, List.setIfInBounds_toArray, List.set_cons_zero, List.set_cons_succ]
          refine takeAt (i := 9) (d := 17) (v := ?_) rfl (by kernel_rfl) (by kernel_rfl) (by kernel_rfl) (by kernel_rfl) (fun _ _ _ h => h) (Or.inl ⟨by kernel_rfl, ?_⟩) hHeld ?_
          rotate_left
          · (intro w hSw; (try dsimp only at hSw); simp only [Box] at hSw; go_simp; try with_reducible rfl)
          simp only [Act.put, List.setIfInBounds_toArray, List.set_cons_zero, List.set_cons_succ]
          refine wpAnyH_ready (rs := [13]) (by kernel_rfl) (by simp) (AllReadyH.cons rfl (fun K hK => ?_) (AllReadyH.nil))
          refine step_call 21 25 rfl rfl (pick_rb R _ 6 _ HR (by omega) (by omega) (by omega)) (by kernel_rfl) ?_
          rintro e w1 ⟨⟨z, rfl, z0, z1⟩, ha, hr⟩
          refine ⟨_, rfl, ?_⟩
          simp only [Act.put, List.setIfInBounds_toArray, List.set_cons_zero, List.set_cons_succ]
          have bg := bg.apart ha (by omega)
          have bh := bh.apart ha (by omega)
          have HB := ap_trans HB ha
          clear HR ha
          have HR := hr
          clear hr
          have hs := HB.size
          refine hK.out _ _ ?_ (fun hHeld1 => ?_)
          · exact ⟨bb.1.apart HB (by omega), bg⟩
          clear hK K hHeld
          have hHeld := hHeld1
          clear hHeld1
          refine takeAt (i := 14) (d := 22) (v := ?_) rfl (by kernel_rfl) (by kernel_rfl) (by kernel_rfl) (by kernel_rfl) (fun _ _ _ h => h) (Or.inl ⟨by kernel_rfl, ?_⟩) hHeld ?_
          rotate_left
          · (intro w hSw; (try dsimp only at hSw); simp only [Box] at hSw; go_simp; try with_reducible rfl)
          simp only [Act.put, List.setIfInBounds_toArray, List.set_cons_zero, List.set_cons_succ]
          refine takeAt (i := 15) (d := 23) (v := .agg #[.int .i64 (IntKind.i64.wrap (1 + x)), .int .i64 y, .int .i64 v, .int .i64 ow, .int .i64 (IntKind.i64.wrap (39 + z))]) rfl (by kernel_rfl) (by kernel_rfl) (by kernel_rfl) (by kernel_rfl) (fun _ _ _ h => h) (Or.inl ⟨by kernel_rfl, fun _ _ => by kernel_rfl⟩) hHeld ?_
          simp only [Act.put, List.setIfInBounds_toArray, List.set_cons_zero, List.set_cons_succ]
          refine wpAnyH_ready (rs := [17]) (by kernel_rfl) (by simp) (AllReadyH.cons rfl (fun K hK => ?_) (AllReadyH.nil))
          obtain ⟨⟨bh1, bh2⟩, bh3⟩ := id bh
          go_simp
          have bh := bh.set5 (.int .i64 (IntKind.i64.wrap (1 + x))) (.int .i64 y) (.int .i64 v) (.int .i64 ow) (.int .i64 (IntKind.i64.wrap (39 + z)))
          have bg := bg.other5 hgh (.int .i64 (IntKind.i64.wrap (1 + x))) (.int .i64 y) (.int .i64 v) (.int .i64 ow) (.int .i64 (IntKind.i64.wrap (39 + z)))
          have HB := ap_new5 HB hlh (.int .i64 (IntKind.i64.wrap (1 + x))) (.int .i64 y) (.int .i64 v) (.int .i64 ow) (.int .i64 (IntKind.i64.wrap (39 + z)))
          have HR := HR.set5 (Nat.lt_of_lt_of_le (show R < wr.heap.size by omega) hlh) (.int .i64 (IntKind.i64.wrap (1 + x))) (.int .i64 y) (.int .i64 v) (.int .i64 ow) (.int .i64 (IntKind.i64.wrap (39 + z)))
          refine hK.out _ _ ?_ (fun hHeld1 => ?_)
          · exact ⟨bb.1.apart HB (by omega), bg⟩
          clear hK K hHeld
          have hHeld := hHeld1
          clear hHeld1
          refine wpAnyH_done (by kernel_rfl) ?_ _
          go_wp2_with fail
          go_meet
          exact ⟨_, _, _, _, _, _, rfl, by omega, by omega, bh, ap_trans HA HB, HR.le (by omega)⟩
    · skip
      refine step_val 13 (.slice (some ⟨W0.heap.size, 0, none⟩) 3 3) (World.alloc W0 (.cells #[.int .i64 80, .int .i64 443, .int .i64 7] 3)) rfl rfl (by kernel_rfl) ?_
      simp only [Act.put, List.setIfInBounds_toArray, List.set_cons_zero, List.set_cons_succ]
      refine hK.out _ _ ?_ (fun hHeld1 => ?_)
      · exact (bb.1.apart HB (by omega)).below (bl_alloc (bl_refl _) _)
      clear hK K hHeld
      have hHeld := hHeld1
      clear hHeld1
      refine wpAnyH_alloc (fun C => ∀ r : Int, 0 ≤ r → r < 3 → ∃ v, C[r.toNat]? = some (.int .i64 v)) (fun r r0 r1 => from_pick r0 r1) (fun C W hC hBl bg => ?_)
      have hlg := hs
      have HB := ap_trans HB (ap_of_bl hBl)
      have HR := HR.below hBl
      have hs := HB.size
      clear hHeld hBl
      have hHeld := And.intro (bb.1.apart HB (by omega)) bg
      refine wpAnyH_ready (rs := [1, 16]) (by kernel_rfl) (by simp) (AllReadyH.cons rfl (fun K hK => ?_) (AllReadyH.cons rfl (fun K hK => ?_) (AllReadyH.nil)))
      · skip
        refine step_call 9 25 rfl rfl (pick_rb R _ 2 _ HR (by omega) (by omega) (by omega)) (by kernel_rfl) ?_
        rintro e w1 ⟨⟨x, rfl, x0, x1⟩, ha, hr⟩
        refine ⟨_, rfl, ?_⟩
        simp only [Act.put, List.setIfInBounds_toArray, List.set_cons_zero, List.set_cons_succ]
        have bg := bg.apart ha (by omega)
        have HB := ap_trans HB ha
        clear HR ha
        have HR := hr
        clear hr
        have hs := HB.size
        refine hK.out _ _ ?_ (fun hHeld1 => ?_)
        · exact ⟨bb.1.apart HB (by omega), bg⟩
        clear hK K hHeld
        have hHeld := hHeld1
        clear hHeld1
        refine takeAt (i := 2) (d := 10) (v := ?_) rfl (by kernel_rfl) (by kernel_rfl) (by kernel_rfl) (by kernel_rfl) (fun _ _ _ h => h) (Or.inl ⟨by kernel_rfl, ?_⟩) hHeld ?_
        rotate_left
        · (intro w hSw; (try dsimp only at hSw); simp only [Box] at hSw; go_simp; try with_reducible rfl)
        simp only [Act.put, List.setIfInBounds_toArray, List.set_cons_zero, List.set_cons_succ]
        refine wpAnyH_ready (rs := [4, 16]) (by kernel_rfl) (by simp) (AllReadyH.cons rfl (fun K hK => ?_) (AllReadyH.cons rfl (fun K hK => ?_) (AllReadyH.nil)))
        · skip
          refine step_call 12 42 rfl rfl (peer_rb R _ _ HR (by omega)) (by kernel_rfl) ?_
          rintro e w1 ⟨⟨y, rfl, y0⟩, ha, hr⟩
          refine ⟨_, rfl, ?_⟩
          simp only [Act.put, List.setIfInBounds_toArray, List.set_cons_zero, List.set_cons_succ]
          have bg := bg.apart ha (by omega)
          have HB := ap_trans HB ha
          clear HR ha
          have HR := hr
          clear hr
          have hs := HB.size
          refine hK.out _ _ ?_ (fun hHeld1 => ?_)
          · exact ⟨bb.1.apart HB (by omega), bg⟩
          clear hK K hHeld
          have hHeld := hHeld1
          clear hHeld1
          refine wpAnyH_ready (rs := [7, 16]) (by kernel_rfl) (by simp) (AllReadyH.cons rfl (fun K hK => ?_) (AllReadyH.cons rfl (fun K hK => ?_) (AllReadyH.nil)))
          · skip
            refine step_call 15 25 rfl rfl (pick_rb R _ 3 _ HR (by omega) (by omega) (by omega)) (by kernel_rfl) ?_
            rintro e w1 ⟨⟨u, rfl, u0, u1⟩, ha, hr⟩
            refine ⟨_, rfl, ?_⟩
            simp only [Act.put, List.setIfInBounds_toArray, List.set_cons_zero, List.set_cons_succ]
            have bg := bg.apart ha (by omega)
            have HB := ap_trans HB ha
            clear HR ha
            have HR := hr
            clear hr
            have hs := HB.size
            refine hK.out _ _ ?_ (fun hHeld1 => ?_)
            · exact ⟨bb.1.apart HB (by omega), bg⟩
            clear hK K hHeld
            have hHeld := hHeld1
            clear hHeld1
            obtain ⟨v, hv⟩ := hC u u0 u1
            refine takeAt (i := 8) (d := 16) (v := ?_) rfl (by kernel_rfl) (by kernel_rfl) (by kernel_rfl) (by kernel_rfl) (fun _ _ _ h => h) (Or.inl ⟨by kernel_rfl, ?_⟩) hHeld ?_
            rotate_left
            · (intro w hSw; (try dsimp only at hSw); simp only [Box] at hSw; go_simp; try with_reducible rfl)
            simp only [Act.put, List.setIfInBounds_toArray, List.set_cons_zero, List.set_cons_succ]
            refine takeAt (i := 9) (d := 17) (v := ?_) rfl (by kernel_rfl) (by kernel_rfl) (by kernel_rfl) (by kernel_rfl) (fun _ _ _ h => h) (Or.inl ⟨by kernel_rfl, ?_⟩) hHeld ?_
            rotate_left
            · (intro w hSw; (try dsimp only at hSw); simp only [Box] at hSw; go_simp; try with_reducible rfl)
            simp only [Act.put, List.setIfInBounds_toArray, List.set_cons_zero, List.set_cons_succ]
            refine wpAnyH_ready (rs := [13, 16]) (by kernel_rfl) (by simp) (AllReadyH.cons rfl (fun K hK => ?_) (AllReadyH.cons rfl (fun K hK => ?_) (AllReadyH.nil)))
            · skip
              refine step_call 21 25 rfl rfl (pick_rb R _ 6 _ HR (by omega) (by omega) (by omega)) (by kernel_rfl) ?_
              rintro e w1 ⟨⟨z, rfl, z0, z1⟩, ha, hr⟩
              refine ⟨_, rfl, ?_⟩
              simp only [Act.put, List.setIfInBounds_toArray, List.set_cons_zero, List.set_cons_succ]
              have bg := bg.apart ha (by omega)
              have HB := ap_trans HB ha
              clear HR ha
              have HR := hr
              clear hr
              have hs := HB.size
              refine hK.out _ _ ?_ (fun hHeld1 => ?_)
              · exact ⟨bb.1.apart HB (by omega), bg⟩
              clear hK K hHeld
              have hHeld := hHeld1
              clear hHeld1
              refine takeAt (i := 14) (d := 22) (v := ?_) rfl (by kernel_rfl) (by kernel_rfl) (by kernel_rfl) (by kernel_rfl) (fun _ _ _ h => h) (Or.inl ⟨by kernel_rfl, ?_⟩) hHeld ?_
              rotate_left
              · (intro w hSw; (try dsimp only at hSw); simp only [Box] at hSw; go_simp; try with_reducible rfl)
              simp only [Act.put, List.setIfInBounds_toArray, List.set_cons_zero, List.set_cons_succ]
              refine takeAt (i := 15) (d := 23) (v := .agg #[.int .i64 (IntKind.i64.wrap (1 + x)), .int .i64 y, .int .i64 v, .int .i64 ow, .int .i64 (IntKind.i64.wrap (39 + z))]) rfl (by kernel_rfl) (by kernel_rfl) (by kernel_rfl) (by kernel_rfl) (fun _ _ _ h => h) (Or.inl ⟨by kernel_rfl, fun _ _ => by kernel_rfl⟩) hHeld ?_
              simp only [Act.put, List.setIfInBounds_toArray, List.set_cons_zero, List.set_cons_succ]
              refine wpAnyH_ready (rs := [16]) (by kernel_rfl) (by simp) (AllReadyH.cons rfl (fun K hK => ?_) (AllReadyH.nil))
              refine step_val 5 (.pointer (some ⟨w1.heap.size, 0, none⟩)) (World.alloc w1 (.cells #[.int .i64 0, .int .i64 0, .int .i64 0, .int .i64 0, .int .i64 0] 24)) rfl rfl (by kernel_rfl) ?_
              simp only [Act.put, List.setIfInBounds_toArray, List.set_cons_zero, List.set_cons_succ]
              refine hK.out _ _ ?_ (fun hHeld1 => ?_)
              · exact ⟨(bb.1.apart HB (by omega)).below (bl_alloc (bl_refl _) _), Box.below bg (bl_alloc (bl_refl _) _)⟩
              clear hK K hHeld
              have hHeld := hHeld1
              clear hHeld1
              refine wpAnyH_newx (fun W hBl bh => ?_)
              have hlh := hs
              have hlb := (bb.1.apart HB (by omega)).1
              have hgh := Nat.ne_of_lt bg.1
              have bg := bg.below hBl
              have HB := ap_trans HB (ap_of_bl hBl)
              have HR := HR.below hBl
              have hs := HB.size
              clear hHeld hBl
              have hHeld := And.intro (bb.1.apart HB (by omega)) bg
              refine wpAnyH_ready (rs := [17]) (by kernel_rfl) (by simp) (AllReadyH.cons rfl (fun K hK => ?_) (AllReadyH.nil))
              obtain ⟨⟨bh1, bh2⟩, bh3⟩ := id bh
              go_simp
              have bh := bh.set5 (.int .i64 (IntKind.i64.wrap (1 + x))) (.int .i64 y) (.int .i64 v) (.int .i64 ow) (.int .i64 (IntKind.i64.wrap (39 + z)))
              have bg := bg.other5 hgh (.int .i64 (IntKind.i64.wrap (1 + x))) (.int .i64 y) (.int .i64 v) (.int .i64 ow) (.int .i64 (IntKind.i64.wrap (39 + z)))
              have HB := ap_new5 HB hlh (.int .i64 (IntKind.i64.wrap (1 + x))) (.int .i64 y) (.int .i64 v) (.int .i64 ow) (.int .i64 (IntKind.i64.wrap (39 + z)))
              have HR := HR.set5 (Nat.lt_of_lt_of_le (show R < wr.heap.size by omega) hlh) (.int .i64 (IntKind.i64.wrap (1 + x))) (.int .i64 y) (.int .i64 v) (.int .i64 ow) (.int .i64 (IntKind.i64.wrap (39 + z)))
              refine hK.out _ _ ?_ (fun hHeld1 => ?_)
              · exact ⟨bb.1.apart HB (by omega), bg⟩
              clear hK K hHeld
              have hHeld := hHeld1
              clear hHeld1
              refine wpAnyH_done (by kernel_rfl) ?_ _
              go_wp2_with fail
              go_meet
              exact ⟨_, _, _, _, _, _, rfl, by omega, by omega, bh, ap_trans HA HB, HR.le (by omega)⟩
            · skip
              refine step_val 5 (.pointer (some ⟨w1.heap.size, 0, none⟩)) (World.alloc w1 (.cells #[.int .i64 0, .int .i64 0, .int .i64 0, .int .i64 0, .int .i64 0] 24)) rfl rfl (by kernel_rfl) ?_
              simp only [Act.put, List.setIfInBounds_toArray, List.set_cons_zero, List.set_cons_succ]
              refine hK.out _ _ ?_ (fun hHeld1 => ?_)
              · exact ⟨(bb.1.apart HB (by omega)).below (bl_alloc (bl_refl _) _), Box.below bg (bl_alloc (bl_refl _) _)⟩
              clear hK K hHeld
              have hHeld := hHeld1
              clear hHeld1
              refine wpAnyH_newx (fun W hBl bh => ?_)
              have hlh := hs
              have hlb := (bb.1.apart HB (by omega)).1
              have hgh := Nat.ne_of_lt bg.1
              have bg := bg.below hBl
              have HB := ap_trans HB (ap_of_bl hBl)
              have HR := HR.below hBl
              have hs := HB.size
              clear hHeld hBl
              have hHeld := And.intro (bb.1.apart HB (by omega)) bg
              refine wpAnyH_ready (rs := [13]) (by kernel_rfl) (by simp) (AllReadyH.cons rfl (fun K hK => ?_) (AllReadyH.nil))
              refine step_call 21 25 rfl rfl (pick_rb R _ 6 _ HR (by omega) (by omega) (by omega)) (by kernel_rfl) ?_
              rintro e w1 ⟨⟨z, rfl, z0, z1⟩, ha, hr⟩
              refine ⟨_, rfl, ?_⟩
              simp only [Act.put, List.setIfInBounds_toArray, List.set_cons_zero, List.set_cons_succ]
              have bg := bg.apart ha (by omega)
              have bh := bh.apart ha (by omega)
              have HB := ap_trans HB ha
              clear HR ha
              have HR := hr
              clear hr
              have hs := HB.size
              refine hK.out _ _ ?_ (fun hHeld1 => ?_)
              · exact ⟨bb.1.apart HB (by omega), bg⟩
              clear hK K hHeld
              have hHeld := hHeld1
              clear hHeld1
              refine takeAt (i := 14) (d := 22) (v := ?_) rfl (by kernel_rfl) (by kernel_rfl) (by kernel_rfl) (by kernel_rfl) (fun _ _ _ h => h) (Or.inl ⟨by kernel_rfl, ?_⟩) hHeld ?_
              rotate_left
              · (intro w hSw; (try dsimp only at hSw); simp only [Box] at hSw; go_simp; try with_reducible rfl)
              simp only [Act.put, List.setIfInBounds_toArray, List.set_cons_zero, List.set_cons_succ]
              refine takeAt (i := 15) (d := 23) (v := .agg #[.int .i64 (IntKind.i64.wrap (1 + x)), .int .i64 y, .int .i64 v, .int .i64 ow, .int .i64 (IntKind.i64.wrap (39 + z))]) rfl (by kernel_rfl) (by kernel_rfl) (by kernel_rfl) (by kernel_rfl) (fun _ _ _ h => h) (Or.inl ⟨by kernel_rfl, fun _ _ => by kernel_rfl⟩) hHeld ?_
              simp only [Act.put, List.setIfInBounds_toArray, List.set_cons_zero, List.set_cons_succ]
              refine wpAnyH_ready (rs := [17]) (by kernel_rfl) (by simp) (AllReadyH.cons rfl (fun K hK => ?_) (AllReadyH.nil))
              obtain ⟨⟨bh1, bh2⟩, bh3⟩ := id bh
              go_simp
              have bh := bh.set5 (.int .i64 (IntKind.i64.wrap (1 + x))) (.int .i64 y) (.int .i64 v) (.int .i64 ow) (.int .i64 (IntKind.i64.wrap (39 + z)))
              have bg := bg.other5 hgh (.int .i64 (IntKind.i64.wrap (1 + x))) (.int .i64 y) (.int .i64 v) (.int .i64 ow) (.int .i64 (IntKind.i64.wrap (39 + z)))
              have HB := ap_new5 HB hlh (.int .i64 (IntKind.i64.wrap (1 + x))) (.int .i64 y) (.int .i64 v) (.int .i64 ow) (.int .i64 (IntKind.i64.wrap (39 + z)))
              have HR := HR.set5 (Nat.lt_of_lt_of_le (show R < wr.heap.size by omega) hlh) (.int .i64 (IntKind.i64.wrap (1 + x))) (.int .i64 y) (.int .i64 v) (.int .i64 ow) (.int .i64 (IntKind.i64.wrap (39 + z)))
              refine hK.out _ _ ?_ (fun hHeld1 => ?_)
              · exact ⟨bb.1.apart HB (by omega), bg⟩
              clear hK K hHeld
              have hHeld := hHeld1
              clear hHeld1
              refine wpAnyH_done (by kernel_rfl) ?_ _
              go_wp2_with fail
              go_meet
              exact ⟨_, _, _, _, _, _, rfl, by omega, by omega, bh, ap_trans HA HB, HR.le (by omega)⟩
          · skip
            refine step_val 5 (.pointer (some ⟨w1.heap.size, 0, none⟩)) (World.alloc w1 (.cells #[.int .i64 0, .int .i64 0, .int .i64 0, .int .i64 0, .int .i64 0] 24)) rfl rfl (by kernel_rfl) ?_
            simp only [Act.put, List.setIfInBounds_toArray, List.set_cons_zero, List.set_cons_succ]
            refine hK.out _ _ ?_ (fun hHeld1 => ?_)
            · exact ⟨(bb.1.apart HB (by omega)).below (bl_alloc (bl_refl _) _), Box.below bg (bl_alloc (bl_refl _) _)⟩
            clear hK K hHeld
            have hHeld := hHeld1
            clear hHeld1
            refine wpAnyH_newx (fun W hBl bh => ?_)
            have hlh := hs
            have hlb := (bb.1.apart HB (by omega)).1
            have hgh := Nat.ne_of_lt bg.1
            have bg := bg.below hBl
            have HB := ap_trans HB (ap_of_bl hBl)
            have HR := HR.below hBl
            have hs := HB.size
            clear hHeld hBl
            have hHeld := And.intro (bb.1.apart HB (by omega)) bg
            refine wpAnyH_ready (rs := [7]) (by kernel_rfl) (by simp) (AllReadyH.cons rfl (fun K hK => ?_) (AllReadyH.nil))
            refine step_call 15 25 rfl rfl (pick_rb R _ 3 _ HR (by omega) (by omega) (by omega)) (by kernel_rfl) ?_
            rintro e w1 ⟨⟨u, rfl, u0, u1⟩, ha, hr⟩
            refine ⟨_, rfl, ?_⟩
            simp only [Act.put, List.setIfInBounds_toArray, List.set_cons_zero, List.set_cons_succ]
            have bg := bg.apart ha (by omega)
            have bh := bh.apart ha (by omega)
            have HB := ap_trans HB ha
            clear HR ha
            have HR := hr
            clear hr
            have hs := HB.size
            refine hK.out _ _ ?_ (fun hHeld1 => ?_)
            · exact ⟨bb.1.apart HB (by omega), bg⟩
            clear hK K hHeld
            have hHeld := hHeld1
            clear hHeld1
            obtain ⟨v, hv⟩ := hC u u0 u1
            refine takeAt (i := 8) (d := 16) (v := ?_) rfl (by kernel_rfl) (by kernel_rfl) (by kernel_rfl) (by kernel_rfl) (fun _ _ _ h => h) (Or.inl ⟨by kernel_rfl, ?_⟩) hHeld ?_
            rotate_left
            · (intro w hSw; (try dsimp only at hSw); simp only [Box] at hSw; go_simp; try with_reducible rfl)
            simp only [Act.put, List.setIfInBounds_toArray, List.set_cons_zero, List.set_cons_succ]
            refine takeAt (i := 9) (d := 17) (v := ?_) rfl (by kernel_rfl) (by kernel_rfl) (by kernel_rfl) (by kernel_rfl) (fun _ _ _ h => h) (Or.inl ⟨by kernel_rfl, ?_⟩) hHeld ?_
            rotate_left
            · (intro w hSw; (try dsimp only at hSw); simp only [Box] at hSw; go_simp; try with_reducible rfl)
            simp only [Act.put, List.setIfInBounds_toArray, List.set_cons_zero, List.set_cons_succ]
            refine wpAnyH_ready (rs := [13]) (by kernel_rfl) (by simp) (AllReadyH.cons rfl (fun K hK => ?_) (AllReadyH.nil))
            refine step_call 21 25 rfl rfl (pick_rb R _ 6 _ HR (by omega) (by omega) (by omega)) (by kernel_rfl) ?_
            rintro e w1 ⟨⟨z, rfl, z0, z1⟩, ha, hr⟩
            refine ⟨_, rfl, ?_⟩
            simp only [Act.put, List.setIfInBounds_toArray, List.set_cons_zero, List.set_cons_succ]
            have bg := bg.apart ha (by omega)
            have bh := bh.apart ha (by omega)
            have HB := ap_trans HB ha
            clear HR ha
            have HR := hr
            clear hr
            have hs := HB.size
            refine hK.out _ _ ?_ (fun hHeld1 => ?_)
            · exact ⟨bb.1.apart HB (by omega), bg⟩
            clear hK K hHeld
            have hHeld := hHeld1
            clear hHeld1
            refine takeAt (i := 14) (d := 22) (v := ?_) rfl (by kernel_rfl) (by kernel_rfl) (by kernel_rfl) (by kernel_rfl) (fun _ _ _ h => h) (Or.inl ⟨by kernel_rfl, ?_⟩) hHeld ?_
            rotate_left
            · (intro w hSw; (try dsimp only at hSw); simp only [Box] at hSw; go_simp; try with_reducible rfl)
            simp only [Act.put, List.setIfInBounds_toArray, List.set_cons_zero, List.set_cons_succ]
            refine takeAt (i := 15) (d := 23) (v := .agg #[.int .i64 (IntKind.i64.wrap (1 + x)), .int .i64 y, .int .i64 v, .int .i64 ow, .int .i64 (IntKind.i64.wrap (39 + z))]) rfl (by kernel_rfl) (by kernel_rfl) (by kernel_rfl) (by kernel_rfl) (fun _ _ _ h => h) (Or.inl ⟨by kernel_rfl, fun _ _ => by kernel_rfl⟩) hHeld ?_
            simp only [Act.put, List.setIfInBounds_toArray, List.set_cons_zero, List.set_cons_succ]
            refine wpAnyH_ready (rs := [17]) (by kernel_rfl) (by simp) (AllReadyH.cons rfl (fun K hK => ?_) (AllReadyH.nil))
            obtain ⟨⟨bh1, bh2⟩, bh3⟩ := id bh
            go_simp
            have bh := bh.set5 (.int .i64 (IntKind.i64.wrap (1 + x))) (.int .i64 y) (.int .i64 v) (.int .i64 ow) (.int .i64 (IntKind.i64.wrap (39 + z)))
            have bg := bg.other5 hgh (.int .i64 (IntKind.i64.wrap (1 + x))) (.int .i64 y) (.int .i64 v) (.int .i64 ow) (.int .i64 (IntKind.i64.wrap (39 + z)))
            have HB := ap_new5 HB hlh (.int .i64 (IntKind.i64.wrap (1 + x))) (.int .i64 y) (.int .i64 v) (.int .i64 ow) (.int .i64 (IntKind.i64.wrap (39 + z)))
            have HR := HR.set5 (Nat.lt_of_lt_of_le (show R < wr.heap.size by omega) hlh) (.int .i64 (IntKind.i64.wrap (1 + x))) (.int .i64 y) (.int .i64 v) (.int .i64 ow) (.int .i64 (IntKind.i64.wrap (39 + z)))
            refine hK.out _ _ ?_ (fun hHeld1 => ?_)
            · exact ⟨bb.1.apart HB (by omega), bg⟩
            clear hK K hHeld
            have hHeld := hHeld1
            clear hHeld1
            refine wpAnyH_done (by kernel_rfl) ?_ _
            go_wp2_with fail
            go_meet
            exact ⟨_, _, _, _, _, _, rfl, by omega, by omega, bh, ap_trans HA HB, HR.le (by omega)⟩
        · skip
          refine step_val 5 (.pointer (some ⟨w1.heap.size, 0, none⟩)) (World.alloc w1 (.cells #[.int .i64 0, .int .i64 0, .int .i64 0, .int .i64 0, .int .i64 0] 24)) rfl rfl (by kernel_rfl) ?_
          simp only [Act.put, List.setIfInBounds_toArray, List.set_cons_zero, List.set_cons_succ]
          refine hK.out _ _ ?_ (fun hHeld1 => ?_)
          · exact ⟨(bb.1.apart HB (by omega)).below (bl_alloc (bl_refl _) _), Box.below bg (bl_alloc (bl_refl _) _)⟩
          clear hK K hHeld
          have hHeld := hHeld1
          clear hHeld1
          refine wpAnyH_newx (fun W hBl bh => ?_)
          have hlh := hs
          have hlb := (bb.1.apart HB (by omega)).1
          have hgh := Nat.ne_of_lt bg.1
          have bg := bg.below hBl
          have HB := ap_trans HB (ap_of_bl hBl)
          have HR := HR.below hBl
          have hs := HB.size
          clear hHeld hBl
          have hHeld := And.intro (bb.1.apart HB (by omega)) bg
          refine wpAnyH_ready (rs := [4]) (by kernel_rfl) (by simp) (AllReadyH.cons rfl (fun K hK => ?_) (AllReadyH.nil))
          refine step_call 12 42 rfl rfl (peer_rb R _ _ HR (by omega)) (by kernel_rfl) ?_
          rintro e w1 ⟨⟨y, rfl, y0⟩, ha, hr⟩
          refine ⟨_, rfl, ?_⟩
          simp only [Act.put, List.setIfInBounds_toArray, List.set_cons_zero, List.set_cons_succ]
          have bg := bg.apart ha (by omega)
          have bh := bh.apart ha (by omega)
          have HB := ap_trans HB ha
          clear HR ha
          have HR := hr
          clear hr
          have hs := HB.size
          refine hK.out _ _ ?_ (fun hHeld1 => ?_)
          · exact ⟨bb.1.apart HB (by omega), bg⟩
          clear hK K hHeld
          have hHeld := hHeld1
          clear hHeld1
          refine wpAnyH_ready (rs := [7]) (by kernel_rfl) (by simp) (AllReadyH.cons rfl (fun K hK => ?_) (AllReadyH.nil))
          refine step_call 15 25 rfl rfl (pick_rb R _ 3 _ HR (by omega) (by omega) (by omega)) (by kernel_rfl) ?_
          rintro e w1 ⟨⟨u, rfl, u0, u1⟩, ha, hr⟩
          refine ⟨_, rfl, ?_⟩
          simp only [Act.put, List.setIfInBounds_toArray, List.set_cons_zero, List.set_cons_succ]
          have bg := bg.apart ha (by omega)
          have bh := bh.apart ha (by omega)
          have HB := ap_trans HB ha
          clear HR ha
          have HR := hr
          clear hr
          have hs := HB.size
          refine hK.out _ _ ?_ (fun hHeld1 => ?_)
          · exact ⟨bb.1.apart HB (by omega), bg⟩
          clear hK K hHeld
          have hHeld := hHeld1
          clear hHeld1
          obtain ⟨v, hv⟩ := hC u u0 u1
          refine takeAt (i := 8) (d := 16) (v := ?_) rfl (by kernel_rfl) (by kernel_rfl) (by kernel_rfl) (by kernel_rfl) (fun _ _ _ h => h) (Or.inl ⟨by kernel_rfl, ?_⟩) hHeld ?_
          rotate_left
          · (intro w hSw; (try dsimp only at hSw); simp only [Box] at hSw; go_simp; try with_reducible rfl)
          simp only [Act.put, List.setIfInBounds_toArray, List.set_cons_zero, List.set_cons_succ]
          refine takeAt (i := 9) (d := 17) (v := ?_) rfl (by kernel_rfl) (by kernel_rfl) (by kernel_rfl) (by kernel_rfl) (fun _ _ _ h => h) (Or.inl ⟨by kernel_rfl, ?_⟩) hHeld ?_
          rotate_left
          · (intro w hSw; (try dsimp only at hSw); simp only [Box] at hSw; go_simp; try with_reducible rfl)
          simp only [Act.put, List.setIfInBounds_toArray, List.set_cons_zero, List.set_cons_succ]
          refine wpAnyH_ready (rs := [13]) (by kernel_rfl) (by simp) (AllReadyH.cons rfl (fun K hK => ?_) (AllReadyH.nil))
          refine step_call 21 25 rfl rfl (pick_rb R _ 6 _ HR (by omega) (by omega) (by omega)) (by kernel_rfl) ?_
          rintro e w1 ⟨⟨z, rfl, z0, z1⟩, ha, hr⟩
          refine ⟨_, rfl, ?_⟩
          simp only [Act.put, List.setIfInBounds_toArray, List.set_cons_zero, List.set_cons_succ]
          have bg := bg.apart ha (by omega)
          have bh := bh.apart ha (by omega)
          have HB := ap_trans HB ha
          clear HR ha
          have HR := hr
          clear hr
          have hs := HB.size
          refine hK.out _ _ ?_ (fun hHeld1 => ?_)
          · exact ⟨bb.1.apart HB (by omega), bg⟩
          clear hK K hHeld
          have hHeld := hHeld1
          clear hHeld1
          refine takeAt (i := 14) (d := 22) (v := ?_) rfl (by kernel_rfl) (by kernel_rfl) (by kernel_rfl) (by kernel_rfl) (fun _ _ _ h => h) (Or.inl ⟨by kernel_rfl, ?_⟩) hHeld ?_
          rotate_left
          · (intro w hSw; (try dsimp only at hSw); simp only [Box] at hSw; go_simp; try with_reducible rfl)
          simp only [Act.put, List.setIfInBounds_toArray, List.set_cons_zero, List.set_cons_succ]
          refine takeAt (i := 15) (d := 23) (v := .agg #[.int .i64 (IntKind.i64.wrap (1 + x)), .int .i64 y, .int .i64 v, .int .i64 ow, .int .i64 (IntKind.i64.wrap (39 + z))]) rfl (by kernel_rfl) (by kernel_rfl) (by kernel_rfl) (by kernel_rfl) (fun _ _ _ h => h) (Or.inl ⟨by kernel_rfl, fun _ _ => by kernel_rfl⟩) hHeld ?_
          simp only [Act.put, List.setIfInBounds_toArray, List.set_cons_zero, List.set_cons_succ]
          refine wpAnyH_ready (rs := [17]) (by kernel_rfl) (by simp) (AllReadyH.cons rfl (fun K hK => ?_) (AllReadyH.nil))
          obtain ⟨⟨bh1, bh2⟩, bh3⟩ := id bh
          go_simp
          have bh := bh.set5 (.int .i64 (IntKind.i64.wrap (1 + x))) (.int .i64 y) (.int .i64 v) (.int .i64 ow) (.int .i64 (IntKind.i64.wrap (39 + z)))
          have bg := bg.other5 hgh (.int .i64 (IntKind.i64.wrap (1 + x))) (.int .i64 y) (.int .i64 v) (.int .i64 ow) (.int .i64 (IntKind.i64.wrap (39 + z)))
          have HB := ap_new5 HB hlh (.int .i64 (IntKind.i64.wrap (1 + x))) (.int .i64 y) (.int .i64 v) (.int .i64 ow) (.int .i64 (IntKind.i64.wrap (39 + z)))
          have HR := HR.set5 (Nat.lt_of_lt_of_le (show R < wr.heap.size by omega) hlh) (.int .i64 (IntKind.i64.wrap (1 + x))) (.int .i64 y) (.int .i64 v) (.int .i64 ow) (.int .i64 (IntKind.i64.wrap (39 + z)))
          refine hK.out _ _ ?_ (fun hHeld1 => ?_)
          · exact ⟨bb.1.apart HB (by omega), bg⟩
          clear hK K hHeld
          have hHeld := hHeld1
          clear hHeld1
          refine wpAnyH_done (by kernel_rfl) ?_ _
          go_wp2_with fail
          go_meet
          exact ⟨_, _, _, _, _, _, rfl, by omega, by omega, bh, ap_trans HA HB, HR.le (by omega)⟩
      · skip
        refine step_val 5 (.pointer (some ⟨W.heap.size, 0, none⟩)) (World.alloc W (.cells #[.int .i64 0, .int .i64 0, .int .i64 0, .int .i64 0, .int .i64 0] 24)) rfl rfl (by kernel_rfl) ?_
        simp only [Act.put, List.setIfInBounds_toArray, List.set_cons_zero, List.set_cons_succ]
        refine hK.out _ _ ?_ (fun hHeld1 => ?_)
        · exact ⟨(bb.1.apart HB (by omega)).below (bl_alloc (bl_refl _) _), Box.below bg (bl_alloc (bl_refl _) _)⟩
        clear hK K hHeld
        have hHeld := hHeld1
        clear hHeld1
        refine wpAnyH_newx (fun W hBl bh => ?_)
        have hlh := hs
        have hlb := (bb.1.apart HB (by omega)).1
        have hgh := Nat.ne_of_lt bg.1
        have bg := bg.below hBl
        have HB := ap_trans HB (ap_of_bl hBl)
        have HR := HR.below hBl
        have hs := HB.size
        clear hHeld hBl
        have hHeld := And.intro (bb.1.apart HB (by omega)) bg
        refine wpAnyH_ready (rs := [1]) (by kernel_rfl) (by simp) (AllReadyH.cons rfl (fun K hK => ?_) (AllReadyH.nil))
        refine step_call 9 25 rfl rfl (pick_rb R _ 2 _ HR (by omega) (by omega) (by omega)) (by kernel_rfl) ?_
        rintro e w1 ⟨⟨x, rfl, x0, x1⟩, ha, hr⟩
        refine ⟨_, rfl, ?_⟩
        simp only [Act.put, List.setIfInBounds_toArray, List.set_cons_zero, List.set_cons_succ]
        have bg := bg.apart ha (by omega)
        have bh := bh.apart ha (by omega)
        have HB := ap_trans HB ha
        clear HR ha
        have HR := hr
        clear hr
        have hs := HB.size
        refine hK.out _ _ ?_ (fun hHeld1 => ?_)
        · exact ⟨bb.1.apart HB (by omega), bg⟩
        clear hK K hHeld
        have hHeld := hHeld1
        clear hHeld1
        refine takeAt (i := 2) (d := 10) (v := ?_) rfl (by kernel_rfl) (by kernel_rfl) (by kernel_rfl) (by kernel_rfl) (fun _ _ _ h => h) (Or.inl ⟨by kernel_rfl, ?_⟩) hHeld ?_
        rotate_left
        · (intro w hSw; (try dsimp only at hSw); simp only [Box] at hSw; go_simp; try with_reducible rfl)
        simp only [Act.put, List.setIfInBounds_toArray, List.set_cons_zero, List.set_cons_succ]
        refine wpAnyH_ready (rs := [4]) (by kernel_rfl) (by simp) (AllReadyH.cons rfl (fun K hK => ?_) (AllReadyH.nil))
        refine step_call 12 42 rfl rfl (peer_rb R _ _ HR (by omega)) (by kernel_rfl) ?_
        rintro e w1 ⟨⟨y, rfl, y0⟩, ha, hr⟩
        refine ⟨_, rfl, ?_⟩
        simp only [Act.put, List.setIfInBounds_toArray, List.set_cons_zero, List.set_cons_succ]
        have bg := bg.apart ha (by omega)
        have bh := bh.apart ha (by omega)
        have HB := ap_trans HB ha
        clear HR ha
        have HR := hr
        clear hr
        have hs := HB.size
        refine hK.out _ _ ?_ (fun hHeld1 => ?_)
        · exact ⟨bb.1.apart HB (by omega), bg⟩
        clear hK K hHeld
        have hHeld := hHeld1
        clear hHeld1
        refine wpAnyH_ready (rs := [7]) (by kernel_rfl) (by simp) (AllReadyH.cons rfl (fun K hK => ?_) (AllReadyH.nil))
        refine step_call 15 25 rfl rfl (pick_rb R _ 3 _ HR (by omega) (by omega) (by omega)) (by kernel_rfl) ?_
        rintro e w1 ⟨⟨u, rfl, u0, u1⟩, ha, hr⟩
        refine ⟨_, rfl, ?_⟩
        simp only [Act.put, List.setIfInBounds_toArray, List.set_cons_zero, List.set_cons_succ]
        have bg := bg.apart ha (by omega)
        have bh := bh.apart ha (by omega)
        have HB := ap_trans HB ha
        clear HR ha
        have HR := hr
        clear hr
        have hs := HB.size
        refine hK.out _ _ ?_ (fun hHeld1 => ?_)
        · exact ⟨bb.1.apart HB (by omega), bg⟩
        clear hK K hHeld
        have hHeld := hHeld1
        clear hHeld1
        obtain ⟨v, hv⟩ := hC u u0 u1
        refine takeAt (i := 8) (d := 16) (v := ?_) rfl (by kernel_rfl) (by kernel_rfl) (by kernel_rfl) (by kernel_rfl) (fun _ _ _ h => h) (Or.inl ⟨by kernel_rfl, ?_⟩) hHeld ?_
        rotate_left
        · (intro w hSw; (try dsimp only at hSw); simp only [Box] at hSw; go_simp; try with_reducible rfl)
        simp only [Act.put, List.setIfInBounds_toArray, List.set_cons_zero, List.set_cons_succ]
        refine takeAt (i := 9) (d := 17) (v := ?_) rfl (by kernel_rfl) (by kernel_rfl) (by kernel_rfl) (by kernel_rfl) (fun _ _ _ h => h) (Or.inl ⟨by kernel_rfl, ?_⟩) hHeld ?_
        rotate_left
        · (intro w hSw; (try dsimp only at hSw); simp only [Box] at hSw; go_simp; try with_reducible rfl)
        simp only [Act.put, List.setIfInBounds_toArray, List.set_cons_zero, List.set_cons_succ]
        refine wpAnyH_ready (rs := [13]) (by kernel_rfl) (by simp) (AllReadyH.cons rfl (fun K hK => ?_) (AllReadyH.nil))
        refine step_call 21 25 rfl rfl (pick_rb R _ 6 _ HR (by omega) (by omega) (by omega)) (by kernel_rfl) ?_
        rintro e w1 ⟨⟨z, rfl, z0, z1⟩, ha, hr⟩
        refine ⟨_, rfl, ?_⟩
        simp only [Act.put, List.setIfInBounds_toArray, List.set_cons_zero, List.set_cons_succ]
        have bg := bg.apart ha (by omega)
        have bh := bh.apart ha (by omega)
        have HB := ap_trans HB ha
        clear HR ha
        have HR := hr
        clear hr
        have hs := HB.size
        refine hK.out _ _ ?_ (fun hHeld1 => ?_)
        · exact ⟨bb.1.apart HB (by omega), bg⟩
        clear hK K hHeld
        have hHeld := hHeld1
        clear hHeld1
        refine takeAt (i := 14) (d := 22) (v := ?_) rfl (by kernel_rfl) (by kernel_rfl) (by kernel_rfl) (by kernel_rfl) (fun _ _ _ h => h) (Or.inl ⟨by kernel_rfl, ?_⟩) hHeld ?_
        rotate_left
        · (intro w hSw; (try dsimp only at hSw); simp only [Box] at hSw; go_simp; try with_reducible rfl)
        simp only [Act.put, List.setIfInBounds_toArray, List.set_cons_zero, List.set_cons_succ]
        refine takeAt (i := 15) (d := 23) (v := .agg #[.int .i64 (IntKind.i64.wrap (1 + x)), .int .i64 y, .int .i64 v, .int .i64 ow, .int .i64 (IntKind.i64.wrap (39 + z))]) rfl (by kernel_rfl) (by kernel_rfl) (by kernel_rfl) (by kernel_rfl) (fun _ _ _ h => h) (Or.inl ⟨by kernel_rfl, fun _ _ => by kernel_rfl⟩) hHeld ?_
        simp only [Act.put, List.setIfInBounds_toArray, List.set_cons_zero, List.set_cons_succ]
        refine wpAnyH_ready (rs := [17]) (by kernel_rfl) (by simp) (AllReadyH.cons rfl (fun K hK => ?_) (AllReadyH.nil))
        obtain ⟨⟨bh1, bh2⟩, bh3⟩ := id bh
        go_simp
        have bh := bh.set5 (.int .i64 (IntKind.i64.wrap (1 + x))) (.int .i64 y) (.int .i64 v) (.int .i64 ow) (.int .i64 (IntKind.i64.wrap (39 + z)))
        have bg := bg.other5 hgh (.int .i64 (IntKind.i64.wrap (1 + x))) (.int .i64 y) (.int .i64 v) (.int .i64 ow) (.int .i64 (IntKind.i64.wrap (39 + z)))
        have HB := ap_new5 HB hlh (.int .i64 (IntKind.i64.wrap (1 + x))) (.int .i64 y) (.int .i64 v) (.int .i64 ow) (.int .i64 (IntKind.i64.wrap (39 + z)))
        have HR := HR.set5 (Nat.lt_of_lt_of_le (show R < wr.heap.size by omega) hlh) (.int .i64 (IntKind.i64.wrap (1 + x))) (.int .i64 y) (.int .i64 v) (.int .i64 ow) (.int .i64 (IntKind.i64.wrap (39 + z)))
        refine hK.out _ _ ?_ (fun hHeld1 => ?_)
        · exact ⟨bb.1.apart HB (by omega), bg⟩
        clear hK K hHeld
        have hHeld := hHeld1
        clear hHeld1
        refine wpAnyH_done (by kernel_rfl) ?_ _
        go_wp2_with fail
        go_meet
        exact ⟨_, _, _, _, _, _, rfl, by omega, by omega, bh, ap_trans HA HB, HR.le (by omega)⟩
    · skip
      refine step_val 5 (.pointer (some ⟨W0.heap.size, 0, none⟩)) (World.alloc W0 (.cells #[.int .i64 0, .int .i64 0, .int .i64 0, .int .i64 0, .int .i64 0] 24)) rfl rfl (by kernel_rfl) ?_
      simp only [Act.put, List.setIfInBounds_toArray, List.set_cons_zero, List.set_cons_succ]
      refine hK.out _ _ ?_ (fun hHeld1 => ?_)
      · exact (bb.1.apart HB (by omega)).below (bl_alloc (bl_refl _) _)
      clear hK K hHeld
      have hHeld := hHeld1
      clear hHeld1
      refine wpAnyH_newx (fun W hBl bh => ?_)
      have hlh := hs
      have hlb := (bb.1.apart HB (by omega)).1
      have HB := ap_trans HB (ap_of_bl hBl)
      have HR := HR.below hBl
      have hs := HB.size
      clear hHeld hBl
      have hHeld := bb.1.apart HB (by omega)
      refine wpAnyH_ready (rs := [1, 5]) (by kernel_rfl) (by simp) (AllReadyH.cons rfl (fun K hK => ?_) (AllReadyH.cons rfl (fun K hK => ?_) (AllReadyH.nil)))
      · skip
        refine step_call 9 25 rfl rfl (pick_rb R _ 2 _ HR (by omega) (by omega) (by omega)) (by kernel_rfl) ?_
        rintro e w1 ⟨⟨x, rfl, x0, x1⟩, ha, hr⟩
        refine ⟨_, rfl, ?_⟩
        simp only [Act.put, List.setIfInBounds_toArray, List.set_cons_zero, List.set_cons_succ]
        have bh := bh.apart ha (by omega)
        have HB := ap_trans HB ha
        clear HR ha
        have HR := hr
        clear hr
        have hs := HB.size
        refine hK.out _ _ ?_ (fun hHeld1 => ?_)
        · exact bb.1.apart HB (by omega)
        clear hK K hHeld
        have hHeld := hHeld1
        clear hHeld1
        refine takeAt (i := 2) (d := 10) (v := ?_) rfl (by kernel_rfl) (by kernel_rfl) (by kernel_rfl) (by kernel_rfl) (fun _ _ _ h => h) (Or.inl ⟨by kernel_rfl, ?_⟩) hHeld ?_
        rotate_left
        · (intro w hSw; (try dsimp only at hSw); simp only [Box] at hSw; go_simp; try with_reducible rfl)
        simp only [Act.put, List.setIfInBounds_toArray, List.set_cons_zero, List.set_cons_succ]
        refine wpAnyH_ready (rs := [4, 5]) (by kernel_rfl) (by simp) (AllReadyH.cons rfl (fun K hK => ?_) (AllReadyH.cons rfl (fun K hK => ?_) (AllReadyH.nil)))
        · skip
          refine step_call 12 42 rfl rfl (peer_rb R _ _ HR (by omega)) (by kernel_rfl) ?_
          rintro e w1 ⟨⟨y, rfl, y0⟩, ha, hr⟩
          refine ⟨_, rfl, ?_⟩
          simp only [Act.put, List.setIfInBounds_toArray, List.set_cons_zero, List.set_cons_succ]
          have bh := bh.apart ha (by omega)
          have HB := ap_trans HB ha
          clear HR ha
          have HR := hr
          clear hr
          have hs := HB.size
          refine hK.out _ _ ?_ (fun hHeld1 => ?_)
          · exact bb.1.apart HB (by omega)
          clear hK K hHeld
          have hHeld := hHeld1
          clear hHeld1
          refine wpAnyH_ready (rs := [5, 7]) (by kernel_rfl) (by simp) (AllReadyH.cons rfl (fun K hK => ?_) (AllReadyH.cons rfl (fun K hK => ?_) (AllReadyH.nil)))
          · skip
            refine step_val 13 (.slice (some ⟨w1.heap.size, 0, none⟩) 3 3) (World.alloc w1 (.cells #[.int .i64 80, .int .i64 443, .int .i64 7] 3)) rfl rfl (by kernel_rfl) ?_
            simp only [Act.put, List.setIfInBounds_toArray, List.set_cons_zero, List.set_cons_succ]
            refine hK.out _ _ ?_ (fun hHeld1 => ?_)
            · exact (bb.1.apart HB (by omega)).below (bl_alloc (bl_refl _) _)
            clear hK K hHeld
            have hHeld := hHeld1
            clear hHeld1
            refine wpAnyH_alloc (fun C => ∀ r : Int, 0 ≤ r → r < 3 → ∃ v, C[r.toNat]? = some (.int .i64 v)) (fun r r0 r1 => from_pick r0 r1) (fun C W hC hBl bg => ?_)
            have hgh := Nat.ne_of_gt bh.1.1
            have bh := bh.below hBl
            have hlg := hs
            have HB := ap_trans HB (ap_of_bl hBl)
            have HR := HR.below hBl
            have hs := HB.size
            clear hHeld hBl
            have hHeld := And.intro (bb.1.apart HB (by omega)) bg
            refine wpAnyH_ready (rs := [7]) (by kernel_rfl) (by simp) (AllReadyH.cons rfl (fun K hK => ?_) (AllReadyH.nil))
            refine step_call 15 25 rfl rfl (pick_rb R _ 3 _ HR (by omega) (by omega) (by omega)) (by kernel_rfl) ?_
            rintro e w1 ⟨⟨u, rfl, u0, u1⟩, ha, hr⟩
            refine ⟨_, rfl, ?_⟩
            simp only [Act.put, List.setIfInBounds_toArray, List.set_cons_zero, List.set_cons_succ]
            have bg := bg.apart ha (by omega)
            have bh := bh.apart ha (by omega)
            have HB := ap_trans HB ha
            clear HR ha
            have HR := hr
            clear hr
            have hs := HB.size
            refine hK.out _ _ ?_ (fun hHeld1 => ?_)
            · exact ⟨bb.1.apart HB (by omega), bg⟩
            clear hK K hHeld
            have hHeld := hHeld1
            clear hHeld1
            obtain ⟨v, hv⟩ := hC u u0 u1
            refine takeAt (i := 8) (d := 16) (v := ?_) rfl (by kernel_rfl) (by kernel_rfl) (by kernel_rfl) (by kernel_rfl) (fun _ _ _ h => h) (Or.inl ⟨by kernel_rfl, ?_⟩) hHeld ?_
            rotate_left
            · (intro w hSw; (try dsimp only at hSw); simp only [Box] at hSw; go_simp; try with_reducible rfl)
            simp only [Act.put, List.setIfInBounds_toArray, List.set_cons_zero, List.set_cons_succ]
            refine takeAt (i := 9) (d := 17) (v := ?_) rfl (by kernel_rfl) (by kernel_rfl) (by kernel_rfl) (by kernel_rfl) (fun _ _ _ h => h) (Or.inl ⟨by kernel_rfl, ?_⟩) hHeld ?_
            rotate_left
            · (intro w hSw; (try dsimp only at hSw); simp only [Box] at hSw; go_simp; try with_reducible rfl)
            simp only [Act.put, List.setIfInBounds_toArray, List.set_cons_zero, List.set_cons_succ]
            refine wpAnyH_ready (rs := [13]) (by kernel_rfl) (by simp) (AllReadyH.cons rfl (fun K hK => ?_) (AllReadyH.nil))
            refine step_call 21 25 rfl rfl (pick_rb R _ 6 _ HR (by omega) (by omega) (by omega)) (by kernel_rfl) ?_
            rintro e w1 ⟨⟨z, rfl, z0, z1⟩, ha, hr⟩
            refine ⟨_, rfl, ?_⟩
            simp only [Act.put, List.setIfInBounds_toArray, List.set_cons_zero, List.set_cons_succ]
            have bg := bg.apart ha (by omega)
            have bh := bh.apart ha (by omega)
            have HB := ap_trans HB ha
            clear HR ha
            have HR := hr
            clear hr
            have hs := HB.size
            refine hK.out _ _ ?_ (fun hHeld1 => ?_)
            · exact ⟨bb.1.apart HB (by omega), bg⟩
            clear hK K hHeld
            have hHeld := hHeld1
            clear hHeld1
            refine takeAt (i := 14) (d := 22) (v := ?_) rfl (by kernel_rfl) (by kernel_rfl) (by kernel_rfl) (by kernel_rfl) (fun _ _ _ h => h) (Or.inl ⟨by kernel_rfl, ?_⟩) hHeld ?_
            rotate_left
            · (intro w hSw; (try dsimp only at hSw); simp only [Box] at hSw; go_simp; try with_reducible rfl)
            simp only [Act.put, List.setIfInBounds_toArray, List.set_cons_zero, List.set_cons_succ]
            refine takeAt (i := 15) (d := 23) (v := .agg #[.int .i64 (IntKind.i64.wrap (1 + x)), .int .i64 y, .int .i64 v, .int .i64 ow, .int .i64 (IntKind.i64.wrap (39 + z))]) rfl (by kernel_rfl) (by kernel_rfl) (by kernel_rfl) (by kernel_rfl) (fun _ _ _ h => h) (Or.inl ⟨by kernel_rfl, fun _ _ => by kernel_rfl⟩) hHeld ?_
            simp only [Act.put, List.setIfInBounds_toArray, List.set_cons_zero, List.set_cons_succ]
            refine wpAnyH_ready (rs := [17]) (by kernel_rfl) (by simp) (AllReadyH.cons rfl (fun K hK => ?_) (AllReadyH.nil))
            obtain ⟨⟨bh1, bh2⟩, bh3⟩ := id bh
            go_simp
            have bh := bh.set5 (.int .i64 (IntKind.i64.wrap (1 + x))) (.int .i64 y) (.int .i64 v) (.int .i64 ow) (.int .i64 (IntKind.i64.wrap (39 + z)))
            have bg := bg.other5 hgh (.int .i64 (IntKind.i64.wrap (1 + x))) (.int .i64 y) (.int .i64 v) (.int .i64 ow) (.int .i64 (IntKind.i64.wrap (39 + z)))
            have HB := ap_new5 HB hlh (.int .i64 (IntKind.i64.wrap (1 + x))) (.int .i64 y) (.int .i64 v) (.int .i64 ow) (.int .i64 (IntKind.i64.wrap (39 + z)))
            have HR := HR.set5 (Nat.lt_of_lt_of_le (show R < wr.heap.size by omega) hlh) (.int .i64 (IntKind.i64.wrap (1 + x))) (.int .i64 y) (.int .i64 v) (.int .i64 ow) (.int .i64 (IntKind.i64.wrap (39 + z)))
            refine hK.out _ _ ?_ (fun hHeld1 => ?_)
            · exact ⟨bb.1.apart HB (by omega), bg⟩
            clear hK K hHeld
            have hHeld := hHeld1
            clear hHeld1
            refine wpAnyH_done (by kernel_rfl) ?_ _
            go_wp2_with fail
            go_meet
            exact ⟨_, _, _, _, _, _, rfl, by omega, by omega, bh, ap_trans HA HB, HR.le (by omega)⟩
          · skip
            refine step_call 15 25 rfl rfl (pick_rb R _ 3 _ HR (by omega) (by omega) (by omega)) (by kernel_rfl) ?_
            rintro e w1 ⟨⟨u, rfl, u0, u1⟩, ha, hr⟩
            refine ⟨_, rfl, ?_⟩
            simp only [Act.put, List.setIfInBounds_toArray, List.set_cons_zero, List.set_cons_succ]
            have bh := bh.apart ha (by omega)
            have HB := ap_trans HB ha
            clear HR ha
            have HR := hr
            clear hr
            have hs := HB.size
            refine hK.out _ _ ?_ (fun hHeld1 => ?_)
            · exact bb.1.apart HB (by omega)
            clear hK K hHeld
            have hHeld := hHeld1
            clear hHeld1
            refine wpAnyH_ready (rs := [5, 13]) (by kernel_rfl) (by simp) (AllReadyH.cons rfl (fun K hK => ?_) (AllReadyH.cons rfl (fun K hK => ?_) (AllReadyH.nil)))
            · skip
              refine step_val 13 (.slice (some ⟨w1.heap.size, 0, none⟩) 3 3) (World.alloc w1 (.cells #[.int .i64 80, .int .i64 443, .int .i64 7] 3)) rfl rfl (by kernel_rfl) ?_
              simp only [Act.put, List.setIfInBounds_toArray, List.set_cons_zero, List.set_cons_succ]
              refine hK.out _ _ ?_ (fun hHeld1 => ?_)
              · exact (bb.1.apart HB (by omega)).below (bl_alloc (bl_refl _) _)
              clear hK K hHeld
              have hHeld := hHeld1
              clear hHeld1
              refine wpAnyH_alloc (fun C => ∀ r : Int, 0 ≤ r → r < 3 → ∃ v, C[r.toNat]? = some (.int .i64 v)) (fun r r0 r1 => from_pick r0 r1) (fun C W hC hBl bg => ?_)
              have hgh := Nat.ne_of_gt bh.1.1
              have bh := bh.below hBl
              have hlg := hs
              have HB := ap_trans HB (ap_of_bl hBl)
              have HR := HR.below hBl
              have hs := HB.size
              clear hHeld hBl
              have hHeld := And.intro (bb.1.apart HB (by omega)) bg
              obtain ⟨v, hv⟩ := hC u u0 u1
              refine takeAt (i := 8) (d := 16) (v := ?_) rfl (by kernel_rfl) (by kernel_rfl) (by kernel_rfl) (by kernel_rfl) (fun _ _ _ h => h) (Or.inl ⟨by kernel_rfl, ?_⟩) hHeld ?_
              rotate_left
              · (intro w hSw; (try dsimp only at hSw); simp only [Box] at hSw; go_simp; try with_reducible rfl)
              simp only [Act.put, List.setIfInBounds_toArray, List.set_cons_zero, List.set_cons_succ]
              refine takeAt (i := 9) (d := 17) (v := ?_) rfl (by kernel_rfl) (by kernel_rfl) (by kernel_rfl) (by kernel_rfl) (fun _ _ _ h => h) (Or.inl ⟨by kernel_rfl, ?_⟩) hHeld ?_
              rotate_left
              · (intro w hSw; (try dsimp only at hSw); simp only [Box] at hSw; go_simp; try with_reducible rfl)
              simp only [Act.put, List.setIfInBounds_toArray, List.set_cons_zero, List.set_cons_succ]
              refine wpAnyH_ready (rs := [13]) (by kernel_rfl) (by simp) (AllReadyH.cons rfl (fun K hK => ?_) (AllReadyH.nil))
              refine step_call 21 25 rfl rfl (pick_rb R _ 6 _ HR (by omega) (by omega) (by omega)) (by kernel_rfl) ?_
              rintro e w1 ⟨⟨z, rfl, z0, z1⟩, ha, hr⟩
              refine ⟨_, rfl, ?_⟩
              simp only [Act.put, List.setIfInBounds_toArray, List.set_cons_zero, List.set_cons_succ]
              have bg := bg.apart ha (by omega)
              have bh := bh.apart ha (by omega)
              have HB := ap_trans HB ha
              clear HR ha
              have HR := hr
              clear hr
              have hs := HB.size
              refine hK.out _ _ ?_ (fun hHeld1 => ?_)
              · exact ⟨bb.1.apart HB (by omega), bg⟩
              clear hK K hHeld
              have hHeld := hHeld1
              clear hHeld1
              refine takeAt (i := 14) (d := 22) (v := ?_) rfl (by kernel_rfl) (by kernel_rfl) (by kernel_rfl) (by kernel_rfl) (fun _ _ _ h => h) (Or.inl ⟨by kernel_rfl, ?_⟩) hHeld ?_
              rotate_left
              · (intro w hSw; (try dsimp only at hSw); simp only [Box] at hSw; go_simp; try with_reducible rfl)
              simp only [Act.put, List.setIfInBounds_toArray, List.set_cons_zero, List.set_cons_succ]
              refine takeAt (i := 15) (d := 23) (v := .agg #[.int .i64 (IntKind.i64.wrap (1 + x)), .int .i64 y, .int .i64 v, .int .i64 ow, .int .i64 (IntKind.i64.wrap (39 + z))]) rfl (by kernel_rfl) (by kernel_rfl) (by kernel_rfl) (by kernel_rfl) (fun _ _ _ h => h) (Or.inl ⟨by kernel_rfl, fun _ _ => by kernel_rfl⟩) hHeld ?_
              simp only [Act.put, List.setIfInBounds_toArray, List.set_cons_zero, List.set_cons_succ]
              refine wpAnyH_ready (rs := [17]) (by kernel_rfl) (by simp) (AllReadyH.cons rfl (fun K hK => ?_) (AllReadyH.nil))
              obtain ⟨⟨bh1, bh2⟩, bh3⟩ := id bh
              go_simp
              have bh := bh.set5 (.int .i64 (IntKind.i64.wrap (1 + x))) (.int .i64 y) (.int .i64 v) (.int .i64 ow) (.int .i64 (IntKind.i64.wrap (39 + z)))
              have bg := bg.other5 hgh (.int .i64 (IntKind.i64.wrap (1 + x))) (.int .i64 y) (.int .i64 v) (.int .i64 ow) (.int .i64 (IntKind.i64.wrap (39 + z)))
              have HB := ap_new5 HB hlh (.int .i64 (IntKind.i64.wrap (1 + x))) (.int .i64 y) (.int .i64 v) (.int .i64 ow) (.int .i64 (IntKind.i64.wrap (39 + z)))
              have HR := HR.set5 (Nat.lt_of_lt_of_le (show R < wr.heap.size by omega) hlh) (.int .i64 (IntKind.i64.wrap (1 + x))) (.int .i64 y) (.int .i64 v) (.int .i64 ow) (.int .i64 (IntKind.i64.wrap (39 + z)))
              refine hK.out _ _ ?_ (fun hHeld1 => ?_)
              · exact ⟨bb.1.apart HB (by omega), bg⟩
              clear hK K hHeld
              have hHeld := hHeld1
              clear hHeld1
              refine wpAnyH_done (by kernel_rfl) ?_ _
              go_wp2_with fail
              go_meet
              exact ⟨_, _, _, _, _, _, rfl, by omega, by omega, bh, ap_trans HA HB, HR.le (by omega)⟩
            · skip
              refine step_call 21 25 rfl rfl (pick_rb R _ 6 _ HR (by omega) (by omega) (by omega)) (by kernel_rfl) ?_
              rintro e w1 ⟨⟨z, rfl, z0, z1⟩, ha, hr⟩
              refine ⟨_, rfl, ?_⟩
              simp only [Act.put, List.setIfInBounds_toArray, List.set_cons_zero, List.set_cons_succ]
              have bh := bh.apart ha (by omega)
              have HB := ap_trans HB ha
              clear HR ha
              have HR := hr
              clear hr
              have hs := HB.size
              refine hK.out _ _ ?_ (fun hHeld1 => ?_)
              · exact bb.1.apart HB (by omega)
              clear hK K hHeld
              have hHeld := hHeld1
              clear hHeld1
              refine takeAt (i := 14) (d := 22) (v := ?_) rfl (by kernel_rfl) (by kernel_rfl) (by kernel_rfl) (by kernel_rfl) (fun _ _ _ h => h) (Or.inl ⟨by kernel_rfl, ?_⟩) hHeld ?_
              rotate_left
              · (intro w hSw; (try dsimp only at hSw); simp only [Box] at hSw; go_simp; try with_reducible rfl)
              simp only [Act.put, List.setIfInBounds_toArray, List.set_cons_zero, List.set_cons_succ]
              refine wpAnyH_ready (rs := [5]) (by kernel_rfl) (by simp) (AllReadyH.cons rfl (fun K hK => ?_) (AllReadyH.nil))
              refine step_val 13 (.slice (some ⟨w1.heap.size, 0, none⟩) 3 3) (World.alloc w1 (.cells #[.int .i64 80, .int .i64 443, .int .i64 7] 3)) rfl rfl (by kernel_rfl) ?_
              simp only [Act.put, List.setIfInBounds_toArray, List.set_cons_zero, List.set_cons_succ]
              refine hK.out _ _ ?_ (fun hHeld1 => ?_)
              · exact (bb.1.apart HB (by omega)).below (bl_alloc (bl_refl _) _)
              clear hK K hHeld
              have hHeld := hHeld1
              clear hHeld1
              refine wpAnyH_alloc (fun C => ∀ r : Int, 0 ≤ r → r < 3 → ∃ v, C[r.toNat]? = some (.int .i64 v)) (fun r r0 r1 => from_pick r0 r1) (fun C W hC hBl bg => ?_)
              have hgh := Nat.ne_of_gt bh.1.1
              have bh := bh.below hBl
              have hlg := hs
              have HB := ap_trans HB (ap_of_bl hBl)
              have HR := HR.below hBl
              have hs := HB.size
              clear hHeld hBl
              have hHeld := And.intro (bb.1.apart HB (by omega)) bg
              obtain ⟨v, hv⟩ := hC u u0 u1
              refine takeAt (i := 8) (d := 16) (v := ?_) rfl (by kernel_rfl) (by kernel_rfl) (by kernel_rfl) (by kernel_rfl) (fun _ _ _ h => h) (Or.inl ⟨by kernel_rfl, ?_⟩) hHeld ?_
              rotate_left
              · (intro w hSw; (try dsimp only at hSw); simp only [Box] at hSw; go_simp; try with_reducible rfl)
              simp only [Act.put, List.setIfInBounds_toArray, List.set_cons_zero, List.set_cons_succ]
              refine takeAt (i := 9) (d := 17) (v := ?_) rfl (by kernel_rfl) (by kernel_rfl) (by kernel_rfl) (by kernel_rfl) (fun _ _ _ h => h) (Or.inl ⟨by kernel_rfl, ?_⟩) hHeld ?_
              rotate_left
              · (intro w hSw; (try dsimp only at hSw); simp only [Box] at hSw; go_simp; try with_reducible rfl)
              simp only [Act.put, List.setIfInBounds_toArray, List.set_cons_zero, List.set_cons_succ]
              refine takeAt (i := 15) (d := 23) (v := .agg #[.int .i64 (IntKind.i64.wrap (1 + x)), .int .i64 y, .int .i64 v, .int .i64 ow, .int .i64 (IntKind.i64.wrap (39 + z))]) rfl (by kernel_rfl) (by kernel_rfl) (by kernel_rfl) (by kernel_rfl) (fun _ _ _ h => h) (Or.inl ⟨by kernel_rfl, fun _ _ => by kernel_rfl⟩) hHeld ?_
              simp only [Act.put, List.setIfInBounds_toArray, List.set_cons_zero, List.set_cons_succ]
              refine wpAnyH_ready (rs := [17]) (by kernel_rfl) (by simp) (AllReadyH.cons rfl (fun K hK => ?_) (AllReadyH.nil))
              obtain ⟨⟨bh1, bh2⟩, bh3⟩ := id bh
              go_simp
              have bh := bh.set5 (.int .i64 (IntKind.i64.wrap (1 + x))) (.int .i64 y) (.int .i64 v) (.int .i64 ow) (.int .i64 (IntKind.i64.wrap (39 + z)))
              have bg := bg.other5 hgh (.int .i64 (IntKind.i64.wrap (1 + x))) (.int .i64 y) (.int .i64 v) (.int .i64 ow) (.int .i64 (IntKind.i64.wrap (39 + z)))
              have HB := ap_new5 HB hlh (.int .i64 (IntKind.i64.wrap (1 + x))) (.int .i64 y) (.int .i64 v) (.int .i64 ow) (.int .i64 (IntKind.i64.wrap (39 + z)))
              have HR := HR.set5 (Nat.lt_of_lt_of_le (show R < wr.heap.size by omega) hlh) (.int .i64 (IntKind.i64.wrap (1 + x))) (.int .i64 y) (.int .i64 v) (.int .i64 ow) (.int .i64 (IntKind.i64.wrap (39 + z)))
              refine hK.out _ _ ?_ (fun hHeld1 => ?_)
              · exact ⟨bb.1.apart HB (by omega), bg⟩
              clear hK K hHeld
              have hHeld := hHeld1
              clear hHeld1
              refine wpAnyH_done (by kernel_rfl) ?_ _
              go_wp2_with fail
              go_meet
              exact ⟨_, _, _, _, _, _, rfl, by omega, by omega, bh, ap_trans HA HB, HR.le (by omega)⟩
        · skip
          refine step_val 13 (.slice (some ⟨w1.heap.size, 0, none⟩) 3 3) (World.alloc w1 (.cells #[.int .i64 80, .int .i64 443, .int .i64 7] 3)) rfl rfl (by kernel_rfl) ?_
          simp only [Act.put, List.setIfInBounds_toArray, List.set_cons_zero, List.set_cons_succ]
          refine hK.out _ _ ?_ (fun hHeld1 => ?_)
          · exact (bb.1.apart HB (by omega)).below (bl_alloc (bl_refl _) _)
          clear hK K hHeld
          have hHeld := hHeld1
          clear hHeld1
          refine wpAnyH_alloc (fun C => ∀ r : Int, 0 ≤ r → r < 3 → ∃ v, C[r.toNat]? = some (.int .i64 v)) (fun r r0 r1 => from_pick r0 r1) (fun C W hC hBl bg => ?_)
          have hgh := Nat.ne_of_gt bh.1.1
          have bh := bh.below hBl
          have hlg := hs
          have HB := ap_trans HB (ap_of_bl hBl)
          have HR := HR.below hBl
          have hs := HB.size
          clear hHeld hBl
          have hHeld := And.intro (bb.1.apart HB (by omega)) bg
          refine wpAnyH_ready (rs := [4]) (by kernel_rfl) (by simp) (AllReadyH.cons rfl (fun K hK => ?_) (AllReadyH.nil))
          refine step_call 12 42 rfl rfl (peer_rb R _ _ HR (by omega)) (by kernel_rfl) ?_
          rintro e w1 ⟨⟨y, rfl, y0⟩, ha, hr⟩
          refine ⟨_, rfl, ?_⟩
          simp only [Act.put, List.setIfInBounds_toArray, List.set_cons_zero, List.set_cons_succ]
          have bg := bg.apart ha (by omega)
          have bh := bh.apart ha (by omega)
          have HB := ap_trans HB ha
          clear HR ha
          have HR := hr
          clear hr
          have hs := HB.size
          refine hK.out _ _ ?_ (fun hHeld1 => ?_)
          · exact ⟨bb.1.apart HB (by omega), bg⟩
          clear hK K hHeld
          have hHeld := hHeld1
          clear hHeld1
          refine wpAnyH_ready (rs := [7]) (by kernel_rfl) (by simp) (AllReadyH.cons rfl (fun K hK => ?_) (AllReadyH.nil))
          refine step_call 15 25 rfl rfl (pick_rb R _ 3 _ HR (by omega) (by omega) (by omega)) (by kernel_rfl) ?_
          rintro e w1 ⟨⟨u, rfl, u0, u1⟩, ha, hr⟩
          refine ⟨_, rfl, ?_⟩
          simp only [Act.put, List.setIfInBounds_toArray, List.set_cons_zero, List.set_cons_succ]
          have bg := bg.apart ha (by omega)
          have bh := bh.apart ha (by omega)
          have HB := ap_trans HB ha
          clear HR ha
          have HR := hr
          clear hr
          have hs := HB.size
          refine hK.out _ _ ?_ (fun hHeld1 => ?_)
          · exact ⟨bb.1.apart HB (by omega), bg⟩
          clear hK K hHeld
          have hHeld := hHeld1
          clear hHeld1
          obtain ⟨v, hv⟩ := hC u u0 u1
          refine takeAt (i := 8) (d := 16) (v := ?_) rfl (by kernel_rfl) (by kernel_rfl) (by kernel_rfl) (by kernel_rfl) (fun _ _ _ h => h) (Or.inl ⟨by kernel_rfl, ?_⟩) hHeld ?_
          rotate_left
          · (intro w hSw; (try dsimp only at hSw); simp only [Box] at hSw; go_simp; try with_reducible rfl)
          simp only [Act.put, List.setIfInBounds_toArray, List.set_cons_zero, List.set_cons_succ]
          refine takeAt (i := 9) (d := 17) (v := ?_) rfl (by kernel_rfl) (by kernel_rfl) (by kernel_rfl) (by kernel_rfl) (fun _ _ _ h => h) (Or.inl ⟨by kernel_rfl, ?_⟩) hHeld ?_
          rotate_left
          · (intro w hSw; (try dsimp only at hSw); simp only [Box] at hSw; go_simp; try with_reducible rfl)
          simp only [Act.put, List.setIfInBounds_toArray, List.set_cons_zero, List.set_cons_succ]
          refine wpAnyH_ready (rs := [13]) (by kernel_rfl) (by simp) (AllReadyH.cons rfl (fun K hK => ?_) (AllReadyH.nil))
          refine step_call 21 25 rfl rfl (pick_rb R _ 6 _ HR (by omega) (by omega) (by omega)) (by kernel_rfl) ?_
          rintro e w1 ⟨⟨z, rfl, z0, z1⟩, ha, hr⟩
          refine ⟨_, rfl, ?_⟩
          simp only [Act.put, List.setIfInBounds_toArray, List.set_cons_zero, List.set_cons_succ]
          have bg := bg.apart ha (by omega)
          have bh := bh.apart ha (by omega)
          have HB := ap_trans HB ha
          clear HR ha
          have HR := hr
          clear hr
          have hs := HB.size
          refine hK.out _ _ ?_ (fun hHeld1 => ?_)
          · exact ⟨bb.1.apart HB (by omega), bg⟩
          clear hK K hHeld
          have hHeld := hHeld1
          clear hHeld1
          refine takeAt (i := 14) (d := 22) (v := ?_) rfl (by kernel_rfl) (by kernel_rfl) (by kernel_rfl) (by kernel_rfl) (fun _ _ _ h => h) (Or.inl ⟨by kernel_rfl, ?_⟩) hHeld ?_
          rotate_left
          · (intro w hSw; (try dsimp only at hSw); simp only [Box] at hSw; go_simp; try with_reducible rfl)
          simp only [Act.put, List.setIfInBounds_toArray, List.set_cons_zero, List.set_cons_succ]
          refine takeAt (i := 15) (d := 23) (v := .agg #[.int .i64 (IntKind.i64.wrap (1 + x)), .int .i64 y, .int .i64 v, .int .i64 ow, .int .i64 (IntKind.i64.wrap (39 + z))]) rfl (by kernel_rfl) (by kernel_rfl) (by kernel_rfl) (by kernel_rfl) (fun _ _ _ h => h) (Or.inl ⟨by kernel_rfl, fun _ _ => by kernel_rfl⟩) hHeld ?_
          simp only [Act.put, List.setIfInBounds_toArray, List.set_cons_zero, List.set_cons_succ]
          refine wpAnyH_ready (rs := [17]) (by kernel_rfl) (by simp) (AllReadyH.cons rfl (fun K hK => ?_) (AllReadyH.nil))
          obtain ⟨⟨bh1, bh2⟩, bh3⟩ := id bh
          go_simp
          have bh := bh.set5 (.int .i64 (IntKind.i64.wrap (1 + x))) (.int .i64 y) (.int .i64 v) (.int .i64 ow) (.int .i64 (IntKind.i64.wrap (39 + z)))
          have bg := bg.other5 hgh (.int .i64 (IntKind.i64.wrap (1 + x))) (.int .i64 y) (.int .i64 v) (.int .i64 ow) (.int .i64 (IntKind.i64.wrap (39 + z)))
          have HB := ap_new5 HB hlh (.int .i64 (IntKind.i64.wrap (1 + x))) (.int .i64 y) (.int .i64 v) (.int .i64 ow) (.int .i64 (IntKind.i64.wrap (39 + z)))
          have HR := HR.set5 (Nat.lt_of_lt_of_le (show R < wr.heap.size by omega) hlh) (.int .i64 (IntKind.i64.wrap (1 + x))) (.int .i64 y) (.int .i64 v) (.int .i64 ow) (.int .i64 (IntKind.i64.wrap (39 + z)))
          refine hK.out _ _ ?_ (fun hHeld1 => ?_)
          · exact ⟨bb.1.apart HB (by omega), bg⟩
          clear hK K hHeld
          have hHeld := hHeld1
          clear hHeld1
          refine wpAnyH_done (by kernel_rfl) ?_ _
          go_wp2_with fail
          go_meet
          exact ⟨_, _, _, _, _, _, rfl, by omega, by omega, bh, ap_trans HA HB, HR.le (by omega)⟩
      · skip
        refine step_val 13 (.slice (some ⟨W.heap.size, 0, none⟩) 3 3) (World.alloc W (.cells #[.int .i64 80, .int .i64 443, .int .i64 7] 3)) rfl rfl (by kernel_rfl) ?_
        simp only [Act.put, List.setIfInBounds_toArray, List.set_cons_zero, List.set_cons_succ]
        refine hK.out _ _ ?_ (fun hHeld1 => ?_)
        · exact (bb.1.apart HB (by omega)).below (bl_alloc (bl_refl _) _)
        clear hK K hHeld
        have hHeld := hHeld1
        clear hHeld1
        refine wpAnyH_alloc (fun C => ∀ r : Int, 0 ≤ r → r < 3 → ∃ v, C[r.toNat]? = some (.int .i64 v)) (fun r r0 r1 => from_pick r0 r1) (fun C W hC hBl bg => ?_)
        have hgh := Nat.ne_of_gt bh.1.1
        have bh := bh.below hBl
        have hlg := hs
        have HB := ap_trans HB (ap_of_bl hBl)
        have HR := HR.below hBl
        have hs := HB.size
        clear hHeld hBl
        have hHeld := And.intro (bb.1.apart HB (by omega)) bg
        refine wpAnyH_ready (rs := [1]) (by kernel_rfl) (by simp) (AllReadyH.cons rfl (fun K hK => ?_) (AllReadyH.nil))
        refine step_call 9 25 rfl rfl (pick_rb R _ 2 _ HR (by omega) (by omega) (by omega)) (by kernel_rfl) ?_
        rintro e w1 ⟨⟨x, rfl, x0, x1⟩, ha, hr⟩
        refine ⟨_, rfl, ?_⟩
        simp only [Act.put, List.setIfInBounds_toArray, List.set_cons_zero, List.set_cons_succ]
        have bg := bg.apart ha (by omega)
        have bh := bh.apart ha (by omega)
        have HB := ap_trans HB ha
        clear HR ha
        have HR := hr
        clear hr
        have hs := HB.size
        refine hK.out _ _ ?_ (fun hHeld1 => ?_)
        · exact ⟨bb.1.apart HB (by omega), bg⟩
        clear hK K hHeld
        have hHeld := hHeld1
        clear hHeld1
        refine takeAt (i := 2) (d := 10) (v := ?_) rfl (by kernel_rfl) (by kernel_rfl) (by kernel_rfl) (by kernel_rfl) (fun _ _ _ h => h) (Or.inl ⟨by kernel_rfl, ?_⟩) hHeld ?_
        rotate_left
        · (intro w hSw; (try dsimp only at hSw); simp only [Box] at hSw; go_simp; try with_reducible rfl)
        simp only [Act.put, List.setIfInBounds_toArray, List.set_cons_zero, List.set_cons_succ]
        refine wpAnyH_ready (rs := [4]) (by kernel_rfl) (by simp) (AllReadyH.cons rfl (fun K hK => ?_) (AllReadyH.nil))
        refine step_call 12 42 rfl rfl (peer_rb R _ _ HR (by omega)) (by kernel_rfl) ?_
        rintro e w1 ⟨⟨y, rfl, y0⟩, ha, hr⟩
        refine ⟨_, rfl, ?_⟩
        simp only [Act.put, List.setIfInBounds_toArray, List.set_cons_zero, List.set_cons_succ]
        have bg := bg.apart ha (by omega)
        have bh := bh.apart ha (by omega)
        have HB := ap_trans HB ha
        clear HR ha
        have HR := hr
        clear hr
        have hs := HB.size
        refine hK.out _ _ ?_ (fun hHeld1 => ?_)
        · exact ⟨bb.1.apart HB (by omega), bg⟩
        clear hK K hHeld
        have hHeld := hHeld1
        clear hHeld1
        refine wpAnyH_ready (rs := [7]) (by kernel_rfl) (by simp) (AllReadyH.cons rfl (fun K hK => ?_) (AllReadyH.nil))
        refine step_call 15 25 rfl rfl (pick_rb R _ 3 _ HR (by omega) (by omega) (by omega)) (by kernel_rfl) ?_
        rintro e w1 ⟨⟨u, rfl, u0, u1⟩, ha, hr⟩
        refine ⟨_, rfl, ?_⟩
        simp only [Act.put, List.setIfInBounds_toArray, List.set_cons_zero, List.set_cons_succ]
        have bg := bg.apart ha (by omega)
        have bh := bh.apart ha (by omega)
        have HB := ap_trans HB ha
        clear HR ha
        have HR := hr
        clear hr
        have hs := HB.size
        refine hK.out _ _ ?_ (fun hHeld1 => ?_)
        · exact ⟨bb.1.apart HB (by omega), bg⟩
        clear hK K hHeld
        have hHeld := hHeld1
        clear hHeld1
        obtain ⟨v, hv⟩ := hC u u0 u1
        refine takeAt (i := 8) (d := 16) (v := ?_) rfl (by kernel_rfl) (by kernel_rfl) (by kernel_rfl) (by kernel_rfl) (fun _ _ _ h => h) (Or.inl ⟨by kernel_rfl, ?_⟩) hHeld ?_
        rotate_left
        · (intro w hSw; (try dsimp only at hSw); simp only [Box] at hSw; go_simp; try with_reducible rfl)
        simp only [Act.put, List.setIfInBounds_toArray, List.set_cons_zero, List.set_cons_succ]
        refine takeAt (i := 9) (d := 17) (v := ?_) rfl (by kernel_rfl) (by kernel_rfl) (by kernel_rfl) (by kernel_rfl) (fun _ _ _ h => h) (Or.inl ⟨by kernel_rfl, ?_⟩) hHeld ?_
        rotate_left
        · (intro w hSw; (try dsimp only at hSw); simp only [Box] at hSw; go_simp; try with_reducible rfl)
        simp only [Act.put, List.setIfInBounds_toArray, List.set_cons_zero, List.set_cons_succ]
        refine wpAnyH_ready (rs := [13]) (by kernel_rfl) (by simp) (AllReadyH.cons rfl (fun K hK => ?_) (AllReadyH.nil))
        refine step_call 21 25 rfl rfl (pick_rb R _ 6 _ HR (by omega) (by omega) (by omega)) (by kernel_rfl) ?_
        rintro e w1 ⟨⟨z, rfl, z0, z1⟩, ha, hr⟩
        refine ⟨_, rfl, ?_⟩
        simp only [Act.put, List.setIfInBounds_toArray, List.set_cons_zero, List.set_cons_succ]
        have bg := bg.apart ha (by omega)
        have bh := bh.apart ha (by omega)
        have HB := ap_trans HB ha
        clear HR ha
        have HR := hr
        clear hr
        have hs := HB.size
        refine hK.out _ _ ?_ (fun hHeld1 => ?_)
        · exact ⟨bb.1.apart HB (by omega), bg⟩
        clear hK K hHeld
        have hHeld := hHeld1
        clear hHeld1
        refine takeAt (i := 14) (d := 22) (v := ?_) rfl (by kernel_rfl) (by kernel_rfl) (by kernel_rfl) (by kernel_rfl) (fun _ _ _ h => h) (Or.inl ⟨by kernel_rfl, ?_⟩) hHeld ?_
        rotate_left
        · (intro w hSw; (try dsimp only at hSw); simp only [Box] at hSw; go_simp; try with_reducible rfl)
        simp only [Act.put, List.setIfInBounds_toArray, List.set_cons_zero, List.set_cons_succ]
        refine takeAt (i := 15) (d := 23) (v := .agg #[.int .i64 (IntKind.i64.wrap (1 + x)), .int .i64 y, .int .i64 v, .int .i64 ow, .int .i64 (IntKind.i64.wrap (39 + z))]) rfl (by kernel_rfl) (by kernel_rfl) (by kernel_rfl) (by kernel_rfl) (fun _ _ _ h => h) (Or.inl ⟨by kernel_rfl, fun _ _ => by kernel_rfl⟩) hHeld ?_
        simp only [Act.put, List.setIfInBounds_toArray, List.set_cons_zero, List.set_cons_succ]
        refine wpAnyH_ready (rs := [17]) (by kernel_rfl) (by simp) (AllReadyH.cons rfl (fun K hK => ?_) (AllReadyH.nil))
        obtain ⟨⟨bh1, bh2⟩, bh3⟩ := id bh
        go_simp
        have bh := bh.set5 (.int .i64 (IntKind.i64.wrap (1 + x))) (.int .i64 y) (.int .i64 v) (.int .i64 ow) (.int .i64 (IntKind.i64.wrap (39 + z)))
        have bg := bg.other5 hgh (.int .i64 (IntKind.i64.wrap (1 + x))) (.int .i64 y) (.int .i64 v) (.int .i64 ow) (.int .i64 (IntKind.i64.wrap (39 + z)))
        have HB := ap_new5 HB hlh (.int .i64 (IntKind.i64.wrap (1 + x))) (.int .i64 y) (.int .i64 v) (.int .i64 ow) (.int .i64 (IntKind.i64.wrap (39 + z)))
        have HR := HR.set5 (Nat.lt_of_lt_of_le (show R < wr.heap.size by omega) hlh) (.int .i64 (IntKind.i64.wrap (1 + x))) (.int .i64 y) (.int .i64 v) (.int .i64 ow) (.int .i64 (IntKind.i64.wrap (39 + z)))
        refine hK.out _ _ ?_ (fun hHeld1 => ?_)
        · exact ⟨bb.1.apart HB (by omega), bg⟩
        clear hK K hHeld
        have hHeld := hHeld1
        clear hHeld1
        refine wpAnyH_done (by kernel_rfl) ?_ _
        go_wp2_with fail
        go_meet
        exact ⟨_, _, _, _, _, _, rfl, by omega, by omega, bh, ap_trans HA HB, HR.le (by omega)⟩
  case rest =>
    obtain ⟨h, k, a, ap, b, bp, rfl, hh1, hh2, bh, HC, HRc⟩ := hcut
    have hsc := HC.size
    have bb := bb.apart HC (by omega)
    have bx := bx.apart HC (by omega)
    have HX := ap_trans HA HC
    have HD := HD.apart HX hq
    clear HC HA HR
    by_cases hz : dn = 0
    · subst hz
      obtain ⟨⟨r1, r2⟩, r3⟩ := id bx
      obtain ⟨⟨p1, p2⟩, p3⟩ := id bh
      obtain ⟨⟨s1, s2⟩, s3⟩ := id bb
      go_wp2_with fail
      have hbv := bx.set5 (.int .i64 k) (.int .i64 a) (.int .i64 ap) (.int .i64 b) (.int .i64 bp)
      obtain ⟨⟨t1, t2⟩, t3⟩ := id hbv
      refine bodyPost_ret (v := .agg #[.int .i64 k, .int .i64 a, .int .i64 ap, .int .i64 b, .int .i64 bp]) (by simp [results, Try.results23, go_sem, t2]) rfl ⟨⟨_, _, _, _, _, rfl⟩, ?_, ?_⟩
      · exact ap_new5 HX (by omega) (.int .i64 k) (.int .i64 a) (.int .i64 ap) (.int .i64 b) (.int .i64 bp)
      · exact (HRc.set5 (by omega) (.int .i64 k) (.int .i64 a) (.int .i64 ap) (.int .i64 b) (.int .i64 bp)).le (by omega)
    · have hpos : (0 : Int) < (dn : Int) := by omega
      obtain ⟨g, rfl, hg0, hg1, hg2, hDc⟩ : ∃ g, da = some ⟨g, 0, none⟩ ∧ q ≤ g ∧ g < wc.heap.size ∧ dn ≤ dc ∧ DrCells wc g 0 ds := by
        rcases HD.2 with ⟨_, _, h⟩ | h
        · have := HD.1; rw [h] at this; simp at this; omega
        · exact h
      have hdl : Hid (dn = ds.length) := HD.1
      obtain ⟨⟨s1, s2⟩, s3⟩ := id bb
      go_wp2_with fail
      refine (pick_rb R _ 3 _ HRc (by omega) (by omega) (by omega)).mono ?_
      rintro e wd ⟨⟨y, rfl, y0, y1⟩, ha, hr⟩
      have bb := bb.apart ha (by omega)
      have bx := bx.apart ha (by omega)
      have bh := bh.apart ha (by omega)
      have hDc := hDc.apart ha hg1 (by omega)
      have hg1 : g < wd.heap.size := Nat.lt_of_lt_of_le hg1 ha.size
      have HX := ap_trans HX ha
      clear HRc ha s1 s2 s3 HD
      have HRc := hr
      clear hr
      by_cases hy : y = 0
      · subst hy
        obtain ⟨⟨s1, s2⟩, s3⟩ := id bb
        go_wp2_with fail
        refine wp_region_held_drew (S := (fun w' => Box w' w.heap.size #[.int .i64 ad, .int .i64 ln, .int .i64 ow, .int .i64 lo, .int .i64 hi, .slice (some ⟨g, 0, none⟩) dn dc, .int .i64 nw, .slice ea 0 ec] ∧ DrCells w' g 0 ds)) (by kernel_rfl) ?_ (fun hHeld => ?_)
        · exact ⟨Box.below bb.1 (bl_drew (bl_refl _)), hDc.below (bl_drew (bl_refl _)) hg1⟩
        have HB : Apart R wd wd.drew := ap_of_bl (bl_drew (bl_refl wd))
        have HR := HRc.below (bl_drew (bl_refl wd))
        have hs := HB.size
        have hnw := bb.1.1
        generalize wd.drew = W0 at HB HR hs hHeld ⊢
        refine takeAt (i := 0) (d := 33) (v := ?_) rfl (by kernel_rfl) (by kernel_rfl) (by kernel_rfl) (by kernel_rfl) (fun _ _ _ h => h) (Or.inl ⟨by kernel_rfl, ?_⟩) hHeld ?_
        rotate_left
        · (intro w hSw; (try dsimp only at hSw); have hS1 := hSw.1; clear hSw; simp only [Box] at hS1; go_simp; try with_reducible rfl)
        simp only [Act.put, List.setIfInBounds_toArray, List.set_cons_zero, List.set_cons_succ]
        refine takeAt (i := 1) (d := 34) (v := ?_) rfl (by kernel_rfl) (by kernel_rfl) (by kernel_rfl) (by kernel_rfl) (fun _ _ _ h => h) (Or.inl ⟨by kernel_rfl, ?_⟩) hHeld ?_
        rotate_left
        · (intro w hSw; (try dsimp only at hSw); have hS1 := hSw.1; clear hSw; simp only [Box] at hS1; go_simp; try with_reducible rfl)
        simp only [Act.put, List.setIfInBounds_toArray, List.set_cons_zero, List.set_cons_succ]
        refine takeAt (i := 2) (d := 35) (v := ?_) rfl (by kernel_rfl) (by kernel_rfl) (by kernel_rfl) (by kernel_rfl) (fun _ _ _ h => h) (Or.inl ⟨by kernel_rfl, ?_⟩) hHeld ?_
        rotate_left
        · (intro w hSw; (try dsimp only at hSw); have hS1 := hSw.1; clear hSw; simp only [Box] at hS1; go_simp; try with_reducible rfl)
        simp only [Act.put, List.setIfInBounds_toArray, List.set_cons_zero, List.set_cons_succ]
        refine takeAt (i := 3) (d := 36) (v := ?_) rfl (by kernel_rfl) (by kernel_rfl) (by kernel_rfl) (by kernel_rfl) (fun _ _ _ h => h) (Or.inl ⟨by kernel_rfl, ?_⟩) hHeld ?_
        rotate_left
        · (intro w hSw; (try dsimp only at hSw); have hS1 := hSw.1; clear hSw; simp only [Box] at hS1; go_simp; try with_reducible rfl)
        simp only [Act.put, List.setIfInBounds_toArray, List.set_cons_zero, List.set_cons_succ]
        refine takeAt (i := 4) (d := 37) (v := ?_) rfl (by kernel_rfl) (by kernel_rfl) (by kernel_rfl) (by kernel_rfl) (fun _ _ _ h => h) (Or.inl ⟨by kernel_rfl, ?_⟩) hHeld ?_
        rotate_left
        · (intro w hSw; (try dsimp only at hSw); have hS1 := hSw.1; clear hSw; simp only [Box] at hS1; go_simp; try with_reducible rfl)
        simp only [Act.put, List.setIfInBounds_toArray, List.set_cons_zero, List.set_cons_succ]
        refine takeAt (i := 5) (d := 38) (v := ?_) rfl (by kernel_rfl) (by kernel_rfl) (by kernel_rfl) (by kernel_rfl) (fun _ _ _ h => h) (Or.inl ⟨by kernel_rfl, ?_⟩) hHeld ?_
        rotate_left
        · (intro w hSw; (try dsimp only at hSw); have hS1 := hSw.1; clear hSw; simp only [Box] at hS1; go_simp; try with_reducible rfl)
        simp only [Act.put, List.setIfInBounds_toArray, List.set_cons_zero, List.set_cons_succ]
        refine wpAnyH_ready (rs := [6, 9]) (by kernel_rfl) (by simp) (AllReadyH.cons rfl (fun K hK => ?_) (AllReadyH.cons rfl (fun K hK => ?_) (AllReadyH.nil)))
        · skip
          refine step_call 39 25 rfl rfl (pick_rb R _ (dn : Int) _ HR (by omega) (by omega) (by omega)) (by kernel_rfl) ?_
          rintro e w1 ⟨⟨z, rfl, z0, z1⟩, ha, hr⟩
          refine ⟨_, rfl, ?_⟩
          simp only [Act.put, List.setIfInBounds_toArray, List.set_cons_zero, List.set_cons_succ]
          have HB := ap_trans HB ha
          clear HR ha
          have HR := hr
          clear hr
          have hs := HB.size
          refine hK.out _ _ ?_ (fun hHeld1 => ?_)
          · exact ⟨bb.1.apart HB (by omega), hDc.apart HB hg1 (by omega)⟩
          clear hK K hHeld
          have hHeld := hHeld1
          clear hHeld1
          obtain ⟨dd, hdd⟩ : ∃ dd, ds[z.toNat]? = some dd := by
            have hx := hdl.out
            exact ⟨ds[z.toNat], by simp⟩
          refine takeAt (i := 7) (d := 40) (v := ?_) rfl (by kernel_rfl) (by kernel_rfl) (by kernel_rfl) (by kernel_rfl) (fun _ _ _ h => h) (Or.inl ⟨by kernel_rfl, ?_⟩) hHeld ?_
          rotate_left
          · (intro w hSw; (try dsimp only at hSw); have hS1 := hSw.1; clear hSw; simp only [Box] at hS1; go_simp; try with_reducible rfl)
          simp only [Act.put, List.setIfInBounds_toArray, List.set_cons_zero, List.set_cons_succ]
          refine takeAt (i := 8) (d := 41) (v := ?_) rfl (by kernel_rfl) (by kernel_rfl) (by kernel_rfl) (by kernel_rfl) (fun _ _ _ h => h) (Or.inl ⟨by kernel_rfl, ?_⟩) hHeld ?_
          rotate_left
          · (intro w hSw; (try dsimp only at hSw); obtain ⟨c0, c1, c2, c3⟩ := hSw.2 _ _ hdd; clear hSw; simp only [Nat.zero_add] at c0 c1 c2 c3; go_simp; try with_reducible rfl)
          simp only [Act.put, List.setIfInBounds_toArray, List.set_cons_zero, List.set_cons_succ]
          refine wpAnyH_ready (rs := [9]) (by kernel_rfl) (by simp) (AllReadyH.cons rfl (fun K hK => ?_) (AllReadyH.nil))
          refine step_val 6 (.pointer (some ⟨w1.heap.size, 0, none⟩)) (World.alloc w1 (.cells #[.int .i64 0, .int .i64 0, .int .i64 0, .int .i64 0] 70)) rfl rfl (by kernel_rfl) ?_
          simp only [Act.put, List.setIfInBounds_toArray, List.set_cons_zero, List.set_cons_succ]
          have HB0 := HB
          have HB := ap_trans HB (ap_of_bl (bl_alloc (bl_refl w1) (.cells #[.int .i64 0, .int .i64 0, .int .i64 0, .int .i64 0] 70)))
          refine hK.out _ _ ?_ (fun hHeld1 => ?_)
          · exact ⟨bb.1.apart HB (by omega), hDc.apart HB hg1 (by omega)⟩
          clear hK K hHeld
          have hHeld := hHeld1
          clear hHeld1
          refine wpAnyH_newx (fun W hBl bd => ?_)
          have hld := hs
          clear HB
          have HB := ap_trans HB0 (ap_of_bl hBl)
          clear HB0
          have HR := HR.below hBl
          have hs := HB.size
          clear hHeld hBl
          have hHeld := And.intro (bb.1.apart HB (by omega)) (hDc.apart HB hg1 (by omega))
          refine wpAnyH_ready (rs := [10]) (by kernel_rfl) (by simp) (AllReadyH.cons rfl (fun K hK => ?_) (AllReadyH.nil))
          obtain ⟨⟨bd1, bd2⟩, bd3⟩ := id bd
          go_simp
          have bd := bd.set4 (.int .i64 dd.k) (.int .i64 dd.o) (.int .i64 dd.i) (.int .i64 dd.p)
          have HB := ap_new4 HB hld (.int .i64 dd.k) (.int .i64 dd.o) (.int .i64 dd.i) (.int .i64 dd.p)
          have HR := HR.set4 (Nat.lt_of_lt_of_le (show R < wd.heap.size by omega) hld) (.int .i64 dd.k) (.int .i64 dd.o) (.int .i64 dd.i) (.int .i64 dd.p)
          refine hK.out _ _ ?_ (fun hHeld1 => ?_)
          · exact ⟨bb.1.apart HB (by omega), hDc.apart HB hg1 (by omega)⟩
          clear hK K hHeld
          have hHeld := hHeld1
          clear hHeld1
          refine wpAnyH_done (by kernel_rfl) ?_ _
          have bx := bx.apart HB (by omega)
          have bh := bh.apart HB (by omega)
          have HX := ap_trans HX HB
          clear bb HRc hDc hdd
          have bb := hHeld.1
          have HRc := HR
          clear HR HB hHeld
          obtain ⟨⟨r1, r2⟩, r3⟩ := id bx
          obtain ⟨⟨p1, p2⟩, p3⟩ := id bh
          obtain ⟨s1, s2⟩ := id bb
          obtain ⟨⟨u1, u2⟩, u3⟩ := id bd
          go_wp2_with fail
          have hbv := (bx.other (m := h) (j := 0) (by omega) (.int .i64 dd.k)).other (m := h) (j := 4) (by omega) (.int .i64 dd.o) |>.set5 (.int .i64 dd.k) (.int .i64 a) (.int .i64 ap) (.int .i64 b) (.int .i64 dd.o)
          obtain ⟨⟨t1, t2⟩, t3⟩ := id hbv
          refine bodyPost_ret (v := .agg #[.int .i64 dd.k, .int .i64 a, .int .i64 ap, .int .i64 b, .int .i64 dd.o]) (by simp [results, Try.results23, go_sem, t2]) rfl ⟨⟨_, _, _, _, _, rfl⟩, ?_, ?_⟩
          · exact ap_new5 (ap_new (ap_new HX (by omega) _) (by omega) _) (by omega) (.int .i64 dd.k) (.int .i64 a) (.int .i64 ap) (.int .i64 b) (.int .i64 dd.o)
          · exact (((HRc.set (m := h) (j := 0) (by omega) (.int .i64 dd.k)).set (m := h) (j := 4) (by omega) (.int .i64 dd.o)).set5 (by omega) (.int .i64 dd.k) (.int .i64 a) (.int .i64 ap) (.int .i64 b) (.int .i64 dd.o)).le (by omega)
        · skip
          refine step_val 6 (.pointer (some ⟨W0.heap.size, 0, none⟩)) (World.alloc W0 (.cells #[.int .i64 0, .int .i64 0, .int .i64 0, .int .i64 0] 70)) rfl rfl (by kernel_rfl) ?_
          simp only [Act.put, List.setIfInBounds_toArray, List.set_cons_zero, List.set_cons_succ]
          have HB0 := HB
          have HB := ap_trans HB (ap_of_bl (bl_alloc (bl_refl W0) (.cells #[.int .i64 0, .int .i64 0, .int .i64 0, .int .i64 0] 70)))
          refine hK.out _ _ ?_ (fun hHeld1 => ?_)
          · exact ⟨bb.1.apart HB (by omega), hDc.apart HB hg1 (by omega)⟩
          clear hK K hHeld
          have hHeld := hHeld1
          clear hHeld1
          refine wpAnyH_newx (fun W hBl bd => ?_)
          have hld := hs
          clear HB
          have HB := ap_trans HB0 (ap_of_bl hBl)
          clear HB0
          have HR := HR.below hBl
          have hs := HB.size
          clear hHeld hBl
          have hHeld := And.intro (bb.1.apart HB (by omega)) (hDc.apart HB hg1 (by omega))
          refine wpAnyH_ready (rs := [6]) (by kernel_rfl) (by simp) (AllReadyH.cons rfl (fun K hK => ?_) (AllReadyH.nil))
          refine step_call 39 25 rfl rfl (pick_rb R _ (dn : Int) _ HR (by omega) (by omega) (by omega)) (by kernel_rfl) ?_
          rintro e w1 ⟨⟨z, rfl, z0, z1⟩, ha, hr⟩
          refine ⟨_, rfl, ?_⟩
          simp only [Act.put, List.setIfInBounds_toArray, List.set_cons_zero, List.set_cons_succ]
          have bd := bd.apart ha (by omega)
          have HB := ap_trans HB ha
          clear HR ha
          have HR := hr
          clear hr
          have hs := HB.size
          refine hK.out _ _ ?_ (fun hHeld1 => ?_)
          · exact ⟨bb.1.apart HB (by omega), hDc.apart HB hg1 (by omega)⟩
          clear hK K hHeld
          have hHeld := hHeld1
          clear hHeld1
          obtain ⟨dd, hdd⟩ : ∃ dd, ds[z.toNat]? = some dd := by
            have hx := hdl.out
            exact ⟨ds[z.toNat], by simp⟩
          refine takeAt (i := 7) (d := 40) (v := ?_) rfl (by kernel_rfl) (by kernel_rfl) (by kernel_rfl) (by kernel_rfl) (fun _ _ _ h => h) (Or.inl ⟨by kernel_rfl, ?_⟩) hHeld ?_
          rotate_left
          · (intro w hSw; (try dsimp only at hSw); have hS1 := hSw.1; clear hSw; simp only [Box] at hS1; go_simp; try with_reducible rfl)
          simp only [Act.put, List.setIfInBounds_toArray, List.set_cons_zero, List.set_cons_succ]
          refine takeAt (i := 8) (d := 41) (v := ?_) rfl (by kernel_rfl) (by kernel_rfl) (by kernel_rfl) (by kernel_rfl) (fun _ _ _ h => h) (Or.inl ⟨by kernel_rfl, ?_⟩) hHeld ?_
          rotate_left
          · (intro w hSw; (try dsimp only at hSw); obtain ⟨c0, c1, c2, c3⟩ := hSw.2 _ _ hdd; clear hSw; simp only [Nat.zero_add] at c0 c1 c2 c3; go_simp; try with_reducible rfl)
          simp only [Act.put, List.setIfInBounds_toArray, List.set_cons_zero, List.set_cons_succ]
          refine wpAnyH_ready (rs := [10]) (by kernel_rfl) (by simp) (AllReadyH.cons rfl (fun K hK => ?_) (AllReadyH.nil))
          obtain ⟨⟨bd1, bd2⟩, bd3⟩ := id bd
          go_simp
          have bd := bd.set4 (.int .i64 dd.k) (.int .i64 dd.o) (.int .i64 dd.i) (.int .i64 dd.p)
          have HB := ap_new4 HB hld (.int .i64 dd.k) (.int .i64 dd.o) (.int .i64 dd.i) (.int .i64 dd.p)
          have HR := HR.set4 (Nat.lt_of_lt_of_le (show R < wd.heap.size by omega) hld) (.int .i64 dd.k) (.int .i64 dd.o) (.int .i64 dd.i) (.int .i64 dd.p)
          refine hK.out _ _ ?_ (fun hHeld1 => ?_)
          · exact ⟨bb.1.apart HB (by omega), hDc.apart HB hg1 (by omega)⟩
          clear hK K hHeld
          have hHeld := hHeld1
          clear hHeld1
          refine wpAnyH_done (by kernel_rfl) ?_ _
          have bx := bx.apart HB (by omega)
          have bh := bh.apart HB (by omega)
          have HX := ap_trans HX HB
          clear bb HRc hDc hdd
          have bb := hHeld.1
          have HRc := HR
          clear HR HB hHeld
          obtain ⟨⟨r1, r2⟩, r3⟩ := id bx
          obtain ⟨⟨p1, p2⟩, p3⟩ := id bh
          obtain ⟨s1, s2⟩ := id bb
          obtain ⟨⟨u1, u2⟩, u3⟩ := id bd
          go_wp2_with fail
          have hbv := (bx.other (m := h) (j := 0) (by omega) (.int .i64 dd.k)).other (m := h) (j := 4) (by omega) (.int .i64 dd.o) |>.set5 (.int .i64 dd.k) (.int .i64 a) (.int .i64 ap) (.int .i64 b) (.int .i64 dd.o)
          obtain ⟨⟨t1, t2⟩, t3⟩ := id hbv
          refine bodyPost_ret (v := .agg #[.int .i64 dd.k, .int .i64 a, .int .i64 ap, .int .i64 b, .int .i64 dd.o]) (by simp [results, Try.results23, go_sem, t2]) rfl ⟨⟨_, _, _, _, _, rfl⟩, ?_, ?_⟩
          · exact ap_new5 (ap_new (ap_new HX (by omega) _) (by omega) _) (by omega) (.int .i64 dd.k) (.int .i64 a) (.int .i64 ap) (.int .i64 b) (.int .i64 dd.o)
          · exact (((HRc.set (m := h) (j := 0) (by omega) (.int .i64 dd.k)).set (m := h) (j := 4) (by omega) (.int .i64 dd.o)).set5 (by omega) (.int .i64 dd.k) (.int .i64 a) (.int .i64 ap) (.int .i64 b) (.int .i64 dd.o)).le (by omega)
      · have hy' : (y == 0) = false := by simpa using hy
        obtain ⟨⟨r1, r2⟩, r3⟩ := id bx
        obtain ⟨⟨p1, p2⟩, p3⟩ := id bh
        obtain ⟨⟨s1, s2⟩, s3⟩ := id bb
        go_wp2_with fail
        have hbv := bx.set5 (.int .i64 k) (.int .i64 a) (.int .i64 ap) (.int .i64 b) (.int .i64 bp)
        obtain ⟨⟨t1, t2⟩, t3⟩ := id hbv
        refine bodyPost_ret (v := .agg #[.int .i64 k, .int .i64 a, .int .i64 ap, .int .i64 b, .int .i64 bp]) (by simp [results, Try.results23, go_sem, t2]) rfl ⟨⟨_, _, _, _, _, rfl⟩, ?_, ?_⟩
        · exact ap_new5 HX (by omega) (.int .i64 k) (.int .i64 a) (.int .i64 ap) (.int .i64 b) (.int .i64 bp)
        · exact (HRc.set5 (by omega) (.int .i64 k) (.int .i64 a) (.int .i64 ap) (.int .i64 b) (.int .i64 bp)).le (by omega)
end Go.Proofs.Ytcgjpmhjijmplaa
