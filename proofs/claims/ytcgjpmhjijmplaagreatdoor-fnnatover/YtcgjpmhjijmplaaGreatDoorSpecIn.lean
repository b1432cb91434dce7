/- The specification's NatIn at every book and flow, walked. -/
import Derived.Test.YtcgjpmhjijmplaaGreatDoorJoinG
namespace Go.Proofs.YtcgjpmhjijmplaaGreatDoor
open Go.ChangeShapes Go.WideShapes Go.ChangeAt Go.RowKit Go.Maps

theorem l3To_ret (k a ap b bp : Int) (x y : Int) (w : World) : Calls Tryz.prog 64 #[.agg #[.int .i64 k, .int .i64 a, .int .i64 ap, .int .i64 b, .int .i64 bp], .int .i64 x, .int .i64 y] w fun e w' => e = .returned (.agg #[.int .i64 k, .int .i64 a, .int .i64 ap, .int .i64 x, .int .i64 y]) ∧ Below w.heap.size w w' := by
  go_enter Tryz.func64, Tryz.ntmps64
  go_wp2
  refine bodyPost_ret (v := .agg #[.int .i64 k, .int .i64 a, .int .i64 ap, .int .i64 x, .int .i64 y]) (by simp [results, Tryz.results64, go_sem]) rfl ⟨rfl, ?_⟩
  repeat (first | exact bl_refl _ | apply bl_alloc | refine bl_set ?_ (by simp) _)
theorem specFlow_v (k a ap b bp : Int) (r : Bool) (w : World) (hr : flowB k a ap b bp = r) : Calls Tryz.prog 51 #[.agg #[.int .i64 k, .int .i64 a, .int .i64 ap, .int .i64 b, .int .i64 bp]] w fun e w' => e = .returned (.bool r) ∧ Below w.heap.size w w' := by
  subst hr; exact specFlowOk_ret k a ap b bp w
theorem l2Live_v (ad ln ow lo hi nw : Int) (da : Option Addr) (dn dc : Nat) (ea : Option Addr) (en ec : Nat) (d : En) (r : Bool) (w : World) (n0 : 0 ≤ nw) (n1 : nw ≤ 1000000) (q0 : 0 ≤ d.l) (q1 : d.l ≤ nw) (hr : liveB nw d.l = r) : Calls Tryz.prog 65 #[.agg #[.int .i64 ad, .int .i64 ln, .int .i64 ow, .int .i64 lo, .int .i64 hi, .slice da dn dc, .int .i64 nw, .slice ea en ec], .agg #[.int .i64 d.k, .int .i64 d.pr, .int .i64 d.pp, .int .i64 d.o, .int .i64 d.i, .int .i64 d.ip, .int .i64 d.l]] w fun e w' => e = .returned (.bool r) ∧ Below w.heap.size w w' := by
  subst hr; exact l2Live_ret ad ln ow lo hi nw da dn dc ea en ec d.k d.pr d.pp d.o d.i d.ip d.l w n0 n1 q0 q1
theorem dr_other5 {w : World} {g o : Nat} {ds : List Dr} (h : DrCells w g o ds) {n : Nat} (hn : g ≠ n) (a b c d e : Value) : DrCells (((((w.setCell ⟨n, 0, none⟩ a).setCell ⟨n, 1, none⟩ b).setCell ⟨n, 2, none⟩ c).setCell ⟨n, 3, none⟩ d).setCell ⟨n, 4, none⟩ e) g o ds := by
  have hc : ∀ (W : World) j v p, (W.setCell ⟨n, j, none⟩ v).cell? ⟨g, p, none⟩ = W.cell? ⟨g, p, none⟩ := fun W j v p => World.cell?_setCell_other _ _ _ _ (fun e => hn (by injection e with e1; exact e1.symm))
  intro i x hi
  obtain ⟨c0, c1, c2, c3⟩ := h i x hi
  refine ⟨?_, ?_, ?_, ?_⟩ <;> (rw [hc, hc, hc, hc, hc]; assumption)
theorem takesE_own {nw ow k a ap b bp : Int} (hb : b = ow) (d : En) : takesE nw ow k a ap b bp d = (liveB nw d.l && (d.k == k && (d.pr == a && (d.pp == ap && d.o == bp)))) := by
  subst hb
  unfold takesE flowEq
  cases liveB nw d.l <;> cases (d.k == k) <;> cases (d.o == bp) <;> cases (d.pr == a) <;> cases (d.pp == ap) <;> simp
theorem comes_no1 {ad ln ow a b : Int} (h : insB ad ln a = true) : comesB ad ln ow a b = false := by simp [comesB, peerB, h]
theorem comes_no2 {ad ln ow a b : Int} (h : (a == ow) = true) : comesB ad ln ow a b = false := by simp [comesB, peerB, h]
theorem comes_no3 {ad ln ow a b : Int} (h : (b != ow) = true) : comesB ad ln ow a b = false := by
  have : (b == ow) = false := by simpa [bne] using h
  simp [comesB, this]
theorem comes_yes {ad ln ow a b : Int} (h : (b != ow) = false) (h1 : insB ad ln a = false) (h2 : (a == ow) = false) : comesB ad ln ow a b = true := by
  have : (b == ow) = true := by simpa [bne] using h
  simp [comesB, peerB, this, h1, h2]
theorem inCode_three {ad ln ow lo hi nw : Int} {ds : List Dr} {es : List En} {k a ap b bp : Int} (hk : bookB ad ln ow lo hi nw ds es = true) (hf : flowB k a ap b bp = true) (hc : comesB ad ln ow a b = false) : inCode ad ln ow lo hi nw ds es k a ap b bp = 3 := by simp [inCode, mayIn, hk, hf, hc]
theorem mayIn_zero {ad ln ow lo hi nw : Int} {ds : List Dr} {es : List En} {k a ap b bp : Int} (hk : bookB ad ln ow lo hi nw ds es = true) (hf : flowB k a ap b bp = true) (hc : comesB ad ln ow a b = true) : mayIn ad ln ow lo hi nw ds es k a ap b bp = 0 := by simp [mayIn, hk, hf, hc]
theorem inTold_no {ad ln ow lo hi nw : Int} {ds : List Dr} {es : List En} {k a ap b bp c : Int} (h : inCode ad ln ow lo hi nw ds es k a ap b bp = c) (hc : c ≠ 0) : inTold ad ln ow lo hi nw ds es k a ap b bp = .agg #[.int .i64 0, .int .i64 0, .int .i64 0, .int .i64 0, .int .i64 0] := by
  simp [inTold, h, hc]
theorem inTold_yes {ad ln ow lo hi nw : Int} {ds : List Dr} {es : List En} {k a ap b bp : Int} {x y z : Int} (hm : mayIn ad ln ow lo hi nw ds es k a ap b bp = 0) (hr : recvO nw ow ds es k a ap b bp = some (x, y, z)) :
    inTold ad ln ow lo hi nw ds es k a ap b bp = .agg #[.int .i64 k, .int .i64 a, .int .i64 ap, .int .i64 y, .int .i64 z] ∧ inCode ad ln ow lo hi nw ds es k a ap b bp = 0 := by
  have hc : inCode ad ln ow lo hi nw ds es k a ap b bp = 0 := by simp [inCode, hm, hr]
  exact ⟨by simp [inTold, hc, inSeat, hm, hr], hc⟩
theorem inCode_six {ad ln ow lo hi nw : Int} {ds : List Dr} {es : List En} {k a ap b bp : Int} (hm : mayIn ad ln ow lo hi nw ds es k a ap b bp = 0) (hr : recvO nw ow ds es k a ap b bp = none) : inCode ad ln ow lo hi nw ds es k a ap b bp = 6 := by
  simp [inCode, hm, hr]

set_option maxRecDepth 20000 in
set_option maxHeartbeats 4000000 in
theorem specIn_ret (ad ln ow lo hi nw : Int) (da : Option Addr) (dn dc : Nat) (ea : Option Addr) (en ec : Nat) (k a ap b bp : Int) (ds : List Dr) (es : List En) (w : World) (hD : DoorsAt w da dn ds) (hE : EntriesAt w ea en es) :
    Calls Tryz.prog 25 #[.agg #[.int .i64 ad, .int .i64 ln, .int .i64 ow, .int .i64 lo, .int .i64 hi, .slice da dn dc, .int .i64 nw, .slice ea en ec], .agg #[.int .i64 k, .int .i64 a, .int .i64 ap, .int .i64 b, .int .i64 bp]] w fun e w' => e = .returned (.tuple #[inTold ad ln ow lo hi nw ds es k a ap b bp, .int .i64 (inCode ad ln ow lo hi nw ds es k a ap b bp)]) ∧ Below w.heap.size w w' := by
  obtain ⟨rfl, hD⟩ := hD
  obtain ⟨rfl, hE⟩ := hE
  have hD0 : DoorsAt w da ds.length ds := ⟨rfl, hD⟩
  have hE0 : EntriesAt w ea es.length es := ⟨rfl, hE⟩
  have hb0 := bl_alloc (bl_alloc (bl_alloc (bl_refl w) (.cells #[.int .i64 ad, .int .i64 ln, .int .i64 ow, .int .i64 lo, .int .i64 hi, .slice da ds.length dc, .int .i64 nw, .slice ea es.length ec] 26)) (.cells #[.int .i64 k, .int .i64 a, .int .i64 ap, .int .i64 b, .int .i64 bp] 32)) (.cells #[.int .i64 0, .int .i64 0, .int .i64 0, .int .i64 0, .int .i64 0] 32)
  have x1 := ((Box.new w #[.int .i64 ad, .int .i64 ln, .int .i64 ow, .int .i64 lo, .int .i64 hi, .slice da ds.length dc, .int .i64 nw, .slice ea es.length ec] 26).below (bl_alloc (bl_refl _) (.cells #[.int .i64 k, .int .i64 a, .int .i64 ap, .int .i64 b, .int .i64 bp] 32))).below (bl_alloc (bl_refl _) (.cells #[.int .i64 0, .int .i64 0, .int .i64 0, .int .i64 0, .int .i64 0] 32))
  have x2 := (Box.new (w.alloc (.cells #[.int .i64 ad, .int .i64 ln, .int .i64 ow, .int .i64 lo, .int .i64 hi, .slice da ds.length dc, .int .i64 nw, .slice ea es.length ec] 26)) #[.int .i64 k, .int .i64 a, .int .i64 ap, .int .i64 b, .int .i64 bp] 32).below (bl_alloc (bl_refl _) (.cells #[.int .i64 0, .int .i64 0, .int .i64 0, .int .i64 0, .int .i64 0] 32))
  have bx := Bx.new ((w.alloc (.cells #[.int .i64 ad, .int .i64 ln, .int .i64 ow, .int .i64 lo, .int .i64 hi, .slice da ds.length dc, .int .i64 nw, .slice ea es.length ec] 26)).alloc (.cells #[.int .i64 k, .int .i64 a, .int .i64 ap, .int .i64 b, .int .i64 bp] 32)) #[.int .i64 0, .int .i64 0, .int .i64 0, .int .i64 0, .int .i64 0] 32
  simp only [World.size_alloc] at x2 bx
  have H1 : Hid (Calls Tryz.prog _ _ _ _) := specBookOk_ret ad ln ow lo hi nw da ds.length dc ea es.length ec ds es _ (hD0.below hb0) (hE0.below hb0)
  generalize hTV : inTold ad ln ow lo hi nw ds es k a ap b bp = TV
  generalize hCV : inCode ad ln ow lo hi nw ds es k a ap b bp = CV
  have hTV : Hid (inTold ad ln ow lo hi nw ds es k a ap b bp = TV) := hTV
  have hCV : Hid (inCode ad ln ow lo hi nw ds es k a ap b bp = CV) := hCV
  by_cases hk : bookB ad ln ow lo hi nw ds es = true
  · have hfr : frameB ad ln ow lo hi nw = true := by simp [bookB] at hk; exact hk.1.1
    obtain ⟨⟨l0, l1⟩, ⟨a0, a1⟩, _, _, _⟩ := frameB_true hfr
    obtain ⟨⟨n0, n1⟩, hd6, he16, hla⟩ := book_parts hk
    have hla : Hid (∀ (i : Nat) d, es[i]? = some d → 0 ≤ d.l ∧ d.l ≤ nw) := hla
    go_enter Tryz.func25, Tryz.ntmps25
    go_wp2_with fail
    refine H1.out.mono ?_
    rintro e w1 ⟨rfl, hb1⟩
    have hB1 := bl_trans hb0 hb1
    replace x1 := x1.below hb1
    replace x2 := x2.below hb1
    replace bx := bx.below hb1
    have y2 := x2.2
    clear hb0 hb1 H1
    by_cases hf : flowB k a ap b bp = true
    · go_wp2_with fail
      refine (specFlow_v k a ap b bp true _ hf).mono ?_
      rintro e w2 ⟨rfl, hb2⟩
      have hB2 := bl_trans hB1 hb2
      replace x1 := x1.below hb2
      replace x2 := x2.below hb2
      replace bx := bx.below hb2
      clear y2 hb2 hB1
      have y1 := x1.2
      have y2 := x2.2
      by_cases hbo0 : b = ow
      · have hq1 : (b != ow) = false := by simp [hbo0]
        have hbo : Hid (b = ow) := hbo0
        clear hbo0
        by_cases hin : insB ad ln a = true
        · go_wp2_with fail
          refine (l2Inside_ret _ _ _ _ _ _ _ _ _ _ _ _ _ _ l0 l1 a0 a1).mono ?_
          rintro e w3 ⟨rfl, hb3⟩
          have hB3 := bl_trans hB2 hb3
          replace bx := bx.below hb3
          have hcd : inCode ad ln ow lo hi nw ds es k a ap b bp = 3 := inCode_three hk hf (comes_no1 hin)
          obtain ⟨⟨q1, q2⟩, q3⟩ := id bx
          go_wp2_with fail
          have hbv := bx.set5 (.int .i64 0) (.int .i64 0) (.int .i64 0) (.int .i64 0) (.int .i64 0)
          obtain ⟨⟨t1, t2⟩, t3⟩ := id hbv
          exact bodyPost_ret (v := .tuple #[.agg #[.int .i64 0, .int .i64 0, .int .i64 0, .int .i64 0, .int .i64 0], .int .i64 3]) (by simp [results, Tryz.results25, go_sem, t2]) rfl ⟨by rw [← hTV.out, ← hCV.out, hcd, inTold_no hcd (by omega)], bl_set5 hB3 (by omega) (.int .i64 0) (.int .i64 0) (.int .i64 0) (.int .i64 0) (.int .i64 0)⟩
        · have hin' : insB ad ln a = false := by simpa using hin
          by_cases hao : a = ow
          · have hq2 : (a == ow) = true := by simpa using hao
            clear hao
            go_wp2_with fail
            refine (l2Inside_ret _ _ _ _ _ _ _ _ _ _ _ _ _ _ l0 l1 a0 a1).mono ?_
            rintro e w3 ⟨rfl, hb3⟩
            have hB3 := bl_trans hB2 hb3
            have y1 := (x1.below hb3).2
            have y2 := (x2.below hb3).2
            replace bx := bx.below hb3
            have hcd : inCode ad ln ow lo hi nw ds es k a ap b bp = 3 := inCode_three hk hf (comes_no2 hq2)
            obtain ⟨⟨q1, q2⟩, q3⟩ := id bx
            go_wp2_with fail
            have hbv := bx.set5 (.int .i64 0) (.int .i64 0) (.int .i64 0) (.int .i64 0) (.int .i64 0)
            obtain ⟨⟨t1, t2⟩, t3⟩ := id hbv
            exact bodyPost_ret (v := .tuple #[.agg #[.int .i64 0, .int .i64 0, .int .i64 0, .int .i64 0, .int .i64 0], .int .i64 3]) (by simp [results, Tryz.results25, go_sem, t2]) rfl ⟨by rw [← hTV.out, ← hCV.out, hcd, inTold_no hcd (by omega)], bl_set5 hB3 (by omega) (.int .i64 0) (.int .i64 0) (.int .i64 0) (.int .i64 0) (.int .i64 0)⟩
          · have hq2 : (a == ow) = false := by simpa using hao
            have hmay : mayIn ad ln ow lo hi nw ds es k a ap b bp = 0 := mayIn_zero hk hf (comes_yes hq1 hin' hq2)
            go_wp2_with fail
            refine (l2Inside_ret _ _ _ _ _ _ _ _ _ _ _ _ _ _ l0 l1 a0 a1).mono ?_
            rintro e w3 ⟨rfl, hb3⟩
            have hB3 := bl_trans hB2 hb3
            replace x1 := x1.below hb3
            replace x2 := x2.below hb3
            replace bx := bx.below hb3
            clear y1 y2 hb3 hB2
            have y1 := x1.2
            have y2 := x2.2
            go_wp2_with fail
            clear y1 y2
            go_loopg [6] ds.length (fun g i wr => ∃ n : Nat, g = ds.length - n ∧ n ≤ ds.length ∧ i = .int .i64 n ∧ (∀ j d, j < n → ds[j]? = some d → takesD k bp d = false) ∧ Below w.heap.size w wr ∧ Below w3.heap.size w3 wr)
            case atStart => exact ⟨0, by omega, by omega, rfl, fun _ _ h => absurd h (by omega), hB3, bl_refl _⟩
            case round =>
              obtain ⟨n, hgn, hn, rfl, HD, hB, hC⟩ := hrel
              have HD : Hid (∀ j d, j < n → ds[j]? = some d → takesD k bp d = false) := HD
              replace x1 := x1.below hC
              replace x2 := x2.below hC
              replace bx := bx.below hC
              have y1 := x1.2
              have y2 := x2.2
              have hn16 : n ≤ 6 := by omega
              by_cases hlt : n < ds.length
              · rcases hD with rfl | ⟨g, o, rfl, hgl, hcs⟩
                · simp at hlt
                · obtain ⟨d, hd⟩ : ∃ d, ds[n]? = some d := ⟨ds[n], by simp [hlt]⟩
                  have hcs := hcs.below hB hgl
                  have hgw : g < w.heap.size := hgl
                  have hgl : g < wr.heap.size := by have := hB.size; omega
                  obtain ⟨c0, c1, c2, c3⟩ := hcs n d hd
                  have hd : Hid (ds[n]? = some d) := hd
                  have hlt' : (n : Int) < (ds.length : Int) := by omega
                  by_cases h1 : d.k = k
                  · have e1 : (d.k == k) = true := by simpa using h1
                    clear h1
                    by_cases h2 : d.o = bp
                    · have e2 : (d.o == bp) = true := by simpa using h2
                      clear h2
                      have hrv := recv_door (nw := nw) (ow := ow) (es := es) (a := a) (ap := ap) (b := b) (find_at hd.out (show takesD k bp d = true by simp [takesD, e1, e2]) (fun j y hj hy => HD.out j y hj hy))
                      have hpr := inTold_yes hmay hrv
                      have hpr : Hid (_ ∧ _) := hpr
                      go_wp2_with fail
                      go_quiet (fail)
                      go_wp2_with fail
                      refine wp_region_held_drew (S := (fun w' => Box w' w.heap.size #[.int .i64 ad, .int .i64 ln, .int .i64 ow, .int .i64 lo, .int .i64 hi, .slice (some ⟨g, o, none⟩) ds.length dc, .int .i64 nw, .slice ea es.length ec] ∧ Box w' (w.heap.size + 1) #[.int .i64 k, .int .i64 a, .int .i64 ap, .int .i64 b, .int .i64 bp] ∧ DrCells w' g o ds)) (by kernel_rfl) ?_ (fun hHeld => ?_)
                      · exact ⟨x1.below (bl_drew (bl_draws (bl_refl _) _)), x2.below (bl_drew (bl_draws (bl_refl _) _)), hcs.below (bl_drew (bl_draws (bl_refl _) _)) hgl⟩
                      have hlq := bl_drew (bl_draws (bl_refl wr) nq)
                      have hB := bl_trans hB hlq
                      have x1 := x1.below hlq
                      have x2 := x2.below hlq
                      have bx := bx.below hlq
                      have hcs := hcs.below hlq hgl
                      have hgl : g < (wr.drewN nq).drew.heap.size := hgl
                      clear hlq
                      generalize (wr.drewN nq).drew = W0 at x1 x2 bx hcs hgl hB hHeld ⊢
                      refine takeAt (i := 0) (d := 63) (v := ?_) rfl (by kernel_rfl) (by kernel_rfl) (by kernel_rfl) (by kernel_rfl) (fun _ _ _ h => h) (Or.inl ⟨by kernel_rfl, ?_⟩) hHeld ?_
                      rotate_left
                      · (intro w hSw; (try dsimp only at hSw); obtain ⟨hS1, hS2, hS3⟩ := hSw; obtain ⟨c0, c1, c2, c3⟩ := hS3 _ _ hd.out; simp only [Box] at hS1 hS2; go_simp; try with_reducible rfl)
                      simp only [Act.put, List.setIfInBounds_toArray, List.set_cons_zero, List.set_cons_succ]
                      refine takeAt (i := 1) (d := 64) (v := ?_) rfl (by kernel_rfl) (by kernel_rfl) (by kernel_rfl) (by kernel_rfl) (fun _ _ _ h => h) (Or.inl ⟨by kernel_rfl, ?_⟩) hHeld ?_
                      rotate_left
                      · (intro w hSw; (try dsimp only at hSw); obtain ⟨hS1, hS2, hS3⟩ := hSw; obtain ⟨c0, c1, c2, c3⟩ := hS3 _ _ hd.out; simp only [Box] at hS1 hS2; go_simp; try with_reducible rfl)
                      simp only [Act.put, List.setIfInBounds_toArray, List.set_cons_zero, List.set_cons_succ]
                      refine takeAt (i := 2) (d := 65) (v := ?_) rfl (by kernel_rfl) (by kernel_rfl) (by kernel_rfl) (by kernel_rfl) (fun _ _ _ h => h) (Or.inl ⟨by kernel_rfl, ?_⟩) hHeld ?_
                      rotate_left
                      · (intro w hSw; (try dsimp only at hSw); obtain ⟨hS1, hS2, hS3⟩ := hSw; obtain ⟨c0, c1, c2, c3⟩ := hS3 _ _ hd.out; simp only [Box] at hS1 hS2; go_simp; try with_reducible rfl)
                      simp only [Act.put, List.setIfInBounds_toArray, List.set_cons_zero, List.set_cons_succ]
                      refine takeAt (i := 3) (d := 66) (v := ?_) rfl (by kernel_rfl) (by kernel_rfl) (by kernel_rfl) (by kernel_rfl) (fun _ _ _ h => h) (Or.inl ⟨by kernel_rfl, ?_⟩) hHeld ?_
                      rotate_left
                      · (intro w hSw; (try dsimp only at hSw); obtain ⟨hS1, hS2, hS3⟩ := hSw; obtain ⟨c0, c1, c2, c3⟩ := hS3 _ _ hd.out; simp only [Box] at hS1 hS2; go_simp; try with_reducible rfl)
                      simp only [Act.put, List.setIfInBounds_toArray, List.set_cons_zero, List.set_cons_succ]
                      refine takeAt (i := 4) (d := 67) (v := ?_) rfl (by kernel_rfl) (by kernel_rfl) (by kernel_rfl) (by kernel_rfl) (fun _ _ _ h => h) (Or.inl ⟨by kernel_rfl, ?_⟩) hHeld ?_
                      rotate_left
                      · (intro w hSw; (try dsimp only at hSw); obtain ⟨hS1, hS2, hS3⟩ := hSw; obtain ⟨c0, c1, c2, c3⟩ := hS3 _ _ hd.out; simp only [Box] at hS1 hS2; go_simp; try with_reducible rfl)
                      simp only [Act.put, List.setIfInBounds_toArray, List.set_cons_zero, List.set_cons_succ]
                      refine takeAt (i := 5) (d := 68) (v := ?_) rfl (by kernel_rfl) (by kernel_rfl) (by kernel_rfl) (by kernel_rfl) (fun _ _ _ h => h) (Or.inl ⟨by kernel_rfl, ?_⟩) hHeld ?_
                      rotate_left
                      · (intro w hSw; (try dsimp only at hSw); obtain ⟨hS1, hS2, hS3⟩ := hSw; obtain ⟨c0, c1, c2, c3⟩ := hS3 _ _ hd.out; simp only [Box] at hS1 hS2; go_simp; try with_reducible rfl)
                      simp only [Act.put, List.setIfInBounds_toArray, List.set_cons_zero, List.set_cons_succ]
                      refine takeAt (i := 6) (d := 69) (v := ?_) rfl (by kernel_rfl) (by kernel_rfl) (by kernel_rfl) (by kernel_rfl) (fun _ _ _ h => h) (Or.inl ⟨by kernel_rfl, ?_⟩) hHeld ?_
                      rotate_left
                      · (intro w hSw; (try dsimp only at hSw); obtain ⟨hS1, hS2, hS3⟩ := hSw; obtain ⟨c0, c1, c2, c3⟩ := hS3 _ _ hd.out; simp only [Box] at hS1 hS2; go_simp; try with_reducible rfl)
                      simp only [Act.put, List.setIfInBounds_toArray, List.set_cons_zero, List.set_cons_succ]
                      refine takeAt (i := 7) (d := 70) (v := ?_) rfl (by kernel_rfl) (by kernel_rfl) (by kernel_rfl) (by kernel_rfl) (fun _ _ _ h => h) (Or.inl ⟨by kernel_rfl, ?_⟩) hHeld ?_
                      rotate_left
                      · (intro w hSw; (try dsimp only at hSw); obtain ⟨hS1, hS2, hS3⟩ := hSw; obtain ⟨c0, c1, c2, c3⟩ := hS3 _ _ hd.out; simp only [Box] at hS1 hS2; go_simp; try with_reducible rfl)
                      simp only [Act.put, List.setIfInBounds_toArray, List.set_cons_zero, List.set_cons_succ]
                      refine takeAt (i := 8) (d := 71) (v := ?_) rfl (by kernel_rfl) (by kernel_rfl) (by kernel_rfl) (by kernel_rfl) (fun _ _ _ h => h) (Or.inl ⟨by kernel_rfl, ?_⟩) hHeld ?_
                      rotate_left
                      · (intro w hSw; (try dsimp only at hSw); obtain ⟨hS1, hS2, hS3⟩ := hSw; obtain ⟨c0, c1, c2, c3⟩ := hS3 _ _ hd.out; simp only [Box] at hS1 hS2; go_simp; try with_reducible rfl)
                      simp only [Act.put, List.setIfInBounds_toArray, List.set_cons_zero, List.set_cons_succ]
                      refine takeAt (i := 9) (d := 72) (v := ?_) rfl (by kernel_rfl) (by kernel_rfl) (by kernel_rfl) (by kernel_rfl) (fun _ _ _ h => h) (Or.inl ⟨by kernel_rfl, ?_⟩) hHeld ?_
                      rotate_left
                      · (intro w hSw; (try dsimp only at hSw); obtain ⟨hS1, hS2, hS3⟩ := hSw; obtain ⟨c0, c1, c2, c3⟩ := hS3 _ _ hd.out; simp only [Box] at hS1 hS2; go_simp; try with_reducible rfl)
                      simp only [Act.put, List.setIfInBounds_toArray, List.set_cons_zero, List.set_cons_succ]
                      refine takeAt (i := 10) (d := 73) (v := ?_) rfl (by kernel_rfl) (by kernel_rfl) (by kernel_rfl) (by kernel_rfl) (fun _ _ _ h => h) (Or.inl ⟨by kernel_rfl, ?_⟩) hHeld ?_
                      rotate_left
                      · (intro w hSw; (try dsimp only at hSw); obtain ⟨hS1, hS2, hS3⟩ := hSw; obtain ⟨c0, c1, c2, c3⟩ := hS3 _ _ hd.out; simp only [Box] at hS1 hS2; go_simp; try with_reducible rfl)
                      simp only [Act.put, List.setIfInBounds_toArray, List.set_cons_zero, List.set_cons_succ]
                      refine takeAt (i := 11) (d := 74) (v := ?_) rfl (by kernel_rfl) (by kernel_rfl) (by kernel_rfl) (by kernel_rfl) (fun _ _ _ h => h) (Or.inl ⟨by kernel_rfl, ?_⟩) hHeld ?_
                      rotate_left
                      · (intro w hSw; (try dsimp only at hSw); obtain ⟨hS1, hS2, hS3⟩ := hSw; obtain ⟨c0, c1, c2, c3⟩ := hS3 _ _ hd.out; simp only [Box] at hS1 hS2; go_simp; try with_reducible rfl)
                      simp only [Act.put, List.setIfInBounds_toArray, List.set_cons_zero, List.set_cons_succ]
                      refine takeAt (i := 12) (d := 75) (v := ?_) rfl (by kernel_rfl) (by kernel_rfl) (by kernel_rfl) (by kernel_rfl) (fun _ _ _ h => h) (Or.inl ⟨by kernel_rfl, ?_⟩) hHeld ?_
                      rotate_left
                      · (intro w hSw; (try dsimp only at hSw); obtain ⟨hS1, hS2, hS3⟩ := hSw; obtain ⟨c0, c1, c2, c3⟩ := hS3 _ _ hd.out; simp only [Box] at hS1 hS2; go_simp; try with_reducible rfl)
                      simp only [Act.put, List.setIfInBounds_toArray, List.set_cons_zero, List.set_cons_succ]
                      refine wpAnyH_ready (rs := [13]) (by kernel_rfl) (by simp) (AllReadyH.cons rfl (fun K hK => ?_) (AllReadyH.nil))
                      refine step_callg 76 64 rfl (by kernel_rfl) (l3To_ret k a ap b bp d.i d.p _) (by kernel_rfl) ?_
                      rintro e w4 ⟨rfl, hb4⟩
                      refine ⟨_, rfl, ?_⟩
                      simp only [Act.put, List.setIfInBounds_toArray, List.set_cons_zero, List.set_cons_succ]
                      have hB := bl_trans hB hb4
                      have x1 := x1.below hb4
                      have x2 := x2.below hb4
                      have bx := bx.below hb4
                      have hcs := hcs.below hb4 hgl
                      clear hb4
                      refine hK.out _ _ ?_ (fun hHeld1 => ?_)
                      · exact ⟨x1, x2, hcs⟩
                      clear hK K hHeld
                      have hHeld := hHeld1
                      clear hHeld1
                      refine wpAnyH_ready (rs := [14]) (by kernel_rfl) (by simp) (AllReadyH.cons rfl (fun K hK => ?_) (AllReadyH.nil))
                      obtain ⟨⟨q1, q2⟩, q3⟩ := id bx
                      go_simp
                      have bx := bx.set5 (.int .i64 k) (.int .i64 a) (.int .i64 ap) (.int .i64 d.i) (.int .i64 d.p)
                      have hB := bl_set5 hB (n := w.heap.size + 1 + 1) (by omega) (.int .i64 k) (.int .i64 a) (.int .i64 ap) (.int .i64 d.i) (.int .i64 d.p)
                      have hS0 : Box _ _ _ ∧ Box _ _ _ ∧ DrCells _ _ _ _ := ⟨x1.other5 (n := w.heap.size + 1 + 1) (by omega) (.int .i64 k) (.int .i64 a) (.int .i64 ap) (.int .i64 d.i) (.int .i64 d.p), x2.other5 (n := w.heap.size + 1 + 1) (by omega) (.int .i64 k) (.int .i64 a) (.int .i64 ap) (.int .i64 d.i) (.int .i64 d.p), dr_other5 hcs (n := w.heap.size + 1 + 1) (by omega) (.int .i64 k) (.int .i64 a) (.int .i64 ap) (.int .i64 d.i) (.int .i64 d.p)⟩
                      refine hK.out _ _ ?_ (fun hHeld1 => ?_)
                      · exact hS0
                      clear hK K hHeld
                      have hHeld := hHeld1
                      clear hHeld1
                      refine takeAt (i := 15) (d := 5) (v := ?_) rfl (by kernel_rfl) (by kernel_rfl) (by kernel_rfl) (by kernel_rfl) (fun _ _ _ h => h) (Or.inl ⟨by kernel_rfl, ?_⟩) hHeld ?_
                      rotate_left
                      · (intro w hSw; (try dsimp only at hSw); obtain ⟨hS1, hS2, hS3⟩ := hSw; obtain ⟨c0, c1, c2, c3⟩ := hS3 _ _ hd.out; simp only [Box] at hS1 hS2; go_simp; try with_reducible rfl)
                      simp only [Act.put, List.setIfInBounds_toArray, List.set_cons_zero, List.set_cons_succ]
                      refine wpAnyH_done (by kernel_rfl) ?_ _
                      obtain ⟨⟨t1, t2⟩, t3⟩ := id bx
                      go_wp2_with fail
                      exact bodyPost_ret (v := .tuple #[.agg #[.int .i64 k, .int .i64 a, .int .i64 ap, .int .i64 d.i, .int .i64 d.p], .int .i64 0]) (by simp [results, Tryz.results25, go_sem, t2]) rfl ⟨by rw [← hTV.out, ← hCV.out, hpr.out.1, hpr.out.2], hB⟩
                    · have e2 : (d.o == bp) = false := by simpa using h2
                      have hno : takesD k bp d = false := by simp [takesD, e2]
                      go_wp2_with fail
                      go_quiet (fail)
                      go_wp2_with fail
                      go_roundg (ds.length - (n + 1))
                      case measure => omega
                      case rel => exact ⟨n + 1, rfl, by omega, by go_num, fun j y hj hy => (by rcases Nat.lt_or_ge j n with h | h; exact HD.out j y h hy; have : j = n := (by omega); subst this; rw [some_one hy hd.out]; exact hno), bl_draws hB _, bl_draws hC _⟩
                  · have e1 : (d.k == k) = false := by simpa using h1
                    have hno : takesD k bp d = false := by simp [takesD, e1]
                    go_wp2_with fail
                    go_quiet (fail)
                    go_wp2_with fail
                    go_roundg (ds.length - (n + 1))
                    case measure => omega
                    case rel => exact ⟨n + 1, rfl, by omega, by go_num, fun j y hj hy => (by rcases Nat.lt_or_ge j n with h | h; exact HD.out j y h hy; have : j = n := (by omega); subst this; rw [some_one hy hd.out]; exact hno), bl_draws hB _, bl_draws hC _⟩
              · have hne : n = ds.length := by omega
                have hfn : ds.find? (takesD k bp) = none := find_no (fun j y hy => HD.out j y (by have := get_lt hy; omega) hy)
                have hlt' : ¬ (n : Int) < (ds.length : Int) := by omega
                go_wp2_with fail
                clear y1 y2
                go_loopg [7] es.length (fun g i wr2 => ∃ m : Nat, g = es.length - m ∧ m ≤ es.length ∧ i = .int .i64 m ∧ (∀ j d, j < m → es[j]? = some d → takesE nw ow k a ap b bp d = false) ∧ Below w.heap.size w wr2 ∧ Below wr.heap.size wr wr2)
                case atStart => exact ⟨0, by omega, by omega, rfl, fun _ _ h => absurd h (by omega), hB, bl_refl _⟩
                case round =>
                  clear hB hC
                  obtain ⟨m, hgm, hm, rfl, HE, hB, hC⟩ := hrel
                  have HE : Hid (∀ j d, j < m → es[j]? = some d → takesE nw ow k a ap b bp d = false) := HE
                  have y1 := (x1.below hC).2
                  have y2 := (x2.below hC).2
                  have hz1 : w.heap.size < wr.heap.size := (x1.below hC).1
                  have hz2 : w.heap.size + 1 < wr.heap.size := (x2.below hC).1
                  by_cases hlm : m < es.length
                  · have hlm' : (m : Int) < (es.length : Int) := by omega
                    rcases hE with rfl | ⟨g, o, rfl, hgl, hcs⟩
                    · simp at hlm
                    · obtain ⟨d, hd⟩ : ∃ d, es[m]? = some d := ⟨es[m], by simp [hlm]⟩
                      obtain ⟨c0, c1, c2, c3, c4, c5, c6⟩ := hcs.below hB hgl m d hd
                      have hgl2 : g < wr.heap.size := by have := hB.size; omega
                      obtain ⟨q0, q1⟩ := hla.out m d hd
                      have hd : Hid (es[m]? = some d) := hd
                      by_cases hv : liveB nw d.l = true
                      · skip
                        go_wp2_with fail
                        refine (l2Live_v ad ln ow lo hi nw da ds.length dc (some ⟨g, o, none⟩) es.length ec d true _ n0 n1 q0 q1 hv).mono ?_
                        rintro e w5 ⟨rfl, hb5⟩
                        have hB5 := bl_trans (bl_alloc hB _) hb5
                        have hC5 := bl_trans (bl_alloc hC _) hb5
                        have xe := ((Box.new wr #[.int .i64 d.k, .int .i64 d.pr, .int .i64 d.pp, .int .i64 d.o, .int .i64 d.i, .int .i64 d.ip, .int .i64 d.l] 52).below hb5).2
                        have y2 := (x2.below hC5).2
                        by_cases h0 : d.k = k
                        · have e1 : (d.k == k) = true := by simpa using h0
                          clear h0
                          by_cases h0 : d.pr = a
                          · have e2 : (d.pr == a) = true := by simpa using h0
                            clear h0
                            by_cases h0 : d.pp = ap
                            · have e3 : (d.pp == ap) = true := by simpa using h0
                              clear h0
                              by_cases h0 : d.o = bp
                              · have e4 : (d.o == bp) = true := by simpa using h0
                                clear h0
                                have hrv := recv_entry (nw := nw) (ow := ow) (ds := ds) (a := a) (ap := ap) (b := b) hfn (find_at hd.out (show takesE nw ow k a ap b bp d = true by rw [takesE_own hbo.out]; simp [hv, e1, e2, e3, e4]) (fun j y hj hy => HE.out j y hj hy))
                                have hpr : Hid (_ ∧ _) := inTold_yes hmay hrv
                                go_wp2_with fail
                                refine (l3To_ret k a ap b bp d.i d.ip _).mono ?_
                                rintro e w6 ⟨rfl, hb6⟩
                                have hB6 := bl_trans hB5 hb6
                                replace bx := (bx.below hC5).below hb6
                                obtain ⟨⟨q1, q2⟩, q3⟩ := id bx
                                go_wp2_with fail
                                have hbv := bx.set5 (.int .i64 k) (.int .i64 a) (.int .i64 ap) (.int .i64 d.i) (.int .i64 d.ip)
                                obtain ⟨⟨t1, t2⟩, t3⟩ := id hbv
                                exact bodyPost_ret (v := .tuple #[.agg #[.int .i64 k, .int .i64 a, .int .i64 ap, .int .i64 d.i, .int .i64 d.ip], .int .i64 0]) (by simp [results, Tryz.results25, go_sem, t2]) rfl ⟨by rw [← hTV.out, ← hCV.out, hpr.out.1, hpr.out.2], bl_set5 hB6 (by omega) (.int .i64 k) (.int .i64 a) (.int .i64 ap) (.int .i64 d.i) (.int .i64 d.ip)⟩
                              · have e4 : (d.o == bp) = false := by simpa using h0
                                have hno : takesE nw ow k a ap b bp d = false := by rw [takesE_own hbo.out]; simp [e4]
                                go_wp2_with fail
                                go_roundg (es.length - (m + 1))
                                case measure => omega
                                case rel => exact ⟨m + 1, rfl, by omega, by go_num, fun j y hj hy => (by rcases Nat.lt_or_ge j m with h | h; exact HE.out j y h hy; have : j = m := (by omega); subst this; rw [some_one hy hd.out]; exact hno), hB5, hC5⟩
                            · have e3 : (d.pp == ap) = false := by simpa using h0
                              have hno : takesE nw ow k a ap b bp d = false := by rw [takesE_own hbo.out]; simp [e3]
                              go_wp2_with fail
                              go_roundg (es.length - (m + 1))
                              case measure => omega
                              case rel => exact ⟨m + 1, rfl, by omega, by go_num, fun j y hj hy => (by rcases Nat.lt_or_ge j m with h | h; exact HE.out j y h hy; have : j = m := (by omega); subst this; rw [some_one hy hd.out]; exact hno), hB5, hC5⟩
                          · have e2 : (d.pr == a) = false := by simpa using h0
                            have hno : takesE nw ow k a ap b bp d = false := by rw [takesE_own hbo.out]; simp [e2]
                            go_wp2_with fail
                            go_roundg (es.length - (m + 1))
                            case measure => omega
                            case rel => exact ⟨m + 1, rfl, by omega, by go_num, fun j y hj hy => (by rcases Nat.lt_or_ge j m with h | h; exact HE.out j y h hy; have : j = m := (by omega); subst this; rw [some_one hy hd.out]; exact hno), hB5, hC5⟩
                        · have e1 : (d.k == k) = false := by simpa using h0
                          have hno : takesE nw ow k a ap b bp d = false := by rw [takesE_own hbo.out]; simp [e1]
                          go_wp2_with fail
                          go_roundg (es.length - (m + 1))
                          case measure => omega
                          case rel => exact ⟨m + 1, rfl, by omega, by go_num, fun j y hj hy => (by rcases Nat.lt_or_ge j m with h | h; exact HE.out j y h hy; have : j = m := (by omega); subst this; rw [some_one hy hd.out]; exact hno), hB5, hC5⟩
                      · have hv : liveB nw d.l = false := by simpa using hv
                        have hno : takesE nw ow k a ap b bp d = false := by rw [takesE_own hbo.out]; simp [hv]
                        go_wp2_with fail
                        refine (l2Live_v ad ln ow lo hi nw da ds.length dc (some ⟨g, o, none⟩) es.length ec d false _ n0 n1 q0 q1 hv).mono ?_
                        rintro e w5 ⟨rfl, hb5⟩
                        have hB5 := bl_trans (bl_alloc hB _) hb5
                        have hC5 := bl_trans (bl_alloc hC _) hb5
                        have xe := ((Box.new wr #[.int .i64 d.k, .int .i64 d.pr, .int .i64 d.pp, .int .i64 d.o, .int .i64 d.i, .int .i64 d.ip, .int .i64 d.l] 52).below hb5).2
                        have y2 := (x2.below hC5).2
                        go_wp2_with fail
                        go_roundg (es.length - (m + 1))
                        case measure => omega
                        case rel => exact ⟨m + 1, rfl, by omega, by go_num, fun j y hj hy => (by rcases Nat.lt_or_ge j m with h | h; exact HE.out j y h hy; have : j = m := (by omega); subst this; rw [some_one hy hd.out]; exact hno), hB5, hC5⟩
                  · have hne2 : m = es.length := by omega
                    have hen : es.find? (takesE nw ow k a ap b bp) = none := find_no (fun j y hy => HE.out j y (by have := get_lt hy; omega) hy)
                    have hcd : inCode ad ln ow lo hi nw ds es k a ap b bp = 6 := inCode_six hmay (recv_none hfn hen)
                    have hlm' : ¬ (m : Int) < (es.length : Int) := by omega
                    replace bx := bx.below hC
                    obtain ⟨⟨q1, q2⟩, q3⟩ := id bx
                    go_wp2_with fail
                    have hbv := bx.set5 (.int .i64 0) (.int .i64 0) (.int .i64 0) (.int .i64 0) (.int .i64 0)
                    obtain ⟨⟨t1, t2⟩, t3⟩ := id hbv
                    exact bodyPost_ret (v := .tuple #[.agg #[.int .i64 0, .int .i64 0, .int .i64 0, .int .i64 0, .int .i64 0], .int .i64 6]) (by simp [results, Tryz.results25, go_sem, t2]) rfl ⟨by rw [← hTV.out, ← hCV.out, hcd, inTold_no hcd (by omega)], bl_set5 hB (by omega) (.int .i64 0) (.int .i64 0) (.int .i64 0) (.int .i64 0) (.int .i64 0)⟩
      · have hq1 : (b != ow) = true := by simpa using hbo0
        clear hbo0
        have hcd : inCode ad ln ow lo hi nw ds es k a ap b bp = 3 := inCode_three hk hf (comes_no3 hq1)
        obtain ⟨⟨q1, q2⟩, q3⟩ := id bx
        go_wp2_with fail
        have hbv := bx.set5 (.int .i64 0) (.int .i64 0) (.int .i64 0) (.int .i64 0) (.int .i64 0)
        obtain ⟨⟨t1, t2⟩, t3⟩ := id hbv
        exact bodyPost_ret (v := .tuple #[.agg #[.int .i64 0, .int .i64 0, .int .i64 0, .int .i64 0, .int .i64 0], .int .i64 3]) (by simp [results, Tryz.results25, go_sem, t2]) rfl ⟨by rw [← hTV.out, ← hCV.out, hcd, inTold_no hcd (by omega)], bl_set5 hB2 (by omega) (.int .i64 0) (.int .i64 0) (.int .i64 0) (.int .i64 0) (.int .i64 0)⟩
    · have hf' : flowB k a ap b bp = false := by simpa using hf
      go_wp2_with fail
      refine (specFlowOk_ret _ _ _ _ _ _).mono ?_
      rintro e w2 ⟨rfl, hb2⟩
      have hB2 := bl_trans hB1 hb2
      replace bx := bx.below hb2
      have hcd : inCode ad ln ow lo hi nw ds es k a ap b bp = 2 := by simp [inCode, mayIn, hk, hf']
      obtain ⟨⟨q1, q2⟩, q3⟩ := id bx
      go_wp2_with fail
      have hbv := bx.set5 (.int .i64 0) (.int .i64 0) (.int .i64 0) (.int .i64 0) (.int .i64 0)
      obtain ⟨⟨t1, t2⟩, t3⟩ := id hbv
      exact bodyPost_ret (v := .tuple #[.agg #[.int .i64 0, .int .i64 0, .int .i64 0, .int .i64 0, .int .i64 0], .int .i64 2]) (by simp [results, Tryz.results25, go_sem, t2]) rfl ⟨by rw [← hTV.out, ← hCV.out, hcd, inTold_no hcd (by omega)], bl_set5 hB2 (by omega) (.int .i64 0) (.int .i64 0) (.int .i64 0) (.int .i64 0) (.int .i64 0)⟩
  · have hk' : bookB ad ln ow lo hi nw ds es = false := by simpa using hk
    go_enter Tryz.func25, Tryz.ntmps25
    go_wp2_with fail
    refine H1.out.mono ?_
    rintro e w1 ⟨rfl, hb1⟩
    have hB1 := bl_trans hb0 hb1
    replace bx := bx.below hb1
    have hcd : inCode ad ln ow lo hi nw ds es k a ap b bp = 1 := by simp [inCode, mayIn, hk']
    obtain ⟨⟨q1, q2⟩, q3⟩ := id bx
    go_wp2_with fail
    have hbv := bx.set5 (.int .i64 0) (.int .i64 0) (.int .i64 0) (.int .i64 0) (.int .i64 0)
    obtain ⟨⟨t1, t2⟩, t3⟩ := id hbv
    exact bodyPost_ret (v := .tuple #[.agg #[.int .i64 0, .int .i64 0, .int .i64 0, .int .i64 0, .int .i64 0], .int .i64 1]) (by simp [results, Tryz.results25, go_sem, t2]) rfl ⟨by rw [← hTV.out, ← hCV.out, hcd, inTold_no hcd (by omega)], bl_set5 hB1 (by omega) (.int .i64 0) (.int .i64 0) (.int .i64 0) (.int .i64 0) (.int .i64 0)⟩
end Go.Proofs.YtcgjpmhjijmplaaGreatDoor
