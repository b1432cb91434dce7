/- The law FnNatTop, walked: true, whatever the bytes. -/
import Derived.Test.YtcgjpmhjijmplaaGreatDoorJoinM
import Derived.Test.YtcgjpmhjijmplaaGreatDoorWn
import Derived.Deep.DeepCutAuto
import Derived.Deep.CutBlock
namespace Go.Proofs.YtcgjpmhjijmplaaGreatDoor
open Go.ChangeShapes Go.WideShapes Go.ChangeAt Go.RowKit Go.Maps

set_option maxRecDepth 20000 in
set_option maxHeartbeats 8000000 in
theorem lawTop_ret (ca : Option Addr) (cn cc : Nat) (w : World) (hg : Gl w) (hn : cn ≤ cc) (hc : cc ≤ maxLen) (hb : BytesIn w ca cn) :
    Calls Tryz.prog 3 #[.slice ca cn cc] w fun e w' => e = .returned (.bool true) ∧ Below w.heap.size w w' := by
  have H1 : Hid (Calls Tryz.prog _ _ _ _) := drawCome_ret ca cn cc w hn hc hb
  have hm : (cn : Int) ≤ 9223372036854775807 := by unfold maxLen at hc; omega
  clear hc hb
  by_cases hl : (cn : Int) ≤ 1048576
  · have hg : Hid (∀ W, Below w.heap.size w W → Gl W) := fun W h => hg.below h
    go_enter Tryz.func3, Tryz.ntmps3
    go_wp2_with fail
    refine H1.out.mono ?_
    rintro e w1 ⟨⟨ad, ln, hi, da, dc, ds, v4, fs, rfl, hsame, hcome, hlen, hD, hF⟩, hb1⟩
    obtain ⟨sa, sc, rfl⟩ := own_slice hF
    have hBl := bl_alloc (bl_alloc (bl_refl w1) (.cells #[.int .i64 ad, .int .i64 ln, .int .i64 51201, .int .i64 40, .int .i64 hi, .slice da ds.length dc, .int .i64 0, .slice none 0 0] 26)) (.cells #[] 40)
    have x3 := (Bx.new w1 #[.int .i64 ad, .int .i64 ln, .int .i64 51201, .int .i64 40, .int .i64 hi, .slice da ds.length dc, .int .i64 0, .slice none 0 0] 26).below (bl_alloc (bl_refl _) (.cells #[] 40))
    have ho := own_empty (w1.alloc (.cells #[.int .i64 ad, .int .i64 ln, .int .i64 51201, .int .i64 40, .int .i64 hi, .slice da ds.length dc, .int .i64 0, .slice none 0 0] 26)) 40 11
    simp only [World.size_alloc] at ho
    have hk4 : ∀ k, (Value.slice sa fs.length sc).ownBlock = some k → k ≠ w1.heap.size := fun k hk => Nat.ne_of_lt (hF.lt k hk).2
    have hLX : ListX w1 w.heap.size w1.heap.size (w1.heap.size + 1) da none ds [] := ⟨hD.2.imp id (fun ⟨b, o, h1, h2, h3, h4⟩ => ⟨b, o, h1, ⟨h2, h3, Nat.ne_of_lt h3, Or.inl (by omega)⟩, h4⟩), Or.inl rfl⟩
    have hTS : TS w ((w1.alloc (.cells #[.int .i64 ad, .int .i64 ln, .int .i64 51201, .int .i64 40, .int .i64 hi, .slice da ds.length dc, .int .i64 0, .slice none 0 0] 26)).alloc (.cells #[] 40)) w1.heap.size w.heap.size (w1.heap.size + 1) ⟨ad, ln, 51201, 40, hi, 0, ds, []⟩ (.slice sa fs.length sc) fs (.slice (some ⟨w1.heap.size + 1, 0, none⟩) 0 0) [] 0 :=
      ⟨⟨⟨ad, ln, 51201, 40, hi, 0, ds, []⟩, da, dc, none, 0, top_start hsame.1 rfl, ⟨Int.le_refl _, Int.le_refl _⟩, x3, hLX.below hBl⟩, ho, ⟨Nat.le_refl _, (fun x hx => by cases hx)⟩, hF.below hBl, bl_trans hb1 hBl⟩
    have hs1 := hb1.size
    clear H1 hb1 hBl x3 ho hLX hD hF
    have hcome : Hid (∀ f ∈ fs, ComeF ad ln 51201 f) := hcome
    have hfs : (fs.length : Int) ≤ 100 := by omega
    go_wp2_with fail
    generalize ((w1.alloc (.cells #[.int .i64 ad, .int .i64 ln, .int .i64 51201, .int .i64 40, .int .i64 hi, .slice da ds.length dc, .int .i64 0, .slice none 0 0] 26)).alloc (.cells #[] 40)) = W2 at *
    generalize w1.heap.size = n3 at *
    generalize hq2 : n3 + 1 = q2 at *
    go_loopg [5, 6] fs.length (fun g sv iv wr => ∃ (n : Nat) (v5 : Value) (W : List Wn), v5 = sv ∧ g = fs.length - n ∧ n ≤ fs.length ∧ iv = .int .i64 n ∧ TS w wr n3 w.heap.size q2 ⟨ad, ln, 51201, 40, hi, 0, ds, []⟩ (.slice sa fs.length sc) fs v5 W n)
    case atStart => exact ⟨0, _, [], rfl, by omega, by omega, rfl, hTS⟩
    case round =>
      clear hTS
      obtain ⟨n, v5, W, rfl, hgn, hn9, rfl, hTS⟩ := hrel
      by_cases hlt : n < fs.length
      · have hlt' : (n : Int) < (fs.length : Int) := by omega
        obtain ⟨f, hd⟩ : ∃ f, fs[n]? = some f := ⟨fs[n], by simp [hlt]⟩
        have hcf := hcome.out f (List.mem_of_getElem? hd)
        obtain ⟨g4, cap4, hsl, -, hgl4, -, -⟩ := own_form hTS.2.2.2.1 (by omega)
        simp only [Value.slice.injEq] at hsl
        obtain ⟨rfl, -, rfl⟩ := hsl
        obtain ⟨c0, c1, c2, c3, c4⟩ := flCells_of_own hTS.2.2.2.1 rfl n f hd
        simp only [Nat.zero_add] at c0 c1 c2 c3 c4
        have hBl := bl_alloc (bl_refl wr) (.cells #[.int .i64 f.k, .int .i64 f.a, .int .i64 f.ap, .int .i64 f.b, .int .i64 f.bp] 32)
        have x7 := Box.new wr #[.int .i64 f.k, .int .i64 f.a, .int .i64 f.ap, .int .i64 f.b, .int .i64 f.bp] 32
        replace hTS := hTS.below hBl
        clear hBl hd
        go_upto_block 2 with fail
        clear c0 c1 c2 c3 c4
        generalize wr.alloc (.cells #[.int .i64 f.k, .int .i64 f.a, .int .i64 f.ap, .int .i64 f.b, .int .i64 f.bp] 32) = W4 at *
        generalize wr.heap.size = n7 at *
        go_cut [5] (fun u5 wc => ∃ (v5 : Value) (W' : List Wn), v5 = u5 ∧ TS w wc n3 w.heap.size q2 ⟨ad, ln, 51201, 40, hi, 0, ds, []⟩ (.slice (some ⟨g4, 0, none⟩) fs.length sc) fs v5 W' (n + 1))
        case first =>
          by_cases hk0 : f.k = 0
          · skip
            obtain ⟨⟨X, va, vc, ua, uc, hT, ⟨hn0, hn1⟩, x3, hL⟩, hOW, ⟨hWl, hWa⟩, hOF, hB⟩ := hTS
            have hl3 := x3.1.1
            obtain ⟨hT2, hny, hc0⟩ := top_tick hT (by omega)
            have HI : Hid (Calls Tryz.prog 11 #[.agg #[.int .i64 X.ad, .int .i64 X.ln, .int .i64 X.ow, .int .i64 X.lo, .int .i64 X.hi, .slice va X.ds.length vc, .int .i64 X.nw, .slice ua X.es.length uc]] W4 fun e w' => ToldB w' W4.heap.size e (tickB X) 0 ∧ Below W4.heap.size W4 w') := by
              have h := implTick_ret X.ad X.ln X.ow X.lo X.hi X.nw va X.ds.length vc ua X.es.length uc X.ds X.es W4 (hg.out _ hB) hL.doors.at hL.ents.at
              rw [hc0] at h
              exact h
            generalize tickB X = Y at *
            replace hny : Hid (Y.nw = X.nw + 1) := hny
            have hkq : (f.k == 0) = true := by simpa using hk0
            have y3 := x3.1.2
            have y7 := x7.2
            go_wp2_with fail
            refine HI.out.mono ?_
            rintro e w5 ⟨⟨pa, pc, ra, rc, rfl, hOw⟩, hb⟩
            have hsW := hB.size
            have hLY : ListX w5 w.heap.size n3 q2 pa ra Y.ds Y.es := ListX.own hOw (by omega) hl3
            have hBl := bl_alloc (bl_refl w5) (.cells #[.int .i64 Y.ad, .int .i64 Y.ln, .int .i64 Y.ow, .int .i64 Y.lo, .int .i64 Y.hi, .slice pa Y.ds.length pc, .int .i64 Y.nw, .slice ra Y.es.length rc] 26)
            have x8 := Box.new w5 #[.int .i64 Y.ad, .int .i64 Y.ln, .int .i64 Y.ow, .int .i64 Y.lo, .int .i64 Y.hi, .slice pa Y.ds.length pc, .int .i64 Y.nw, .slice ra Y.es.length rc] 26
            have hb2 := bl_trans hb hBl
            replace hLY := hLY.below hBl
            replace x3 := x3.below hb2
            replace hL := hL.below hb2
            replace hOW := hOW.below hb2
            replace hOF := hOF.below hb2
            replace x7 := x7.below hb2
            replace hB := bl_trans hB hb2
            clear y3 y7 HI hOw hb hBl hb2
            have hne : (Y.nw != X.nw + 1) = false := by rw [hny.out]; simp
            have hw1 : IntKind.i64.wrap (X.nw + 1) = X.nw + 1 := wrap_of _ (by omega) (by omega)
            go_upto_region 18 with fail
            generalize w5.alloc (.cells #[.int .i64 Y.ad, .int .i64 Y.ln, .int .i64 Y.ow, .int .i64 Y.lo, .int .i64 Y.hi, .slice pa Y.ds.length pc, .int .i64 Y.nw, .slice ra Y.es.length rc] 26) = W6 at *
            generalize w5.heap.size = n8 at *
            have y3 := x3.1.2
            have y8 := x8.2
            go_upto_region 20 with fail
            clear y3
            obtain ⟨⟨p1, p2⟩, p3⟩ := id x3
            go_wp2_with fail
            go_meet
            exact ⟨v5, W, rfl, TS.turn hT2 (by rw [hny.out]; omega) x3 hLY hOW ⟨by omega, hWa⟩ hOF hB hk4 (by omega) (by omega)⟩
          · by_cases hin : insB ad ln f.a = true
            · skip
              obtain ⟨⟨X, va, vc, ua, uc, hT, ⟨hn0, hn1⟩, x3, hL⟩, hOW, ⟨hWl, hWa⟩, hOF, hB⟩ := hTS
              have hl3 := x3.1.1
              have hins : insB X.ad X.ln f.a = true := by rw [hT.ad, hT.ln]; exact hin
              have hok : bookB X.ad X.ln X.ow X.lo X.hi X.nw X.ds X.es = true := hT.ok
              have H21 : Hid (Calls Tryz.prog 12 #[.agg #[.int .i64 X.ad, .int .i64 X.ln, .int .i64 X.ow, .int .i64 X.lo, .int .i64 X.hi, .slice va X.ds.length vc, .int .i64 X.nw, .slice ua X.es.length uc], .int .i64 f.a] W4 fun e w' => e = .returned (.bool true) ∧ Below W4.heap.size W4 w') := by
                have h := specInside_ret X.ad X.ln X.ow X.lo X.hi X.nw va X.ds.length vc ua X.es.length uc f.a X.ds X.es W4 hL.doors.at hL.ents.at
                rw [hok, hins] at h
                exact h
              have hkq : (f.k == 0) = false := by simpa using hk0
              have y3 := x3.1.2
              have y7 := x7.2
              go_wp2_with fail
              refine H21.out.mono ?_
              rintro e w5 ⟨rfl, hb⟩
              replace x3 := x3.below hb
              replace hL := hL.below hb
              replace hOW := hOW.below hb
              replace hOF := hOF.below hb
              replace x7 := x7.below hb
              replace hB := bl_trans hB hb
              clear y3 y7 H21 hb
              go_upto_if 113 with fail
              exact top_out_arm w w5 n3 q2 n7 n ⟨ad, ln, 51201, 40, hi, 0, ds, []⟩ (.slice (some ⟨g4, 0, none⟩) fs.length sc) v5 fs W f X va vc ua uc hg hk4 hq2 hs1 (by omega) hT hn0 hn1 x3 hL hOW hWl hWa hOF hB x7 (fun _ _ _ _ _ h => h) (fun _ _ _ _ _ _ _ _ _ _ _ _ _ _ _ _ _ _ _ _ _ _ _ _ _ _ _ _ _ _ _ _ _ _ _ _ _ _ _ _ _ _ _ _ _ _ _ _ _ _ _ _ _ _ _ _ _ _ _ _ _ _ _ _ _ _ _ _ _ _ _ _ _ _ _ _ _ _ _ _ _ _ _ _ v' W' w' h => (by go_wp2_with fail; go_meet; exact ⟨v', W', rfl, h⟩))
            · skip
              obtain ⟨⟨X, va, vc, ua, uc, hT, ⟨hn0, hn1⟩, x3, hL⟩, hOW, ⟨hWl, hWa⟩, hOF, hB⟩ := id hTS
              have hl3 := x3.1.1
              have hins : insB X.ad X.ln f.a = false := by rw [hT.ad, hT.ln]; simpa using hin
              have hok : bookB X.ad X.ln X.ow X.lo X.hi X.nw X.ds X.es = true := hT.ok
              have hfl : flowB f.k f.a f.ap f.b f.bp = true ∧ comesB X.ad X.ln X.ow f.a f.b = true := by
                rcases hcf with h | h | h
                · exact absurd h hk0
                · exact absurd h hin
                · rw [hT.ad, hT.ln, hT.ow]; exact h
              have H21 : Hid (Calls Tryz.prog 12 #[.agg #[.int .i64 X.ad, .int .i64 X.ln, .int .i64 X.ow, .int .i64 X.lo, .int .i64 X.hi, .slice va X.ds.length vc, .int .i64 X.nw, .slice ua X.es.length uc], .int .i64 f.a] W4 fun e w' => e = .returned (.bool false) ∧ Below W4.heap.size W4 w') := by
                have h := specInside_ret X.ad X.ln X.ow X.lo X.hi X.nw va X.ds.length vc ua X.es.length uc f.a X.ds X.es W4 hL.doors.at hL.ents.at
                rw [hok, hins] at h
                exact h
              obtain ⟨tk, ta, tap, tb, tbp, hTo, hz⟩ := told_form (ad := X.ad) (ln := X.ln) (ow := X.ow) (lo := X.lo) (hi := X.hi) (nw := X.nw) (ds := X.ds) (es := X.es) (k := f.k) (a := f.a) (ap := f.ap) (b := f.b) (bp := f.bp)
              have hdoor : Hid (X.ds.any (takesD f.k f.bp) = true → inCode X.ad X.ln X.ow X.lo X.hi X.nw X.ds X.es f.k f.a f.ap f.b f.bp = 0) := fun h => top_door hT.ok hfl.1 hfl.2 h
              have hnod : Hid (X.ds.any (takesD f.k f.bp) = false → _) := fun h => top_case_in hT h hTo
              have HI : Hid (∀ W', Gl W' → ListX W' w.heap.size n3 q2 va ua X.ds X.es → Calls Tryz.prog 16 #[.agg #[.int .i64 X.ad, .int .i64 X.ln, .int .i64 X.ow, .int .i64 X.lo, .int .i64 X.hi, .slice va X.ds.length vc, .int .i64 X.nw, .slice ua X.es.length uc], .agg #[.int .i64 f.k, .int .i64 f.a, .int .i64 f.ap, .int .i64 f.b, .int .i64 f.bp]] W' fun e w' => e = .returned (.tuple #[.agg #[.int .i64 tk, .int .i64 ta, .int .i64 tap, .int .i64 tb, .int .i64 tbp], .int .i64 (inCode X.ad X.ln X.ow X.lo X.hi X.nw X.ds X.es f.k f.a f.ap f.b f.bp)]) ∧ Below W'.heap.size W' w') := fun W' h0 h1 => by rw [← hTo]; exact implIn_ret X.ad X.ln X.ow X.lo X.hi X.nw va X.ds.length vc ua X.es.length uc f.k f.a f.ap f.b f.bp X.ds X.es W' h0 h1.doors.at h1.ents.at
              have HA : Hid (∀ W', OwnW W' q2 v5 W → Calls Tryz.prog 17 #[v5, .agg #[.int .i64 f.k, .int .i64 f.a, .int .i64 f.ap, .int .i64 f.b, .int .i64 f.bp], .int .i64 X.nw] W' fun e w' => _) := fun W' h => asked_ret q2 v5 W f X.nw W' h (by omega) hn0 (by omega) (fun x hx => ⟨hWa x hx, (hT.went x hx).1⟩)
              have HD : Hid (∀ W', ListX W' w.heap.size n3 q2 va ua X.ds X.es → Calls Tryz.prog 18 #[.agg #[.int .i64 X.ad, .int .i64 X.ln, .int .i64 X.ow, .int .i64 X.lo, .int .i64 X.hi, .slice va X.ds.length vc, .int .i64 X.nw, .slice ua X.es.length uc], .agg #[.int .i64 f.k, .int .i64 f.a, .int .i64 f.ap, .int .i64 f.b, .int .i64 f.bp]] W' fun e w' => e = .returned (.bool (X.ds.any (takesD f.k f.bp))) ∧ Below W'.heap.size W' w') := fun W' h => wnDoor_ret X.ad X.ln X.ow X.lo X.hi X.nw va X.ds.length vc ua X.es.length uc f.k f.a f.ap f.b f.bp X.ds W' h.doors.at (by have := book_parts hok; omega)
              have HN : Hid (∀ W', ListX W' w.heap.size n3 q2 va ua X.ds X.es → Calls Tryz.prog 19 #[.agg #[.int .i64 X.ad, .int .i64 X.ln, .int .i64 X.ow, .int .i64 X.lo, .int .i64 X.hi, .slice va X.ds.length vc, .int .i64 X.nw, .slice ua X.es.length uc], .int .i64 tb] W' fun e w' => e = .returned (.bool (bookB X.ad X.ln X.ow X.lo X.hi X.nw X.ds X.es && insB X.ad X.ln tb)) ∧ Below W'.heap.size W' w') := fun W' h => implInside_ret X.ad X.ln X.ow X.lo X.hi X.nw va X.ds.length vc ua X.es.length uc tb X.ds X.es W' h.doors.at h.ents.at
              rw [hok] at HN
              clear hTo
              generalize inCode X.ad X.ln X.ow X.lo X.hi X.nw X.ds X.es f.k f.a f.ap f.b f.bp = c at *
              generalize askO W f X.nw = A at *
              generalize X.ds.any (takesD f.k f.bp) = dd at *
              have hkq : (f.k == 0) = false := by simpa using hk0
              have y3 := x3.1.2
              have y7 := x7.2
              go_wp2_with fail
              refine H21.out.mono ?_
              rintro e w5 ⟨rfl, hb⟩
              replace x3 := x3.below hb
              replace hL := hL.below hb
              replace hOW := hOW.below hb
              replace hOF := hOF.below hb
              replace x7 := x7.below hb
              replace hB := bl_trans hB hb
              replace hTS := hTS.below hb
              clear y3 y7 H21 hb
              have y3 := x3.1.2
              have y7 := x7.2
              go_wp2_with fail
              refine (HI.out _ (hg.out _ hB) hL).mono ?_
              rintro e w6 ⟨rfl, hb⟩
              have hb2 := bl_trans hb (bl_alloc (bl_refl w6) (.cells #[.int .i64 tk, .int .i64 ta, .int .i64 tap, .int .i64 tb, .int .i64 tbp] 32))
              have x17 := Box.new w6 #[.int .i64 tk, .int .i64 ta, .int .i64 tap, .int .i64 tb, .int .i64 tbp] 32
              replace x3 := x3.below hb2
              replace hL := hL.below hb2
              replace hOW := hOW.below hb2
              replace hOF := hOF.below hb2
              replace x7 := x7.below hb2
              replace hB := bl_trans hB hb2
              replace hTS := hTS.below hb2
              clear y3 y7 HI hb hb2
              go_upto_region 10 with fail
              generalize w6.alloc (.cells #[.int .i64 tk, .int .i64 ta, .int .i64 tap, .int .i64 tb, .int .i64 tbp] 32) = W7 at *
              generalize w6.heap.size = n17 at *
              have y3 := x3.1.2
              have y7 := x7.2
              go_wp2_with fail
              clear y3 y7
              refine (HA.out _ hOW).mono ?_
              rintro e w8 ⟨rfl, hb⟩
              have hb2 := bl_trans hb (bl_alloc (bl_refl w8) (.cells #[.int .i64 A.1.k, .int .i64 A.1.a, .int .i64 A.1.ap, .int .i64 A.1.b, .int .i64 A.1.bp] 32))
              have x19 := Box.new w8 #[.int .i64 A.1.k, .int .i64 A.1.a, .int .i64 A.1.ap, .int .i64 A.1.b, .int .i64 A.1.bp] 32
              replace x3 := x3.below hb2
              replace hL := hL.below hb2
              replace hOW := hOW.below hb2
              replace hOF := hOF.below hb2
              replace x7 := x7.below hb2
              replace hB := bl_trans hB hb2
              replace x17 := x17.below hb2
              replace hTS := hTS.below hb2
              clear HA hb hb2
              go_upto_region 11 with fail
              generalize w8.alloc (.cells #[.int .i64 A.1.k, .int .i64 A.1.a, .int .i64 A.1.ap, .int .i64 A.1.b, .int .i64 A.1.bp] 32) = W8 at *
              generalize w8.heap.size = n19 at *
              have y3 := x3.1.2
              have y7 := x7.2
              go_wp2_with fail
              clear y3 y7
              refine (HD.out _ hL).mono ?_
              rintro e w9 ⟨rfl, hb⟩
              replace x3 := x3.below hb
              replace hL := hL.below hb
              replace hOW := hOW.below hb
              replace hOF := hOF.below hb
              replace x7 := x7.below hb
              replace hB := bl_trans hB hb
              replace x17 := x17.below hb
              replace x19 := x19.below hb
              replace hTS := hTS.below hb
              clear HD hb
              cases dd with
              | true =>
                have hc0 := hdoor.out rfl
                subst hc0
                clear hdoor hnod
                rcases hz with ⟨-, rfl, rfl, rfl, -, hit⟩ | ⟨hc, -⟩
                · rw [hit] at HN
                  have y3 := x3.1.2
                  have y7 := x7.2
                  have y17 := x17.2
                  go_wp2_with fail
                  refine (HN.out _ hL).mono ?_
                  rintro e w10 ⟨rfl, hb⟩
                  replace x7 := x7.below hb
                  replace x17 := x17.below hb
                  replace hTS := hTS.below hb
                  clear y3 y7 y17 hb
                  have y7 := x7.2
                  have y17 := x17.2
                  go_wp2_with fail
                  go_roundg (fs.length - (n + 1))
                  case measure => omega
                  case rel => exact ⟨n + 1, v5, W, rfl, rfl, by omega, by go_num, hTS.up (Nat.le_succ _)⟩
                · exact absurd rfl hc
              | false =>
                have hcs := hnod.out rfl
                clear hdoor hnod hz HN
                have hne := run_neq_same
                have hgf := guardFlow
                clear x3 hL hOW hOF hB x7 hT hWa hfl
                go_upto_region 14 with fail
                rcases hcs with ⟨hA2, hcq, e1, e2, e3, e4, e5⟩ | ⟨hA2, hcq⟩
                · subst e1
                  subst e2
                  subst e3
                  subst e4
                  subst e5
                  rw [hA2]
                  refine wp_region_held_drew (S := (fun w' => Box w' n17 #[.int .i64 A.1.k, .int .i64 A.1.b, .int .i64 A.1.bp, .int .i64 A.1.a, .int .i64 A.1.ap] ∧ Box w' n19 #[.int .i64 A.1.k, .int .i64 A.1.a, .int .i64 A.1.ap, .int .i64 A.1.b, .int .i64 A.1.bp])) (by as_aux_lemma => kernel_rfl) ?_ (fun hHeld => ?_)
                  · exact ⟨x17.below (bl_drew (bl_refl _)), x19.below (bl_drew (bl_refl _))⟩
                  have hq := bl_drew (bl_refl w9)
                  replace hTS := hTS.below hq
                  replace x17 := x17.below hq
                  replace x19 := x19.below hq
                  clear hq
                  generalize w9.drew = W9 at hTS x17 x19 hHeld ⊢
                  refine takeL2 0 80 ?_ ?_ hHeld ?_
                  rotate_left
                  · (intro w hSw; (try dsimp only at hSw); simp only [Box] at hSw; go_simp; try with_reducible rfl)
                  simp only [Act.put, puA, puB, puC]
                  refine takeL2 1 81 ?_ ?_ hHeld ?_
                  rotate_left
                  · (intro w hSw; (try dsimp only at hSw); simp only [Box] at hSw; go_simp; try with_reducible rfl)
                  simp only [Act.put, puA, puB, puC]
                  refine takeL2 2 82 ?_ ?_ hHeld ?_
                  rotate_left
                  · (intro w hSw; (try dsimp only at hSw); simp only [Box] at hSw; go_simp; try with_reducible rfl)
                  simp only [Act.put, puA, puB, puC]
                  refine takeL2 3 83 ?_ ?_ hHeld ?_
                  rotate_left
                  · (intro w hSw; (try dsimp only at hSw); simp only [Box] at hSw; go_simp; try with_reducible rfl)
                  simp only [Act.put, puA, puB, puC]
                  refine takeL2 4 84 ?_ ?_ hHeld ?_
                  rotate_left
                  · (intro w hSw; (try dsimp only at hSw); simp only [Box] at hSw; go_simp; try with_reducible rfl)
                  simp only [Act.put, puA, puB, puC]
                  refine takeL2 5 85 ?_ ?_ hHeld ?_
                  rotate_left
                  · (intro w hSw; (try dsimp only at hSw); simp only [Box] at hSw; go_simp; try with_reducible rfl)
                  simp only [Act.put, puA, puB, puC]
                  refine takeL2 6 86 ?_ ?_ hHeld ?_
                  rotate_left
                  · (intro w hSw; (try dsimp only at hSw); simp only [Box] at hSw; go_simp; try with_reducible rfl)
                  simp only [Act.put, puA, puB, puC]
                  refine takeL2 7 87 ?_ ?_ hHeld ?_
                  rotate_left
                  · (intro w hSw; (try dsimp only at hSw); simp only [Box] at hSw; go_simp; try with_reducible rfl)
                  simp only [Act.put, puA, puB, puC]
                  refine takeL2 8 88 ?_ ?_ hHeld ?_
                  rotate_left
                  · (intro w hSw; (try dsimp only at hSw); simp only [Box] at hSw; go_simp; try with_reducible rfl)
                  simp only [Act.put, puA, puB, puC]
                  refine wpAnyH_ready (rs := [9]) (by as_aux_lemma => kernel_rfl) (by simp) (AllReadyH.cons rfl (fun K hK => ?_) (AllReadyH.nil))
                  refine step_callg 89 20 rfl (by as_aux_lemma => kernel_rfl) (specBack_ret A.1.k A.1.a A.1.ap A.1.b A.1.bp _) (by as_aux_lemma => kernel_rfl) ?_
                  rintro e W1 ⟨rfl, hb⟩
                  refine ⟨_, rfl, ?_⟩
                  simp only [Act.put, puA, puB, puC]
                  replace hTS := hTS.below hb
                  replace x17 := x17.below hb
                  replace x19 := x19.below hb
                  clear hb
                  refine hK.out _ _ ?_ (fun hHeld1 => ?_)
                  · exact ⟨x17, x19⟩
                  clear hK K hHeld
                  have hHeld := hHeld1
                  clear hHeld1
                  refine takeL2 10 90 ?_ ?_ hHeld ?_
                  rotate_left
                  · (intro w hSw; (try dsimp only at hSw); simp only [Box] at hSw; go_simp; try with_reducible rfl)
                  simp only [Act.put, puA, puB, puC]
                  refine takeL2 11 91 ?_ ?_ hHeld ?_
                  rotate_left
                  · (intro w hSw; (try dsimp only at hSw); simp only [Box] at hSw; go_simp; try with_reducible rfl)
                  simp only [Act.put, puA, puB, puC]
                  refine takeL2 12 92 ?_ ?_ hHeld ?_
                  rotate_left
                  · (intro w hSw; (try dsimp only at hSw); simp only [Box] at hSw; go_simp; try with_reducible rfl)
                  simp only [Act.put, puA, puB, puC]
                  refine wpAnyH_done (by as_aux_lemma => kernel_rfl) ?_ _
                  go_wp2_with fail
                  go_meet
                  exact ⟨v5, W, rfl, hTS.up (Nat.le_succ _)⟩
                · rw [hA2]
                  refine wp_region_held_drew (S := (fun w' => Box w' n17 #[.int .i64 tk, .int .i64 ta, .int .i64 tap, .int .i64 tb, .int .i64 tbp] ∧ Box w' n19 #[.int .i64 A.1.k, .int .i64 A.1.a, .int .i64 A.1.ap, .int .i64 A.1.b, .int .i64 A.1.bp])) (by as_aux_lemma => kernel_rfl) ?_ (fun hHeld => ?_)
                  · exact ⟨x17.below (bl_drew (bl_refl _)), x19.below (bl_drew (bl_refl _))⟩
                  have hq := bl_drew (bl_refl w9)
                  replace hTS := hTS.below hq
                  replace x17 := x17.below hq
                  replace x19 := x19.below hq
                  clear hq
                  generalize w9.drew = W9 at hTS x17 x19 hHeld ⊢
                  refine takeL2 0 80 ?_ ?_ hHeld ?_
                  rotate_left
                  · (intro w hSw; (try dsimp only at hSw); simp only [Box] at hSw; go_simp; try with_reducible rfl)
                  simp only [Act.put, puA, puB, puC]
                  refine takeL2 1 81 ?_ ?_ hHeld ?_
                  rotate_left
                  · (intro w hSw; (try dsimp only at hSw); simp only [Box] at hSw; go_simp; try with_reducible rfl)
                  simp only [Act.put, puA, puB, puC]
                  refine takeL2 2 82 ?_ ?_ hHeld ?_
                  rotate_left
                  · (intro w hSw; (try dsimp only at hSw); simp only [Box] at hSw; go_simp; try with_reducible rfl)
                  simp only [Act.put, puA, puB, puC]
                  refine takeL2 3 83 ?_ ?_ hHeld ?_
                  rotate_left
                  · (intro w hSw; (try dsimp only at hSw); simp only [Box] at hSw; go_simp; try with_reducible rfl)
                  simp only [Act.put, puA, puB, puC]
                  refine takeL2 4 84 ?_ ?_ hHeld ?_
                  rotate_left
                  · (intro w hSw; (try dsimp only at hSw); simp only [Box] at hSw; go_simp; try with_reducible rfl)
                  simp only [Act.put, puA, puB, puC]
                  refine takeL2 5 85 ?_ ?_ hHeld ?_
                  rotate_left
                  · (intro w hSw; (try dsimp only at hSw); simp only [Box] at hSw; go_simp; try with_reducible rfl)
                  simp only [Act.put, puA, puB, puC]
                  refine takeL2 6 86 ?_ ?_ hHeld ?_
                  rotate_left
                  · (intro w hSw; (try dsimp only at hSw); simp only [Box] at hSw; go_simp; try with_reducible rfl)
                  simp only [Act.put, puA, puB, puC]
                  refine takeN2 7 87 hHeld ?_
                  simp only [Act.put, puA, puB, puC]
                  refine takeN2 8 88 hHeld ?_
                  simp only [Act.put, puA, puB, puC]
                  refine takeN2 9 89 hHeld ?_
                  simp only [Act.put, puA, puB, puC]
                  refine takeN2 10 90 hHeld ?_
                  simp only [Act.put, puA, puB, puC]
                  refine takeL2 11 91 ?_ ?_ hHeld ?_
                  rotate_left
                  · (intro w hSw; (try dsimp only at hSw); simp only [Box] at hSw; go_simp; try with_reducible rfl)
                  simp only [Act.put, puA, puB, puC]
                  refine takeL2 12 92 ?_ ?_ hHeld ?_
                  rotate_left
                  · (intro w hSw; (try dsimp only at hSw); simp only [Box] at hSw; go_simp; try with_reducible rfl)
                  simp only [Act.put, puA, puB, puC]
                  refine wpAnyH_done (by as_aux_lemma => kernel_rfl) ?_ _
                  go_wp2_with fail
                  go_meet
                  exact ⟨v5, W, rfl, hTS.up (Nat.le_succ _)⟩
        case rest =>
          clear hTS x7
          obtain ⟨v6, W', rfl, hTS⟩ := hcut
          obtain ⟨⟨X, va, vc, ua, uc, hT, -, x3, hL⟩, -⟩ := id hTS
          have HK : Hid (Calls Tryz.prog 21 #[.agg #[.int .i64 X.ad, .int .i64 X.ln, .int .i64 X.ow, .int .i64 X.lo, .int .i64 X.hi, .slice va X.ds.length vc, .int .i64 X.nw, .slice ua X.es.length uc]] wc fun e w' => e = .returned (.bool true) ∧ Below wc.heap.size wc w') := by
            have h := implBook_ret X.ad X.ln X.ow X.lo X.hi X.nw va X.ds.length vc ua X.es.length uc X.ds X.es wc hL.doors.at hL.ents.at
            rw [show bookB X.ad X.ln X.ow X.lo X.hi X.nw X.ds X.es = true from hT.ok] at h
            exact h
          have y3 := x3.1.2
          go_wp2_with fail
          refine HK.out.mono ?_
          rintro e w5 ⟨rfl, hb⟩
          replace hTS := hTS.below hb
          go_wp2_with fail
          go_roundg (fs.length - (n + 1))
          case measure => omega
          case rel => exact ⟨n + 1, v6, W', rfl, rfl, by omega, by go_num, hTS⟩
      · have hlt' : ¬ ((n : Int) < (fs.length : Int)) := by omega
        go_wp2_with fail
        go_ret
        exact ⟨rfl, hTS.2.2.2.2⟩
  · have hl' : (1048576 : Int) < (cn : Int) := by omega
    go_enter Tryz.func3, Tryz.ntmps3
    go_wp2
    go_ret
    exact ⟨rfl, bl_refl _⟩
end Go.Proofs.YtcgjpmhjijmplaaGreatDoor
