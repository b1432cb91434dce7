/- The law FnNatIn, walked: true, whatever the bytes. -/
import Derived.Test.YtcgjpmhjijmplaaGreatDoorDraw15
import Derived.Test.YtcgjpmhjijmplaaGreatDoorWn
import Derived.Deep.DeepCutAuto
namespace Go.Proofs.YtcgjpmhjijmplaaGreatDoor
open Go.ChangeShapes Go.WideShapes Go.ChangeAt Go.RowKit Go.Maps

set_option maxRecDepth 20000 in
set_option maxHeartbeats 8000000 in
theorem lawNatIn_ret (ca : Option Addr) (cn cc : Nat) (w : World) (hg : Gl w) (hn : cn ≤ cc) (hc : cc ≤ maxLen) (hb : BytesIn w ca cn) :
    Calls Tryz.prog 5 #[.slice ca cn cc] w fun e w' => e = .returned (.bool true) ∧ Below w.heap.size w w' := by
  have H1 : Hid (Calls Tryz.prog _ _ _ _) := drawIn_ret ca cn cc w hn hc hb
  have hm : (cn : Int) ≤ 9223372036854775807 := by unfold maxLen at hc; omega
  clear hc hb
  by_cases hl : (cn : Int) ≤ 1048576
  · go_enter Tryz.func5, Tryz.ntmps5
    go_wp2_with fail
    refine H1.out.mono ?_
    rintro e w1 ⟨⟨B, va, vc, ua, uc, k, a, ap, b, bp, rfl, hD, hE, hl1, hl2⟩, hb1⟩
    replace hD := hD.at
    replace hE := hE.at
    have hBl := bl_alloc (bl_alloc (bl_refl w1) (.cells #[.int .i64 B.ad, .int .i64 B.ln, .int .i64 B.ow, .int .i64 B.lo, .int .i64 B.hi, .slice va B.ds.length vc, .int .i64 B.nw, .slice ua B.es.length uc] 26)) (.cells #[.int .i64 k, .int .i64 a, .int .i64 ap, .int .i64 b, .int .i64 bp] 32)
    have xb := (Box.new w1 #[.int .i64 B.ad, .int .i64 B.ln, .int .i64 B.ow, .int .i64 B.lo, .int .i64 B.hi, .slice va B.ds.length vc, .int .i64 B.nw, .slice ua B.es.length uc] 26).below (bl_alloc (bl_refl _) (.cells #[.int .i64 k, .int .i64 a, .int .i64 ap, .int .i64 b, .int .i64 bp] 32))
    have xf := Box.new (w1.alloc (.cells #[.int .i64 B.ad, .int .i64 B.ln, .int .i64 B.ow, .int .i64 B.lo, .int .i64 B.hi, .slice va B.ds.length vc, .int .i64 B.nw, .slice ua B.es.length uc] 26)) #[.int .i64 k, .int .i64 a, .int .i64 ap, .int .i64 b, .int .i64 bp] 32
    simp only [World.size_alloc] at xf
    replace hD := hD.below hBl
    replace hE := hE.below hBl
    replace hg := (hg.below hb1).below hBl
    have hB := bl_trans hb1 hBl
    clear H1 hb1 hBl
    obtain ⟨fk, fa, fap, fb, fbp, hT, hz⟩ := told_form (ad := B.ad) (ln := B.ln) (ow := B.ow) (lo := B.lo) (hi := B.hi) (nw := B.nw) (ds := B.ds) (es := B.es) (k := k) (a := a) (ap := ap) (b := b) (bp := bp)
    have HI : Hid (∀ W, Gl W → DoorsAt W va B.ds.length B.ds → EntriesAt W ua B.es.length B.es → Calls Tryz.prog 16 #[.agg #[.int .i64 B.ad, .int .i64 B.ln, .int .i64 B.ow, .int .i64 B.lo, .int .i64 B.hi, .slice va B.ds.length vc, .int .i64 B.nw, .slice ua B.es.length uc], .agg #[.int .i64 k, .int .i64 a, .int .i64 ap, .int .i64 b, .int .i64 bp]] W fun e w' => e = .returned (.tuple #[.agg #[.int .i64 fk, .int .i64 fa, .int .i64 fap, .int .i64 fb, .int .i64 fbp], .int .i64 (inCode B.ad B.ln B.ow B.lo B.hi B.nw B.ds B.es k a ap b bp)]) ∧ Below W.heap.size W w') := fun W h0 h1 h2 => by rw [← hT]; exact implIn_ret B.ad B.ln B.ow B.lo B.hi B.nw va B.ds.length vc ua B.es.length uc k a ap b bp B.ds B.es W h0 h1 h2
    have HS : Hid (∀ W, DoorsAt W va B.ds.length B.ds → EntriesAt W ua B.es.length B.es → Calls Tryz.prog 25 #[.agg #[.int .i64 B.ad, .int .i64 B.ln, .int .i64 B.ow, .int .i64 B.lo, .int .i64 B.hi, .slice va B.ds.length vc, .int .i64 B.nw, .slice ua B.es.length uc], .agg #[.int .i64 k, .int .i64 a, .int .i64 ap, .int .i64 b, .int .i64 bp]] W fun e w' => e = .returned (.tuple #[.agg #[.int .i64 fk, .int .i64 fa, .int .i64 fap, .int .i64 fb, .int .i64 fbp], .int .i64 (inCode B.ad B.ln B.ow B.lo B.hi B.nw B.ds B.es k a ap b bp)]) ∧ Below W.heap.size W w') := fun W h1 h2 => by rw [← hT]; exact specIn_ret B.ad B.ln B.ow B.lo B.hi B.nw va B.ds.length vc ua B.es.length uc k a ap b bp B.ds B.es W h1 h2
    have h1c : bookB B.ad B.ln B.ow B.lo B.hi B.nw B.ds B.es = false → inCode B.ad B.ln B.ow B.lo B.hi B.nw B.ds B.es k a ap b bp = 1 := fun h => in_one h
    have h6 : Hid (inCode B.ad B.ln B.ow B.lo B.hi B.nw B.ds B.es k a ap b bp = 6 → (∀ e ∈ B.es, ¬ (B.nw - e.l < 8 ∧ e.k = k ∧ e.pr = a ∧ e.pp = ap ∧ e.o = bp)) ∧ ∀ d ∈ B.ds, ¬ (d.k = k ∧ d.o = bp)) := fun h => in_six h
    clear hT
    generalize inCode B.ad B.ln B.ow B.lo B.hi B.nw B.ds B.es k a ap b bp = c at *
    have heq := run_neq_same
    have hgf := guardFlow
    go_wp2_with fail
    generalize ((w1.alloc (.cells #[.int .i64 B.ad, .int .i64 B.ln, .int .i64 B.ow, .int .i64 B.lo, .int .i64 B.hi, .slice va B.ds.length vc, .int .i64 B.nw, .slice ua B.es.length uc] 26)).alloc (.cells #[.int .i64 k, .int .i64 a, .int .i64 ap, .int .i64 b, .int .i64 bp] 32)) = W0 at *
    generalize w1.heap.size = nb at *
    refine (HI.out _ hg hD hE).mono ?_
    rintro e w2 ⟨rfl, hb2⟩
    have hBl := bl_alloc (bl_refl w2) (.cells #[.int .i64 fk, .int .i64 fa, .int .i64 fap, .int .i64 fb, .int .i64 fbp] 32)
    have hb3 := bl_trans hb2 hBl
    have xg := Box.new w2 #[.int .i64 fk, .int .i64 fa, .int .i64 fap, .int .i64 fb, .int .i64 fbp] 32
    replace xb := xb.below hb3
    replace xf := xf.below hb3
    replace hD := hD.below hb3
    replace hE := hE.below hb3
    replace hg := hg.below hb3
    replace hB := bl_trans hB hb3
    clear hb2 hBl hb3 HI
    have y1 := xb.2
    have y2 := xf.2
    go_wp2_with fail
    clear y1 y2
    generalize (w2.alloc (.cells #[.int .i64 fk, .int .i64 fa, .int .i64 fap, .int .i64 fb, .int .i64 fbp] 32)) = W3 at *
    generalize w2.heap.size = ng at *
    refine (HS.out _ hD hE).mono ?_
    rintro e w4 ⟨rfl, hb4⟩
    have hBl := bl_alloc (bl_refl w4) (.cells #[.int .i64 fk, .int .i64 fa, .int .i64 fap, .int .i64 fb, .int .i64 fbp] 32)
    have hb5 := bl_trans hb4 hBl
    have xw := Box.new w4 #[.int .i64 fk, .int .i64 fa, .int .i64 fap, .int .i64 fb, .int .i64 fbp] 32
    replace xb := xb.below hb5
    replace xf := xf.below hb5
    replace xg := xg.below hb5
    replace hD := hD.below hb5
    replace hE := hE.below hb5
    replace hg := hg.below hb5
    replace hB := bl_trans hB hb5
    clear hb4 hBl hb5 HS
    go_upto_region 6 with fail
    generalize (w4.alloc (.cells #[.int .i64 fk, .int .i64 fa, .int .i64 fap, .int .i64 fb, .int .i64 fbp] 32)) = W5 at *
    generalize w4.heap.size = nw4 at *
    have y1 := xb.2
    have y2 := xf.2
    have y3 := xg.2
    have y4 := xw.2
    have hcc : (c != c) = false := by simp
    have HK : Hid (Calls Tryz.prog _ _ _ _) := specBookOk_ret B.ad B.ln B.ow B.lo B.hi B.nw va B.ds.length vc ua B.es.length uc B.ds B.es W5 hD hE
    rcases hz with ⟨rfl, rfl, rfl, rfl, hbk, hin⟩ | ⟨hc0, rfl, rfl, rfl, rfl, rfl⟩
    · rw [hbk] at HK
      go_wp2_with fail
      refine HK.out.mono ?_
      rintro e w6 ⟨rfl, hb6⟩
      replace xb := xb.below hb6
      replace xf := xf.below hb6
      replace xg := xg.below hb6
      replace hD := hD.below hb6
      replace hE := hE.below hb6
      replace hB := bl_trans hB hb6
      clear hb6 HK y1 y2 y3 y4
      have y1 := xb.2
      have y2 := xf.2
      have y3 := xg.2
      have HN : Hid (Calls Tryz.prog _ _ _ _) := implInside_ret B.ad B.ln B.ow B.lo B.hi B.nw va B.ds.length vc ua B.es.length uc fb B.ds B.es w6 hD hE
      rw [hbk, hin] at HN
      go_wp2_with fail
      refine HN.out.mono ?_
      rintro e w7 ⟨rfl, hb7⟩
      replace xf := xf.below hb7
      replace xg := xg.below hb7
      replace hB := bl_trans hB hb7
      clear hb7 HN y1 y2 y3
      have y2 := xf.2
      have y3 := xg.2
      go_wp2_with fail
      go_ret
      exact ⟨rfl, hB⟩
    · have hc1 : (c != 0) = true := by simpa using hc0
      have hc2 : (c == 0) = false := by simpa using hc0
      by_cases hbk : bookB B.ad B.ln B.ow B.lo B.hi B.nw B.ds B.es = true
      · rw [hbk] at HK
        have hbnd := (book_iff.1 hbk).2.2
        have hnw : 0 ≤ B.nw ∧ B.nw ≤ 1000000 := by
          have p1 := (book_iff.1 hbk).1
          simp only [frameB, inB, Bool.and_eq_true, decide_eq_true_eq] at p1
          omega
        obtain ⟨hnw0, hnw1⟩ := hnw
        have hent : Hid (∀ (i : Nat) d, B.es[i]? = some d → 0 ≤ d.l ∧ d.l ≤ B.nw) := fun i d hi => entryB_last (hbnd.2.1 d (List.mem_of_getElem? hi))
        have hlen : B.es.length ≤ 16 := hbnd.1
        clear hbnd
        go_wp2_with fail
        refine HK.out.mono ?_
        rintro e w6 ⟨rfl, hb6⟩
        replace xb := xb.below hb6
        replace xf := xf.below hb6
        replace hD := hD.below hb6
        replace hE := hE.below hb6
        replace hB := bl_trans hB hb6
        clear hb6 HK y1 y2 y3 y4 xg xw hg
        go_wp2_with fail
        go_loopg [9] B.es.length (fun g i wr => ∃ n : Nat, g = B.es.length - n ∧ n ≤ B.es.length ∧ i = .int .i64 n ∧ Below w.heap.size w wr ∧ Below w6.heap.size w6 wr)
        case atStart => exact ⟨0, by omega, by omega, rfl, hB, bl_refl _⟩
        case round =>
          obtain ⟨n, hgn, hn9, rfl, hB, hC⟩ := hrel
          replace xb := xb.below hC
          replace xf := xf.below hC
          have y1 := xb.2
          have y2 := xf.2
          have hn16 : n ≤ 16 := by omega
          by_cases hlt : n < B.es.length
          · obtain ⟨-, hE⟩ := hE
            rcases hE with hE | ⟨g, o, rfl, hgl, hcs⟩
            · rw [hE] at hlt; simp at hlt
            · obtain ⟨d, hd⟩ : ∃ d, B.es[n]? = some d := ⟨B.es[n], by simp [hlt]⟩
              have hcs := hcs.below hC hgl
              have hgl : g < wr.heap.size := by have := hC.size; omega
              obtain ⟨c0, c1, c2, c3, c4, c5, c6⟩ := hcs n d hd
              obtain ⟨l0, l1⟩ := hent.out n d hd
              have hd : Hid (B.es[n]? = some d) := hd
              have hlt' : (n : Int) < (B.es.length : Int) := by omega
              have hBl := bl_alloc (bl_refl wr) (.cells #[.int .i64 d.k, .int .i64 d.pr, .int .i64 d.pp, .int .i64 d.o, .int .i64 d.i, .int .i64 d.ip, .int .i64 d.l] 52)
              have y5 := (xb.below hBl).2
              have y6 := (xf.below hBl).2
              clear hBl
              by_cases t0 : c = 6
              · have b0 : (c == 6) = true := by simpa using t0
                clear t0
                by_cases t1 : B.nw - d.l < 8
                · by_cases t2 : d.k = k
                  · have b2 : (d.k == k) = true := by simpa using t2
                    clear t2
                    by_cases t3 : d.pr = a
                    · have b3 : (d.pr == a) = true := by simpa using t3
                      clear t3
                      by_cases t4 : d.pp = ap
                      · have b4 : (d.pp == ap) = true := by simpa using t4
                        clear t4
                        by_cases t5 : d.o = bp
                        · have b5 : (d.o == bp) = true := by simpa using t5
                          clear t5
                          exact absurd ⟨t1, by simpa using b2, by simpa using b3, by simpa using b4, by simpa using b5⟩ ((h6.out (by simpa using b0)).1 d (List.mem_of_getElem? hd.out))
                        · have b5 : (d.o == bp) = false := by simpa using t5
                          clear t5
                          go_wp2_with fail
                          go_roundg (B.es.length - (n + 1))
                          case measure => omega
                          case rel => exact ⟨n + 1, rfl, by omega, by go_num, bl_alloc hB _, bl_alloc hC _⟩
                      · have b4 : (d.pp == ap) = false := by simpa using t4
                        clear t4
                        go_wp2_with fail
                        go_roundg (B.es.length - (n + 1))
                        case measure => omega
                        case rel => exact ⟨n + 1, rfl, by omega, by go_num, bl_alloc hB _, bl_alloc hC _⟩
                    · have b3 : (d.pr == a) = false := by simpa using t3
                      clear t3
                      go_wp2_with fail
                      go_roundg (B.es.length - (n + 1))
                      case measure => omega
                      case rel => exact ⟨n + 1, rfl, by omega, by go_num, bl_alloc hB _, bl_alloc hC _⟩
                  · have b2 : (d.k == k) = false := by simpa using t2
                    clear t2
                    go_wp2_with fail
                    go_roundg (B.es.length - (n + 1))
                    case measure => omega
                    case rel => exact ⟨n + 1, rfl, by omega, by go_num, bl_alloc hB _, bl_alloc hC _⟩
                · go_wp2_with fail
                  go_roundg (B.es.length - (n + 1))
                  case measure => omega
                  case rel => exact ⟨n + 1, rfl, by omega, by go_num, bl_alloc hB _, bl_alloc hC _⟩
              · have b0 : (c == 6) = false := by simpa using t0
                clear t0
                go_wp2_with fail
                go_roundg (B.es.length - (n + 1))
                case measure => omega
                case rel => exact ⟨n + 1, rfl, by omega, by go_num, bl_alloc hB _, bl_alloc hC _⟩
          · have hne : n = B.es.length := by omega
            have hlt' : ¬ (n : Int) < (B.es.length : Int) := by omega
            by_cases hs : c = 6
            · have q6 : (c == 6) = true := by simpa using hs
              have q7 : (c != 6) = false := by simpa using hs
              have hno : B.ds.any (takesD k bp) = false := by
                rw [List.any_eq_false]
                intro d hd hx
                simp only [takesD, Bool.and_eq_true, beq_iff_eq] at hx
                exact (h6.out hs).2 d hd hx
              clear hs
              have HW : Hid (Calls Tryz.prog _ _ _ _) := wnDoor_ret B.ad B.ln B.ow B.lo B.hi B.nw va B.ds.length vc ua B.es.length uc k a ap b bp B.ds wr (hD.below hC) hl1
              rw [hno] at HW
              go_wp2_with fail
              refine HW.out.mono ?_
              rintro e w7 ⟨rfl, hb7⟩
              go_wp2_with fail
              go_ret
              exact ⟨rfl, bl_trans hB hb7⟩
            · have q7 : (c != 6) = true := by simpa using hs
              go_wp2_with fail
              go_ret
              exact ⟨rfl, hB⟩
      · have hbk : bookB B.ad B.ln B.ow B.lo B.hi B.nw B.ds B.es = false := by simpa using hbk
        rw [hbk] at HK
        obtain rfl := h1c hbk
        go_wp2_with fail
        refine HK.out.mono ?_
        rintro e w6 ⟨rfl, hb6⟩
        go_wp2_with fail
        go_ret
        exact ⟨rfl, bl_trans hB hb6⟩
  · have hl' : (1048576 : Int) < (cn : Int) := by omega
    go_enter Tryz.func5, Tryz.ntmps5
    go_wp2
    go_ret
    exact ⟨rfl, bl_refl _⟩
end Go.Proofs.YtcgjpmhjijmplaaGreatDoor
