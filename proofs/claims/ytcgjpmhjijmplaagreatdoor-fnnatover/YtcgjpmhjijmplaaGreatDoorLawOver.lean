/- The law FnNatOver, walked: true, whatever the bytes. -/
import Derived.Test.YtcgjpmhjijmplaaGreatDoorDraw15
import Derived.Test.YtcgjpmhjijmplaaGreatDoorWn
import Derived.Test.YtcgjpmhjijmplaaGreatDoorJoinD
import Derived.Deep.DeepCutAuto
namespace Go.Proofs.YtcgjpmhjijmplaaGreatDoor
open Go.ChangeShapes Go.WideShapes Go.ChangeAt Go.RowKit Go.Maps

/-- The lists of a book, in blocks other than x. -/
def ListsO (w : World) (x : Nat) (va ua : Option Addr) (ds : List Dr) (es : List En) : Prop := (ds = [] ∨ ∃ b o, va = some ⟨b, o, none⟩ ∧ b ≠ x ∧ b < w.heap.size ∧ DrCells w b o ds) ∧ (es = [] ∨ ∃ b o, ua = some ⟨b, o, none⟩ ∧ b ≠ x ∧ b < w.heap.size ∧ EnCells w b o es)
section
variable {w w' : World} {x : Nat} {va ua : Option Addr} {ds : List Dr} {es : List En}
theorem ListsO.doors (h : ListsO w x va ua ds es) : DoorsAt w va ds.length ds := ⟨rfl, h.1.imp id fun ⟨b, o, h1, _, h3, h4⟩ => ⟨b, o, h1, h3, h4⟩⟩
theorem ListsO.ents (h : ListsO w x va ua ds es) : EntriesAt w ua es.length es := ⟨rfl, h.2.imp id fun ⟨b, o, h1, _, h3, h4⟩ => ⟨b, o, h1, h3, h4⟩⟩
theorem ListsO.below (h : ListsO w x va ua ds es) (hb : Below w.heap.size w w') : ListsO w' x va ua ds es :=
  ⟨h.1.imp id fun ⟨b, o, h1, h2, h3, h4⟩ => ⟨b, o, h1, h2, Nat.lt_of_lt_of_le h3 hb.size, h4.below hb h3⟩, h.2.imp id fun ⟨b, o, h1, h2, h3, h4⟩ => ⟨b, o, h1, h2, Nat.lt_of_lt_of_le h3 hb.size, h4.below hb h3⟩⟩
set_option maxHeartbeats 2000000 in
theorem ListsO.set8 (h : ListsO w x va ua ds es) (a b c d e f g i : Value) : ListsO (World.setCell (World.setCell (World.setCell (World.setCell (World.setCell (World.setCell (World.setCell (World.setCell w ⟨x, 0, none⟩ (a)) ⟨x, 1, none⟩ (b)) ⟨x, 2, none⟩ (c)) ⟨x, 3, none⟩ (d)) ⟨x, 4, none⟩ (e)) ⟨x, 5, none⟩ (f)) ⟨x, 6, none⟩ (g)) ⟨x, 7, none⟩ (i)) x va ua ds es :=
  ⟨h.1.imp id fun ⟨y, o, h1, h2, h3, h4⟩ => ⟨y, o, h1, h2, by simpa [World.setCell] using h3, dr_other8 h4 h2 a b c d e f g i⟩, h.2.imp id fun ⟨y, o, h1, h2, h3, h4⟩ => ⟨y, o, h1, h2, by simpa [World.setCell] using h3, en_other8 h4 h2 a b c d e f g i⟩⟩
theorem ListsO.old {q : Nat} (hD : DoorsL w q va ds.length ds) (hE : EntriesL w q ua es.length es) (hx : w.heap.size ≤ x) : ListsO w x va ua ds es :=
  ⟨hD.2.imp id fun ⟨b, o, h1, _, h3, h4⟩ => ⟨b, o, h1, by omega, h3, h4⟩, hE.2.imp id fun ⟨b, o, h1, _, h3, h4⟩ => ⟨b, o, h1, by omega, h3, h4⟩⟩
theorem ListsO.own {base vc uc : Nat} (h : OwnB w base (.slice va ds.length vc) ds (.slice ua es.length uc) es) (hx : x < base) : ListsO w x va ua ds es := by
  have hD := doorsL_own h.1 (Nat.le_refl _)
  have hE := entriesL_own h.2.1 (Nat.le_refl _)
  exact ⟨hD.2.imp id fun ⟨b, o, h1, h2, h3, h4⟩ => ⟨b, o, h1, by omega, h3, h4⟩, hE.2.imp id fun ⟨b, o, h1, h2, h3, h4⟩ => ⟨b, o, h1, by omega, h3, h4⟩⟩
end
theorem tickR_len (ad ln ow lo hi nw : Int) (ds : List Dr) (es : List En) : (tickR ad ln ow lo hi nw ds es).ds.length ≤ ds.length ∧ (tickR ad ln ow lo hi nw ds es).es.length ≤ es.length := by
  unfold tickR
  split
  · split
    · exact ⟨Nat.le_refl _, Nat.le_refl _⟩
    · exact ⟨Nat.le_refl _, List.length_filter_le _ _⟩
  · exact ⟨Nat.zero_le _, Nat.zero_le _⟩
theorem gl_set8 {w : World} (h : Gl w) {n : Nat} (hn : 0 < n) (a b c d e f g i : Value) : Gl (World.setCell (World.setCell (World.setCell (World.setCell (World.setCell (World.setCell (World.setCell (World.setCell w ⟨n, 0, none⟩ (a)) ⟨n, 1, none⟩ (b)) ⟨n, 2, none⟩ (c)) ⟨n, 3, none⟩ (d)) ⟨n, 4, none⟩ (e)) ⟨n, 5, none⟩ (f)) ⟨n, 6, none⟩ (g)) ⟨n, 7, none⟩ (i)) := by
  have h1 : ∀ (W : World) (j : Nat) (v : Value), Gl W → Gl (W.setCell ⟨n, j, none⟩ v) := fun W j v h => (World.cell?_setCell_other _ _ _ _ (fun e => by injection e with e1; omega)).trans h
  exact h1 _ _ _ (h1 _ _ _ (h1 _ _ _ (h1 _ _ _ (h1 _ _ _ (h1 _ _ _ (h1 _ _ _ (h1 _ _ _ h)))))))
/-- What the outer loop keeps behind i ticks. -/
def OverJ (w wr : World) (B : Bk) (va : Option Addr) (vc : Nat) (ua : Option Addr) (uc nb nx : Nat) (i : Nat) : Prop :=
  ∃ (X : Bk) (pa : Option Addr) (pc : Nat) (ra : Option Addr) (rc : Nat), OverAt B X i ∧ X.ds.length ≤ 100 ∧ X.es.length ≤ 200 ∧ Bx wr nx #[.int .i64 X.ad, .int .i64 X.ln, .int .i64 X.ow, .int .i64 X.lo, .int .i64 X.hi, .slice pa X.ds.length pc, .int .i64 X.nw, .slice ra X.es.length rc] ∧ ListsO wr nx pa ra X.ds X.es ∧ Box wr nb #[.int .i64 B.ad, .int .i64 B.ln, .int .i64 B.ow, .int .i64 B.lo, .int .i64 B.hi, .slice va B.ds.length vc, .int .i64 B.nw, .slice ua B.es.length uc] ∧ ListsO wr nx va ua B.ds B.es ∧ Below w.heap.size w wr ∧ Gl wr
set_option maxRecDepth 20000 in
set_option maxHeartbeats 8000000 in
theorem lawOver_ret (ca : Option Addr) (cn cc : Nat) (ma : Option Addr) (mn mc : Nat) (w : World) (hg : Gl w) (hn : cn ≤ cc) (hc : cc ≤ maxLen) (hb : BytesIn w ca cn) (hn' : mn ≤ mc) (hc' : mc ≤ maxLen) (hb' : BytesIn w ma mn) :
    Calls Tryz.prog 6 #[.slice ca cn cc, .slice ma mn mc] w fun e w' => e = .returned (.bool true) ∧ Below w.heap.size w w' := by
  have H1 : Hid (Calls Tryz.prog _ _ _ _) := drawTick_ret ca cn cc w hn hc hb
  have HM : Hid (∀ W, Below w.heap.size w W → Calls Tryz.prog 24 #[.slice ma mn mc] W fun e w' => DrawnF w' W.heap.size e ∧ Below W.heap.size W w') := fun W h => drawIn_ret ma mn mc W hn' hc' (hb'.below h)
  have hm : (cn : Int) ≤ 9223372036854775807 := by unfold maxLen at hc; omega
  have hm' : (mn : Int) ≤ 9223372036854775807 := by unfold maxLen at hc'; omega
  clear hc hb hc' hb'
  by_cases hl : (cn : Int) ≤ 1048576
  · by_cases hl' : (mn : Int) ≤ 1048576
    · have n0 : ∀ x : Int, (x != x) = false := fun x => by simp
      go_enter Tryz.func6, Tryz.ntmps6
      go_wp2_with fail
      refine H1.out.mono ?_
      rintro e w1 ⟨⟨B, va, vc, ua, uc, rfl, hD, hE, hl1, hl2, -, -⟩, hb1⟩
      have hBl := bl_alloc (bl_alloc (bl_refl w1) (.cells #[.int .i64 B.ad, .int .i64 B.ln, .int .i64 B.ow, .int .i64 B.lo, .int .i64 B.hi, .slice va B.ds.length vc, .int .i64 B.nw, .slice ua B.es.length uc] 26)) (.cells #[.int .i64 B.ad, .int .i64 B.ln, .int .i64 B.ow, .int .i64 B.lo, .int .i64 B.hi, .slice va B.ds.length vc, .int .i64 B.nw, .slice ua B.es.length uc] 26)
      have xb := (Box.new w1 #[.int .i64 B.ad, .int .i64 B.ln, .int .i64 B.ow, .int .i64 B.lo, .int .i64 B.hi, .slice va B.ds.length vc, .int .i64 B.nw, .slice ua B.es.length uc] 26).below (bl_alloc (bl_refl _) (.cells #[.int .i64 B.ad, .int .i64 B.ln, .int .i64 B.ow, .int .i64 B.lo, .int .i64 B.hi, .slice va B.ds.length vc, .int .i64 B.nw, .slice ua B.es.length uc] 26))
      have xx := Bx.new (w1.alloc (.cells #[.int .i64 B.ad, .int .i64 B.ln, .int .i64 B.ow, .int .i64 B.lo, .int .i64 B.hi, .slice va B.ds.length vc, .int .i64 B.nw, .slice ua B.es.length uc] 26)) #[.int .i64 B.ad, .int .i64 B.ln, .int .i64 B.ow, .int .i64 B.lo, .int .i64 B.hi, .slice va B.ds.length vc, .int .i64 B.nw, .slice ua B.es.length uc] 26
      simp only [World.size_alloc] at xx
      have hL := (ListsO.old hD hE (x := w1.heap.size + 1) (by omega)).below hBl
      replace hg := (hg.below hb1).below hBl
      have hB := bl_trans hb1 hBl
      have hsz := hb1.size
      clear H1 hb1 hBl hD hE
      have y1 := xb.2
      go_wp2_with fail
      clear y1
      generalize ((w1.alloc (.cells #[.int .i64 B.ad, .int .i64 B.ln, .int .i64 B.ow, .int .i64 B.lo, .int .i64 B.hi, .slice va B.ds.length vc, .int .i64 B.nw, .slice ua B.es.length uc] 26)).alloc (.cells #[.int .i64 B.ad, .int .i64 B.ln, .int .i64 B.ow, .int .i64 B.lo, .int .i64 B.hi, .slice va B.ds.length vc, .int .i64 B.nw, .slice ua B.es.length uc] 26)) = W0 at *
      generalize w1.heap.size = nb at *
      have hJ : OverJ w W0 B va vc ua uc nb (nb + 1) 0 := ⟨B, va, vc, ua, uc, over_start B, hl1, hl2, xx, hL, xb, hL, hB, hg⟩
      clear xx xb hL hB hg
      go_loopg [7] 12 (fun g i wr => ∃ n : Nat, g = 12 - n ∧ n ≤ 12 ∧ i = .int .i64 n ∧ OverJ w wr B va vc ua uc nb (nb + 1) n)
      case atStart => exact ⟨0, by omega, by omega, rfl, hJ⟩
      case round =>
        clear hJ
        obtain ⟨n, hgn, hn12, rfl, hJ⟩ := hrel
        obtain ⟨X, pa, pc, ra, rc, hO, hx1, hx2, xx, hL, xb, hLB, hB, hg⟩ := hJ
        have y2 := xx.1.2
        have hsx := xx.1.1
        by_cases hlt : n < 12
        · have hlt' : (n : Int) < 12 := by omega
          have HI : Hid (∀ W, Gl W → ListsO W (nb + 1) pa ra X.ds X.es → Calls Tryz.prog 11 #[.agg #[.int .i64 X.ad, .int .i64 X.ln, .int .i64 X.ow, .int .i64 X.lo, .int .i64 X.hi, .slice pa X.ds.length pc, .int .i64 X.nw, .slice ra X.es.length rc]] W fun e w' => ToldB w' W.heap.size e (tickB X) (tickC X.ad X.ln X.ow X.lo X.hi X.nw X.ds X.es) ∧ Below W.heap.size W w') := fun W h0 h1 => implTick_ret X.ad X.ln X.ow X.lo X.hi X.nw pa X.ds.length pc ra X.es.length rc X.ds X.es W h0 h1.doors h1.ents
          have HS : Hid (∀ W, ListsO W (nb + 1) pa ra X.ds X.es → Calls Tryz.prog 28 #[.agg #[.int .i64 X.ad, .int .i64 X.ln, .int .i64 X.ow, .int .i64 X.lo, .int .i64 X.hi, .slice pa X.ds.length pc, .int .i64 X.nw, .slice ra X.es.length rc]] W fun e w' => ToldB w' W.heap.size e (tickB X) (tickC X.ad X.ln X.ow X.lo X.hi X.nw X.ds X.es) ∧ Below W.heap.size W w') := fun W h1 => specTick_ret X.ad X.ln X.ow X.lo X.hi X.nw pa X.ds.length pc ra X.es.length rc X.ds X.es W h1.doors h1.ents
          have hlen := tickR_len X.ad X.ln X.ow X.lo X.hi X.nw X.ds X.es
          have hO2 := over_step hO
          have H6 : Hid (tickC X.ad X.ln X.ow X.lo X.hi X.nw X.ds X.es = 0 → 8 ≤ n + 1 → ∀ e ∈ B.es, inCode (tickB X).ad (tickB X).ln (tickB X).ow (tickB X).lo (tickB X).hi (tickB X).nw (tickB X).ds (tickB X).es e.k e.pr e.pp B.ow e.o = 6) := fun h1 h2 e he => over_in hO h1 h2 he
          have hY1 : (tickB X).ds.length ≤ 100 := Nat.le_trans hlen.1 hx1
          have hY2 : (tickB X).es.length ≤ 200 := Nat.le_trans hlen.2 hx2
          clear hlen hO
          generalize tickC X.ad X.ln X.ow X.lo X.hi X.nw X.ds X.es = c at *
          generalize tickB X = Y at *
          go_wp2_with fail
          refine (HI.out _ hg hL).mono ?_
          rintro e w2 ⟨⟨qa, qc, sa, sc, rfl, hOw⟩, hb2⟩
          have hLY := ListsO.own hOw (x := nb + 1) (by omega)
          have hBl := bl_alloc (bl_refl w2) (.cells #[.int .i64 Y.ad, .int .i64 Y.ln, .int .i64 Y.ow, .int .i64 Y.lo, .int .i64 Y.hi, .slice qa Y.ds.length qc, .int .i64 Y.nw, .slice sa Y.es.length sc] 26)
          have hb3 := bl_trans hb2 hBl
          have xy := Box.new w2 #[.int .i64 Y.ad, .int .i64 Y.ln, .int .i64 Y.ow, .int .i64 Y.lo, .int .i64 Y.hi, .slice qa Y.ds.length qc, .int .i64 Y.nw, .slice sa Y.es.length sc] 26
          replace hLY := hLY.below hBl
          replace xx := xx.below hb3
          replace hL := hL.below hb3
          replace xb := xb.below hb3
          replace hLB := hLB.below hb3
          replace hB := bl_trans hB hb3
          replace hg := hg.below hb3
          clear hb2 hBl hb3 HI y2 hOw
          have y2 := xx.1.2
          have hsx := xx.1.1
          go_wp2_with fail
          generalize (w2.alloc (.cells #[.int .i64 Y.ad, .int .i64 Y.ln, .int .i64 Y.ow, .int .i64 Y.lo, .int .i64 Y.hi, .slice qa Y.ds.length qc, .int .i64 Y.nw, .slice sa Y.es.length sc] 26)) = W3 at *
          generalize w2.heap.size = ny at *
          refine (HS.out _ hL).mono ?_
          rintro e w4 ⟨⟨ga, gc, ha, hc, rfl, hOw⟩, hb4⟩
          have hLZ := ListsO.own hOw (x := nb + 1) (by omega)
          have hBl := bl_alloc (bl_refl w4) (.cells #[.int .i64 Y.ad, .int .i64 Y.ln, .int .i64 Y.ow, .int .i64 Y.lo, .int .i64 Y.hi, .slice ga Y.ds.length gc, .int .i64 Y.nw, .slice ha Y.es.length hc] 26)
          have hb5 := bl_trans hb4 hBl
          have xz := Box.new w4 #[.int .i64 Y.ad, .int .i64 Y.ln, .int .i64 Y.ow, .int .i64 Y.lo, .int .i64 Y.hi, .slice ga Y.ds.length gc, .int .i64 Y.nw, .slice ha Y.es.length hc] 26
          replace hLZ := hLZ.below hBl
          replace xx := xx.below hb5
          replace hLY := hLY.below hb5
          replace xy := xy.below hb5
          replace xb := xb.below hb5
          replace hLB := hLB.below hb5
          replace hB := bl_trans hB hb5
          replace hg := hg.below hb5
          clear hb4 hBl hb5 HS y2 hOw hL
          have HW : Hid (Calls Tryz.prog _ _ _ _) := wnBook_same Y qa qc sa sc ga gc ha hc _ hLY.doors hLY.ents hLZ.doors hLZ.ents (by omega) (by omega)
          have y3 := xy.2
          have y4 := xz.2
          have ncc := n0 c
          go_wp2_with fail
          refine HW.out.mono ?_
          rintro e w6 ⟨rfl, hb6⟩
          replace xx := xx.below hb6
          replace xx := xx.below (bl_refl _)
          replace hLY := hLY.below hb6
          replace xy := xy.below hb6
          replace xb := xb.below hb6
          replace hLB := hLB.below hb6
          replace hB := bl_trans hB hb6
          replace hg := hg.below hb6
          clear hb6 HW y3 y4 xz hLZ
          have y3 := xy.2
          obtain ⟨⟨p1, p2⟩, p3⟩ := id xx
          go_upto_region 13 with fail
          replace xx := xx.set8 (.int .i64 Y.ad) (.int .i64 Y.ln) (.int .i64 Y.ow) (.int .i64 Y.lo) (.int .i64 Y.hi) (.slice qa Y.ds.length qc) (.int .i64 Y.nw) (.slice sa Y.es.length sc)
          replace hLY := hLY.set8 (.int .i64 Y.ad) (.int .i64 Y.ln) (.int .i64 Y.ow) (.int .i64 Y.lo) (.int .i64 Y.hi) (.slice qa Y.ds.length qc) (.int .i64 Y.nw) (.slice sa Y.es.length sc)
          replace hLB := hLB.set8 (.int .i64 Y.ad) (.int .i64 Y.ln) (.int .i64 Y.ow) (.int .i64 Y.lo) (.int .i64 Y.hi) (.slice qa Y.ds.length qc) (.int .i64 Y.nw) (.slice sa Y.es.length sc)
          replace xb := xb.other8 (n := nb + 1) (by omega) (.int .i64 Y.ad) (.int .i64 Y.ln) (.int .i64 Y.ow) (.int .i64 Y.lo) (.int .i64 Y.hi) (.slice qa Y.ds.length qc) (.int .i64 Y.nw) (.slice sa Y.es.length sc)
          replace hB := bl_set8d hB (n := nb + 1) (by omega) (.int .i64 Y.ad) (.int .i64 Y.ln) (.int .i64 Y.ow) (.int .i64 Y.lo) (.int .i64 Y.hi) (.slice qa Y.ds.length qc) (.int .i64 Y.nw) (.slice sa Y.es.length sc)
          replace hg : Gl _ := gl_set8 hg (n := nb + 1) (by omega) (.int .i64 Y.ad) (.int .i64 Y.ln) (.int .i64 Y.ow) (.int .i64 Y.lo) (.int .i64 Y.hi) (.slice qa Y.ds.length qc) (.int .i64 Y.nw) (.slice sa Y.es.length sc)
          clear p1 p2 p3 y3 xy
          generalize (World.setCell (World.setCell (World.setCell (World.setCell (World.setCell (World.setCell (World.setCell (World.setCell w6 ⟨nb + 1, 0, none⟩ (.int .i64 Y.ad)) ⟨nb + 1, 1, none⟩ (.int .i64 Y.ln)) ⟨nb + 1, 2, none⟩ (.int .i64 Y.ow)) ⟨nb + 1, 3, none⟩ (.int .i64 Y.lo)) ⟨nb + 1, 4, none⟩ (.int .i64 Y.hi)) ⟨nb + 1, 5, none⟩ (.slice qa Y.ds.length qc)) ⟨nb + 1, 6, none⟩ (.int .i64 Y.nw)) ⟨nb + 1, 7, none⟩ (.slice sa Y.es.length sc)) = W7 at *
          go_wp2_with fail
          go_loopg [12] B.es.length (fun g i wq => ∃ m : Nat, g = B.es.length - m ∧ m ≤ B.es.length ∧ i = .int .i64 m ∧ Bx wq (nb + 1) #[.int .i64 Y.ad, .int .i64 Y.ln, .int .i64 Y.ow, .int .i64 Y.lo, .int .i64 Y.hi, .slice qa Y.ds.length qc, .int .i64 Y.nw, .slice sa Y.es.length sc] ∧ ListsO wq (nb + 1) qa sa Y.ds Y.es ∧ Box wq nb #[.int .i64 B.ad, .int .i64 B.ln, .int .i64 B.ow, .int .i64 B.lo, .int .i64 B.hi, .slice va B.ds.length vc, .int .i64 B.nw, .slice ua B.es.length uc] ∧ ListsO wq (nb + 1) va ua B.ds B.es ∧ Below w.heap.size w wq ∧ Gl wq)
          case atStart => exact ⟨0, by omega, by omega, rfl, xx, hLY, xb, hLB, hB, hg⟩
          case round =>
            clear xx hLY xb hLB hB hg
            obtain ⟨m, hgm, hm9, rfl, xx, hLY, xb, hLB, hB, hg⟩ := hrel
            have y1 := xb.2
            have hm16 : m ≤ 200 := by omega
            have hw1 : IntKind.i64.wrap ((n : Int) + 1) = (n : Int) + 1 := wrap_of _ (by omega) (by omega)
            by_cases hmt : m < B.es.length
            · have hmt' : (m : Int) < (B.es.length : Int) := by omega
              by_cases h8 : 8 ≤ n + 1
              · have h8' : (8 : Int) ≤ (n : Int) + 1 := by omega
                by_cases hc0 : c = 0
                · have hc1 : (c == 0) = true := by simpa using hc0
                  have hE := hLB.2
                  rcases hE with hE | ⟨g, o, rfl, hgx, hgl, hcs⟩
                  · rw [hE] at hmt; simp at hmt
                  · obtain ⟨d, hd⟩ : ∃ d, B.es[m]? = some d := ⟨B.es[m], by simp [hmt]⟩
                    obtain ⟨c0, c1, c2, c3, c4, c5, c6⟩ := hcs m d hd
                    have hsix := H6.out hc0 h8 d (List.mem_of_getElem? hd)
                    have hd : Hid (B.es[m]? = some d) := hd
                    clear hc0
                    obtain ⟨fk, fa, fap, fb, fbp, hT, -⟩ := told_form (ad := Y.ad) (ln := Y.ln) (ow := Y.ow) (lo := Y.lo) (hi := Y.hi) (nw := Y.nw) (ds := Y.ds) (es := Y.es) (k := d.k) (a := d.pr) (ap := d.pp) (b := B.ow) (bp := d.o)
                    have HN : Hid (∀ W, Gl W → ListsO W (nb + 1) qa sa Y.ds Y.es → Calls Tryz.prog 16 #[.agg #[.int .i64 Y.ad, .int .i64 Y.ln, .int .i64 Y.ow, .int .i64 Y.lo, .int .i64 Y.hi, .slice qa Y.ds.length qc, .int .i64 Y.nw, .slice sa Y.es.length sc], .agg #[.int .i64 d.k, .int .i64 d.pr, .int .i64 d.pp, .int .i64 B.ow, .int .i64 d.o]] W fun e w' => e = .returned (.tuple #[.agg #[.int .i64 fk, .int .i64 fa, .int .i64 fap, .int .i64 fb, .int .i64 fbp], .int .i64 6]) ∧ Below W.heap.size W w') := fun W h0 h1 => by have := implIn_ret Y.ad Y.ln Y.ow Y.lo Y.hi Y.nw qa Y.ds.length qc sa Y.es.length sc d.k d.pr d.pp B.ow d.o Y.ds Y.es W h0 h1.doors h1.ents; rw [hT, hsix] at this; exact this
                    clear hT hsix
                    have hBl := bl_alloc (bl_alloc (bl_refl wr) (.cells #[.int .i64 d.k, .int .i64 d.pr, .int .i64 d.pp, .int .i64 d.o, .int .i64 d.i, .int .i64 d.ip, .int .i64 d.l] 52)) (.cells #[.int .i64 d.k, .int .i64 d.pr, .int .i64 d.pp, .int .i64 B.ow, .int .i64 d.o] 32)
                    have ye := (Box.new wr #[.int .i64 d.k, .int .i64 d.pr, .int .i64 d.pp, .int .i64 d.o, .int .i64 d.i, .int .i64 d.ip, .int .i64 d.l] 52).below (bl_alloc (bl_refl _) (.cells #[.int .i64 d.k, .int .i64 d.pr, .int .i64 d.pp, .int .i64 B.ow, .int .i64 d.o] 32))
                    have yf := Box.new (wr.alloc (.cells #[.int .i64 d.k, .int .i64 d.pr, .int .i64 d.pp, .int .i64 d.o, .int .i64 d.i, .int .i64 d.ip, .int .i64 d.l] 52)) #[.int .i64 d.k, .int .i64 d.pr, .int .i64 d.pp, .int .i64 B.ow, .int .i64 d.o] 32
                    simp only [World.size_alloc] at yf
                    have y7 := (xb.below (bl_alloc (bl_refl wr) (.cells #[.int .i64 d.k, .int .i64 d.pr, .int .i64 d.pp, .int .i64 d.o, .int .i64 d.i, .int .i64 d.ip, .int .i64 d.l] 52))).2
                    replace xx := xx.below hBl
                    replace hLY := hLY.below hBl
                    replace xb := xb.below hBl
                    replace hLB := hLB.below hBl
                    replace hB := bl_trans hB hBl
                    replace hg := hg.below hBl
                    have y2 := xx.1.2
                    have y5 := yf.2
                    clear hBl
                    go_wp2_with fail
                    refine (HN.out _ hg hLY).mono ?_
                    rintro e w8 ⟨rfl, hb8⟩
                    have hb9 := bl_trans hb8 (bl_alloc (bl_refl w8) (.cells #[.int .i64 fk, .int .i64 fa, .int .i64 fap, .int .i64 fb, .int .i64 fbp] 32))
                    replace xx := xx.below hb9
                    replace hLY := hLY.below hb9
                    replace xb := xb.below hb9
                    replace hLB := hLB.below hb9
                    replace hB := bl_trans hB hb9
                    replace hg := hg.below hb9
                    clear y1 y2 y5 y7 ye yf hb8 hb9 c0 c1 c2 c3 c4 c5 c6
                    go_wp2_with fail
                    go_roundg (B.es.length - (m + 1))
                    case measure => omega
                    case rel => exact ⟨m + 1, rfl, by omega, by go_num, xx, hLY, xb, hLB, hB, hg⟩
                · have hc1 : (c == 0) = false := by simpa using hc0
                  clear hc0
                  go_wp2_with fail
                  go_roundg (12 - (n + 1))
                  case measure => omega
                  case rel => exact ⟨n + 1, rfl, by omega, by go_num, Y, qa, qc, sa, sc, hO2, hY1, hY2, xx, hLY, xb, hLB, hB, hg⟩
              · have h8' : ¬ (8 : Int) ≤ (n : Int) + 1 := by omega
                go_wp2_with fail
                go_roundg (12 - (n + 1))
                case measure => omega
                case rel => exact ⟨n + 1, rfl, by omega, by go_num, Y, qa, qc, sa, sc, hO2, hY1, hY2, xx, hLY, xb, hLB, hB, hg⟩
            · have hmt' : ¬ (m : Int) < (B.es.length : Int) := by omega
              go_wp2_with fail
              go_roundg (12 - (n + 1))
              case measure => omega
              case rel => exact ⟨n + 1, rfl, by omega, by go_num, Y, qa, qc, sa, sc, hO2, hY1, hY2, xx, hLY, xb, hLB, hB, hg⟩
        · have hlt' : ¬ (n : Int) < 12 := by omega
          obtain rfl : n = 12 := by omega
          have y1 := xb.2
          have HK : Hid (Calls Tryz.prog _ _ _ _) := specBookOk_ret B.ad B.ln B.ow B.lo B.hi B.nw va B.ds.length vc ua B.es.length uc B.ds B.es wr hLB.doors hLB.ents
          by_cases hbk : bookB B.ad B.ln B.ow B.lo B.hi B.nw B.ds B.es = true
          · rw [hbk] at HK
            have hnw : 0 ≤ B.nw ∧ B.nw ≤ 1000000 := by
              have p1 := (book_iff.1 hbk).1
              simp only [frameB, inB, Bool.and_eq_true, decide_eq_true_eq] at p1
              omega
            obtain ⟨hnw0, hnw1⟩ := hnw
            have hend := over_end hO hbk
            go_wp2_with fail
            refine HK.out.mono ?_
            rintro e w5 ⟨rfl, hb5⟩
            replace xx := xx.below hb5
            replace hL := hL.below hb5
            replace xb := xb.below hb5
            replace hB := bl_trans hB hb5
            replace hg := hg.below hb5
            clear hb5 HK y1 y2
            go_wp2_with fail
            refine (HM.out _ hB).mono ?_
            rintro e w6 ⟨⟨B2, ta, tc, za, zc, k, a, ap, b, bp, rfl, -, -, -, -⟩, hb6⟩
            have hBl := bl_alloc (bl_alloc (bl_refl w6) (.cells #[.int .i64 B2.ad, .int .i64 B2.ln, .int .i64 B2.ow, .int .i64 B2.lo, .int .i64 B2.hi, .slice ta B2.ds.length tc, .int .i64 B2.nw, .slice za B2.es.length zc] 26)) (.cells #[.int .i64 k, .int .i64 a, .int .i64 ap, .int .i64 b, .int .i64 bp] 32)
            have xf := Box.new (w6.alloc (.cells #[.int .i64 B2.ad, .int .i64 B2.ln, .int .i64 B2.ow, .int .i64 B2.lo, .int .i64 B2.hi, .slice ta B2.ds.length tc, .int .i64 B2.nw, .slice za B2.es.length zc] 26)) #[.int .i64 k, .int .i64 a, .int .i64 ap, .int .i64 b, .int .i64 bp] 32
            simp only [World.size_alloc] at xf
            have hb7 := bl_trans hb6 hBl
            replace xx := xx.below hb7
            replace hL := hL.below hb7
            replace xb := xb.below hb7
            replace hB := bl_trans hB hb7
            replace hg := hg.below hb7
            clear hb6 hBl hb7 HM
            obtain ⟨fk, fa, fap, fb, fbp, hT, -⟩ := told_form (ad := X.ad) (ln := X.ln) (ow := X.ow) (lo := X.lo) (hi := X.hi) (nw := X.nw) (ds := X.ds) (es := X.es) (k := k) (a := a) (ap := ap) (b := b) (bp := bp)
            have HI : Hid (∀ W, Gl W → ListsO W (nb + 1) pa ra X.ds X.es → Calls Tryz.prog 16 #[.agg #[.int .i64 X.ad, .int .i64 X.ln, .int .i64 X.ow, .int .i64 X.lo, .int .i64 X.hi, .slice pa X.ds.length pc, .int .i64 X.nw, .slice ra X.es.length rc], .agg #[.int .i64 k, .int .i64 a, .int .i64 ap, .int .i64 b, .int .i64 bp]] W fun e w' => e = .returned (.tuple #[.agg #[.int .i64 fk, .int .i64 fa, .int .i64 fap, .int .i64 fb, .int .i64 fbp], .int .i64 (inCode X.ad X.ln X.ow X.lo X.hi X.nw X.ds X.es k a ap b bp)]) ∧ Below W.heap.size W w') := fun W h0 h1 => by rw [← hT]; exact implIn_ret X.ad X.ln X.ow X.lo X.hi X.nw pa X.ds.length pc ra X.es.length rc k a ap b bp X.ds X.es W h0 h1.doors h1.ents
            have HS : Hid (∀ W, ListsO W (nb + 1) pa ra X.ds X.es → Calls Tryz.prog 25 #[.agg #[.int .i64 X.ad, .int .i64 X.ln, .int .i64 X.ow, .int .i64 X.lo, .int .i64 X.hi, .slice pa X.ds.length pc, .int .i64 X.nw, .slice ra X.es.length rc], .agg #[.int .i64 k, .int .i64 a, .int .i64 ap, .int .i64 b, .int .i64 bp]] W fun e w' => e = .returned (.tuple #[.agg #[.int .i64 fk, .int .i64 fa, .int .i64 fap, .int .i64 fb, .int .i64 fbp], .int .i64 (inCode X.ad X.ln X.ow X.lo X.hi X.nw X.ds X.es k a ap b bp)]) ∧ Below W.heap.size W w') := fun W h1 => by rw [← hT]; exact specIn_ret X.ad X.ln X.ow X.lo X.hi X.nw pa X.ds.length pc ra X.es.length rc k a ap b bp X.ds X.es W h1.doors h1.ents
            clear hT
            generalize inCode X.ad X.ln X.ow X.lo X.hi X.nw X.ds X.es k a ap b bp = c at *
            have y2 := xx.1.2
            have y3 := xf.2
            go_wp2_with fail
            refine (HI.out _ hg hL).mono ?_
            rintro e w8 ⟨rfl, hb8⟩
            have hb9 := bl_trans hb8 (bl_alloc (bl_refl w8) (.cells #[.int .i64 fk, .int .i64 fa, .int .i64 fap, .int .i64 fb, .int .i64 fbp] 32))
            replace xx := xx.below hb9
            replace hL := hL.below hb9
            replace xb := xb.below hb9
            replace xf := xf.below hb9
            replace hB := bl_trans hB hb9
            clear hb8 hb9 HI y2 y3 hg
            have y2 := xx.1.2
            have y3 := xf.2
            go_wp2_with fail
            refine (HS.out _ hL).mono ?_
            rintro e w10 ⟨rfl, hb10⟩
            have hb11 := bl_trans hb10 (bl_alloc (bl_refl w10) (.cells #[.int .i64 fk, .int .i64 fa, .int .i64 fap, .int .i64 fb, .int .i64 fbp] 32))
            replace xx := xx.below hb11
            replace xb := xb.below hb11
            replace hB := bl_trans hB hb11
            clear hb10 hb11 HS y2 y3 hL xf
            have y1 := xb.2
            have y2 := xx.1.2
            have hw1 : IntKind.i64.wrap (B.nw + 8) = B.nw + 8 := wrap_of _ (by omega) (by omega)
            have hw2 : IntKind.i64.wrap (B.nw + 8 + 4) = B.nw + 8 + 4 := wrap_of _ (by omega) (by omega)
            have hcc : (c == c) = true := by simp
            by_cases hbig : B.nw + 8 + 4 > 1000000
            · go_wp2_with fail
              go_ret
              exact ⟨rfl, hB⟩
            · have hemp : X.es = [] := by
                rcases hend with h | h
                · omega
                · exact h
              have hlen0 : X.es.length = 0 := by rw [hemp]; rfl
              have hlen1 : ((X.es.length : Int) == 0) = true := by rw [hlen0]; rfl
              go_wp2_with fail
              go_ret
              exact ⟨rfl, hB⟩
          · have hbk' : bookB B.ad B.ln B.ow B.lo B.hi B.nw B.ds B.es = false := by simpa using hbk
            rw [hbk'] at HK
            obtain rfl := over_zero hO hbk
            have HW : Hid (∀ W, Calls Tryz.prog 15 #[.agg #[.int .i64 0, .int .i64 0, .int .i64 0, .int .i64 0, .int .i64 0, .slice pa 0 pc, .int .i64 0, .slice ra 0 rc], .agg #[.int .i64 0, .int .i64 0, .int .i64 0, .int .i64 0, .int .i64 0, .slice none 0 0, .int .i64 0, .slice none 0 0]] W fun e w' => e = .returned (.bool true) ∧ Below W.heap.size W w') := fun W => wnBook_same zeroB pa pc ra rc none 0 none 0 W ⟨rfl, Or.inl rfl⟩ ⟨rfl, Or.inl rfl⟩ ⟨rfl, Or.inl rfl⟩ ⟨rfl, Or.inl rfl⟩ (by decide) (by decide)
            have xz : Bx wr (nb + 1) #[.int .i64 0, .int .i64 0, .int .i64 0, .int .i64 0, .int .i64 0, .slice pa 0 pc, .int .i64 0, .slice ra 0 rc] := xx
            clear xx y2
            go_wp2_with fail
            refine HK.out.mono ?_
            rintro e w5 ⟨rfl, hb5⟩
            replace xz := xz.below hb5
            have y2 := xz.1.2
            go_wp2_with fail
            refine (HW.out _).mono ?_
            rintro e w6 ⟨rfl, hb6⟩
            go_wp2_with fail
            go_ret
            exact ⟨rfl, bl_trans (bl_trans hB hb5) hb6⟩
    · have hl2 : (1048576 : Int) < (mn : Int) := by omega
      go_enter Tryz.func6, Tryz.ntmps6
      go_wp2
      go_ret
      exact ⟨rfl, bl_refl _⟩
  · have hl2 : (1048576 : Int) < (cn : Int) := by omega
    go_enter Tryz.func6, Tryz.ntmps6
    go_wp2
    go_ret
    exact ⟨rfl, bl_refl _⟩
end Go.Proofs.YtcgjpmhjijmplaaGreatDoor
