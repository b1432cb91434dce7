/- The law FnNatThere, walked: true, whatever the bytes. -/
import Derived.Test.YtcgjpmhjijmplaaGreatDoorDraw15
import Derived.Test.YtcgjpmhjijmplaaGreatDoorWn
import Derived.Test.YtcgjpmhjijmplaaGreatDoorGo8
import Derived.Deep.DeepCutAuto
namespace Go.Proofs.YtcgjpmhjijmplaaGreatDoor
open Go.ChangeShapes Go.WideShapes Go.ChangeAt Go.RowKit Go.Maps

theorem bl_set5b {w0 w : World} {n : Nat} {C : Array Value} (_h : Bx w n C) (hB : Below w0.heap.size w0 w) (hn : w0.heap.size ≤ n) (a b c d e : Value) : Below w0.heap.size w0 (((((w.setCell ⟨n, 0, none⟩ a).setCell ⟨n, 1, none⟩ b).setCell ⟨n, 2, none⟩ c).setCell ⟨n, 3, none⟩ d).setCell ⟨n, 4, none⟩ e) := bl_set5 hB hn a b c d e
theorem Box.other5b {w : World} {n m : Nat} {C D : Array Value} (_h : Bx w n C) (x : Box w m D) (hm : m ≠ n) (a b c d e : Value) : Box (((((w.setCell ⟨n, 0, none⟩ a).setCell ⟨n, 1, none⟩ b).setCell ⟨n, 2, none⟩ c).setCell ⟨n, 3, none⟩ d).setCell ⟨n, 4, none⟩ e) m D := x.other5 hm a b c d e
theorem out_zero {B : Bk} {k a ap b bp : Int} (h : (outM B k a ap b bp).c = 0) : bookB B.ad B.ln B.ow B.lo B.hi B.nw B.ds B.es = true ∧ flowB k a ap b bp = true ∧ goesB B.ad B.ln B.ow a b = true := by
  unfold outM at h
  by_cases h1 : bookB B.ad B.ln B.ow B.lo B.hi B.nw B.ds B.es = true
  · by_cases h2 : flowB k a ap b bp = true
    · by_cases h3 : goesB B.ad B.ln B.ow a b = true
      · exact ⟨h1, h2, h3⟩
      · simp [h1, h2, h3] at h
    · simp [h1, h2] at h
  · simp [h1] at h
theorem goes_own {B : Bk} {k a ap b bp : Int} {O : Out} (h : Goes B k a ap b bp O) : O.R.ow = B.ow ∧ O.R.ds.length ≤ B.ds.length ∧ O.R.es.length ≤ B.es.length + 1 := by
  rcases h with ⟨d, hd, rfl⟩ | ⟨l1, e, l2, hd, hs, he, hl, rfl⟩ | ⟨hd, he, hl, rfl⟩ | ⟨p, hd, he, hl, hp, rfl⟩ | ⟨hd, he, hl, hp, rfl⟩
  · exact ⟨rfl, Nat.le_refl _, Nat.le_succ _⟩
  · refine ⟨rfl, Nat.le_refl _, ?_⟩
    show (l1 ++ again B.nw e :: l2).length ≤ B.es.length + 1
    rw [hs]; simp
  · exact ⟨rfl, Nat.le_refl _, Nat.le_succ _⟩
  · exact ⟨rfl, Nat.le_refl _, by show (putE _ _).length ≤ _; rw [putE_length]; exact Nat.le_refl _⟩
  · exact ⟨rfl, Nat.le_refl _, Nat.le_succ _⟩
/-- What is known of a flow that went out. -/
def ThereAt (B X : Bk) (G : Fl) (k a ap b bp : Int) : Prop := ∃ p, G = ⟨k, B.ow, p, b, bp⟩ ∧ inCode X.ad X.ln X.ow X.lo X.hi X.nw X.ds X.es k b bp B.ow p = 0 ∧ (inSeat X.ad X.ln X.ow X.lo X.hi X.nw X.ds X.es k b bp B.ow p).2 = (a, ap) ∧ outM X k a ap b bp = ⟨X, ⟨k, B.ow, p, b, bp⟩, 0⟩
theorem out_parts {B X : Bk} {G : Fl} {c k a ap b bp : Int} (h : outM B k a ap b bp = ⟨X, G, c⟩) : X.ds.length ≤ B.ds.length ∧ X.es.length ≤ B.es.length + 1 ∧ ((c = 0 ∧ ThereAt B X G k a ap b bp) ∨ ((c != 0) = true ∧ G = zeroF ∧ ((c == 1) = true ∨ (c == 1) = false ∧ X = B))) := by
  have hf := out_forms B k a ap b bp
  rw [h] at hf
  simp only at hf
  rcases hf with ⟨h0, hG⟩ | ⟨h0, hG⟩ | ⟨h0, h1, hG, -⟩
  · subst h0
    have hz : (outM B k a ap b bp).c = 0 := by rw [h]
    obtain ⟨z1, z2, z3⟩ := out_zero hz
    have hg := out_goes z1 z2 z3
    have hi := goes_in z1 z2 z3 hg hz
    have ha := goes_again z1 z2 z3 hg hz
    obtain ⟨how, hl1, hl2⟩ := goes_own hg
    rw [h] at hi ha how hl1 hl2
    simp only at hi ha how hl1 hl2
    rw [how] at hi
    refine ⟨hl1, hl2, Or.inl ⟨rfl, G.ap, hG, ?_, ?_, ?_⟩⟩
    · rw [how]; exact hi.1
    · rw [how]; exact hi.2
    · rw [ha]; rw [hG]
  · simp only [Out.mk.injEq] at hG
    obtain ⟨rfl, rfl, -⟩ := hG
    subst h0
    exact ⟨Nat.zero_le _, Nat.zero_le _, Or.inr ⟨by decide, rfl, Or.inl (by decide)⟩⟩
  · simp only [Out.mk.injEq] at hG
    obtain ⟨rfl, rfl, -⟩ := hG
    exact ⟨Nat.le_refl _, Nat.le_succ _, Or.inr ⟨by simpa using h0, rfl, Or.inr ⟨h1, rfl⟩⟩⟩
theorem run_eql_same (w : World) (k a ap b bp : Int) : (binOp .eql 32 (.agg #[.int .i64 k, .int .i64 a, .int .i64 ap, .int .i64 b, .int .i64 bp]) (.agg #[.int .i64 k, .int .i64 a, .int .i64 ap, .int .i64 b, .int .i64 bp])).run Tryz.prog w = .ok (.bool true) w := by
  rw [run_eql_flow, flowEq_self]
set_option maxRecDepth 20000 in
set_option maxHeartbeats 8000000 in
theorem lawThere_ret (ca : Option Addr) (cn cc : Nat) (w : World) (hg : Gl w) (hn : cn ≤ cc) (hc : cc ≤ maxLen) (hb : BytesIn w ca cn) :
    Calls Tryz.prog 4 #[.slice ca cn cc] w fun e w' => e = .returned (.bool true) ∧ Below w.heap.size w w' := by
  have H1 : Hid (Calls Tryz.prog _ _ _ _) := drawOut_ret ca cn cc w hn hc hb
  have hm : (cn : Int) ≤ 9223372036854775807 := by unfold maxLen at hc; omega
  clear hc hb
  by_cases hl : (cn : Int) ≤ 1048576
  · go_enter Tryz.func4, Tryz.ntmps4
    go_wp2_with fail
    refine H1.out.mono ?_
    rintro e w1 ⟨⟨B, va, vc, ua, uc, k, a, ap, b, bp, rfl, hD, hE, hl1, hl2⟩, hb1⟩
    replace hD := hD.at
    replace hE := hE.at
    have hBl := bl_alloc (bl_alloc (bl_refl w1) (.cells #[.int .i64 B.ad, .int .i64 B.ln, .int .i64 B.ow, .int .i64 B.lo, .int .i64 B.hi, .slice va B.ds.length vc, .int .i64 B.nw, .slice ua B.es.length uc] 26)) (.cells #[.int .i64 k, .int .i64 a, .int .i64 ap, .int .i64 b, .int .i64 bp] 32)
    have xb := (Box.new w1 #[.int .i64 B.ad, .int .i64 B.ln, .int .i64 B.ow, .int .i64 B.lo, .int .i64 B.hi, .slice va B.ds.length vc, .int .i64 B.nw, .slice ua B.es.length uc] 26).below (bl_alloc (bl_refl _) (.cells #[.int .i64 k, .int .i64 a, .int .i64 ap, .int .i64 b, .int .i64 bp] 32))
    have xf := Box.new (w1.alloc (.cells #[.int .i64 B.ad, .int .i64 B.ln, .int .i64 B.ow, .int .i64 B.lo, .int .i64 B.hi, .slice va B.ds.length vc, .int .i64 B.nw, .slice ua B.es.length uc] 26)) #[.int .i64 k, .int .i64 a, .int .i64 ap, .int .i64 b, .int .i64 bp] 32
    simp only [World.size_alloc] at xf
    replace hD := hD.below hBl
    replace hE := hE.below hBl
    have hg : Hid (∀ W, Below w.heap.size w W → Gl W) := fun W h => hg.below h
    have hB := bl_trans hb1 hBl
    clear H1 hb1 hBl
    obtain ⟨⟨X, G, c⟩, hO⟩ : ∃ O, outM B k a ap b bp = O := ⟨_, rfl⟩
    have HI : Hid (∀ W, Gl W → DoorsAt W va B.ds.length B.ds → EntriesAt W ua B.es.length B.es → Calls Tryz.prog 13 #[.agg #[.int .i64 B.ad, .int .i64 B.ln, .int .i64 B.ow, .int .i64 B.lo, .int .i64 B.hi, .slice va B.ds.length vc, .int .i64 B.nw, .slice ua B.es.length uc], .agg #[.int .i64 k, .int .i64 a, .int .i64 ap, .int .i64 b, .int .i64 bp]] W fun e w' => ToldO w' W.heap.size e ⟨X, G, c⟩ ∧ Below W.heap.size W w') := fun W h0 h1 h2 => by rw [← hO]; exact implOut_ret B.ad B.ln B.ow B.lo B.hi B.nw va B.ds.length vc ua B.es.length uc k a ap b bp B.ds B.es W h0 h1 h2
    have HS : Hid (∀ W, DoorsAt W va B.ds.length B.ds → EntriesAt W ua B.es.length B.es → Calls Tryz.prog 14 #[.agg #[.int .i64 B.ad, .int .i64 B.ln, .int .i64 B.ow, .int .i64 B.lo, .int .i64 B.hi, .slice va B.ds.length vc, .int .i64 B.nw, .slice ua B.es.length uc], .agg #[.int .i64 k, .int .i64 a, .int .i64 ap, .int .i64 b, .int .i64 bp]] W fun e w' => ToldO w' W.heap.size e ⟨X, G, c⟩ ∧ Below W.heap.size W w') := fun W h1 h2 => by rw [← hO]; exact specOut_ret B.ad B.ln B.ow B.lo B.hi B.nw va B.ds.length vc ua B.es.length uc k a ap b bp B.ds B.es W h1 h2
    obtain ⟨hx1, hx2, hwy⟩ := out_parts hO
    have hwy : Hid _ := hwy
    clear hO
    have hne := run_neq_same
    have heq := run_eql_same
    have hgf := guardFlow
    go_wp2_with fail
    generalize ((w1.alloc (.cells #[.int .i64 B.ad, .int .i64 B.ln, .int .i64 B.ow, .int .i64 B.lo, .int .i64 B.hi, .slice va B.ds.length vc, .int .i64 B.nw, .slice ua B.es.length uc] 26)).alloc (.cells #[.int .i64 k, .int .i64 a, .int .i64 ap, .int .i64 b, .int .i64 bp] 32)) = W0 at *
    generalize w1.heap.size = nb at *
    refine (HI.out _ (hg.out _ hB) hD hE).mono ?_
    rintro e w2 ⟨⟨pa, pc, ra, rc, rfl, hOw⟩, hb2⟩
    have hBl := bl_alloc (bl_alloc (bl_refl w2) (.cells #[.int .i64 X.ad, .int .i64 X.ln, .int .i64 X.ow, .int .i64 X.lo, .int .i64 X.hi, .slice pa X.ds.length pc, .int .i64 X.nw, .slice ra X.es.length rc] 26)) (.cells #[.int .i64 G.k, .int .i64 G.a, .int .i64 G.ap, .int .i64 G.b, .int .i64 G.bp] 32)
    have hb3 := bl_trans hb2 hBl
    have xx := (Box.new w2 #[.int .i64 X.ad, .int .i64 X.ln, .int .i64 X.ow, .int .i64 X.lo, .int .i64 X.hi, .slice pa X.ds.length pc, .int .i64 X.nw, .slice ra X.es.length rc] 26).below (bl_alloc (bl_refl _) (.cells #[.int .i64 G.k, .int .i64 G.a, .int .i64 G.ap, .int .i64 G.b, .int .i64 G.bp] 32))
    have xg := Box.new (w2.alloc (.cells #[.int .i64 X.ad, .int .i64 X.ln, .int .i64 X.ow, .int .i64 X.lo, .int .i64 X.hi, .slice pa X.ds.length pc, .int .i64 X.nw, .slice ra X.es.length rc] 26)) #[.int .i64 G.k, .int .i64 G.a, .int .i64 G.ap, .int .i64 G.b, .int .i64 G.bp] 32
    simp only [World.size_alloc] at xg
    have hDx := (doorsL_own hOw.1 (Nat.le_refl _)).at.below hBl
    have hEx := (entriesL_own hOw.2.1 (Nat.le_refl _)).at.below hBl
    replace xb := xb.below hb3
    replace xf := xf.below hb3
    replace hD := hD.below hb3
    replace hE := hE.below hb3
    replace hB := bl_trans hB hb3
    clear hb2 hBl hb3 HI hOw
    have y1 := xb.2
    have y2 := xf.2
    go_wp2_with fail
    clear y1 y2
    generalize ((w2.alloc (.cells #[.int .i64 X.ad, .int .i64 X.ln, .int .i64 X.ow, .int .i64 X.lo, .int .i64 X.hi, .slice pa X.ds.length pc, .int .i64 X.nw, .slice ra X.es.length rc] 26)).alloc (.cells #[.int .i64 G.k, .int .i64 G.a, .int .i64 G.ap, .int .i64 G.b, .int .i64 G.bp] 32)) = W3 at *
    generalize w2.heap.size = nx at *
    refine (HS.out _ hD hE).mono ?_
    rintro e w4 ⟨⟨qa, qc, sa, sc, rfl, hOw⟩, hb4⟩
    have hBl := bl_alloc (bl_alloc (bl_refl w4) (.cells #[.int .i64 X.ad, .int .i64 X.ln, .int .i64 X.ow, .int .i64 X.lo, .int .i64 X.hi, .slice qa X.ds.length qc, .int .i64 X.nw, .slice sa X.es.length sc] 26)) (.cells #[.int .i64 G.k, .int .i64 G.a, .int .i64 G.ap, .int .i64 G.b, .int .i64 G.bp] 32)
    have hb5 := bl_trans hb4 hBl
    have xz := (Box.new w4 #[.int .i64 X.ad, .int .i64 X.ln, .int .i64 X.ow, .int .i64 X.lo, .int .i64 X.hi, .slice qa X.ds.length qc, .int .i64 X.nw, .slice sa X.es.length sc] 26).below (bl_alloc (bl_refl _) (.cells #[.int .i64 G.k, .int .i64 G.a, .int .i64 G.ap, .int .i64 G.b, .int .i64 G.bp] 32))
    have xh := Box.new (w4.alloc (.cells #[.int .i64 X.ad, .int .i64 X.ln, .int .i64 X.ow, .int .i64 X.lo, .int .i64 X.hi, .slice qa X.ds.length qc, .int .i64 X.nw, .slice sa X.es.length sc] 26)) #[.int .i64 G.k, .int .i64 G.a, .int .i64 G.ap, .int .i64 G.b, .int .i64 G.bp] 32
    simp only [World.size_alloc] at xh
    have hDz := (doorsL_own hOw.1 (Nat.le_refl _)).at.below hBl
    have hEz := (entriesL_own hOw.2.1 (Nat.le_refl _)).at.below hBl
    replace xb := xb.below hb5
    replace xf := xf.below hb5
    replace xx := xx.below hb5
    replace xg := xg.below hb5
    replace hD := hD.below hb5
    replace hE := hE.below hb5
    replace hDx := hDx.below hb5
    replace hEx := hEx.below hb5
    replace hB := bl_trans hB hb5
    clear hb4 hBl hb5 HS hOw
    go_upto_region 6 with fail
    generalize ((w4.alloc (.cells #[.int .i64 X.ad, .int .i64 X.ln, .int .i64 X.ow, .int .i64 X.lo, .int .i64 X.hi, .slice qa X.ds.length qc, .int .i64 X.nw, .slice sa X.es.length sc] 26)).alloc (.cells #[.int .i64 G.k, .int .i64 G.a, .int .i64 G.ap, .int .i64 G.b, .int .i64 G.bp] 32)) = W5 at *
    generalize w4.heap.size = nz at *
    have HW : Hid (Calls Tryz.prog _ _ _ _) := wnBook_same X pa pc ra rc qa qc sa sc W5 hDx hEx hDz hEz (by omega) (by omega)
    have hcc : (c != c) = false := by simp
    have y1 := xx.2
    have y2 := xg.2
    have y3 := xz.2
    have y4 := xh.2
    go_wp2_with fail
    refine HW.out.mono ?_
    rintro e w6 ⟨rfl, hb6⟩
    clear HW hcc y1 y2 y3 y4 xz xh hDz hEz
    replace xb := xb.below hb6
    replace xf := xf.below hb6
    replace xx := xx.below hb6
    replace xg := xg.below hb6
    replace hD := hD.below hb6
    replace hE := hE.below hb6
    replace hDx := hDx.below hb6
    replace hEx := hEx.below hb6
    replace hB := bl_trans hB hb6
    clear hb6
    rcases hwy.out with ⟨rfl, hTh⟩ | ⟨hc0, rfl, hc1⟩
    · clear hwy
      obtain ⟨p, rfl, t1, t2, t3⟩ := hTh
      have HN : Hid (∀ W, Gl W → DoorsAt W pa X.ds.length X.ds → EntriesAt W ra X.es.length X.es → Calls Tryz.prog 16 #[.agg #[.int .i64 X.ad, .int .i64 X.ln, .int .i64 X.ow, .int .i64 X.lo, .int .i64 X.hi, .slice pa X.ds.length pc, .int .i64 X.nw, .slice ra X.es.length rc], .agg #[.int .i64 k, .int .i64 b, .int .i64 bp, .int .i64 B.ow, .int .i64 p]] W fun e w' => e = .returned (.tuple #[.agg #[.int .i64 k, .int .i64 b, .int .i64 bp, .int .i64 a, .int .i64 ap], .int .i64 0]) ∧ Below W.heap.size W w') := fun W h0 h1 h2 => by
        have h := implIn_ret X.ad X.ln X.ow X.lo X.hi X.nw pa X.ds.length pc ra X.es.length rc k b bp B.ow p X.ds X.es W h0 h1 h2
        unfold inTold at h
        rw [t1, t2] at h
        exact h
      have HA : Hid (∀ W, Gl W → DoorsAt W pa X.ds.length X.ds → EntriesAt W ra X.es.length X.es → Calls Tryz.prog 13 #[.agg #[.int .i64 X.ad, .int .i64 X.ln, .int .i64 X.ow, .int .i64 X.lo, .int .i64 X.hi, .slice pa X.ds.length pc, .int .i64 X.nw, .slice ra X.es.length rc], .agg #[.int .i64 k, .int .i64 a, .int .i64 ap, .int .i64 b, .int .i64 bp]] W fun e w' => ToldO w' W.heap.size e ⟨X, ⟨k, B.ow, p, b, bp⟩, 0⟩ ∧ Below W.heap.size W w') := fun W h0 h1 h2 => by rw [← t3]; exact implOut_ret X.ad X.ln X.ow X.lo X.hi X.nw pa X.ds.length pc ra X.es.length rc k a ap b bp X.ds X.es W h0 h1 h2
      clear t1 t2 t3
      replace xg : Box _ _ #[.int .i64 k, .int .i64 B.ow, .int .i64 p, .int .i64 b, .int .i64 bp] := xg
      generalize hnf : nb + 1 = nf at *
      generalize hng : nx + 1 = ng at *
      go_upto_region 10 with fail
      generalize w6 = wv at *
      have hC := bl_refl wv
      go_cut [11, 12] (fun s11 s12 wc => ∃ h : Nat, s11 = .pointer (some ⟨h, 0, none⟩) ∧ s12 = .int .i64 0 ∧ Box wc h #[.int .i64 k, .int .i64 b, .int .i64 bp, .int .i64 a, .int .i64 ap] ∧ Below wv.heap.size wv wc)
      case first =>
        refine wp_region_held_drew (S := (fun w' => Box w' nx #[.int .i64 X.ad, .int .i64 X.ln, .int .i64 X.ow, .int .i64 X.lo, .int .i64 X.hi, .slice pa X.ds.length pc, .int .i64 X.nw, .slice ra X.es.length rc] ∧ Box w' ng #[.int .i64 k, .int .i64 B.ow, .int .i64 p, .int .i64 b, .int .i64 bp])) (by kernel_rfl) ?_ (fun hHeld => ?_)
        · exact ⟨xx.below (bl_drew (bl_refl _)), xg.below (bl_drew (bl_refl _))⟩
        have hq := bl_drew (bl_refl wv)
        replace hB := bl_trans hB hq
        replace hC := bl_trans hC hq
        replace xx := xx.below hq
        replace xg := xg.below hq
        replace hDx := hDx.below hq
        replace hEx := hEx.below hq
        clear hq
        generalize wv.drew = W0 at xx xg hDx hEx hB hC hHeld ⊢
        refine takeL 0 67 ?_ ?_ hHeld ?_
        rotate_left
        · (intro w hSw; (try dsimp only at hSw); simp only [Box] at hSw; go_simp; try with_reducible rfl)
        simp only [Act.put, puA, puB, puC]
        refine takeL 1 68 ?_ ?_ hHeld ?_
        rotate_left
        · (intro w hSw; (try dsimp only at hSw); simp only [Box] at hSw; go_simp; try with_reducible rfl)
        simp only [Act.put, puA, puB, puC]
        refine wpAnyH_ready (rs := [2, 7]) (by kernel_rfl) (by simp) (AllReadyH.cons rfl (fun K hK => ?_) (AllReadyH.cons rfl (fun K hK => ?_) (AllReadyH.nil)))
        · skip
          refine step_callg 69 23 rfl (by kernel_rfl) (implBack_ret k B.ow p b bp _) (by kernel_rfl) ?_
          rintro e W ⟨rfl, hb⟩
          refine ⟨_, rfl, ?_⟩
          simp only [Act.put, puA, puB, puC]
          replace hB := bl_trans hB hb
          replace hC := bl_trans hC hb
          replace xx := xx.below hb
          replace xg := xg.below hb
          replace hDx := hDx.below hb
          replace hEx := hEx.below hb
          clear hb
          refine hK.out _ _ ?_ (fun hHeld1 => ?_)
          · exact ⟨xx, xg⟩
          clear hK K hHeld
          have hHeld := hHeld1
          clear hHeld1
          refine wpAnyH_ready (rs := [3, 7]) (by kernel_rfl) (by simp) (AllReadyH.cons rfl (fun K hK => ?_) (AllReadyH.cons rfl (fun K hK => ?_) (AllReadyH.nil)))
          · skip
            refine step_callg 70 16 rfl (by kernel_rfl) (HN.out _ (hg.out _ hB) hDx hEx) (by kernel_rfl) ?_
            rintro e W ⟨rfl, hb⟩
            refine ⟨_, rfl, ?_⟩
            simp only [Act.put, puA, puB, puC]
            replace hB := bl_trans hB hb
            replace hC := bl_trans hC hb
            replace xx := xx.below hb
            replace xg := xg.below hb
            replace hDx := hDx.below hb
            replace hEx := hEx.below hb
            clear hb
            refine hK.out _ _ ?_ (fun hHeld1 => ?_)
            · exact ⟨xx, xg⟩
            clear hK K hHeld
            have hHeld := hHeld1
            clear hHeld1
            refine takeL 4 66 ?_ ?_ hHeld ?_
            rotate_left
            · (intro w hSw; (try dsimp only at hSw); simp only [Box] at hSw; go_simp; try with_reducible rfl)
            simp only [Act.put, puA, puB, puC]
            refine takeL 5 71 ?_ ?_ hHeld ?_
            rotate_left
            · (intro w hSw; (try dsimp only at hSw); simp only [Box] at hSw; go_simp; try with_reducible rfl)
            simp only [Act.put, puA, puB, puC]
            refine takeL 6 72 ?_ ?_ hHeld ?_
            rotate_left
            · (intro w hSw; (try dsimp only at hSw); simp only [Box] at hSw; go_simp; try with_reducible rfl)
            simp only [Act.put, puA, puB, puC]
            refine wpAnyH_ready (rs := [7]) (by kernel_rfl) (by simp) (AllReadyH.cons rfl (fun K hK => ?_) (AllReadyH.nil))
            refine step_val 11 (.pointer (some ⟨W.heap.size, 0, none⟩)) (World.alloc W (.cells #[.int .i64 0, .int .i64 0, .int .i64 0, .int .i64 0, .int .i64 0] 32)) rfl rfl (by kernel_rfl) ?_
            simp only [Act.put, puA, puB, puC]
            refine hK.out _ _ ?_ (fun hHeld1 => ?_)
            · exact ⟨xx.below (bl_alloc (bl_refl _) _), xg.below (bl_alloc (bl_refl _) _)⟩
            clear hK K hHeld
            have hHeld := hHeld1
            clear hHeld1
            refine wpAnyH_newx (fun W hb bh => ?_)
            have hshB := hB.size
            have hshC := hC.size
            have htxx := xx.1
            have htxg := xg.1
            replace hB := bl_trans hB hb
            replace hC := bl_trans hC hb
            replace xx := xx.below hb
            replace xg := xg.below hb
            replace hDx := hDx.below hb
            replace hEx := hEx.below hb
            clear hHeld hb
            have hHeld : Box _ _ _ ∧ Box _ _ _ := ⟨xx, xg⟩
            refine wpAnyH_ready (rs := [8]) (by kernel_rfl) (by simp) (AllReadyH.cons rfl (fun K hK => ?_) (AllReadyH.nil))
            obtain ⟨⟨q1, q2⟩, q3⟩ := id bh
            clear hDx hEx
            go_simp
            replace hB := bl_set5b bh hB (by omega) (.int .i64 k) (.int .i64 b) (.int .i64 bp) (.int .i64 a) (.int .i64 ap)
            replace hC := bl_set5b bh hC (by omega) (.int .i64 k) (.int .i64 b) (.int .i64 bp) (.int .i64 a) (.int .i64 ap)
            replace xx := Box.other5b bh xx (by omega) (.int .i64 k) (.int .i64 b) (.int .i64 bp) (.int .i64 a) (.int .i64 ap)
            replace xg := Box.other5b bh xg (by omega) (.int .i64 k) (.int .i64 b) (.int .i64 bp) (.int .i64 a) (.int .i64 ap)
            replace bh := bh.set5 (.int .i64 k) (.int .i64 b) (.int .i64 bp) (.int .i64 a) (.int .i64 ap)
            refine hK.out _ _ ?_ (fun hHeld1 => ?_)
            · exact ⟨xx, xg⟩
            clear hK K hHeld
            have hHeld := hHeld1
            clear hHeld1
            refine takeL 9 12 ?_ ?_ hHeld ?_
            rotate_left
            · (intro w hSw; (try dsimp only at hSw); simp only [Box] at hSw; go_simp; try with_reducible rfl)
            simp only [Act.put, puA, puB, puC]
            refine wpAnyH_done (by kernel_rfl) ?_ _
            go_wp2_with fail
            go_meet
            exact ⟨_, rfl, rfl, bh.1, hC⟩
          · skip
            refine step_val 11 (.pointer (some ⟨W.heap.size, 0, none⟩)) (World.alloc W (.cells #[.int .i64 0, .int .i64 0, .int .i64 0, .int .i64 0, .int .i64 0] 32)) rfl rfl (by kernel_rfl) ?_
            simp only [Act.put, puA, puB, puC]
            refine hK.out _ _ ?_ (fun hHeld1 => ?_)
            · exact ⟨xx.below (bl_alloc (bl_refl _) _), xg.below (bl_alloc (bl_refl _) _)⟩
            clear hK K hHeld
            have hHeld := hHeld1
            clear hHeld1
            refine wpAnyH_newx (fun W hb bh => ?_)
            have hshB := hB.size
            have hshC := hC.size
            have htxx := xx.1
            have htxg := xg.1
            replace hB := bl_trans hB hb
            replace hC := bl_trans hC hb
            replace xx := xx.below hb
            replace xg := xg.below hb
            replace hDx := hDx.below hb
            replace hEx := hEx.below hb
            clear hHeld hb
            have hHeld : Box _ _ _ ∧ Box _ _ _ := ⟨xx, xg⟩
            refine wpAnyH_ready (rs := [3]) (by kernel_rfl) (by simp) (AllReadyH.cons rfl (fun K hK => ?_) (AllReadyH.nil))
            refine step_callg 70 16 rfl (by kernel_rfl) (HN.out _ (hg.out _ hB) hDx hEx) (by kernel_rfl) ?_
            rintro e W ⟨rfl, hb⟩
            refine ⟨_, rfl, ?_⟩
            simp only [Act.put, puA, puB, puC]
            replace hB := bl_trans hB hb
            replace hC := bl_trans hC hb
            replace xx := xx.below hb
            replace xg := xg.below hb
            replace hDx := hDx.below hb
            replace hEx := hEx.below hb
            replace bh := bh.below hb
            clear hb
            refine hK.out _ _ ?_ (fun hHeld1 => ?_)
            · exact ⟨xx, xg⟩
            clear hK K hHeld
            have hHeld := hHeld1
            clear hHeld1
            refine takeL 4 66 ?_ ?_ hHeld ?_
            rotate_left
            · (intro w hSw; (try dsimp only at hSw); simp only [Box] at hSw; go_simp; try with_reducible rfl)
            simp only [Act.put, puA, puB, puC]
            refine takeL 5 71 ?_ ?_ hHeld ?_
            rotate_left
            · (intro w hSw; (try dsimp only at hSw); simp only [Box] at hSw; go_simp; try with_reducible rfl)
            simp only [Act.put, puA, puB, puC]
            refine takeL 6 72 ?_ ?_ hHeld ?_
            rotate_left
            · (intro w hSw; (try dsimp only at hSw); simp only [Box] at hSw; go_simp; try with_reducible rfl)
            simp only [Act.put, puA, puB, puC]
            refine wpAnyH_ready (rs := [8]) (by kernel_rfl) (by simp) (AllReadyH.cons rfl (fun K hK => ?_) (AllReadyH.nil))
            obtain ⟨⟨q1, q2⟩, q3⟩ := id bh
            clear hDx hEx
            go_simp
            replace hB := bl_set5b bh hB (by omega) (.int .i64 k) (.int .i64 b) (.int .i64 bp) (.int .i64 a) (.int .i64 ap)
            replace hC := bl_set5b bh hC (by omega) (.int .i64 k) (.int .i64 b) (.int .i64 bp) (.int .i64 a) (.int .i64 ap)
            replace xx := Box.other5b bh xx (by omega) (.int .i64 k) (.int .i64 b) (.int .i64 bp) (.int .i64 a) (.int .i64 ap)
            replace xg := Box.other5b bh xg (by omega) (.int .i64 k) (.int .i64 b) (.int .i64 bp) (.int .i64 a) (.int .i64 ap)
            replace bh := bh.set5 (.int .i64 k) (.int .i64 b) (.int .i64 bp) (.int .i64 a) (.int .i64 ap)
            refine hK.out _ _ ?_ (fun hHeld1 => ?_)
            · exact ⟨xx, xg⟩
            clear hK K hHeld
            have hHeld := hHeld1
            clear hHeld1
            refine takeL 9 12 ?_ ?_ hHeld ?_
            rotate_left
            · (intro w hSw; (try dsimp only at hSw); simp only [Box] at hSw; go_simp; try with_reducible rfl)
            simp only [Act.put, puA, puB, puC]
            refine wpAnyH_done (by kernel_rfl) ?_ _
            go_wp2_with fail
            go_meet
            exact ⟨_, rfl, rfl, bh.1, hC⟩
        · skip
          refine step_val 11 (.pointer (some ⟨W0.heap.size, 0, none⟩)) (World.alloc W0 (.cells #[.int .i64 0, .int .i64 0, .int .i64 0, .int .i64 0, .int .i64 0] 32)) rfl rfl (by kernel_rfl) ?_
          simp only [Act.put, puA, puB, puC]
          refine hK.out _ _ ?_ (fun hHeld1 => ?_)
          · exact ⟨xx.below (bl_alloc (bl_refl _) _), xg.below (bl_alloc (bl_refl _) _)⟩
          clear hK K hHeld
          have hHeld := hHeld1
          clear hHeld1
          refine wpAnyH_newx (fun W hb bh => ?_)
          have hshB := hB.size
          have hshC := hC.size
          have htxx := xx.1
          have htxg := xg.1
          replace hB := bl_trans hB hb
          replace hC := bl_trans hC hb
          replace xx := xx.below hb
          replace xg := xg.below hb
          replace hDx := hDx.below hb
          replace hEx := hEx.below hb
          clear hHeld hb
          have hHeld : Box _ _ _ ∧ Box _ _ _ := ⟨xx, xg⟩
          refine wpAnyH_ready (rs := [2]) (by kernel_rfl) (by simp) (AllReadyH.cons rfl (fun K hK => ?_) (AllReadyH.nil))
          refine step_callg 69 23 rfl (by kernel_rfl) (implBack_ret k B.ow p b bp _) (by kernel_rfl) ?_
          rintro e W ⟨rfl, hb⟩
          refine ⟨_, rfl, ?_⟩
          simp only [Act.put, puA, puB, puC]
          replace hB := bl_trans hB hb
          replace hC := bl_trans hC hb
          replace xx := xx.below hb
          replace xg := xg.below hb
          replace hDx := hDx.below hb
          replace hEx := hEx.below hb
          replace bh := bh.below hb
          clear hb
          refine hK.out _ _ ?_ (fun hHeld1 => ?_)
          · exact ⟨xx, xg⟩
          clear hK K hHeld
          have hHeld := hHeld1
          clear hHeld1
          refine wpAnyH_ready (rs := [3]) (by kernel_rfl) (by simp) (AllReadyH.cons rfl (fun K hK => ?_) (AllReadyH.nil))
          refine step_callg 70 16 rfl (by kernel_rfl) (HN.out _ (hg.out _ hB) hDx hEx) (by kernel_rfl) ?_
          rintro e W ⟨rfl, hb⟩
          refine ⟨_, rfl, ?_⟩
          simp only [Act.put, puA, puB, puC]
          replace hB := bl_trans hB hb
          replace hC := bl_trans hC hb
          replace xx := xx.below hb
          replace xg := xg.below hb
          replace hDx := hDx.below hb
          replace hEx := hEx.below hb
          replace bh := bh.below hb
          clear hb
          refine hK.out _ _ ?_ (fun hHeld1 => ?_)
          · exact ⟨xx, xg⟩
          clear hK K hHeld
          have hHeld := hHeld1
          clear hHeld1
          refine takeL 4 66 ?_ ?_ hHeld ?_
          rotate_left
          · (intro w hSw; (try dsimp only at hSw); simp only [Box] at hSw; go_simp; try with_reducible rfl)
          simp only [Act.put, puA, puB, puC]
          refine takeL 5 71 ?_ ?_ hHeld ?_
          rotate_left
          · (intro w hSw; (try dsimp only at hSw); simp only [Box] at hSw; go_simp; try with_reducible rfl)
          simp only [Act.put, puA, puB, puC]
          refine takeL 6 72 ?_ ?_ hHeld ?_
          rotate_left
          · (intro w hSw; (try dsimp only at hSw); simp only [Box] at hSw; go_simp; try with_reducible rfl)
          simp only [Act.put, puA, puB, puC]
          refine wpAnyH_ready (rs := [8]) (by kernel_rfl) (by simp) (AllReadyH.cons rfl (fun K hK => ?_) (AllReadyH.nil))
          obtain ⟨⟨q1, q2⟩, q3⟩ := id bh
          clear hDx hEx
          go_simp
          replace hB := bl_set5b bh hB (by omega) (.int .i64 k) (.int .i64 b) (.int .i64 bp) (.int .i64 a) (.int .i64 ap)
          replace hC := bl_set5b bh hC (by omega) (.int .i64 k) (.int .i64 b) (.int .i64 bp) (.int .i64 a) (.int .i64 ap)
          replace xx := Box.other5b bh xx (by omega) (.int .i64 k) (.int .i64 b) (.int .i64 bp) (.int .i64 a) (.int .i64 ap)
          replace xg := Box.other5b bh xg (by omega) (.int .i64 k) (.int .i64 b) (.int .i64 bp) (.int .i64 a) (.int .i64 ap)
          replace bh := bh.set5 (.int .i64 k) (.int .i64 b) (.int .i64 bp) (.int .i64 a) (.int .i64 ap)
          refine hK.out _ _ ?_ (fun hHeld1 => ?_)
          · exact ⟨xx, xg⟩
          clear hK K hHeld
          have hHeld := hHeld1
          clear hHeld1
          refine takeL 9 12 ?_ ?_ hHeld ?_
          rotate_left
          · (intro w hSw; (try dsimp only at hSw); simp only [Box] at hSw; go_simp; try with_reducible rfl)
          simp only [Act.put, puA, puB, puC]
          refine wpAnyH_done (by kernel_rfl) ?_ _
          go_wp2_with fail
          go_meet
          exact ⟨_, rfl, rfl, bh.1, hC⟩
      case rest =>
        clear hC
        obtain ⟨nk, rfl, rfl, xk, hC⟩ := hcut
        replace hB := bl_trans hB hC
        replace xx := xx.below hC
        replace xg := xg.below hC
        replace xb := xb.below hC
        replace xf := xf.below hC
        replace hDx := hDx.below hC
        replace hEx := hEx.below hC
        clear hC
        go_upto_region 11 with fail
        refine wp_region_held_drew (S := (fun w' => Box w' nk #[.int .i64 k, .int .i64 b, .int .i64 bp, .int .i64 a, .int .i64 ap] ∧ Box w' nf #[.int .i64 k, .int .i64 a, .int .i64 ap, .int .i64 b, .int .i64 bp] ∧ Box w' ng #[.int .i64 k, .int .i64 B.ow, .int .i64 p, .int .i64 b, .int .i64 bp] ∧ Box w' nb #[.int .i64 B.ad, .int .i64 B.ln, .int .i64 B.ow, .int .i64 B.lo, .int .i64 B.hi, .slice va B.ds.length vc, .int .i64 B.nw, .slice ua B.es.length uc])) (by kernel_rfl) ?_ (fun hHeld => ?_)
        · exact ⟨xk.below (bl_drew (bl_refl _)), xf.below (bl_drew (bl_refl _)), xg.below (bl_drew (bl_refl _)), xb.below (bl_drew (bl_refl _))⟩
        have hq := bl_drew (bl_refl wc)
        replace hB := bl_trans hB hq
        replace xk := xk.below hq
        replace xf := xf.below hq
        replace xg := xg.below hq
        replace xb := xb.below hq
        replace xx := xx.below hq
        replace hDx := hDx.below hq
        replace hEx := hEx.below hq
        clear hq
        generalize wc.drew = W0 at xk xf xg xb xx hDx hEx hB hHeld ⊢
        refine takeL 0 73 ?_ ?_ hHeld ?_
        rotate_left
        · (intro w hSw; (try dsimp only at hSw); simp only [Box] at hSw; go_simp; try with_reducible rfl)
        simp only [Act.put, puA, puB, puC]
        refine takeL 1 74 ?_ ?_ hHeld ?_
        rotate_left
        · (intro w hSw; (try dsimp only at hSw); simp only [Box] at hSw; go_simp; try with_reducible rfl)
        simp only [Act.put, puA, puB, puC]
        refine takeL 2 75 ?_ ?_ hHeld ?_
        rotate_left
        · (intro w hSw; (try dsimp only at hSw); simp only [Box] at hSw; go_simp; try with_reducible rfl)
        simp only [Act.put, puA, puB, puC]
        refine takeL 3 76 ?_ ?_ hHeld ?_
        rotate_left
        · (intro w hSw; (try dsimp only at hSw); simp only [Box] at hSw; go_simp; try with_reducible rfl)
        simp only [Act.put, puA, puB, puC]
        refine takeL 5 78 ?_ ?_ hHeld ?_
        rotate_left
        · (intro w hSw; (try dsimp only at hSw); simp only [Box] at hSw; go_simp; try with_reducible rfl)
        simp only [Act.put, puA, puB, puC]
        refine wpAnyH_ready (rs := [4]) (by kernel_rfl) (by simp) (AllReadyH.cons rfl (fun K hK => ?_) (AllReadyH.nil))
        refine step_callg 77 23 rfl (by kernel_rfl) (implBack_ret k b bp a ap _) (by kernel_rfl) ?_
        rintro e W ⟨rfl, hb⟩
        refine ⟨_, rfl, ?_⟩
        simp only [Act.put, puA, puB, puC]
        replace hB := bl_trans hB hb
        replace xk := xk.below hb
        replace xf := xf.below hb
        replace xg := xg.below hb
        replace xb := xb.below hb
        replace xx := xx.below hb
        replace hDx := hDx.below hb
        replace hEx := hEx.below hb
        clear hb
        refine hK.out _ _ ?_ (fun hHeld1 => ?_)
        · exact ⟨xk, xf, xg, xb⟩
        clear hK K hHeld
        have hHeld := hHeld1
        clear hHeld1
        refine takeL 6 79 ?_ ?_ hHeld ?_
        rotate_left
        · (intro w hSw; (try dsimp only at hSw); simp only [Box] at hSw; go_simp; try with_reducible rfl)
        simp only [Act.put, puA, puB, puC]
        refine takeL 7 80 ?_ ?_ hHeld ?_
        rotate_left
        · (intro w hSw; (try dsimp only at hSw); simp only [Box] at hSw; go_simp; try with_reducible rfl)
        simp only [Act.put, puA, puB, puC]
        refine takeL 8 81 ?_ ?_ hHeld ?_
        rotate_left
        · (intro w hSw; (try dsimp only at hSw); simp only [Box] at hSw; go_simp; try with_reducible rfl)
        simp only [Act.put, puA, puB, puC]
        refine takeL 9 82 ?_ ?_ hHeld ?_
        rotate_left
        · (intro w hSw; (try dsimp only at hSw); simp only [Box] at hSw; go_simp; try with_reducible rfl)
        simp only [Act.put, puA, puB, puC]
        refine takeL 10 83 ?_ ?_ hHeld ?_
        rotate_left
        · (intro w hSw; (try dsimp only at hSw); simp only [Box] at hSw; go_simp; try with_reducible rfl)
        simp only [Act.put, puA, puB, puC]
        refine takeL 11 84 ?_ ?_ hHeld ?_
        rotate_left
        · (intro w hSw; (try dsimp only at hSw); simp only [Box] at hSw; go_simp; try with_reducible rfl)
        simp only [Act.put, puA, puB, puC]
        refine takeL 12 85 ?_ ?_ hHeld ?_
        rotate_left
        · (intro w hSw; (try dsimp only at hSw); simp only [Box] at hSw; go_simp; try with_reducible rfl)
        simp only [Act.put, puA, puB, puC]
        refine takeL 13 86 ?_ ?_ hHeld ?_
        rotate_left
        · (intro w hSw; (try dsimp only at hSw); simp only [Box] at hSw; go_simp; try with_reducible rfl)
        simp only [Act.put, puA, puB, puC]
        refine takeL 14 87 ?_ ?_ hHeld ?_
        rotate_left
        · (intro w hSw; (try dsimp only at hSw); simp only [Box] at hSw; go_simp; try with_reducible rfl)
        simp only [Act.put, puA, puB, puC]
        refine takeL 15 88 ?_ ?_ hHeld ?_
        rotate_left
        · (intro w hSw; (try dsimp only at hSw); simp only [Box] at hSw; go_simp; try with_reducible rfl)
        simp only [Act.put, puA, puB, puC]
        refine takeL 16 89 ?_ ?_ hHeld ?_
        rotate_left
        · (intro w hSw; (try dsimp only at hSw); simp only [Box] at hSw; go_simp; try with_reducible rfl)
        simp only [Act.put, puA, puB, puC]
        refine takeL 17 90 ?_ ?_ hHeld ?_
        rotate_left
        · (intro w hSw; (try dsimp only at hSw); simp only [Box] at hSw; go_simp; try with_reducible rfl)
        simp only [Act.put, puA, puB, puC]
        refine takeL 18 91 ?_ ?_ hHeld ?_
        rotate_left
        · (intro w hSw; (try dsimp only at hSw); simp only [Box] at hSw; go_simp; try with_reducible rfl)
        simp only [Act.put, puA, puB, puC]
        refine takeL 19 92 ?_ ?_ hHeld ?_
        rotate_left
        · (intro w hSw; (try dsimp only at hSw); simp only [Box] at hSw; go_simp; try with_reducible rfl)
        simp only [Act.put, puA, puB, puC]
        refine takeL 20 93 ?_ ?_ hHeld ?_
        rotate_left
        · (intro w hSw; (try dsimp only at hSw); simp only [Box] at hSw; go_simp; try with_reducible rfl)
        simp only [Act.put, puA, puB, puC]
        refine takeL 21 94 ?_ ?_ hHeld ?_
        rotate_left
        · (intro w hSw; (try dsimp only at hSw); simp only [Box] at hSw; go_simp; try with_reducible rfl)
        simp only [Act.put, puA, puB, puC]
        refine takeL 22 95 ?_ ?_ hHeld ?_
        rotate_left
        · (intro w hSw; (try dsimp only at hSw); simp only [Box] at hSw; go_simp; try with_reducible rfl)
        simp only [Act.put, puA, puB, puC]
        refine takeL 23 96 ?_ ?_ hHeld ?_
        rotate_left
        · (intro w hSw; (try dsimp only at hSw); simp only [Box] at hSw; go_simp; try with_reducible rfl)
        simp only [Act.put, puA, puB, puC]
        refine takeL 24 97 ?_ ?_ hHeld ?_
        rotate_left
        · (intro w hSw; (try dsimp only at hSw); simp only [Box] at hSw; go_simp; try with_reducible rfl)
        simp only [Act.put, puA, puB, puC]
        refine takeL 25 98 ?_ ?_ hHeld ?_
        rotate_left
        · (intro w hSw; (try dsimp only at hSw); simp only [Box] at hSw; go_simp; try with_reducible rfl)
        simp only [Act.put, puA, puB, puC]
        refine takeL 26 99 ?_ ?_ hHeld ?_
        rotate_left
        · (intro w hSw; (try dsimp only at hSw); simp only [Box] at hSw; go_simp; try with_reducible rfl)
        simp only [Act.put, puA, puB, puC]
        refine takeL 27 100 ?_ ?_ hHeld ?_
        rotate_left
        · (intro w hSw; (try dsimp only at hSw); simp only [Box] at hSw; go_simp; try with_reducible rfl)
        simp only [Act.put, puA, puB, puC]
        refine takeL 28 101 ?_ ?_ hHeld ?_
        rotate_left
        · (intro w hSw; (try dsimp only at hSw); simp only [Box] at hSw; go_simp; try with_reducible rfl)
        simp only [Act.put, puA, puB, puC]
        refine wpAnyH_done (by kernel_rfl) ?_ _
        clear hHeld xk xb
        have y1 := xx.2
        have y2 := xf.2
        go_wp2_with fail
        refine (HA.out _ (hg.out _ hB) hDx hEx).mono ?_
        rintro e v1 ⟨⟨ta, tc, za, zc, rfl, hOw⟩, hb1⟩
        have hBl := bl_alloc (bl_alloc (bl_refl v1) (.cells #[.int .i64 X.ad, .int .i64 X.ln, .int .i64 X.ow, .int .i64 X.lo, .int .i64 X.hi, .slice ta X.ds.length tc, .int .i64 X.nw, .slice za X.es.length zc] 26)) (.cells #[.int .i64 k, .int .i64 B.ow, .int .i64 p, .int .i64 b, .int .i64 bp] 32)
        have xy := (Box.new v1 #[.int .i64 X.ad, .int .i64 X.ln, .int .i64 X.ow, .int .i64 X.lo, .int .i64 X.hi, .slice ta X.ds.length tc, .int .i64 X.nw, .slice za X.es.length zc] 26).below (bl_alloc (bl_refl _) (.cells #[.int .i64 k, .int .i64 B.ow, .int .i64 p, .int .i64 b, .int .i64 bp] 32))
        have xa := Box.new (v1.alloc (.cells #[.int .i64 X.ad, .int .i64 X.ln, .int .i64 X.ow, .int .i64 X.lo, .int .i64 X.hi, .slice ta X.ds.length tc, .int .i64 X.nw, .slice za X.es.length zc] 26)) #[.int .i64 k, .int .i64 B.ow, .int .i64 p, .int .i64 b, .int .i64 bp] 32
        simp only [World.size_alloc] at xa
        have hb2 := bl_trans hb1 hBl
        replace hOw := hOw.below hBl
        replace hDx := hDx.below hb2
        replace hEx := hEx.below hb2
        replace xx := xx.below hb2
        replace xg := xg.below hb2
        replace hB := bl_trans hB hb2
        clear hb1 hBl hb2 y1 y2 xf HN HA
        go_upto_region 14 with fail
        generalize ((v1.alloc (.cells #[.int .i64 X.ad, .int .i64 X.ln, .int .i64 X.ow, .int .i64 X.lo, .int .i64 X.hi, .slice ta X.ds.length tc, .int .i64 X.nw, .slice za X.es.length zc] 26)).alloc (.cells #[.int .i64 k, .int .i64 B.ow, .int .i64 p, .int .i64 b, .int .i64 bp] 32)) = V2 at *
        generalize v1.heap.size = ny at *
        have HW : Hid (Calls Tryz.prog _ _ _ _) := wnBook_same X ta tc za zc pa pc ra rc V2 (doorsL_own hOw.1 (Nat.le_refl _)).at (entriesL_own hOw.2.1 (Nat.le_refl _)).at hDx hEx (by omega) (by omega)
        clear hOw hDx hEx
        have y1 := xy.2
        have y2 := xa.2
        have y3 := xx.2
        have y4 := xg.2
        go_wp2_with fail
        refine HW.out.mono ?_
        rintro e v3 ⟨rfl, hb3⟩
        go_wp2_with fail
        go_ret
        exact ⟨rfl, bl_trans hB hb3⟩
    · clear hwy
      replace xg : Box _ _ #[.int .i64 0, .int .i64 0, .int .i64 0, .int .i64 0, .int .i64 0] := xg
      have y1 := xx.2
      have y2 := xg.2
      rcases hc1 with hc1 | ⟨hc1, rfl⟩
      · go_wp2_with fail
        go_ret
        exact ⟨rfl, hB⟩
      · have y3 := xb.2
        have HW : Hid (Calls Tryz.prog _ _ _ _) := wnBook_same X pa pc ra rc va vc ua uc w6 hDx hEx hD hE (by omega) (by omega)
        go_wp2_with fail
        refine HW.out.mono ?_
        rintro e w7 ⟨rfl, hb7⟩
        go_wp2_with fail
        go_ret
        exact ⟨rfl, bl_trans hB hb7⟩
  · have hl' : (1048576 : Int) < (cn : Int) := by omega
    go_enter Tryz.func4, Tryz.ntmps4
    go_wp2
    go_ret
    exact ⟨rfl, bl_refl _⟩
end Go.Proofs.YtcgjpmhjijmplaaGreatDoor
