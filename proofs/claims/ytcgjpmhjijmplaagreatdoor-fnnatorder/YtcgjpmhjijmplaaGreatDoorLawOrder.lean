/- The law FnNatOrder, walked (under way). -/
import Derived.Test.YtcgjpmhjijmplaaGreatDoorOrder1
import Derived.Test.YtcgjpmhjijmplaaGreatDoorJoinL
import Derived.Test.YtcgjpmhjijmplaaGreatDoorGo8
import Derived.Test.YtcgjpmhjijmplaaGreatDoorOutV
import Derived.Test.YtcgjpmhjijmplaaGreatDoorWn
import Derived.Deep.DeepCutAuto
namespace Go.Proofs.YtcgjpmhjijmplaaGreatDoor
open Go.ChangeShapes Go.WideShapes Go.ChangeAt Go.RowKit Go.Maps

theorem turn_mod (i t n : Nat) : ((i : Int) + (t : Int)) % (n : Int) = (((i + t) % n : Nat) : Int) := by
  rw [← Int.natCast_add]
  rfl
theorem turn_neg {i t n : Nat} (hn : 0 < n) (h16 : n ≤ 16) : wrap64 ((n : Int) - 1 - ((i : Int) + (t : Int)) % (n : Int)) = ((n - 1 - (i + t) % n : Nat) : Int) := by
  rw [turn_mod]
  have := Nat.mod_lt (i + t) hn
  unfold wrap64
  omega
theorem low_trans {n : Nat} {w w1 w2 : World} (h : Below n w w1) (hb : Below n w1 w2) : Below n w w2 := ⟨hb.os.trans h.os, hb.tape.trans h.tape, hb.output.trans h.output, Nat.le_trans h.size hb.size, fun k hk => (hb.block k hk).trans (h.block k hk)⟩
/-- No row in this block. -/
def Off (n : Nat) (va ua : Option Addr) (ds : List Dr) (es : List En) : Prop := (ds = [] ∨ ∀ b o, va = some ⟨b, o, none⟩ → b ≠ n) ∧ (es = [] ∨ ∀ b o, ua = some ⟨b, o, none⟩ → b ≠ n)
theorem Off.of {w : World} {q n6 q2 : Nat} {va ua : Option Addr} {ds : List Dr} {es : List En} (h : ListX w q n6 q2 va ua ds es) : Off n6 va ua ds es := ⟨h.1.imp id fun ⟨b, o, h1, h2, _⟩ b' o' e => by rw [h1] at e; cases e; exact h2.2.2.1, h.2.imp id fun ⟨b, o, h1, h2, _⟩ b' o' e => by rw [h1] at e; cases e; exact h2.2.2.1⟩
theorem ListX.off {w : World} {q n n6 q2 : Nat} {va ua : Option Addr} {ds : List Dr} {es : List En} (h : ListX w q n6 q2 va ua ds es) (hn : Off n va ua ds es) : ListX w q n q2 va ua ds es := ⟨h.1.elim Or.inl fun ⟨b, o, h1, h2, h3⟩ => hn.1.imp id fun k => ⟨b, o, h1, ⟨h2.1, h2.2.1, k b o h1, h2.2.2.2⟩, h3⟩, h.2.elim Or.inl fun ⟨b, o, h1, h2, h3⟩ => hn.2.imp id fun k => ⟨b, o, h1, ⟨h2.1, h2.2.1, k b o h1, h2.2.2.2⟩, h3⟩⟩
/-- What the third loop keeps. -/
def P3 (w W5 wr : World) (n9 n10 q3 : Nat) (B : Bk) (L : List Fl) (t : Nat) (o : Bool) (C : Array Value) (za ya : Option Addr) (ds : List Dr) (es : List En) (v11 : Value) (i : Nat) : Prop :=
  (∃ (X : Bk) (va : Option Addr) (vc : Nat) (ua : Option Addr) (uc : Nat), Begun B X (ordL L t o i) ∧ Bx wr n10 #[.int .i64 X.ad, .int .i64 X.ln, .int .i64 X.ow, .int .i64 X.lo, .int .i64 X.hi, .slice va X.ds.length vc, .int .i64 X.nw, .slice ua X.es.length uc] ∧ ListX wr w.heap.size n10 q3 va ua X.ds X.es) ∧ Bx wr n9 C ∧ ListX wr w.heap.size n10 q3 za ya ds es ∧ OwnF wr q3 v11 (L.map (outside B)) ∧ Below w.heap.size w wr ∧ Below n9 W5 wr
theorem low_set8m {n m : Nat} {w w1 : World} (h : Below n w w1) (hm : n ≤ m) (a b c d e f g i : Value) : Below n w (World.setCell (World.setCell (World.setCell (World.setCell (World.setCell (World.setCell (World.setCell (World.setCell w1 ⟨m, 0, none⟩ (a)) ⟨m, 1, none⟩ (b)) ⟨m, 2, none⟩ (c)) ⟨m, 3, none⟩ (d)) ⟨m, 4, none⟩ (e)) ⟨m, 5, none⟩ (f)) ⟨m, 6, none⟩ (g)) ⟨m, 7, none⟩ (i)) := by
  have h1 : ∀ (W : World) (j : Nat) (v : Value), Below n w W → Below n w (W.setCell ⟨m, j, none⟩ v) := fun W j v h => ⟨h.os, h.tape, h.output, by simpa [World.setCell] using h.size, fun k hk => (Below.heap_setCell _ _ _ _ (by simp; omega)).trans (h.block k hk)⟩
  exact h1 _ _ _ (h1 _ _ _ (h1 _ _ _ (h1 _ _ _ (h1 _ _ _ (h1 _ _ _ (h1 _ _ _ (h1 _ _ _ h)))))))
theorem below_trans2 {n : Nat} {w w1 w2 : World} (h : Below n w w1) (hb : Below w1.heap.size w1 w2) (hn : n < w1.heap.size) : Below n w w2 := ⟨hb.os.trans h.os, hb.tape.trans h.tape, hb.output.trans h.output, Nat.le_trans h.size hb.size, fun k hk => (hb.block k (by omega)).trans (h.block k hk)⟩
theorem low_set8 {n : Nat} {w w1 : World} (h : Below n w w1) (a b c d e f g i : Value) : Below n w (World.setCell (World.setCell (World.setCell (World.setCell (World.setCell (World.setCell (World.setCell (World.setCell w1 ⟨n, 0, none⟩ (a)) ⟨n, 1, none⟩ (b)) ⟨n, 2, none⟩ (c)) ⟨n, 3, none⟩ (d)) ⟨n, 4, none⟩ (e)) ⟨n, 5, none⟩ (f)) ⟨n, 6, none⟩ (g)) ⟨n, 7, none⟩ (i)) := by
  have h1 : ∀ (W : World) (j : Nat) (v : Value), Below n w W → Below n w (W.setCell ⟨n, j, none⟩ v) := fun W j v h => ⟨h.os, h.tape, h.output, by simpa [World.setCell] using h.size, fun k hk => (Below.heap_setCell _ _ _ _ (by simp; omega)).trans (h.block k hk)⟩
  exact h1 _ _ _ (h1 _ _ _ (h1 _ _ _ (h1 _ _ _ (h1 _ _ _ (h1 _ _ _ (h1 _ _ _ (h1 _ _ _ h)))))))
theorem low_grown {n : Nat} {w w1 w2 : World} {row : Option Nat} (h : Below n w w1) (hg : w1.grownBy w2 row) (hr : ∀ k, row = some k → n ≤ k) (hn : n < w1.heap.size) : Below n w w2 := ⟨hg.os.trans h.os, hg.tape.trans h.tape, hg.output.trans h.output, Nat.le_trans h.size hg.size, fun k hk => (hg.block k (by omega) (fun e => by have := hr k e.symm; omega)).trans (h.block k hk)⟩
/-- What the second loop keeps. -/
def P2 (w W5 wr : World) (n9 n10 q3 : Nat) (B : Bk) (L : List Fl) (C : Array Value) (v11 : Value) (i : Nat) : Prop :=
  (∃ (X : Bk) (va : Option Addr) (vc : Nat) (ua : Option Addr) (uc : Nat), Begun B X (L.take i) ∧ Bx wr n9 #[.int .i64 X.ad, .int .i64 X.ln, .int .i64 X.ow, .int .i64 X.lo, .int .i64 X.hi, .slice va X.ds.length vc, .int .i64 X.nw, .slice ua X.es.length uc] ∧ ListX wr w.heap.size n9 q3 va ua X.ds X.es ∧ Off n10 va ua X.ds X.es) ∧ OwnF wr q3 v11 ((L.take i).map (outside B)) ∧ Bx wr n10 C ∧ Below w.heap.size w wr ∧ Below n9 W5 wr
theorem OwnF.low {w w' : World} {n base : Nat} {v : Value} {L : List Fl} (h : OwnF w base v L) (hb : Below n w w') (hk : ∀ k, v.ownBlock = some k → k < n) : OwnF w' base v L := by
  refine ⟨h.1, h.2.imp id fun ⟨g, cap, cur, a, b, c, d⟩ => ⟨g, cap, cur, a, b, ?_, d⟩⟩
  exact (hb.block g (hk g (by rw [a]; rfl))).trans c
set_option maxRecDepth 20000 in
set_option maxHeartbeats 8000000 in
theorem lawOrder_ret (ca : Option Addr) (cn cc : Nat) (ma : Option Addr) (mn mc : Nat) (w : World) (hg : Gl w) (hn : cn ≤ cc) (hc : cc ≤ maxLen) (hb : BytesIn w ca cn) (hn' : mn ≤ mc) (hc' : mc ≤ maxLen) (_hb' : BytesIn w ma mn) :
    Calls Tryz.prog 7 #[.slice ca cn cc, .slice ma mn mc] w fun e w' => e = .returned (.bool true) ∧ Below w.heap.size w w' := by
  have H1 : Hid (Calls Tryz.prog _ _ _ _) := drawCome_ret ca cn cc w hn hc hb
  have hm : (cn : Int) ≤ 9223372036854775807 := by unfold maxLen at hc; omega
  have hm' : (mn : Int) ≤ 9223372036854775807 := by unfold maxLen at hc'; omega
  clear hc hb hc'
  by_cases hl : (cn : Int) ≤ 1048576
  · by_cases hl' : (mn : Int) ≤ 1048576
    · have hg : Hid (∀ W, Below w.heap.size w W → Gl W) := fun W h => hg.below h
      go_enter Tryz.func7, Tryz.ntmps7
      go_wp2_with fail
      refine H1.out.mono ?_
      rintro e w1 ⟨⟨ad, ln, hi, da, dc, ds, v6, fs, rfl, hsame, hcome, hlen, hD, hF⟩, hb1⟩
      obtain ⟨sa, sc, rfl⟩ := own_slice hF
      have hBl := bl_alloc (bl_alloc (bl_refl w1) (.cells #[.int .i64 ad, .int .i64 ln, .int .i64 51201, .int .i64 40, .int .i64 hi, .slice da ds.length dc, .int .i64 0, .slice none 0 0] 26)) (.cells #[] 32)
      have x5 := (Box.new w1 #[.int .i64 ad, .int .i64 ln, .int .i64 51201, .int .i64 40, .int .i64 hi, .slice da ds.length dc, .int .i64 0, .slice none 0 0] 26).below (bl_alloc (bl_refl _) (.cells #[] 32))
      have ho := own_empty (w1.alloc (.cells #[.int .i64 ad, .int .i64 ln, .int .i64 51201, .int .i64 40, .int .i64 hi, .slice da ds.length dc, .int .i64 0, .slice none 0 0] 26)) 32 5
      simp only [World.size_alloc] at ho
      have hDlo : Hid (ds = [] ∨ ∀ b o, da = some ⟨b, o, none⟩ → w.heap.size ≤ b) := hD.2.imp id fun ⟨b, o, h1, h2, _⟩ b' o' e => by rw [h1] at e; cases e; exact h2
      replace hD := hD.at.below hBl
      replace hF := hF.below hBl
      have hB := bl_trans hb1 hBl
      have hs1 := hb1.size
      clear H1 hb1 hBl
      have hfs : (fs.length : Int) ≤ 100 := by omega
      go_wp2_with fail
      generalize ((w1.alloc (.cells #[.int .i64 ad, .int .i64 ln, .int .i64 51201, .int .i64 40, .int .i64 hi, .slice da ds.length dc, .int .i64 0, .slice none 0 0] 26)).alloc (.cells #[] 32)) = W2 at *
      generalize w1.heap.size = n5 at *
      have HN : Hid (∀ {x : Int} W, Below W2.heap.size W2 W → Calls Tryz.prog 12 #[.agg #[.int .i64 ad, .int .i64 ln, .int .i64 51201, .int .i64 40, .int .i64 hi, .slice da ds.length dc, .int .i64 0, .slice none 0 0], .int .i64 x] W fun e w' => e = .returned (.bool (insB ad ln x)) ∧ Below W.heap.size W w') := fun {x} W h => by
        have h2 := specInside_ret ad ln 51201 40 hi 0 da ds.length dc none 0 0 x ds [] W (hD.below h) ⟨rfl, Or.inl rfl⟩
        rw [show bookB ad ln 51201 40 hi 0 ds [] = true from hsame.1] at h2
        exact h2
      go_loopg [7, 8] fs.length (fun g sv iv wr => ∃ (n : Nat) (v7 : Value) (L : List Fl), v7 = sv ∧ g = fs.length - n ∧ n ≤ fs.length ∧ iv = .int .i64 n ∧ OwnF wr (n5 + 1) v7 L ∧ ApkL L ∧ L.length ≤ 16 ∧ Below w.heap.size w wr ∧ Below W2.heap.size W2 wr)
      case atStart => exact ⟨0, _, [], rfl, by omega, by omega, rfl, ho, apk_nil, by decide, hB, bl_refl _⟩
      case round =>
        clear ho hB
        obtain ⟨n, v7, L, rfl, hgn, hn9, rfl, hOL, hA, hL16, hB, hC⟩ := hrel
        obtain ⟨la, lc, rfl⟩ := own_slice hOL
        have hA : Hid (ApkL L) := hA
        have hLs : (L.length : Int) ≤ 16 := by omega
        obtain ⟨bb, hbb⟩ : ∃ bb : Bool, (decide ((n : Int) < fs.length) && decide ((L.length : Int) < 16)) = bb := ⟨_, rfl⟩
        go_upto_region 6 with fail
        go_cut [47] (fun s47 wc => s47 = .bool bb ∧ OwnF wc (n5 + 1) (.slice la L.length lc) L ∧ Below w.heap.size w wc ∧ Below W2.heap.size W2 wc)
        case first =>
          by_cases h1 : (n : Int) < (fs.length : Int)
          · by_cases h2 : (L.length : Int) < 16
            · obtain rfl : true = bb := by rw [← hbb]; simp [h1, h2]
              go_wp2_with fail
              go_meet
              exact ⟨rfl, hOL, hB, hC⟩
            · obtain rfl : false = bb := by rw [← hbb]; simp [h2]
              go_wp2_with fail
              go_meet
              exact ⟨rfl, hOL, hB, hC⟩
          · obtain rfl : false = bb := by rw [← hbb]; simp [h1]
            go_wp2_with fail
            go_meet
            exact ⟨rfl, hOL, hB, hC⟩
        case rest =>
          clear hOL hB hC
          obtain ⟨rfl, hOL, hB, hC⟩ := hcut
          cases bb with
          | true =>
            simp only [Bool.and_eq_true, decide_eq_true_eq] at hbb
            obtain ⟨hlt', hL15⟩ := hbb
            have hlt : n < fs.length := by omega
            obtain ⟨f, hd⟩ : ∃ f, fs[n]? = some f := ⟨fs[n], by simp [hlt]⟩
            have hF2 := hF.below hC
            obtain ⟨g6, cap6, hsl, -, hgl6, -, -⟩ := own_form hF2 (by omega)
            simp only [Value.slice.injEq] at hsl
            obtain ⟨rfl, -, rfl⟩ := hsl
            have hy : AtF wc g6 (n * 5) f := by
              have := flCells_of_own hF2 rfl n f hd
              simpa [AtF] using this
            replace x5 := x5.below hC
            clear hF2 hd
            have hA := hA.out
            have hA : Hid (ApkL L) := hA
            go_upto_region 8 with fail
            by_cases hk : 0 < f.k
            · cases hins : insB ad ln f.a with
              | true =>
                have HN2 : Hid (∀ W, Below W2.heap.size W2 W → Calls Tryz.prog 12 #[.agg #[.int .i64 ad, .int .i64 ln, .int .i64 51201, .int .i64 40, .int .i64 hi, .slice da ds.length dc, .int .i64 0, .slice none 0 0], .int .i64 f.a] W fun e w' => e = .returned (.bool true) ∧ Below W.heap.size W w') := by rw [← hins]; exact fun W h => HN.out W h
                clear HN hins
                have HN := HN2
                clear HN2
                refine wp_region_held_drew (S := (fun w' => Box w' n5 #[.int .i64 ad, .int .i64 ln, .int .i64 51201, .int .i64 40, .int .i64 hi, .slice da ds.length dc, .int .i64 0, .slice none 0 0] ∧ AtF w' g6 (n * 5) f)) (by kernel_rfl) ?_ (fun hHeld => ?_)
                · exact ⟨x5.below (bl_drew (bl_refl _)), hy.below (bl_drew (bl_refl _)) hgl6⟩
                have hq := bl_drew (bl_refl wc)
                replace x5 := x5.below hq
                replace hy := hy.below hq hgl6
                replace hgl6 := Nat.lt_of_lt_of_le hgl6 hq.size
                replace hOL := hOL.below hq
                replace hB := bl_trans hB hq
                replace hC := bl_trans hC hq
                clear hq
                generalize wc.drew = W0 at x5 hy hgl6 hOL hB hC hHeld ⊢
                refine takeL 0 50 ?_ ?_ hHeld ?_
                rotate_left
                · (intro w hSw; (try dsimp only at hSw); simp only [Box, AtF] at hSw; go_simp; try with_reducible rfl)
                simp only [Act.put, puA, puB, puC]
                refine takeL 1 51 ?_ ?_ hHeld ?_
                rotate_left
                · (intro w hSw; (try dsimp only at hSw); simp only [Box, AtF] at hSw; go_simp; try with_reducible rfl)
                simp only [Act.put, puA, puB, puC]
                refine takeL 2 52 ?_ ?_ hHeld ?_
                rotate_left
                · (intro w hSw; (try dsimp only at hSw); simp only [Box, AtF] at hSw; go_simp; try with_reducible rfl)
                simp only [Act.put, puA, puB, puC]
                refine takeL 3 53 ?_ ?_ hHeld ?_
                rotate_left
                · (intro w hSw; (try dsimp only at hSw); simp only [Box, AtF] at hSw; go_simp; try with_reducible rfl)
                simp only [Act.put, puA, puB, puC]
                refine takeL 4 54 ?_ ?_ hHeld ?_
                rotate_left
                · (intro w hSw; (try dsimp only at hSw); simp only [Box, AtF] at hSw; go_simp; try with_reducible rfl)
                simp only [Act.put, puA, puB, puC]
                refine takeL 5 55 ?_ ?_ hHeld ?_
                rotate_left
                · (intro w hSw; (try dsimp only at hSw); simp only [Box, AtF] at hSw; go_simp; try with_reducible rfl)
                simp only [Act.put, puA, puB, puC]
                refine takeL 6 56 ?_ ?_ hHeld ?_
                rotate_left
                · (intro w hSw; (try dsimp only at hSw); simp only [Box, AtF] at hSw; go_simp; try with_reducible rfl)
                simp only [Act.put, puA, puB, puC]
                refine takeL 7 57 ?_ ?_ hHeld ?_
                rotate_left
                · (intro w hSw; (try dsimp only at hSw); simp only [Box, AtF] at hSw; go_simp; try with_reducible rfl)
                simp only [Act.put, puA, puB, puC]
                refine takeL 8 58 ?_ ?_ hHeld ?_
                rotate_left
                · (intro w hSw; (try dsimp only at hSw); simp only [Box, AtF] at hSw; go_simp; try with_reducible rfl)
                simp only [Act.put, puA, puB, puC]
                refine takeL 9 59 ?_ ?_ hHeld ?_
                rotate_left
                · (intro w hSw; (try dsimp only at hSw); simp only [Box, AtF] at hSw; go_simp; try with_reducible rfl)
                simp only [Act.put, puA, puB, puC]
                refine takeL 10 60 ?_ ?_ hHeld ?_
                rotate_left
                · (intro w hSw; (try dsimp only at hSw); simp only [Box, AtF] at hSw; go_simp; try with_reducible rfl)
                simp only [Act.put, puA, puB, puC]
                refine takeL 11 61 ?_ ?_ hHeld ?_
                rotate_left
                · (intro w hSw; (try dsimp only at hSw); simp only [Box, AtF] at hSw; go_simp; try with_reducible rfl)
                simp only [Act.put, puA, puB, puC]
                refine takeL 12 62 ?_ ?_ hHeld ?_
                rotate_left
                · (intro w hSw; (try dsimp only at hSw); simp only [Box, AtF] at hSw; go_simp; try with_reducible rfl)
                simp only [Act.put, puA, puB, puC]
                refine wpAnyH_ready (rs := [13]) (by kernel_rfl) (by simp) (AllReadyH.cons rfl (fun K hK => ?_) (AllReadyH.nil))
                refine step_callg 63 12 rfl (by kernel_rfl) (HN.out _ hC) (by kernel_rfl) ?_
                rintro e W1 ⟨rfl, hb⟩
                refine ⟨_, rfl, ?_⟩
                simp only [Act.put, puA, puB, puC]
                replace x5 := x5.below hb
                replace hy := hy.below hb hgl6
                replace hgl6 := Nat.lt_of_lt_of_le hgl6 hb.size
                replace hOL := hOL.below hb
                replace hB := bl_trans hB hb
                replace hC := bl_trans hC hb
                clear hb
                refine hK.out _ _ ?_ (fun hHeld1 => ?_)
                · exact ⟨x5, hy⟩
                clear hK K hHeld
                have hHeld := hHeld1
                clear hHeld1
                refine takeL 14 64 ?_ ?_ hHeld ?_
                rotate_left
                · (intro w hSw; (try dsimp only at hSw); simp only [Box, AtF] at hSw; go_simp; try with_reducible rfl)
                simp only [Act.put, puA, puB, puC]
                refine wpAnyH_done (by kernel_rfl) ?_ _
                clear hHeld
                obtain ⟨c0, c1, c2, c3, c4⟩ := id hy
                go_wp2_with fail
                refine (put_list_ret (n5 + 1) _ L f _ hOL (by omega) (by have := x5.1; omega)).mono ?_
                rintro e W2' ⟨⟨v8, rfl, hOL2⟩, hb⟩
                replace hB := bl_trans hB hb
                replace hC := bl_trans hC hb
                go_wp2_with fail
                go_roundg (fs.length - (n + 1))
                case measure => omega
                case rel => exact ⟨n + 1, v8, putF L f, rfl, rfl, by omega, by go_num, hOL2, apk_put hA.out, (by have := put_len L f; omega), hB, hC⟩
              | false =>
                have HN2 : Hid (∀ W, Below W2.heap.size W2 W → Calls Tryz.prog 12 #[.agg #[.int .i64 ad, .int .i64 ln, .int .i64 51201, .int .i64 40, .int .i64 hi, .slice da ds.length dc, .int .i64 0, .slice none 0 0], .int .i64 f.a] W fun e w' => e = .returned (.bool false) ∧ Below W.heap.size W w') := by rw [← hins]; exact fun W h => HN.out W h
                clear HN hins
                have HN := HN2
                clear HN2
                refine wp_region_held_drew (S := (fun w' => Box w' n5 #[.int .i64 ad, .int .i64 ln, .int .i64 51201, .int .i64 40, .int .i64 hi, .slice da ds.length dc, .int .i64 0, .slice none 0 0] ∧ AtF w' g6 (n * 5) f)) (by kernel_rfl) ?_ (fun hHeld => ?_)
                · exact ⟨x5.below (bl_drew (bl_refl _)), hy.below (bl_drew (bl_refl _)) hgl6⟩
                have hq := bl_drew (bl_refl wc)
                replace x5 := x5.below hq
                replace hy := hy.below hq hgl6
                replace hgl6 := Nat.lt_of_lt_of_le hgl6 hq.size
                replace hOL := hOL.below hq
                replace hB := bl_trans hB hq
                replace hC := bl_trans hC hq
                clear hq
                generalize wc.drew = W0 at x5 hy hgl6 hOL hB hC hHeld ⊢
                refine takeL 0 50 ?_ ?_ hHeld ?_
                rotate_left
                · (intro w hSw; (try dsimp only at hSw); simp only [Box, AtF] at hSw; go_simp; try with_reducible rfl)
                simp only [Act.put, puA, puB, puC]
                refine takeL 1 51 ?_ ?_ hHeld ?_
                rotate_left
                · (intro w hSw; (try dsimp only at hSw); simp only [Box, AtF] at hSw; go_simp; try with_reducible rfl)
                simp only [Act.put, puA, puB, puC]
                refine takeL 2 52 ?_ ?_ hHeld ?_
                rotate_left
                · (intro w hSw; (try dsimp only at hSw); simp only [Box, AtF] at hSw; go_simp; try with_reducible rfl)
                simp only [Act.put, puA, puB, puC]
                refine takeL 3 53 ?_ ?_ hHeld ?_
                rotate_left
                · (intro w hSw; (try dsimp only at hSw); simp only [Box, AtF] at hSw; go_simp; try with_reducible rfl)
                simp only [Act.put, puA, puB, puC]
                refine takeL 4 54 ?_ ?_ hHeld ?_
                rotate_left
                · (intro w hSw; (try dsimp only at hSw); simp only [Box, AtF] at hSw; go_simp; try with_reducible rfl)
                simp only [Act.put, puA, puB, puC]
                refine takeL 5 55 ?_ ?_ hHeld ?_
                rotate_left
                · (intro w hSw; (try dsimp only at hSw); simp only [Box, AtF] at hSw; go_simp; try with_reducible rfl)
                simp only [Act.put, puA, puB, puC]
                refine takeL 6 56 ?_ ?_ hHeld ?_
                rotate_left
                · (intro w hSw; (try dsimp only at hSw); simp only [Box, AtF] at hSw; go_simp; try with_reducible rfl)
                simp only [Act.put, puA, puB, puC]
                refine takeL 7 57 ?_ ?_ hHeld ?_
                rotate_left
                · (intro w hSw; (try dsimp only at hSw); simp only [Box, AtF] at hSw; go_simp; try with_reducible rfl)
                simp only [Act.put, puA, puB, puC]
                refine takeL 8 58 ?_ ?_ hHeld ?_
                rotate_left
                · (intro w hSw; (try dsimp only at hSw); simp only [Box, AtF] at hSw; go_simp; try with_reducible rfl)
                simp only [Act.put, puA, puB, puC]
                refine takeL 9 59 ?_ ?_ hHeld ?_
                rotate_left
                · (intro w hSw; (try dsimp only at hSw); simp only [Box, AtF] at hSw; go_simp; try with_reducible rfl)
                simp only [Act.put, puA, puB, puC]
                refine takeL 10 60 ?_ ?_ hHeld ?_
                rotate_left
                · (intro w hSw; (try dsimp only at hSw); simp only [Box, AtF] at hSw; go_simp; try with_reducible rfl)
                simp only [Act.put, puA, puB, puC]
                refine takeL 11 61 ?_ ?_ hHeld ?_
                rotate_left
                · (intro w hSw; (try dsimp only at hSw); simp only [Box, AtF] at hSw; go_simp; try with_reducible rfl)
                simp only [Act.put, puA, puB, puC]
                refine takeL 12 62 ?_ ?_ hHeld ?_
                rotate_left
                · (intro w hSw; (try dsimp only at hSw); simp only [Box, AtF] at hSw; go_simp; try with_reducible rfl)
                simp only [Act.put, puA, puB, puC]
                refine wpAnyH_ready (rs := [13]) (by kernel_rfl) (by simp) (AllReadyH.cons rfl (fun K hK => ?_) (AllReadyH.nil))
                refine step_callg 63 12 rfl (by kernel_rfl) (HN.out _ hC) (by kernel_rfl) ?_
                rintro e W1 ⟨rfl, hb⟩
                refine ⟨_, rfl, ?_⟩
                simp only [Act.put, puA, puB, puC]
                replace x5 := x5.below hb
                replace hy := hy.below hb hgl6
                replace hgl6 := Nat.lt_of_lt_of_le hgl6 hb.size
                replace hOL := hOL.below hb
                replace hB := bl_trans hB hb
                replace hC := bl_trans hC hb
                clear hb
                refine hK.out _ _ ?_ (fun hHeld1 => ?_)
                · exact ⟨x5, hy⟩
                clear hK K hHeld
                have hHeld := hHeld1
                clear hHeld1
                refine takeL 14 64 ?_ ?_ hHeld ?_
                rotate_left
                · (intro w hSw; (try dsimp only at hSw); simp only [Box, AtF] at hSw; go_simp; try with_reducible rfl)
                simp only [Act.put, puA, puB, puC]
                refine wpAnyH_done (by kernel_rfl) ?_ _
                clear hHeld
                go_wp2_with fail
                go_roundg (fs.length - (n + 1))
                case measure => omega
                case rel => exact ⟨n + 1, _, L, rfl, rfl, by omega, by go_num, hOL, hA.out, hL16, hB, hC⟩
            · skip
              refine wp_region_held_drew (S := (fun w' => Box w' n5 #[.int .i64 ad, .int .i64 ln, .int .i64 51201, .int .i64 40, .int .i64 hi, .slice da ds.length dc, .int .i64 0, .slice none 0 0] ∧ AtF w' g6 (n * 5) f)) (by kernel_rfl) ?_ (fun hHeld => ?_)
              · exact ⟨x5.below (bl_drew (bl_refl _)), hy.below (bl_drew (bl_refl _)) hgl6⟩
              have hq := bl_drew (bl_refl wc)
              replace x5 := x5.below hq
              replace hy := hy.below hq hgl6
              replace hgl6 := Nat.lt_of_lt_of_le hgl6 hq.size
              replace hOL := hOL.below hq
              replace hB := bl_trans hB hq
              replace hC := bl_trans hC hq
              clear hq
              generalize wc.drew = W0 at x5 hy hgl6 hOL hB hC hHeld ⊢
              refine takeL 0 50 ?_ ?_ hHeld ?_
              rotate_left
              · (intro w hSw; (try dsimp only at hSw); simp only [Box, AtF] at hSw; go_simp; try with_reducible rfl)
              simp only [Act.put, puA, puB, puC]
              refine takeL 1 51 ?_ ?_ hHeld ?_
              rotate_left
              · (intro w hSw; (try dsimp only at hSw); simp only [Box, AtF] at hSw; go_simp; try with_reducible rfl)
              simp only [Act.put, puA, puB, puC]
              refine takeL 2 52 ?_ ?_ hHeld ?_
              rotate_left
              · (intro w hSw; (try dsimp only at hSw); simp only [Box, AtF] at hSw; go_simp; try with_reducible rfl)
              simp only [Act.put, puA, puB, puC]
              refine takeL 3 53 ?_ ?_ hHeld ?_
              rotate_left
              · (intro w hSw; (try dsimp only at hSw); simp only [Box, AtF] at hSw; go_simp; try with_reducible rfl)
              simp only [Act.put, puA, puB, puC]
              refine takeL 4 54 ?_ ?_ hHeld ?_
              rotate_left
              · (intro w hSw; (try dsimp only at hSw); simp only [Box, AtF] at hSw; go_simp; try with_reducible rfl)
              simp only [Act.put, puA, puB, puC]
              refine takeL 5 55 ?_ ?_ hHeld ?_
              rotate_left
              · (intro w hSw; (try dsimp only at hSw); simp only [Box, AtF] at hSw; go_simp; try with_reducible rfl)
              simp only [Act.put, puA, puB, puC]
              refine takeL 6 56 ?_ ?_ hHeld ?_
              rotate_left
              · (intro w hSw; (try dsimp only at hSw); simp only [Box, AtF] at hSw; go_simp; try with_reducible rfl)
              simp only [Act.put, puA, puB, puC]
              refine takeN 7 57 hHeld ?_
              simp only [Act.put, puA, puB, puC]
              refine takeN 8 58 hHeld ?_
              simp only [Act.put, puA, puB, puC]
              refine takeN 9 59 hHeld ?_
              simp only [Act.put, puA, puB, puC]
              refine takeN 10 60 hHeld ?_
              simp only [Act.put, puA, puB, puC]
              refine takeN 11 61 hHeld ?_
              simp only [Act.put, puA, puB, puC]
              refine takeN 12 62 hHeld ?_
              simp only [Act.put, puA, puB, puC]
              refine takeN 13 63 hHeld ?_
              simp only [Act.put, puA, puB, puC]
              refine takeL 14 64 ?_ ?_ hHeld ?_
              rotate_left
              · (intro w hSw; (try dsimp only at hSw); simp only [Box, AtF] at hSw; go_simp; try with_reducible rfl)
              simp only [Act.put, puA, puB, puC]
              refine wpAnyH_done (by kernel_rfl) ?_ _
              clear hHeld
              go_wp2_with fail
              go_roundg (fs.length - (n + 1))
              case measure => omega
              case rel => exact ⟨n + 1, _, L, rfl, rfl, by omega, by go_num, hOL, hA.out, hL16, hB, hC⟩
          | false =>
            clear hbb HN hgn hn9 hF
            have x5' := x5.below hC
            have hD' := hD.below hC
            clear x5 hD
            have hBa := bl_alloc (bl_alloc (bl_alloc (bl_refl wc) (.cells #[.int .i64 ad, .int .i64 ln, .int .i64 51201, .int .i64 40, .int .i64 hi, .slice da ds.length dc, .int .i64 0, .slice none 0 0] 26)) (.cells #[.int .i64 ad, .int .i64 ln, .int .i64 51201, .int .i64 40, .int .i64 hi, .slice da ds.length dc, .int .i64 0, .slice none 0 0] 26)) (.cells #[] 32)
            have x9 := ((Bx.new wc #[.int .i64 ad, .int .i64 ln, .int .i64 51201, .int .i64 40, .int .i64 hi, .slice da ds.length dc, .int .i64 0, .slice none 0 0] 26).below (bl_alloc (bl_refl _) (.cells #[.int .i64 ad, .int .i64 ln, .int .i64 51201, .int .i64 40, .int .i64 hi, .slice da ds.length dc, .int .i64 0, .slice none 0 0] 26))).below (bl_alloc (bl_refl _) (.cells #[] 32))
            have x10 := (Bx.new (wc.alloc (.cells #[.int .i64 ad, .int .i64 ln, .int .i64 51201, .int .i64 40, .int .i64 hi, .slice da ds.length dc, .int .i64 0, .slice none 0 0] 26)) #[.int .i64 ad, .int .i64 ln, .int .i64 51201, .int .i64 40, .int .i64 hi, .slice da ds.length dc, .int .i64 0, .slice none 0 0] 26).below (bl_alloc (bl_refl _) (.cells #[] 32))
            have ho3 := own_empty ((wc.alloc (.cells #[.int .i64 ad, .int .i64 ln, .int .i64 51201, .int .i64 40, .int .i64 hi, .slice da ds.length dc, .int .i64 0, .slice none 0 0] 26)).alloc (.cells #[.int .i64 ad, .int .i64 ln, .int .i64 51201, .int .i64 40, .int .i64 hi, .slice da ds.length dc, .int .i64 0, .slice none 0 0] 26)) 32 5
            simp only [World.size_alloc] at x10 ho3
            have y5 := x5'.2
            have y5' := (x5'.below (bl_alloc (bl_refl wc) (.cells #[.int .i64 ad, .int .i64 ln, .int .i64 51201, .int .i64 40, .int .i64 hi, .slice da ds.length dc, .int .i64 0, .slice none 0 0] 26))).2
            have hk7 : ∀ k, (Value.slice la L.length lc).ownBlock = some k → k < wc.heap.size := fun k hk => (hOL.lt k hk).2
            have hLX0 : ∀ n, wc.heap.size ≤ n → ListX wc w.heap.size n (wc.heap.size + 1 + 1) da none ds [] := fun n hn => ⟨hDlo.out.elim Or.inl fun hlo => hD'.2.imp id (fun ⟨b, o, h1, h2, h3⟩ => ⟨b, o, h1, ⟨hlo b o h1, h2, by omega, Or.inl (by omega)⟩, h3⟩), Or.inl rfl⟩
            have hLX := hLX0 _ (Nat.le_refl _)
            have hLX3 : Hid (∀ W, Below wc.heap.size (((wc.alloc (.cells #[.int .i64 ad, .int .i64 ln, .int .i64 51201, .int .i64 40, .int .i64 hi, .slice da ds.length dc, .int .i64 0, .slice none 0 0] 26)).alloc (.cells #[.int .i64 ad, .int .i64 ln, .int .i64 51201, .int .i64 40, .int .i64 hi, .slice da ds.length dc, .int .i64 0, .slice none 0 0] 26)).alloc (.cells #[] 32)) W → ListX W w.heap.size (wc.heap.size + 1) (wc.heap.size + 1 + 1) da none ds []) := fun W h => ⟨hDlo.out.elim Or.inl fun hlo => by
              rcases hD'.2 with h | ⟨b, o, h1, h2, h3⟩
              · exact Or.inl h
              rcases (hD'.below (low_trans hBa h)).2 with h | ⟨b', o', k1, k2, k3⟩
              · exact Or.inl h
              rw [h1] at k1
              cases k1
              exact Or.inr ⟨b, o, h1, ⟨hlo b o h1, k2, by omega, Or.inl (by omega)⟩, k3⟩, Or.inl rfl⟩
            have hOff := Off.of (hLX0 (wc.heap.size + 1) (by omega))
            clear hLX0 hDlo
            have hwn9 := hB.size
            have hbeg := begun_start (B := ⟨ad, ln, 51201, 40, hi, 0, ds, []⟩) hsame.1 rfl
            replace hOL := hOL.below hBa
            replace hB := bl_trans hB hBa
            replace hLX := hLX.below hBa
            go_wp2_with fail
            clear y5 y5' hBa hC x5' hD'
            generalize (((wc.alloc (.cells #[.int .i64 ad, .int .i64 ln, .int .i64 51201, .int .i64 40, .int .i64 hi, .slice da ds.length dc, .int .i64 0, .slice none 0 0] 26)).alloc (.cells #[.int .i64 ad, .int .i64 ln, .int .i64 51201, .int .i64 40, .int .i64 hi, .slice da ds.length dc, .int .i64 0, .slice none 0 0] 26)).alloc (.cells #[] 32)) = W5 at *
            generalize wc.heap.size = n9 at *
            generalize hq3 : n9 + 1 + 1 = q3 at *
            generalize hn10 : n9 + 1 = n10 at *
            have hP : P2 w W5 W5 n9 n10 q3 ⟨ad, ln, 51201, 40, hi, 0, ds, []⟩ L #[.int .i64 ad, .int .i64 ln, .int .i64 51201, .int .i64 40, .int .i64 hi, .slice da ds.length dc, .int .i64 0, .slice none 0 0] (.slice (some ⟨q3, 0, none⟩) 0 0) 0 := ⟨⟨⟨ad, ln, 51201, 40, hi, 0, ds, []⟩, da, dc, none, 0, by simpa using hbeg, x9, hLX, hOff⟩, (by simp only [List.take_zero, List.map_nil]; exact ho3), x10, hB, Below.refl _ _⟩
            clear x9 x10 ho3 hLX hbeg hB hOff
            go_loopg [11, 12] L.length (fun g sv iv wr => ∃ (i : Nat) (v11 : Value), v11 = sv ∧ g = L.length - i ∧ i ≤ L.length ∧ iv = .int .i64 i ∧ P2 w W5 wr n9 n10 q3 ⟨ad, ln, 51201, 40, hi, 0, ds, []⟩ L #[.int .i64 ad, .int .i64 ln, .int .i64 51201, .int .i64 40, .int .i64 hi, .slice da ds.length dc, .int .i64 0, .slice none 0 0] v11 i)
            case atStart => exact ⟨0, _, rfl, by omega, by omega, rfl, hP⟩
            case round =>
              clear hP
              obtain ⟨i, v11, rfl, hgi, hi9, rfl, hP⟩ := hrel
              by_cases hlt : i < L.length
              · obtain ⟨⟨X, va, vc, ua, uc, hBg, x9, hL, -⟩, hOF, x10, hB, hLo⟩ := hP
                obtain ⟨f, hd⟩ : ∃ f, L[i]? = some f := ⟨L[i], by simp [hlt]⟩
                have hlt' : (i : Int) < (L.length : Int) := by omega
                have hOL2 := hOL.low hLo hk7
                obtain ⟨gl, capl, hsl, -, hgl, -, -⟩ := own_form hOL2 (by omega)
                simp only [Value.slice.injEq] at hsl
                obtain ⟨rfl, -, rfl⟩ := hsl
                have hy : AtF wr gl (i * 5) f := by
                  have := flCells_of_own hOL2 rfl i f hd
                  simpa [AtF] using this
                have hstep := begun_step (f := f) hBg (by simp; omega) (fun g hg => by
                  obtain ⟨j, hj⟩ := List.mem_iff_getElem?.1 hg
                  have hjl := get_lt hj
                  simp only [List.length_take] at hjl
                  rw [List.getElem?_take_of_lt (by omega)] at hj
                  exact hA.out j i g f (by omega) hj hd)
                have htk : L.take i ++ [f] = L.take (i + 1) := by rw [List.take_add_one, hd]; rfl
                rw [htk] at hstep
                obtain ⟨⟨R, F, c⟩, hO⟩ : ∃ O, outM X f.k f.a f.ap f.b f.bp = O := ⟨_, rfl⟩
                have HI : Hid (∀ W', Gl W' → ListX W' w.heap.size n9 q3 va ua X.ds X.es → Calls Tryz.prog 13 #[.agg #[.int .i64 X.ad, .int .i64 X.ln, .int .i64 X.ow, .int .i64 X.lo, .int .i64 X.hi, .slice va X.ds.length vc, .int .i64 X.nw, .slice ua X.es.length uc], .agg #[.int .i64 f.k, .int .i64 f.a, .int .i64 f.ap, .int .i64 f.b, .int .i64 f.bp]] W' fun e w' => ToldO w' W'.heap.size e ⟨R, F, c⟩ ∧ Below W'.heap.size W' w') := fun W' h0 h1 => by rw [← hO]; exact implOut_ret X.ad X.ln X.ow X.lo X.hi X.nw va X.ds.length vc ua X.es.length uc f.k f.a f.ap f.b f.bp X.ds X.es W' h0 h1.doors.at h1.ents.at
                have HS : Hid (∀ W', ListX W' w.heap.size n9 q3 va ua X.ds X.es → Calls Tryz.prog 14 #[.agg #[.int .i64 X.ad, .int .i64 X.ln, .int .i64 X.ow, .int .i64 X.lo, .int .i64 X.hi, .slice va X.ds.length vc, .int .i64 X.nw, .slice ua X.es.length uc], .agg #[.int .i64 f.k, .int .i64 f.a, .int .i64 f.ap, .int .i64 f.b, .int .i64 f.bp]] W' fun e w' => ToldO w' W'.heap.size e ⟨R, F, c⟩ ∧ Below W'.heap.size W' w') := fun W' h1 => by rw [← hO]; exact specOut_ret X.ad X.ln X.ow X.lo X.hi X.nw va X.ds.length vc ua X.es.length uc f.k f.a f.ap f.b f.bp X.ds X.es W' h1.doors.at h1.ents.at
                rw [hO] at hstep
                obtain ⟨hFo, hBg2⟩ := hstep
                have hmap : Hid ((L.take i).map (outside ⟨ad, ln, 51201, 40, hi, 0, ds, []⟩) ++ [F] = (L.take (i + 1)).map (outside ⟨ad, ln, 51201, 40, hi, 0, ds, []⟩)) := by show _ = _; rw [← htk, List.map_append, show F = outside ⟨ad, ln, 51201, 40, hi, 0, ds, []⟩ f from hFo]; rfl
                clear hFo
                have hBg2 : Hid (Begun ⟨ad, ln, 51201, 40, hi, 0, ds, []⟩ R (L.take (i + 1))) := hBg2
                have hRl : R.ds.length ≤ 100 ∧ R.es.length ≤ 100 := by
                  obtain ⟨_, h1, h2, _⟩ := book_parts (show bookB R.ad R.ln R.ow R.lo R.hi R.nw R.ds R.es = true from hBg2.out.2.2.2.2.2.2.2.1)
                  omega
                obtain ⟨hRl1, hRl2⟩ := hRl
                clear hO hBg hd htk hOL2
                have hw0 : w.heap.size ≤ wr.heap.size := hB.size
                have xN := x9.1
                have hl9 := x9.1.1
                have hko : ∀ k, v11.ownBlock = some k → k < wr.heap.size := fun k hk => (hOF.lt k hk).2
                go_upto_region 16 with fail
                go_cut [13, 14, 15] (fun s13 s14 s15 wd => ∃ (m9 m10 : Nat) (pa : Option Addr) (pc : Nat) (ra : Option Addr) (rc : Nat), s13 = .pointer (some ⟨m9, 0, none⟩) ∧ s14 = .pointer (some ⟨m10, 0, none⟩) ∧ s15 = .int .i64 c ∧ Box wd m9 #[.int .i64 R.ad, .int .i64 R.ln, .int .i64 R.ow, .int .i64 R.lo, .int .i64 R.hi, .slice pa R.ds.length pc, .int .i64 R.nw, .slice ra R.es.length rc] ∧ Box wd m10 #[.int .i64 F.k, .int .i64 F.a, .int .i64 F.ap, .int .i64 F.b, .int .i64 F.bp] ∧ OwnB wd wr.heap.size (.slice pa R.ds.length pc) R.ds (.slice ra R.es.length rc) R.es ∧ wr.heap.size ≤ m9 ∧ Below wr.heap.size wr wd)
                case first =>
                  refine region_midV [81, 82, 83, 84, 85, 86, 80, 87, 88, 89, 13, 14, 100012, 100013, 15] (fun K x u => ((K 0 = true → x 0 = .agg #[.int .i64 X.ad, .int .i64 X.ln, .int .i64 X.ow, .int .i64 X.lo, .int .i64 X.hi, .slice va X.ds.length vc, .int .i64 X.nw, .slice ua X.es.length uc]) ∧ (K 1 = true → x 1 = .slice (some ⟨gl, 0, none⟩) L.length lc) ∧ (K 2 = true → x 2 = .int .i64 i) ∧ (K 3 = true → x 3 = .pointer (some ⟨gl, i * 5, none⟩)) ∧ (K 4 = true → x 4 = .agg #[.int .i64 f.k, .int .i64 f.a, .int .i64 f.ap, .int .i64 f.b, .int .i64 f.bp])) ∧ ∃ m9 m10 va' vc' ua' uc', JG w wr n9 n9 n9 #[.int .i64 X.ad, .int .i64 X.ln, .int .i64 X.ow, .int .i64 X.lo, .int .i64 X.hi, .slice va X.ds.length vc, .int .i64 X.nw, .slice ua X.es.length uc] #[.int .i64 X.ad, .int .i64 X.ln, .int .i64 X.ow, .int .i64 X.lo, .int .i64 X.hi, .slice va X.ds.length vc, .int .i64 X.nw, .slice ua X.es.length uc] R F c m9 m10 va' vc' ua' uc' (K 5) (K 6) (K 7) (K 8) (K 9) (K 10) (K 11) (K 12) (K 13) (K 14) (x 5) (x 6) (x 7) (x 8) (x 9) (x 10) (x 11) (x 14) u) (by kernel_rfl) (by kernel_rfl) (by decide) ?_ ?_ ?_
                  · exact ⟨⟨(fun h => by cases h), (fun h => by cases h), (fun h => by cases h), (fun h => by cases h), (fun h => by cases h)⟩, 0, 0, none, 0, none, 0, bl_drew hB, bl_drew (bl_refl _), xN.below (bl_drew (bl_refl _)), xN.below (bl_drew (bl_refl _)), (fun h => by cases h), (fun h => by cases h), (fun h => by cases h), (fun h => by cases h), (fun h => by cases h), (fun h => by cases h), (fun h => by cases h), (fun h => by cases h), (fun h => by cases h), (fun h => by cases h)⟩
                  · refine all_lt_succ (all_lt_succ (all_lt_succ (all_lt_succ (all_lt_succ (all_lt_succ (all_lt_succ (all_lt_succ (all_lt_succ (all_lt_succ (all_lt_succ (all_lt_succ (all_lt_succ (all_lt_succ (all_lt_succ (all_lt_zero _) ?_) ?_) ?_) ?_) ?_) ?_) ?_) ?_) ?_) ?_) ?_) ?_) ?_) ?_) ?_
                    · refine stepOkV_at _ rfl ?_
                      intro K' vs u hv hli hup hJ K hK
                      obtain ⟨v0, v1, v2, v3, v4, v5, v6, v7, v8, v9, v10, v11, v12, v13, v14, rfl⟩ := len15 hv
                      obtain ⟨⟨p0, p1, p2, p3, p4⟩, m9, m10, va', vc', ua', uc', jg⟩ := hJ
                      have hbx := jg.x1.2
                      refine mid_val (.agg #[.int .i64 X.ad, .int .i64 X.ln, .int .i64 X.ow, .int .i64 X.lo, .int .i64 X.hi, .slice va X.ds.length vc, .int .i64 X.nw, .slice ua X.es.length uc]) u (by kernel_rfl) ?_ (hK.out _ _ ⟨⟨fun _ => rfl, p1, p2, p3, p4⟩, m9, m10, va', vc', ua', uc', jg⟩)
                      simp only [setAll, List.setIfInBounds_toArray, List.set_cons_zero, List.set_cons_succ, List.set_nil]
                      go_simp
                    · refine stepOkV_at _ rfl ?_
                      intro K' vs u hv hli hup hJ K hK
                      obtain ⟨v0, v1, v2, v3, v4, v5, v6, v7, v8, v9, v10, v11, v12, v13, v14, rfl⟩ := len15 hv
                      obtain ⟨⟨p0, p1, p2, p3, p4⟩, m9, m10, va', vc', ua', uc', jg⟩ := hJ
                      exact mid_val (.slice (some ⟨gl, 0, none⟩) L.length lc) u (by kernel_rfl) (by kernel_rfl) (hK.out _ _ ⟨⟨p0, fun _ => rfl, p2, p3, p4⟩, m9, m10, va', vc', ua', uc', jg⟩)
                    · refine stepOkV_at _ rfl ?_
                      intro K' vs u hv hli hup hJ K hK
                      obtain ⟨v0, v1, v2, v3, v4, v5, v6, v7, v8, v9, v10, v11, v12, v13, v14, rfl⟩ := len15 hv
                      obtain ⟨⟨p0, p1, p2, p3, p4⟩, m9, m10, va', vc', ua', uc', jg⟩ := hJ
                      exact mid_val (.int .i64 i) u (by kernel_rfl) (by kernel_rfl) (hK.out _ _ ⟨⟨p0, p1, fun _ => rfl, p3, p4⟩, m9, m10, va', vc', ua', uc', jg⟩)
                    · refine stepOkV_at _ rfl ?_
                      intro K' vs u hv hli hup hJ K hK
                      obtain ⟨v0, v1, v2, v3, v4, v5, v6, v7, v8, v9, v10, v11, v12, v13, v14, rfl⟩ := len15 hv
                      obtain ⟨⟨p0, p1, p2, p3, p4⟩, m9, m10, va', vc', ua', uc', jg⟩ := hJ
                      obtain rfl : v1 = .slice (some ⟨gl, 0, none⟩) L.length lc := p1 (updV hup 1 (by kernel_rfl))
                      obtain rfl : v2 = .int .i64 i := p2 (updV hup 2 (by kernel_rfl))
                      refine mid_val (.pointer (some ⟨gl, i * 5, none⟩)) u (by kernel_rfl) ?_ (hK.out _ _ ⟨⟨p0, p1, p2, fun _ => rfl, p4⟩, m9, m10, va', vc', ua', uc', jg⟩)
                      simp only [setAll, List.setIfInBounds_toArray, List.set_cons_zero, List.set_cons_succ, List.set_nil]
                      go_simp
                    · refine stepOkV_at _ rfl ?_
                      intro K' vs u hv hli hup hJ K hK
                      obtain ⟨v0, v1, v2, v3, v4, v5, v6, v7, v8, v9, v10, v11, v12, v13, v14, rfl⟩ := len15 hv
                      obtain ⟨⟨p0, p1, p2, p3, p4⟩, m9, m10, va', vc', ua', uc', jg⟩ := hJ
                      obtain rfl : v3 = .pointer (some ⟨gl, i * 5, none⟩) := p3 (updV hup 3 (by kernel_rfl))
                      obtain ⟨c0, c1, c2, c3, c4⟩ := hy.below jg.hC hgl
                      refine mid_val (.agg #[.int .i64 f.k, .int .i64 f.a, .int .i64 f.ap, .int .i64 f.b, .int .i64 f.bp]) u (by kernel_rfl) ?_ (hK.out _ _ ⟨⟨p0, p1, p2, p3, fun _ => rfl⟩, m9, m10, va', vc', ua', uc', jg⟩)
                      simp only [setAll, List.setIfInBounds_toArray, List.set_cons_zero, List.set_cons_succ, List.set_nil]
                      go_simp
                    · refine stepOkV_at _ rfl ?_
                      intro K' vs u hv hli hup hJ K hK
                      obtain ⟨v0, v1, v2, v3, v4, v5, v6, v7, v8, v9, v10, v11, v12, v13, v14, rfl⟩ := len15 hv
                      obtain ⟨⟨p0, p1, p2, p3, p4⟩, m9, m10, va', vc', ua', uc', jg⟩ := hJ
                      obtain rfl : v0 = .agg #[.int .i64 X.ad, .int .i64 X.ln, .int .i64 X.ow, .int .i64 X.lo, .int .i64 X.hi, .slice va X.ds.length vc, .int .i64 X.nw, .slice ua X.es.length uc] := p0 (updV hup 0 (by kernel_rfl))
                      obtain rfl : v4 = .agg #[.int .i64 f.k, .int .i64 f.a, .int .i64 f.ap, .int .i64 f.b, .int .i64 f.bp] := p4 (updV hup 4 (by kernel_rfl))
                      refine mid_call 13 (by kernel_rfl) (HI.out u (hg.out _ jg.hB) (hL.below jg.hC)) (by kernel_rfl) ?_
                      rintro e u' ⟨⟨pa, pc, ra, rc, rfl, hO⟩, hb⟩
                      exact ⟨_, rfl, hK.out _ _ ⟨⟨p0, p1, p2, p3, p4⟩, m9, m10, pa, pc, ra, rc, JG.call hli jg hb hO⟩⟩
                    · refine stepOkV_at _ rfl ?_
                      intro K' vs u hv hli hup hJ K hK
                      obtain ⟨v0, v1, v2, v3, v4, v5, v6, v7, v8, v9, v10, v11, v12, v13, v14, rfl⟩ := len15 hv
                      obtain ⟨⟨p0, p1, p2, p3, p4⟩, m9, m10, va', vc', ua', uc', jg⟩ := hJ
                      have e4 := updV hup 5 (by kernel_rfl)
                      obtain rfl : v5 = .tuple #[.agg #[.int .i64 R.ad, .int .i64 R.ln, .int .i64 R.ow, .int .i64 R.lo, .int .i64 R.hi, .slice va' R.ds.length vc', .int .i64 R.nw, .slice ua' R.es.length uc'], .agg #[.int .i64 F.k, .int .i64 F.a, .int .i64 F.ap, .int .i64 F.b, .int .i64 F.bp], .int .i64 c] := (jg.h4 e4).1
                      exact mid_val _ u (by kernel_rfl) (by kernel_rfl) (hK.out _ _ ⟨⟨p0, p1, p2, p3, p4⟩, m9, m10, va', vc', ua', uc', jg.mv5 e4⟩)
                    · refine stepOkV_at _ rfl ?_
                      intro K' vs u hv hli hup hJ K hK
                      obtain ⟨v0, v1, v2, v3, v4, v5, v6, v7, v8, v9, v10, v11, v12, v13, v14, rfl⟩ := len15 hv
                      obtain ⟨⟨p0, p1, p2, p3, p4⟩, m9, m10, va', vc', ua', uc', jg⟩ := hJ
                      obtain ⟨e4, e5⟩ := jg.h5 (updV hup 6 (by kernel_rfl))
                      obtain rfl : v6 = .tuple #[.agg #[.int .i64 R.ad, .int .i64 R.ln, .int .i64 R.ow, .int .i64 R.lo, .int .i64 R.hi, .slice va' R.ds.length vc', .int .i64 R.nw, .slice ua' R.es.length uc'], .agg #[.int .i64 F.k, .int .i64 F.a, .int .i64 F.ap, .int .i64 F.b, .int .i64 F.bp], .int .i64 c] := e5
                      exact mid_val _ u (by kernel_rfl) (by kernel_rfl) (hK.out _ _ ⟨⟨p0, p1, p2, p3, p4⟩, m9, m10, va', vc', ua', uc', jg.ex6 e4⟩)
                    · refine stepOkV_at _ rfl ?_
                      intro K' vs u hv hli hup hJ K hK
                      obtain ⟨v0, v1, v2, v3, v4, v5, v6, v7, v8, v9, v10, v11, v12, v13, v14, rfl⟩ := len15 hv
                      obtain ⟨⟨p0, p1, p2, p3, p4⟩, m9, m10, va', vc', ua', uc', jg⟩ := hJ
                      obtain ⟨e4, e5⟩ := jg.h5 (updV hup 6 (by kernel_rfl))
                      obtain rfl : v6 = .tuple #[.agg #[.int .i64 R.ad, .int .i64 R.ln, .int .i64 R.ow, .int .i64 R.lo, .int .i64 R.hi, .slice va' R.ds.length vc', .int .i64 R.nw, .slice ua' R.es.length uc'], .agg #[.int .i64 F.k, .int .i64 F.a, .int .i64 F.ap, .int .i64 F.b, .int .i64 F.bp], .int .i64 c] := e5
                      exact mid_val _ u (by kernel_rfl) (by kernel_rfl) (hK.out _ _ ⟨⟨p0, p1, p2, p3, p4⟩, m9, m10, va', vc', ua', uc', jg.ex7⟩)
                    · refine stepOkV_at _ rfl ?_
                      intro K' vs u hv hli hup hJ K hK
                      obtain ⟨v0, v1, v2, v3, v4, v5, v6, v7, v8, v9, v10, v11, v12, v13, v14, rfl⟩ := len15 hv
                      obtain ⟨⟨p0, p1, p2, p3, p4⟩, m9, m10, va', vc', ua', uc', jg⟩ := hJ
                      obtain ⟨e4, e5⟩ := jg.h5 (updV hup 6 (by kernel_rfl))
                      obtain rfl : v6 = .tuple #[.agg #[.int .i64 R.ad, .int .i64 R.ln, .int .i64 R.ow, .int .i64 R.lo, .int .i64 R.hi, .slice va' R.ds.length vc', .int .i64 R.nw, .slice ua' R.es.length uc'], .agg #[.int .i64 F.k, .int .i64 F.a, .int .i64 F.ap, .int .i64 F.b, .int .i64 F.bp], .int .i64 c] := e5
                      exact mid_val _ u (by kernel_rfl) (by kernel_rfl) (hK.out _ _ ⟨⟨p0, p1, p2, p3, p4⟩, m9, m10, va', vc', ua', uc', jg.ex8⟩)
                    · refine stepOkV_at _ rfl ?_
                      intro K' vs u hv hli hup hJ K hK
                      obtain ⟨v0, v1, v2, v3, v4, v5, v6, v7, v8, v9, v10, v11, v12, v13, v14, rfl⟩ := len15 hv
                      obtain ⟨⟨p0, p1, p2, p3, p4⟩, m9, m10, va', vc', ua', uc', jg⟩ := hJ
                      exact mid_val (.pointer (some ⟨u.heap.size, 0, none⟩)) (u.alloc (.cells #[.int .i64 0, .int .i64 0, .int .i64 0, .int .i64 0, .int .i64 0, .slice none 0 0, .int .i64 0, .slice none 0 0] 26)) (by kernel_rfl) (by kernel_rfl) (hK.out _ _ ⟨⟨p0, p1, p2, p3, p4⟩, u.heap.size, m10, va', vc', ua', uc', JG.al9 (Or.inl rfl) hli jg⟩)
                    · refine stepOkV_at _ rfl ?_
                      intro K' vs u hv hli hup hJ K hK
                      obtain ⟨v0, v1, v2, v3, v4, v5, v6, v7, v8, v9, v10, v11, v12, v13, v14, rfl⟩ := len15 hv
                      obtain ⟨⟨p0, p1, p2, p3, p4⟩, m9, m10, va', vc', ua', uc', jg⟩ := hJ
                      exact mid_val (.pointer (some ⟨u.heap.size, 0, none⟩)) (u.alloc (.cells #[.int .i64 0, .int .i64 0, .int .i64 0, .int .i64 0, .int .i64 0] 32)) (by kernel_rfl) (by kernel_rfl) (hK.out _ _ ⟨⟨p0, p1, p2, p3, p4⟩, m9, u.heap.size, va', vc', ua', uc', JG.al10 (Or.inl rfl) hli jg⟩)
                    · refine stepOkV_at _ rfl ?_
                      intro K' vs u hv hli hup hJ K hK
                      obtain ⟨v0, v1, v2, v3, v4, v5, v6, v7, v8, v9, v10, v11, v12, v13, v14, rfl⟩ := len15 hv
                      obtain ⟨⟨p0, p1, p2, p3, p4⟩, m9, m10, va', vc', ua', uc', jg⟩ := hJ
                      have e9 := updV hup 10 (by kernel_rfl)
                      obtain ⟨e4, e6⟩ := jg.h6 (updV hup 7 (by kernel_rfl))
                      obtain rfl : v7 = .agg #[.int .i64 R.ad, .int .i64 R.ln, .int .i64 R.ow, .int .i64 R.lo, .int .i64 R.hi, .slice va' R.ds.length vc', .int .i64 R.nw, .slice ua' R.es.length uc'] := e6
                      obtain ⟨e10, -, hz, -⟩ := jg.h9 e9
                      obtain rfl : v10 = .pointer (some ⟨m9, 0, none⟩) := e10
                      obtain ⟨⟨q1, q2⟩, q3'⟩ := id (hz hli)
                      refine mid_skip (World.setCell (World.setCell (World.setCell (World.setCell (World.setCell (World.setCell (World.setCell (World.setCell u ⟨m9, 0, none⟩ (.int .i64 R.ad)) ⟨m9, 1, none⟩ (.int .i64 R.ln)) ⟨m9, 2, none⟩ (.int .i64 R.ow)) ⟨m9, 3, none⟩ (.int .i64 R.lo)) ⟨m9, 4, none⟩ (.int .i64 R.hi)) ⟨m9, 5, none⟩ (.slice va' R.ds.length vc')) ⟨m9, 6, none⟩ (.int .i64 R.nw)) ⟨m9, 7, none⟩ (.slice ua' R.es.length uc')) (by kernel_rfl) ?_ (hK.out undef _ ⟨⟨p0, p1, p2, p3, p4⟩, m9, m10, va', vc', ua', uc', JG.st11 hw0 ⟨Nat.le_refl _, Nat.le_refl _⟩ e4 e9 hli jg⟩)
                      simp only [setAll, List.setIfInBounds_toArray, List.set_cons_zero, List.set_cons_succ, List.set_nil]
                      go_simp
                    · refine stepOkV_at _ rfl ?_
                      intro K' vs u hv hli hup hJ K hK
                      obtain ⟨v0, v1, v2, v3, v4, v5, v6, v7, v8, v9, v10, v11, v12, v13, v14, rfl⟩ := len15 hv
                      obtain ⟨⟨p0, p1, p2, p3, p4⟩, m9, m10, va', vc', ua', uc', jg⟩ := hJ
                      have e9 := updV hup 10 (by kernel_rfl)
                      have e10 := updV hup 11 (by kernel_rfl)
                      obtain rfl : v8 = .agg #[.int .i64 F.k, .int .i64 F.a, .int .i64 F.ap, .int .i64 F.b, .int .i64 F.bp] := jg.h7 (updV hup 8 (by kernel_rfl))
                      obtain ⟨e11, -, -, hz, -⟩ := jg.h10 e10
                      obtain rfl : v11 = .pointer (some ⟨m10, 0, none⟩) := e11
                      obtain ⟨⟨q1, q2⟩, q3'⟩ := id (hz hli)
                      refine mid_skip (World.setCell (World.setCell (World.setCell (World.setCell (World.setCell u ⟨m10, 0, none⟩ (.int .i64 F.k)) ⟨m10, 1, none⟩ (.int .i64 F.a)) ⟨m10, 2, none⟩ (.int .i64 F.ap)) ⟨m10, 3, none⟩ (.int .i64 F.b)) ⟨m10, 4, none⟩ (.int .i64 F.bp)) (by kernel_rfl) ?_ (hK.out undef _ ⟨⟨p0, p1, p2, p3, p4⟩, m9, m10, va', vc', ua', uc', JG.st12 hw0 ⟨Nat.le_refl _, Nat.le_refl _⟩ e9 e10 hli jg⟩)
                      simp only [setAll, List.setIfInBounds_toArray, List.set_cons_zero, List.set_cons_succ, List.set_nil]
                      go_simp
                    · refine stepOkV_at _ rfl ?_
                      intro K' vs u hv hli hup hJ K hK
                      obtain ⟨v0, v1, v2, v3, v4, v5, v6, v7, v8, v9, v10, v11, v12, v13, v14, rfl⟩ := len15 hv
                      obtain ⟨⟨p0, p1, p2, p3, p4⟩, m9, m10, va', vc', ua', uc', jg⟩ := hJ
                      obtain rfl : v9 = .int .i64 c := jg.h8 (updV hup 9 (by kernel_rfl))
                      exact mid_val _ u (by kernel_rfl) (by kernel_rfl) (hK.out _ _ ⟨⟨p0, p1, p2, p3, p4⟩, m9, m10, va', vc', ua', uc', jg.as13⟩)
                  · intro K' vs u hal hv hJ
                    obtain ⟨v0, v1, v2, v3, v4, v5, v6, v7, v8, v9, v10, v11, v12, v13, v14, rfl⟩ := len15 hv
                    obtain ⟨-, m9, m10, pa, pc, ra, rc, jg⟩ := hJ
                    obtain ⟨e9, ⟨l1, l2, l3⟩, -, e11⟩ := jg.h9 (hal 10 (by decide))
                    obtain ⟨e10, ⟨k1, k2, k3⟩, hne, -, e12⟩ := jg.h10 (hal 11 (by decide))
                    obtain rfl : v10 = .pointer (some ⟨m9, 0, none⟩) := e9
                    obtain rfl : v11 = .pointer (some ⟨m10, 0, none⟩) := e10
                    obtain rfl : v14 = .int .i64 c := jg.h13 (hal 14 (by decide))
                    obtain ⟨-, hO, kh, kg⟩ := jg.h4 (hal 5 (by decide))
                    have bh := (e11 (hal 12 (by decide))).2
                    have bg := e12 (hal 13 (by decide))
                    have hE := jg.hC
                    clear jg e11 e12 hal
                    simp only [setAll, List.setIfInBounds_toArray, List.set_cons_zero, List.set_cons_succ, List.set_nil]
                    go_wp2_with fail
                    go_meet
                    exact ⟨m9, m10, pa, pc, ra, rc, rfl, rfl, rfl, bh.1, bg.1, hO, l2, hE⟩
                case rest =>
                  obtain ⟨m13, m14, pa, pc, ra, rc, rfl, rfl, rfl, x13, x14, hO1, hm13, hE⟩ := hcut
                  have hLY : ListX wc w.heap.size n9 q3 pa ra R.ds R.es := ListX.own hO1 (by omega) hl9
                  have hOff : Off n10 pa ra R.ds R.es := Off.of (ListX.own (q := 0) (q2 := 0) hO1 (by omega) x10.1.1)
                  replace x9 := x9.below hE
                  replace x10 := x10.below hE
                  replace hL := hL.below hE
                  replace hOF := hOF.below hE
                  replace hy := hy.below hE hgl
                  replace hgl := Nat.lt_of_lt_of_le hgl hE.size
                  replace hB := bl_trans hB hE
                  replace hLo := below_trans2 hLo hE hl9
                  clear hE xN hO1 HI
                  have xN := x9.1
                  have hw0 : w.heap.size ≤ wc.heap.size := hB.size
                  obtain ⟨w17, hw17⟩ : ∃ u, u = wc := ⟨_, rfl⟩
                  subst hw17
                  have hl9' := x9.1.1
                  have h13 := x13.1
                  have h14 := x14.1
                  go_upto_region 17 with fail
                  go_cut [16, 17, 18] (fun s16 s17 s18 wd => ∃ (m9 m10 : Nat) (qa : Option Addr) (qc : Nat) (sa2 : Option Addr) (sc2 : Nat), s16 = .pointer (some ⟨m9, 0, none⟩) ∧ s17 = .pointer (some ⟨m10, 0, none⟩) ∧ s18 = .int .i64 c ∧ Box wd m9 #[.int .i64 R.ad, .int .i64 R.ln, .int .i64 R.ow, .int .i64 R.lo, .int .i64 R.hi, .slice qa R.ds.length qc, .int .i64 R.nw, .slice sa2 R.es.length sc2] ∧ Box wd m10 #[.int .i64 F.k, .int .i64 F.a, .int .i64 F.ap, .int .i64 F.b, .int .i64 F.bp] ∧ OwnB wd w17.heap.size (.slice qa R.ds.length qc) R.ds (.slice sa2 R.es.length sc2) R.es ∧ w17.heap.size ≤ m9 ∧ Below w17.heap.size w17 wd)
                  case first =>
                    refine region_midV [91, 92, 93, 94, 95, 96, 90, 97, 98, 99, 16, 17, 100012, 100013, 18] (fun K x u => ((K 0 = true → x 0 = .agg #[.int .i64 X.ad, .int .i64 X.ln, .int .i64 X.ow, .int .i64 X.lo, .int .i64 X.hi, .slice va X.ds.length vc, .int .i64 X.nw, .slice ua X.es.length uc]) ∧ (K 1 = true → x 1 = .slice (some ⟨gl, 0, none⟩) L.length lc) ∧ (K 2 = true → x 2 = .int .i64 i) ∧ (K 3 = true → x 3 = .pointer (some ⟨gl, i * 5, none⟩)) ∧ (K 4 = true → x 4 = .agg #[.int .i64 f.k, .int .i64 f.a, .int .i64 f.ap, .int .i64 f.b, .int .i64 f.bp])) ∧ ∃ m9 m10 va' vc' ua' uc', JG w w17 n9 n9 n9 #[.int .i64 X.ad, .int .i64 X.ln, .int .i64 X.ow, .int .i64 X.lo, .int .i64 X.hi, .slice va X.ds.length vc, .int .i64 X.nw, .slice ua X.es.length uc] #[.int .i64 X.ad, .int .i64 X.ln, .int .i64 X.ow, .int .i64 X.lo, .int .i64 X.hi, .slice va X.ds.length vc, .int .i64 X.nw, .slice ua X.es.length uc] R F c m9 m10 va' vc' ua' uc' (K 5) (K 6) (K 7) (K 8) (K 9) (K 10) (K 11) (K 12) (K 13) (K 14) (x 5) (x 6) (x 7) (x 8) (x 9) (x 10) (x 11) (x 14) u) (by kernel_rfl) (by kernel_rfl) (by decide) ?_ ?_ ?_
                    · exact ⟨⟨(fun h => by cases h), (fun h => by cases h), (fun h => by cases h), (fun h => by cases h), (fun h => by cases h)⟩, 0, 0, none, 0, none, 0, bl_drew hB, bl_drew (bl_refl _), xN.below (bl_drew (bl_refl _)), xN.below (bl_drew (bl_refl _)), (fun h => by cases h), (fun h => by cases h), (fun h => by cases h), (fun h => by cases h), (fun h => by cases h), (fun h => by cases h), (fun h => by cases h), (fun h => by cases h), (fun h => by cases h), (fun h => by cases h)⟩
                    · refine all_lt_succ (all_lt_succ (all_lt_succ (all_lt_succ (all_lt_succ (all_lt_succ (all_lt_succ (all_lt_succ (all_lt_succ (all_lt_succ (all_lt_succ (all_lt_succ (all_lt_succ (all_lt_succ (all_lt_succ (all_lt_zero _) ?_) ?_) ?_) ?_) ?_) ?_) ?_) ?_) ?_) ?_) ?_) ?_) ?_) ?_) ?_
                      · refine stepOkV_at _ rfl ?_
                        intro K' vs u hv hli hup hJ K hK
                        obtain ⟨v0, v1, v2, v3, v4, v5, v6, v7, v8, v9, v10, v11, v12, v13, v14, rfl⟩ := len15 hv
                        obtain ⟨⟨p0, p1, p2, p3, p4⟩, m9, m10, va', vc', ua', uc', jg⟩ := hJ
                        have hbx := jg.x1.2
                        refine mid_val (.agg #[.int .i64 X.ad, .int .i64 X.ln, .int .i64 X.ow, .int .i64 X.lo, .int .i64 X.hi, .slice va X.ds.length vc, .int .i64 X.nw, .slice ua X.es.length uc]) u (by kernel_rfl) ?_ (hK.out _ _ ⟨⟨fun _ => rfl, p1, p2, p3, p4⟩, m9, m10, va', vc', ua', uc', jg⟩)
                        simp only [setAll, List.setIfInBounds_toArray, List.set_cons_zero, List.set_cons_succ, List.set_nil]
                        go_simp
                      · refine stepOkV_at _ rfl ?_
                        intro K' vs u hv hli hup hJ K hK
                        obtain ⟨v0, v1, v2, v3, v4, v5, v6, v7, v8, v9, v10, v11, v12, v13, v14, rfl⟩ := len15 hv
                        obtain ⟨⟨p0, p1, p2, p3, p4⟩, m9, m10, va', vc', ua', uc', jg⟩ := hJ
                        exact mid_val (.slice (some ⟨gl, 0, none⟩) L.length lc) u (by kernel_rfl) (by kernel_rfl) (hK.out _ _ ⟨⟨p0, fun _ => rfl, p2, p3, p4⟩, m9, m10, va', vc', ua', uc', jg⟩)
                      · refine stepOkV_at _ rfl ?_
                        intro K' vs u hv hli hup hJ K hK
                        obtain ⟨v0, v1, v2, v3, v4, v5, v6, v7, v8, v9, v10, v11, v12, v13, v14, rfl⟩ := len15 hv
                        obtain ⟨⟨p0, p1, p2, p3, p4⟩, m9, m10, va', vc', ua', uc', jg⟩ := hJ
                        exact mid_val (.int .i64 i) u (by kernel_rfl) (by kernel_rfl) (hK.out _ _ ⟨⟨p0, p1, fun _ => rfl, p3, p4⟩, m9, m10, va', vc', ua', uc', jg⟩)
                      · refine stepOkV_at _ rfl ?_
                        intro K' vs u hv hli hup hJ K hK
                        obtain ⟨v0, v1, v2, v3, v4, v5, v6, v7, v8, v9, v10, v11, v12, v13, v14, rfl⟩ := len15 hv
                        obtain ⟨⟨p0, p1, p2, p3, p4⟩, m9, m10, va', vc', ua', uc', jg⟩ := hJ
                        obtain rfl : v1 = .slice (some ⟨gl, 0, none⟩) L.length lc := p1 (updV hup 1 (by kernel_rfl))
                        obtain rfl : v2 = .int .i64 i := p2 (updV hup 2 (by kernel_rfl))
                        refine mid_val (.pointer (some ⟨gl, i * 5, none⟩)) u (by kernel_rfl) ?_ (hK.out _ _ ⟨⟨p0, p1, p2, fun _ => rfl, p4⟩, m9, m10, va', vc', ua', uc', jg⟩)
                        simp only [setAll, List.setIfInBounds_toArray, List.set_cons_zero, List.set_cons_succ, List.set_nil]
                        go_simp
                      · refine stepOkV_at _ rfl ?_
                        intro K' vs u hv hli hup hJ K hK
                        obtain ⟨v0, v1, v2, v3, v4, v5, v6, v7, v8, v9, v10, v11, v12, v13, v14, rfl⟩ := len15 hv
                        obtain ⟨⟨p0, p1, p2, p3, p4⟩, m9, m10, va', vc', ua', uc', jg⟩ := hJ
                        obtain rfl : v3 = .pointer (some ⟨gl, i * 5, none⟩) := p3 (updV hup 3 (by kernel_rfl))
                        obtain ⟨c0, c1, c2, c3, c4⟩ := hy.below jg.hC hgl
                        refine mid_val (.agg #[.int .i64 f.k, .int .i64 f.a, .int .i64 f.ap, .int .i64 f.b, .int .i64 f.bp]) u (by kernel_rfl) ?_ (hK.out _ _ ⟨⟨p0, p1, p2, p3, fun _ => rfl⟩, m9, m10, va', vc', ua', uc', jg⟩)
                        simp only [setAll, List.setIfInBounds_toArray, List.set_cons_zero, List.set_cons_succ, List.set_nil]
                        go_simp
                      · refine stepOkV_at _ rfl ?_
                        intro K' vs u hv hli hup hJ K hK
                        obtain ⟨v0, v1, v2, v3, v4, v5, v6, v7, v8, v9, v10, v11, v12, v13, v14, rfl⟩ := len15 hv
                        obtain ⟨⟨p0, p1, p2, p3, p4⟩, m9, m10, va', vc', ua', uc', jg⟩ := hJ
                        obtain rfl : v0 = .agg #[.int .i64 X.ad, .int .i64 X.ln, .int .i64 X.ow, .int .i64 X.lo, .int .i64 X.hi, .slice va X.ds.length vc, .int .i64 X.nw, .slice ua X.es.length uc] := p0 (updV hup 0 (by kernel_rfl))
                        obtain rfl : v4 = .agg #[.int .i64 f.k, .int .i64 f.a, .int .i64 f.ap, .int .i64 f.b, .int .i64 f.bp] := p4 (updV hup 4 (by kernel_rfl))
                        refine mid_call 14 (by kernel_rfl) (HS.out u (hL.below jg.hC)) (by kernel_rfl) ?_
                        rintro e u' ⟨⟨pa, pc, ra, rc, rfl, hO⟩, hb⟩
                        exact ⟨_, rfl, hK.out _ _ ⟨⟨p0, p1, p2, p3, p4⟩, m9, m10, pa, pc, ra, rc, JG.call hli jg hb hO⟩⟩
                      · refine stepOkV_at _ rfl ?_
                        intro K' vs u hv hli hup hJ K hK
                        obtain ⟨v0, v1, v2, v3, v4, v5, v6, v7, v8, v9, v10, v11, v12, v13, v14, rfl⟩ := len15 hv
                        obtain ⟨⟨p0, p1, p2, p3, p4⟩, m9, m10, va', vc', ua', uc', jg⟩ := hJ
                        have e4 := updV hup 5 (by kernel_rfl)
                        obtain rfl : v5 = .tuple #[.agg #[.int .i64 R.ad, .int .i64 R.ln, .int .i64 R.ow, .int .i64 R.lo, .int .i64 R.hi, .slice va' R.ds.length vc', .int .i64 R.nw, .slice ua' R.es.length uc'], .agg #[.int .i64 F.k, .int .i64 F.a, .int .i64 F.ap, .int .i64 F.b, .int .i64 F.bp], .int .i64 c] := (jg.h4 e4).1
                        exact mid_val _ u (by kernel_rfl) (by kernel_rfl) (hK.out _ _ ⟨⟨p0, p1, p2, p3, p4⟩, m9, m10, va', vc', ua', uc', jg.mv5 e4⟩)
                      · refine stepOkV_at _ rfl ?_
                        intro K' vs u hv hli hup hJ K hK
                        obtain ⟨v0, v1, v2, v3, v4, v5, v6, v7, v8, v9, v10, v11, v12, v13, v14, rfl⟩ := len15 hv
                        obtain ⟨⟨p0, p1, p2, p3, p4⟩, m9, m10, va', vc', ua', uc', jg⟩ := hJ
                        obtain ⟨e4, e5⟩ := jg.h5 (updV hup 6 (by kernel_rfl))
                        obtain rfl : v6 = .tuple #[.agg #[.int .i64 R.ad, .int .i64 R.ln, .int .i64 R.ow, .int .i64 R.lo, .int .i64 R.hi, .slice va' R.ds.length vc', .int .i64 R.nw, .slice ua' R.es.length uc'], .agg #[.int .i64 F.k, .int .i64 F.a, .int .i64 F.ap, .int .i64 F.b, .int .i64 F.bp], .int .i64 c] := e5
                        exact mid_val _ u (by kernel_rfl) (by kernel_rfl) (hK.out _ _ ⟨⟨p0, p1, p2, p3, p4⟩, m9, m10, va', vc', ua', uc', jg.ex6 e4⟩)
                      · refine stepOkV_at _ rfl ?_
                        intro K' vs u hv hli hup hJ K hK
                        obtain ⟨v0, v1, v2, v3, v4, v5, v6, v7, v8, v9, v10, v11, v12, v13, v14, rfl⟩ := len15 hv
                        obtain ⟨⟨p0, p1, p2, p3, p4⟩, m9, m10, va', vc', ua', uc', jg⟩ := hJ
                        obtain ⟨e4, e5⟩ := jg.h5 (updV hup 6 (by kernel_rfl))
                        obtain rfl : v6 = .tuple #[.agg #[.int .i64 R.ad, .int .i64 R.ln, .int .i64 R.ow, .int .i64 R.lo, .int .i64 R.hi, .slice va' R.ds.length vc', .int .i64 R.nw, .slice ua' R.es.length uc'], .agg #[.int .i64 F.k, .int .i64 F.a, .int .i64 F.ap, .int .i64 F.b, .int .i64 F.bp], .int .i64 c] := e5
                        exact mid_val _ u (by kernel_rfl) (by kernel_rfl) (hK.out _ _ ⟨⟨p0, p1, p2, p3, p4⟩, m9, m10, va', vc', ua', uc', jg.ex7⟩)
                      · refine stepOkV_at _ rfl ?_
                        intro K' vs u hv hli hup hJ K hK
                        obtain ⟨v0, v1, v2, v3, v4, v5, v6, v7, v8, v9, v10, v11, v12, v13, v14, rfl⟩ := len15 hv
                        obtain ⟨⟨p0, p1, p2, p3, p4⟩, m9, m10, va', vc', ua', uc', jg⟩ := hJ
                        obtain ⟨e4, e5⟩ := jg.h5 (updV hup 6 (by kernel_rfl))
                        obtain rfl : v6 = .tuple #[.agg #[.int .i64 R.ad, .int .i64 R.ln, .int .i64 R.ow, .int .i64 R.lo, .int .i64 R.hi, .slice va' R.ds.length vc', .int .i64 R.nw, .slice ua' R.es.length uc'], .agg #[.int .i64 F.k, .int .i64 F.a, .int .i64 F.ap, .int .i64 F.b, .int .i64 F.bp], .int .i64 c] := e5
                        exact mid_val _ u (by kernel_rfl) (by kernel_rfl) (hK.out _ _ ⟨⟨p0, p1, p2, p3, p4⟩, m9, m10, va', vc', ua', uc', jg.ex8⟩)
                      · refine stepOkV_at _ rfl ?_
                        intro K' vs u hv hli hup hJ K hK
                        obtain ⟨v0, v1, v2, v3, v4, v5, v6, v7, v8, v9, v10, v11, v12, v13, v14, rfl⟩ := len15 hv
                        obtain ⟨⟨p0, p1, p2, p3, p4⟩, m9, m10, va', vc', ua', uc', jg⟩ := hJ
                        exact mid_val (.pointer (some ⟨u.heap.size, 0, none⟩)) (u.alloc (.cells #[.int .i64 0, .int .i64 0, .int .i64 0, .int .i64 0, .int .i64 0, .slice none 0 0, .int .i64 0, .slice none 0 0] 26)) (by kernel_rfl) (by kernel_rfl) (hK.out _ _ ⟨⟨p0, p1, p2, p3, p4⟩, u.heap.size, m10, va', vc', ua', uc', JG.al9 (Or.inl rfl) hli jg⟩)
                      · refine stepOkV_at _ rfl ?_
                        intro K' vs u hv hli hup hJ K hK
                        obtain ⟨v0, v1, v2, v3, v4, v5, v6, v7, v8, v9, v10, v11, v12, v13, v14, rfl⟩ := len15 hv
                        obtain ⟨⟨p0, p1, p2, p3, p4⟩, m9, m10, va', vc', ua', uc', jg⟩ := hJ
                        exact mid_val (.pointer (some ⟨u.heap.size, 0, none⟩)) (u.alloc (.cells #[.int .i64 0, .int .i64 0, .int .i64 0, .int .i64 0, .int .i64 0] 32)) (by kernel_rfl) (by kernel_rfl) (hK.out _ _ ⟨⟨p0, p1, p2, p3, p4⟩, m9, u.heap.size, va', vc', ua', uc', JG.al10 (Or.inl rfl) hli jg⟩)
                      · refine stepOkV_at _ rfl ?_
                        intro K' vs u hv hli hup hJ K hK
                        obtain ⟨v0, v1, v2, v3, v4, v5, v6, v7, v8, v9, v10, v11, v12, v13, v14, rfl⟩ := len15 hv
                        obtain ⟨⟨p0, p1, p2, p3, p4⟩, m9, m10, va', vc', ua', uc', jg⟩ := hJ
                        have e9 := updV hup 10 (by kernel_rfl)
                        obtain ⟨e4, e6⟩ := jg.h6 (updV hup 7 (by kernel_rfl))
                        obtain rfl : v7 = .agg #[.int .i64 R.ad, .int .i64 R.ln, .int .i64 R.ow, .int .i64 R.lo, .int .i64 R.hi, .slice va' R.ds.length vc', .int .i64 R.nw, .slice ua' R.es.length uc'] := e6
                        obtain ⟨e10, -, hz, -⟩ := jg.h9 e9
                        obtain rfl : v10 = .pointer (some ⟨m9, 0, none⟩) := e10
                        obtain ⟨⟨q1, q2⟩, q3'⟩ := id (hz hli)
                        refine mid_skip (World.setCell (World.setCell (World.setCell (World.setCell (World.setCell (World.setCell (World.setCell (World.setCell u ⟨m9, 0, none⟩ (.int .i64 R.ad)) ⟨m9, 1, none⟩ (.int .i64 R.ln)) ⟨m9, 2, none⟩ (.int .i64 R.ow)) ⟨m9, 3, none⟩ (.int .i64 R.lo)) ⟨m9, 4, none⟩ (.int .i64 R.hi)) ⟨m9, 5, none⟩ (.slice va' R.ds.length vc')) ⟨m9, 6, none⟩ (.int .i64 R.nw)) ⟨m9, 7, none⟩ (.slice ua' R.es.length uc')) (by kernel_rfl) ?_ (hK.out undef _ ⟨⟨p0, p1, p2, p3, p4⟩, m9, m10, va', vc', ua', uc', JG.st11 hw0 ⟨Nat.le_refl _, Nat.le_refl _⟩ e4 e9 hli jg⟩)
                        simp only [setAll, List.setIfInBounds_toArray, List.set_cons_zero, List.set_cons_succ, List.set_nil]
                        go_simp
                      · refine stepOkV_at _ rfl ?_
                        intro K' vs u hv hli hup hJ K hK
                        obtain ⟨v0, v1, v2, v3, v4, v5, v6, v7, v8, v9, v10, v11, v12, v13, v14, rfl⟩ := len15 hv
                        obtain ⟨⟨p0, p1, p2, p3, p4⟩, m9, m10, va', vc', ua', uc', jg⟩ := hJ
                        have e9 := updV hup 10 (by kernel_rfl)
                        have e10 := updV hup 11 (by kernel_rfl)
                        obtain rfl : v8 = .agg #[.int .i64 F.k, .int .i64 F.a, .int .i64 F.ap, .int .i64 F.b, .int .i64 F.bp] := jg.h7 (updV hup 8 (by kernel_rfl))
                        obtain ⟨e11, -, -, hz, -⟩ := jg.h10 e10
                        obtain rfl : v11 = .pointer (some ⟨m10, 0, none⟩) := e11
                        obtain ⟨⟨q1, q2⟩, q3'⟩ := id (hz hli)
                        refine mid_skip (World.setCell (World.setCell (World.setCell (World.setCell (World.setCell u ⟨m10, 0, none⟩ (.int .i64 F.k)) ⟨m10, 1, none⟩ (.int .i64 F.a)) ⟨m10, 2, none⟩ (.int .i64 F.ap)) ⟨m10, 3, none⟩ (.int .i64 F.b)) ⟨m10, 4, none⟩ (.int .i64 F.bp)) (by kernel_rfl) ?_ (hK.out undef _ ⟨⟨p0, p1, p2, p3, p4⟩, m9, m10, va', vc', ua', uc', JG.st12 hw0 ⟨Nat.le_refl _, Nat.le_refl _⟩ e9 e10 hli jg⟩)
                        simp only [setAll, List.setIfInBounds_toArray, List.set_cons_zero, List.set_cons_succ, List.set_nil]
                        go_simp
                      · refine stepOkV_at _ rfl ?_
                        intro K' vs u hv hli hup hJ K hK
                        obtain ⟨v0, v1, v2, v3, v4, v5, v6, v7, v8, v9, v10, v11, v12, v13, v14, rfl⟩ := len15 hv
                        obtain ⟨⟨p0, p1, p2, p3, p4⟩, m9, m10, va', vc', ua', uc', jg⟩ := hJ
                        obtain rfl : v9 = .int .i64 c := jg.h8 (updV hup 9 (by kernel_rfl))
                        exact mid_val _ u (by kernel_rfl) (by kernel_rfl) (hK.out _ _ ⟨⟨p0, p1, p2, p3, p4⟩, m9, m10, va', vc', ua', uc', jg.as13⟩)
                    · intro K' vs u hal hv hJ
                      obtain ⟨v0, v1, v2, v3, v4, v5, v6, v7, v8, v9, v10, v11, v12, v13, v14, rfl⟩ := len15 hv
                      obtain ⟨-, m9, m10, pa, pc, ra, rc, jg⟩ := hJ
                      obtain ⟨e9, ⟨l1, l2, l3⟩, -, e11⟩ := jg.h9 (hal 10 (by decide))
                      obtain ⟨e10, ⟨k1, k2, k3⟩, hne, -, e12⟩ := jg.h10 (hal 11 (by decide))
                      obtain rfl : v10 = .pointer (some ⟨m9, 0, none⟩) := e9
                      obtain rfl : v11 = .pointer (some ⟨m10, 0, none⟩) := e10
                      obtain rfl : v14 = .int .i64 c := jg.h13 (hal 14 (by decide))
                      obtain ⟨-, hO, kh, kg⟩ := jg.h4 (hal 5 (by decide))
                      have bh := (e11 (hal 12 (by decide))).2
                      have bg := e12 (hal 13 (by decide))
                      have hE := jg.hC
                      clear jg e11 e12 hal
                      simp only [setAll, List.setIfInBounds_toArray, List.set_cons_zero, List.set_cons_succ, List.set_nil]
                      go_wp2_with fail
                      go_meet
                      exact ⟨m9, m10, pa, pc, ra, rc, rfl, rfl, rfl, bh.1, bg.1, hO, l2, hE⟩
                  case rest =>
                    obtain ⟨m16, m17, qa, qc, sa2, sc2, rfl, rfl, rfl, x16, x17, hO2, -, hE⟩ := hcut
                    have hDz := (doorsL_own hO2.1 (Nat.le_refl _)).at
                    have hEz := (entriesL_own hO2.2.1 (Nat.le_refl _)).at
                    replace x9 := x9.below hE
                    replace x10 := x10.below hE
                    replace x13 := x13.below hE
                    replace x14 := x14.below hE
                    replace hLY := hLY.below hE
                    replace hOF := hOF.below hE
                    replace hB := bl_trans hB hE
                    replace hLo := below_trans2 hLo hE hl9'
                    clear hE xN hO2 HS hL hy
                    have HW : Hid (Calls Tryz.prog _ _ _ _) := wnBook_same R pa pc ra rc qa qc sa2 sc2 wc hLY.doors.at hLY.ents.at hDz hEz (by omega) (by omega)
                    have hcc : (c != c) = false := by simp
                    have hne := run_neq_same
                    have hgf := guardFlow
                    have y13 := x13.2
                    have y14 := x14.2
                    have y16 := x16.2
                    have y17 := x17.2
                    go_wp2_with fail
                    refine HW.out.mono ?_
                    rintro e v6 ⟨rfl, hb⟩
                    clear HW hcc hne y13 y14 y16 y17 x16 x17 hDz hEz
                    have hl9'' := x9.1.1
                    replace x9 := x9.below hb
                    replace x10 := x10.below hb
                    replace x13 := x13.below hb
                    replace x14 := x14.below hb
                    replace hLY := hLY.below hb
                    replace hOF := hOF.below hb
                    replace hB := bl_trans hB hb
                    replace hLo := below_trans2 hLo hb hl9''
                    clear hb
                    have y14 := x14.2
                    have hBl := bl_alloc (bl_refl v6) (.cells #[.int .i64 F.k, .int .i64 F.a, .int .i64 F.ap, .int .i64 F.b, .int .i64 F.bp] 32)
                    have xs := Box.new v6 #[.int .i64 F.k, .int .i64 F.a, .int .i64 F.ap, .int .i64 F.b, .int .i64 F.bp] 32
                    have hl9' := x9.1.1
                    replace x9 := x9.below hBl
                    replace x10 := x10.below hBl
                    replace x13 := x13.below hBl
                    replace hLY := hLY.below hBl
                    replace hOF := hOF.below hBl
                    replace hB := bl_trans hB hBl
                    replace hLo := below_trans2 hLo hBl hl9'
                    obtain ⟨v', w9, hrun, hOF2, hg9, hvb⟩ := app_flow (f := F) hOF xs (by simp; omega) (by have := x9.1.1; have := x10.1.1; omega)
                    have hrow : ∀ k, v11.ownBlock = some k → q3 ≤ k := fun k hk => (hOF.lt k hk).1
                    have hk13 : ∀ k, v11.ownBlock = some k → k ≠ m13 := fun k hk => by have := hko k hk; omega
                    replace hLo := low_grown hLo hg9 (fun k hk => by have := hrow k hk; omega) x9.1.1
                    replace x9 := x9.far hg9 (fun k hk => by have := hrow k hk; omega)
                    replace x10 := x10.far hg9 (fun k hk => by have := hrow k hk; omega)
                    replace x13 := x13.far hg9 (fun k hk e => hk13 k hk e.symm)
                    replace hLY := hLY.grown hOF hg9
                    replace hB := bl_grownF hB hg9 (fun k hk => by have := hrow k hk; omega)
                    rw [hmap.out] at hOF2
                    clear hg9 hOF hrow hBl xs hvb hk13
                    go_upto_region 21 with (first | (at_builtin; refine Lib.wpList_append_run _ rfl _ _ _ _ rfl _ _ rfl rfl _ _ hrun ?_))
                    clear hrun y14
                    have y13 := x13.2
                    obtain ⟨⟨p1, p2⟩, p3⟩ := id x9
                    go_wp2_with fail
                    go_roundg (L.length - (i + 1))
                    case measure => omega
                    case rel => exact ⟨i + 1, v', rfl, rfl, by omega, by go_num, ⟨R, pa, pc, ra, rc, hBg2.out, x9.set8 (.int .i64 R.ad) (.int .i64 R.ln) (.int .i64 R.ow) (.int .i64 R.lo) (.int .i64 R.hi) (.slice pa R.ds.length pc) (.int .i64 R.nw) (.slice ra R.es.length rc), hLY.set8 (.int .i64 R.ad) (.int .i64 R.ln) (.int .i64 R.ow) (.int .i64 R.lo) (.int .i64 R.hi) (.slice pa R.ds.length pc) (.int .i64 R.nw) (.slice ra R.es.length rc), hOff⟩, own_other8 hOF2 (by omega) (.int .i64 R.ad) (.int .i64 R.ln) (.int .i64 R.ow) (.int .i64 R.lo) (.int .i64 R.hi) (.slice pa R.ds.length pc) (.int .i64 R.nw) (.slice ra R.es.length rc), x10.other8 (n := n9) (by omega) (.int .i64 R.ad) (.int .i64 R.ln) (.int .i64 R.ow) (.int .i64 R.lo) (.int .i64 R.hi) (.slice pa R.ds.length pc) (.int .i64 R.nw) (.slice ra R.es.length rc), bl_set8 hB (n := n9) (by omega) (.int .i64 R.ad) (.int .i64 R.ln) (.int .i64 R.ow) (.int .i64 R.lo) (.int .i64 R.hi) (.slice pa R.ds.length pc) (.int .i64 R.nw) (.slice ra R.es.length rc), low_set8 hLo (.int .i64 R.ad) (.int .i64 R.ln) (.int .i64 R.ow) (.int .i64 R.lo) (.int .i64 R.hi) (.slice pa R.ds.length pc) (.int .i64 R.nw) (.slice ra R.es.length rc)⟩
              · skip
                obtain rfl : i = L.length := by omega
                clear hgi hi9
                obtain ⟨⟨Z, za, zc, ya, yc, hBg, x9, hL, hOff⟩, hOF, x10, hB, hLo⟩ := hP
                rw [List.take_length] at hBg hOF
                replace hL := hL.off hOff
                clear hOff
                have hBgZ : Hid (Begun ⟨ad, ln, 51201, 40, hi, 0, ds, []⟩ Z L) := hBg
                clear hBg
                go_upto_if 121 with fail
                go_cut [19] (fun s19 wd => ∃ t : Nat, s19 = .int .i64 t ∧ t ≤ 1048576 ∧ wd = wr)
                case first =>
                  by_cases h0 : (L.length : Int) > 0
                  · have hmd : ((mn % L.length : Nat) : Int) ≤ mn := by have := Nat.mod_le mn L.length; omega
                    go_wp2_with fail
                    go_meet
                    refine ⟨mn % L.length, ?_, by omega, rfl⟩
                    rfl
                  · go_wp2_with fail
                    go_meet
                    exact ⟨0, rfl, by omega, rfl⟩
                case rest =>
                  obtain ⟨t, rfl, ht, rfl⟩ := hcut
                  obtain ⟨o, ho⟩ : ∃ o : Bool, decide (((cn % 2 : Nat) : Int) = 1) = o := ⟨_, rfl⟩
                  have hP : P3 w W5 wc n9 n10 q3 ⟨ad, ln, 51201, 40, hi, 0, ds, []⟩ L t o #[.int .i64 Z.ad, .int .i64 Z.ln, .int .i64 Z.ow, .int .i64 Z.lo, .int .i64 Z.hi, .slice za Z.ds.length zc, .int .i64 Z.nw, .slice ya Z.es.length yc] za ya Z.ds Z.es v11 0 := ⟨⟨⟨ad, ln, 51201, 40, hi, 0, ds, []⟩, da, dc, none, 0, begun_start (B := ⟨ad, ln, 51201, 40, hi, 0, ds, []⟩) hsame.1 rfl, x10, hLX3.out _ hLo⟩, x9, hL, hOF, hB, hLo⟩
                  clear x9 hL hOF x10 hB hLo hLX3
                  go_wp2_with fail
                  go_loopg [20] L.length (fun g iv wr => ∃ i : Nat, g = L.length - i ∧ i ≤ L.length ∧ iv = .int .i64 i ∧ P3 w W5 wr n9 n10 q3 ⟨ad, ln, 51201, 40, hi, 0, ds, []⟩ L t o #[.int .i64 Z.ad, .int .i64 Z.ln, .int .i64 Z.ow, .int .i64 Z.lo, .int .i64 Z.hi, .slice za Z.ds.length zc, .int .i64 Z.nw, .slice ya Z.es.length yc] za ya Z.ds Z.es v11 i)
                  case atStart => exact ⟨0, by omega, by omega, rfl, hP⟩
                  case round =>
                    clear hP
                    obtain ⟨i, hgi, hi9, rfl, hP⟩ := hrel
                    by_cases hlt : i < L.length
                    · obtain ⟨⟨X, va, vc, ua, uc, hBg, x10, hL⟩, x9, hLZ, hOF, hB, hLo⟩ := hP
                      have hlt' : (i : Int) < (L.length : Int) := by omega
                      obtain ⟨kk, hkk⟩ : ∃ kk, turnI L.length t o i = kk := ⟨_, rfl⟩
                      have hkl : kk < L.length := hkk ▸ turn_lt (by omega)
                      obtain ⟨f, hd⟩ : ∃ f, L[kk]? = some f := ⟨L[kk], by simp [hkl]⟩
                      go_upto_if 142 with fail
                      go_cut [21] (fun s21 wd => s21 = .int .i64 kk ∧ wd = wr)
                      case first =>
                        have hmd := Nat.mod_lt (i + t) (show 0 < L.length by omega)
                        by_cases hc : ((cn % 2 : Nat) : Int) = 1
                        · have ho : o = true := by rw [← ho]; exact decide_eq_true hc
                          subst ho
                          simp only [turnI, if_true] at hkk
                          go_wp2_with fail
                          go_meet
                          exact ⟨by rw [← hkk, turn_neg (by omega) (by omega)], rfl⟩
                        · have ho : o = false := by rw [← ho]; exact decide_eq_false hc
                          subst ho
                          simp only [turnI, Bool.false_eq_true, if_false] at hkk
                          go_wp2_with fail
                          go_meet
                          exact ⟨by rw [← hkk, turn_mod], rfl⟩
                      case rest =>
                        obtain ⟨rfl, rfl⟩ := hcut
                        obtain ⟨wr, hwr⟩ : ∃ u, u = wc := ⟨_, rfl⟩
                        subst hwr
                        have hOL2 := hOL.low hLo hk7
                        obtain ⟨gl, capl, hsl, -, hgl, -, -⟩ := own_form hOL2 (by omega)
                        simp only [Value.slice.injEq] at hsl
                        obtain ⟨rfl, -, rfl⟩ := hsl
                        have hy : AtF wr gl (kk * 5) f := by
                          have := flCells_of_own hOL2 rfl kk f hd
                          simpa [AtF] using this
                        have hstep := begun_step (f := f) hBg (by simp [ordL]; omega) (by subst hkk; exact ord_apk hA.out hlt hd)
                        rw [← ord_succ L t o i (by rw [hkk]; exact hd)] at hstep
                        obtain ⟨⟨R, F, c⟩, hO⟩ : ∃ O, outM X f.k f.a f.ap f.b f.bp = O := ⟨_, rfl⟩
                        have HI : Hid (∀ W', Gl W' → ListX W' w.heap.size n10 q3 va ua X.ds X.es → Calls Tryz.prog 13 #[.agg #[.int .i64 X.ad, .int .i64 X.ln, .int .i64 X.ow, .int .i64 X.lo, .int .i64 X.hi, .slice va X.ds.length vc, .int .i64 X.nw, .slice ua X.es.length uc], .agg #[.int .i64 f.k, .int .i64 f.a, .int .i64 f.ap, .int .i64 f.b, .int .i64 f.bp]] W' fun e w' => ToldO w' W'.heap.size e ⟨R, F, c⟩ ∧ Below W'.heap.size W' w') := fun W' h0 h1 => by rw [← hO]; exact implOut_ret X.ad X.ln X.ow X.lo X.hi X.nw va X.ds.length vc ua X.es.length uc f.k f.a f.ap f.b f.bp X.ds X.es W' h0 h1.doors.at h1.ents.at
                        rw [hO] at hstep
                        obtain ⟨hFo, hBg2⟩ := hstep
                        have hBg2 : Hid (Begun ⟨ad, ln, 51201, 40, hi, 0, ds, []⟩ R (ordL L t o (i + 1))) := hBg2
                        obtain ⟨M, hM⟩ : ∃ M, L.map (outside ⟨ad, ln, 51201, 40, hi, 0, ds, []⟩) = M := ⟨_, rfl⟩
                        rw [hM] at hOF
                        have hMk : M[kk]? = some F := by rw [← hM, List.getElem?_map, hd, show F = outside ⟨ad, ln, 51201, 40, hi, 0, ds, []⟩ f from hFo]; rfl
                        have hkM := get_lt hMk
                        replace hM : Hid (L.map (outside ⟨ad, ln, 51201, 40, hi, 0, ds, []⟩) = M) := hM
                        clear hFo hO hBg hd hOL2 hkk
                        have hw0 : w.heap.size ≤ wr.heap.size := hB.size
                        have xN := x10.1
                        have hl10 := x10.1.1
                        go_upto_region 31 with fail
                        go_cut [22, 23, 24] (fun s22 s23 s24 wd => ∃ (m9 m10 : Nat) (pa : Option Addr) (pc : Nat) (ra : Option Addr) (rc : Nat), s22 = .pointer (some ⟨m9, 0, none⟩) ∧ s23 = .pointer (some ⟨m10, 0, none⟩) ∧ s24 = .int .i64 c ∧ Box wd m9 #[.int .i64 R.ad, .int .i64 R.ln, .int .i64 R.ow, .int .i64 R.lo, .int .i64 R.hi, .slice pa R.ds.length pc, .int .i64 R.nw, .slice ra R.es.length rc] ∧ Box wd m10 #[.int .i64 F.k, .int .i64 F.a, .int .i64 F.ap, .int .i64 F.b, .int .i64 F.bp] ∧ OwnB wd wr.heap.size (.slice pa R.ds.length pc) R.ds (.slice ra R.es.length rc) R.es ∧ wr.heap.size ≤ m9 ∧ Below wr.heap.size wr wd)
                        case first =>
                          refine region_midV [149, 150, 151, 152, 153, 154, 148, 155, 156, 157, 22, 23, 100012, 100013, 24] (fun K x u => ((K 0 = true → x 0 = .agg #[.int .i64 X.ad, .int .i64 X.ln, .int .i64 X.ow, .int .i64 X.lo, .int .i64 X.hi, .slice va X.ds.length vc, .int .i64 X.nw, .slice ua X.es.length uc]) ∧ (K 1 = true → x 1 = .slice (some ⟨gl, 0, none⟩) L.length lc) ∧ (K 2 = true → x 2 = .int .i64 kk) ∧ (K 3 = true → x 3 = .pointer (some ⟨gl, kk * 5, none⟩)) ∧ (K 4 = true → x 4 = .agg #[.int .i64 f.k, .int .i64 f.a, .int .i64 f.ap, .int .i64 f.b, .int .i64 f.bp])) ∧ ∃ m9 m10 va' vc' ua' uc', JG w wr n10 n10 n10 #[.int .i64 X.ad, .int .i64 X.ln, .int .i64 X.ow, .int .i64 X.lo, .int .i64 X.hi, .slice va X.ds.length vc, .int .i64 X.nw, .slice ua X.es.length uc] #[.int .i64 X.ad, .int .i64 X.ln, .int .i64 X.ow, .int .i64 X.lo, .int .i64 X.hi, .slice va X.ds.length vc, .int .i64 X.nw, .slice ua X.es.length uc] R F c m9 m10 va' vc' ua' uc' (K 5) (K 6) (K 7) (K 8) (K 9) (K 10) (K 11) (K 12) (K 13) (K 14) (x 5) (x 6) (x 7) (x 8) (x 9) (x 10) (x 11) (x 14) u) (by kernel_rfl) (by kernel_rfl) (by decide) ?_ ?_ ?_
                          · exact ⟨⟨(fun h => by cases h), (fun h => by cases h), (fun h => by cases h), (fun h => by cases h), (fun h => by cases h)⟩, 0, 0, none, 0, none, 0, bl_drew hB, bl_drew (bl_refl _), xN.below (bl_drew (bl_refl _)), xN.below (bl_drew (bl_refl _)), (fun h => by cases h), (fun h => by cases h), (fun h => by cases h), (fun h => by cases h), (fun h => by cases h), (fun h => by cases h), (fun h => by cases h), (fun h => by cases h), (fun h => by cases h), (fun h => by cases h)⟩
                          · refine all_lt_succ (all_lt_succ (all_lt_succ (all_lt_succ (all_lt_succ (all_lt_succ (all_lt_succ (all_lt_succ (all_lt_succ (all_lt_succ (all_lt_succ (all_lt_succ (all_lt_succ (all_lt_succ (all_lt_succ (all_lt_zero _) ?_) ?_) ?_) ?_) ?_) ?_) ?_) ?_) ?_) ?_) ?_) ?_) ?_) ?_) ?_
                            · refine stepOkV_at _ rfl ?_
                              intro K' vs u hv hli hup hJ K hK
                              obtain ⟨v0, v1, v2, v3, v4, v5, v6, v7, v8, v9, v10, v11, v12, v13, v14, rfl⟩ := len15 hv
                              obtain ⟨⟨p0, p1, p2, p3, p4⟩, m9, m10, va', vc', ua', uc', jg⟩ := hJ
                              have hbx := jg.x1.2
                              refine mid_val (.agg #[.int .i64 X.ad, .int .i64 X.ln, .int .i64 X.ow, .int .i64 X.lo, .int .i64 X.hi, .slice va X.ds.length vc, .int .i64 X.nw, .slice ua X.es.length uc]) u (by kernel_rfl) ?_ (hK.out _ _ ⟨⟨fun _ => rfl, p1, p2, p3, p4⟩, m9, m10, va', vc', ua', uc', jg⟩)
                              simp only [setAll, List.setIfInBounds_toArray, List.set_cons_zero, List.set_cons_succ, List.set_nil]
                              go_simp
                            · refine stepOkV_at _ rfl ?_
                              intro K' vs u hv hli hup hJ K hK
                              obtain ⟨v0, v1, v2, v3, v4, v5, v6, v7, v8, v9, v10, v11, v12, v13, v14, rfl⟩ := len15 hv
                              obtain ⟨⟨p0, p1, p2, p3, p4⟩, m9, m10, va', vc', ua', uc', jg⟩ := hJ
                              exact mid_val (.slice (some ⟨gl, 0, none⟩) L.length lc) u (by kernel_rfl) (by kernel_rfl) (hK.out _ _ ⟨⟨p0, fun _ => rfl, p2, p3, p4⟩, m9, m10, va', vc', ua', uc', jg⟩)
                            · refine stepOkV_at _ rfl ?_
                              intro K' vs u hv hli hup hJ K hK
                              obtain ⟨v0, v1, v2, v3, v4, v5, v6, v7, v8, v9, v10, v11, v12, v13, v14, rfl⟩ := len15 hv
                              obtain ⟨⟨p0, p1, p2, p3, p4⟩, m9, m10, va', vc', ua', uc', jg⟩ := hJ
                              exact mid_val (.int .i64 kk) u (by kernel_rfl) (by kernel_rfl) (hK.out _ _ ⟨⟨p0, p1, fun _ => rfl, p3, p4⟩, m9, m10, va', vc', ua', uc', jg⟩)
                            · refine stepOkV_at _ rfl ?_
                              intro K' vs u hv hli hup hJ K hK
                              obtain ⟨v0, v1, v2, v3, v4, v5, v6, v7, v8, v9, v10, v11, v12, v13, v14, rfl⟩ := len15 hv
                              obtain ⟨⟨p0, p1, p2, p3, p4⟩, m9, m10, va', vc', ua', uc', jg⟩ := hJ
                              obtain rfl : v1 = .slice (some ⟨gl, 0, none⟩) L.length lc := p1 (updV hup 1 (by kernel_rfl))
                              obtain rfl : v2 = .int .i64 kk := p2 (updV hup 2 (by kernel_rfl))
                              refine mid_val (.pointer (some ⟨gl, kk * 5, none⟩)) u (by kernel_rfl) ?_ (hK.out _ _ ⟨⟨p0, p1, p2, fun _ => rfl, p4⟩, m9, m10, va', vc', ua', uc', jg⟩)
                              simp only [setAll, List.setIfInBounds_toArray, List.set_cons_zero, List.set_cons_succ, List.set_nil]
                              go_simp
                            · refine stepOkV_at _ rfl ?_
                              intro K' vs u hv hli hup hJ K hK
                              obtain ⟨v0, v1, v2, v3, v4, v5, v6, v7, v8, v9, v10, v11, v12, v13, v14, rfl⟩ := len15 hv
                              obtain ⟨⟨p0, p1, p2, p3, p4⟩, m9, m10, va', vc', ua', uc', jg⟩ := hJ
                              obtain rfl : v3 = .pointer (some ⟨gl, kk * 5, none⟩) := p3 (updV hup 3 (by kernel_rfl))
                              obtain ⟨c0, c1, c2, c3, c4⟩ := hy.below jg.hC hgl
                              refine mid_val (.agg #[.int .i64 f.k, .int .i64 f.a, .int .i64 f.ap, .int .i64 f.b, .int .i64 f.bp]) u (by kernel_rfl) ?_ (hK.out _ _ ⟨⟨p0, p1, p2, p3, fun _ => rfl⟩, m9, m10, va', vc', ua', uc', jg⟩)
                              simp only [setAll, List.setIfInBounds_toArray, List.set_cons_zero, List.set_cons_succ, List.set_nil]
                              go_simp
                            · refine stepOkV_at _ rfl ?_
                              intro K' vs u hv hli hup hJ K hK
                              obtain ⟨v0, v1, v2, v3, v4, v5, v6, v7, v8, v9, v10, v11, v12, v13, v14, rfl⟩ := len15 hv
                              obtain ⟨⟨p0, p1, p2, p3, p4⟩, m9, m10, va', vc', ua', uc', jg⟩ := hJ
                              obtain rfl : v0 = .agg #[.int .i64 X.ad, .int .i64 X.ln, .int .i64 X.ow, .int .i64 X.lo, .int .i64 X.hi, .slice va X.ds.length vc, .int .i64 X.nw, .slice ua X.es.length uc] := p0 (updV hup 0 (by kernel_rfl))
                              obtain rfl : v4 = .agg #[.int .i64 f.k, .int .i64 f.a, .int .i64 f.ap, .int .i64 f.b, .int .i64 f.bp] := p4 (updV hup 4 (by kernel_rfl))
                              refine mid_call 13 (by kernel_rfl) (HI.out u (hg.out _ jg.hB) (hL.below jg.hC)) (by kernel_rfl) ?_
                              rintro e u' ⟨⟨pa, pc, ra, rc, rfl, hO⟩, hb⟩
                              exact ⟨_, rfl, hK.out _ _ ⟨⟨p0, p1, p2, p3, p4⟩, m9, m10, pa, pc, ra, rc, JG.call hli jg hb hO⟩⟩
                            · refine stepOkV_at _ rfl ?_
                              intro K' vs u hv hli hup hJ K hK
                              obtain ⟨v0, v1, v2, v3, v4, v5, v6, v7, v8, v9, v10, v11, v12, v13, v14, rfl⟩ := len15 hv
                              obtain ⟨⟨p0, p1, p2, p3, p4⟩, m9, m10, va', vc', ua', uc', jg⟩ := hJ
                              have e4 := updV hup 5 (by kernel_rfl)
                              obtain rfl : v5 = .tuple #[.agg #[.int .i64 R.ad, .int .i64 R.ln, .int .i64 R.ow, .int .i64 R.lo, .int .i64 R.hi, .slice va' R.ds.length vc', .int .i64 R.nw, .slice ua' R.es.length uc'], .agg #[.int .i64 F.k, .int .i64 F.a, .int .i64 F.ap, .int .i64 F.b, .int .i64 F.bp], .int .i64 c] := (jg.h4 e4).1
                              exact mid_val _ u (by kernel_rfl) (by kernel_rfl) (hK.out _ _ ⟨⟨p0, p1, p2, p3, p4⟩, m9, m10, va', vc', ua', uc', jg.mv5 e4⟩)
                            · refine stepOkV_at _ rfl ?_
                              intro K' vs u hv hli hup hJ K hK
                              obtain ⟨v0, v1, v2, v3, v4, v5, v6, v7, v8, v9, v10, v11, v12, v13, v14, rfl⟩ := len15 hv
                              obtain ⟨⟨p0, p1, p2, p3, p4⟩, m9, m10, va', vc', ua', uc', jg⟩ := hJ
                              obtain ⟨e4, e5⟩ := jg.h5 (updV hup 6 (by kernel_rfl))
                              obtain rfl : v6 = .tuple #[.agg #[.int .i64 R.ad, .int .i64 R.ln, .int .i64 R.ow, .int .i64 R.lo, .int .i64 R.hi, .slice va' R.ds.length vc', .int .i64 R.nw, .slice ua' R.es.length uc'], .agg #[.int .i64 F.k, .int .i64 F.a, .int .i64 F.ap, .int .i64 F.b, .int .i64 F.bp], .int .i64 c] := e5
                              exact mid_val _ u (by kernel_rfl) (by kernel_rfl) (hK.out _ _ ⟨⟨p0, p1, p2, p3, p4⟩, m9, m10, va', vc', ua', uc', jg.ex6 e4⟩)
                            · refine stepOkV_at _ rfl ?_
                              intro K' vs u hv hli hup hJ K hK
                              obtain ⟨v0, v1, v2, v3, v4, v5, v6, v7, v8, v9, v10, v11, v12, v13, v14, rfl⟩ := len15 hv
                              obtain ⟨⟨p0, p1, p2, p3, p4⟩, m9, m10, va', vc', ua', uc', jg⟩ := hJ
                              obtain ⟨e4, e5⟩ := jg.h5 (updV hup 6 (by kernel_rfl))
                              obtain rfl : v6 = .tuple #[.agg #[.int .i64 R.ad, .int .i64 R.ln, .int .i64 R.ow, .int .i64 R.lo, .int .i64 R.hi, .slice va' R.ds.length vc', .int .i64 R.nw, .slice ua' R.es.length uc'], .agg #[.int .i64 F.k, .int .i64 F.a, .int .i64 F.ap, .int .i64 F.b, .int .i64 F.bp], .int .i64 c] := e5
                              exact mid_val _ u (by kernel_rfl) (by kernel_rfl) (hK.out _ _ ⟨⟨p0, p1, p2, p3, p4⟩, m9, m10, va', vc', ua', uc', jg.ex7⟩)
                            · refine stepOkV_at _ rfl ?_
                              intro K' vs u hv hli hup hJ K hK
                              obtain ⟨v0, v1, v2, v3, v4, v5, v6, v7, v8, v9, v10, v11, v12, v13, v14, rfl⟩ := len15 hv
                              obtain ⟨⟨p0, p1, p2, p3, p4⟩, m9, m10, va', vc', ua', uc', jg⟩ := hJ
                              obtain ⟨e4, e5⟩ := jg.h5 (updV hup 6 (by kernel_rfl))
                              obtain rfl : v6 = .tuple #[.agg #[.int .i64 R.ad, .int .i64 R.ln, .int .i64 R.ow, .int .i64 R.lo, .int .i64 R.hi, .slice va' R.ds.length vc', .int .i64 R.nw, .slice ua' R.es.length uc'], .agg #[.int .i64 F.k, .int .i64 F.a, .int .i64 F.ap, .int .i64 F.b, .int .i64 F.bp], .int .i64 c] := e5
                              exact mid_val _ u (by kernel_rfl) (by kernel_rfl) (hK.out _ _ ⟨⟨p0, p1, p2, p3, p4⟩, m9, m10, va', vc', ua', uc', jg.ex8⟩)
                            · refine stepOkV_at _ rfl ?_
                              intro K' vs u hv hli hup hJ K hK
                              obtain ⟨v0, v1, v2, v3, v4, v5, v6, v7, v8, v9, v10, v11, v12, v13, v14, rfl⟩ := len15 hv
                              obtain ⟨⟨p0, p1, p2, p3, p4⟩, m9, m10, va', vc', ua', uc', jg⟩ := hJ
                              exact mid_val (.pointer (some ⟨u.heap.size, 0, none⟩)) (u.alloc (.cells #[.int .i64 0, .int .i64 0, .int .i64 0, .int .i64 0, .int .i64 0, .slice none 0 0, .int .i64 0, .slice none 0 0] 26)) (by kernel_rfl) (by kernel_rfl) (hK.out _ _ ⟨⟨p0, p1, p2, p3, p4⟩, u.heap.size, m10, va', vc', ua', uc', JG.al9 (Or.inl rfl) hli jg⟩)
                            · refine stepOkV_at _ rfl ?_
                              intro K' vs u hv hli hup hJ K hK
                              obtain ⟨v0, v1, v2, v3, v4, v5, v6, v7, v8, v9, v10, v11, v12, v13, v14, rfl⟩ := len15 hv
                              obtain ⟨⟨p0, p1, p2, p3, p4⟩, m9, m10, va', vc', ua', uc', jg⟩ := hJ
                              exact mid_val (.pointer (some ⟨u.heap.size, 0, none⟩)) (u.alloc (.cells #[.int .i64 0, .int .i64 0, .int .i64 0, .int .i64 0, .int .i64 0] 32)) (by kernel_rfl) (by kernel_rfl) (hK.out _ _ ⟨⟨p0, p1, p2, p3, p4⟩, m9, u.heap.size, va', vc', ua', uc', JG.al10 (Or.inl rfl) hli jg⟩)
                            · refine stepOkV_at _ rfl ?_
                              intro K' vs u hv hli hup hJ K hK
                              obtain ⟨v0, v1, v2, v3, v4, v5, v6, v7, v8, v9, v10, v11, v12, v13, v14, rfl⟩ := len15 hv
                              obtain ⟨⟨p0, p1, p2, p3, p4⟩, m9, m10, va', vc', ua', uc', jg⟩ := hJ
                              have e9 := updV hup 10 (by kernel_rfl)
                              obtain ⟨e4, e6⟩ := jg.h6 (updV hup 7 (by kernel_rfl))
                              obtain rfl : v7 = .agg #[.int .i64 R.ad, .int .i64 R.ln, .int .i64 R.ow, .int .i64 R.lo, .int .i64 R.hi, .slice va' R.ds.length vc', .int .i64 R.nw, .slice ua' R.es.length uc'] := e6
                              obtain ⟨e10, -, hz, -⟩ := jg.h9 e9
                              obtain rfl : v10 = .pointer (some ⟨m9, 0, none⟩) := e10
                              obtain ⟨⟨q1, q2⟩, q3'⟩ := id (hz hli)
                              refine mid_skip (World.setCell (World.setCell (World.setCell (World.setCell (World.setCell (World.setCell (World.setCell (World.setCell u ⟨m9, 0, none⟩ (.int .i64 R.ad)) ⟨m9, 1, none⟩ (.int .i64 R.ln)) ⟨m9, 2, none⟩ (.int .i64 R.ow)) ⟨m9, 3, none⟩ (.int .i64 R.lo)) ⟨m9, 4, none⟩ (.int .i64 R.hi)) ⟨m9, 5, none⟩ (.slice va' R.ds.length vc')) ⟨m9, 6, none⟩ (.int .i64 R.nw)) ⟨m9, 7, none⟩ (.slice ua' R.es.length uc')) (by kernel_rfl) ?_ (hK.out undef _ ⟨⟨p0, p1, p2, p3, p4⟩, m9, m10, va', vc', ua', uc', JG.st11 hw0 ⟨Nat.le_refl _, Nat.le_refl _⟩ e4 e9 hli jg⟩)
                              simp only [setAll, List.setIfInBounds_toArray, List.set_cons_zero, List.set_cons_succ, List.set_nil]
                              go_simp
                            · refine stepOkV_at _ rfl ?_
                              intro K' vs u hv hli hup hJ K hK
                              obtain ⟨v0, v1, v2, v3, v4, v5, v6, v7, v8, v9, v10, v11, v12, v13, v14, rfl⟩ := len15 hv
                              obtain ⟨⟨p0, p1, p2, p3, p4⟩, m9, m10, va', vc', ua', uc', jg⟩ := hJ
                              have e9 := updV hup 10 (by kernel_rfl)
                              have e10 := updV hup 11 (by kernel_rfl)
                              obtain rfl : v8 = .agg #[.int .i64 F.k, .int .i64 F.a, .int .i64 F.ap, .int .i64 F.b, .int .i64 F.bp] := jg.h7 (updV hup 8 (by kernel_rfl))
                              obtain ⟨e11, -, -, hz, -⟩ := jg.h10 e10
                              obtain rfl : v11 = .pointer (some ⟨m10, 0, none⟩) := e11
                              obtain ⟨⟨q1, q2⟩, q3'⟩ := id (hz hli)
                              refine mid_skip (World.setCell (World.setCell (World.setCell (World.setCell (World.setCell u ⟨m10, 0, none⟩ (.int .i64 F.k)) ⟨m10, 1, none⟩ (.int .i64 F.a)) ⟨m10, 2, none⟩ (.int .i64 F.ap)) ⟨m10, 3, none⟩ (.int .i64 F.b)) ⟨m10, 4, none⟩ (.int .i64 F.bp)) (by kernel_rfl) ?_ (hK.out undef _ ⟨⟨p0, p1, p2, p3, p4⟩, m9, m10, va', vc', ua', uc', JG.st12 hw0 ⟨Nat.le_refl _, Nat.le_refl _⟩ e9 e10 hli jg⟩)
                              simp only [setAll, List.setIfInBounds_toArray, List.set_cons_zero, List.set_cons_succ, List.set_nil]
                              go_simp
                            · refine stepOkV_at _ rfl ?_
                              intro K' vs u hv hli hup hJ K hK
                              obtain ⟨v0, v1, v2, v3, v4, v5, v6, v7, v8, v9, v10, v11, v12, v13, v14, rfl⟩ := len15 hv
                              obtain ⟨⟨p0, p1, p2, p3, p4⟩, m9, m10, va', vc', ua', uc', jg⟩ := hJ
                              obtain rfl : v9 = .int .i64 c := jg.h8 (updV hup 9 (by kernel_rfl))
                              exact mid_val _ u (by kernel_rfl) (by kernel_rfl) (hK.out _ _ ⟨⟨p0, p1, p2, p3, p4⟩, m9, m10, va', vc', ua', uc', jg.as13⟩)
                          · intro K' vs u hal hv hJ
                            obtain ⟨v0, v1, v2, v3, v4, v5, v6, v7, v8, v9, v10, v11, v12, v13, v14, rfl⟩ := len15 hv
                            obtain ⟨-, m9, m10, pa, pc, ra, rc, jg⟩ := hJ
                            obtain ⟨e9, ⟨l1, l2, l3⟩, -, e11⟩ := jg.h9 (hal 10 (by decide))
                            obtain ⟨e10, ⟨k1, k2, k3⟩, hne, -, e12⟩ := jg.h10 (hal 11 (by decide))
                            obtain rfl : v10 = .pointer (some ⟨m9, 0, none⟩) := e9
                            obtain rfl : v11 = .pointer (some ⟨m10, 0, none⟩) := e10
                            obtain rfl : v14 = .int .i64 c := jg.h13 (hal 14 (by decide))
                            obtain ⟨-, hO, kh, kg⟩ := jg.h4 (hal 5 (by decide))
                            have bh := (e11 (hal 12 (by decide))).2
                            have bg := e12 (hal 13 (by decide))
                            have hE := jg.hC
                            clear jg e11 e12 hal
                            simp only [setAll, List.setIfInBounds_toArray, List.set_cons_zero, List.set_cons_succ, List.set_nil]
                            go_wp2_with fail
                            go_meet
                            exact ⟨m9, m10, pa, pc, ra, rc, rfl, rfl, rfl, bh.1, bg.1, hO, l2, hE⟩
                        case rest =>
                          obtain ⟨m22, m23, pa, pc, ra, rc, rfl, rfl, rfl, x22, x23, hO1, hm22, hE⟩ := hcut
                          have hLY : ListX wc w.heap.size n10 q3 pa ra R.ds R.es := ListX.own hO1 (by omega) hl10
                          have hl9 := x9.1.1
                          replace x9 := x9.below hE
                          replace x10 := x10.below hE
                          replace hLZ := hLZ.below hE
                          replace hOF := hOF.below hE
                          replace hB := bl_trans hB hE
                          replace hLo := below_trans2 hLo hE hl9
                          clear hE xN hO1 HI hL hy
                          obtain ⟨gz, capz, hsz, -, hgz, -, -⟩ := own_form hOF (by omega)
                          subst hsz
                          have hz : AtF wc gz (kk * 5) F := by
                            have := flCells_of_own hOF rfl kk F hMk
                            simpa [AtF] using this
                          have hkM' : (kk : Int) < (M.length : Int) := by omega
                          have hne := run_neq_same
                          have hgf := guardFlow
                          go_upto_region 32 with fail
                          refine wp_region_held_drew (S := (fun w' => Box w' m23 #[.int .i64 F.k, .int .i64 F.a, .int .i64 F.ap, .int .i64 F.b, .int .i64 F.bp] ∧ AtF w' gz (kk * 5) F)) (by kernel_rfl) ?_ (fun hHeld => ?_)
                          · exact ⟨x23.below (bl_drew (bl_refl _)), hz.below (bl_drew (bl_refl _)) hgz⟩
                          have hl9' := x9.1.1
                          have hq := bl_drew (bl_refl wc)
                          replace x9 := x9.below hq
                          replace x10 := x10.below hq
                          replace x22 := x22.below hq
                          replace x23 := x23.below hq
                          replace hLZ := hLZ.below hq
                          replace hLY := hLY.below hq
                          replace hOF := hOF.below hq
                          replace hz := hz.below hq hgz
                          replace hgz := Nat.lt_of_lt_of_le hgz hq.size
                          replace hB := bl_trans hB hq
                          replace hLo := below_trans2 hLo hq hl9'
                          clear hq
                          generalize wc.drew = W0 at x9 x10 x22 x23 hLZ hLY hOF hz hgz hB hLo hHeld ⊢
                          refine takeL 0 158 ?_ ?_ hHeld ?_
                          rotate_left
                          · (intro w hSw; (try dsimp only at hSw); simp only [Box, AtF] at hSw; go_simp; try with_reducible rfl)
                          simp only [Act.put, puA, puB, puC]
                          refine takeL 1 159 ?_ ?_ hHeld ?_
                          rotate_left
                          · (intro w hSw; (try dsimp only at hSw); simp only [Box, AtF] at hSw; go_simp; try with_reducible rfl)
                          simp only [Act.put, puA, puB, puC]
                          refine takeL 2 160 ?_ ?_ hHeld ?_
                          rotate_left
                          · (intro w hSw; (try dsimp only at hSw); simp only [Box, AtF] at hSw; go_simp; try with_reducible rfl)
                          simp only [Act.put, puA, puB, puC]
                          refine takeL 3 161 ?_ ?_ hHeld ?_
                          rotate_left
                          · (intro w hSw; (try dsimp only at hSw); simp only [Box, AtF] at hSw; go_simp; try with_reducible rfl)
                          simp only [Act.put, puA, puB, puC]
                          refine takeL 4 162 ?_ ?_ hHeld ?_
                          rotate_left
                          · (intro w hSw; (try dsimp only at hSw); simp only [Box, AtF] at hSw; go_simp; try with_reducible rfl)
                          simp only [Act.put, puA, puB, puC]
                          refine takeL 5 163 ?_ ?_ hHeld ?_
                          rotate_left
                          · (intro w hSw; (try dsimp only at hSw); simp only [Box, AtF] at hSw; go_simp; try with_reducible rfl)
                          simp only [Act.put, puA, puB, puC]
                          refine wpAnyH_done (by kernel_rfl) ?_ _
                          clear hHeld hne hz hgz
                          have y22 := x22.2
                          obtain ⟨⟨p1, p2⟩, p3⟩ := id x10
                          go_wp2_with fail
                          go_roundg (L.length - (i + 1))
                          case measure => omega
                          case rel => exact ⟨i + 1, rfl, by omega, by go_num, ⟨R, pa, pc, ra, rc, hBg2.out, x10.set8 (.int .i64 R.ad) (.int .i64 R.ln) (.int .i64 R.ow) (.int .i64 R.lo) (.int .i64 R.hi) (.slice pa R.ds.length pc) (.int .i64 R.nw) (.slice ra R.es.length rc), hLY.set8 (.int .i64 R.ad) (.int .i64 R.ln) (.int .i64 R.ow) (.int .i64 R.lo) (.int .i64 R.hi) (.slice pa R.ds.length pc) (.int .i64 R.nw) (.slice ra R.es.length rc)⟩, x9.other8 (n := n10) (by omega) (.int .i64 R.ad) (.int .i64 R.ln) (.int .i64 R.ow) (.int .i64 R.lo) (.int .i64 R.hi) (.slice pa R.ds.length pc) (.int .i64 R.nw) (.slice ra R.es.length rc), hLZ.set8 (.int .i64 R.ad) (.int .i64 R.ln) (.int .i64 R.ow) (.int .i64 R.lo) (.int .i64 R.hi) (.slice pa R.ds.length pc) (.int .i64 R.nw) (.slice ra R.es.length rc), (by rw [hM.out]; exact own_other8 hOF (by omega) (.int .i64 R.ad) (.int .i64 R.ln) (.int .i64 R.ow) (.int .i64 R.lo) (.int .i64 R.hi) (.slice pa R.ds.length pc) (.int .i64 R.nw) (.slice ra R.es.length rc)), bl_set8 hB (n := n10) (by omega) (.int .i64 R.ad) (.int .i64 R.ln) (.int .i64 R.ow) (.int .i64 R.lo) (.int .i64 R.hi) (.slice pa R.ds.length pc) (.int .i64 R.nw) (.slice ra R.es.length rc), low_set8m hLo (by omega) (.int .i64 R.ad) (.int .i64 R.ln) (.int .i64 R.ow) (.int .i64 R.lo) (.int .i64 R.hi) (.slice pa R.ds.length pc) (.int .i64 R.nw) (.slice ra R.es.length rc)⟩
                    · skip
                      obtain ⟨⟨X, va, vc, ua, uc, hBg, x10, hL⟩, x9, hLZ, hOF, hB, hLo⟩ := hP
                      obtain rfl : i = L.length := by omega
                      obtain rfl : Z = X := begun_same hBgZ.out hBg turn_all
                      have hok : bookB Z.ad Z.ln Z.ow Z.lo Z.hi Z.nw Z.ds Z.es = true := hBg.2.2.2.2.2.2.2.1
                      have hRl : Z.ds.length ≤ 100 ∧ Z.es.length ≤ 100 := by
                        obtain ⟨_, h1, h2, _⟩ := book_parts hok
                        omega
                      obtain ⟨hRl1, hRl2⟩ := hRl
                      clear hBg hBgZ hOF hLo hgi hi9
                      have HW : Hid (∀ W, Below wr.heap.size wr W → Calls Tryz.prog 15 #[.agg #[.int .i64 Z.ad, .int .i64 Z.ln, .int .i64 Z.ow, .int .i64 Z.lo, .int .i64 Z.hi, .slice za Z.ds.length zc, .int .i64 Z.nw, .slice ya Z.es.length yc], .agg #[.int .i64 Z.ad, .int .i64 Z.ln, .int .i64 Z.ow, .int .i64 Z.lo, .int .i64 Z.hi, .slice va Z.ds.length vc, .int .i64 Z.nw, .slice ua Z.es.length uc]] W fun e w' => e = .returned (.bool true) ∧ Below W.heap.size W w') := fun W h => wnBook_same Z za zc ya yc va vc ua uc W (hLZ.below h).doors.at (hLZ.below h).ents.at (hL.below h).doors.at (hL.below h).ents.at (by omega) (by omega)
                      have HI : Hid (∀ W, Below wr.heap.size wr W → Calls Tryz.prog 21 #[.agg #[.int .i64 Z.ad, .int .i64 Z.ln, .int .i64 Z.ow, .int .i64 Z.lo, .int .i64 Z.hi, .slice za Z.ds.length zc, .int .i64 Z.nw, .slice ya Z.es.length yc]] W fun e w' => e = .returned (.bool true) ∧ Below W.heap.size W w') := fun W h => by have := implBook_ret Z.ad Z.ln Z.ow Z.lo Z.hi Z.nw za Z.ds.length zc ya Z.es.length yc Z.ds Z.es W (hLZ.below h).doors.at (hLZ.below h).ents.at; rw [hok] at this; exact this
                      have HS : Hid (∀ W, Below wr.heap.size wr W → Calls Tryz.prog 26 #[.agg #[.int .i64 Z.ad, .int .i64 Z.ln, .int .i64 Z.ow, .int .i64 Z.lo, .int .i64 Z.hi, .slice za Z.ds.length zc, .int .i64 Z.nw, .slice ya Z.es.length yc]] W fun e w' => e = .returned (.bool true) ∧ Below W.heap.size W w') := fun W h => by have := specBookOk_ret Z.ad Z.ln Z.ow Z.lo Z.hi Z.nw za Z.ds.length zc ya Z.es.length yc Z.ds Z.es W (hLZ.below h).doors.at (hLZ.below h).ents.at; rw [hok] at this; exact this
                      have hC := bl_refl wr
                      clear hok hRl1 hRl2
                      go_upto_region 35 with fail
                      refine wp_region_held_drew (S := (fun w' => Box w' n9 #[.int .i64 Z.ad, .int .i64 Z.ln, .int .i64 Z.ow, .int .i64 Z.lo, .int .i64 Z.hi, .slice za Z.ds.length zc, .int .i64 Z.nw, .slice ya Z.es.length yc] ∧ Box w' n10 #[.int .i64 Z.ad, .int .i64 Z.ln, .int .i64 Z.ow, .int .i64 Z.lo, .int .i64 Z.hi, .slice va Z.ds.length vc, .int .i64 Z.nw, .slice ua Z.es.length uc])) (by kernel_rfl) ?_ (fun hHeld => ?_)
                      · exact ⟨x9.1.below (bl_drew (bl_refl _)), x10.1.below (bl_drew (bl_refl _))⟩
                      have hb := bl_drew (bl_refl wr)
                      replace x9 := x9.below hb
                      replace x10 := x10.below hb
                      replace hLZ := hLZ.below hb
                      replace hL := hL.below hb
                      replace hB := bl_trans hB hb
                      replace hC := bl_trans hC hb
                      clear hb
                      generalize wr.drew = W0 at x9 x10 hLZ hL hB hC hHeld ⊢
                      refine takeL 0 165 ?_ ?_ hHeld ?_
                      rotate_left
                      · (intro w hSw; (try dsimp only at hSw); simp only [Box] at hSw; go_simp; try with_reducible rfl)
                      simp only [Act.put, puA, puB, puC]
                      refine takeL 1 166 ?_ ?_ hHeld ?_
                      rotate_left
                      · (intro w hSw; (try dsimp only at hSw); simp only [Box] at hSw; go_simp; try with_reducible rfl)
                      simp only [Act.put, puA, puB, puC]
                      refine wpAnyH_ready (rs := [2]) (by kernel_rfl) (by simp) (AllReadyH.cons rfl (fun K hK => ?_) (AllReadyH.nil))
                      refine step_callg 167 15 rfl (by kernel_rfl) (HW.out _ hC) (by kernel_rfl) ?_
                      rintro e W1 ⟨rfl, hb⟩
                      refine ⟨_, rfl, ?_⟩
                      simp only [Act.put, puA, puB, puC]
                      replace x9 := x9.below hb
                      replace x10 := x10.below hb
                      replace hLZ := hLZ.below hb
                      replace hL := hL.below hb
                      replace hB := bl_trans hB hb
                      replace hC := bl_trans hC hb
                      clear hb
                      refine hK.out _ _ ?_ (fun hHeld1 => ?_)
                      · exact ⟨x9.1, x10.1⟩
                      clear hK K hHeld
                      have hHeld := hHeld1
                      clear hHeld1
                      refine takeL 3 168 ?_ ?_ hHeld ?_
                      rotate_left
                      · (intro w hSw; (try dsimp only at hSw); simp only [Box] at hSw; go_simp; try with_reducible rfl)
                      simp only [Act.put, puA, puB, puC]
                      refine takeL 4 169 ?_ ?_ hHeld ?_
                      rotate_left
                      · (intro w hSw; (try dsimp only at hSw); simp only [Box] at hSw; go_simp; try with_reducible rfl)
                      simp only [Act.put, puA, puB, puC]
                      refine takeL 6 171 ?_ ?_ hHeld ?_
                      rotate_left
                      · (intro w hSw; (try dsimp only at hSw); simp only [Box] at hSw; go_simp; try with_reducible rfl)
                      simp only [Act.put, puA, puB, puC]
                      refine wpAnyH_ready (rs := [5]) (by kernel_rfl) (by simp) (AllReadyH.cons rfl (fun K hK => ?_) (AllReadyH.nil))
                      refine step_callg 170 21 rfl (by kernel_rfl) (HI.out _ hC) (by kernel_rfl) ?_
                      rintro e W1 ⟨rfl, hb⟩
                      refine ⟨_, rfl, ?_⟩
                      simp only [Act.put, puA, puB, puC]
                      replace x9 := x9.below hb
                      replace x10 := x10.below hb
                      replace hLZ := hLZ.below hb
                      replace hL := hL.below hb
                      replace hB := bl_trans hB hb
                      replace hC := bl_trans hC hb
                      clear hb
                      refine hK.out _ _ ?_ (fun hHeld1 => ?_)
                      · exact ⟨x9.1, x10.1⟩
                      clear hK K hHeld
                      have hHeld := hHeld1
                      clear hHeld1
                      refine wpAnyH_ready (rs := [7]) (by kernel_rfl) (by simp) (AllReadyH.cons rfl (fun K hK => ?_) (AllReadyH.nil))
                      refine step_callg 172 26 rfl (by kernel_rfl) (HS.out _ hC) (by kernel_rfl) ?_
                      rintro e W1 ⟨rfl, hb⟩
                      refine ⟨_, rfl, ?_⟩
                      simp only [Act.put, puA, puB, puC]
                      replace x9 := x9.below hb
                      replace x10 := x10.below hb
                      replace hLZ := hLZ.below hb
                      replace hL := hL.below hb
                      replace hB := bl_trans hB hb
                      replace hC := bl_trans hC hb
                      clear hb
                      refine hK.out _ _ ?_ (fun hHeld1 => ?_)
                      · exact ⟨x9.1, x10.1⟩
                      clear hK K hHeld
                      have hHeld := hHeld1
                      clear hHeld1
                      refine takeL 8 173 ?_ ?_ hHeld ?_
                      rotate_left
                      · (intro w hSw; (try dsimp only at hSw); simp only [Box] at hSw; go_simp; try with_reducible rfl)
                      simp only [Act.put, puA, puB, puC]
                      refine takeL 9 174 ?_ ?_ hHeld ?_
                      rotate_left
                      · (intro w hSw; (try dsimp only at hSw); simp only [Box] at hSw; go_simp; try with_reducible rfl)
                      simp only [Act.put, puA, puB, puC]
                      refine takeL 10 4 ?_ ?_ hHeld ?_
                      rotate_left
                      · (intro w hSw; (try dsimp only at hSw); simp only [Box] at hSw; go_simp; try with_reducible rfl)
                      simp only [Act.put, puA, puB, puC]
                      refine wpAnyH_done (by kernel_rfl) ?_ _
                      clear hHeld
                      go_wp2
                      go_ret
                      exact ⟨rfl, hB⟩
    · have hl2 : (1048576 : Int) < (mn : Int) := by omega
      go_enter Tryz.func7, Tryz.ntmps7
      go_wp2
      go_ret
      exact ⟨rfl, bl_refl _⟩
  · have hl2 : (1048576 : Int) < (cn : Int) := by omega
    go_enter Tryz.func7, Tryz.ntmps7
    go_wp2
    go_ret
    exact ⟨rfl, bl_refl _⟩
end Go.Proofs.YtcgjpmhjijmplaaGreatDoor
