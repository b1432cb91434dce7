/- The law's wnPut, walked. -/
import Derived.Test.YtcgjpmhjijmplaaGreatDoorFls2
import Derived.Test.YtcgjpmhjijmplaaGreatDoorJoinP
import Derived.Test.YtcgjpmhjijmplaaGreatDoorJoinG
namespace Go.Proofs.YtcgjpmhjijmplaaGreatDoor
open Go.ChangeShapes Go.WideShapes Go.ChangeAt Go.RowKit Go.Maps

def AtF (w : World) (g o : Nat) (f : Fl) : Prop := w.cell? ⟨g, o, none⟩ = some (.int .i64 f.k) ∧ w.cell? ⟨g, o + 1, none⟩ = some (.int .i64 f.a) ∧ w.cell? ⟨g, o + 2, none⟩ = some (.int .i64 f.ap) ∧ w.cell? ⟨g, o + 3, none⟩ = some (.int .i64 f.b) ∧ w.cell? ⟨g, o + 4, none⟩ = some (.int .i64 f.bp)
theorem AtF.below {w w' : World} {g o : Nat} {y : Fl} (h : AtF w g o y) (hb : Below w.heap.size w w') (hg : g < w.heap.size) : AtF w' g o y := by
  obtain ⟨c0, c1, c2, c3, c4⟩ := h
  refine ⟨?_, ?_, ?_, ?_, ?_⟩ <;> (rw [hb.cell (by simpa using hg)]; assumption)
def apSemF (v x : Value) : Sem Next := do let r ← Builtin.append_ #[27, 27] 27 #[v, x]; pure (.value r)
theorem ap_runF {P : Program} {w w' : World} {v x v' : Value} (h : (Builtin.append_ #[27, 27] 27 #[v, x]).run P w = .ok v' w') : (apSemF v x).run P w = .ok (.value v') w' := by
  unfold apSemF
  simp only [Sem.run_bind, h, Result.andThen_ok, Sem.run_pure]
theorem bl_grownF {w0 w w' : World} {row : Option Nat} (h : Below w0.heap.size w0 w) (hg : w.grownBy w' row) (hr : ∀ k, row = some k → w0.heap.size ≤ k) : Below w0.heap.size w0 w' :=
  ⟨hg.os.trans h.os, hg.tape.trans h.tape, hg.output.trans h.output, Nat.le_trans h.size hg.size, fun k hk => (hg.block k (Nat.lt_of_lt_of_le hk h.size) (fun e => by have := hr k e.symm; omega)).trans (h.block k hk)⟩
/-- Two flows to one port of one peer, of one kind. -/
def peerS (f g : Fl) : Bool := g.k == f.k && (g.b == f.b && g.bp == f.bp)
def putF (fs : List Fl) (f : Fl) : List Fl := if fs.any (peerS f) then fs else fs ++ [f]
set_option maxRecDepth 20000 in
set_option maxHeartbeats 4000000 in
theorem put_list_ret (base : Nat) (v : Value) (fs : List Fl) (f : Fl) (w : World) (hO : OwnF w base v fs) (hl : fs.length ≤ 100) (hbw : base ≤ w.heap.size) :
    Calls Tryz.prog 29 #[v, .agg #[.int .i64 f.k, .int .i64 f.a, .int .i64 f.ap, .int .i64 f.b, .int .i64 f.bp]] w fun e w' => (∃ v', e = .returned v' ∧ OwnF w' base v' (putF fs f)) ∧ Below w.heap.size w w' := by
  obtain ⟨sa, sc, rfl⟩ := own_slice hO
  have hol : ∀ k, (Value.slice sa fs.length sc).ownBlock = some k → k < w.heap.size := fun k hk => (hO.lt k hk).2
  have hB0 := bl_alloc (bl_refl w) (.cells #[.int .i64 f.k, .int .i64 f.a, .int .i64 f.ap, .int .i64 f.b, .int .i64 f.bp] 32)
  have x3 := Box.new w #[.int .i64 f.k, .int .i64 f.a, .int .i64 f.ap, .int .i64 f.b, .int .i64 f.bp] 32
  replace hO := hO.below hB0
  go_enter Tryz.func29, Tryz.ntmps29
  go_wp2_with fail
  generalize w.alloc (.cells #[.int .i64 f.k, .int .i64 f.a, .int .i64 f.ap, .int .i64 f.b, .int .i64 f.bp] 32) = W2 at *
  generalize hn3 : w.heap.size = n3 at x3 ⊢
  go_loopg [5] fs.length (fun g iv wr => ∃ m : Nat, g = fs.length - m ∧ m ≤ fs.length ∧ iv = .int .i64 m ∧ (∀ j y, j < m → fs[j]? = some y → peerS f y = false) ∧ Below w.heap.size w wr ∧ Below W2.heap.size W2 wr)
  case atStart => exact ⟨0, by omega, by omega, rfl, (fun j y hj _ => absurd hj (by omega)), hB0, bl_refl _⟩
  case round =>
    obtain ⟨m, hgm, hm, rfl, HN, hB, hC⟩ := hrel
    have HN : Hid (∀ j y, j < m → fs[j]? = some y → peerS f y = false) := HN
    replace x3 := x3.below hC
    replace hO := hO.below hC
    by_cases hmt : m < fs.length
    · have hmt' : (m : Int) < (fs.length : Int) := by omega
      obtain ⟨y, hd⟩ : ∃ y, fs[m]? = some y := ⟨fs[m], by simp [hmt]⟩
      obtain ⟨g, cap, hsl, -, hgl, -, -⟩ := own_form hO (by omega)
      simp only [Value.slice.injEq] at hsl
      obtain ⟨rfl, -, rfl⟩ := hsl
      have hy : AtF wr g (m * 5) y := by
        have := flCells_of_own hO rfl m y hd
        simpa [AtF] using this
      have hO0 : Hid (OwnF wr base (.slice (some ⟨g, 0, none⟩) fs.length sc) fs) := hO
      have hyW := List.mem_of_getElem? hd
      have hd : Hid (fs[m]? = some y) := hd
      clear hO
      go_upto_region 4 with fail
      cases hkq : y.k == f.k with
      | false =>
        have hno : Hid (peerS f y = false) := by show peerS f y = false; simp only [peerS, hkq, Bool.false_and]
        refine wp_region_held_drew (S := (fun w' => Box w' n3 #[.int .i64 f.k, .int .i64 f.a, .int .i64 f.ap, .int .i64 f.b, .int .i64 f.bp] ∧ AtF w' g (m * 5) y)) (by kernel_rfl) ?_ (fun hHeld => ?_)
        · exact ⟨x3.below (bl_drew (bl_refl _)), hy.below (bl_drew (bl_refl _)) hgl⟩
        have hq := bl_drew (bl_refl wr)
        replace hB := bl_trans hB hq
        replace hC := bl_trans hC hq
        have hE := hq
        clear hq
        generalize wr.drew = W9 at hB hC hE hHeld ⊢
        refine takeL 0 12 ?_ ?_ hHeld ?_
        rotate_left
        · (intro w hSw; (try dsimp only at hSw); simp only [Box, AtF] at hSw; go_simp; try with_reducible rfl)
        simp only [Act.put, puA, puB, puC]
        refine takeL 1 13 ?_ ?_ hHeld ?_
        rotate_left
        · (intro w hSw; (try dsimp only at hSw); simp only [Box, AtF] at hSw; go_simp; try with_reducible rfl)
        simp only [Act.put, puA, puB, puC]
        refine takeL 2 14 ?_ ?_ hHeld ?_
        rotate_left
        · (intro w hSw; (try dsimp only at hSw); simp only [Box, AtF] at hSw; go_simp; try with_reducible rfl)
        simp only [Act.put, puA, puB, puC]
        refine takeL 3 15 ?_ ?_ hHeld ?_
        rotate_left
        · (intro w hSw; (try dsimp only at hSw); simp only [Box, AtF] at hSw; go_simp; try with_reducible rfl)
        simp only [Act.put, puA, puB, puC]
        refine takeL 4 16 ?_ ?_ hHeld ?_
        rotate_left
        · (intro w hSw; (try dsimp only at hSw); simp only [Box, AtF] at hSw; go_simp; try with_reducible rfl)
        simp only [Act.put, puA, puB, puC]
        refine takeL 5 17 ?_ ?_ hHeld ?_
        rotate_left
        · (intro w hSw; (try dsimp only at hSw); simp only [Box, AtF] at hSw; go_simp; try with_reducible rfl)
        simp only [Act.put, puA, puB, puC]
        refine takeL 6 18 ?_ ?_ hHeld ?_
        rotate_left
        · (intro w hSw; (try dsimp only at hSw); simp only [Box, AtF] at hSw; go_simp; try with_reducible rfl)
        simp only [Act.put, puA, puB, puC]
        refine takeL 7 19 ?_ ?_ hHeld ?_
        rotate_left
        · (intro w hSw; (try dsimp only at hSw); simp only [Box, AtF] at hSw; go_simp; try with_reducible rfl)
        simp only [Act.put, puA, puB, puC]
        refine takeL 8 20 ?_ ?_ hHeld ?_
        rotate_left
        · (intro w hSw; (try dsimp only at hSw); simp only [Box, AtF] at hSw; go_simp; try with_reducible rfl)
        simp only [Act.put, puA, puB, puC]
        refine takeN 9 21 hHeld ?_
        simp only [Act.put, puA, puB, puC]
        refine takeN 10 22 hHeld ?_
        simp only [Act.put, puA, puB, puC]
        refine takeN 11 23 hHeld ?_
        simp only [Act.put, puA, puB, puC]
        refine takeN 12 24 hHeld ?_
        simp only [Act.put, puA, puB, puC]
        refine takeN 13 25 hHeld ?_
        simp only [Act.put, puA, puB, puC]
        refine takeN 14 26 hHeld ?_
        simp only [Act.put, puA, puB, puC]
        refine takeN 15 27 hHeld ?_
        simp only [Act.put, puA, puB, puC]
        refine takeN 16 28 hHeld ?_
        simp only [Act.put, puA, puB, puC]
        refine takeL 17 29 ?_ ?_ hHeld ?_
        rotate_left
        · (intro w hSw; (try dsimp only at hSw); simp only [Box, AtF] at hSw; go_simp; try with_reducible rfl)
        simp only [Act.put, puA, puB, puC]
        refine takeL 18 30 ?_ ?_ hHeld ?_
        rotate_left
        · (intro w hSw; (try dsimp only at hSw); simp only [Box, AtF] at hSw; go_simp; try with_reducible rfl)
        simp only [Act.put, puA, puB, puC]
        refine takeN 19 31 hHeld ?_
        simp only [Act.put, puA, puB, puC]
        refine takeN 20 32 hHeld ?_
        simp only [Act.put, puA, puB, puC]
        refine takeN 21 33 hHeld ?_
        simp only [Act.put, puA, puB, puC]
        refine takeN 22 34 hHeld ?_
        simp only [Act.put, puA, puB, puC]
        refine takeN 23 35 hHeld ?_
        simp only [Act.put, puA, puB, puC]
        refine takeN 24 36 hHeld ?_
        simp only [Act.put, puA, puB, puC]
        refine takeN 25 37 hHeld ?_
        simp only [Act.put, puA, puB, puC]
        refine takeN 26 38 hHeld ?_
        simp only [Act.put, puA, puB, puC]
        refine takeL 27 39 ?_ ?_ hHeld ?_
        rotate_left
        · (intro w hSw; (try dsimp only at hSw); simp only [Box, AtF] at hSw; go_simp; try with_reducible rfl)
        simp only [Act.put, puA, puB, puC]
        refine wpAnyH_done (by kernel_rfl) ?_ _
        clear hHeld
        go_wp2_with fail
        go_roundg (fs.length - (m + 1))
        case measure => omega
        case rel => exact ⟨m + 1, rfl, by omega, by go_num, (fun j z hj hz => by rcases Nat.lt_or_ge j m with h | h; exact HN.out j z h hz; have : j = m := (by omega); subst this; rw [some_one hz hd.out]; exact hno.out), hB, hC⟩
      | true =>
        cases hbq : y.b == f.b with
        | false =>
          have hno : Hid (peerS f y = false) := by show peerS f y = false; simp only [peerS, hkq, hbq, Bool.false_and, Bool.and_false]
          refine wp_region_held_drew (S := (fun w' => Box w' n3 #[.int .i64 f.k, .int .i64 f.a, .int .i64 f.ap, .int .i64 f.b, .int .i64 f.bp] ∧ AtF w' g (m * 5) y)) (by kernel_rfl) ?_ (fun hHeld => ?_)
          · exact ⟨x3.below (bl_drew (bl_refl _)), hy.below (bl_drew (bl_refl _)) hgl⟩
          have hq := bl_drew (bl_refl wr)
          replace hB := bl_trans hB hq
          replace hC := bl_trans hC hq
          have hE := hq
          clear hq
          generalize wr.drew = W9 at hB hC hE hHeld ⊢
          refine takeL 0 12 ?_ ?_ hHeld ?_
          rotate_left
          · (intro w hSw; (try dsimp only at hSw); simp only [Box, AtF] at hSw; go_simp; try with_reducible rfl)
          simp only [Act.put, puA, puB, puC]
          refine takeL 1 13 ?_ ?_ hHeld ?_
          rotate_left
          · (intro w hSw; (try dsimp only at hSw); simp only [Box, AtF] at hSw; go_simp; try with_reducible rfl)
          simp only [Act.put, puA, puB, puC]
          refine takeL 2 14 ?_ ?_ hHeld ?_
          rotate_left
          · (intro w hSw; (try dsimp only at hSw); simp only [Box, AtF] at hSw; go_simp; try with_reducible rfl)
          simp only [Act.put, puA, puB, puC]
          refine takeL 3 15 ?_ ?_ hHeld ?_
          rotate_left
          · (intro w hSw; (try dsimp only at hSw); simp only [Box, AtF] at hSw; go_simp; try with_reducible rfl)
          simp only [Act.put, puA, puB, puC]
          refine takeL 4 16 ?_ ?_ hHeld ?_
          rotate_left
          · (intro w hSw; (try dsimp only at hSw); simp only [Box, AtF] at hSw; go_simp; try with_reducible rfl)
          simp only [Act.put, puA, puB, puC]
          refine takeL 5 17 ?_ ?_ hHeld ?_
          rotate_left
          · (intro w hSw; (try dsimp only at hSw); simp only [Box, AtF] at hSw; go_simp; try with_reducible rfl)
          simp only [Act.put, puA, puB, puC]
          refine takeL 6 18 ?_ ?_ hHeld ?_
          rotate_left
          · (intro w hSw; (try dsimp only at hSw); simp only [Box, AtF] at hSw; go_simp; try with_reducible rfl)
          simp only [Act.put, puA, puB, puC]
          refine takeL 7 19 ?_ ?_ hHeld ?_
          rotate_left
          · (intro w hSw; (try dsimp only at hSw); simp only [Box, AtF] at hSw; go_simp; try with_reducible rfl)
          simp only [Act.put, puA, puB, puC]
          refine takeL 8 20 ?_ ?_ hHeld ?_
          rotate_left
          · (intro w hSw; (try dsimp only at hSw); simp only [Box, AtF] at hSw; go_simp; try with_reducible rfl)
          simp only [Act.put, puA, puB, puC]
          refine takeL 9 21 ?_ ?_ hHeld ?_
          rotate_left
          · (intro w hSw; (try dsimp only at hSw); simp only [Box, AtF] at hSw; go_simp; try with_reducible rfl)
          simp only [Act.put, puA, puB, puC]
          refine takeL 10 22 ?_ ?_ hHeld ?_
          rotate_left
          · (intro w hSw; (try dsimp only at hSw); simp only [Box, AtF] at hSw; go_simp; try with_reducible rfl)
          simp only [Act.put, puA, puB, puC]
          refine takeL 11 23 ?_ ?_ hHeld ?_
          rotate_left
          · (intro w hSw; (try dsimp only at hSw); simp only [Box, AtF] at hSw; go_simp; try with_reducible rfl)
          simp only [Act.put, puA, puB, puC]
          refine takeL 12 24 ?_ ?_ hHeld ?_
          rotate_left
          · (intro w hSw; (try dsimp only at hSw); simp only [Box, AtF] at hSw; go_simp; try with_reducible rfl)
          simp only [Act.put, puA, puB, puC]
          refine takeL 13 25 ?_ ?_ hHeld ?_
          rotate_left
          · (intro w hSw; (try dsimp only at hSw); simp only [Box, AtF] at hSw; go_simp; try with_reducible rfl)
          simp only [Act.put, puA, puB, puC]
          refine takeL 14 26 ?_ ?_ hHeld ?_
          rotate_left
          · (intro w hSw; (try dsimp only at hSw); simp only [Box, AtF] at hSw; go_simp; try with_reducible rfl)
          simp only [Act.put, puA, puB, puC]
          refine takeL 15 27 ?_ ?_ hHeld ?_
          rotate_left
          · (intro w hSw; (try dsimp only at hSw); simp only [Box, AtF] at hSw; go_simp; try with_reducible rfl)
          simp only [Act.put, puA, puB, puC]
          refine takeL 16 28 ?_ ?_ hHeld ?_
          rotate_left
          · (intro w hSw; (try dsimp only at hSw); simp only [Box, AtF] at hSw; go_simp; try with_reducible rfl)
          simp only [Act.put, puA, puB, puC]
          refine takeL 17 29 ?_ ?_ hHeld ?_
          rotate_left
          · (intro w hSw; (try dsimp only at hSw); simp only [Box, AtF] at hSw; go_simp; try with_reducible rfl)
          simp only [Act.put, puA, puB, puC]
          refine takeL 18 30 ?_ ?_ hHeld ?_
          rotate_left
          · (intro w hSw; (try dsimp only at hSw); simp only [Box, AtF] at hSw; go_simp; try with_reducible rfl)
          simp only [Act.put, puA, puB, puC]
          refine takeN 19 31 hHeld ?_
          simp only [Act.put, puA, puB, puC]
          refine takeN 20 32 hHeld ?_
          simp only [Act.put, puA, puB, puC]
          refine takeN 21 33 hHeld ?_
          simp only [Act.put, puA, puB, puC]
          refine takeN 22 34 hHeld ?_
          simp only [Act.put, puA, puB, puC]
          refine takeN 23 35 hHeld ?_
          simp only [Act.put, puA, puB, puC]
          refine takeN 24 36 hHeld ?_
          simp only [Act.put, puA, puB, puC]
          refine takeN 25 37 hHeld ?_
          simp only [Act.put, puA, puB, puC]
          refine takeN 26 38 hHeld ?_
          simp only [Act.put, puA, puB, puC]
          refine takeL 27 39 ?_ ?_ hHeld ?_
          rotate_left
          · (intro w hSw; (try dsimp only at hSw); simp only [Box, AtF] at hSw; go_simp; try with_reducible rfl)
          simp only [Act.put, puA, puB, puC]
          refine wpAnyH_done (by kernel_rfl) ?_ _
          clear hHeld
          go_wp2_with fail
          go_roundg (fs.length - (m + 1))
          case measure => omega
          case rel => exact ⟨m + 1, rfl, by omega, by go_num, (fun j z hj hz => by rcases Nat.lt_or_ge j m with h | h; exact HN.out j z h hz; have : j = m := (by omega); subst this; rw [some_one hz hd.out]; exact hno.out), hB, hC⟩
        | true =>
          cases hpq : y.bp == f.bp with
          | false =>
            have hno : Hid (peerS f y = false) := by show peerS f y = false; simp only [peerS, hkq, hbq, hpq, Bool.and_false]
            refine wp_region_held_drew (S := (fun w' => Box w' n3 #[.int .i64 f.k, .int .i64 f.a, .int .i64 f.ap, .int .i64 f.b, .int .i64 f.bp] ∧ AtF w' g (m * 5) y)) (by kernel_rfl) ?_ (fun hHeld => ?_)
            · exact ⟨x3.below (bl_drew (bl_refl _)), hy.below (bl_drew (bl_refl _)) hgl⟩
            have hq := bl_drew (bl_refl wr)
            replace hB := bl_trans hB hq
            replace hC := bl_trans hC hq
            have hE := hq
            clear hq
            generalize wr.drew = W9 at hB hC hE hHeld ⊢
            refine takeL 0 12 ?_ ?_ hHeld ?_
            rotate_left
            · (intro w hSw; (try dsimp only at hSw); simp only [Box, AtF] at hSw; go_simp; try with_reducible rfl)
            simp only [Act.put, puA, puB, puC]
            refine takeL 1 13 ?_ ?_ hHeld ?_
            rotate_left
            · (intro w hSw; (try dsimp only at hSw); simp only [Box, AtF] at hSw; go_simp; try with_reducible rfl)
            simp only [Act.put, puA, puB, puC]
            refine takeL 2 14 ?_ ?_ hHeld ?_
            rotate_left
            · (intro w hSw; (try dsimp only at hSw); simp only [Box, AtF] at hSw; go_simp; try with_reducible rfl)
            simp only [Act.put, puA, puB, puC]
            refine takeL 3 15 ?_ ?_ hHeld ?_
            rotate_left
            · (intro w hSw; (try dsimp only at hSw); simp only [Box, AtF] at hSw; go_simp; try with_reducible rfl)
            simp only [Act.put, puA, puB, puC]
            refine takeL 4 16 ?_ ?_ hHeld ?_
            rotate_left
            · (intro w hSw; (try dsimp only at hSw); simp only [Box, AtF] at hSw; go_simp; try with_reducible rfl)
            simp only [Act.put, puA, puB, puC]
            refine takeL 5 17 ?_ ?_ hHeld ?_
            rotate_left
            · (intro w hSw; (try dsimp only at hSw); simp only [Box, AtF] at hSw; go_simp; try with_reducible rfl)
            simp only [Act.put, puA, puB, puC]
            refine takeL 6 18 ?_ ?_ hHeld ?_
            rotate_left
            · (intro w hSw; (try dsimp only at hSw); simp only [Box, AtF] at hSw; go_simp; try with_reducible rfl)
            simp only [Act.put, puA, puB, puC]
            refine takeL 7 19 ?_ ?_ hHeld ?_
            rotate_left
            · (intro w hSw; (try dsimp only at hSw); simp only [Box, AtF] at hSw; go_simp; try with_reducible rfl)
            simp only [Act.put, puA, puB, puC]
            refine takeL 8 20 ?_ ?_ hHeld ?_
            rotate_left
            · (intro w hSw; (try dsimp only at hSw); simp only [Box, AtF] at hSw; go_simp; try with_reducible rfl)
            simp only [Act.put, puA, puB, puC]
            refine takeL 9 21 ?_ ?_ hHeld ?_
            rotate_left
            · (intro w hSw; (try dsimp only at hSw); simp only [Box, AtF] at hSw; go_simp; try with_reducible rfl)
            simp only [Act.put, puA, puB, puC]
            refine takeL 10 22 ?_ ?_ hHeld ?_
            rotate_left
            · (intro w hSw; (try dsimp only at hSw); simp only [Box, AtF] at hSw; go_simp; try with_reducible rfl)
            simp only [Act.put, puA, puB, puC]
            refine takeL 11 23 ?_ ?_ hHeld ?_
            rotate_left
            · (intro w hSw; (try dsimp only at hSw); simp only [Box, AtF] at hSw; go_simp; try with_reducible rfl)
            simp only [Act.put, puA, puB, puC]
            refine takeL 12 24 ?_ ?_ hHeld ?_
            rotate_left
            · (intro w hSw; (try dsimp only at hSw); simp only [Box, AtF] at hSw; go_simp; try with_reducible rfl)
            simp only [Act.put, puA, puB, puC]
            refine takeL 13 25 ?_ ?_ hHeld ?_
            rotate_left
            · (intro w hSw; (try dsimp only at hSw); simp only [Box, AtF] at hSw; go_simp; try with_reducible rfl)
            simp only [Act.put, puA, puB, puC]
            refine takeL 14 26 ?_ ?_ hHeld ?_
            rotate_left
            · (intro w hSw; (try dsimp only at hSw); simp only [Box, AtF] at hSw; go_simp; try with_reducible rfl)
            simp only [Act.put, puA, puB, puC]
            refine takeL 15 27 ?_ ?_ hHeld ?_
            rotate_left
            · (intro w hSw; (try dsimp only at hSw); simp only [Box, AtF] at hSw; go_simp; try with_reducible rfl)
            simp only [Act.put, puA, puB, puC]
            refine takeL 16 28 ?_ ?_ hHeld ?_
            rotate_left
            · (intro w hSw; (try dsimp only at hSw); simp only [Box, AtF] at hSw; go_simp; try with_reducible rfl)
            simp only [Act.put, puA, puB, puC]
            refine takeL 17 29 ?_ ?_ hHeld ?_
            rotate_left
            · (intro w hSw; (try dsimp only at hSw); simp only [Box, AtF] at hSw; go_simp; try with_reducible rfl)
            simp only [Act.put, puA, puB, puC]
            refine takeL 18 30 ?_ ?_ hHeld ?_
            rotate_left
            · (intro w hSw; (try dsimp only at hSw); simp only [Box, AtF] at hSw; go_simp; try with_reducible rfl)
            simp only [Act.put, puA, puB, puC]
            refine takeL 19 31 ?_ ?_ hHeld ?_
            rotate_left
            · (intro w hSw; (try dsimp only at hSw); simp only [Box, AtF] at hSw; go_simp; try with_reducible rfl)
            simp only [Act.put, puA, puB, puC]
            refine takeL 20 32 ?_ ?_ hHeld ?_
            rotate_left
            · (intro w hSw; (try dsimp only at hSw); simp only [Box, AtF] at hSw; go_simp; try with_reducible rfl)
            simp only [Act.put, puA, puB, puC]
            refine takeL 21 33 ?_ ?_ hHeld ?_
            rotate_left
            · (intro w hSw; (try dsimp only at hSw); simp only [Box, AtF] at hSw; go_simp; try with_reducible rfl)
            simp only [Act.put, puA, puB, puC]
            refine takeL 22 34 ?_ ?_ hHeld ?_
            rotate_left
            · (intro w hSw; (try dsimp only at hSw); simp only [Box, AtF] at hSw; go_simp; try with_reducible rfl)
            simp only [Act.put, puA, puB, puC]
            refine takeL 23 35 ?_ ?_ hHeld ?_
            rotate_left
            · (intro w hSw; (try dsimp only at hSw); simp only [Box, AtF] at hSw; go_simp; try with_reducible rfl)
            simp only [Act.put, puA, puB, puC]
            refine takeL 24 36 ?_ ?_ hHeld ?_
            rotate_left
            · (intro w hSw; (try dsimp only at hSw); simp only [Box, AtF] at hSw; go_simp; try with_reducible rfl)
            simp only [Act.put, puA, puB, puC]
            refine takeL 25 37 ?_ ?_ hHeld ?_
            rotate_left
            · (intro w hSw; (try dsimp only at hSw); simp only [Box, AtF] at hSw; go_simp; try with_reducible rfl)
            simp only [Act.put, puA, puB, puC]
            refine takeL 26 38 ?_ ?_ hHeld ?_
            rotate_left
            · (intro w hSw; (try dsimp only at hSw); simp only [Box, AtF] at hSw; go_simp; try with_reducible rfl)
            simp only [Act.put, puA, puB, puC]
            refine takeL 27 39 ?_ ?_ hHeld ?_
            rotate_left
            · (intro w hSw; (try dsimp only at hSw); simp only [Box, AtF] at hSw; go_simp; try with_reducible rfl)
            simp only [Act.put, puA, puB, puC]
            refine wpAnyH_done (by kernel_rfl) ?_ _
            clear hHeld
            go_wp2_with fail
            go_roundg (fs.length - (m + 1))
            case measure => omega
            case rel => exact ⟨m + 1, rfl, by omega, by go_num, (fun j z hj hz => by rcases Nat.lt_or_ge j m with h | h; exact HN.out j z h hz; have : j = m := (by omega); subst this; rw [some_one hz hd.out]; exact hno.out), hB, hC⟩
          | true =>
            have hput : Hid (putF fs f = fs) := by
              have : fs.any (peerS f) = true := List.any_eq_true.2 ⟨y, hyW, by simp only [peerS, hkq, hbq, hpq, Bool.and_true]⟩
              show putF fs f = fs
              simp only [putF, this, if_true]
            refine wp_region_held_drew (S := (fun w' => Box w' n3 #[.int .i64 f.k, .int .i64 f.a, .int .i64 f.ap, .int .i64 f.b, .int .i64 f.bp] ∧ AtF w' g (m * 5) y)) (by kernel_rfl) ?_ (fun hHeld => ?_)
            · exact ⟨x3.below (bl_drew (bl_refl _)), hy.below (bl_drew (bl_refl _)) hgl⟩
            have hq := bl_drew (bl_refl wr)
            replace hB := bl_trans hB hq
            replace hC := bl_trans hC hq
            have hE := hq
            clear hq
            generalize wr.drew = W9 at hB hC hE hHeld ⊢
            refine takeL 0 12 ?_ ?_ hHeld ?_
            rotate_left
            · (intro w hSw; (try dsimp only at hSw); simp only [Box, AtF] at hSw; go_simp; try with_reducible rfl)
            simp only [Act.put, puA, puB, puC]
            refine takeL 1 13 ?_ ?_ hHeld ?_
            rotate_left
            · (intro w hSw; (try dsimp only at hSw); simp only [Box, AtF] at hSw; go_simp; try with_reducible rfl)
            simp only [Act.put, puA, puB, puC]
            refine takeL 2 14 ?_ ?_ hHeld ?_
            rotate_left
            · (intro w hSw; (try dsimp only at hSw); simp only [Box, AtF] at hSw; go_simp; try with_reducible rfl)
            simp only [Act.put, puA, puB, puC]
            refine takeL 3 15 ?_ ?_ hHeld ?_
            rotate_left
            · (intro w hSw; (try dsimp only at hSw); simp only [Box, AtF] at hSw; go_simp; try with_reducible rfl)
            simp only [Act.put, puA, puB, puC]
            refine takeL 4 16 ?_ ?_ hHeld ?_
            rotate_left
            · (intro w hSw; (try dsimp only at hSw); simp only [Box, AtF] at hSw; go_simp; try with_reducible rfl)
            simp only [Act.put, puA, puB, puC]
            refine takeL 5 17 ?_ ?_ hHeld ?_
            rotate_left
            · (intro w hSw; (try dsimp only at hSw); simp only [Box, AtF] at hSw; go_simp; try with_reducible rfl)
            simp only [Act.put, puA, puB, puC]
            refine takeL 6 18 ?_ ?_ hHeld ?_
            rotate_left
            · (intro w hSw; (try dsimp only at hSw); simp only [Box, AtF] at hSw; go_simp; try with_reducible rfl)
            simp only [Act.put, puA, puB, puC]
            refine takeL 7 19 ?_ ?_ hHeld ?_
            rotate_left
            · (intro w hSw; (try dsimp only at hSw); simp only [Box, AtF] at hSw; go_simp; try with_reducible rfl)
            simp only [Act.put, puA, puB, puC]
            refine takeL 8 20 ?_ ?_ hHeld ?_
            rotate_left
            · (intro w hSw; (try dsimp only at hSw); simp only [Box, AtF] at hSw; go_simp; try with_reducible rfl)
            simp only [Act.put, puA, puB, puC]
            refine takeL 9 21 ?_ ?_ hHeld ?_
            rotate_left
            · (intro w hSw; (try dsimp only at hSw); simp only [Box, AtF] at hSw; go_simp; try with_reducible rfl)
            simp only [Act.put, puA, puB, puC]
            refine takeL 10 22 ?_ ?_ hHeld ?_
            rotate_left
            · (intro w hSw; (try dsimp only at hSw); simp only [Box, AtF] at hSw; go_simp; try with_reducible rfl)
            simp only [Act.put, puA, puB, puC]
            refine takeL 11 23 ?_ ?_ hHeld ?_
            rotate_left
            · (intro w hSw; (try dsimp only at hSw); simp only [Box, AtF] at hSw; go_simp; try with_reducible rfl)
            simp only [Act.put, puA, puB, puC]
            refine takeL 12 24 ?_ ?_ hHeld ?_
            rotate_left
            · (intro w hSw; (try dsimp only at hSw); simp only [Box, AtF] at hSw; go_simp; try with_reducible rfl)
            simp only [Act.put, puA, puB, puC]
            refine takeL 13 25 ?_ ?_ hHeld ?_
            rotate_left
            · (intro w hSw; (try dsimp only at hSw); simp only [Box, AtF] at hSw; go_simp; try with_reducible rfl)
            simp only [Act.put, puA, puB, puC]
            refine takeL 14 26 ?_ ?_ hHeld ?_
            rotate_left
            · (intro w hSw; (try dsimp only at hSw); simp only [Box, AtF] at hSw; go_simp; try with_reducible rfl)
            simp only [Act.put, puA, puB, puC]
            refine takeL 15 27 ?_ ?_ hHeld ?_
            rotate_left
            · (intro w hSw; (try dsimp only at hSw); simp only [Box, AtF] at hSw; go_simp; try with_reducible rfl)
            simp only [Act.put, puA, puB, puC]
            refine takeL 16 28 ?_ ?_ hHeld ?_
            rotate_left
            · (intro w hSw; (try dsimp only at hSw); simp only [Box, AtF] at hSw; go_simp; try with_reducible rfl)
            simp only [Act.put, puA, puB, puC]
            refine takeL 17 29 ?_ ?_ hHeld ?_
            rotate_left
            · (intro w hSw; (try dsimp only at hSw); simp only [Box, AtF] at hSw; go_simp; try with_reducible rfl)
            simp only [Act.put, puA, puB, puC]
            refine takeL 18 30 ?_ ?_ hHeld ?_
            rotate_left
            · (intro w hSw; (try dsimp only at hSw); simp only [Box, AtF] at hSw; go_simp; try with_reducible rfl)
            simp only [Act.put, puA, puB, puC]
            refine takeL 19 31 ?_ ?_ hHeld ?_
            rotate_left
            · (intro w hSw; (try dsimp only at hSw); simp only [Box, AtF] at hSw; go_simp; try with_reducible rfl)
            simp only [Act.put, puA, puB, puC]
            refine takeL 20 32 ?_ ?_ hHeld ?_
            rotate_left
            · (intro w hSw; (try dsimp only at hSw); simp only [Box, AtF] at hSw; go_simp; try with_reducible rfl)
            simp only [Act.put, puA, puB, puC]
            refine takeL 21 33 ?_ ?_ hHeld ?_
            rotate_left
            · (intro w hSw; (try dsimp only at hSw); simp only [Box, AtF] at hSw; go_simp; try with_reducible rfl)
            simp only [Act.put, puA, puB, puC]
            refine takeL 22 34 ?_ ?_ hHeld ?_
            rotate_left
            · (intro w hSw; (try dsimp only at hSw); simp only [Box, AtF] at hSw; go_simp; try with_reducible rfl)
            simp only [Act.put, puA, puB, puC]
            refine takeL 23 35 ?_ ?_ hHeld ?_
            rotate_left
            · (intro w hSw; (try dsimp only at hSw); simp only [Box, AtF] at hSw; go_simp; try with_reducible rfl)
            simp only [Act.put, puA, puB, puC]
            refine takeL 24 36 ?_ ?_ hHeld ?_
            rotate_left
            · (intro w hSw; (try dsimp only at hSw); simp only [Box, AtF] at hSw; go_simp; try with_reducible rfl)
            simp only [Act.put, puA, puB, puC]
            refine takeL 25 37 ?_ ?_ hHeld ?_
            rotate_left
            · (intro w hSw; (try dsimp only at hSw); simp only [Box, AtF] at hSw; go_simp; try with_reducible rfl)
            simp only [Act.put, puA, puB, puC]
            refine takeL 26 38 ?_ ?_ hHeld ?_
            rotate_left
            · (intro w hSw; (try dsimp only at hSw); simp only [Box, AtF] at hSw; go_simp; try with_reducible rfl)
            simp only [Act.put, puA, puB, puC]
            refine takeL 27 39 ?_ ?_ hHeld ?_
            rotate_left
            · (intro w hSw; (try dsimp only at hSw); simp only [Box, AtF] at hSw; go_simp; try with_reducible rfl)
            simp only [Act.put, puA, puB, puC]
            refine wpAnyH_done (by kernel_rfl) ?_ _
            clear hHeld
            go_wp2_with fail
            go_ret
            exact ⟨⟨.slice (some ⟨g, 0, none⟩) fs.length sc, rfl, by rw [hput.out]; exact hO0.out.below hE⟩, hB⟩
    · have hmt' : ¬ ((m : Int) < (fs.length : Int)) := by omega
      have hput : Hid (putF fs f = fs ++ [f]) := by
        have : fs.any (peerS f) = false := by
          rw [List.any_eq_false]
          intro y hy hx
          obtain ⟨j, hj⟩ := List.mem_iff_getElem?.1 hy
          rw [HN.out j y (by have := get_lt hj; omega) hj] at hx
          cases hx
        show putF fs f = fs ++ [f]
        simp [putF, this]
      go_upto_region 6 with fail
      refine region_midV [41, 42, 43, 44, 45, 46, 4] (fun L x u => Below wr.heap.size wr u ∧ (L 1 = true → x 1 = .slice sa fs.length sc) ∧ (L 3 = true → x 3 = .agg #[.int .i64 f.k, .int .i64 f.a, .int .i64 f.ap, .int .i64 f.b, .int .i64 f.bp]) ∧ ∃ m4 : Nat, (L 0 = true → L 2 = false → OwnF u wr.heap.size (x 0) [] ∧ (L 4 = true → ∀ k, (x 0).ownBlock = some k → k ≠ m4)) ∧ (L 2 = true → L 5 = false → OwnF u wr.heap.size (x 2) fs ∧ (L 4 = true → ∀ k, (x 2).ownBlock = some k → k ≠ m4)) ∧ (L 4 = true → L 5 = false → x 4 = .slice (some ⟨m4, 0, none⟩) 1 1 ∧ (wr.heap.size ≤ m4 ∧ m4 < u.heap.size) ∧ Box u m4 #[.int .i64 f.k, .int .i64 f.a, .int .i64 f.ap, .int .i64 f.b, .int .i64 f.bp]) ∧ (L 5 = true → OwnF u wr.heap.size (x 5) (fs ++ [f])) ∧ (L 6 = true → OwnF u wr.heap.size (x 6) (fs ++ [f])) ∧ (L 2 = true → L 0 = true) ∧ (L 5 = true → L 2 = true) ∧ (L 6 = true → L 5 = true)) (by kernel_rfl) (by kernel_rfl) (by decide) ?_ ?_ ?_
      · exact ⟨bl_drew (bl_refl _), (fun h => by cases h), (fun h => by cases h), 0, (fun h => by cases h), (fun h => by cases h), (fun h => by cases h), (fun h => by cases h), (fun h => by cases h), (fun h => by cases h), (fun h => by cases h), (fun h => by cases h)⟩
      · refine all_lt_succ (all_lt_succ (all_lt_succ (all_lt_succ (all_lt_succ (all_lt_succ (all_lt_succ (all_lt_zero _) ?_) ?_) ?_) ?_) ?_) ?_) ?_
        · refine stepOkV_at _ rfl ?_
          intro L vs u hv hli hup hJ K hK
          obtain ⟨v0, v1, v2, v3, v4, v5, v6, rfl⟩ := len7 hv
          have hli : L 0 = false := hli
          obtain ⟨hb, p1, p3, m4, j0, j2, j4, j5, j6, i2, i5, i56⟩ := hJ
          have f2 : L 2 = false := by cases h : L 2; rfl; exact absurd (i2 h) (by rw [hli]; decide)
          have f5 : L 5 = false := by cases h : L 5; rfl; exact absurd (i5 h) (by rw [f2]; decide)
          have hb2 : Below u.heap.size u (u.alloc (.cells #[] 32)) := bl_alloc (bl_refl _) _
          exact mid_val (.slice (some ⟨u.heap.size, 0, none⟩) 0 0) (u.alloc (.cells #[] 32)) (by kernel_rfl) (by kernel_rfl) (hK.out _ _ ⟨bl_trans hb hb2, p1, p3, m4, (fun _ _ => ⟨own_mono (own_empty u 32 5) hb.size, fun a k hk => by have h1 := (j4 a f5).2.1.2; have h2 : u.heap.size = k := Option.some.inj hk; omega⟩), (fun a b => ⟨(j2 a b).1.below hb2, (j2 a b).2⟩), (fun a b => by obtain ⟨a1, ⟨a2, a3⟩, a4⟩ := j4 a b; exact ⟨a1, ⟨a2, Nat.lt_of_lt_of_le a3 hb2.size⟩, a4.below hb2⟩), (fun a => (j5 a).below hb2), (fun a => (j6 a).below hb2), fun _ => rfl, i5, i56⟩)
        · refine stepOkV_at _ rfl ?_
          intro L vs u hv hli hup hJ K hK
          obtain ⟨v0, v1, v2, v3, v4, v5, v6, rfl⟩ := len7 hv
          have hli : L 1 = false := hli
          obtain ⟨hb, p1, p3, m4, j0, j2, j4, j5, j6, i2, i5, i56⟩ := hJ
          exact mid_val (.slice sa fs.length sc) u (by kernel_rfl) (by kernel_rfl) (hK.out _ _ ⟨hb, fun _ => rfl, p3, m4, j0, j2, j4, j5, j6, i2, i5, i56⟩)
        · refine stepOkV_at _ rfl ?_
          intro L vs u hv hli hup hJ K hK
          obtain ⟨v0, v1, v2, v3, v4, v5, v6, rfl⟩ := len7 hv
          have hli : L 2 = false := hli
          obtain ⟨hb, p1, p3, m4, j0, j2, j4, j5, j6, i2, i5, i56⟩ := hJ
          obtain rfl : v1 = .slice sa fs.length sc := p1 (updV hup 1 (by kernel_rfl))
          have e0 := updV hup 0 (by kernel_rfl)
          have f5 : L 5 = false := by cases h : L 5; rfl; exact absurd (i5 h) (by rw [hli]; decide)
          obtain ⟨o0, k0⟩ := j0 e0 hli
          obtain ⟨v', w', hrun, ho', hg, hvb⟩ := app_list o0 (hO.below hb) rfl (by omega) hb.size
          have hrow : ∀ k, v0.ownBlock = some k → wr.heap.size ≤ k := fun k hk => (o0.lt k hk).1
          refine mid_val v' w' (by kernel_rfl) (by rw [show execOp (Act.eval ⟨_, _⟩) _ = apSemF v0 (.slice sa fs.length sc) from by kernel_rfl]; exact ap_runF hrun) (hK.out _ _ ⟨bl_grownF hb hg hrow, p1, p3, m4, (fun _ b => by cases b), (fun _ _ => ⟨ho', fun a k hk => ?_⟩), (fun a b => ?_), (fun a => absurd (show L 5 = true from a) (by rw [f5]; decide)), (fun a => ?_), fun _ => e0, fun a => absurd (show L 5 = true from a) (by rw [f5]; decide), i56⟩)
          · have hk : v'.ownBlock = some k := hk
            rcases hvb with h | h
            · exact k0 a k (h ▸ hk)
            · rw [h] at hk; have h1 := (j4 a f5).2.1.2; have h2 := Option.some.inj hk; omega
          · obtain ⟨a1, ⟨a2, a3⟩, a4⟩ := j4 a f5
            exact ⟨a1, ⟨a2, Nat.lt_of_lt_of_le a3 hg.size⟩, a4.far hg (fun k hk e => k0 a k hk e.symm)⟩
          · exact absurd (i56 a) (by rw [f5]; decide)
        · refine stepOkV_at _ rfl ?_
          intro L vs u hv hli hup hJ K hK
          obtain ⟨v0, v1, v2, v3, v4, v5, v6, rfl⟩ := len7 hv
          have hli : L 3 = false := hli
          obtain ⟨hb, p1, p3, m4, j0, j2, j4, j5, j6, i2, i5, i56⟩ := hJ
          have hbx := (x3.below hb).2
          refine mid_val (.agg #[.int .i64 f.k, .int .i64 f.a, .int .i64 f.ap, .int .i64 f.b, .int .i64 f.bp]) u (by kernel_rfl) ?_ (hK.out _ _ ⟨hb, p1, fun _ => rfl, m4, j0, j2, j4, j5, j6, i2, i5, i56⟩)
          simp only [setAll, List.setIfInBounds_toArray, List.set_cons_zero, List.set_cons_succ]
          go_simp
        · refine stepOkV_at _ rfl ?_
          intro L vs u hv hli hup hJ K hK
          obtain ⟨v0, v1, v2, v3, v4, v5, v6, rfl⟩ := len7 hv
          have hli : L 4 = false := hli
          obtain ⟨hb, p1, p3, m4, j0, j2, j4, j5, j6, i2, i5, i56⟩ := hJ
          obtain rfl : v3 = .agg #[.int .i64 f.k, .int .i64 f.a, .int .i64 f.ap, .int .i64 f.b, .int .i64 f.bp] := p3 (updV hup 3 (by kernel_rfl))
          have hb2 : Below u.heap.size u (u.alloc (.cells #[.int .i64 f.k, .int .i64 f.a, .int .i64 f.ap, .int .i64 f.b, .int .i64 f.bp] 32)) := bl_alloc (bl_refl _) _
          exact mid_val (.slice (some ⟨u.heap.size, 0, none⟩) 1 1) (u.alloc (.cells #[.int .i64 f.k, .int .i64 f.a, .int .i64 f.ap, .int .i64 f.b, .int .i64 f.bp] 32)) (by kernel_rfl) (by kernel_rfl) (hK.out _ _ ⟨bl_trans hb hb2, p1, p3, u.heap.size, (fun a b => ⟨(j0 a b).1.below hb2, fun _ k hk => Nat.ne_of_lt ((j0 a b).1.lt k hk).2⟩), (fun a b => ⟨(j2 a b).1.below hb2, fun _ k hk => Nat.ne_of_lt ((j2 a b).1.lt k hk).2⟩), (fun _ _ => ⟨rfl, ⟨hb.size, by simp⟩, Box.new _ _ _⟩), (fun a => (j5 a).below hb2), (fun a => (j6 a).below hb2), i2, i5, i56⟩)
        · refine stepOkV_at _ rfl ?_
          intro L vs u hv hli hup hJ K hK
          obtain ⟨v0, v1, v2, v3, v4, v5, v6, rfl⟩ := len7 hv
          have hli : L 5 = false := hli
          obtain ⟨hb, p1, p3, m4, j0, j2, j4, j5, j6, i2, i5, i56⟩ := hJ
          have e2 := updV hup 2 (by kernel_rfl)
          have e4 := updV hup 4 (by kernel_rfl)
          obtain ⟨o2, k2⟩ := j2 e2 hli
          obtain ⟨a1, ⟨a2, a3⟩, a4⟩ := j4 e4 hli
          obtain rfl : v4 = .slice (some ⟨m4, 0, none⟩) 1 1 := a1
          obtain ⟨v', w', hrun, ho', hg, hvb⟩ := app_flow (f := f) o2 a4 (by omega) hb.size
          have hrow : ∀ k, v2.ownBlock = some k → wr.heap.size ≤ k := fun k hk => (o2.lt k hk).1
          exact mid_val v' w' (by kernel_rfl) (by rw [show execOp (Act.eval ⟨_, _⟩) _ = apSemF v2 (.slice (some ⟨m4, 0, none⟩) 1 1) from by kernel_rfl]; exact ap_runF hrun) (hK.out _ _ ⟨bl_grownF hb hg hrow, p1, p3, m4, (fun _ b => absurd (show L 2 = false from b) (by rw [e2]; decide)), (fun _ b => by cases b), (fun _ b => by cases b), fun _ => ho', (fun a => absurd (i56 a) (by rw [hli]; decide)), i2, (fun _ => e2), fun _ => rfl⟩)
        · refine stepOkV_at _ rfl ?_
          intro L vs u hv hli hup hJ K hK
          obtain ⟨v0, v1, v2, v3, v4, v5, v6, rfl⟩ := len7 hv
          have hli : L 6 = false := hli
          obtain ⟨hb, p1, p3, m4, j0, j2, j4, j5, j6, i2, i5, i56⟩ := hJ
          have e5 := updV hup 5 (by kernel_rfl)
          exact mid_val v5 u (by kernel_rfl) (by kernel_rfl) (hK.out _ _ ⟨hb, p1, p3, m4, j0, j2, j4, j5, (fun _ => j5 e5), i2, i5, fun _ => e5⟩)
      · intro L vs u hal hv hJ
        obtain ⟨v0, v1, v2, v3, v4, v5, v6, rfl⟩ := len7 hv
        obtain ⟨hb, -, -, m4, -, -, -, -, j6, -, -, -⟩ := hJ
        have h6 := j6 (hal 6 (by decide))
        simp only [setAll, List.setIfInBounds_toArray, List.set_cons_zero, List.set_cons_succ]
        go_wp2_with fail
        subst hn3
        go_ret
        exact ⟨⟨v6, rfl, by rw [hput.out]; exact own_mono h6 (by have := hB.size; omega)⟩, bl_trans hB hb⟩
end Go.Proofs.YtcgjpmhjijmplaaGreatDoor
