/- The library's BinarySearchFunc over entries in their order, walked. -/
import Derived.Test.YtcgjpmhjijmplaaGreatDoorJoinH
import Derived.Test.YtcgjpmhjijmplaaGreatDoorModel
namespace Go.Proofs.YtcgjpmhjijmplaaGreatDoor
open Go.ChangeShapes Go.WideShapes Go.ChangeAt Go.RowKit Go.Maps

/-- i is the place of an entry in a list: all ahead of it are less, none behind it is. -/
def SearchAt (es : List En) (d : En) (i : Nat) : Prop := i ≤ es.length ∧ (∀ j y, j < i → es[j]? = some y → lessE y d = true) ∧ ∀ j y, i ≤ j → es[j]? = some y → lessE y d = false
def sameK (y d : En) : Prop := y.k = d.k ∧ y.pr = d.pr ∧ y.pp = d.pp ∧ y.o = d.o
/-- What the search tells: the place, and whether one with the same key stands there. -/
def Searched (es : List En) (d : En) (e : Ending) : Prop := ∃ (i : Nat) (f : Bool), e = .returned (.tuple #[.int .i64 i, .bool f]) ∧ SearchAt es d i ∧ (f = true ↔ ∃ y, es[i]? = some y ∧ sameK y d)
theorem ord_less (y d : En) : decide (eOrdI y.k y.pr y.pp y.o d.k d.pr d.pp d.o < 0) = lessE y d := by
  rw [← eAhead_iff]; rfl
theorem ord_same (y d : En) : eOrdI y.k y.pr y.pp y.o d.k d.pr d.pp d.o = 0 ↔ sameK y d := by
  unfold eOrdI sameK
  simp only [orI, cmpI]
  repeat' split
  all_goals omega
theorem pw_get {es : List En} (h : es.Pairwise (fun e d => lessE e d = true)) {i j : Nat} {x y : En} (hij : i < j) (hx : es[i]? = some x) (hy : es[j]? = some y) : lessE x y = true := by
  have h1 := get_lt hx
  have h2 := get_lt hy
  have hx' : es[i] = x := by simpa [h1] using hx
  have hy' : es[j] = y := by simpa [h2] using hy
  rw [← hx', ← hy']
  exact List.pairwise_iff_getElem.1 h i j h1 h2 hij
set_option maxRecDepth 20000 in
set_option maxHeartbeats 4000000 in
theorem search_some (b2 o : Nat) (es : List En) (ec : Nat) (d : En) (w : World) (hgl : b2 < w.heap.size) (hcs : EnCells w b2 o es) (hl : es.length ≤ 17) (hs : es.Pairwise (fun e d => lessE e d = true)) :
    Calls Tryz.prog 139 #[.slice (some ⟨b2, o, none⟩) es.length ec, .agg #[.int .i64 d.k, .int .i64 d.pr, .int .i64 d.pp, .int .i64 d.o, .int .i64 d.i, .int .i64 d.ip, .int .i64 d.l], .func (.func 140) #[] #[]] w fun e w' => Searched es d e ∧ Below w.heap.size w w' := by
  have hB := bl_alloc (bl_refl w) (.cells #[.int .i64 d.k, .int .i64 d.pr, .int .i64 d.pp, .int .i64 d.o, .int .i64 d.i, .int .i64 d.ip, .int .i64 d.l] 52)
  have x1 := Box.new w #[.int .i64 d.k, .int .i64 d.pr, .int .i64 d.pp, .int .i64 d.o, .int .i64 d.i, .int .i64 d.ip, .int .i64 d.l] 52
  replace hcs := hcs.below hB hgl
  have hgl : b2 < (w.alloc (.cells #[.int .i64 d.k, .int .i64 d.pr, .int .i64 d.pp, .int .i64 d.o, .int .i64 d.i, .int .i64 d.ip, .int .i64 d.l] 52)).heap.size := by simp; omega
  have hs : Hid (es.Pairwise (fun e d => lessE e d = true)) := hs
  go_enter Tryz.func139, Tryz.ntmps139
  go_wp2_with fail
  generalize (w.alloc (.cells #[.int .i64 d.k, .int .i64 d.pr, .int .i64 d.pp, .int .i64 d.o, .int .i64 d.i, .int .i64 d.ip, .int .i64 d.l] 52)) = W0 at *
  go_loopg [9, 10] es.length (fun gh s9 s10 wr => ∃ lo hi : Nat, gh = hi - lo ∧ s9 = .int .i64 lo ∧ s10 = .int .i64 hi ∧ lo ≤ hi ∧ hi ≤ es.length ∧ (∀ j y, j < lo → es[j]? = some y → lessE y d = true) ∧ (∀ j y, hi ≤ j → es[j]? = some y → lessE y d = false) ∧ Below w.heap.size w wr ∧ EnCells wr b2 o es ∧ b2 < wr.heap.size ∧ Box wr w.heap.size #[.int .i64 d.k, .int .i64 d.pr, .int .i64 d.pp, .int .i64 d.o, .int .i64 d.i, .int .i64 d.ip, .int .i64 d.l])
  case atStart => exact ⟨0, es.length, by omega, rfl, rfl, Nat.zero_le _, Nat.le_refl _, fun _ _ h => absurd h (Nat.not_lt_zero _), fun j y h1 h2 => absurd (get_lt h2) (by omega), hB, hcs, hgl, x1⟩
  case round =>
    clear hB hcs hgl x1
    obtain ⟨lo, hi, hgh, rfl, rfl, hlh, hin, H1, H2, hB, hcs, hgl, x1⟩ := hrel
    have H1 : Hid (∀ j y, j < lo → es[j]? = some y → lessE y d = true) := H1
    have H2 : Hid (∀ j y, hi ≤ j → es[j]? = some y → lessE y d = false) := H2
    by_cases hlt : lo < hi
    · have hlt' : (lo : Int) < (hi : Int) := by omega
      obtain ⟨m, hm⟩ : ∃ m : Nat, m = (lo + hi) / 2 := ⟨_, rfl⟩
      have hm0 : Hid (((lo : Int) + (hi : Int)) / 2 = (m : Int)) := by show ((lo : Int) + (hi : Int)) / 2 = (m : Int); omega
      have hma : lo ≤ m := by omega
      have hmb : m < hi := by omega
      clear hm
      have hm1 : (m : Int) < (es.length : Int) := by omega
      obtain ⟨y, hy0⟩ : ∃ y, es[m]? = some y := ⟨es[m]'(by omega), by simp⟩
      have hy : Hid (es[m]? = some y) := hy0
      clear hy0
      by_cases hle : lessE y d = true
      · have hq : decide (eOrdI y.k y.pr y.pp y.o d.k d.pr d.pp d.o < 0) = true := by rw [ord_less]; exact hle
        have hq' : eOrdI y.k y.pr y.pp y.o d.k d.pr d.pp d.o < 0 := of_decide_eq_true hq
        have HL' : Hid (∀ j z, j < m + 1 → es[j]? = some z → lessE z d = true) := by
          show ∀ j z, j < m + 1 → es[j]? = some z → lessE z d = true
          intro j z hj hz
          rcases Nat.lt_or_ge j m with h | h
          · exact lessE_trans (pw_get hs.out h hz hy.out) hle
          · obtain rfl : j = m := by omega
            rw [some_one hz hy.out]; exact hle
        go_upto_region 5 with fail
        rw [hm0.out]
        refine wp_region_held_drew (S := (fun w' => EnCells w' b2 o es ∧ Box w' w.heap.size #[.int .i64 d.k, .int .i64 d.pr, .int .i64 d.pp, .int .i64 d.o, .int .i64 d.i, .int .i64 d.ip, .int .i64 d.l])) (by kernel_rfl) ?_ (fun hHeld => ?_)
        · exact ⟨hcs.below (bl_drew (bl_refl _)) hgl, x1.below (bl_drew (bl_refl _))⟩
        have hlq := bl_drew (bl_refl wr)
        have hB := bl_trans hB hlq
        have hcs := hcs.below hlq hgl
        have x1 := x1.below hlq
        have hgl : b2 < wr.drew.heap.size := hgl
        clear hlq
        generalize wr.drew = Wd at hcs x1 hgl hB hHeld ⊢
        refine takeL 0 24 ?_ ?_ hHeld ?_
        rotate_left
        · (intro w hSw; (try dsimp only at hSw); obtain ⟨hS1, hS3⟩ := hSw; simp only [Box] at hS3; go_simp; try with_reducible rfl)
        simp only [Act.put, puA, puB, puC]
        refine takeL 1 25 ?_ ?_ hHeld ?_
        rotate_left
        · (intro w hSw; (try dsimp only at hSw); obtain ⟨hS1, hS3⟩ := hSw; simp only [Box] at hS3; go_simp; try with_reducible rfl)
        simp only [Act.put, puA, puB, puC]
        refine takeL 2 26 ?_ ?_ hHeld ?_
        rotate_left
        · (intro w hSw; (try dsimp only at hSw); obtain ⟨hS1, hS3⟩ := hSw; simp only [Box] at hS3; go_simp; try with_reducible rfl)
        simp only [Act.put, puA, puB, puC]
        refine takeL 3 27 ?_ ?_ hHeld ?_
        rotate_left
        · (intro w hSw; (try dsimp only at hSw); obtain ⟨hS1, hS3⟩ := hSw; simp only [Box] at hS3; go_simp; try with_reducible rfl)
        simp only [Act.put, puA, puB, puC]
        refine takeL 4 28 ?_ ?_ hHeld ?_
        rotate_left
        · (intro w hSw; (try dsimp only at hSw); obtain ⟨hS1, hS3⟩ := hSw; obtain ⟨c0, c1, c2, c3, c4, c5, c6⟩ := hS1 _ _ hy.out; simp only [Box] at hS3; go_simp; try with_reducible rfl)
        simp only [Act.put, puA, puB, puC]
        refine takeL 5 29 ?_ ?_ hHeld ?_
        rotate_left
        · (intro w hSw; (try dsimp only at hSw); obtain ⟨hS1, hS3⟩ := hSw; simp only [Box] at hS3; go_simp; try with_reducible rfl)
        simp only [Act.put, puA, puB, puC]
        refine wpAnyH_ready (rs := [6]) (by kernel_rfl) (by simp) (AllReadyH.cons rfl (fun K hK => ?_) (AllReadyH.nil))
        refine step_callg 30 140 rfl (by kernel_rfl) (entryOrder_ret y.k y.pr y.pp y.o y.i y.ip y.l d.k d.pr d.pp d.o d.i d.ip d.l _) (by kernel_rfl) ?_
        rintro e w1 ⟨rfl, hb⟩
        refine ⟨_, rfl, ?_⟩
        simp only [Act.put, puA, puB, puC]
        have hB := bl_trans hB hb
        have hcs := hcs.below hb hgl
        have hgl := Nat.lt_of_lt_of_le hgl hb.size
        have x1 := x1.below hb
        clear hb
        refine hK.out _ _ ?_ (fun hHeld1 => ?_)
        · exact ⟨hcs, x1⟩
        clear hK K hHeld
        have hHeld := hHeld1
        clear hHeld1
        refine takeL 7 31 ?_ ?_ hHeld ?_
        rotate_left
        · (intro w hSw; (try dsimp only at hSw); obtain ⟨hS1, hS3⟩ := hSw; simp only [Box] at hS3; go_simp; try with_reducible rfl)
        simp only [Act.put, puA, puB, puC]
        refine wpAnyH_done (by kernel_rfl) ?_ _
        go_wp2_with fail
        go_roundg (hi - (m + 1))
        case measure => omega
        case rel => exact ⟨m + 1, hi, rfl, by go_num, rfl, by omega, hin, HL', H2.out, hB, hcs, hgl, x1⟩
      · have hle' : lessE y d = false := by simpa using hle
        have hq : decide (eOrdI y.k y.pr y.pp y.o d.k d.pr d.pp d.o < 0) = false := by rw [ord_less]; exact hle'
        have hq' : ¬ eOrdI y.k y.pr y.pp y.o d.k d.pr d.pp d.o < 0 := of_decide_eq_false hq
        have HM' : Hid (∀ j z, m ≤ j → es[j]? = some z → lessE z d = false) := by
          show ∀ j z, m ≤ j → es[j]? = some z → lessE z d = false
          intro j z hj hz
          rcases Nat.lt_or_ge m j with h | h
          · cases hx : lessE z d with
            | false => rfl
            | true => exact absurd (lessE_trans (pw_get hs.out h hy.out hz) hx) (by simp [hle'])
          · obtain rfl : j = m := by omega
            rw [some_one hz hy.out]; exact hle'
        go_upto_region 5 with fail
        rw [hm0.out]
        refine wp_region_held_drew (S := (fun w' => EnCells w' b2 o es ∧ Box w' w.heap.size #[.int .i64 d.k, .int .i64 d.pr, .int .i64 d.pp, .int .i64 d.o, .int .i64 d.i, .int .i64 d.ip, .int .i64 d.l])) (by kernel_rfl) ?_ (fun hHeld => ?_)
        · exact ⟨hcs.below (bl_drew (bl_refl _)) hgl, x1.below (bl_drew (bl_refl _))⟩
        have hlq := bl_drew (bl_refl wr)
        have hB := bl_trans hB hlq
        have hcs := hcs.below hlq hgl
        have x1 := x1.below hlq
        have hgl : b2 < wr.drew.heap.size := hgl
        clear hlq
        generalize wr.drew = Wd at hcs x1 hgl hB hHeld ⊢
        refine takeL 0 24 ?_ ?_ hHeld ?_
        rotate_left
        · (intro w hSw; (try dsimp only at hSw); obtain ⟨hS1, hS3⟩ := hSw; simp only [Box] at hS3; go_simp; try with_reducible rfl)
        simp only [Act.put, puA, puB, puC]
        refine takeL 1 25 ?_ ?_ hHeld ?_
        rotate_left
        · (intro w hSw; (try dsimp only at hSw); obtain ⟨hS1, hS3⟩ := hSw; simp only [Box] at hS3; go_simp; try with_reducible rfl)
        simp only [Act.put, puA, puB, puC]
        refine takeL 2 26 ?_ ?_ hHeld ?_
        rotate_left
        · (intro w hSw; (try dsimp only at hSw); obtain ⟨hS1, hS3⟩ := hSw; simp only [Box] at hS3; go_simp; try with_reducible rfl)
        simp only [Act.put, puA, puB, puC]
        refine takeL 3 27 ?_ ?_ hHeld ?_
        rotate_left
        · (intro w hSw; (try dsimp only at hSw); obtain ⟨hS1, hS3⟩ := hSw; simp only [Box] at hS3; go_simp; try with_reducible rfl)
        simp only [Act.put, puA, puB, puC]
        refine takeL 4 28 ?_ ?_ hHeld ?_
        rotate_left
        · (intro w hSw; (try dsimp only at hSw); obtain ⟨hS1, hS3⟩ := hSw; obtain ⟨c0, c1, c2, c3, c4, c5, c6⟩ := hS1 _ _ hy.out; simp only [Box] at hS3; go_simp; try with_reducible rfl)
        simp only [Act.put, puA, puB, puC]
        refine takeL 5 29 ?_ ?_ hHeld ?_
        rotate_left
        · (intro w hSw; (try dsimp only at hSw); obtain ⟨hS1, hS3⟩ := hSw; simp only [Box] at hS3; go_simp; try with_reducible rfl)
        simp only [Act.put, puA, puB, puC]
        refine wpAnyH_ready (rs := [6]) (by kernel_rfl) (by simp) (AllReadyH.cons rfl (fun K hK => ?_) (AllReadyH.nil))
        refine step_callg 30 140 rfl (by kernel_rfl) (entryOrder_ret y.k y.pr y.pp y.o y.i y.ip y.l d.k d.pr d.pp d.o d.i d.ip d.l _) (by kernel_rfl) ?_
        rintro e w1 ⟨rfl, hb⟩
        refine ⟨_, rfl, ?_⟩
        simp only [Act.put, puA, puB, puC]
        have hB := bl_trans hB hb
        have hcs := hcs.below hb hgl
        have hgl := Nat.lt_of_lt_of_le hgl hb.size
        have x1 := x1.below hb
        clear hb
        refine hK.out _ _ ?_ (fun hHeld1 => ?_)
        · exact ⟨hcs, x1⟩
        clear hK K hHeld
        have hHeld := hHeld1
        clear hHeld1
        refine takeL 7 31 ?_ ?_ hHeld ?_
        rotate_left
        · (intro w hSw; (try dsimp only at hSw); obtain ⟨hS1, hS3⟩ := hSw; simp only [Box] at hS3; go_simp; try with_reducible rfl)
        simp only [Act.put, puA, puB, puC]
        refine wpAnyH_done (by kernel_rfl) ?_ _
        go_wp2_with fail
        go_roundg (m - lo)
        case measure => omega
        case rel => exact ⟨lo, m, rfl, rfl, rfl, by omega, by omega, H1.out, HM', hB, hcs, hgl, x1⟩
    · obtain rfl : lo = hi := by omega
      by_cases hn : lo < es.length
      · have hn' : (lo : Int) < (es.length : Int) := by omega
        have hqn : decide ((lo : Int) < (es.length : Int)) = true := by simpa using hn
        obtain ⟨y, hy0⟩ : ∃ y, es[lo]? = some y := ⟨es[lo]'hn, by simp⟩
        have hy : Hid (es[lo]? = some y) := hy0
        clear hy0
        by_cases h0 : eOrdI y.k y.pr y.pp y.o d.k d.pr d.pp d.o = 0
        · have hqe : (eOrdI y.k y.pr y.pp y.o d.k d.pr d.pp d.o == 0) = true := by simpa using h0
          have hsk : Hid (sameK y d) := (ord_same y d).1 h0
          clear h0
          go_upto_region 8 with fail
          refine wp_region_held_drew (S := (fun w' => EnCells w' b2 o es ∧ Box w' w.heap.size #[.int .i64 d.k, .int .i64 d.pr, .int .i64 d.pp, .int .i64 d.o, .int .i64 d.i, .int .i64 d.ip, .int .i64 d.l])) (by kernel_rfl) ?_ (fun hHeld => ?_)
          · exact ⟨hcs.below (bl_drew (bl_refl _)) hgl, x1.below (bl_drew (bl_refl _))⟩
          have hlq := bl_drew (bl_refl wr)
          have hB := bl_trans hB hlq
          have hcs := hcs.below hlq hgl
          have x1 := x1.below hlq
          have hgl : b2 < wr.drew.heap.size := hgl
          clear hlq
          generalize wr.drew = Wd at hcs x1 hgl hB hHeld ⊢
          refine takeL 0 35 ?_ ?_ hHeld ?_
          rotate_left
          · (intro w hSw; (try dsimp only at hSw); obtain ⟨hS1, hS3⟩ := hSw; simp only [Box] at hS3; go_simp; try with_reducible rfl)
          simp only [Act.put, puA, puB, puC]
          refine takeL 1 36 ?_ ?_ hHeld ?_
          rotate_left
          · (intro w hSw; (try dsimp only at hSw); obtain ⟨hS1, hS3⟩ := hSw; simp only [Box] at hS3; go_simp; try with_reducible rfl)
          simp only [Act.put, puA, puB, puC]
          refine takeL 2 37 ?_ ?_ hHeld ?_
          rotate_left
          · (intro w hSw; (try dsimp only at hSw); obtain ⟨hS1, hS3⟩ := hSw; simp only [Box] at hS3; go_simp; try with_reducible rfl)
          simp only [Act.put, puA, puB, puC]
          refine takeL 3 38 ?_ ?_ hHeld ?_
          rotate_left
          · (intro w hSw; (try dsimp only at hSw); obtain ⟨hS1, hS3⟩ := hSw; simp only [Box] at hS3; go_simp; try with_reducible rfl)
          simp only [Act.put, puA, puB, puC]
          refine takeL 4 39 ?_ ?_ hHeld ?_
          rotate_left
          · (intro w hSw; (try dsimp only at hSw); obtain ⟨hS1, hS3⟩ := hSw; simp only [Box] at hS3; go_simp; try with_reducible rfl)
          simp only [Act.put, puA, puB, puC]
          refine takeL 5 40 ?_ ?_ hHeld ?_
          rotate_left
          · (intro w hSw; (try dsimp only at hSw); obtain ⟨hS1, hS3⟩ := hSw; simp only [Box] at hS3; go_simp; try with_reducible rfl)
          simp only [Act.put, puA, puB, puC]
          refine takeL 6 41 ?_ ?_ hHeld ?_
          rotate_left
          · (intro w hSw; (try dsimp only at hSw); obtain ⟨hS1, hS3⟩ := hSw; simp only [Box] at hS3; go_simp; try with_reducible rfl)
          simp only [Act.put, puA, puB, puC]
          refine takeL 7 42 ?_ ?_ hHeld ?_
          rotate_left
          · (intro w hSw; (try dsimp only at hSw); obtain ⟨hS1, hS3⟩ := hSw; simp only [Box] at hS3; go_simp; try with_reducible rfl)
          simp only [Act.put, puA, puB, puC]
          refine takeL 8 43 ?_ ?_ hHeld ?_
          rotate_left
          · (intro w hSw; (try dsimp only at hSw); obtain ⟨hS1, hS3⟩ := hSw; simp only [Box] at hS3; go_simp; try with_reducible rfl)
          simp only [Act.put, puA, puB, puC]
          refine takeL 9 44 ?_ ?_ hHeld ?_
          rotate_left
          · (intro w hSw; (try dsimp only at hSw); obtain ⟨hS1, hS3⟩ := hSw; obtain ⟨c0, c1, c2, c3, c4, c5, c6⟩ := hS1 _ _ hy.out; simp only [Box] at hS3; go_simp; try with_reducible rfl)
          simp only [Act.put, puA, puB, puC]
          refine takeL 10 45 ?_ ?_ hHeld ?_
          rotate_left
          · (intro w hSw; (try dsimp only at hSw); obtain ⟨hS1, hS3⟩ := hSw; simp only [Box] at hS3; go_simp; try with_reducible rfl)
          simp only [Act.put, puA, puB, puC]
          refine wpAnyH_ready (rs := [11]) (by kernel_rfl) (by simp) (AllReadyH.cons rfl (fun K hK => ?_) (AllReadyH.nil))
          refine step_callg 46 140 rfl (by kernel_rfl) (entryOrder_ret y.k y.pr y.pp y.o y.i y.ip y.l d.k d.pr d.pp d.o d.i d.ip d.l _) (by kernel_rfl) ?_
          rintro e w1 ⟨rfl, hb⟩
          refine ⟨_, rfl, ?_⟩
          simp only [Act.put, puA, puB, puC]
          have hB := bl_trans hB hb
          have hcs := hcs.below hb hgl
          have hgl := Nat.lt_of_lt_of_le hgl hb.size
          have x1 := x1.below hb
          clear hb
          refine hK.out _ _ ?_ (fun hHeld1 => ?_)
          · exact ⟨hcs, x1⟩
          clear hK K hHeld
          have hHeld := hHeld1
          clear hHeld1
          refine takeL 12 47 ?_ ?_ hHeld ?_
          rotate_left
          · (intro w hSw; (try dsimp only at hSw); obtain ⟨hS1, hS3⟩ := hSw; simp only [Box] at hS3; go_simp; try with_reducible rfl)
          simp only [Act.put, puA, puB, puC]
          refine takeL 13 48 ?_ ?_ hHeld ?_
          rotate_left
          · (intro w hSw; (try dsimp only at hSw); obtain ⟨hS1, hS3⟩ := hSw; simp only [Box] at hS3; go_simp; try with_reducible rfl)
          simp only [Act.put, puA, puB, puC]
          refine takeL 14 6 ?_ ?_ hHeld ?_
          rotate_left
          · (intro w hSw; (try dsimp only at hSw); obtain ⟨hS1, hS3⟩ := hSw; simp only [Box] at hS3; go_simp; try with_reducible rfl)
          simp only [Act.put, puA, puB, puC]
          refine takeL 15 7 ?_ ?_ hHeld ?_
          rotate_left
          · (intro w hSw; (try dsimp only at hSw); obtain ⟨hS1, hS3⟩ := hSw; simp only [Box] at hS3; go_simp; try with_reducible rfl)
          simp only [Act.put, puA, puB, puC]
          refine wpAnyH_done (by kernel_rfl) ?_ _
          go_wp2_with fail
          exact bodyPost_ret (v := .tuple #[.int .i64 lo, .bool true]) (by simp [results, Tryz.results139, go_sem]) rfl ⟨⟨lo, true, rfl, ⟨hin, H1.out, H2.out⟩, ⟨fun _ => ⟨y, hy.out, hsk.out⟩, fun _ => rfl⟩⟩, hB⟩
        · have hqe : (eOrdI y.k y.pr y.pp y.o d.k d.pr d.pp d.o == 0) = false := by simpa using h0
          have hsk : Hid (¬ sameK y d) := fun h => h0 ((ord_same y d).2 h)
          clear h0
          go_upto_region 8 with fail
          refine wp_region_held_drew (S := (fun w' => EnCells w' b2 o es ∧ Box w' w.heap.size #[.int .i64 d.k, .int .i64 d.pr, .int .i64 d.pp, .int .i64 d.o, .int .i64 d.i, .int .i64 d.ip, .int .i64 d.l])) (by kernel_rfl) ?_ (fun hHeld => ?_)
          · exact ⟨hcs.below (bl_drew (bl_refl _)) hgl, x1.below (bl_drew (bl_refl _))⟩
          have hlq := bl_drew (bl_refl wr)
          have hB := bl_trans hB hlq
          have hcs := hcs.below hlq hgl
          have x1 := x1.below hlq
          have hgl : b2 < wr.drew.heap.size := hgl
          clear hlq
          generalize wr.drew = Wd at hcs x1 hgl hB hHeld ⊢
          refine takeL 0 35 ?_ ?_ hHeld ?_
          rotate_left
          · (intro w hSw; (try dsimp only at hSw); obtain ⟨hS1, hS3⟩ := hSw; simp only [Box] at hS3; go_simp; try with_reducible rfl)
          simp only [Act.put, puA, puB, puC]
          refine takeL 1 36 ?_ ?_ hHeld ?_
          rotate_left
          · (intro w hSw; (try dsimp only at hSw); obtain ⟨hS1, hS3⟩ := hSw; simp only [Box] at hS3; go_simp; try with_reducible rfl)
          simp only [Act.put, puA, puB, puC]
          refine takeL 2 37 ?_ ?_ hHeld ?_
          rotate_left
          · (intro w hSw; (try dsimp only at hSw); obtain ⟨hS1, hS3⟩ := hSw; simp only [Box] at hS3; go_simp; try with_reducible rfl)
          simp only [Act.put, puA, puB, puC]
          refine takeL 3 38 ?_ ?_ hHeld ?_
          rotate_left
          · (intro w hSw; (try dsimp only at hSw); obtain ⟨hS1, hS3⟩ := hSw; simp only [Box] at hS3; go_simp; try with_reducible rfl)
          simp only [Act.put, puA, puB, puC]
          refine takeL 4 39 ?_ ?_ hHeld ?_
          rotate_left
          · (intro w hSw; (try dsimp only at hSw); obtain ⟨hS1, hS3⟩ := hSw; simp only [Box] at hS3; go_simp; try with_reducible rfl)
          simp only [Act.put, puA, puB, puC]
          refine takeL 5 40 ?_ ?_ hHeld ?_
          rotate_left
          · (intro w hSw; (try dsimp only at hSw); obtain ⟨hS1, hS3⟩ := hSw; simp only [Box] at hS3; go_simp; try with_reducible rfl)
          simp only [Act.put, puA, puB, puC]
          refine takeL 6 41 ?_ ?_ hHeld ?_
          rotate_left
          · (intro w hSw; (try dsimp only at hSw); obtain ⟨hS1, hS3⟩ := hSw; simp only [Box] at hS3; go_simp; try with_reducible rfl)
          simp only [Act.put, puA, puB, puC]
          refine takeL 7 42 ?_ ?_ hHeld ?_
          rotate_left
          · (intro w hSw; (try dsimp only at hSw); obtain ⟨hS1, hS3⟩ := hSw; simp only [Box] at hS3; go_simp; try with_reducible rfl)
          simp only [Act.put, puA, puB, puC]
          refine takeL 8 43 ?_ ?_ hHeld ?_
          rotate_left
          · (intro w hSw; (try dsimp only at hSw); obtain ⟨hS1, hS3⟩ := hSw; simp only [Box] at hS3; go_simp; try with_reducible rfl)
          simp only [Act.put, puA, puB, puC]
          refine takeL 9 44 ?_ ?_ hHeld ?_
          rotate_left
          · (intro w hSw; (try dsimp only at hSw); obtain ⟨hS1, hS3⟩ := hSw; obtain ⟨c0, c1, c2, c3, c4, c5, c6⟩ := hS1 _ _ hy.out; simp only [Box] at hS3; go_simp; try with_reducible rfl)
          simp only [Act.put, puA, puB, puC]
          refine takeL 10 45 ?_ ?_ hHeld ?_
          rotate_left
          · (intro w hSw; (try dsimp only at hSw); obtain ⟨hS1, hS3⟩ := hSw; simp only [Box] at hS3; go_simp; try with_reducible rfl)
          simp only [Act.put, puA, puB, puC]
          refine wpAnyH_ready (rs := [11]) (by kernel_rfl) (by simp) (AllReadyH.cons rfl (fun K hK => ?_) (AllReadyH.nil))
          refine step_callg 46 140 rfl (by kernel_rfl) (entryOrder_ret y.k y.pr y.pp y.o y.i y.ip y.l d.k d.pr d.pp d.o d.i d.ip d.l _) (by kernel_rfl) ?_
          rintro e w1 ⟨rfl, hb⟩
          refine ⟨_, rfl, ?_⟩
          simp only [Act.put, puA, puB, puC]
          have hB := bl_trans hB hb
          have hcs := hcs.below hb hgl
          have hgl := Nat.lt_of_lt_of_le hgl hb.size
          have x1 := x1.below hb
          clear hb
          refine hK.out _ _ ?_ (fun hHeld1 => ?_)
          · exact ⟨hcs, x1⟩
          clear hK K hHeld
          have hHeld := hHeld1
          clear hHeld1
          refine takeL 12 47 ?_ ?_ hHeld ?_
          rotate_left
          · (intro w hSw; (try dsimp only at hSw); obtain ⟨hS1, hS3⟩ := hSw; simp only [Box] at hS3; go_simp; try with_reducible rfl)
          simp only [Act.put, puA, puB, puC]
          refine takeL 13 48 ?_ ?_ hHeld ?_
          rotate_left
          · (intro w hSw; (try dsimp only at hSw); obtain ⟨hS1, hS3⟩ := hSw; simp only [Box] at hS3; go_simp; try with_reducible rfl)
          simp only [Act.put, puA, puB, puC]
          refine takeL 14 6 ?_ ?_ hHeld ?_
          rotate_left
          · (intro w hSw; (try dsimp only at hSw); obtain ⟨hS1, hS3⟩ := hSw; simp only [Box] at hS3; go_simp; try with_reducible rfl)
          simp only [Act.put, puA, puB, puC]
          refine takeL 15 7 ?_ ?_ hHeld ?_
          rotate_left
          · (intro w hSw; (try dsimp only at hSw); obtain ⟨hS1, hS3⟩ := hSw; simp only [Box] at hS3; go_simp; try with_reducible rfl)
          simp only [Act.put, puA, puB, puC]
          refine wpAnyH_done (by kernel_rfl) ?_ _
          go_wp2_with fail
          exact bodyPost_ret (v := .tuple #[.int .i64 lo, .bool false]) (by simp [results, Tryz.results139, go_sem]) rfl ⟨⟨lo, false, rfl, ⟨hin, H1.out, H2.out⟩, ⟨fun h => (by cases h), fun ⟨z, hz, hk⟩ => absurd (some_one hz hy.out ▸ hk) hsk.out⟩⟩, hB⟩
      · have hn' : ¬ (lo : Int) < (es.length : Int) := by omega
        have hqn : decide ((lo : Int) < (es.length : Int)) = false := by simpa using hn
        go_upto_region 8 with fail
        refine wp_region_held_drew (S := (fun w' => EnCells w' b2 o es ∧ Box w' w.heap.size #[.int .i64 d.k, .int .i64 d.pr, .int .i64 d.pp, .int .i64 d.o, .int .i64 d.i, .int .i64 d.ip, .int .i64 d.l])) (by kernel_rfl) ?_ (fun hHeld => ?_)
        · exact ⟨hcs.below (bl_drew (bl_refl _)) hgl, x1.below (bl_drew (bl_refl _))⟩
        have hlq := bl_drew (bl_refl wr)
        have hB := bl_trans hB hlq
        have hcs := hcs.below hlq hgl
        have x1 := x1.below hlq
        have hgl : b2 < wr.drew.heap.size := hgl
        clear hlq
        generalize wr.drew = Wd at hcs x1 hgl hB hHeld ⊢
        refine takeL 0 35 ?_ ?_ hHeld ?_
        rotate_left
        · (intro w hSw; (try dsimp only at hSw); obtain ⟨hS1, hS3⟩ := hSw; simp only [Box] at hS3; go_simp; try with_reducible rfl)
        simp only [Act.put, puA, puB, puC]
        refine takeL 1 36 ?_ ?_ hHeld ?_
        rotate_left
        · (intro w hSw; (try dsimp only at hSw); obtain ⟨hS1, hS3⟩ := hSw; simp only [Box] at hS3; go_simp; try with_reducible rfl)
        simp only [Act.put, puA, puB, puC]
        refine takeL 2 37 ?_ ?_ hHeld ?_
        rotate_left
        · (intro w hSw; (try dsimp only at hSw); obtain ⟨hS1, hS3⟩ := hSw; simp only [Box] at hS3; go_simp; try with_reducible rfl)
        simp only [Act.put, puA, puB, puC]
        refine takeL 3 38 ?_ ?_ hHeld ?_
        rotate_left
        · (intro w hSw; (try dsimp only at hSw); obtain ⟨hS1, hS3⟩ := hSw; simp only [Box] at hS3; go_simp; try with_reducible rfl)
        simp only [Act.put, puA, puB, puC]
        refine takeL 4 39 ?_ ?_ hHeld ?_
        rotate_left
        · (intro w hSw; (try dsimp only at hSw); obtain ⟨hS1, hS3⟩ := hSw; simp only [Box] at hS3; go_simp; try with_reducible rfl)
        simp only [Act.put, puA, puB, puC]
        refine takeN 5 40 hHeld ?_
        simp only [Act.put, puA, puB, puC]
        refine takeN 6 41 hHeld ?_
        simp only [Act.put, puA, puB, puC]
        refine takeN 7 42 hHeld ?_
        simp only [Act.put, puA, puB, puC]
        refine takeN 8 43 hHeld ?_
        simp only [Act.put, puA, puB, puC]
        refine takeN 9 44 hHeld ?_
        simp only [Act.put, puA, puB, puC]
        refine takeN 10 45 hHeld ?_
        simp only [Act.put, puA, puB, puC]
        refine takeN 11 46 hHeld ?_
        simp only [Act.put, puA, puB, puC]
        refine takeN 12 47 hHeld ?_
        simp only [Act.put, puA, puB, puC]
        refine takeL 13 48 ?_ ?_ hHeld ?_
        rotate_left
        · (intro w hSw; (try dsimp only at hSw); obtain ⟨hS1, hS3⟩ := hSw; simp only [Box] at hS3; go_simp; try with_reducible rfl)
        simp only [Act.put, puA, puB, puC]
        refine takeL 14 6 ?_ ?_ hHeld ?_
        rotate_left
        · (intro w hSw; (try dsimp only at hSw); obtain ⟨hS1, hS3⟩ := hSw; simp only [Box] at hS3; go_simp; try with_reducible rfl)
        simp only [Act.put, puA, puB, puC]
        refine takeL 15 7 ?_ ?_ hHeld ?_
        rotate_left
        · (intro w hSw; (try dsimp only at hSw); obtain ⟨hS1, hS3⟩ := hSw; simp only [Box] at hS3; go_simp; try with_reducible rfl)
        simp only [Act.put, puA, puB, puC]
        refine wpAnyH_done (by kernel_rfl) ?_ _
        go_wp2_with fail
        exact bodyPost_ret (v := .tuple #[.int .i64 lo, .bool false]) (by simp [results, Tryz.results139, go_sem]) rfl ⟨⟨lo, false, rfl, ⟨hin, H1.out, H2.out⟩, ⟨fun h => (by cases h), fun ⟨z, hz, _⟩ => absurd (get_lt hz) hn⟩⟩, hB⟩
set_option maxRecDepth 20000 in
set_option maxHeartbeats 4000000 in
theorem search_nil (va : Option Addr) (vc : Nat) (d : En) (w : World) :
    Calls Tryz.prog 139 #[.slice va 0 vc, .agg #[.int .i64 d.k, .int .i64 d.pr, .int .i64 d.pp, .int .i64 d.o, .int .i64 d.i, .int .i64 d.ip, .int .i64 d.l], .func (.func 140) #[] #[]] w fun e w' => Searched [] d e ∧ Below w.heap.size w w' := by
  have hB := bl_alloc (bl_refl w) (.cells #[.int .i64 d.k, .int .i64 d.pr, .int .i64 d.pp, .int .i64 d.o, .int .i64 d.i, .int .i64 d.ip, .int .i64 d.l] 52)
  go_enter Tryz.func139, Tryz.ntmps139
  go_wp2_with fail
  generalize (w.alloc (.cells #[.int .i64 d.k, .int .i64 d.pr, .int .i64 d.pp, .int .i64 d.o, .int .i64 d.i, .int .i64 d.ip, .int .i64 d.l] 52)) = W0 at *
  go_loopg [9, 10] 0 (fun _ s9 s10 wr => s9 = .int .i64 0 ∧ s10 = .int .i64 0 ∧ Below w.heap.size w wr)
  case atStart => exact ⟨rfl, rfl, hB⟩
  case round =>
    clear hB
    obtain ⟨rfl, rfl, hB⟩ := hrel
    go_wp2_with fail
    go_quiet (fail)
    go_wp2_with fail
    exact bodyPost_ret (v := .tuple #[.int .i64 0, .bool false]) (by simp [results, Tryz.results139, go_sem]) rfl ⟨⟨0, false, rfl, ⟨Nat.zero_le _, fun _ _ h => absurd h (Nat.not_lt_zero _), fun _ _ _ h => by simp at h⟩, ⟨fun h => (by cases h), fun ⟨_, h, _⟩ => by simp at h⟩⟩, bl_draws hB _⟩
end Go.Proofs.YtcgjpmhjijmplaaGreatDoor
