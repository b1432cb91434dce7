/- The specification's l5PutDoor, walked. -/
import Derived.Test.YtcgjpmhjijmplaaGreatDoorJoinE
namespace Go.Proofs.YtcgjpmhjijmplaaGreatDoor
open Go.ChangeShapes Go.WideShapes Go.ChangeAt Go.RowKit

theorem tail_takes (b o : Nat) (ds : List Dr) (dc n : Nat) (hn : n ≤ ds.length) (hdc : ds.length ≤ dc) : ∃ A : Addr, (if dc = n then some (⟨b, o, none⟩ : Addr) else some ⟨b, o + n * 4, none⟩) = some A ∧ ∀ (W : World) (c : Nat), DrCells W b o ds → Takes W 4 (.slice (some A) (ds.length - n) c) (ds.length - n) (flatD (ds.drop n)) := by
  by_cases h : dc = n
  · refine ⟨⟨b, o, none⟩, by simp [h], fun W c hc => ?_⟩
    have h0 : ds.length - n = 0 := by omega
    have h1 : ds.drop n = [] := List.drop_eq_nil_of_le (by omega)
    rw [h0, h1]
    exact Or.inr ⟨rfl, by simp [flatD], ⟨b, o, none⟩, c, rfl, by simp [flatD]⟩
  · exact ⟨⟨b, o + n * 4, none⟩, by simp [h], fun W c hc => takes_doors hc n (ds.length - n) c (ds.drop n) (fun i _ => by simp) (by simp)⟩

set_option maxHeartbeats 4000000 in
theorem putDoor_some (b o : Nat) (ds : List Dr) (dc : Nat) (d : Dr) (w : World) (hlt : b < w.heap.size) (hc : DrCells w b o ds) (hl : ds.length ≤ 100) (hdc : ds.length ≤ dc) :
    Calls Tryz.prog 89 #[.slice (some ⟨b, o, none⟩) ds.length dc, .agg #[.int .i64 d.k, .int .i64 d.o, .int .i64 d.i, .int .i64 d.p]] w fun e w' => ∃ g cap k, e = .returned (.slice (some ⟨g, 0, none⟩) (ds.length + 1) cap) ∧ w.heap.size ≤ g ∧ g < w'.heap.size ∧ ds.length + 1 ≤ cap ∧ cap ≤ maxLen ∧ DrCells w' g 0 (putD k ds d) ∧ Below w.heap.size w w' := by
  obtain ⟨i0, hi0, hz0, hz1, hz2⟩ := info_parts infoDr
  go_enter Tryz.func89, Tryz.ntmps89
  go_wp2_with fail
  go_loopg [5] ds.length (fun g i wr => ∃ n : Nat, g = ds.length - n ∧ n ≤ ds.length ∧ i = .int .i64 n ∧ Below w.heap.size w wr ∧ Box wr w.heap.size #[.int .i64 d.k, .int .i64 d.o, .int .i64 d.i, .int .i64 d.p])
  case atStart => exact ⟨0, by omega, by omega, rfl, bl_alloc (bl_refl _) _, Box.new _ _ _⟩
  case round =>
    obtain ⟨n, hg, hn, rfl, hB, hX⟩ := hrel
    obtain ⟨hsz, hbox⟩ := id hX
    have hn64 : (n : Int) ≤ 100 := by omega
    have hndc : n ≤ dc := by omega
    obtain ⟨A, hA, hT⟩ := tail_takes b o ds dc n hn hdc
    have hT : Hid _ := hT
    by_cases hlt2 : n < ds.length
    · obtain ⟨e, he⟩ : ∃ e, ds[n]? = some e := ⟨ds[n], by simp [hlt2]⟩
      obtain ⟨c0, c1, c2, c3⟩ := hc.below hB hlt n e he
      have hq1 : decide ((n : Int) < (ds.length : Int)) = true := by simpa using hlt2
      by_cases h1 : e.k < d.k
      · have hq2 : decide (e.k < d.k) = true := by simpa using h1
        go_wp2_with fail
        go_quiet (fail)
        go_wp2_with fail
        go_roundg (ds.length - (n + 1))
        case measure => omega
        case rel => exact ⟨n + 1, rfl, by omega, by go_num, bl_draws hB _, hX.below (bl_draws (bl_refl _) _)⟩
      · have hq2 : decide (e.k < d.k) = false := by simpa using h1
        by_cases h2 : e.k = d.k
        · have hq3 : (e.k == d.k) = true := by simpa using h2
          by_cases h3 : e.o < d.o
          · have hq4 : decide (e.o < d.o) = true := by simpa using h3
            go_wp2_with fail
            go_quiet (fail)
            go_wp2_with fail
            go_roundg (ds.length - (n + 1))
            case measure => omega
            case rel => exact ⟨n + 1, rfl, by omega, by go_num, bl_draws hB _, hX.below (bl_draws (bl_refl _) _)⟩
          · have hq4 : decide (e.o < d.o) = false := by simpa using h3
            go_wp2_with fail
            go_quiet (fail)
            go_wp2_with fail
            refine wp_region_held_drew (S := (fun w' => Box w' w.heap.size #[.int .i64 d.k, .int .i64 d.o, .int .i64 d.i, .int .i64 d.p])) (by kernel_rfl) ?_ (fun hHeld => ?_)
            · exact Box.below hX (bl_drew (bl_draws (bl_refl _) _))
            have hB := bl_trans hB (bl_drew (bl_draws (bl_refl wr) nq))
            clear hX hbox hsz
            generalize (wr.drewN nq).drew = W0 at hHeld hB ⊢
            refine takeL 1 43 ?_ ?_ hHeld ?_
            rotate_left
            · (intro w hSw; (try dsimp only at hSw); simp only [Box] at hSw; go_simp; try with_reducible rfl)
            simp only [Act.put, puA, puB, puC]
            refine takeL 2 44 ?_ ?_ hHeld ?_
            rotate_left
            · (intro w hSw; (try dsimp only at hSw); simp only [Box] at hSw; go_simp; try with_reducible rfl)
            simp only [Act.put, puA, puB, puC]
            refine takeL 3 45 ?_ ?_ hHeld ?_
            rotate_left
            · (intro w hSw; (try dsimp only at hSw); simp only [Box] at hSw; go_simp; try with_reducible rfl)
            simp only [Act.put, puA, puB, puC]
            refine takeL 5 47 ?_ ?_ hHeld ?_
            rotate_left
            · (intro w hSw; (try dsimp only at hSw); simp only [Box] at hSw; go_simp; try with_reducible rfl)
            simp only [Act.put, puA, puB, puC]
            refine takeL 8 50 ?_ ?_ hHeld ?_
            rotate_left
            · (intro w hSw; (try dsimp only at hSw); simp only [Box] at hSw; go_simp; try with_reducible rfl)
            simp only [Act.put, puA, puB, puC]
            refine takeL 9 51 ?_ ?_ hHeld ?_
            rotate_left
            · (intro w hSw; (try dsimp only at hSw); simp only [Box] at hSw; go_simp; try with_reducible rfl)
            simp only [Act.put, puA, puB, puC]
            refine takeL 10 52 ?_ ?_ hHeld ?_
            rotate_left
            · (intro w hSw; (try dsimp only at hSw); simp only [Box] at hSw; go_simp; try with_reducible rfl)
            simp only [Act.put, puA, puB, puC]
            refine wpAnyH_ready (rs := [0, 6]) (by kernel_rfl) (by simp) (AllReadyH.cons rfl (fun K hK => ?_) (AllReadyH.cons rfl (fun K hK => ?_) (AllReadyH.nil)))
            · skip
              go_simp
              have hHeld0 := hHeld
              refine hK.out _ _ ?_ (fun hHeld1 => ?_)
              · exact Box.below hHeld (bl_alloc (bl_refl _) _)
              clear hK K hHeld
              have hHeld := hHeld1
              clear hHeld1
              refine wpAnyH_own0 (base := w.heap.size + 1) 4 hHeld0.1 (fun W hBl own => ?_)
              have hB := bl_trans hB hBl
              have hHeld := Box.below hHeld0 hBl
              clear hBl hHeld0
              refine wpAnyH_ready (rs := [4, 6]) (by kernel_rfl) (by simp) (AllReadyH.cons rfl (fun K hK => ?_) (AllReadyH.cons rfl (fun K hK => ?_) (AllReadyH.nil)))
              · skip
                refine step_append_any _ 46 rfl rfl _ _ 23 rfl (w.heap.size + 1) 85 i0 (.agg #[.int .i64 0, .int .i64 0, .int .i64 0, .int .i64 0]) 4 32 Tryz.underlying23 hi0 hz0 hz1 hz2 rfl (by decide) _ _ _ rfl own _ _ _ rfl (takes_doors (hc.below hB hlt) 0 n _ (ds.take n) (fun i hi => by simp [hi]) (by simp; omega)) (by unfold maxLen; omega) (by omega) (by have := hB.size; have := hHeld.1; omega) ?_
                intro v' w2 own2 hg2
                simp only [Act.put, puA, puB, puC]
                refine hK.out _ _ ?_ (fun hHeld1 => ?_)
                · exact Box.far hHeld hg2 (fun k hk => by have := (own.lt _ hk).1; omega)
                clear hK K hHeld
                have hHeld := hHeld1
                clear hHeld1
                have hB := Below.grown hB hg2 hB.size (fun k hk => by have := (own.lt _ hk).1; omega)
                clear hg2 own
                have own := own2
                clear own2
                refine wpAnyH_ready (rs := [6]) (by kernel_rfl) (by simp) (AllReadyH.cons rfl (fun K hK => ?_) (AllReadyH.nil))
                go_simp
                have hHeld0 := hHeld
                refine hK.out _ _ ?_ (fun hHeld1 => ?_)
                · exact Box.below hHeld (bl_alloc (bl_refl _) _)
                clear hK K hHeld
                have hHeld := hHeld1
                clear hHeld1
                refine wpAnyH_new (fun W hBl bx => ?_)
                have own := ownsRow_bl own hBl
                have hB := bl_trans hB hBl
                have hHeld := Box.below hHeld0 hBl
                clear hBl hHeld0
                refine wpAnyH_ready (rs := [7]) (by kernel_rfl) (by simp) (AllReadyH.cons rfl (fun K hK => ?_) (AllReadyH.nil))
                refine step_append_any _ 49 rfl rfl _ _ 23 rfl (w.heap.size + 1) 85 i0 (.agg #[.int .i64 0, .int .i64 0, .int .i64 0, .int .i64 0]) 4 32 Tryz.underlying23 hi0 hz0 hz1 hz2 rfl (by decide) _ _ _ rfl own _ _ _ rfl (takes_box bx) (by unfold maxLen; omega) (by omega) (by have := hB.size; have := hHeld.1; omega) ?_
                intro v' w2 own2 hg2
                simp only [Act.put, puA, puB, puC]
                refine hK.out _ _ ?_ (fun hHeld1 => ?_)
                · exact Box.far hHeld hg2 (fun k hk => by have := (own.lt _ hk).1; omega)
                clear hK K hHeld
                have hHeld := hHeld1
                clear hHeld1
                have hB := Below.grown hB hg2 hB.size (fun k hk => by have := (own.lt _ hk).1; omega)
                clear hg2 own
                have own := own2
                clear own2
                refine wpAnyH_ready (rs := [11]) (by kernel_rfl) (by simp) (AllReadyH.cons rfl (fun K hK => ?_) (AllReadyH.nil))
                refine step_append_any _ 53 rfl rfl _ _ 23 rfl (w.heap.size + 1) 85 i0 (.agg #[.int .i64 0, .int .i64 0, .int .i64 0, .int .i64 0]) 4 32 Tryz.underlying23 hi0 hz0 hz1 hz2 rfl (by decide) _ _ _ rfl own _ _ _ rfl (hT.out _ _ (hc.below hB hlt)) (by unfold maxLen; omega) (by omega) (by have := hB.size; have := hHeld.1; omega) ?_
                intro v' w2 own2 hg2
                simp only [Act.put, puA, puB, puC]
                refine hK.out _ _ ?_ (fun hHeld1 => ?_)
                · exact Box.far hHeld hg2 (fun k hk => by have := (own.lt _ hk).1; omega)
                clear hK K hHeld
                have hHeld := hHeld1
                clear hHeld1
                have hB := Below.grown hB hg2 hB.size (fun k hk => by have := (own.lt _ hk).1; omega)
                clear hg2 own
                have own := own2
                clear own2
                refine takeL 12 4 ?_ ?_ hHeld ?_
                rotate_left
                · (intro w hSw; (try dsimp only at hSw); simp only [Box] at hSw; go_simp; try with_reducible rfl)
                simp only [Act.put, puA, puB, puC]
                refine wpAnyH_done (by kernel_rfl) ?_ _
                obtain ⟨g, cap, rfl, hg0, hg1, hg2, hg3, hg4⟩ := own_put hn own
                have hg3 : Hid (cap ≤ maxLen) := hg3
                have hg4 : Hid (DrCells _ g 0 (putD n ds d)) := hg4
                clear own hA hT
                go_wp2
                go_ret
                exact ⟨g, cap, n, rfl, by omega, hg1, hg2, hg3.out, hg4.out, hB⟩
              · skip
                go_simp
                have hHeld0 := hHeld
                refine hK.out _ _ ?_ (fun hHeld1 => ?_)
                · exact Box.below hHeld (bl_alloc (bl_refl _) _)
                clear hK K hHeld
                have hHeld := hHeld1
                clear hHeld1
                refine wpAnyH_new (fun W hBl bx => ?_)
                have hfar := fun k hk => Nat.ne_of_gt (own.lt k hk).2
                have own := ownsRow_bl own hBl
                have hB := bl_trans hB hBl
                have hHeld := Box.below hHeld0 hBl
                clear hBl hHeld0
                refine wpAnyH_ready (rs := [4]) (by kernel_rfl) (by simp) (AllReadyH.cons rfl (fun K hK => ?_) (AllReadyH.nil))
                refine step_append_any _ 46 rfl rfl _ _ 23 rfl (w.heap.size + 1) 85 i0 (.agg #[.int .i64 0, .int .i64 0, .int .i64 0, .int .i64 0]) 4 32 Tryz.underlying23 hi0 hz0 hz1 hz2 rfl (by decide) _ _ _ rfl own _ _ _ rfl (takes_doors (hc.below hB hlt) 0 n _ (ds.take n) (fun i hi => by simp [hi]) (by simp; omega)) (by unfold maxLen; omega) (by omega) (by have := hB.size; have := hHeld.1; omega) ?_
                intro v' w2 own2 hg2
                simp only [Act.put, puA, puB, puC]
                refine hK.out _ _ ?_ (fun hHeld1 => ?_)
                · exact Box.far hHeld hg2 (fun k hk => by have := (own.lt _ hk).1; omega)
                clear hK K hHeld
                have hHeld := hHeld1
                clear hHeld1
                have hB := Below.grown hB hg2 hB.size (fun k hk => by have := (own.lt _ hk).1; omega)
                have bx := Box.far bx hg2 (fun k hk => hfar k hk)
                clear hg2 own
                have own := own2
                clear own2
                refine wpAnyH_ready (rs := [7]) (by kernel_rfl) (by simp) (AllReadyH.cons rfl (fun K hK => ?_) (AllReadyH.nil))
                refine step_append_any _ 49 rfl rfl _ _ 23 rfl (w.heap.size + 1) 85 i0 (.agg #[.int .i64 0, .int .i64 0, .int .i64 0, .int .i64 0]) 4 32 Tryz.underlying23 hi0 hz0 hz1 hz2 rfl (by decide) _ _ _ rfl own _ _ _ rfl (takes_box bx) (by unfold maxLen; omega) (by omega) (by have := hB.size; have := hHeld.1; omega) ?_
                intro v' w2 own2 hg2
                simp only [Act.put, puA, puB, puC]
                refine hK.out _ _ ?_ (fun hHeld1 => ?_)
                · exact Box.far hHeld hg2 (fun k hk => by have := (own.lt _ hk).1; omega)
                clear hK K hHeld
                have hHeld := hHeld1
                clear hHeld1
                have hB := Below.grown hB hg2 hB.size (fun k hk => by have := (own.lt _ hk).1; omega)
                clear hg2 own
                have own := own2
                clear own2
                refine wpAnyH_ready (rs := [11]) (by kernel_rfl) (by simp) (AllReadyH.cons rfl (fun K hK => ?_) (AllReadyH.nil))
                refine step_append_any _ 53 rfl rfl _ _ 23 rfl (w.heap.size + 1) 85 i0 (.agg #[.int .i64 0, .int .i64 0, .int .i64 0, .int .i64 0]) 4 32 Tryz.underlying23 hi0 hz0 hz1 hz2 rfl (by decide) _ _ _ rfl own _ _ _ rfl (hT.out _ _ (hc.below hB hlt)) (by unfold maxLen; omega) (by omega) (by have := hB.size; have := hHeld.1; omega) ?_
                intro v' w2 own2 hg2
                simp only [Act.put, puA, puB, puC]
                refine hK.out _ _ ?_ (fun hHeld1 => ?_)
                · exact Box.far hHeld hg2 (fun k hk => by have := (own.lt _ hk).1; omega)
                clear hK K hHeld
                have hHeld := hHeld1
                clear hHeld1
                have hB := Below.grown hB hg2 hB.size (fun k hk => by have := (own.lt _ hk).1; omega)
                clear hg2 own
                have own := own2
                clear own2
                refine takeL 12 4 ?_ ?_ hHeld ?_
                rotate_left
                · (intro w hSw; (try dsimp only at hSw); simp only [Box] at hSw; go_simp; try with_reducible rfl)
                simp only [Act.put, puA, puB, puC]
                refine wpAnyH_done (by kernel_rfl) ?_ _
                obtain ⟨g, cap, rfl, hg0, hg1, hg2, hg3, hg4⟩ := own_put hn own
                have hg3 : Hid (cap ≤ maxLen) := hg3
                have hg4 : Hid (DrCells _ g 0 (putD n ds d)) := hg4
                clear own hA hT
                go_wp2
                go_ret
                exact ⟨g, cap, n, rfl, by omega, hg1, hg2, hg3.out, hg4.out, hB⟩
            · skip
              go_simp
              have hHeld0 := hHeld
              refine hK.out _ _ ?_ (fun hHeld1 => ?_)
              · exact Box.below hHeld (bl_alloc (bl_refl _) _)
              clear hK K hHeld
              have hHeld := hHeld1
              clear hHeld1
              refine wpAnyH_new (fun W hBl bx => ?_)
              have hB := bl_trans hB hBl
              have hHeld := Box.below hHeld0 hBl
              clear hBl hHeld0
              refine wpAnyH_ready (rs := [0]) (by kernel_rfl) (by simp) (AllReadyH.cons rfl (fun K hK => ?_) (AllReadyH.nil))
              go_simp
              have hHeld0 := hHeld
              refine hK.out _ _ ?_ (fun hHeld1 => ?_)
              · exact Box.below hHeld (bl_alloc (bl_refl _) _)
              clear hK K hHeld
              have hHeld := hHeld1
              clear hHeld1
              refine wpAnyH_own0 (base := w.heap.size + 1) 4 hHeld0.1 (fun W hBl own => ?_)
              have hfar := far0 bx
              have bx := Box.below bx hBl
              have hB := bl_trans hB hBl
              have hHeld := Box.below hHeld0 hBl
              clear hBl hHeld0
              refine wpAnyH_ready (rs := [4]) (by kernel_rfl) (by simp) (AllReadyH.cons rfl (fun K hK => ?_) (AllReadyH.nil))
              refine step_append_any _ 46 rfl rfl _ _ 23 rfl (w.heap.size + 1) 85 i0 (.agg #[.int .i64 0, .int .i64 0, .int .i64 0, .int .i64 0]) 4 32 Tryz.underlying23 hi0 hz0 hz1 hz2 rfl (by decide) _ _ _ rfl own _ _ _ rfl (takes_doors (hc.below hB hlt) 0 n _ (ds.take n) (fun i hi => by simp [hi]) (by simp; omega)) (by unfold maxLen; omega) (by omega) (by have := hB.size; have := hHeld.1; omega) ?_
              intro v' w2 own2 hg2
              simp only [Act.put, puA, puB, puC]
              refine hK.out _ _ ?_ (fun hHeld1 => ?_)
              · exact Box.far hHeld hg2 (fun k hk => by have := (own.lt _ hk).1; omega)
              clear hK K hHeld
              have hHeld := hHeld1
              clear hHeld1
              have hB := Below.grown hB hg2 hB.size (fun k hk => by have := (own.lt _ hk).1; omega)
              have bx := Box.far bx hg2 (fun k hk => hfar k hk)
              clear hg2 own
              have own := own2
              clear own2
              refine wpAnyH_ready (rs := [7]) (by kernel_rfl) (by simp) (AllReadyH.cons rfl (fun K hK => ?_) (AllReadyH.nil))
              refine step_append_any _ 49 rfl rfl _ _ 23 rfl (w.heap.size + 1) 85 i0 (.agg #[.int .i64 0, .int .i64 0, .int .i64 0, .int .i64 0]) 4 32 Tryz.underlying23 hi0 hz0 hz1 hz2 rfl (by decide) _ _ _ rfl own _ _ _ rfl (takes_box bx) (by unfold maxLen; omega) (by omega) (by have := hB.size; have := hHeld.1; omega) ?_
              intro v' w2 own2 hg2
              simp only [Act.put, puA, puB, puC]
              refine hK.out _ _ ?_ (fun hHeld1 => ?_)
              · exact Box.far hHeld hg2 (fun k hk => by have := (own.lt _ hk).1; omega)
              clear hK K hHeld
              have hHeld := hHeld1
              clear hHeld1
              have hB := Below.grown hB hg2 hB.size (fun k hk => by have := (own.lt _ hk).1; omega)
              clear hg2 own
              have own := own2
              clear own2
              refine wpAnyH_ready (rs := [11]) (by kernel_rfl) (by simp) (AllReadyH.cons rfl (fun K hK => ?_) (AllReadyH.nil))
              refine step_append_any _ 53 rfl rfl _ _ 23 rfl (w.heap.size + 1) 85 i0 (.agg #[.int .i64 0, .int .i64 0, .int .i64 0, .int .i64 0]) 4 32 Tryz.underlying23 hi0 hz0 hz1 hz2 rfl (by decide) _ _ _ rfl own _ _ _ rfl (hT.out _ _ (hc.below hB hlt)) (by unfold maxLen; omega) (by omega) (by have := hB.size; have := hHeld.1; omega) ?_
              intro v' w2 own2 hg2
              simp only [Act.put, puA, puB, puC]
              refine hK.out _ _ ?_ (fun hHeld1 => ?_)
              · exact Box.far hHeld hg2 (fun k hk => by have := (own.lt _ hk).1; omega)
              clear hK K hHeld
              have hHeld := hHeld1
              clear hHeld1
              have hB := Below.grown hB hg2 hB.size (fun k hk => by have := (own.lt _ hk).1; omega)
              clear hg2 own
              have own := own2
              clear own2
              refine takeL 12 4 ?_ ?_ hHeld ?_
              rotate_left
              · (intro w hSw; (try dsimp only at hSw); simp only [Box] at hSw; go_simp; try with_reducible rfl)
              simp only [Act.put, puA, puB, puC]
              refine wpAnyH_done (by kernel_rfl) ?_ _
              obtain ⟨g, cap, rfl, hg0, hg1, hg2, hg3, hg4⟩ := own_put hn own
              have hg3 : Hid (cap ≤ maxLen) := hg3
              have hg4 : Hid (DrCells _ g 0 (putD n ds d)) := hg4
              clear own hA hT
              go_wp2
              go_ret
              exact ⟨g, cap, n, rfl, by omega, hg1, hg2, hg3.out, hg4.out, hB⟩
        · have hq3 : (e.k == d.k) = false := by simpa using h2
          go_wp2_with fail
          go_quiet (fail)
          go_wp2_with fail
          refine wp_region_held_drew (S := (fun w' => Box w' w.heap.size #[.int .i64 d.k, .int .i64 d.o, .int .i64 d.i, .int .i64 d.p])) (by kernel_rfl) ?_ (fun hHeld => ?_)
          · exact Box.below hX (bl_drew (bl_draws (bl_refl _) _))
          have hB := bl_trans hB (bl_drew (bl_draws (bl_refl wr) nq))
          clear hX hbox hsz
          generalize (wr.drewN nq).drew = W0 at hHeld hB ⊢
          refine takeL 1 43 ?_ ?_ hHeld ?_
          rotate_left
          · (intro w hSw; (try dsimp only at hSw); simp only [Box] at hSw; go_simp; try with_reducible rfl)
          simp only [Act.put, puA, puB, puC]
          refine takeL 2 44 ?_ ?_ hHeld ?_
          rotate_left
          · (intro w hSw; (try dsimp only at hSw); simp only [Box] at hSw; go_simp; try with_reducible rfl)
          simp only [Act.put, puA, puB, puC]
          refine takeL 3 45 ?_ ?_ hHeld ?_
          rotate_left
          · (intro w hSw; (try dsimp only at hSw); simp only [Box] at hSw; go_simp; try with_reducible rfl)
          simp only [Act.put, puA, puB, puC]
          refine takeL 5 47 ?_ ?_ hHeld ?_
          rotate_left
          · (intro w hSw; (try dsimp only at hSw); simp only [Box] at hSw; go_simp; try with_reducible rfl)
          simp only [Act.put, puA, puB, puC]
          refine takeL 8 50 ?_ ?_ hHeld ?_
          rotate_left
          · (intro w hSw; (try dsimp only at hSw); simp only [Box] at hSw; go_simp; try with_reducible rfl)
          simp only [Act.put, puA, puB, puC]
          refine takeL 9 51 ?_ ?_ hHeld ?_
          rotate_left
          · (intro w hSw; (try dsimp only at hSw); simp only [Box] at hSw; go_simp; try with_reducible rfl)
          simp only [Act.put, puA, puB, puC]
          refine takeL 10 52 ?_ ?_ hHeld ?_
          rotate_left
          · (intro w hSw; (try dsimp only at hSw); simp only [Box] at hSw; go_simp; try with_reducible rfl)
          simp only [Act.put, puA, puB, puC]
          refine wpAnyH_ready (rs := [0, 6]) (by kernel_rfl) (by simp) (AllReadyH.cons rfl (fun K hK => ?_) (AllReadyH.cons rfl (fun K hK => ?_) (AllReadyH.nil)))
          · skip
            go_simp
            have hHeld0 := hHeld
            refine hK.out _ _ ?_ (fun hHeld1 => ?_)
            · exact Box.below hHeld (bl_alloc (bl_refl _) _)
            clear hK K hHeld
            have hHeld := hHeld1
            clear hHeld1
            refine wpAnyH_own0 (base := w.heap.size + 1) 4 hHeld0.1 (fun W hBl own => ?_)
            have hB := bl_trans hB hBl
            have hHeld := Box.below hHeld0 hBl
            clear hBl hHeld0
            refine wpAnyH_ready (rs := [4, 6]) (by kernel_rfl) (by simp) (AllReadyH.cons rfl (fun K hK => ?_) (AllReadyH.cons rfl (fun K hK => ?_) (AllReadyH.nil)))
            · skip
              refine step_append_any _ 46 rfl rfl _ _ 23 rfl (w.heap.size + 1) 85 i0 (.agg #[.int .i64 0, .int .i64 0, .int .i64 0, .int .i64 0]) 4 32 Tryz.underlying23 hi0 hz0 hz1 hz2 rfl (by decide) _ _ _ rfl own _ _ _ rfl (takes_doors (hc.below hB hlt) 0 n _ (ds.take n) (fun i hi => by simp [hi]) (by simp; omega)) (by unfold maxLen; omega) (by omega) (by have := hB.size; have := hHeld.1; omega) ?_
              intro v' w2 own2 hg2
              simp only [Act.put, puA, puB, puC]
              refine hK.out _ _ ?_ (fun hHeld1 => ?_)
              · exact Box.far hHeld hg2 (fun k hk => by have := (own.lt _ hk).1; omega)
              clear hK K hHeld
              have hHeld := hHeld1
              clear hHeld1
              have hB := Below.grown hB hg2 hB.size (fun k hk => by have := (own.lt _ hk).1; omega)
              clear hg2 own
              have own := own2
              clear own2
              refine wpAnyH_ready (rs := [6]) (by kernel_rfl) (by simp) (AllReadyH.cons rfl (fun K hK => ?_) (AllReadyH.nil))
              go_simp
              have hHeld0 := hHeld
              refine hK.out _ _ ?_ (fun hHeld1 => ?_)
              · exact Box.below hHeld (bl_alloc (bl_refl _) _)
              clear hK K hHeld
              have hHeld := hHeld1
              clear hHeld1
              refine wpAnyH_new (fun W hBl bx => ?_)
              have own := ownsRow_bl own hBl
              have hB := bl_trans hB hBl
              have hHeld := Box.below hHeld0 hBl
              clear hBl hHeld0
              refine wpAnyH_ready (rs := [7]) (by kernel_rfl) (by simp) (AllReadyH.cons rfl (fun K hK => ?_) (AllReadyH.nil))
              refine step_append_any _ 49 rfl rfl _ _ 23 rfl (w.heap.size + 1) 85 i0 (.agg #[.int .i64 0, .int .i64 0, .int .i64 0, .int .i64 0]) 4 32 Tryz.underlying23 hi0 hz0 hz1 hz2 rfl (by decide) _ _ _ rfl own _ _ _ rfl (takes_box bx) (by unfold maxLen; omega) (by omega) (by have := hB.size; have := hHeld.1; omega) ?_
              intro v' w2 own2 hg2
              simp only [Act.put, puA, puB, puC]
              refine hK.out _ _ ?_ (fun hHeld1 => ?_)
              · exact Box.far hHeld hg2 (fun k hk => by have := (own.lt _ hk).1; omega)
              clear hK K hHeld
              have hHeld := hHeld1
              clear hHeld1
              have hB := Below.grown hB hg2 hB.size (fun k hk => by have := (own.lt _ hk).1; omega)
              clear hg2 own
              have own := own2
              clear own2
              refine wpAnyH_ready (rs := [11]) (by kernel_rfl) (by simp) (AllReadyH.cons rfl (fun K hK => ?_) (AllReadyH.nil))
              refine step_append_any _ 53 rfl rfl _ _ 23 rfl (w.heap.size + 1) 85 i0 (.agg #[.int .i64 0, .int .i64 0, .int .i64 0, .int .i64 0]) 4 32 Tryz.underlying23 hi0 hz0 hz1 hz2 rfl (by decide) _ _ _ rfl own _ _ _ rfl (hT.out _ _ (hc.below hB hlt)) (by unfold maxLen; omega) (by omega) (by have := hB.size; have := hHeld.1; omega) ?_
              intro v' w2 own2 hg2
              simp only [Act.put, puA, puB, puC]
              refine hK.out _ _ ?_ (fun hHeld1 => ?_)
              · exact Box.far hHeld hg2 (fun k hk => by have := (own.lt _ hk).1; omega)
              clear hK K hHeld
              have hHeld := hHeld1
              clear hHeld1
              have hB := Below.grown hB hg2 hB.size (fun k hk => by have := (own.lt _ hk).1; omega)
              clear hg2 own
              have own := own2
              clear own2
              refine takeL 12 4 ?_ ?_ hHeld ?_
              rotate_left
              · (intro w hSw; (try dsimp only at hSw); simp only [Box] at hSw; go_simp; try with_reducible rfl)
              simp only [Act.put, puA, puB, puC]
              refine wpAnyH_done (by kernel_rfl) ?_ _
              obtain ⟨g, cap, rfl, hg0, hg1, hg2, hg3, hg4⟩ := own_put hn own
              have hg3 : Hid (cap ≤ maxLen) := hg3
              have hg4 : Hid (DrCells _ g 0 (putD n ds d)) := hg4
              clear own hA hT
              go_wp2
              go_ret
              exact ⟨g, cap, n, rfl, by omega, hg1, hg2, hg3.out, hg4.out, hB⟩
            · skip
              go_simp
              have hHeld0 := hHeld
              refine hK.out _ _ ?_ (fun hHeld1 => ?_)
              · exact Box.below hHeld (bl_alloc (bl_refl _) _)
              clear hK K hHeld
              have hHeld := hHeld1
              clear hHeld1
              refine wpAnyH_new (fun W hBl bx => ?_)
              have hfar := fun k hk => Nat.ne_of_gt (own.lt k hk).2
              have own := ownsRow_bl own hBl
              have hB := bl_trans hB hBl
              have hHeld := Box.below hHeld0 hBl
              clear hBl hHeld0
              refine wpAnyH_ready (rs := [4]) (by kernel_rfl) (by simp) (AllReadyH.cons rfl (fun K hK => ?_) (AllReadyH.nil))
              refine step_append_any _ 46 rfl rfl _ _ 23 rfl (w.heap.size + 1) 85 i0 (.agg #[.int .i64 0, .int .i64 0, .int .i64 0, .int .i64 0]) 4 32 Tryz.underlying23 hi0 hz0 hz1 hz2 rfl (by decide) _ _ _ rfl own _ _ _ rfl (takes_doors (hc.below hB hlt) 0 n _ (ds.take n) (fun i hi => by simp [hi]) (by simp; omega)) (by unfold maxLen; omega) (by omega) (by have := hB.size; have := hHeld.1; omega) ?_
              intro v' w2 own2 hg2
              simp only [Act.put, puA, puB, puC]
              refine hK.out _ _ ?_ (fun hHeld1 => ?_)
              · exact Box.far hHeld hg2 (fun k hk => by have := (own.lt _ hk).1; omega)
              clear hK K hHeld
              have hHeld := hHeld1
              clear hHeld1
              have hB := Below.grown hB hg2 hB.size (fun k hk => by have := (own.lt _ hk).1; omega)
              have bx := Box.far bx hg2 (fun k hk => hfar k hk)
              clear hg2 own
              have own := own2
              clear own2
              refine wpAnyH_ready (rs := [7]) (by kernel_rfl) (by simp) (AllReadyH.cons rfl (fun K hK => ?_) (AllReadyH.nil))
              refine step_append_any _ 49 rfl rfl _ _ 23 rfl (w.heap.size + 1) 85 i0 (.agg #[.int .i64 0, .int .i64 0, .int .i64 0, .int .i64 0]) 4 32 Tryz.underlying23 hi0 hz0 hz1 hz2 rfl (by decide) _ _ _ rfl own _ _ _ rfl (takes_box bx) (by unfold maxLen; omega) (by omega) (by have := hB.size; have := hHeld.1; omega) ?_
              intro v' w2 own2 hg2
              simp only [Act.put, puA, puB, puC]
              refine hK.out _ _ ?_ (fun hHeld1 => ?_)
              · exact Box.far hHeld hg2 (fun k hk => by have := (own.lt _ hk).1; omega)
              clear hK K hHeld
              have hHeld := hHeld1
              clear hHeld1
              have hB := Below.grown hB hg2 hB.size (fun k hk => by have := (own.lt _ hk).1; omega)
              clear hg2 own
              have own := own2
              clear own2
              refine wpAnyH_ready (rs := [11]) (by kernel_rfl) (by simp) (AllReadyH.cons rfl (fun K hK => ?_) (AllReadyH.nil))
              refine step_append_any _ 53 rfl rfl _ _ 23 rfl (w.heap.size + 1) 85 i0 (.agg #[.int .i64 0, .int .i64 0, .int .i64 0, .int .i64 0]) 4 32 Tryz.underlying23 hi0 hz0 hz1 hz2 rfl (by decide) _ _ _ rfl own _ _ _ rfl (hT.out _ _ (hc.below hB hlt)) (by unfold maxLen; omega) (by omega) (by have := hB.size; have := hHeld.1; omega) ?_
              intro v' w2 own2 hg2
              simp only [Act.put, puA, puB, puC]
              refine hK.out _ _ ?_ (fun hHeld1 => ?_)
              · exact Box.far hHeld hg2 (fun k hk => by have := (own.lt _ hk).1; omega)
              clear hK K hHeld
              have hHeld := hHeld1
              clear hHeld1
              have hB := Below.grown hB hg2 hB.size (fun k hk => by have := (own.lt _ hk).1; omega)
              clear hg2 own
              have own := own2
              clear own2
              refine takeL 12 4 ?_ ?_ hHeld ?_
              rotate_left
              · (intro w hSw; (try dsimp only at hSw); simp only [Box] at hSw; go_simp; try with_reducible rfl)
              simp only [Act.put, puA, puB, puC]
              refine wpAnyH_done (by kernel_rfl) ?_ _
              obtain ⟨g, cap, rfl, hg0, hg1, hg2, hg3, hg4⟩ := own_put hn own
              have hg3 : Hid (cap ≤ maxLen) := hg3
              have hg4 : Hid (DrCells _ g 0 (putD n ds d)) := hg4
              clear own hA hT
              go_wp2
              go_ret
              exact ⟨g, cap, n, rfl, by omega, hg1, hg2, hg3.out, hg4.out, hB⟩
          · skip
            go_simp
            have hHeld0 := hHeld
            refine hK.out _ _ ?_ (fun hHeld1 => ?_)
            · exact Box.below hHeld (bl_alloc (bl_refl _) _)
            clear hK K hHeld
            have hHeld := hHeld1
            clear hHeld1
            refine wpAnyH_new (fun W hBl bx => ?_)
            have hB := bl_trans hB hBl
            have hHeld := Box.below hHeld0 hBl
            clear hBl hHeld0
            refine wpAnyH_ready (rs := [0]) (by kernel_rfl) (by simp) (AllReadyH.cons rfl (fun K hK => ?_) (AllReadyH.nil))
            go_simp
            have hHeld0 := hHeld
            refine hK.out _ _ ?_ (fun hHeld1 => ?_)
            · exact Box.below hHeld (bl_alloc (bl_refl _) _)
            clear hK K hHeld
            have hHeld := hHeld1
            clear hHeld1
            refine wpAnyH_own0 (base := w.heap.size + 1) 4 hHeld0.1 (fun W hBl own => ?_)
            have hfar := far0 bx
            have bx := Box.below bx hBl
            have hB := bl_trans hB hBl
            have hHeld := Box.below hHeld0 hBl
            clear hBl hHeld0
            refine wpAnyH_ready (rs := [4]) (by kernel_rfl) (by simp) (AllReadyH.cons rfl (fun K hK => ?_) (AllReadyH.nil))
            refine step_append_any _ 46 rfl rfl _ _ 23 rfl (w.heap.size + 1) 85 i0 (.agg #[.int .i64 0, .int .i64 0, .int .i64 0, .int .i64 0]) 4 32 Tryz.underlying23 hi0 hz0 hz1 hz2 rfl (by decide) _ _ _ rfl own _ _ _ rfl (takes_doors (hc.below hB hlt) 0 n _ (ds.take n) (fun i hi => by simp [hi]) (by simp; omega)) (by unfold maxLen; omega) (by omega) (by have := hB.size; have := hHeld.1; omega) ?_
            intro v' w2 own2 hg2
            simp only [Act.put, puA, puB, puC]
            refine hK.out _ _ ?_ (fun hHeld1 => ?_)
            · exact Box.far hHeld hg2 (fun k hk => by have := (own.lt _ hk).1; omega)
            clear hK K hHeld
            have hHeld := hHeld1
            clear hHeld1
            have hB := Below.grown hB hg2 hB.size (fun k hk => by have := (own.lt _ hk).1; omega)
            have bx := Box.far bx hg2 (fun k hk => hfar k hk)
            clear hg2 own
            have own := own2
            clear own2
            refine wpAnyH_ready (rs := [7]) (by kernel_rfl) (by simp) (AllReadyH.cons rfl (fun K hK => ?_) (AllReadyH.nil))
            refine step_append_any _ 49 rfl rfl _ _ 23 rfl (w.heap.size + 1) 85 i0 (.agg #[.int .i64 0, .int .i64 0, .int .i64 0, .int .i64 0]) 4 32 Tryz.underlying23 hi0 hz0 hz1 hz2 rfl (by decide) _ _ _ rfl own _ _ _ rfl (takes_box bx) (by unfold maxLen; omega) (by omega) (by have := hB.size; have := hHeld.1; omega) ?_
            intro v' w2 own2 hg2
            simp only [Act.put, puA, puB, puC]
            refine hK.out _ _ ?_ (fun hHeld1 => ?_)
            · exact Box.far hHeld hg2 (fun k hk => by have := (own.lt _ hk).1; omega)
            clear hK K hHeld
            have hHeld := hHeld1
            clear hHeld1
            have hB := Below.grown hB hg2 hB.size (fun k hk => by have := (own.lt _ hk).1; omega)
            clear hg2 own
            have own := own2
            clear own2
            refine wpAnyH_ready (rs := [11]) (by kernel_rfl) (by simp) (AllReadyH.cons rfl (fun K hK => ?_) (AllReadyH.nil))
            refine step_append_any _ 53 rfl rfl _ _ 23 rfl (w.heap.size + 1) 85 i0 (.agg #[.int .i64 0, .int .i64 0, .int .i64 0, .int .i64 0]) 4 32 Tryz.underlying23 hi0 hz0 hz1 hz2 rfl (by decide) _ _ _ rfl own _ _ _ rfl (hT.out _ _ (hc.below hB hlt)) (by unfold maxLen; omega) (by omega) (by have := hB.size; have := hHeld.1; omega) ?_
            intro v' w2 own2 hg2
            simp only [Act.put, puA, puB, puC]
            refine hK.out _ _ ?_ (fun hHeld1 => ?_)
            · exact Box.far hHeld hg2 (fun k hk => by have := (own.lt _ hk).1; omega)
            clear hK K hHeld
            have hHeld := hHeld1
            clear hHeld1
            have hB := Below.grown hB hg2 hB.size (fun k hk => by have := (own.lt _ hk).1; omega)
            clear hg2 own
            have own := own2
            clear own2
            refine takeL 12 4 ?_ ?_ hHeld ?_
            rotate_left
            · (intro w hSw; (try dsimp only at hSw); simp only [Box] at hSw; go_simp; try with_reducible rfl)
            simp only [Act.put, puA, puB, puC]
            refine wpAnyH_done (by kernel_rfl) ?_ _
            obtain ⟨g, cap, rfl, hg0, hg1, hg2, hg3, hg4⟩ := own_put hn own
            have hg3 : Hid (cap ≤ maxLen) := hg3
            have hg4 : Hid (DrCells _ g 0 (putD n ds d)) := hg4
            clear own hA hT
            go_wp2
            go_ret
            exact ⟨g, cap, n, rfl, by omega, hg1, hg2, hg3.out, hg4.out, hB⟩
    · have hq1 : decide ((n : Int) < (ds.length : Int)) = false := by simpa using hlt2
      go_wp2_with fail
      go_quiet (fail)
      go_wp2_with fail
      refine wp_region_held_drew (S := (fun w' => Box w' w.heap.size #[.int .i64 d.k, .int .i64 d.o, .int .i64 d.i, .int .i64 d.p])) (by kernel_rfl) ?_ (fun hHeld => ?_)
      · exact Box.below hX (bl_drew (bl_draws (bl_refl _) _))
      have hB := bl_trans hB (bl_drew (bl_draws (bl_refl wr) nq))
      clear hX hbox hsz
      generalize (wr.drewN nq).drew = W0 at hHeld hB ⊢
      refine takeL 1 43 ?_ ?_ hHeld ?_
      rotate_left
      · (intro w hSw; (try dsimp only at hSw); simp only [Box] at hSw; go_simp; try with_reducible rfl)
      simp only [Act.put, puA, puB, puC]
      refine takeL 2 44 ?_ ?_ hHeld ?_
      rotate_left
      · (intro w hSw; (try dsimp only at hSw); simp only [Box] at hSw; go_simp; try with_reducible rfl)
      simp only [Act.put, puA, puB, puC]
      refine takeL 3 45 ?_ ?_ hHeld ?_
      rotate_left
      · (intro w hSw; (try dsimp only at hSw); simp only [Box] at hSw; go_simp; try with_reducible rfl)
      simp only [Act.put, puA, puB, puC]
      refine takeL 5 47 ?_ ?_ hHeld ?_
      rotate_left
      · (intro w hSw; (try dsimp only at hSw); simp only [Box] at hSw; go_simp; try with_reducible rfl)
      simp only [Act.put, puA, puB, puC]
      refine takeL 8 50 ?_ ?_ hHeld ?_
      rotate_left
      · (intro w hSw; (try dsimp only at hSw); simp only [Box] at hSw; go_simp; try with_reducible rfl)
      simp only [Act.put, puA, puB, puC]
      refine takeL 9 51 ?_ ?_ hHeld ?_
      rotate_left
      · (intro w hSw; (try dsimp only at hSw); simp only [Box] at hSw; go_simp; try with_reducible rfl)
      simp only [Act.put, puA, puB, puC]
      refine takeL 10 52 ?_ ?_ hHeld ?_
      rotate_left
      · (intro w hSw; (try dsimp only at hSw); simp only [Box] at hSw; go_simp; try with_reducible rfl)
      simp only [Act.put, puA, puB, puC]
      refine wpAnyH_ready (rs := [0, 6]) (by kernel_rfl) (by simp) (AllReadyH.cons rfl (fun K hK => ?_) (AllReadyH.cons rfl (fun K hK => ?_) (AllReadyH.nil)))
      · skip
        go_simp
        have hHeld0 := hHeld
        refine hK.out _ _ ?_ (fun hHeld1 => ?_)
        · exact Box.below hHeld (bl_alloc (bl_refl _) _)
        clear hK K hHeld
        have hHeld := hHeld1
        clear hHeld1
        refine wpAnyH_own0 (base := w.heap.size + 1) 4 hHeld0.1 (fun W hBl own => ?_)
        have hB := bl_trans hB hBl
        have hHeld := Box.below hHeld0 hBl
        clear hBl hHeld0
        refine wpAnyH_ready (rs := [4, 6]) (by kernel_rfl) (by simp) (AllReadyH.cons rfl (fun K hK => ?_) (AllReadyH.cons rfl (fun K hK => ?_) (AllReadyH.nil)))
        · skip
          refine step_append_any _ 46 rfl rfl _ _ 23 rfl (w.heap.size + 1) 85 i0 (.agg #[.int .i64 0, .int .i64 0, .int .i64 0, .int .i64 0]) 4 32 Tryz.underlying23 hi0 hz0 hz1 hz2 rfl (by decide) _ _ _ rfl own _ _ _ rfl (takes_doors (hc.below hB hlt) 0 n _ (ds.take n) (fun i hi => by simp [hi]) (by simp; omega)) (by unfold maxLen; omega) (by omega) (by have := hB.size; have := hHeld.1; omega) ?_
          intro v' w2 own2 hg2
          simp only [Act.put, puA, puB, puC]
          refine hK.out _ _ ?_ (fun hHeld1 => ?_)
          · exact Box.far hHeld hg2 (fun k hk => by have := (own.lt _ hk).1; omega)
          clear hK K hHeld
          have hHeld := hHeld1
          clear hHeld1
          have hB := Below.grown hB hg2 hB.size (fun k hk => by have := (own.lt _ hk).1; omega)
          clear hg2 own
          have own := own2
          clear own2
          refine wpAnyH_ready (rs := [6]) (by kernel_rfl) (by simp) (AllReadyH.cons rfl (fun K hK => ?_) (AllReadyH.nil))
          go_simp
          have hHeld0 := hHeld
          refine hK.out _ _ ?_ (fun hHeld1 => ?_)
          · exact Box.below hHeld (bl_alloc (bl_refl _) _)
          clear hK K hHeld
          have hHeld := hHeld1
          clear hHeld1
          refine wpAnyH_new (fun W hBl bx => ?_)
          have own := ownsRow_bl own hBl
          have hB := bl_trans hB hBl
          have hHeld := Box.below hHeld0 hBl
          clear hBl hHeld0
          refine wpAnyH_ready (rs := [7]) (by kernel_rfl) (by simp) (AllReadyH.cons rfl (fun K hK => ?_) (AllReadyH.nil))
          refine step_append_any _ 49 rfl rfl _ _ 23 rfl (w.heap.size + 1) 85 i0 (.agg #[.int .i64 0, .int .i64 0, .int .i64 0, .int .i64 0]) 4 32 Tryz.underlying23 hi0 hz0 hz1 hz2 rfl (by decide) _ _ _ rfl own _ _ _ rfl (takes_box bx) (by unfold maxLen; omega) (by omega) (by have := hB.size; have := hHeld.1; omega) ?_
          intro v' w2 own2 hg2
          simp only [Act.put, puA, puB, puC]
          refine hK.out _ _ ?_ (fun hHeld1 => ?_)
          · exact Box.far hHeld hg2 (fun k hk => by have := (own.lt _ hk).1; omega)
          clear hK K hHeld
          have hHeld := hHeld1
          clear hHeld1
          have hB := Below.grown hB hg2 hB.size (fun k hk => by have := (own.lt _ hk).1; omega)
          clear hg2 own
          have own := own2
          clear own2
          refine wpAnyH_ready (rs := [11]) (by kernel_rfl) (by simp) (AllReadyH.cons rfl (fun K hK => ?_) (AllReadyH.nil))
          refine step_append_any _ 53 rfl rfl _ _ 23 rfl (w.heap.size + 1) 85 i0 (.agg #[.int .i64 0, .int .i64 0, .int .i64 0, .int .i64 0]) 4 32 Tryz.underlying23 hi0 hz0 hz1 hz2 rfl (by decide) _ _ _ rfl own _ _ _ rfl (hT.out _ _ (hc.below hB hlt)) (by unfold maxLen; omega) (by omega) (by have := hB.size; have := hHeld.1; omega) ?_
          intro v' w2 own2 hg2
          simp only [Act.put, puA, puB, puC]
          refine hK.out _ _ ?_ (fun hHeld1 => ?_)
          · exact Box.far hHeld hg2 (fun k hk => by have := (own.lt _ hk).1; omega)
          clear hK K hHeld
          have hHeld := hHeld1
          clear hHeld1
          have hB := Below.grown hB hg2 hB.size (fun k hk => by have := (own.lt _ hk).1; omega)
          clear hg2 own
          have own := own2
          clear own2
          refine takeL 12 4 ?_ ?_ hHeld ?_
          rotate_left
          · (intro w hSw; (try dsimp only at hSw); simp only [Box] at hSw; go_simp; try with_reducible rfl)
          simp only [Act.put, puA, puB, puC]
          refine wpAnyH_done (by kernel_rfl) ?_ _
          obtain ⟨g, cap, rfl, hg0, hg1, hg2, hg3, hg4⟩ := own_put hn own
          have hg3 : Hid (cap ≤ maxLen) := hg3
          have hg4 : Hid (DrCells _ g 0 (putD n ds d)) := hg4
          clear own hA hT
          go_wp2
          go_ret
          exact ⟨g, cap, n, rfl, by omega, hg1, hg2, hg3.out, hg4.out, hB⟩
        · skip
          go_simp
          have hHeld0 := hHeld
          refine hK.out _ _ ?_ (fun hHeld1 => ?_)
          · exact Box.below hHeld (bl_alloc (bl_refl _) _)
          clear hK K hHeld
          have hHeld := hHeld1
          clear hHeld1
          refine wpAnyH_new (fun W hBl bx => ?_)
          have hfar := fun k hk => Nat.ne_of_gt (own.lt k hk).2
          have own := ownsRow_bl own hBl
          have hB := bl_trans hB hBl
          have hHeld := Box.below hHeld0 hBl
          clear hBl hHeld0
          refine wpAnyH_ready (rs := [4]) (by kernel_rfl) (by simp) (AllReadyH.cons rfl (fun K hK => ?_) (AllReadyH.nil))
          refine step_append_any _ 46 rfl rfl _ _ 23 rfl (w.heap.size + 1) 85 i0 (.agg #[.int .i64 0, .int .i64 0, .int .i64 0, .int .i64 0]) 4 32 Tryz.underlying23 hi0 hz0 hz1 hz2 rfl (by decide) _ _ _ rfl own _ _ _ rfl (takes_doors (hc.below hB hlt) 0 n _ (ds.take n) (fun i hi => by simp [hi]) (by simp; omega)) (by unfold maxLen; omega) (by omega) (by have := hB.size; have := hHeld.1; omega) ?_
          intro v' w2 own2 hg2
          simp only [Act.put, puA, puB, puC]
          refine hK.out _ _ ?_ (fun hHeld1 => ?_)
          · exact Box.far hHeld hg2 (fun k hk => by have := (own.lt _ hk).1; omega)
          clear hK K hHeld
          have hHeld := hHeld1
          clear hHeld1
          have hB := Below.grown hB hg2 hB.size (fun k hk => by have := (own.lt _ hk).1; omega)
          have bx := Box.far bx hg2 (fun k hk => hfar k hk)
          clear hg2 own
          have own := own2
          clear own2
          refine wpAnyH_ready (rs := [7]) (by kernel_rfl) (by simp) (AllReadyH.cons rfl (fun K hK => ?_) (AllReadyH.nil))
          refine step_append_any _ 49 rfl rfl _ _ 23 rfl (w.heap.size + 1) 85 i0 (.agg #[.int .i64 0, .int .i64 0, .int .i64 0, .int .i64 0]) 4 32 Tryz.underlying23 hi0 hz0 hz1 hz2 rfl (by decide) _ _ _ rfl own _ _ _ rfl (takes_box bx) (by unfold maxLen; omega) (by omega) (by have := hB.size; have := hHeld.1; omega) ?_
          intro v' w2 own2 hg2
          simp only [Act.put, puA, puB, puC]
          refine hK.out _ _ ?_ (fun hHeld1 => ?_)
          · exact Box.far hHeld hg2 (fun k hk => by have := (own.lt _ hk).1; omega)
          clear hK K hHeld
          have hHeld := hHeld1
          clear hHeld1
          have hB := Below.grown hB hg2 hB.size (fun k hk => by have := (own.lt _ hk).1; omega)
          clear hg2 own
          have own := own2
          clear own2
          refine wpAnyH_ready (rs := [11]) (by kernel_rfl) (by simp) (AllReadyH.cons rfl (fun K hK => ?_) (AllReadyH.nil))
          refine step_append_any _ 53 rfl rfl _ _ 23 rfl (w.heap.size + 1) 85 i0 (.agg #[.int .i64 0, .int .i64 0, .int .i64 0, .int .i64 0]) 4 32 Tryz.underlying23 hi0 hz0 hz1 hz2 rfl (by decide) _ _ _ rfl own _ _ _ rfl (hT.out _ _ (hc.below hB hlt)) (by unfold maxLen; omega) (by omega) (by have := hB.size; have := hHeld.1; omega) ?_
          intro v' w2 own2 hg2
          simp only [Act.put, puA, puB, puC]
          refine hK.out _ _ ?_ (fun hHeld1 => ?_)
          · exact Box.far hHeld hg2 (fun k hk => by have := (own.lt _ hk).1; omega)
          clear hK K hHeld
          have hHeld := hHeld1
          clear hHeld1
          have hB := Below.grown hB hg2 hB.size (fun k hk => by have := (own.lt _ hk).1; omega)
          clear hg2 own
          have own := own2
          clear own2
          refine takeL 12 4 ?_ ?_ hHeld ?_
          rotate_left
          · (intro w hSw; (try dsimp only at hSw); simp only [Box] at hSw; go_simp; try with_reducible rfl)
          simp only [Act.put, puA, puB, puC]
          refine wpAnyH_done (by kernel_rfl) ?_ _
          obtain ⟨g, cap, rfl, hg0, hg1, hg2, hg3, hg4⟩ := own_put hn own
          have hg3 : Hid (cap ≤ maxLen) := hg3
          have hg4 : Hid (DrCells _ g 0 (putD n ds d)) := hg4
          clear own hA hT
          go_wp2
          go_ret
          exact ⟨g, cap, n, rfl, by omega, hg1, hg2, hg3.out, hg4.out, hB⟩
      · skip
        go_simp
        have hHeld0 := hHeld
        refine hK.out _ _ ?_ (fun hHeld1 => ?_)
        · exact Box.below hHeld (bl_alloc (bl_refl _) _)
        clear hK K hHeld
        have hHeld := hHeld1
        clear hHeld1
        refine wpAnyH_new (fun W hBl bx => ?_)
        have hB := bl_trans hB hBl
        have hHeld := Box.below hHeld0 hBl
        clear hBl hHeld0
        refine wpAnyH_ready (rs := [0]) (by kernel_rfl) (by simp) (AllReadyH.cons rfl (fun K hK => ?_) (AllReadyH.nil))
        go_simp
        have hHeld0 := hHeld
        refine hK.out _ _ ?_ (fun hHeld1 => ?_)
        · exact Box.below hHeld (bl_alloc (bl_refl _) _)
        clear hK K hHeld
        have hHeld := hHeld1
        clear hHeld1
        refine wpAnyH_own0 (base := w.heap.size + 1) 4 hHeld0.1 (fun W hBl own => ?_)
        have hfar := far0 bx
        have bx := Box.below bx hBl
        have hB := bl_trans hB hBl
        have hHeld := Box.below hHeld0 hBl
        clear hBl hHeld0
        refine wpAnyH_ready (rs := [4]) (by kernel_rfl) (by simp) (AllReadyH.cons rfl (fun K hK => ?_) (AllReadyH.nil))
        refine step_append_any _ 46 rfl rfl _ _ 23 rfl (w.heap.size + 1) 85 i0 (.agg #[.int .i64 0, .int .i64 0, .int .i64 0, .int .i64 0]) 4 32 Tryz.underlying23 hi0 hz0 hz1 hz2 rfl (by decide) _ _ _ rfl own _ _ _ rfl (takes_doors (hc.below hB hlt) 0 n _ (ds.take n) (fun i hi => by simp [hi]) (by simp; omega)) (by unfold maxLen; omega) (by omega) (by have := hB.size; have := hHeld.1; omega) ?_
        intro v' w2 own2 hg2
        simp only [Act.put, puA, puB, puC]
        refine hK.out _ _ ?_ (fun hHeld1 => ?_)
        · exact Box.far hHeld hg2 (fun k hk => by have := (own.lt _ hk).1; omega)
        clear hK K hHeld
        have hHeld := hHeld1
        clear hHeld1
        have hB := Below.grown hB hg2 hB.size (fun k hk => by have := (own.lt _ hk).1; omega)
        have bx := Box.far bx hg2 (fun k hk => hfar k hk)
        clear hg2 own
        have own := own2
        clear own2
        refine wpAnyH_ready (rs := [7]) (by kernel_rfl) (by simp) (AllReadyH.cons rfl (fun K hK => ?_) (AllReadyH.nil))
        refine step_append_any _ 49 rfl rfl _ _ 23 rfl (w.heap.size + 1) 85 i0 (.agg #[.int .i64 0, .int .i64 0, .int .i64 0, .int .i64 0]) 4 32 Tryz.underlying23 hi0 hz0 hz1 hz2 rfl (by decide) _ _ _ rfl own _ _ _ rfl (takes_box bx) (by unfold maxLen; omega) (by omega) (by have := hB.size; have := hHeld.1; omega) ?_
        intro v' w2 own2 hg2
        simp only [Act.put, puA, puB, puC]
        refine hK.out _ _ ?_ (fun hHeld1 => ?_)
        · exact Box.far hHeld hg2 (fun k hk => by have := (own.lt _ hk).1; omega)
        clear hK K hHeld
        have hHeld := hHeld1
        clear hHeld1
        have hB := Below.grown hB hg2 hB.size (fun k hk => by have := (own.lt _ hk).1; omega)
        clear hg2 own
        have own := own2
        clear own2
        refine wpAnyH_ready (rs := [11]) (by kernel_rfl) (by simp) (AllReadyH.cons rfl (fun K hK => ?_) (AllReadyH.nil))
        refine step_append_any _ 53 rfl rfl _ _ 23 rfl (w.heap.size + 1) 85 i0 (.agg #[.int .i64 0, .int .i64 0, .int .i64 0, .int .i64 0]) 4 32 Tryz.underlying23 hi0 hz0 hz1 hz2 rfl (by decide) _ _ _ rfl own _ _ _ rfl (hT.out _ _ (hc.below hB hlt)) (by unfold maxLen; omega) (by omega) (by have := hB.size; have := hHeld.1; omega) ?_
        intro v' w2 own2 hg2
        simp only [Act.put, puA, puB, puC]
        refine hK.out _ _ ?_ (fun hHeld1 => ?_)
        · exact Box.far hHeld hg2 (fun k hk => by have := (own.lt _ hk).1; omega)
        clear hK K hHeld
        have hHeld := hHeld1
        clear hHeld1
        have hB := Below.grown hB hg2 hB.size (fun k hk => by have := (own.lt _ hk).1; omega)
        clear hg2 own
        have own := own2
        clear own2
        refine takeL 12 4 ?_ ?_ hHeld ?_
        rotate_left
        · (intro w hSw; (try dsimp only at hSw); simp only [Box] at hSw; go_simp; try with_reducible rfl)
        simp only [Act.put, puA, puB, puC]
        refine wpAnyH_done (by kernel_rfl) ?_ _
        obtain ⟨g, cap, rfl, hg0, hg1, hg2, hg3, hg4⟩ := own_put hn own
        have hg3 : Hid (cap ≤ maxLen) := hg3
        have hg4 : Hid (DrCells _ g 0 (putD n ds d)) := hg4
        clear own hA hT
        go_wp2
        go_ret
        exact ⟨g, cap, n, rfl, by omega, hg1, hg2, hg3.out, hg4.out, hB⟩

set_option maxHeartbeats 4000000 in
theorem putDoor_nil (d : Dr) (w : World) :
    Calls Tryz.prog 89 #[.slice none 0 0, .agg #[.int .i64 d.k, .int .i64 d.o, .int .i64 d.i, .int .i64 d.p]] w fun e w' => ∃ g cap, e = .returned (.slice (some ⟨g, 0, none⟩) (0 + 1) cap) ∧ w.heap.size ≤ g ∧ g < w'.heap.size ∧ 0 + 1 ≤ cap ∧ cap ≤ maxLen ∧ DrCells w' g 0 (putD 0 [] d) ∧ Below w.heap.size w w' := by
  obtain ⟨i0, hi0, hz0, hz1, hz2⟩ := info_parts infoDr
  go_enter Tryz.func89, Tryz.ntmps89
  go_wp2_with fail
  go_loopg [5] 0 (fun _ i wr => i = .int .i64 0 ∧ Below w.heap.size w wr ∧ Box wr w.heap.size #[.int .i64 d.k, .int .i64 d.o, .int .i64 d.i, .int .i64 d.p])
  case atStart => exact ⟨rfl, bl_alloc (bl_refl _) _, Box.new _ _ _⟩
  case round =>
    obtain ⟨rfl, hB, hX⟩ := hrel
    obtain ⟨hsz, hbox⟩ := id hX
    go_wp2_with fail
    go_quiet (fail)
    go_wp2_with fail
    refine wp_region_held_drew (S := (fun w' => Box w' w.heap.size #[.int .i64 d.k, .int .i64 d.o, .int .i64 d.i, .int .i64 d.p])) (by kernel_rfl) ?_ (fun hHeld => ?_)
    · exact Box.below hX (bl_drew (bl_draws (bl_refl _) _))
    have hB := bl_trans hB (bl_drew (bl_draws (bl_refl wr) nq))
    clear hX hbox hsz
    generalize (wr.drewN nq).drew = W0 at hHeld hB ⊢
    refine takeL 1 43 ?_ ?_ hHeld ?_
    rotate_left
    · (intro w hSw; (try dsimp only at hSw); simp only [Box] at hSw; go_simp; try with_reducible rfl)
    simp only [Act.put, puA, puB, puC]
    refine takeL 2 44 ?_ ?_ hHeld ?_
    rotate_left
    · (intro w hSw; (try dsimp only at hSw); simp only [Box] at hSw; go_simp; try with_reducible rfl)
    simp only [Act.put, puA, puB, puC]
    refine takeL 3 45 ?_ ?_ hHeld ?_
    rotate_left
    · (intro w hSw; (try dsimp only at hSw); simp only [Box] at hSw; go_simp; try with_reducible rfl)
    simp only [Act.put, puA, puB, puC]
    refine takeL 5 47 ?_ ?_ hHeld ?_
    rotate_left
    · (intro w hSw; (try dsimp only at hSw); simp only [Box] at hSw; go_simp; try with_reducible rfl)
    simp only [Act.put, puA, puB, puC]
    refine takeL 8 50 ?_ ?_ hHeld ?_
    rotate_left
    · (intro w hSw; (try dsimp only at hSw); simp only [Box] at hSw; go_simp; try with_reducible rfl)
    simp only [Act.put, puA, puB, puC]
    refine takeL 9 51 ?_ ?_ hHeld ?_
    rotate_left
    · (intro w hSw; (try dsimp only at hSw); simp only [Box] at hSw; go_simp; try with_reducible rfl)
    simp only [Act.put, puA, puB, puC]
    refine takeL 10 52 ?_ ?_ hHeld ?_
    rotate_left
    · (intro w hSw; (try dsimp only at hSw); simp only [Box] at hSw; go_simp; try with_reducible rfl)
    simp only [Act.put, puA, puB, puC]
    refine wpAnyH_ready (rs := [0, 6]) (by kernel_rfl) (by simp) (AllReadyH.cons rfl (fun K hK => ?_) (AllReadyH.cons rfl (fun K hK => ?_) (AllReadyH.nil)))
    · skip
      go_simp
      have hHeld0 := hHeld
      refine hK.out _ _ ?_ (fun hHeld1 => ?_)
      · exact Box.below hHeld (bl_alloc (bl_refl _) _)
      clear hK K hHeld
      have hHeld := hHeld1
      clear hHeld1
      refine wpAnyH_own0 (base := w.heap.size + 1) 4 hHeld0.1 (fun W hBl own => ?_)
      have hB := bl_trans hB hBl
      have hHeld := Box.below hHeld0 hBl
      clear hBl hHeld0
      refine wpAnyH_ready (rs := [4, 6]) (by kernel_rfl) (by simp) (AllReadyH.cons rfl (fun K hK => ?_) (AllReadyH.cons rfl (fun K hK => ?_) (AllReadyH.nil)))
      · skip
        refine step_append_any _ 46 rfl rfl _ _ 23 rfl (w.heap.size + 1) 85 i0 (.agg #[.int .i64 0, .int .i64 0, .int .i64 0, .int .i64 0]) 4 32 Tryz.underlying23 hi0 hz0 hz1 hz2 rfl (by decide) _ _ _ rfl own _ _ _ rfl (Or.inl ⟨rfl, rfl, 0, rfl⟩) (by unfold maxLen; omega) (by omega) (by have := hB.size; have := hHeld.1; omega) ?_
        intro v' w2 own2 hg2
        simp only [Act.put, puA, puB, puC]
        refine hK.out _ _ ?_ (fun hHeld1 => ?_)
        · exact Box.far hHeld hg2 (fun k hk => by have := (own.lt _ hk).1; omega)
        clear hK K hHeld
        have hHeld := hHeld1
        clear hHeld1
        have hB := Below.grown hB hg2 hB.size (fun k hk => by have := (own.lt _ hk).1; omega)
        clear hg2 own
        have own := own2
        clear own2
        refine wpAnyH_ready (rs := [6]) (by kernel_rfl) (by simp) (AllReadyH.cons rfl (fun K hK => ?_) (AllReadyH.nil))
        go_simp
        have hHeld0 := hHeld
        refine hK.out _ _ ?_ (fun hHeld1 => ?_)
        · exact Box.below hHeld (bl_alloc (bl_refl _) _)
        clear hK K hHeld
        have hHeld := hHeld1
        clear hHeld1
        refine wpAnyH_new (fun W hBl bx => ?_)
        have own := ownsRow_bl own hBl
        have hB := bl_trans hB hBl
        have hHeld := Box.below hHeld0 hBl
        clear hBl hHeld0
        refine wpAnyH_ready (rs := [7]) (by kernel_rfl) (by simp) (AllReadyH.cons rfl (fun K hK => ?_) (AllReadyH.nil))
        refine step_append_any _ 49 rfl rfl _ _ 23 rfl (w.heap.size + 1) 85 i0 (.agg #[.int .i64 0, .int .i64 0, .int .i64 0, .int .i64 0]) 4 32 Tryz.underlying23 hi0 hz0 hz1 hz2 rfl (by decide) _ _ _ rfl own _ _ _ rfl (takes_box bx) (by unfold maxLen; omega) (by omega) (by have := hB.size; have := hHeld.1; omega) ?_
        intro v' w2 own2 hg2
        simp only [Act.put, puA, puB, puC]
        refine hK.out _ _ ?_ (fun hHeld1 => ?_)
        · exact Box.far hHeld hg2 (fun k hk => by have := (own.lt _ hk).1; omega)
        clear hK K hHeld
        have hHeld := hHeld1
        clear hHeld1
        have hB := Below.grown hB hg2 hB.size (fun k hk => by have := (own.lt _ hk).1; omega)
        clear hg2 own
        have own := own2
        clear own2
        refine wpAnyH_ready (rs := [11]) (by kernel_rfl) (by simp) (AllReadyH.cons rfl (fun K hK => ?_) (AllReadyH.nil))
        refine step_append_any _ 53 rfl rfl _ _ 23 rfl (w.heap.size + 1) 85 i0 (.agg #[.int .i64 0, .int .i64 0, .int .i64 0, .int .i64 0]) 4 32 Tryz.underlying23 hi0 hz0 hz1 hz2 rfl (by decide) _ _ _ rfl own _ _ _ rfl (Or.inl ⟨rfl, rfl, 0, rfl⟩) (by unfold maxLen; omega) (by omega) (by have := hB.size; have := hHeld.1; omega) ?_
        intro v' w2 own2 hg2
        simp only [Act.put, puA, puB, puC]
        refine hK.out _ _ ?_ (fun hHeld1 => ?_)
        · exact Box.far hHeld hg2 (fun k hk => by have := (own.lt _ hk).1; omega)
        clear hK K hHeld
        have hHeld := hHeld1
        clear hHeld1
        have hB := Below.grown hB hg2 hB.size (fun k hk => by have := (own.lt _ hk).1; omega)
        clear hg2 own
        have own := own2
        clear own2
        refine takeL 12 4 ?_ ?_ hHeld ?_
        rotate_left
        · (intro w hSw; (try dsimp only at hSw); simp only [Box] at hSw; go_simp; try with_reducible rfl)
        simp only [Act.put, puA, puB, puC]
        refine wpAnyH_done (by kernel_rfl) ?_ _
        obtain ⟨g, cap, rfl, hg0, hg1, hg2, hg3, hg4⟩ := own_put (ds := []) (n := 0) (by simp) own
        have hg3 : Hid (cap ≤ maxLen) := hg3
        have hg4 : Hid (DrCells _ g 0 (putD 0 [] d)) := hg4
        clear own
        go_wp2
        go_ret
        exact ⟨g, cap, rfl, by omega, hg1, hg2, hg3.out, hg4.out, hB⟩
      · skip
        go_simp
        have hHeld0 := hHeld
        refine hK.out _ _ ?_ (fun hHeld1 => ?_)
        · exact Box.below hHeld (bl_alloc (bl_refl _) _)
        clear hK K hHeld
        have hHeld := hHeld1
        clear hHeld1
        refine wpAnyH_new (fun W hBl bx => ?_)
        have hfar := fun k hk => Nat.ne_of_gt (own.lt k hk).2
        have own := ownsRow_bl own hBl
        have hB := bl_trans hB hBl
        have hHeld := Box.below hHeld0 hBl
        clear hBl hHeld0
        refine wpAnyH_ready (rs := [4]) (by kernel_rfl) (by simp) (AllReadyH.cons rfl (fun K hK => ?_) (AllReadyH.nil))
        refine step_append_any _ 46 rfl rfl _ _ 23 rfl (w.heap.size + 1) 85 i0 (.agg #[.int .i64 0, .int .i64 0, .int .i64 0, .int .i64 0]) 4 32 Tryz.underlying23 hi0 hz0 hz1 hz2 rfl (by decide) _ _ _ rfl own _ _ _ rfl (Or.inl ⟨rfl, rfl, 0, rfl⟩) (by unfold maxLen; omega) (by omega) (by have := hB.size; have := hHeld.1; omega) ?_
        intro v' w2 own2 hg2
        simp only [Act.put, puA, puB, puC]
        refine hK.out _ _ ?_ (fun hHeld1 => ?_)
        · exact Box.far hHeld hg2 (fun k hk => by have := (own.lt _ hk).1; omega)
        clear hK K hHeld
        have hHeld := hHeld1
        clear hHeld1
        have hB := Below.grown hB hg2 hB.size (fun k hk => by have := (own.lt _ hk).1; omega)
        have bx := Box.far bx hg2 (fun k hk => hfar k hk)
        clear hg2 own
        have own := own2
        clear own2
        refine wpAnyH_ready (rs := [7]) (by kernel_rfl) (by simp) (AllReadyH.cons rfl (fun K hK => ?_) (AllReadyH.nil))
        refine step_append_any _ 49 rfl rfl _ _ 23 rfl (w.heap.size + 1) 85 i0 (.agg #[.int .i64 0, .int .i64 0, .int .i64 0, .int .i64 0]) 4 32 Tryz.underlying23 hi0 hz0 hz1 hz2 rfl (by decide) _ _ _ rfl own _ _ _ rfl (takes_box bx) (by unfold maxLen; omega) (by omega) (by have := hB.size; have := hHeld.1; omega) ?_
        intro v' w2 own2 hg2
        simp only [Act.put, puA, puB, puC]
        refine hK.out _ _ ?_ (fun hHeld1 => ?_)
        · exact Box.far hHeld hg2 (fun k hk => by have := (own.lt _ hk).1; omega)
        clear hK K hHeld
        have hHeld := hHeld1
        clear hHeld1
        have hB := Below.grown hB hg2 hB.size (fun k hk => by have := (own.lt _ hk).1; omega)
        clear hg2 own
        have own := own2
        clear own2
        refine wpAnyH_ready (rs := [11]) (by kernel_rfl) (by simp) (AllReadyH.cons rfl (fun K hK => ?_) (AllReadyH.nil))
        refine step_append_any _ 53 rfl rfl _ _ 23 rfl (w.heap.size + 1) 85 i0 (.agg #[.int .i64 0, .int .i64 0, .int .i64 0, .int .i64 0]) 4 32 Tryz.underlying23 hi0 hz0 hz1 hz2 rfl (by decide) _ _ _ rfl own _ _ _ rfl (Or.inl ⟨rfl, rfl, 0, rfl⟩) (by unfold maxLen; omega) (by omega) (by have := hB.size; have := hHeld.1; omega) ?_
        intro v' w2 own2 hg2
        simp only [Act.put, puA, puB, puC]
        refine hK.out _ _ ?_ (fun hHeld1 => ?_)
        · exact Box.far hHeld hg2 (fun k hk => by have := (own.lt _ hk).1; omega)
        clear hK K hHeld
        have hHeld := hHeld1
        clear hHeld1
        have hB := Below.grown hB hg2 hB.size (fun k hk => by have := (own.lt _ hk).1; omega)
        clear hg2 own
        have own := own2
        clear own2
        refine takeL 12 4 ?_ ?_ hHeld ?_
        rotate_left
        · (intro w hSw; (try dsimp only at hSw); simp only [Box] at hSw; go_simp; try with_reducible rfl)
        simp only [Act.put, puA, puB, puC]
        refine wpAnyH_done (by kernel_rfl) ?_ _
        obtain ⟨g, cap, rfl, hg0, hg1, hg2, hg3, hg4⟩ := own_put (ds := []) (n := 0) (by simp) own
        have hg3 : Hid (cap ≤ maxLen) := hg3
        have hg4 : Hid (DrCells _ g 0 (putD 0 [] d)) := hg4
        clear own
        go_wp2
        go_ret
        exact ⟨g, cap, rfl, by omega, hg1, hg2, hg3.out, hg4.out, hB⟩
    · skip
      go_simp
      have hHeld0 := hHeld
      refine hK.out _ _ ?_ (fun hHeld1 => ?_)
      · exact Box.below hHeld (bl_alloc (bl_refl _) _)
      clear hK K hHeld
      have hHeld := hHeld1
      clear hHeld1
      refine wpAnyH_new (fun W hBl bx => ?_)
      have hB := bl_trans hB hBl
      have hHeld := Box.below hHeld0 hBl
      clear hBl hHeld0
      refine wpAnyH_ready (rs := [0]) (by kernel_rfl) (by simp) (AllReadyH.cons rfl (fun K hK => ?_) (AllReadyH.nil))
      go_simp
      have hHeld0 := hHeld
      refine hK.out _ _ ?_ (fun hHeld1 => ?_)
      · exact Box.below hHeld (bl_alloc (bl_refl _) _)
      clear hK K hHeld
      have hHeld := hHeld1
      clear hHeld1
      refine wpAnyH_own0 (base := w.heap.size + 1) 4 hHeld0.1 (fun W hBl own => ?_)
      have hfar := far0 bx
      have bx := Box.below bx hBl
      have hB := bl_trans hB hBl
      have hHeld := Box.below hHeld0 hBl
      clear hBl hHeld0
      refine wpAnyH_ready (rs := [4]) (by kernel_rfl) (by simp) (AllReadyH.cons rfl (fun K hK => ?_) (AllReadyH.nil))
      refine step_append_any _ 46 rfl rfl _ _ 23 rfl (w.heap.size + 1) 85 i0 (.agg #[.int .i64 0, .int .i64 0, .int .i64 0, .int .i64 0]) 4 32 Tryz.underlying23 hi0 hz0 hz1 hz2 rfl (by decide) _ _ _ rfl own _ _ _ rfl (Or.inl ⟨rfl, rfl, 0, rfl⟩) (by unfold maxLen; omega) (by omega) (by have := hB.size; have := hHeld.1; omega) ?_
      intro v' w2 own2 hg2
      simp only [Act.put, puA, puB, puC]
      refine hK.out _ _ ?_ (fun hHeld1 => ?_)
      · exact Box.far hHeld hg2 (fun k hk => by have := (own.lt _ hk).1; omega)
      clear hK K hHeld
      have hHeld := hHeld1
      clear hHeld1
      have hB := Below.grown hB hg2 hB.size (fun k hk => by have := (own.lt _ hk).1; omega)
      have bx := Box.far bx hg2 (fun k hk => hfar k hk)
      clear hg2 own
      have own := own2
      clear own2
      refine wpAnyH_ready (rs := [7]) (by kernel_rfl) (by simp) (AllReadyH.cons rfl (fun K hK => ?_) (AllReadyH.nil))
      refine step_append_any _ 49 rfl rfl _ _ 23 rfl (w.heap.size + 1) 85 i0 (.agg #[.int .i64 0, .int .i64 0, .int .i64 0, .int .i64 0]) 4 32 Tryz.underlying23 hi0 hz0 hz1 hz2 rfl (by decide) _ _ _ rfl own _ _ _ rfl (takes_box bx) (by unfold maxLen; omega) (by omega) (by have := hB.size; have := hHeld.1; omega) ?_
      intro v' w2 own2 hg2
      simp only [Act.put, puA, puB, puC]
      refine hK.out _ _ ?_ (fun hHeld1 => ?_)
      · exact Box.far hHeld hg2 (fun k hk => by have := (own.lt _ hk).1; omega)
      clear hK K hHeld
      have hHeld := hHeld1
      clear hHeld1
      have hB := Below.grown hB hg2 hB.size (fun k hk => by have := (own.lt _ hk).1; omega)
      clear hg2 own
      have own := own2
      clear own2
      refine wpAnyH_ready (rs := [11]) (by kernel_rfl) (by simp) (AllReadyH.cons rfl (fun K hK => ?_) (AllReadyH.nil))
      refine step_append_any _ 53 rfl rfl _ _ 23 rfl (w.heap.size + 1) 85 i0 (.agg #[.int .i64 0, .int .i64 0, .int .i64 0, .int .i64 0]) 4 32 Tryz.underlying23 hi0 hz0 hz1 hz2 rfl (by decide) _ _ _ rfl own _ _ _ rfl (Or.inl ⟨rfl, rfl, 0, rfl⟩) (by unfold maxLen; omega) (by omega) (by have := hB.size; have := hHeld.1; omega) ?_
      intro v' w2 own2 hg2
      simp only [Act.put, puA, puB, puC]
      refine hK.out _ _ ?_ (fun hHeld1 => ?_)
      · exact Box.far hHeld hg2 (fun k hk => by have := (own.lt _ hk).1; omega)
      clear hK K hHeld
      have hHeld := hHeld1
      clear hHeld1
      have hB := Below.grown hB hg2 hB.size (fun k hk => by have := (own.lt _ hk).1; omega)
      clear hg2 own
      have own := own2
      clear own2
      refine takeL 12 4 ?_ ?_ hHeld ?_
      rotate_left
      · (intro w hSw; (try dsimp only at hSw); simp only [Box] at hSw; go_simp; try with_reducible rfl)
      simp only [Act.put, puA, puB, puC]
      refine wpAnyH_done (by kernel_rfl) ?_ _
      obtain ⟨g, cap, rfl, hg0, hg1, hg2, hg3, hg4⟩ := own_put (ds := []) (n := 0) (by simp) own
      have hg3 : Hid (cap ≤ maxLen) := hg3
      have hg4 : Hid (DrCells _ g 0 (putD 0 [] d)) := hg4
      clear own
      go_wp2
      go_ret
      exact ⟨g, cap, rfl, by omega, hg1, hg2, hg3.out, hg4.out, hB⟩
end Go.Proofs.YtcgjpmhjijmplaaGreatDoor
