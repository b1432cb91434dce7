/- The specification's l2Copy, walked. -/
import Derived.Test.YtcgjpmhjijmplaaGreatDoorTick1
namespace Go.Proofs.YtcgjpmhjijmplaaGreatDoor
open Go.ChangeShapes Go.WideShapes Go.ChangeAt Go.RowKit Go.Maps

set_option maxRecDepth 20000 in
set_option maxHeartbeats 2000000 in
theorem l2Copy_ret (ad ln ow lo hi nw : Int) (da : Option Addr) (dn dc : Nat) (ea : Option Addr) (en ec : Nat) (ds : List Dr) (es : List En) (w : World) (hD : DoorsAt w da dn ds) (hE : EntriesAt w ea en es) (hdl : dn ≤ 1048576) (hel : en ≤ 1048576) :
    Calls Tryz.prog 50 #[.agg #[.int .i64 ad, .int .i64 ln, .int .i64 ow, .int .i64 lo, .int .i64 hi, .slice da dn dc, .int .i64 nw, .slice ea en ec]] w fun e w' => ∃ va vc ua uc, e = .returned (.agg #[.int .i64 ad, .int .i64 ln, .int .i64 ow, .int .i64 lo, .int .i64 hi, .slice va dn vc, .int .i64 nw, .slice ua en uc]) ∧ OwnB w' w.heap.size (.slice va dn vc) ds (.slice ua en uc) es ∧ Below w.heap.size w w' := by
  obtain ⟨i0, hi0, hz0, hz1, hz2⟩ := info_parts infoDr
  obtain ⟨j0, hj0, hy0, hy1, hy2⟩ := info_parts infoEn
  have hb0 := bl_alloc (bl_alloc (bl_refl w) (.cells #[.int .i64 ad, .int .i64 ln, .int .i64 ow, .int .i64 lo, .int .i64 hi, .slice da dn dc, .int .i64 nw, .slice ea en ec] 26)) (.cells #[.int .i64 0, .int .i64 0, .int .i64 0, .int .i64 0, .int .i64 0, .slice none 0 0, .int .i64 0, .slice none 0 0] 26)
  have x1 := (Bx.new w #[.int .i64 ad, .int .i64 ln, .int .i64 ow, .int .i64 lo, .int .i64 hi, .slice da dn dc, .int .i64 nw, .slice ea en ec] 26).below (bl_alloc (bl_refl _) (.cells #[.int .i64 0, .int .i64 0, .int .i64 0, .int .i64 0, .int .i64 0, .slice none 0 0, .int .i64 0, .slice none 0 0] 26))
  have bx := Bx.new (w.alloc (.cells #[.int .i64 ad, .int .i64 ln, .int .i64 ow, .int .i64 lo, .int .i64 hi, .slice da dn dc, .int .i64 nw, .slice ea en ec] 26)) #[.int .i64 0, .int .i64 0, .int .i64 0, .int .i64 0, .int .i64 0, .slice none 0 0, .int .i64 0, .slice none 0 0] 26
  simp only [World.size_alloc] at bx
  have hdl' : Hid (dn = ds.length) := hD.1
  have hel' : Hid (en = es.length) := hE.1
  have hT : Hid (∀ W, Below w.heap.size w W → Takes W 4 (.slice da dn dc) dn (flatD ds)) := fun W h => takes_doorsAt (hD.below h)
  have hU : Hid (∀ W, Below w.heap.size w W → Takes W 7 (.slice ea en ec) en (flatE es)) := fun W h => takes_entriesAt (hE.below h)
  clear hD hE
  go_enter Tryz.func50, Tryz.ntmps50
  go_upto_region 2 with (at_builtin; refine wpList_append_any _ 6 rfl rfl _ _ 23 rfl (w.heap.size + 1 + 1) 85 i0 (.agg #[.int .i64 0, .int .i64 0, .int .i64 0, .int .i64 0]) 4 32 Tryz.underlying23 hi0 hz0 hz1 hz2 rfl (by decide) _ _ _ rfl (own_empty_at ((w.alloc (.cells #[.int .i64 ad, .int .i64 ln, .int .i64 ow, .int .i64 lo, .int .i64 hi, .slice da dn dc, .int .i64 nw, .slice ea en ec] 26)).alloc (.cells #[.int .i64 0, .int .i64 0, .int .i64 0, .int .i64 0, .int .i64 0, .slice none 0 0, .int .i64 0, .slice none 0 0] 26)) _ (by simp) _ 4) _ _ _ rfl (hT.out _ (bl_alloc hb0 _)) (by unfold maxLen; omega) (by omega) (by simp) ?_; intro v' w2 hod hg2; simp only [Nat.zero_add, List.nil_append] at hod; obtain ⟨va, vc, rfl⟩ := own_slice hod; have hb2 := Below.grown (bl_alloc (bl_refl ((w.alloc (.cells #[.int .i64 ad, .int .i64 ln, .int .i64 ow, .int .i64 lo, .int .i64 hi, .slice da dn dc, .int .i64 nw, .slice ea en ec] 26)).alloc (.cells #[.int .i64 0, .int .i64 0, .int .i64 0, .int .i64 0, .int .i64 0, .slice none 0 0, .int .i64 0, .slice none 0 0] 26))) (.cells #[] 85)) hg2 (by simp) (fun k hk => by have := Option.some.inj (show some (w.heap.size + 1 + 1) = some k from hk); simp; omega); replace x1 := x1.below hb2; replace bx := bx.below hb2; have hB1 := bl_trans hb0 hb2; have hs1 := hb2.size; simp only [World.size_alloc] at hs1; obtain ⟨⟨q1, q2⟩, q3⟩ := id x1)
  clear q1 q2 q3 hb2 hg2
  have hodo := hod
  replace x1 := x1.set (j := 5) (by simp) (.slice va dn vc)
  replace bx := bx.other (m := w.heap.size) (j := 5) (by omega) (.slice va dn vc)
  replace hod := own_other (m := w.heap.size) (j := 5) hod (by omega) (.slice va dn vc)
  have hB2 := bl_set (p := ⟨w.heap.size, 5, none⟩) hB1 (by simp) (.slice va dn vc)
  have hz2 : Hid ((w2.setCell ⟨w.heap.size, 5, none⟩ (.slice va dn vc)).heap.size = w2.heap.size) := by simp [World.setCell, Hid]
  generalize w2.setCell ⟨w.heap.size, 5, none⟩ (.slice va dn vc) = w3 at *
  obtain ⟨⟨q1, q2⟩, q3⟩ := id x1
  go_upto_region 3 with (at_builtin; refine wpList_append_any _ 11 rfl rfl _ _ 24 rfl w3.heap.size 52 j0 (.agg #[.int .i64 0, .int .i64 0, .int .i64 0, .int .i64 0, .int .i64 0, .int .i64 0, .int .i64 0]) 7 56 Tryz.underlying24 hj0 hy0 hy1 hy2 rfl (by decide) _ _ _ rfl (own_empty_at w3 _ rfl _ 7) _ _ _ rfl (hU.out _ (bl_alloc hB2 _)) (by unfold maxLen; omega) (by omega) (by simp) ?_; intro v' w4 hoe hg4; simp only [Nat.zero_add, List.nil_append] at hoe; obtain ⟨ua, uc, rfl⟩ := own_slice hoe; have hb4 := Below.grown (bl_alloc (bl_refl w3) (.cells #[] 52)) hg4 (by simp) (fun k hk => by have := Option.some.inj (show some w3.heap.size = some k from hk); omega); clear q1 q2 q3; replace x1 := x1.below hb4; replace bx := bx.below hb4; replace hod := ownsRow_bl hod hb4; have hB3 := bl_trans hB2 hb4; obtain ⟨⟨q1, q2⟩, q3⟩ := id x1; obtain ⟨⟨p1, p2⟩, p3⟩ := id bx)
  have hdis : ∀ g, (Value.slice va dn vc).ownBlock = some g → (Value.slice ua en uc).ownBlock ≠ some g := by
    intro g h1 h2
    have h3 := (hoe.lt g h2).1
    have h4 := (hodo.lt g h1).2
    have h5 := hz2.out
    omega
  clear q1 q2 q3 hb4 hg4 hodo
  have hz3 := hz2.out
  have bx2 := bx.other (m := w.heap.size) (j := 7) (by omega) (.slice ua en uc)
  have x2 := x1.set (j := 7) (by simp) (.slice ua en uc)
  replace hod := own_other (m := w.heap.size) (j := 7) hod (by omega) (.slice ua en uc)
  replace hoe := own_other (m := w.heap.size) (j := 7) hoe (by omega) (.slice ua en uc)
  have hB4 := bl_set (p := ⟨w.heap.size, 7, none⟩) hB3 (by simp) (.slice ua en uc)
  clear bx x1 p1 p2 p3
  generalize w4.setCell ⟨w.heap.size, 7, none⟩ (.slice ua en uc) = w5 at *
  have x2 : Bx w5 w.heap.size #[.int .i64 ad, .int .i64 ln, .int .i64 ow, .int .i64 lo, .int .i64 hi, .slice va dn vc, .int .i64 nw, .slice ua en uc] := x2
  obtain ⟨⟨q1, q2⟩, q3⟩ := id x2
  obtain ⟨⟨p1, p2⟩, p3⟩ := id bx2
  go_wp2_with fail
  have hbv := bx2.set8 (.int .i64 ad) (.int .i64 ln) (.int .i64 ow) (.int .i64 lo) (.int .i64 hi) (.slice va dn vc) (.int .i64 nw) (.slice ua en uc)
  obtain ⟨⟨t1, t2⟩, t3⟩ := id hbv
  refine bodyPost_ret (v := .agg #[.int .i64 ad, .int .i64 ln, .int .i64 ow, .int .i64 lo, .int .i64 hi, .slice va dn vc, .int .i64 nw, .slice ua en uc]) (by simp [results, Tryz.results50, go_sem, t2]) rfl ⟨va, vc, ua, uc, rfl, ⟨?_, ?_, hdis⟩, ?_⟩
  · rw [← hdl'.out]
    exact own_mono (own_other8 hod (m := w.heap.size + 1) (by omega) (.int .i64 ad) (.int .i64 ln) (.int .i64 ow) (.int .i64 lo) (.int .i64 hi) (.slice va dn vc) (.int .i64 nw) (.slice ua en uc)) (by omega)
  · rw [← hel'.out]
    exact own_mono (own_other8 hoe (m := w.heap.size + 1) (by omega) (.int .i64 ad) (.int .i64 ln) (.int .i64 ow) (.int .i64 lo) (.int .i64 hi) (.slice va dn vc) (.int .i64 nw) (.slice ua en uc)) (by omega)
  · exact bl_set8 hB4 (n := w.heap.size + 1) (by omega) (.int .i64 ad) (.int .i64 ln) (.int .i64 ow) (.int .i64 lo) (.int .i64 hi) (.slice va dn vc) (.int .i64 nw) (.slice ua en uc)
end Go.Proofs.YtcgjpmhjijmplaaGreatDoor
