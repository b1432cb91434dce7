/- The law FnExactNatBoard, walked. -/
import Derived.Test.YtcgjpmhjijmplabGreatDoorLaws5
import Derived.Test.YtcgjpmhjijmplabGreatDoorBrd6
import Derived.Deep.DeepCutAuto
namespace Go.Proofs.YtcgjpmhjijmplabGreatDoor
open Go.ChangeShapes Go.WideShapes Go.ChangeAt Go.RowKit Go.Maps

set_option maxRecDepth 20000 in
set_option maxHeartbeats 8000000 in
theorem lawExBoard_ret (ad ln ow lo hi nw : Int) (da : Option Addr) (dn dc : Nat) (ea : Option Addr) (en ec : Nat) (ds : List Dr) (es : List En) (w : World) (ht : Tb w) (hd : dn ≤ maxLen) (he : en ≤ maxLen) (hD : DoorsAt w da dn ds) (hE : EntriesAt w ea en es) :
    Calls Tryz.prog 5 #[.agg #[.int .i64 ad, .int .i64 ln, .int .i64 ow, .int .i64 lo, .int .i64 hi, .slice da dn dc, .int .i64 nw, .slice ea en ec]] w fun e w' => e = .returned (.bool true) ∧ Below w.heap.size w w' := by
  obtain ⟨S, hS⟩ : ∃ S, boardS ad ln ow lo hi nw ds es = S := ⟨_, rfl⟩
  have HI : Hid (∀ W da' dc' ea' ec', Tb W → DoorsAt W da' dn ds → EntriesAt W ea' en es → Calls Tryz.prog 18 #[.agg #[.int .i64 ad, .int .i64 ln, .int .i64 ow, .int .i64 lo, .int .i64 hi, .slice da' dn dc', .int .i64 nw, .slice ea' en ec']] W fun e w' => e = .returned (.string (St S)) ∧ Below W.heap.size W w') := fun W da' dc' ea' ec' h1 h2 h3 => by rw [← hS]; exact implBoard_ret ad ln ow lo hi nw da' dn dc' ea' en ec' ds es W h1 h2 h3
  have HS : Hid (∀ W da' dc' ea' ec', DoorsAt W da' dn ds → EntriesAt W ea' en es → Calls Tryz.prog 17 #[.agg #[.int .i64 ad, .int .i64 ln, .int .i64 ow, .int .i64 lo, .int .i64 hi, .slice da' dn dc', .int .i64 nw, .slice ea' en ec']] W fun e w' => e = .returned (.string (St S)) ∧ Below W.heap.size W w') := fun W da' dc' ea' ec' h2 h3 => by rw [← hS]; exact specBoard_ret ad ln ow lo hi nw da' dn dc' ea' en ec' ds es W h2 h3
  clear hS
  have HD : Hid (∀ W, Below w.heap.size w W → DoorsAt W da dn ds) := fun W h => hD.below h
  have HE : Hid (∀ W, Below w.heap.size w W → EntriesAt W ea en es) := fun W h => hE.below h
  have hld' : dn = ds.length := hD.1
  have hle' : en = es.length := hE.1
  have hB := bl_alloc (bl_refl w) (.cells #[.int .i64 ad, .int .i64 ln, .int .i64 ow, .int .i64 lo, .int .i64 hi, .slice da dn dc, .int .i64 nw, .slice ea en ec] 25)
  have xA := Box.new w #[.int .i64 ad, .int .i64 ln, .int .i64 ow, .int .i64 lo, .int .i64 hi, .slice da dn dc, .int .i64 nw, .slice ea en ec] 25
  have hq := fun W => szB_ret ad ln ow lo hi nw da dn dc ea en ec W hd he
  have hsz : 0 ≤ szI dn en → dn ≤ 1048576 ∧ en ≤ 1048576 := by
    unfold szI subI
    repeat' split
    all_goals omega
  clear hD hE
  generalize szI dn en = left at hq hsz
  by_cases hl : left < 0
  · clear hsz hld' hle'
    go_enter Tryz.func5, Tryz.ntmps5
    go_wp2_with fail
    refine (hq _).mono ?_
    rintro e w1 ⟨rfl, hb1⟩
    go_wp2
    go_ret
    exact ⟨rfl, bl_trans hB hb1⟩
  · obtain ⟨hld0, hle0⟩ := hsz (by omega)
    have hld : ds.length ≤ 1048576 := by omega
    have hle : es.length ≤ 1048576 := by omega
    have ht : Hid (Tb w) := ht
    clear hsz hld' hle'
    go_enter Tryz.func5, Tryz.ntmps5
    go_wp2_with fail
    refine (hq _).mono ?_
    rintro e w1 ⟨rfl, hb⟩
    replace xA := xA.below hb
    replace hB := bl_trans hB hb
    clear hb hq
    have yA := xA.2
    go_wp2_with fail
    refine (toBook_ret _ _ _ _ _ _ _ _ _ _ _ _ ds es _ hld hle (HD.out _ hB) (HE.out _ hB)).mono ?_
    rintro e w2 ⟨g1, g2, rfl, hb, hDx, hEx⟩
    replace xA := xA.below hb
    replace hB := bl_trans hB hb
    clear hb yA
    go_wp2_with fail
    refine (HS.out _ _ _ _ _ hDx hEx).mono ?_
    rintro e w3 ⟨rfl, hb⟩
    replace xA := xA.below hb
    replace hB := bl_trans hB hb
    clear hb hDx hEx HS
    have yA := xA.2
    go_wp2_with fail
    refine (toBook_ret _ _ _ _ _ _ _ _ _ _ _ _ ds es _ hld hle (HD.out _ hB) (HE.out _ hB)).mono ?_
    rintro e w4 ⟨g3, g4, rfl, hb, hD5, hE5⟩
    have hBl := bl_alloc (bl_refl w4) (.cells #[.int .i64 ad, .int .i64 ln, .int .i64 ow, .int .i64 lo, .int .i64 hi, .slice (some ⟨g3, 0, none⟩) dn dn, .int .i64 nw, .slice (some ⟨g4, 0, none⟩) en en] 35)
    have x5 := Box.new w4 #[.int .i64 ad, .int .i64 ln, .int .i64 ow, .int .i64 lo, .int .i64 hi, .slice (some ⟨g3, 0, none⟩) dn dn, .int .i64 nw, .slice (some ⟨g4, 0, none⟩) en en] 35
    replace hb := bl_trans hb hBl
    replace xA := xA.below hb
    replace hD5 := hD5.below hBl
    replace hE5 := hE5.below hBl
    replace hB := bl_trans hB hb
    clear hb hBl yA
    go_upto_region 7 with fail
    generalize w4.alloc (.cells #[.int .i64 ad, .int .i64 ln, .int .i64 ow, .int .i64 lo, .int .i64 hi, .slice (some ⟨g3, 0, none⟩) dn dn, .int .i64 nw, .slice (some ⟨g4, 0, none⟩) en en] 35) = V4 at *
    generalize w4.heap.size = n5 at *
    have y5 := x5.2
    go_wp2_with fail
    refine (HI.out _ _ _ _ _ (ht.out.below hB) hD5 hE5).mono ?_
    rintro e V5 ⟨rfl, hb⟩
    replace xA := xA.below hb
    replace x5 := x5.below hb
    replace hD5 := hD5.below hb
    replace hE5 := hE5.below hb
    replace hB := bl_trans hB hb
    clear hb y5 HI
    go_upto_region 10 with fail
    generalize hnA : w.heap.size = nA at xA ⊢
    refine wp_region_held_drew (S := (fun w' => Box w' nA #[.int .i64 ad, .int .i64 ln, .int .i64 ow, .int .i64 lo, .int .i64 hi, .slice da dn dc, .int .i64 nw, .slice ea en ec] ∧ Box w' n5 #[.int .i64 ad, .int .i64 ln, .int .i64 ow, .int .i64 lo, .int .i64 hi, .slice (some ⟨g3, 0, none⟩) dn dn, .int .i64 nw, .slice (some ⟨g4, 0, none⟩) en en])) (by kernel_rfl) ?_ (fun hHeld => ?_)
    · exact ⟨xA.below (bl_drew (bl_refl _)), x5.below (bl_drew (bl_refl _))⟩
    have hb := bl_drew (bl_refl V5)
    replace xA := xA.below hb
    replace x5 := x5.below hb
    replace hD5 := hD5.below hb
    replace hE5 := hE5.below hb
    replace hB := bl_trans hB hb
    clear hb
    generalize V5.drew = W0 at xA x5 hD5 hE5 hB hHeld ⊢
    refine takeL 0 22 ?_ ?_ hHeld ?_
    rotate_left
    · (intro w hSw; (try dsimp only at hSw); simp only [Box] at hSw; go_simp; try with_reducible rfl)
    simp only [Act.put, puA, puB, puC]
    refine takeL 1 23 ?_ ?_ hHeld ?_
    rotate_left
    · (intro w hSw; (try dsimp only at hSw); simp only [Box] at hSw; go_simp; try with_reducible rfl)
    simp only [Act.put, puA, puB, puC]
    refine wpAnyH_ready (rs := [2]) (by kernel_rfl) (by simp) (AllReadyH.cons rfl (fun K hK => ?_) (AllReadyH.nil))
    refine step_callg 24 8 rfl (by kernel_rfl) (toBook_ret ad ln ow lo hi nw da dn dc ea en ec ds es _ hld hle (HD.out _ hB) (HE.out _ hB)) (by kernel_rfl) ?_
    rintro e W1 ⟨g5, g6, rfl, hb, hDx, hEx⟩
    refine ⟨_, rfl, ?_⟩
    simp only [Act.put, puA, puB, puC]
    replace xA := xA.below hb
    replace x5 := x5.below hb
    replace hD5 := hD5.below hb
    replace hE5 := hE5.below hb
    replace hB := bl_trans hB hb
    clear hb
    refine hK.out _ _ ?_ (fun hHeld1 => ?_)
    · exact ⟨xA, x5⟩
    clear hK K hHeld
    have hHeld := hHeld1
    clear hHeld1
    refine wpAnyH_ready (rs := [3]) (by kernel_rfl) (by simp) (AllReadyH.cons rfl (fun K hK => ?_) (AllReadyH.nil))
    refine step_callg 25 12 rfl (by kernel_rfl) (eqBook_same ad ln ow lo hi nw (some ⟨g3, 0, none⟩) (some ⟨g5, 0, none⟩) dn dn dn (some ⟨g4, 0, none⟩) (some ⟨g6, 0, none⟩) en en en ds es W1 hld hle hD5 hE5 hDx hEx) (by kernel_rfl) ?_
    clear hDx hEx
    rintro e W2 ⟨rfl, hb⟩
    refine ⟨_, rfl, ?_⟩
    simp only [Act.put, puA, puB, puC]
    replace xA := xA.below hb
    replace x5 := x5.below hb
    replace hD5 := hD5.below hb
    replace hE5 := hE5.below hb
    replace hB := bl_trans hB hb
    clear hb
    refine hK.out _ _ ?_ (fun hHeld1 => ?_)
    · exact ⟨xA, x5⟩
    clear hK K hHeld
    have hHeld := hHeld1
    clear hHeld1
    refine takeL 4 26 ?_ ?_ hHeld ?_
    rotate_left
    · (intro w hSw; (try dsimp only at hSw); simp only [Box] at hSw; go_simp; try with_reducible rfl)
    simp only [Act.put, puA, puB, puC]
    refine wpAnyH_done (by kernel_rfl) ?_ _
    clear hHeld
    go_wp2_with fail
    go_ret
    exact ⟨rfl, hB⟩
end Go.Proofs.YtcgjpmhjijmplabGreatDoor
