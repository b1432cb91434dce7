/- The program's small functions of chapter 3, walked. -/
import Derived.Test.YtcgjpmhjijmplaaGreatDoorImpl6
import Derived.Test.YtcgjpmhjijmplaaGreatDoorAs
import Derived.Test.YtcgjpmhjijmplaaGreatDoorMem
namespace Go.Proofs.YtcgjpmhjijmplaaGreatDoor
open Go.ChangeShapes Go.WideShapes Go.ChangeAt Go.RowKit Go.Maps

theorem natOutside_ret (ad ln ow lo hi nw : Int) (da : Option Addr) (dn dc : Nat) (ea : Option Addr) (en ec : Nat) (k a ap b bp : Int) (p : Int) (w : World) : Calls Tryz.prog 49 #[.agg #[.int .i64 ad, .int .i64 ln, .int .i64 ow, .int .i64 lo, .int .i64 hi, .slice da dn dc, .int .i64 nw, .slice ea en ec], .agg #[.int .i64 k, .int .i64 a, .int .i64 ap, .int .i64 b, .int .i64 bp], .int .i64 p] w fun e w' => e = .returned (.agg #[.int .i64 k, .int .i64 ow, .int .i64 p, .int .i64 b, .int .i64 bp]) ∧ Below w.heap.size w w' := by
  go_enter Tryz.func49, Tryz.ntmps49
  go_wp2
  refine bodyPost_ret (v := .agg #[.int .i64 k, .int .i64 ow, .int .i64 p, .int .i64 b, .int .i64 bp]) (by simp [results, Tryz.results49, go_sem]) rfl ⟨rfl, ?_⟩
  repeat (first | exact bl_refl _ | apply bl_alloc | refine bl_set ?_ (by simp) _)

def comesB (ad ln ow a b : Int) : Bool := b == ow && peerB ad ln ow a
set_option maxRecDepth 20000 in
set_option maxHeartbeats 2000000 in
theorem entryOutside_ret (ad ln ow lo hi nw : Int) (da : Option Addr) (dn dc : Nat) (ea : Option Addr) (en ec : Nat) (d : En) (w : World) : Calls Tryz.prog 165 #[.agg #[.int .i64 d.k, .int .i64 d.pr, .int .i64 d.pp, .int .i64 d.o, .int .i64 d.i, .int .i64 d.ip, .int .i64 d.l], .agg #[.int .i64 ad, .int .i64 ln, .int .i64 ow, .int .i64 lo, .int .i64 hi, .slice da dn dc, .int .i64 nw, .slice ea en ec]] w fun e w' => e = .returned (.agg #[.int .i64 d.k, .int .i64 ow, .int .i64 d.o, .int .i64 d.pr, .int .i64 d.pp]) ∧ Below w.heap.size w w' := by
  have hB := bl_alloc (bl_alloc (bl_alloc (bl_refl w) (.cells #[.int .i64 d.k, .int .i64 d.pr, .int .i64 d.pp, .int .i64 d.o, .int .i64 d.i, .int .i64 d.ip, .int .i64 d.l] 52)) (.cells #[.int .i64 ad, .int .i64 ln, .int .i64 ow, .int .i64 lo, .int .i64 hi, .slice da dn dc, .int .i64 nw, .slice ea en ec] 26)) (.cells #[.int .i64 0, .int .i64 0, .int .i64 0, .int .i64 0, .int .i64 0] 32)
  have x1 := ((Box.new w #[.int .i64 d.k, .int .i64 d.pr, .int .i64 d.pp, .int .i64 d.o, .int .i64 d.i, .int .i64 d.ip, .int .i64 d.l] 52).below (bl_alloc (bl_refl _) (.cells #[.int .i64 ad, .int .i64 ln, .int .i64 ow, .int .i64 lo, .int .i64 hi, .slice da dn dc, .int .i64 nw, .slice ea en ec] 26))).below (bl_alloc (bl_refl _) (.cells #[.int .i64 0, .int .i64 0, .int .i64 0, .int .i64 0, .int .i64 0] 32))
  have x2 := (Box.new (w.alloc (.cells #[.int .i64 d.k, .int .i64 d.pr, .int .i64 d.pp, .int .i64 d.o, .int .i64 d.i, .int .i64 d.ip, .int .i64 d.l] 52)) #[.int .i64 ad, .int .i64 ln, .int .i64 ow, .int .i64 lo, .int .i64 hi, .slice da dn dc, .int .i64 nw, .slice ea en ec] 26).below (bl_alloc (bl_refl _) (.cells #[.int .i64 0, .int .i64 0, .int .i64 0, .int .i64 0, .int .i64 0] 32))
  have bx := Bx.new ((w.alloc (.cells #[.int .i64 d.k, .int .i64 d.pr, .int .i64 d.pp, .int .i64 d.o, .int .i64 d.i, .int .i64 d.ip, .int .i64 d.l] 52)).alloc (.cells #[.int .i64 ad, .int .i64 ln, .int .i64 ow, .int .i64 lo, .int .i64 hi, .slice da dn dc, .int .i64 nw, .slice ea en ec] 26)) #[.int .i64 0, .int .i64 0, .int .i64 0, .int .i64 0, .int .i64 0] 32
  simp only [World.size_alloc] at x2 bx
  go_enter Tryz.func165, Tryz.ntmps165
  go_wp2_with fail
  generalize (((w.alloc (.cells #[.int .i64 d.k, .int .i64 d.pr, .int .i64 d.pp, .int .i64 d.o, .int .i64 d.i, .int .i64 d.ip, .int .i64 d.l] 52)).alloc (.cells #[.int .i64 ad, .int .i64 ln, .int .i64 ow, .int .i64 lo, .int .i64 hi, .slice da dn dc, .int .i64 nw, .slice ea en ec] 26)).alloc (.cells #[.int .i64 0, .int .i64 0, .int .i64 0, .int .i64 0, .int .i64 0] 32)) = W9 at x1 x2 bx hB ⊢
  refine wp_region_held_drew (S := (fun w' => Box w' w.heap.size #[.int .i64 d.k, .int .i64 d.pr, .int .i64 d.pp, .int .i64 d.o, .int .i64 d.i, .int .i64 d.ip, .int .i64 d.l] ∧ Box w' (w.heap.size + 1) #[.int .i64 ad, .int .i64 ln, .int .i64 ow, .int .i64 lo, .int .i64 hi, .slice da dn dc, .int .i64 nw, .slice ea en ec])) (by kernel_rfl) ?_ (fun hHeld => ?_)
  · exact ⟨x1.below (bl_drew (bl_refl _)), x2.below (bl_drew (bl_refl _))⟩
  have hB := bl_drew hB
  have x1 := x1.below (bl_drew (bl_refl _))
  have x2 := x2.below (bl_drew (bl_refl _))
  have bx := bx.below (bl_drew (bl_refl _))
  generalize W9.drew = W0 at x1 x2 bx hB hHeld ⊢
  refine takeL 0 5 ?_ ?_ hHeld ?_
  rotate_left
  · (intro w hSw; (try dsimp only at hSw); simp only [Box] at hSw; go_simp; try with_reducible rfl)
  simp only [Act.put, puA, puB, puC]
  refine takeL 1 6 ?_ ?_ hHeld ?_
  rotate_left
  · (intro w hSw; (try dsimp only at hSw); simp only [Box] at hSw; go_simp; try with_reducible rfl)
  simp only [Act.put, puA, puB, puC]
  refine takeL 3 8 ?_ ?_ hHeld ?_
  rotate_left
  · (intro w hSw; (try dsimp only at hSw); simp only [Box] at hSw; go_simp; try with_reducible rfl)
  simp only [Act.put, puA, puB, puC]
  refine takeL 4 9 ?_ ?_ hHeld ?_
  rotate_left
  · (intro w hSw; (try dsimp only at hSw); simp only [Box] at hSw; go_simp; try with_reducible rfl)
  simp only [Act.put, puA, puB, puC]
  refine wpAnyH_ready (rs := [2]) (by kernel_rfl) (by simp) (AllReadyH.cons rfl (fun K hK => ?_) (AllReadyH.nil))
  refine step_callg 7 157 rfl (by kernel_rfl) (eflow_ret d _) (by kernel_rfl) ?_
  rintro e w1 ⟨rfl, hb⟩
  refine ⟨_, rfl, ?_⟩
  simp only [Act.put, puA, puB, puC]
  have hB := bl_trans hB hb
  have x1 := x1.below hb
  have x2 := x2.below hb
  have bx := bx.below hb
  clear hb
  refine hK.out _ _ ?_ (fun hHeld1 => ?_)
  · exact ⟨x1, x2⟩
  clear hK K hHeld
  have hHeld := hHeld1
  clear hHeld1
  refine wpAnyH_ready (rs := [5]) (by kernel_rfl) (by simp) (AllReadyH.cons rfl (fun K hK => ?_) (AllReadyH.nil))
  refine step_callg 10 49 rfl (by kernel_rfl) (natOutside_ret ad ln ow lo hi nw da dn dc ea en ec d.k d.i d.ip d.pr d.pp d.o _) (by kernel_rfl) ?_
  rintro e w1 ⟨rfl, hb⟩
  refine ⟨_, rfl, ?_⟩
  simp only [Act.put, puA, puB, puC]
  have hB := bl_trans hB hb
  have x1 := x1.below hb
  have x2 := x2.below hb
  have bx := bx.below hb
  clear hb
  refine hK.out _ _ ?_ (fun hHeld1 => ?_)
  · exact ⟨x1, x2⟩
  clear hK K hHeld
  have hHeld := hHeld1
  clear hHeld1
  refine wpAnyH_ready (rs := [6]) (by kernel_rfl) (by simp) (AllReadyH.cons rfl (fun K hK => ?_) (AllReadyH.nil))
  obtain ⟨⟨bx1, bx2⟩, bx3⟩ := id bx
  go_simp
  have bx := bx.set5 (.int .i64 d.k) (.int .i64 ow) (.int .i64 d.o) (.int .i64 d.pr) (.int .i64 d.pp)
  have hB := bl_set (bl_set (bl_set (bl_set (bl_set hB (p := ⟨w.heap.size + 1 + 1, 0, none⟩) (by simp; omega) (.int .i64 d.k)) (p := ⟨w.heap.size + 1 + 1, 1, none⟩) (by simp; omega) (.int .i64 ow)) (p := ⟨w.heap.size + 1 + 1, 2, none⟩) (by simp; omega) (.int .i64 d.o)) (p := ⟨w.heap.size + 1 + 1, 3, none⟩) (by simp; omega) (.int .i64 d.pr)) (p := ⟨w.heap.size + 1 + 1, 4, none⟩) (by simp; omega) (.int .i64 d.pp)
  have x1 := x1.other5 (n := w.heap.size + 1 + 1) (by omega) (.int .i64 d.k) (.int .i64 ow) (.int .i64 d.o) (.int .i64 d.pr) (.int .i64 d.pp)
  have x2 := x2.other5 (n := w.heap.size + 1 + 1) (by omega) (.int .i64 d.k) (.int .i64 ow) (.int .i64 d.o) (.int .i64 d.pr) (.int .i64 d.pp)
  refine hK.out _ _ ?_ (fun hHeld1 => ?_)
  · exact ⟨x1, x2⟩
  clear hK K hHeld
  have hHeld := hHeld1
  clear hHeld1
  refine wpAnyH_done (by kernel_rfl) ?_ _
  go_wp2
  obtain ⟨⟨t1, t2⟩, t3⟩ := id bx
  exact bodyPost_ret (v := .agg #[.int .i64 d.k, .int .i64 ow, .int .i64 d.o, .int .i64 d.pr, .int .i64 d.pp]) (by simp [results, Tryz.results165, go_sem, t2]) rfl ⟨rfl, hB⟩

theorem lives_v (ad ln ow lo hi nw : Int) (da : Option Addr) (dn dc : Nat) (ea : Option Addr) (en ec : Nat) (d : En) (r : Bool) (w : World) (n0 : 0 ≤ nw) (n1 : nw ≤ 1000000) (q0 : 0 ≤ d.l) (q1 : d.l ≤ nw) (hv : liveB nw d.l = r) :
    Calls Tryz.prog 155 #[.agg #[.int .i64 ad, .int .i64 ln, .int .i64 ow, .int .i64 lo, .int .i64 hi, .slice da dn dc, .int .i64 nw, .slice ea en ec], .agg #[.int .i64 d.k, .int .i64 d.pr, .int .i64 d.pp, .int .i64 d.o, .int .i64 d.i, .int .i64 d.ip, .int .i64 d.l]] w fun e w' => e = .returned (.bool r) ∧ Below w.heap.size w w' := by
  subst hv; exact lives_b ad ln ow lo hi nw da dn dc ea en ec d w n0 n1 q0 q1
/-- The one variable that errors.As reads. -/
def Gl (w : World) : Prop := w.cell? ⟨0, 0, none⟩ = some (.iface 202 (.agg #[.pointer (some ⟨5, 74, none⟩)]))
theorem Gl.pos {w : World} (h : Gl w) : 0 < w.heap.size := by
  rcases Nat.eq_zero_or_pos w.heap.size with h0 | h'
  · simp [Gl, World.cell?, h0] at h
  · exact h'
theorem Gl.below {w w' : World} (h : Gl w) (hb : Below w.heap.size w w') : Gl w' := (hb.cell (p := ⟨0, 0, none⟩) h.pos).trans h
theorem natCode_ret (c : Int) (w : World) (hg : Gl w) : Calls Tryz.prog 58 #[.iface 133 (.int .i64 c)] w fun e w' => e = .returned (.int .i64 c) ∧ Below w.heap.size w w' := by
  have hBl := bl_alloc (bl_refl w) (.cells #[.int .i64 0] 133)
  have bx := Bx.new w #[.int .i64 0] 133
  have H : Hid (Calls Tryz.prog _ _ _ _) := as_hit c ⟨w.heap.size, 0, none⟩ (.int .i64 0) _ (hg.below hBl) (bx.1.2 0) (bx.2 0)
  go_enter Tryz.func58, Tryz.ntmps58
  go_wp2_with fail
  refine H.out.mono ?_
  rintro e w1 ⟨rfl, W, hb1, rfl⟩
  have bx := (bx.below hb1).set (j := 0) (by simp) (.int .i64 c)
  have hB := bl_set (p := ⟨w.heap.size, 0, none⟩) (bl_trans hBl hb1) (by simp) (.int .i64 c)
  obtain ⟨⟨t1, t2⟩, t3⟩ := id bx
  have c0 := t2 0
  generalize W.setCell ⟨w.heap.size, 0, none⟩ (.int .i64 c) = W1 at *
  simp at c0
  go_wp2
  go_ret
  exact ⟨rfl, hB⟩
end Go.Proofs.YtcgjpmhjijmplaaGreatDoor
