/- The two exact laws of chapter 1: FnExactNatFlowOk and FnExactNatBack return true at every flow, and leave it as it was. -/
import Derived.Test.YtcgjpmhjijmplaaFlow
namespace Go.Proofs.Ytcgjpmhjijmplaa
open Go.ChangeShapes Go.WideShapes Go.ChangeAt Go.RowKit

theorem lawFlowOk_ret (k a ap b bp : Int) (w : World) : Calls Try.prog 4 #[.agg #[.int .i64 k, .int .i64 a, .int .i64 ap, .int .i64 b, .int .i64 bp]] w fun e w' => e = .returned (.bool true) ∧ Below w.heap.size w w' := by
  go_enter Try.func4, Try.ntmps4
  go_wp2_with (first
    | (go_at_call 13; refine (toFlow_ret _ _ _ _ _ _).mono ?_; rintro e w' ⟨rfl, hb⟩; obtain ⟨hc, hf⟩ := bl_cells hb; obtain ⟨hz, hy, hn⟩ := bl_sizes hb)
    | (go_at_call 12; refine (specFlowOk_ret _ _ _ _ _ _).mono ?_; rintro e w' ⟨rfl, hb⟩; obtain ⟨hc, hf⟩ := bl_cells hb; obtain ⟨hz, hy, hn⟩ := bl_sizes hb)
    | (go_at_call 11; refine (implFlowOk_ret _ _ _ _ _ _).mono ?_; rintro e w' ⟨rfl, hb⟩; obtain ⟨hc, hf⟩ := bl_cells hb; obtain ⟨hz, hy, hn⟩ := bl_sizes hb))
  go_ret
  refine ⟨rfl, ?_⟩
  repeat (first | exact bl_refl _ | apply bl_alloc | (refine bl_trans ?_ (by assumption)))

theorem lawBack_ret (k a ap b bp : Int) (w : World) : Calls Try.prog 5 #[.agg #[.int .i64 k, .int .i64 a, .int .i64 ap, .int .i64 b, .int .i64 bp]] w fun e w' => e = .returned (.bool true) ∧ Below w.heap.size w w' := by
  go_enter Try.func5, Try.ntmps5
  go_wp2_with fail
  refine (toFlow_ret _ _ _ _ _ _).mono ?_
  rintro e w1 ⟨rfl, hb1⟩
  have z1 := hb1.size
  simp only [World.size_alloc] at z1
  go_wp2_with fail
  refine (specBack_ret _ _ _ _ _ _).mono ?_
  rintro e w2 ⟨rfl, hb2⟩
  have z2 := hb2.size
  have l2 : w.heap.size < w2.heap.size := by omega
  have c1 : ∀ o, w2.cell? ⟨w.heap.size, o, none⟩ = _ := fun o => ((bl_trans hb1 hb2).cell (p := ⟨w.heap.size, o, none⟩) (by simp))
  go_wp2_with fail
  refine (toFlow_ret _ _ _ _ _ _).mono ?_
  rintro e w3 ⟨rfl, hb3⟩
  have z3 := hb3.size
  simp only [World.size_alloc] at z3
  go_wp2_with fail
  refine (implBack_ret _ _ _ _ _ _).mono ?_
  rintro e w4 ⟨rfl, hb4⟩
  have z4 := hb4.size
  have l4 : w2.heap.size < w4.heap.size := by omega
  have c4 : ∀ o, w4.cell? ⟨w2.heap.size, o, none⟩ = _ := fun o => ((bl_trans hb3 hb4).cell (p := ⟨w2.heap.size, o, none⟩) (by simp))
  go_wp2_with fail
  refine (eqFlow_same _ _ _ _ _ _).mono ?_
  rintro e w5 ⟨rfl, hb5⟩
  go_wp2
  go_ret
  exact ⟨rfl, bl_trans (bl_alloc (bl_trans (bl_trans (bl_alloc (bl_trans (bl_trans (bl_alloc (bl_refl _) _) hb1) hb2) _) hb3) hb4) _) hb5⟩

theorem own : ownKnob Try.prog.godebug = none := by kernel_rfl
theorem laidOut : laidOutB Try.prog = true := by kernel_rfl
theorem cellsLF : Try.prog.cellsOf 29 = 5 := by kernel_rfl
theorem array5 {α : Type} {cs : Array α} (h : cs.size = 5) : ∃ c0 c1 c2 c3 c4, cs = #[c0, c1, c2, c3, c4] := by
  obtain ⟨l⟩ := cs
  match l, h with
  | [c0, c1, c2, c3, c4], _ => exact ⟨c0, c1, c2, c3, c4, rfl⟩

/-- A flow that came in, by value: five integers. -/
theorem open_flow {H : Type} {enc : TypeId × Value → H} {W : World} {base : Nat} {v : Value} {d : DataW H} {p : List MemPlace}
    (hv : Value.okWide Try.prog W .any base 29 v) (h : DataW.Trod enc Try.prog W 0 (fun _ => true) true 29 v d p) :
    ∃ k a ap b bp : Int, v = .agg #[.int .i64 k, .int .i64 a, .int .i64 ap, .int .i64 b, .int .i64 bp] ∧ (Lit.int .i64 k).wf = true ∧ (Lit.int .i64 a).wf = true ∧ (Lit.int .i64 ap).wf = true ∧ (Lit.int .i64 b).wf = true ∧ (Lit.int .i64 bp).wf = true := by
  obtain ⟨cs, rfl, hsz⟩ := okWide_struct Try.underlying29 hv
  obtain ⟨c0, c1, c2, c3, c4, rfl⟩ := array5 (hsz.trans cellsLF)
  obtain ⟨fuel, hf⟩ := h
  obtain ⟨xs, n, _, _, _, hlen, hfs⟩ := DataW.trod_struct Try.underlying29 hf
  have c1' : Try.prog.cellsOf 3 = 1 := by kernel_rfl
  have g := fun i f hi => hfs i f hi
  match xs, hlen with
  | [y0, y1, y2, y3, y4], _ =>
    obtain ⟨x0, e0, _, w0⟩ := DataW.trod_int Try.underlying3 (by simpa [Value.cells, c1'] using g 0 _ rfl)
    obtain ⟨x1, e1, _, w1⟩ := DataW.trod_int Try.underlying3 (by simpa [Value.cells, c1'] using g 1 _ rfl)
    obtain ⟨x2, e2, _, w2⟩ := DataW.trod_int Try.underlying3 (by simpa [Value.cells, c1'] using g 2 _ rfl)
    obtain ⟨x3, e3, _, w3⟩ := DataW.trod_int Try.underlying3 (by simpa [Value.cells, c1'] using g 3 _ rfl)
    obtain ⟨x4, e4, _, w4⟩ := DataW.trod_int Try.underlying3 (by simpa [Value.cells, c1'] using g 4 _ rfl)
    simp at e0 e1 e2 e3 e4
    subst e0 e1 e2 e3 e4
    exact ⟨_, _, _, _, _, rfl, w0, w1, w2, w3, w4⟩
end Go.Proofs.Ytcgjpmhjijmplaa
