/- A flow that came in, by value. -/
import Derived.Test.YtcgjpmhjijmplaaGreatDoorBase
namespace Go.Proofs.YtcgjpmhjijmplaaGreatDoor
open Go.ChangeShapes Go.WideShapes Go.ChangeAt Go.RowKit

theorem cellsLF : Tryz.prog.cellsOf 61 = 5 := by kernel_rfl
theorem array5 {α : Type} {cs : Array α} (h : cs.size = 5) : ∃ c0 c1 c2 c3 c4, cs = #[c0, c1, c2, c3, c4] := by
  obtain ⟨l⟩ := cs
  match l, h with
  | [c0, c1, c2, c3, c4], _ => exact ⟨c0, c1, c2, c3, c4, rfl⟩

set_option maxRecDepth 100000 in
/-- A flow that came in, by value: five integers. -/
theorem open_flow {H : Type} {enc : TypeId × Value → H} {W : World} {base : Nat} {v : Value} {d : DataW H} {p : List MemPlace}
    (hv : Value.okWide Tryz.prog W .any base 61 v) (h : DataW.Trod enc Tryz.prog W 0 (fun _ => true) true 61 v d p) :
    ∃ k a ap b bp : Int, v = .agg #[.int .i64 k, .int .i64 a, .int .i64 ap, .int .i64 b, .int .i64 bp] ∧ (Lit.int .i64 k).wf = true ∧ (Lit.int .i64 a).wf = true ∧ (Lit.int .i64 ap).wf = true ∧ (Lit.int .i64 b).wf = true ∧ (Lit.int .i64 bp).wf = true := by
  obtain ⟨cs, rfl, hsz⟩ := okWide_struct Tryz.underlying61 hv
  obtain ⟨c0, c1, c2, c3, c4, rfl⟩ := array5 (hsz.trans cellsLF)
  obtain ⟨fuel, hf⟩ := h
  obtain ⟨xs, n, _, _, _, hlen, hfs⟩ := DataW.trod_struct Tryz.underlying61 hf
  have c1' : Tryz.prog.cellsOf 3 = 1 := by kernel_rfl
  have g := fun i f hi => hfs i f hi
  match xs, hlen with
  | [y0, y1, y2, y3, y4], _ =>
    obtain ⟨x0, e0, _, w0⟩ := DataW.trod_int Tryz.underlying3 (by simpa [Value.cells, c1'] using g 0 _ rfl)
    obtain ⟨x1, e1, _, w1⟩ := DataW.trod_int Tryz.underlying3 (by simpa [Value.cells, c1'] using g 1 _ rfl)
    obtain ⟨x2, e2, _, w2⟩ := DataW.trod_int Tryz.underlying3 (by simpa [Value.cells, c1'] using g 2 _ rfl)
    obtain ⟨x3, e3, _, w3⟩ := DataW.trod_int Tryz.underlying3 (by simpa [Value.cells, c1'] using g 3 _ rfl)
    obtain ⟨x4, e4, _, w4⟩ := DataW.trod_int Tryz.underlying3 (by simpa [Value.cells, c1'] using g 4 _ rfl)
    simp at e0 e1 e2 e3 e4
    subst e0 e1 e2 e3 e4
    exact ⟨_, _, _, _, _, rfl, w0, w1, w2, w3, w4⟩
end Go.Proofs.YtcgjpmhjijmplaaGreatDoor
