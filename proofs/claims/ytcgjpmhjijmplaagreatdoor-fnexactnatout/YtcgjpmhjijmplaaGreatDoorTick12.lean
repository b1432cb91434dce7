/- Marks in the book that was handed in; walked. -/
import Derived.Test.YtcgjpmhjijmplaaGreatDoorTick11
namespace Go.Proofs.YtcgjpmhjijmplaaGreatDoor
open Go.ChangeShapes Go.WideShapes Go.ChangeAt Go.RowKit Go.Maps

theorem rowed_doors {w : World} {g n : Nat} {ds : List Dr} (h : DoorsAt w (some ⟨g, 0, none⟩) n ds) (hg : g < w.heap.size) (hf : ∀ j, w.frozen? ⟨g, j, none⟩ = false) : Rowed w g (n * 4) := by
  refine ⟨hg, hf, fun p hp => ?_⟩
  obtain ⟨rfl, h⟩ := h
  rcases h with rfl | ⟨b, o, e, -, hc⟩
  · simp at hp
  · simp only [Option.some.injEq, Addr.mk.injEq] at e
    obtain ⟨rfl, rfl, -⟩ := e
    have hi : p / 4 < ds.length := by omega
    obtain ⟨h0, h1, h2, h3⟩ := hc (p / 4) (ds[p / 4]) (by simp [hi])
    have : p = 0 + p / 4 * 4 ∨ p = 0 + p / 4 * 4 + 1 ∨ p = 0 + p / 4 * 4 + 2 ∨ p = 0 + p / 4 * 4 + 3 := by omega
    rcases this with h | h | h | h <;> (rw [h]; exact ⟨_, by assumption⟩)
theorem rowed_entries {w : World} {g n : Nat} {es : List En} (h : EntriesAt w (some ⟨g, 0, none⟩) n es) (hg : g < w.heap.size) (hf : ∀ j, w.frozen? ⟨g, j, none⟩ = false) : Rowed w g (n * 7) := by
  refine ⟨hg, hf, fun p hp => ?_⟩
  obtain ⟨rfl, h⟩ := h
  rcases h with rfl | ⟨b, o, e, -, hc⟩
  · simp at hp
  · simp only [Option.some.injEq, Addr.mk.injEq] at e
    obtain ⟨rfl, rfl, -⟩ := e
    have hi : p / 7 < es.length := by omega
    obtain ⟨h0, h1, h2, h3, h4, h5, h6⟩ := hc (p / 7) (es[p / 7]) (by simp [hi])
    have : p = 0 + p / 7 * 7 ∨ p = 0 + p / 7 * 7 + 1 ∨ p = 0 + p / 7 * 7 + 2 ∨ p = 0 + p / 7 * 7 + 3 ∨ p = 0 + p / 7 * 7 + 4 ∨ p = 0 + p / 7 * 7 + 5 ∨ p = 0 + p / 7 * 7 + 6 := by omega
    rcases this with h | h | h | h | h | h | h <;> (rw [h]; exact ⟨_, by assumption⟩)
theorem Rowed.far {w w' : World} {g m : Nat} {row : Option Nat} (h : Rowed w g m) (hF : Far row w w') (hn : row ≠ some g) : Rowed w' g m :=
  ⟨Nat.lt_of_lt_of_le h.1 hF.size, fun j => (World.frozen?_of_block (w := w) (a := ⟨g, j, none⟩) (hF.block g h.1 hn)).trans (h.2.1 j), fun p hp => by
    obtain ⟨v, hv⟩ := h.2.2 p hp
    exact ⟨v, (World.cell?_of_block (w := w) (hF.block g h.1 hn)).trans hv⟩⟩
theorem OwnB.far2 {r s : Option Nat} {w w' : World} {base : Nat} {vd ve : Value} {ds : List Dr} {es : List En} (h : OwnB w base vd ds ve es) (hF : Far2 r s w w') (h1 : ∀ k, vd.ownBlock = some k → r ≠ some k ∧ s ≠ some k) (h2 : ∀ k, ve.ownBlock = some k → r ≠ some k ∧ s ≠ some k) : OwnB w' base vd ds ve es :=
  ⟨hF.own h.1 (fun k e => (h1 k e).1) (fun k e => (h1 k e).2), hF.own h.2.1 (fun k e => (h2 k e).1) (fun k e => (h2 k e).2), h.2.2⟩

set_option maxHeartbeats 2000000 in
theorem markBook_rowed (ad ln ow lo hi nw : Int) (g dn dc h en ec : Nat) (w : World) (hd : Rowed w g (dn * 4)) (he : Rowed w h (en * 7)) (hx : g ≠ h) (hdn : dn ≤ 1048576) (hen : en ≤ 1048576) :
    Calls Tryz.prog 38 #[.agg #[.int .i64 ad, .int .i64 ln, .int .i64 ow, .int .i64 lo, .int .i64 hi, .slice (some ⟨g, 0, none⟩) dn dc, .int .i64 nw, .slice (some ⟨h, 0, none⟩) en ec], .int .i64 1] w fun e w' => e = .returned (.int .i64 (1 + (dn * 4 : Nat) + (en * 7 : Nat))) ∧ Far2 (some g) (some h) w w' := by
  have hb0 := bl_alloc (bl_refl w) (.cells #[.int .i64 ad, .int .i64 ln, .int .i64 ow, .int .i64 lo, .int .i64 hi, .slice (some ⟨g, 0, none⟩) dn dc, .int .i64 nw, .slice (some ⟨h, 0, none⟩) en ec] 26)
  have x1 := Bx.new w #[.int .i64 ad, .int .i64 ln, .int .i64 ow, .int .i64 lo, .int .i64 hi, .slice (some ⟨g, 0, none⟩) dn dc, .int .i64 nw, .slice (some ⟨h, 0, none⟩) en ec] 26
  have hdl := hd.1
  have hel := he.1
  replace hd := hd.far (row := none) (far_of_bl hb0) (by simp)
  replace he := he.far (row := none) (far_of_bl hb0) (by simp)
  have H1 : Hid (Calls Tryz.prog _ _ _ _) := markD_ret g dn dc 1 _ hd hdn (by omega) (by omega)
  have he : Hid (Rowed _ h (en * 7)) := he
  have hdl : Hid (g < w.heap.size) := hdl
  have hel : Hid (h < w.heap.size) := hel
  have hx : Hid (g ≠ h) := hx
  clear hd
  go_enter Tryz.func38, Tryz.ntmps38
  have y1 := x1.1.2
  go_wp2_with fail
  refine H1.out.mono ?_
  rintro e w1 ⟨rfl, hA1, _, _⟩
  have hF1 := far_of_ap hA1
  replace x1 := hF1.bx x1 (fun e => by have := hdl.out; simp only [Option.some.injEq] at e; omega)
  have he1 := he.out.far hF1 (fun e => hx.out (by simpa using e))
  have H2 : Hid (Calls Tryz.prog _ _ _ _) := markE_ret h en ec (1 + (dn * 4 : Nat)) w1 he1 hen (by omega) (by omega)
  have hF1 : Hid (Far _ _ w1) := hF1
  clear H1 y1 he1 hA1
  have y1 := x1.1.2
  have hl1 := x1.1.1
  go_wp2_with fail
  refine H2.out.mono ?_
  rintro e w2 ⟨rfl, hA2, _, _⟩
  go_wp2_with fail
  go_ret
  exact ⟨rfl, (Far.after hb0 hF1.out).two (far_of_ap hA2)⟩
end Go.Proofs.YtcgjpmhjijmplaaGreatDoor
