/- The laws' copy of a book, and whether two books are the same; walked. -/
import Derived.Test.YtcgjpmhjijmplabGreatDoorLaws4
namespace Go.Proofs.YtcgjpmhjijmplabGreatDoor
open Go.ChangeShapes Go.WideShapes Go.ChangeAt Go.RowKit Go.Maps

theorem Box.set {w : World} {n j : Nat} {C : Array Value} (h : Box w n C) (v : Value) (hj : j < C.size) : Box (w.setCell ⟨n, j, none⟩ v) n (C.setIfInBounds j v) := by
  refine ⟨by have := h.1; simpa [World.setCell] using this, fun i => ?_⟩
  by_cases hij : j = i
  · subst hij
    have hu : w.cell? ⟨n, j, none⟩ = some C[j] := by rw [h.2 j]; simp [hj]
    rw [World.cell?_setCell_same _ _ _ hu]
    simp [hj]
  · rw [World.cell?_setCell_other _ _ _ _ (by simp), h.2 i]
    simp [hij]
theorem Box.set_other {w : World} {n m j : Nat} {C : Array Value} (h : Box w n C) (v : Value) (hm : m ≠ n) : Box (w.setCell ⟨m, j, none⟩ v) n C := by
  refine ⟨by have := h.1; simpa [World.setCell] using this, fun i => ?_⟩
  rw [World.cell?_setCell_other _ _ _ _ (fun e => hm (by injection e))]; exact h.2 i

theorem DoorsAt.set {w : World} {b o n g j : Nat} {ds : List Dr} {v : Value} (h : DoorsAt w (some ⟨b, o, none⟩) n ds) (hne : g ≠ b) : DoorsAt (w.setCell ⟨g, j, none⟩ v) (some ⟨b, o, none⟩) n ds := by
  refine ⟨h.1, ?_⟩
  rcases h.2 with h | ⟨b', o', e, hlt, hc⟩
  · exact Or.inl h
  · obtain ⟨rfl, rfl⟩ : b = b' ∧ o = o' := by simpa using e
    refine Or.inr ⟨b, o, rfl, by simpa [World.setCell] using hlt, fun i d hi => ?_⟩
    obtain ⟨h0, h1, h2, h3⟩ := hc i d hi
    refine ⟨?_, ?_, ?_, ?_⟩ <;> (rw [World.cell?_setCell_other _ _ _ _ (fun e => hne (by injection e))]; assumption)
theorem EntriesAt.set {w : World} {b o n g j : Nat} {es : List En} {v : Value} (h : EntriesAt w (some ⟨b, o, none⟩) n es) (hne : g ≠ b) : EntriesAt (w.setCell ⟨g, j, none⟩ v) (some ⟨b, o, none⟩) n es := by
  refine ⟨h.1, ?_⟩
  rcases h.2 with h | ⟨b', o', e, hlt, hc⟩
  · exact Or.inl h
  · obtain ⟨rfl, rfl⟩ : b = b' ∧ o = o' := by simpa using e
    refine Or.inr ⟨b, o, rfl, by simpa [World.setCell] using hlt, fun i d hi => ?_⟩
    obtain ⟨h0, h1, h2, h3, h4, h5, h6⟩ := hc i d hi
    refine ⟨?_, ?_, ?_, ?_, ?_, ?_, ?_⟩ <;> (rw [World.cell?_setCell_other _ _ _ _ (fun e => hne (by injection e))]; assumption)

set_option maxHeartbeats 4000000 in
theorem toBook_own (ad ln ow lo hi nw : Int) (da : Option Addr) (dn dc : Nat) (ea : Option Addr) (en ec : Nat) (ds : List Dr) (es : List En) (w : World) (hld : ds.length ≤ 1048576) (hle : es.length ≤ 1048576) (hD : DoorsAt w da dn ds) (hE : EntriesAt w ea en es) :
    Calls Tryz.prog 8 #[.agg #[.int .i64 ad, .int .i64 ln, .int .i64 ow, .int .i64 lo, .int .i64 hi, .slice da dn dc, .int .i64 nw, .slice ea en ec]] w fun e w' => ∃ g1 g2, e = .returned (.agg #[.int .i64 ad, .int .i64 ln, .int .i64 ow, .int .i64 lo, .int .i64 hi, .slice (some ⟨g1, 0, none⟩) dn dn, .int .i64 nw, .slice (some ⟨g2, 0, none⟩) en en]) ∧ Below w.heap.size w w' ∧ DoorsAt w' (some ⟨g1, 0, none⟩) dn ds ∧ EntriesAt w' (some ⟨g2, 0, none⟩) en es ∧ w.heap.size ≤ g1 ∧ g1 < g2 ∧ g2 < w'.heap.size ∧ (∀ j, w'.frozen? ⟨g1, j, none⟩ = false) ∧ ∀ j, w'.frozen? ⟨g2, j, none⟩ = false := by
  have hD1 : Hid (∀ W, Below w.heap.size w W → DoorsAt W da dn ds) := fun W h => hD.below h
  have hE1 : Hid (∀ W, Below w.heap.size w W → EntriesAt W ea en es) := fun W h => hE.below h
  clear hD hE
  go_enter Tryz.func8, Tryz.ntmps8
  go_wp2_with fail
  refine (toDs_own _ _ _ ds _ hld (hD1.out _ (by repeat (first | exact bl_refl _ | apply bl_alloc)))).mono ?_
  rintro e w1 ⟨rfl, hb1, hD2', hsD', fD'⟩
  have fD : ∀ j, w1.frozen? ⟨w.heap.size + 1 + 1 + 1, j, none⟩ = false := by
    simp only [World.size_alloc] at fD'
    exact fD'
  have hsD : w.heap.size + 1 + 1 + 1 < w1.heap.size := by
    simp only [World.size_alloc] at hsD'
    exact hsD'
  clear fD' hsD'
  have hD2 : Hid (DoorsAt w1 (some ⟨w.heap.size + 1 + 1 + 1, 0, none⟩) dn ds) := by
    have h := hD2'
    simp only [World.size_alloc] at h
    exact h
  clear hD2'
  have xA : Box w1 w.heap.size #[.int .i64 ad, .int .i64 ln, .int .i64 ow, .int .i64 lo, .int .i64 hi, .slice da dn dc, .int .i64 nw, .slice ea en ec] := (((Box.new w #[.int .i64 ad, .int .i64 ln, .int .i64 ow, .int .i64 lo, .int .i64 hi, .slice da dn dc, .int .i64 nw, .slice ea en ec] 25).below (bl_alloc (bl_refl _) _)).below (bl_alloc (bl_refl _) _)).below hb1
  have xB : Box w1 (w.heap.size + 1) #[.int .i64 0, .int .i64 0, .int .i64 0, .int .i64 0, .int .i64 0, .slice none 0 0, .int .i64 0, .slice none 0 0] := by
    have h := (Box.new (w.alloc (.cells #[.int .i64 ad, .int .i64 ln, .int .i64 ow, .int .i64 lo, .int .i64 hi, .slice da dn dc, .int .i64 nw, .slice ea en ec] 25)) #[.int .i64 0, .int .i64 0, .int .i64 0, .int .i64 0, .int .i64 0, .slice none 0 0, .int .i64 0, .slice none 0 0] 35).below (bl_alloc (bl_refl _) (.cells #[.int .i64 ad, .int .i64 ln, .int .i64 ow, .int .i64 lo, .int .i64 hi, .slice none 0 0, .int .i64 0, .slice none 0 0] 35))
    rw [World.size_alloc] at h
    exact h.below hb1
  have xC : Box w1 (w.heap.size + 1 + 1) #[.int .i64 ad, .int .i64 ln, .int .i64 ow, .int .i64 lo, .int .i64 hi, .slice none 0 0, .int .i64 0, .slice none 0 0] := by
    have h := Box.new ((w.alloc (.cells #[.int .i64 ad, .int .i64 ln, .int .i64 ow, .int .i64 lo, .int .i64 hi, .slice da dn dc, .int .i64 nw, .slice ea en ec] 25)).alloc (.cells #[.int .i64 0, .int .i64 0, .int .i64 0, .int .i64 0, .int .i64 0, .slice none 0 0, .int .i64 0, .slice none 0 0] 35)) #[.int .i64 ad, .int .i64 ln, .int .i64 ow, .int .i64 lo, .int .i64 hi, .slice none 0 0, .int .i64 0, .slice none 0 0] 35
    rw [World.size_alloc, World.size_alloc] at h
    exact h.below hb1
  have fB : ∀ j, w1.frozen? ⟨w.heap.size + 1, j, none⟩ = false := fun j => (hb1.frozen (p := ⟨w.heap.size + 1, j, none⟩) (by simp)).trans (by go_simp)
  have fC : ∀ j, w1.frozen? ⟨w.heap.size + 1 + 1, j, none⟩ = false := fun j => (hb1.frozen (p := ⟨w.heap.size + 1 + 1, j, none⟩) (by simp)).trans (by go_simp)
  have yA := xA.2
  have yB := xB.2
  have yC := xC.2
  have hB1 : Below w.heap.size w w1 := bl_trans (bl_alloc (bl_alloc (bl_alloc (bl_refl _) _) _) _) hb1
  go_wp2_with fail
  have hBa : Below w.heap.size w ((w1.setCell ⟨w.heap.size + 1 + 1, 5, none⟩ (.slice (some ⟨w.heap.size + 1 + 1 + 1, 0, none⟩) dn dn)).setCell ⟨w.heap.size + 1 + 1, 6, none⟩ (.int .i64 nw)) := bl_set (bl_set hB1 (by simp; omega) _) (by simp; omega) _
  refine (toEs_own _ _ _ es _ hle (hE1.out _ hBa)).mono ?_
  rintro e w2 ⟨he, hb2, hE2', hsE, fE⟩
  have hgD : w.heap.size + 1 + 1 + 1 < (((w1.setCell ⟨w.heap.size + 1 + 1, 5, none⟩ (.slice (some ⟨w.heap.size + 1 + 1 + 1, 0, none⟩) dn dn)).setCell ⟨w.heap.size + 1 + 1, 6, none⟩ (.int .i64 nw))).heap.size := by simpa [World.setCell] using hsD
  have fD2 : Hid (∀ j, w2.frozen? ⟨w.heap.size + 1 + 1 + 1, j, none⟩ = false) := fun j => (hb2.frozen (p := ⟨w.heap.size + 1 + 1 + 1, j, none⟩) hgD).trans (by simp [fD])
  have xA2 := ((xA.set_other (m := w.heap.size + 1 + 1) (j := 5) (.slice (some ⟨w.heap.size + 1 + 1 + 1, 0, none⟩) dn dn) (by omega)).set_other (m := w.heap.size + 1 + 1) (j := 6) (.int .i64 nw) (by omega)).below hb2
  have xB2 := ((xB.set_other (m := w.heap.size + 1 + 1) (j := 5) (.slice (some ⟨w.heap.size + 1 + 1 + 1, 0, none⟩) dn dn) (by omega)).set_other (m := w.heap.size + 1 + 1) (j := 6) (.int .i64 nw) (by omega)).below hb2
  have xC2 : Box w2 (w.heap.size + 1 + 1) #[.int .i64 ad, .int .i64 ln, .int .i64 ow, .int .i64 lo, .int .i64 hi, (.slice (some ⟨w.heap.size + 1 + 1 + 1, 0, none⟩) dn dn), .int .i64 nw, .slice none 0 0] := ((xC.set (j := 5) (.slice (some ⟨w.heap.size + 1 + 1 + 1, 0, none⟩) dn dn) (by simp)).set (j := 6) (.int .i64 nw) (by simp)).below hb2
  have fB2 : ∀ j, w2.frozen? ⟨w.heap.size + 1, j, none⟩ = false := fun j => (hb2.frozen (p := ⟨w.heap.size + 1, j, none⟩) ((xB.set_other (m := w.heap.size + 1 + 1) (j := 5) (.slice (some ⟨w.heap.size + 1 + 1 + 1, 0, none⟩) dn dn) (by omega)).set_other (m := w.heap.size + 1 + 1) (j := 6) (.int .i64 nw) (by omega)).1).trans (by simp [fB])
  have fC2 : ∀ j, w2.frozen? ⟨w.heap.size + 1 + 1, j, none⟩ = false := fun j => (hb2.frozen (p := ⟨w.heap.size + 1 + 1, j, none⟩) ((xC.set (j := 5) (.slice (some ⟨w.heap.size + 1 + 1 + 1, 0, none⟩) dn dn) (by simp)).set (j := 6) (.int .i64 nw) (by simp)).1).trans (by simp [fC])
  have hB2 : Below w.heap.size w w2 := bl_trans hBa hb2
  have hD3 : Hid (DoorsAt w2 (some ⟨w.heap.size + 1 + 1 + 1, 0, none⟩) dn ds) := ((hD2.out.set (g := w.heap.size + 1 + 1) (j := 5) (v := (.slice (some ⟨w.heap.size + 1 + 1 + 1, 0, none⟩) dn dn)) (by omega)).set (g := w.heap.size + 1 + 1) (j := 6) (v := .int .i64 nw) (by omega)).below hb2
  have hg2 : w.heap.size + 1 + 1 < (((w1.setCell ⟨w.heap.size + 1 + 1, 5, none⟩ (.slice (some ⟨w.heap.size + 1 + 1 + 1, 0, none⟩) dn dn)).setCell ⟨w.heap.size + 1 + 1, 6, none⟩ (.int .i64 nw))).heap.size := ((xC.set (j := 5) (.slice (some ⟨w.heap.size + 1 + 1 + 1, 0, none⟩) dn dn) (by simp)).set (j := 6) (.int .i64 nw) (by simp)).1
  have hE3 : Hid (EntriesAt w2 (some ⟨(((w1.setCell ⟨w.heap.size + 1 + 1, 5, none⟩ (.slice (some ⟨w.heap.size + 1 + 1 + 1, 0, none⟩) dn dn)).setCell ⟨w.heap.size + 1 + 1, 6, none⟩ (.int .i64 nw))).heap.size, 0, none⟩) en es) := hE2'
  clear hE2'
  generalize (((w1.setCell ⟨w.heap.size + 1 + 1, 5, none⟩ (.slice (some ⟨w.heap.size + 1 + 1 + 1, 0, none⟩) dn dn)).setCell ⟨w.heap.size + 1 + 1, 6, none⟩ (.int .i64 nw))).heap.size = g2 at he hE3 hg2 hsE fE hgD
  have fE : Hid (∀ j, w2.frozen? ⟨g2, j, none⟩ = false) := fE
  clear fD hsD
  subst he
  clear xA xB xC yA yB yC fB fC hb1 hb2 hB1 hBa
  have yB2 := xB2.2
  have yC2 := xC2.2
  go_wp2_with fail
  refine bodyPost_ret (v := .agg #[.int .i64 ad, .int .i64 ln, .int .i64 ow, .int .i64 lo, .int .i64 hi, (.slice (some ⟨w.heap.size + 1 + 1 + 1, 0, none⟩) dn dn), .int .i64 nw, .slice (some ⟨g2, 0, none⟩) en en]) (by simp [results, Tryz.results8, go_sem, yB2]) rfl ⟨_, g2, rfl, ?_, ?_, ?_, by omega, hgD, by simpa [World.setCell] using hsE, fun j => by simpa using fD2.out j, fun j => by simpa using fE.out j⟩
  · iterate 9 (refine bl_set ?_ (by simp <;> omega) _)
    exact hB2
  · iterate 9 (refine DoorsAt.set ?_ (by omega))
    exact hD3.out
  · iterate 9 (refine EntriesAt.set ?_ (by omega))
    exact hE3.out
theorem toBook_ret (ad ln ow lo hi nw : Int) (da : Option Addr) (dn dc : Nat) (ea : Option Addr) (en ec : Nat) (ds : List Dr) (es : List En) (w : World) (hld : ds.length ≤ 1048576) (hle : es.length ≤ 1048576) (hD : DoorsAt w da dn ds) (hE : EntriesAt w ea en es) :
    Calls Tryz.prog 8 #[.agg #[.int .i64 ad, .int .i64 ln, .int .i64 ow, .int .i64 lo, .int .i64 hi, .slice da dn dc, .int .i64 nw, .slice ea en ec]] w fun e w' => ∃ g1 g2, e = .returned (.agg #[.int .i64 ad, .int .i64 ln, .int .i64 ow, .int .i64 lo, .int .i64 hi, .slice (some ⟨g1, 0, none⟩) dn dn, .int .i64 nw, .slice (some ⟨g2, 0, none⟩) en en]) ∧ Below w.heap.size w w' ∧ DoorsAt w' (some ⟨g1, 0, none⟩) dn ds ∧ EntriesAt w' (some ⟨g2, 0, none⟩) en es :=
  (toBook_own ad ln ow lo hi nw da dn dc ea en ec ds es w hld hle hD hE).mono fun _ _ h => by
    obtain ⟨g1, g2, h1, h2, h3, h4, _⟩ := h
    exact ⟨g1, g2, h1, h2, h3, h4⟩

set_option maxHeartbeats 4000000 in
theorem eqBook_same (ad ln ow lo hi nw : Int) (da da2 : Option Addr) (dn dc dc2 : Nat) (ea ea2 : Option Addr) (en ec ec2 : Nat) (ds : List Dr) (es : List En) (w : World) (hld : ds.length ≤ 1048576) (hle : es.length ≤ 1048576) (hD : DoorsAt w da dn ds) (hE : EntriesAt w ea en es) (hD2 : DoorsAt w da2 dn ds) (hE2 : EntriesAt w ea2 en es) :
    Calls Tryz.prog 12 #[.agg #[.int .i64 ad, .int .i64 ln, .int .i64 ow, .int .i64 lo, .int .i64 hi, .slice da dn dc, .int .i64 nw, .slice ea en ec], .agg #[.int .i64 ad, .int .i64 ln, .int .i64 ow, .int .i64 lo, .int .i64 hi, .slice da2 dn dc2, .int .i64 nw, .slice ea2 en ec2]] w fun e w' => e = .returned (.bool true) ∧ Below w.heap.size w w' := by
  have H1 : Hid (∀ W, Below w.heap.size w W → DoorsAt W da dn ds ∧ DoorsAt W da2 dn ds) := fun W h => ⟨hD.below h, hD2.below h⟩
  have H2 : Hid (∀ W, Below w.heap.size w W → EntriesAt W ea en es ∧ EntriesAt W ea2 en es) := fun W h => ⟨hE.below h, hE2.below h⟩
  clear hD hE hD2 hE2
  go_enter Tryz.func12, Tryz.ntmps12
  go_wp2_with fail
  refine (eqDs_ret _ _ _ _ _ ds _ hld (H1.out _ (bl_alloc (bl_alloc (bl_refl _) _) _)).1 (H1.out _ (bl_alloc (bl_alloc (bl_refl _) _) _)).2).mono ?_
  rintro e w1 ⟨rfl, hb1⟩
  have hB1 := bl_trans (bl_alloc (bl_alloc (bl_refl w) _) _) hb1
  obtain ⟨hc, hf⟩ := bl_cells hb1
  go_wp2_with fail
  refine (eqEs_ret _ _ _ _ _ es _ hle (H2.out _ hB1).1 (H2.out _ hB1).2).mono ?_
  rintro e w2 ⟨rfl, hb2⟩
  go_wp2
  go_ret
  exact ⟨rfl, bl_trans hB1 hb2⟩
end Go.Proofs.YtcgjpmhjijmplabGreatDoor
