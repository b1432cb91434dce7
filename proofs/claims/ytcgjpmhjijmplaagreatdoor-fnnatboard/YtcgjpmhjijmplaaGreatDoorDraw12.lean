/- Draws: the specification's l5Play, walked. -/
import Derived.Test.YtcgjpmhjijmplaaGreatDoorDraw11
import Derived.Test.YtcgjpmhjijmplaaGreatDoorOut3
import Derived.Test.YtcgjpmhjijmplaaGreatDoorJoinP
import Derived.Deep.DeepCutAuto
namespace Go.Proofs.YtcgjpmhjijmplaaGreatDoor
open Go.ChangeShapes Go.WideShapes Go.ChangeAt Go.RowKit Go.Maps

/-- Doors in memory from block q on, not in block nb. -/
def DoorsX (w : World) (q nb xb : Nat) (da : Option Addr) (ds : List Dr) : Prop := ds.length ≤ 100 ∧ (ds = [] ∨ ∃ b o, da = some ⟨b, o, none⟩ ∧ q ≤ b ∧ (b ≠ nb ∧ b ≠ xb) ∧ b < w.heap.size ∧ DrCells w b o ds)
def EntriesX (w : World) (q nb xb : Nat) (ea : Option Addr) (es : List En) : Prop := es.length ≤ 100 ∧ (es = [] ∨ ∃ b o, ea = some ⟨b, o, none⟩ ∧ q ≤ b ∧ (b ≠ nb ∧ b ≠ xb) ∧ b < w.heap.size ∧ EnCells w b o es)
theorem DoorsX.L {w : World} {q nb xb : Nat} {da : Option Addr} {ds : List Dr} (h : DoorsX w q nb xb da ds) : DoorsL w q da ds.length ds := ⟨rfl, h.2.imp id fun ⟨b, o, h1, h2, _, h4, h5⟩ => ⟨b, o, h1, h2, h4, h5⟩⟩
theorem EntriesX.L {w : World} {q nb xb : Nat} {da : Option Addr} {ds : List En} (h : EntriesX w q nb xb da ds) : EntriesL w q da ds.length ds := ⟨rfl, h.2.imp id fun ⟨b, o, h1, h2, _, h4, h5⟩ => ⟨b, o, h1, h2, h4, h5⟩⟩
theorem DoorsX.apart {R : Nat} {w w' : World} {q nb xb : Nat} {da : Option Addr} {ds : List Dr} (h : DoorsX w q nb xb da ds) (ha : Apart R w w') (hR : R < q) : DoorsX w' q nb xb da ds :=
  ⟨h.1, h.2.imp id fun ⟨b, o, h1, h2, h3, h4, h5⟩ => ⟨b, o, h1, h2, h3, Nat.lt_of_lt_of_le h4 ha.size, h5.apart ha h4 (by omega)⟩⟩
theorem EntriesX.apart {R : Nat} {w w' : World} {q nb xb : Nat} {da : Option Addr} {ds : List En} (h : EntriesX w q nb xb da ds) (ha : Apart R w w') (hR : R < q) : EntriesX w' q nb xb da ds :=
  ⟨h.1, h.2.imp id fun ⟨b, o, h1, h2, h3, h4, h5⟩ => ⟨b, o, h1, h2, h3, Nat.lt_of_lt_of_le h4 ha.size, h5.apart ha h4 (by omega)⟩⟩
theorem dr_other {w : World} {g o : Nat} {ds : List Dr} (h : DrCells w g o ds) {n j : Nat} (hn : g ≠ n) (v : Value) : DrCells (w.setCell ⟨n, j, none⟩ v) g o ds := by
  have hc : ∀ p, (w.setCell ⟨n, j, none⟩ v).cell? ⟨g, p, none⟩ = w.cell? ⟨g, p, none⟩ := fun p => World.cell?_setCell_other _ _ _ _ (fun e => hn (by injection e with e1; exact e1.symm))
  intro i x hi
  obtain ⟨c0, c1, c2, c3⟩ := h i x hi
  refine ⟨?_, ?_, ?_, ?_⟩ <;> (rw [hc]; assumption)
theorem DoorsX.set {w : World} {q nb xb : Nat} {da : Option Addr} {ds : List Dr} (h : DoorsX w q nb xb da ds) (j : Nat) (v : Value) : DoorsX (w.setCell ⟨nb, j, none⟩ v) q nb xb da ds :=
  ⟨h.1, h.2.imp id fun ⟨b, o, h1, h2, h3, h4, h5⟩ => ⟨b, o, h1, h2, h3, by simpa [World.setCell] using h4, dr_other h5 h3.1 v⟩⟩
theorem EntriesX.set {w : World} {q nb xb : Nat} {da : Option Addr} {ds : List En} (h : EntriesX w q nb xb da ds) (j : Nat) (v : Value) : EntriesX (w.setCell ⟨nb, j, none⟩ v) q nb xb da ds :=
  ⟨h.1, h.2.imp id fun ⟨b, o, h1, h2, h3, h4, h5⟩ => ⟨b, o, h1, h2, h3, by simpa [World.setCell] using h4, en_other h5 h3.1 v⟩⟩
theorem doorsX_own {w : World} {base q nb xb : Nat} {va : Option Addr} {vc : Nat} {e : TypeId} {L : List Dr} (h : w.ownsRow base e 4 (.slice va L.length vc) L.length (flatD L)) (hl : L.length ≤ 100) (hq : q ≤ base) (hn : nb < base) (hx : xb < base) : DoorsX w q nb xb va L := by
  refine ⟨hl, ?_⟩
  rcases h.2 with ⟨h1, h2⟩ | ⟨g, cap, cur, h1, _⟩
  · exact Or.inl (List.eq_nil_of_length_eq_zero h2)
  · have hg := h.lt g (by rw [h1]; rfl)
    simp only [Value.slice.injEq] at h1
    obtain ⟨rfl, -, rfl⟩ := h1
    exact Or.inr ⟨g, 0, rfl, by omega, ⟨by omega, by omega⟩, hg.2, drCells_of_own h rfl⟩
theorem entriesX_own {w : World} {base q nb xb : Nat} {va : Option Addr} {vc : Nat} {e : TypeId} {L : List En} (h : w.ownsRow base e 7 (.slice va L.length vc) L.length (flatE L)) (hl : L.length ≤ 100) (hq : q ≤ base) (hn : nb < base) (hx : xb < base) : EntriesX w q nb xb va L := by
  refine ⟨hl, ?_⟩
  rcases h.2 with ⟨h1, h2⟩ | ⟨g, cap, cur, h1, _⟩
  · exact Or.inl (List.eq_nil_of_length_eq_zero h2)
  · have hg := h.lt g (by rw [h1]; rfl)
    simp only [Value.slice.injEq] at h1
    obtain ⟨rfl, -, rfl⟩ := h1
    exact Or.inr ⟨g, 0, rfl, by omega, ⟨by omega, by omega⟩, hg.2, enCells_of_own h rfl⟩
/-- A book that is being played lies in block nb. -/
def Play (w : World) (q nb xb : Nat) : Prop := ∃ (B : Bk) (va : Option Addr) (vc : Nat) (ua : Option Addr) (uc : Nat), Bx w nb #[.int .i64 B.ad, .int .i64 B.ln, .int .i64 B.ow, .int .i64 B.lo, .int .i64 B.hi, .slice va B.ds.length vc, .int .i64 B.nw, .slice ua B.es.length uc] ∧ DoorsX w q nb xb va B.ds ∧ EntriesX w q nb xb ua B.es ∧ -999999 ≤ B.ad ∧ B.ad ≤ 999999
theorem Play.apart {R : Nat} {w w' : World} {q nb xb : Nat} (h : Play w q nb xb) (ha : Apart R w w') (hR : R < q) (hn : nb ≠ R) : Play w' q nb xb := by
  obtain ⟨B, va, vc, ua, uc, h1, h2, h3, h4⟩ := h
  exact ⟨B, va, vc, ua, uc, h1.apart ha hn, h2.apart ha hR, h3.apart ha hR, h4⟩
theorem Play.lt {w : World} {q nb xb : Nat} (h : Play w q nb xb) : nb < w.heap.size := by
  obtain ⟨B, va, vc, ua, uc, h1, _⟩ := h
  exact h1.1.1
theorem tick_bounds (ad ln ow lo hi nw : Int) (ds : List Dr) (es : List En) (h1 : -999999 ≤ ad) (h2 : ad ≤ 999999) (h3 : ds.length ≤ 100) (h4 : es.length ≤ 100) :
    (-999999 ≤ (tickR ad ln ow lo hi nw ds es).ad ∧ (tickR ad ln ow lo hi nw ds es).ad ≤ 999999) ∧ (tickR ad ln ow lo hi nw ds es).ds.length ≤ 100 ∧ (tickR ad ln ow lo hi nw ds es).es.length ≤ 100 := by
  unfold tickR
  split
  · split
    · exact ⟨⟨h1, h2⟩, h3, h4⟩
    · exact ⟨⟨h1, h2⟩, h3, Nat.le_trans (List.length_filter_le _ _) h4⟩
  · simp
theorem out_bounds (ad ln ow lo hi nw : Int) (ds : List Dr) (es : List En) (k a ap b bp : Int) (h1 : -999999 ≤ ad) (h2 : ad ≤ 999999) (h3 : ds.length ≤ 100) (h4 : es.length ≤ 100) :
    (-999999 ≤ (outM ⟨ad, ln, ow, lo, hi, nw, ds, es⟩ k a ap b bp).R.ad ∧ (outM ⟨ad, ln, ow, lo, hi, nw, ds, es⟩ k a ap b bp).R.ad ≤ 999999) ∧ (outM ⟨ad, ln, ow, lo, hi, nw, ds, es⟩ k a ap b bp).R.ds.length ≤ 100 ∧ (outM ⟨ad, ln, ow, lo, hi, nw, ds, es⟩ k a ap b bp).R.es.length ≤ 100 := by
  unfold outM
  split
  · rename_i hk
    obtain ⟨_, _, he16, _⟩ := book_parts hk
    simp only at he16
    split
    · split
      · split
        · exact ⟨⟨h1, h2⟩, h3, h4⟩
        · split
          · exact ⟨⟨h1, h2⟩, h3, by simpa using h4⟩
          · split
            · exact ⟨⟨h1, h2⟩, h3, h4⟩
            · split
              · exact ⟨⟨h1, h2⟩, h3, by simp only [putE_length]; omega⟩
              · exact ⟨⟨h1, h2⟩, h3, h4⟩
      · exact ⟨⟨h1, h2⟩, h3, h4⟩
    · exact ⟨⟨h1, h2⟩, h3, h4⟩
  · simp
/-- A store of a whole book. -/
structure Ap2 (R nb : Nat) (w w' : World) : Prop where
  size : w.heap.size ≤ w'.heap.size
  block : ∀ k, k < w.heap.size → k ≠ R → k ≠ nb → w'.heap[k]? = w.heap[k]?
theorem Ap2.refl (R nb : Nat) (w : World) : Ap2 R nb w w := ⟨Nat.le_refl _, fun _ _ _ _ => rfl⟩
theorem Ap2.of {R nb : Nat} {w w' : World} (h : Apart R w w') : Ap2 R nb w w' := ⟨h.size, fun k hk h1 _ => h.block k hk h1⟩
theorem Ap2.set {R nb : Nat} {w0 w : World} (h : Ap2 R nb w0 w) (j : Nat) (v : Value) : Ap2 R nb w0 (w.setCell ⟨nb, j, none⟩ v) :=
  ⟨by simpa [World.setCell] using h.size, fun k hk h1 h2 => (Below.heap_setCell _ _ _ _ (by simpa using h2)).trans (h.block k hk h1 h2)⟩
theorem Ap2.set8 {R nb : Nat} {w0 w : World} (h : Ap2 R nb w0 w) (a b c d e f g i : Value) : Ap2 R nb w0 (World.setCell (World.setCell (World.setCell (World.setCell (World.setCell (World.setCell (World.setCell (World.setCell w ⟨nb, 0, none⟩ (a)) ⟨nb, 1, none⟩ (b)) ⟨nb, 2, none⟩ (c)) ⟨nb, 3, none⟩ (d)) ⟨nb, 4, none⟩ (e)) ⟨nb, 5, none⟩ (f)) ⟨nb, 6, none⟩ (g)) ⟨nb, 7, none⟩ (i)) := (((((((h.set 0 a).set 1 b).set 2 c).set 3 d).set 4 e).set 5 f).set 6 g).set 7 i
theorem Ap2.cell {R nb : Nat} {w w' : World} (h : Ap2 R nb w w') {b o : Nat} (hb : b < w.heap.size) (h1 : b ≠ R) (h2 : b ≠ nb) : w'.cell? ⟨b, o, none⟩ = w.cell? ⟨b, o, none⟩ := World.cell?_of_block (w := w) (h.block b hb h1 h2)
theorem DoorsX.ap2 {R : Nat} {w w' : World} {q nb xb : Nat} {da : Option Addr} {ds : List Dr} (h : DoorsX w q nb xb da ds) (ha : Ap2 R nb w w') (hR : R < q) : DoorsX w' q nb xb da ds :=
  ⟨h.1, h.2.imp id fun ⟨b, o, h1, h2, h3, h4, h5⟩ => ⟨b, o, h1, h2, h3, Nat.lt_of_lt_of_le h4 ha.size, fun i d hi => by obtain ⟨c0, c1, c2, c3⟩ := h5 i d hi; refine ⟨?_, ?_, ?_, ?_⟩ <;> (rw [ha.cell h4 (by omega) h3.1]; assumption)⟩⟩
theorem EntriesX.ap2 {R : Nat} {w w' : World} {q nb xb : Nat} {da : Option Addr} {ds : List En} (h : EntriesX w q nb xb da ds) (ha : Ap2 R nb w w') (hR : R < q) : EntriesX w' q nb xb da ds :=
  ⟨h.1, h.2.imp id fun ⟨b, o, h1, h2, h3, h4, h5⟩ => ⟨b, o, h1, h2, h3, Nat.lt_of_lt_of_le h4 ha.size, fun i d hi => by obtain ⟨c0, c1, c2, c3, c4, c5, c6⟩ := h5 i d hi; refine ⟨?_, ?_, ?_, ?_, ?_, ?_, ?_⟩ <;> (rw [ha.cell h4 (by omega) h3.1]; assumption)⟩⟩
theorem not_up {listed : Array Bool} {i : Nat} (h : listed.getD i true = false) : listed.getD i false = false := by
  rcases Nat.lt_or_ge i listed.size with h1 | h1
  · simp [h1] at h ⊢; exact h
  · rw [Array.getD_eq_getD_getElem?, Array.getElem?_eq_none h1] at h; cases h
theorem ap_set8x {R : Nat} {w0 w : World} (h : Apart R w0 w) {n : Nat} (hn : w0.heap.size ≤ n) (a b c d e f g i : Value) : Apart R w0 (World.setCell (World.setCell (World.setCell (World.setCell (World.setCell (World.setCell (World.setCell (World.setCell w ⟨n, 0, none⟩ (a)) ⟨n, 1, none⟩ (b)) ⟨n, 2, none⟩ (c)) ⟨n, 3, none⟩ (d)) ⟨n, 4, none⟩ (e)) ⟨n, 5, none⟩ (f)) ⟨n, 6, none⟩ (g)) ⟨n, 7, none⟩ (i)) :=
  ap_new (ap_new (ap_new (ap_new (ap_new (ap_new (ap_new (ap_new h hn a) hn b) hn c) hn d) hn e) hn f) hn g) hn i
theorem rb_set8 {w : World} {R : Nat} {k : Int} (h : Rb w R k) {n : Nat} (hn : R < n) (a b c d e f g i : Value) : Rb (World.setCell (World.setCell (World.setCell (World.setCell (World.setCell (World.setCell (World.setCell (World.setCell w ⟨n, 0, none⟩ (a)) ⟨n, 1, none⟩ (b)) ⟨n, 2, none⟩ (c)) ⟨n, 3, none⟩ (d)) ⟨n, 4, none⟩ (e)) ⟨n, 5, none⟩ (f)) ⟨n, 6, none⟩ (g)) ⟨n, 7, none⟩ (i)) R k :=
  (((((((h.set hn a).set hn b).set hn c).set hn d).set hn e).set hn f).set hn g).set hn i
/-- The condition that region 5 of l5Play keeps. -/
def JPlay (R q nb xb : Nat) (w0 : World) (N : Int) (C : Array Value) (va ua : Option Addr) (ds : List Dr) (es : List En) (L : Array Bool) (w : World) : Prop :=
  Apart R w0 w ∧ Rb w R (N + 200) ∧ (L.getD 3 false = false → Rb w R N) ∧ (L.getD 9 false = false → Box w nb C ∧ DoorsX w q nb xb va ds ∧ EntriesX w q nb xb ua es) ∧ (L.getD 9 false = true → Play w q nb xb) ∧ Bx w xb #[.int .i64 0, .int .i64 0, .int .i64 0, .int .i64 0, .int .i64 0, .slice none 0 0, .int .i64 0, .slice none 0 0] ∧ nb < w.heap.size ∧ ∀ j, w.frozen? ⟨nb, j, none⟩ = false
section
variable {R q nb xb : Nat} {w0 : World} {N : Int} {C : Array Value} {va ua : Option Addr} {ds : List Dr} {es : List En} {L : Array Bool} {w : World}
theorem JPlay.keep {i : Nat} (h3 : 3 ≠ i) (h9 : 9 ≠ i) (h : JPlay R q nb xb w0 N C va ua ds es L w) : JPlay R q nb xb w0 N C va ua ds es (L.setIfInBounds i true) w := by
  refine ⟨h.1, h.2.1, fun x => h.2.2.1 (by rwa [listed_ne h3] at x), fun x => h.2.2.2.1 (by rwa [listed_ne h9] at x), fun x => h.2.2.2.2.1 (by rwa [listed_ne h9] at x), h.2.2.2.2.2⟩
theorem JPlay.below {w' : World} {i : Nat} (h : JPlay R q nb xb w0 N C va ua ds es L w) (hb : Below w.heap.size w w') (h3 : 3 ≠ i) (h9 : 9 ≠ i) (hRq : R < q) (hnR : nb ≠ R) (_ : xb ≠ R) : JPlay R q nb xb w0 N C va ua ds es (L.setIfInBounds i true) w' := by
  have ha := ap_of_bl (R := R) hb
  refine ⟨ap_trans h.1 ha, h.2.1.below hb, fun x => (h.2.2.1 (by rwa [listed_ne h3] at x)).below hb, fun x => ?_, fun x => (h.2.2.2.2.1 (by rwa [listed_ne h9] at x)).apart ha hRq hnR, h.2.2.2.2.2.1.below hb, Nat.lt_of_lt_of_le h.2.2.2.2.2.2.1 hb.size, fun j => (hb.frozen (p := ⟨nb, j, none⟩) h.2.2.2.2.2.2.1).trans (h.2.2.2.2.2.2.2 j)⟩
  obtain ⟨x1, x2, x3⟩ := h.2.2.2.1 (by rwa [listed_ne h9] at x)
  exact ⟨x1.below hb, x2.apart ha hRq, x3.apart ha hRq⟩
theorem frozen_apart {w' : World} (ha : Apart R w w') (hn : nb < w.heap.size) (hnR : nb ≠ R) (h : ∀ j, w.frozen? ⟨nb, j, none⟩ = false) : ∀ j, w'.frozen? ⟨nb, j, none⟩ = false := fun j => (World.frozen?_of_block (w := w) (a := ⟨nb, j, none⟩) (ha.block nb hn hnR)).trans (h j)
theorem JPlay.out3 {w' : World} (h : JPlay R q nb xb w0 N C va ua ds es L w) (hl : 3 < L.size) (ha : Apart R w w') (hr : Rb w' R (N + 200)) (h9 : L.getD 9 false = false) (hRq : R < q) (hnR : nb ≠ R) (hnR1 : xb ≠ R) : JPlay R q nb xb w0 N C va ua ds es (L.setIfInBounds 3 true) w' := by
  refine ⟨ap_trans h.1 ha, hr, fun x => ?_, fun x => ?_, fun x => ?_, h.2.2.2.2.2.1.apart ha hnR1, Nat.lt_of_lt_of_le h.2.2.2.2.2.2.1 ha.size, frozen_apart ha h.2.2.2.2.2.2.1 hnR h.2.2.2.2.2.2.2⟩
  · rw [listed_eq hl] at x; cases x
  · obtain ⟨x1, x2, x3⟩ := h.2.2.2.1 h9
    exact ⟨x1.apart ha hnR, x2.apart ha hRq, x3.apart ha hRq⟩
  · rw [listed_ne (by decide), h9] at x; cases x
theorem JPlay.stored (h : JPlay R q nb xb w0 N C va ua ds es L w) (hl : 9 < L.size) {a b c d e f g i : Value} (hP : Play (World.setCell (World.setCell (World.setCell (World.setCell (World.setCell (World.setCell (World.setCell (World.setCell w ⟨nb, 0, none⟩ (a)) ⟨nb, 1, none⟩ (b)) ⟨nb, 2, none⟩ (c)) ⟨nb, 3, none⟩ (d)) ⟨nb, 4, none⟩ (e)) ⟨nb, 5, none⟩ (f)) ⟨nb, 6, none⟩ (g)) ⟨nb, 7, none⟩ (i)) q nb xb) (hw : w0.heap.size ≤ nb) (hR : R < nb) (hxn : xb ≠ nb) : JPlay R q nb xb w0 N C va ua ds es (L.setIfInBounds 9 true) (World.setCell (World.setCell (World.setCell (World.setCell (World.setCell (World.setCell (World.setCell (World.setCell w ⟨nb, 0, none⟩ (a)) ⟨nb, 1, none⟩ (b)) ⟨nb, 2, none⟩ (c)) ⟨nb, 3, none⟩ (d)) ⟨nb, 4, none⟩ (e)) ⟨nb, 5, none⟩ (f)) ⟨nb, 6, none⟩ (g)) ⟨nb, 7, none⟩ (i)) := by
  refine ⟨ap_set8x h.1 hw a b c d e f g i, rb_set8 h.2.1 hR a b c d e f g i, fun x => rb_set8 (h.2.2.1 (by rwa [listed_ne (by decide)] at x)) hR a b c d e f g i, fun x => ?_, fun _ => hP, h.2.2.2.2.2.1.other8 hxn a b c d e f g i, ?_, ?_⟩
  · rw [listed_eq hl] at x; cases x
  · simpa [World.setCell] using h.2.2.2.2.2.2.1
  · simpa using h.2.2.2.2.2.2.2
end
theorem doorsX_set8 {w : World} {q nb xb : Nat} {da : Option Addr} {ds : List Dr} (hh : DoorsX w q nb xb da ds) (a b c d e f g i : Value) : DoorsX (World.setCell (World.setCell (World.setCell (World.setCell (World.setCell (World.setCell (World.setCell (World.setCell w ⟨nb, 0, none⟩ (a)) ⟨nb, 1, none⟩ (b)) ⟨nb, 2, none⟩ (c)) ⟨nb, 3, none⟩ (d)) ⟨nb, 4, none⟩ (e)) ⟨nb, 5, none⟩ (f)) ⟨nb, 6, none⟩ (g)) ⟨nb, 7, none⟩ (i)) q nb xb da ds := (((((((hh.set 0 a).set 1 b).set 2 c).set 3 d).set 4 e).set 5 f).set 6 g).set 7 i
theorem entriesX_set8 {w : World} {q nb xb : Nat} {da : Option Addr} {ds : List En} (hh : EntriesX w q nb xb da ds) (a b c d e f g i : Value) : EntriesX (World.setCell (World.setCell (World.setCell (World.setCell (World.setCell (World.setCell (World.setCell (World.setCell w ⟨nb, 0, none⟩ (a)) ⟨nb, 1, none⟩ (b)) ⟨nb, 2, none⟩ (c)) ⟨nb, 3, none⟩ (d)) ⟨nb, 4, none⟩ (e)) ⟨nb, 5, none⟩ (f)) ⟨nb, 6, none⟩ (g)) ⟨nb, 7, none⟩ (i)) q nb xb da ds := (((((((hh.set 0 a).set 1 b).set 2 c).set 3 d).set 4 e).set 5 f).set 6 g).set 7 i
/-- A book that was drawn: its lists lie from block q on; small. -/
def DrawnB (w' : World) (q : Nat) (e : Ending) : Prop := ∃ (B : Bk) (va : Option Addr) (vc : Nat) (ua : Option Addr) (uc : Nat), e = .returned (.agg #[.int .i64 B.ad, .int .i64 B.ln, .int .i64 B.ow, .int .i64 B.lo, .int .i64 B.hi, .slice va B.ds.length vc, .int .i64 B.nw, .slice ua B.es.length uc]) ∧ DoorsL w' q va B.ds.length B.ds ∧ EntriesL w' q ua B.es.length B.es ∧ B.ds.length ≤ 100 ∧ B.es.length ≤ 100 ∧ -999999 ≤ B.ad ∧ B.ad ≤ 999999
theorem Play.mk {w : World} {q nb xb : Nat} {va : Option Addr} {vc : Nat} {ua : Option Addr} {uc : Nat} (B : Bk) (h : Bx w nb #[.int .i64 B.ad, .int .i64 B.ln, .int .i64 B.ow, .int .i64 B.lo, .int .i64 B.hi, .slice va B.ds.length vc, .int .i64 B.nw, .slice ua B.es.length uc]) (hD : DoorsX w q nb xb va B.ds) (hE : EntriesX w q nb xb ua B.es) (h1 : -999999 ≤ B.ad) (h2 : B.ad ≤ 999999) : Play w q nb xb := ⟨B, va, vc, ua, uc, h, hD, hE, h1, h2⟩
theorem DoorsX.out8 {w : World} {q nb xb : Nat} {da : Option Addr} {ds : List Dr} (hh : DoorsX w q nb xb da ds) (a b c d e f g i : Value) : DoorsL (World.setCell (World.setCell (World.setCell (World.setCell (World.setCell (World.setCell (World.setCell (World.setCell w ⟨xb, 0, none⟩ (a)) ⟨xb, 1, none⟩ (b)) ⟨xb, 2, none⟩ (c)) ⟨xb, 3, none⟩ (d)) ⟨xb, 4, none⟩ (e)) ⟨xb, 5, none⟩ (f)) ⟨xb, 6, none⟩ (g)) ⟨xb, 7, none⟩ (i)) q da ds.length ds :=
  ⟨rfl, hh.2.imp id fun ⟨x, o, h1, h2, h3, h4, h5⟩ => ⟨x, o, h1, h2, by simpa [World.setCell] using h4, dr_other8 h5 h3.2 a b c d e f g i⟩⟩
theorem EntriesX.out8 {w : World} {q nb xb : Nat} {da : Option Addr} {ds : List En} (hh : EntriesX w q nb xb da ds) (a b c d e f g i : Value) : EntriesL (World.setCell (World.setCell (World.setCell (World.setCell (World.setCell (World.setCell (World.setCell (World.setCell w ⟨xb, 0, none⟩ (a)) ⟨xb, 1, none⟩ (b)) ⟨xb, 2, none⟩ (c)) ⟨xb, 3, none⟩ (d)) ⟨xb, 4, none⟩ (e)) ⟨xb, 5, none⟩ (f)) ⟨xb, 6, none⟩ (g)) ⟨xb, 7, none⟩ (i)) q da ds.length ds :=
  ⟨rfl, hh.2.imp id fun ⟨x, o, h1, h2, h3, h4, h5⟩ => ⟨x, o, h1, h2, by simpa [World.setCell] using h4, en_other8 h5 h3.2 a b c d e f g i⟩⟩
def FPlay (R q nb xb : Nat) (B : Bk) (va : Option Addr) (vc : Nat) (ua : Option Addr) (uc : Nat) : Nat → Value → World → Prop
  | 0, v, _ => v = .agg #[.int .i64 B.ad, .int .i64 B.ln, .int .i64 B.ow, .int .i64 B.lo, .int .i64 B.hi, .slice va B.ds.length vc, .int .i64 B.nw, .slice ua B.es.length uc]
  | 1, v, _ => v = .pointer (some ⟨R, 0, none⟩)
  | 2, v, _ => v = .agg #[.int .i64 B.ad, .int .i64 B.ln, .int .i64 B.ow, .int .i64 B.lo, .int .i64 B.hi, .slice va B.ds.length vc, .int .i64 B.nw, .slice ua B.es.length uc]
  | 3, v, _ => ∃ k a ap b bp : Int, v = .agg #[.int .i64 k, .int .i64 a, .int .i64 ap, .int .i64 b, .int .i64 bp]
  | 4, v, w => ∃ (B2 : Bk) (pa : Option Addr) (pc : Nat) (ra : Option Addr) (rc : Nat) (f c : Value), v = .tuple #[.agg #[.int .i64 B2.ad, .int .i64 B2.ln, .int .i64 B2.ow, .int .i64 B2.lo, .int .i64 B2.hi, .slice pa B2.ds.length pc, .int .i64 B2.nw, .slice ra B2.es.length rc], f, c] ∧ DoorsX w q nb xb pa B2.ds ∧ EntriesX w q nb xb ra B2.es ∧ -999999 ≤ B2.ad ∧ B2.ad ≤ 999999
  | 5, v, w => ∃ (B2 : Bk) (pa : Option Addr) (pc : Nat) (ra : Option Addr) (rc : Nat) (f c : Value), v = .tuple #[.agg #[.int .i64 B2.ad, .int .i64 B2.ln, .int .i64 B2.ow, .int .i64 B2.lo, .int .i64 B2.hi, .slice pa B2.ds.length pc, .int .i64 B2.nw, .slice ra B2.es.length rc], f, c] ∧ DoorsX w q nb xb pa B2.ds ∧ EntriesX w q nb xb ra B2.es ∧ -999999 ≤ B2.ad ∧ B2.ad ≤ 999999
  | 6, v, w => ∃ (B2 : Bk) (pa : Option Addr) (pc : Nat) (ra : Option Addr) (rc : Nat), v = .agg #[.int .i64 B2.ad, .int .i64 B2.ln, .int .i64 B2.ow, .int .i64 B2.lo, .int .i64 B2.hi, .slice pa B2.ds.length pc, .int .i64 B2.nw, .slice ra B2.es.length rc] ∧ DoorsX w q nb xb pa B2.ds ∧ EntriesX w q nb xb ra B2.es ∧ -999999 ≤ B2.ad ∧ B2.ad ≤ 999999
  | _, _, _ => True
set_option maxRecDepth 20000 in
set_option maxHeartbeats 4000000 in
theorem play_ret (R : Nat) (n m : Int) (ad ln ow lo hi nw : Int) (da : Option Addr) (dn dc : Nat) (ea : Option Addr) (en ec : Nat) (ds : List Dr) (es : List En) (q : Nat) (w : World) (h : Rb w R n) (hn : n ≤ 700000000) (hm0 : 0 ≤ m) (hm : m ≤ 100) (a0 : -999999 ≤ ad) (a1 : ad ≤ 999999) (HD : DoorsL w q da dn ds) (HE : EntriesL w q ea en es) (hRq : R < q) (hqw : q ≤ w.heap.size) (hdn : dn ≤ 100) (hen : en ≤ 100) :
    Calls Tryz.prog 158 #[.pointer (some ⟨R, 0, none⟩), .agg #[.int .i64 ad, .int .i64 ln, .int .i64 ow, .int .i64 lo, .int .i64 hi, .slice da dn dc, .int .i64 nw, .slice ea en ec], .int .i64 m] w fun e w' => DrawnB w' q e ∧ Apart R w w' ∧ Rb w' R (n + 100000) := by
  obtain ⟨rfl, HD⟩ := HD
  obtain ⟨rfl, HE⟩ := HE
  have hR := h.lt
  have hB0 := bl_alloc (bl_alloc (bl_refl w) (.cells #[.int .i64 ad, .int .i64 ln, .int .i64 ow, .int .i64 lo, .int .i64 hi, .slice da ds.length dc, .int .i64 nw, .slice ea es.length ec] 26)) (.cells #[.int .i64 0, .int .i64 0, .int .i64 0, .int .i64 0, .int .i64 0, .slice none 0 0, .int .i64 0, .slice none 0 0] 26)
  have hBl := bl_alloc (bl_refl (w.alloc (.cells #[.int .i64 ad, .int .i64 ln, .int .i64 ow, .int .i64 lo, .int .i64 hi, .slice da ds.length dc, .int .i64 nw, .slice ea es.length ec] 26))) (.cells #[.int .i64 0, .int .i64 0, .int .i64 0, .int .i64 0, .int .i64 0, .slice none 0 0, .int .i64 0, .slice none 0 0] 26)
  have HA : Apart R w _ := ap_of_bl hB0
  have HR := h.below hB0
  have bb := (Bx.new w #[.int .i64 ad, .int .i64 ln, .int .i64 ow, .int .i64 lo, .int .i64 hi, .slice da ds.length dc, .int .i64 nw, .slice ea es.length ec] 26).below hBl
  have bx := Bx.new (w.alloc (.cells #[.int .i64 ad, .int .i64 ln, .int .i64 ow, .int .i64 lo, .int .i64 hi, .slice da ds.length dc, .int .i64 nw, .slice ea es.length ec] 26)) #[.int .i64 0, .int .i64 0, .int .i64 0, .int .i64 0, .int .i64 0, .slice none 0 0, .int .i64 0, .slice none 0 0] 26
  simp only [World.size_alloc] at bx
  have hDX : DoorsX w q w.heap.size (w.heap.size + 1) da ds := ⟨hdn, HD.imp id fun ⟨b, o, h1, h2, h3, h4⟩ => ⟨b, o, h1, h2, ⟨by omega, by omega⟩, h3, h4⟩⟩
  have hEX : EntriesX w q w.heap.size (w.heap.size + 1) ea es := ⟨hen, HE.imp id fun ⟨b, o, h1, h2, h3, h4⟩ => ⟨b, o, h1, h2, ⟨by omega, by omega⟩, h3, h4⟩⟩
  replace hDX := hDX.apart HA hRq
  replace hEX := hEX.apart HA hRq
  go_enter Tryz.func158, Tryz.ntmps158
  go_upto_region 1 with fail
  clear hB0 hBl h HD HE
  generalize (w.alloc (.cells #[.int .i64 ad, .int .i64 ln, .int .i64 ow, .int .i64 lo, .int .i64 hi, .slice da ds.length dc, .int .i64 nw, .slice ea es.length ec] 26)).alloc (.cells #[.int .i64 0, .int .i64 0, .int .i64 0, .int .i64 0, .int .i64 0, .slice none 0 0, .int .i64 0, .slice none 0 0] 26) = W0 at *
  have hs := HA.size
  have hx1 := bx.1.1
  generalize hnb : w.heap.size = nb at *
  go_cut [] (fun wc => Play wc q nb (nb + 1) ∧ Bx wc (nb + 1) #[.int .i64 0, .int .i64 0, .int .i64 0, .int .i64 0, .int .i64 0, .slice none 0 0, .int .i64 0, .slice none 0 0] ∧ Apart R w wc ∧ Rb wc R (n + 1))
  case first =>
    have hBl := bl_alloc (bl_refl W0) (.cells #[.int .i64 0, .int .i64 0, .int .i64 3, .int .i64 999994] 3)
    have xs := Box.new W0 #[.int .i64 0, .int .i64 0, .int .i64 3, .int .i64 999994] 3
    replace bb := bb.below hBl
    replace bx := bx.below hBl
    have ha := ap_of_bl (R := R) hBl
    replace hDX := hDX.apart ha hRq
    replace hEX := hEX.apart ha hRq
    replace HA := ap_trans HA ha
    replace HR := HR.below hBl
    have hRW := HR.lt
    have H1 : Hid (Calls Tryz.prog _ _ _ _) := pick_rb R _ 4 _ HR (by omega) (by omega) (by omega)
    clear ha hBl
    go_wp2_with fail
    refine H1.out.mono ?_
    rintro e w1 ⟨⟨r, rfl, r0, r1⟩, ha, hr⟩
    replace bb := bb.apart ha (by omega)
    replace bx := bx.apart ha (by omega)
    replace xs := xs.apart ha (by omega)
    replace hDX := hDX.apart ha hRq
    replace hEX := hEX.apart ha hRq
    replace HA := ap_trans HA ha
    clear ha H1 HR
    generalize W0.heap.size = ns at *
    obtain ⟨⟨p1, p2⟩, p3⟩ := id bb
    have ys := xs.2
    rcases (show r = 0 ∨ r = 1 ∨ r = 2 ∨ r = 3 by omega) with rfl | rfl | rfl | rfl
    · go_wp2_with fail
      go_meet
      refine ⟨Play.mk ⟨ad, ln, ow, lo, hi, 0, ds, es⟩ (bb.set (j := 6) (by simp) (.int .i64 0)) (hDX.set 6 (.int .i64 0)) (hEX.set 6 (.int .i64 0)) a0 a1, bx.other (m := nb) (j := 6) (by omega) (.int .i64 0), ap_new HA (n := nb) (j := 6) (by omega) (.int .i64 0), hr.set (m := nb) (j := 6) (by omega) (.int .i64 0)⟩
    · go_wp2_with fail
      go_meet
      refine ⟨Play.mk ⟨ad, ln, ow, lo, hi, 0, ds, es⟩ (bb.set (j := 6) (by simp) (.int .i64 0)) (hDX.set 6 (.int .i64 0)) (hEX.set 6 (.int .i64 0)) a0 a1, bx.other (m := nb) (j := 6) (by omega) (.int .i64 0), ap_new HA (n := nb) (j := 6) (by omega) (.int .i64 0), hr.set (m := nb) (j := 6) (by omega) (.int .i64 0)⟩
    · go_wp2_with fail
      go_meet
      refine ⟨Play.mk ⟨ad, ln, ow, lo, hi, 3, ds, es⟩ (bb.set (j := 6) (by simp) (.int .i64 3)) (hDX.set 6 (.int .i64 3)) (hEX.set 6 (.int .i64 3)) a0 a1, bx.other (m := nb) (j := 6) (by omega) (.int .i64 3), ap_new HA (n := nb) (j := 6) (by omega) (.int .i64 3), hr.set (m := nb) (j := 6) (by omega) (.int .i64 3)⟩
    · go_wp2_with fail
      go_meet
      refine ⟨Play.mk ⟨ad, ln, ow, lo, hi, 999994, ds, es⟩ (bb.set (j := 6) (by simp) (.int .i64 999994)) (hDX.set 6 (.int .i64 999994)) (hEX.set 6 (.int .i64 999994)) a0 a1, bx.other (m := nb) (j := 6) (by omega) (.int .i64 999994), ap_new HA (n := nb) (j := 6) (by omega) (.int .i64 999994), hr.set (m := nb) (j := 6) (by omega) (.int .i64 999994)⟩
  case rest =>
    obtain ⟨hP, bx, HA, HR⟩ := hcut
    go_wp2_with fail
    go_loopg [2] m.toNat (fun g v wr => ∃ j : Int, g = j.toNat ∧ 0 ≤ j ∧ j ≤ m ∧ v = .int .i64 j ∧ Play wr q nb (nb + 1) ∧ Bx wr (nb + 1) #[.int .i64 0, .int .i64 0, .int .i64 0, .int .i64 0, .int .i64 0, .slice none 0 0, .int .i64 0, .slice none 0 0] ∧ Apart R w wr ∧ Rb wr R (n + 1 + (m - j) * 300))
    case atStart => exact ⟨m, rfl, by omega, by omega, rfl, hP, bx, HA, HR.le (by omega)⟩
    case round =>
      clear hP bx HA HR
      obtain ⟨j, hgj, hj00, hj, rfl, hP, bx, HC, HRc⟩ := hrel
      have hlp := hP.lt
      by_cases hj0 : 0 < j
      · go_wp2_with fail
        refine (pick_rb R _ 4 _ HRc (by omega) (by omega) (by omega)).mono ?_
        rintro e w1 ⟨⟨r, rfl, r0, r1⟩, ha, hr⟩
        replace hP := hP.apart ha hRq (by omega)
        replace bx := bx.apart ha (by omega)
        replace HC := ap_trans HC ha
        replace HRc := hr
        clear ha hr hlp
        have hlp := hP.lt
        by_cases hr0 : r = 0
        · have hq : (r == 0) = true := by simpa using hr0
          clear hr0
          go_wp2_with fail
          refine (pick_rb R _ 5 _ HRc (by omega) (by omega) (by omega)).mono ?_
          rintro e w2 ⟨⟨r2, rfl, s0, s1⟩, ha, hr⟩
          replace hP := hP.apart ha hRq (by omega)
          replace bx := bx.apart ha (by omega)
          replace HC := ap_trans HC ha
          replace HRc := hr
          clear ha hr
          go_wp2_with fail
          refine (pick_rb R _ 2 _ HRc (by omega) (by omega) (by omega)).mono ?_
          rintro e w3 ⟨⟨r3, rfl, u0, u1⟩, ha, hr⟩
          replace hP := hP.apart ha hRq (by omega)
          replace bx := bx.apart ha (by omega)
          replace HC := ap_trans HC ha
          replace HRc := hr
          clear ha hr hlp
          have hmu : 0 ≤ r2 * r3 ∧ r2 * r3 ≤ 4 := by
            rcases (show r3 = 0 ∨ r3 = 1 by omega) with rfl | rfl <;> omega
          obtain ⟨mu, hmu2⟩ : ∃ mu, mu = r2 * r3 := ⟨_, rfl⟩
          rw [← hmu2] at hmu
          obtain ⟨mu0, mu1⟩ := hmu
          have hmu3 : r2 * r3 = mu := hmu2.symm
          clear hmu2
          go_wp2_with fail
          go_loopg [7] (1 + mu).toNat (fun g v wr => ∃ i : Int, g = i.toNat ∧ i ≤ 5 ∧ v = .int .i64 i ∧ Play wr q nb (nb + 1) ∧ Bx wr (nb + 1) #[.int .i64 0, .int .i64 0, .int .i64 0, .int .i64 0, .int .i64 0, .slice none 0 0, .int .i64 0, .slice none 0 0] ∧ Apart R w wr ∧ Rb wr R (n + 1 + (m - j) * 300 + 3))
          case atStart => exact ⟨1 + mu, rfl, by omega, rfl, hP, bx, HC, HRc.le (by omega)⟩
          case round =>
            clear hP bx HC HRc
            obtain ⟨i, hgi, hi5, rfl, hP, bx, HC, HRc⟩ := hrel
            by_cases hi0 : 0 < i
            · obtain ⟨B, va, vc, ua, uc, bb, hDX, hEX, ha1, ha2⟩ := hP
              have y1 := bb.1.2
              have H2 : Hid (Calls Tryz.prog _ _ _ _) := specTick_ret B.ad B.ln B.ow B.lo B.hi B.nw va B.ds.length vc ua B.es.length uc B.ds B.es wr hDX.L.at hEX.L.at
              obtain ⟨⟨ob1, ob2⟩, ob3, ob4⟩ := tick_bounds B.ad B.ln B.ow B.lo B.hi B.nw B.ds B.es ha1 ha2 hDX.1 hEX.1
              generalize tickR B.ad B.ln B.ow B.lo B.hi B.nw B.ds B.es = B2 at *
              generalize tickC B.ad B.ln B.ow B.lo B.hi B.nw B.ds B.es = c2 at *
              go_wp2_with fail
              refine H2.out.mono ?_
              rintro e w4 ⟨⟨pa, pc, ra, rc, rfl, hOw⟩, hb⟩
              have hW := bx.1.1
              have hRW := HRc.lt
              have hszw := HC.size
              have hD2 : DoorsX w4 q nb (nb + 1) pa B2.ds := doorsX_own hOw.1 ob3 (by omega) (by omega) hW
              have hE2 : EntriesX w4 q nb (nb + 1) ra B2.es := entriesX_own hOw.2.1 ob4 (by omega) (by omega) hW
              replace bb := bb.below hb
              replace bx := bx.below hb
              replace HC := ap_trans HC (ap_of_bl hb)
              replace HRc := HRc.below hb
              clear y1 H2 hb hOw hDX hEX
              obtain ⟨⟨p1, p2⟩, p3⟩ := id bb
              go_wp2_with fail
              go_roundg (i - 1).toNat
              case measure => omega
              case rel => exact ⟨i - 1, rfl, by omega, rfl, Play.mk B2 (bb.set8 (.int .i64 B2.ad) (.int .i64 B2.ln) (.int .i64 B2.ow) (.int .i64 B2.lo) (.int .i64 B2.hi) (.slice pa B2.ds.length pc) (.int .i64 B2.nw) (.slice ra B2.es.length rc)) (doorsX_set8 hD2 (.int .i64 B2.ad) (.int .i64 B2.ln) (.int .i64 B2.ow) (.int .i64 B2.lo) (.int .i64 B2.hi) (.slice pa B2.ds.length pc) (.int .i64 B2.nw) (.slice ra B2.es.length rc)) (entriesX_set8 hE2 (.int .i64 B2.ad) (.int .i64 B2.ln) (.int .i64 B2.ow) (.int .i64 B2.lo) (.int .i64 B2.hi) (.slice pa B2.ds.length pc) (.int .i64 B2.nw) (.slice ra B2.es.length rc)) ob1 ob2, bx.other8 (n := nb) (by omega) (.int .i64 B2.ad) (.int .i64 B2.ln) (.int .i64 B2.ow) (.int .i64 B2.lo) (.int .i64 B2.hi) (.slice pa B2.ds.length pc) (.int .i64 B2.nw) (.slice ra B2.es.length rc), ap_set8x HC (n := nb) (by omega) (.int .i64 B2.ad) (.int .i64 B2.ln) (.int .i64 B2.ow) (.int .i64 B2.lo) (.int .i64 B2.hi) (.slice pa B2.ds.length pc) (.int .i64 B2.nw) (.slice ra B2.es.length rc), rb_set8 HRc (n := nb) (by omega) (.int .i64 B2.ad) (.int .i64 B2.ln) (.int .i64 B2.ow) (.int .i64 B2.lo) (.int .i64 B2.hi) (.slice pa B2.ds.length pc) (.int .i64 B2.nw) (.slice ra B2.es.length rc)⟩
            · go_wp2_with fail
              go_roundg (j - 1).toNat
              case measure => omega
              case rel => exact ⟨j - 1, rfl, by omega, by omega, rfl, hP, bx, HC, HRc.le (by omega)⟩
        · have hq : (r == 0) = false := by simpa using hr0
          clear hr0
          go_upto_region 5 with fail
          obtain ⟨B, va, vc, ua, uc, bb, hDX, hEX, ha1, ha2⟩ := hP
          have hN : n + 1 + (m - j) * 300 + 1 ≤ 700040000 := by omega
          generalize hNe : n + 1 + (m - j) * 300 + 1 = N at *
          refine region_midL [21, 22, 23, 24, 25, 20, 26, 27, 28, 100009] (FPlay R q nb (nb + 1) B va vc ua uc) (JPlay R q nb (nb + 1) w N #[.int .i64 B.ad, .int .i64 B.ln, .int .i64 B.ow, .int .i64 B.lo, .int .i64 B.hi, .slice va B.ds.length vc, .int .i64 B.nw, .slice ua B.es.length uc] va ua B.ds B.es) (Ap2 R nb) (by kernel_rfl) (by kernel_rfl) (by decide) ?_ ?_ ?_ ?_
          · intro i v w w' hR h
            rcases i with _ | _ | _ | _ | _ | _ | _ | _ | _ | _ | i
            · exact h
            · exact h
            · exact h
            · exact h
            · obtain ⟨B2, pa, pc, ra, rc, f, c, h1, h2, h3, h4⟩ := h
              exact ⟨B2, pa, pc, ra, rc, f, c, h1, h2.ap2 hR hRq, h3.ap2 hR hRq, h4⟩
            · obtain ⟨B2, pa, pc, ra, rc, f, c, h1, h2, h3, h4⟩ := h
              exact ⟨B2, pa, pc, ra, rc, f, c, h1, h2.ap2 hR hRq, h3.ap2 hR hRq, h4⟩
            · obtain ⟨B2, pa, pc, ra, rc, h1, h2, h3, h4⟩ := h
              exact ⟨B2, pa, pc, ra, rc, h1, h2.ap2 hR hRq, h3.ap2 hR hRq, h4⟩
            · exact h
            · exact h
            · exact h
            · exact h
          · refine ⟨ap_trans HC (ap_of_bl (bl_drew (bl_refl _))), (HRc.below (bl_drew (bl_refl _))).le (by omega), fun _ => HRc.below (bl_drew (bl_refl _)), fun _ => ⟨bb.1.below (bl_drew (bl_refl _)), hDX.apart (ap_of_bl (bl_drew (bl_refl _))) hRq, hEX.apart (ap_of_bl (bl_drew (bl_refl _))) hRq⟩, fun x => ?_, bx.below (bl_drew (bl_refl _)), bb.1.1, bb.2⟩
            simp at x
          · refine all_lt_succ (all_lt_succ (all_lt_succ (all_lt_succ (all_lt_succ (all_lt_succ (all_lt_succ (all_lt_succ (all_lt_succ (all_lt_succ (all_lt_zero _) ?_) ?_) ?_) ?_) ?_) ?_) ?_) ?_) ?_) ?_
            · refine stepOkL_at _ rfl ?_
              intro listed vs w hls hv hi hcl hup hJ hdep K hK
              have hls : listed.size = 10 := hls
              obtain ⟨v0, v1, v2, v3, v4, v5, v6, v7, v8, v9, rfl⟩ := len10 hv
              clear hdep hv
              have hbx := (hJ.2.2.2.1 (not_yet hcl hi 9 _ rfl (by kernel_rfl))).1.2
              refine mid_val (.agg #[.int .i64 B.ad, .int .i64 B.ln, .int .i64 B.ow, .int .i64 B.lo, .int .i64 B.hi, .slice va B.ds.length vc, .int .i64 B.nw, .slice ua B.es.length uc]) w (by kernel_rfl) ?_ (hK.out _ _ (Ap2.refl _ _ _) (JPlay.keep (i := 0) (by decide) (by decide) hJ) rfl)
              simp only [setAll, List.setIfInBounds_toArray, List.set_cons_zero, List.set_cons_succ, List.set_nil]
              go_simp
            · refine stepOkL_at _ rfl ?_
              intro listed vs w hls hv hi hcl hup hJ hdep K hK
              have hls : listed.size = 10 := hls
              obtain ⟨v0, v1, v2, v3, v4, v5, v6, v7, v8, v9, rfl⟩ := len10 hv
              clear hdep hv
              exact mid_val (.pointer (some ⟨R, 0, none⟩)) w (by kernel_rfl) (by kernel_rfl) (hK.out _ _ (Ap2.refl _ _ _) (JPlay.keep (i := 1) (by decide) (by decide) hJ) rfl)
            · refine stepOkL_at _ rfl ?_
              intro listed vs w hls hv hi hcl hup hJ hdep K hK
              have hls : listed.size = 10 := hls
              obtain ⟨v0, v1, v2, v3, v4, v5, v6, v7, v8, v9, rfl⟩ := len10 hv
              clear hdep hv
              have hbx := (hJ.2.2.2.1 (not_yet hcl hi 9 _ rfl (by kernel_rfl))).1.2
              refine mid_val (.agg #[.int .i64 B.ad, .int .i64 B.ln, .int .i64 B.ow, .int .i64 B.lo, .int .i64 B.hi, .slice va B.ds.length vc, .int .i64 B.nw, .slice ua B.es.length uc]) w (by kernel_rfl) ?_ (hK.out _ _ (Ap2.refl _ _ _) (JPlay.keep (i := 2) (by decide) (by decide) hJ) rfl)
              simp only [setAll, List.setIfInBounds_toArray, List.set_cons_zero, List.set_cons_succ, List.set_nil]
              go_simp
            · refine stepOkL_at _ rfl ?_
              intro listed vs w hls hv hi hcl hup hJ hdep K hK
              have hls : listed.size = 10 := hls
              obtain ⟨v0, v1, v2, v3, v4, v5, v6, v7, v8, v9, rfl⟩ := len10 hv
              have f1 : v1 = .pointer (some ⟨R, 0, none⟩) := (by have h := dep hdep 1 (by kernel_rfl); exact h)
              have f2 : v2 = .agg #[.int .i64 B.ad, .int .i64 B.ln, .int .i64 B.ow, .int .i64 B.lo, .int .i64 B.hi, .slice va B.ds.length vc, .int .i64 B.nw, .slice ua B.es.length uc] := (by have h := dep hdep 2 (by kernel_rfl); exact h)
              clear hdep hv
              subst f1
              subst f2
              have h9 := not_yet hcl hi 9 _ rfl (by kernel_rfl)
              obtain ⟨hbx, hDX, hEX⟩ := hJ.2.2.2.1 h9
              have h3 : listed.getD 3 false = false := not_up hi
              refine mid_call 43 (by kernel_rfl) (outflow_ret R _ B.ad B.ln B.ow B.lo B.hi B.nw va B.ds.length vc ua B.es.length uc B.ds B.es q w (hJ.2.2.1 h3) (by omega) (by omega) (by omega) hDX.L hEX.L hRq hDX.1 (Nat.le_trans hEX.1 (by decide))) (by kernel_rfl) ?_
              rintro e w' ⟨⟨k, a, ap, b, bp, rfl, hfl⟩, ha, hr⟩
              exact ⟨_, rfl, hK.out _ _ (Ap2.of ha) (JPlay.out3 hJ (by omega) ha hr h9 hRq (by omega) (by omega)) ⟨k, a, ap, b, bp, rfl⟩⟩
            · refine stepOkL_at _ rfl ?_
              intro listed vs w hls hv hi hcl hup hJ hdep K hK
              have hls : listed.size = 10 := hls
              obtain ⟨v0, v1, v2, v3, v4, v5, v6, v7, v8, v9, rfl⟩ := len10 hv
              have f0 : v0 = .agg #[.int .i64 B.ad, .int .i64 B.ln, .int .i64 B.ow, .int .i64 B.lo, .int .i64 B.hi, .slice va B.ds.length vc, .int .i64 B.nw, .slice ua B.es.length uc] := (by have h := dep hdep 0 (by kernel_rfl); exact h)
              have f3 : ∃ k a ap b bp : Int, v3 = .agg #[.int .i64 k, .int .i64 a, .int .i64 ap, .int .i64 b, .int .i64 bp] := (by have h := dep hdep 3 (by kernel_rfl); exact h)
              clear hdep hv
              subst f0
              obtain ⟨k, a, ap, b, bp, rfl⟩ := f3
              have h9 := not_yet hcl hi 9 _ rfl (by kernel_rfl)
              obtain ⟨hbx, hDX, hEX⟩ := hJ.2.2.2.1 h9
              refine mid_call 14 (by kernel_rfl) (specOut_ret B.ad B.ln B.ow B.lo B.hi B.nw va B.ds.length vc ua B.es.length uc k a ap b bp B.ds B.es w hDX.L.at hEX.L.at) (by kernel_rfl) ?_
              rintro e w' ⟨⟨pa, pc, ra, rc, rfl, hOw⟩, hb⟩
              obtain ⟨⟨ob1, ob2⟩, ob3, ob4⟩ := out_bounds B.ad B.ln B.ow B.lo B.hi B.nw B.ds B.es k a ap b bp ha1 ha2 hDX.1 hEX.1
              have hW := hJ.2.2.2.2.2.1.1.1
              exact ⟨_, rfl, hK.out _ _ (Ap2.of (ap_of_bl hb)) (JPlay.below hJ hb (by decide) (by decide) hRq (by omega) (by omega)) ⟨_, pa, pc, ra, rc, _, _, rfl, doorsX_own hOw.1 ob3 (by omega) (by omega) hW, entriesX_own hOw.2.1 ob4 (by omega) (by omega) hW, ob1, ob2⟩⟩
            · refine stepOkL_at _ rfl ?_
              intro listed vs w hls hv hi hcl hup hJ hdep K hK
              have hls : listed.size = 10 := hls
              obtain ⟨v0, v1, v2, v3, v4, v5, v6, v7, v8, v9, rfl⟩ := len10 hv
              have f4 : ∃ (B2 : Bk) (pa : Option Addr) (pc : Nat) (ra : Option Addr) (rc : Nat) (f c : Value), v4 = .tuple #[.agg #[.int .i64 B2.ad, .int .i64 B2.ln, .int .i64 B2.ow, .int .i64 B2.lo, .int .i64 B2.hi, .slice pa B2.ds.length pc, .int .i64 B2.nw, .slice ra B2.es.length rc], f, c] ∧ DoorsX w q nb (nb + 1) pa B2.ds ∧ EntriesX w q nb (nb + 1) ra B2.es ∧ -999999 ≤ B2.ad ∧ B2.ad ≤ 999999 := (by have h := dep hdep 4 (by kernel_rfl); exact h)
              clear hdep hv
              obtain ⟨B2, pa, pc, ra, rc, f, c, rfl, h2, h3, h4⟩ := f4
              exact mid_val (.tuple #[.agg #[.int .i64 B2.ad, .int .i64 B2.ln, .int .i64 B2.ow, .int .i64 B2.lo, .int .i64 B2.hi, .slice pa B2.ds.length pc, .int .i64 B2.nw, .slice ra B2.es.length rc], f, c]) w (by kernel_rfl) (by kernel_rfl) (hK.out _ _ (Ap2.refl _ _ _) (JPlay.keep (i := 5) (by decide) (by decide) hJ) ⟨B2, pa, pc, ra, rc, f, c, rfl, h2, h3, h4⟩)
            · refine stepOkL_at _ rfl ?_
              intro listed vs w hls hv hi hcl hup hJ hdep K hK
              have hls : listed.size = 10 := hls
              obtain ⟨v0, v1, v2, v3, v4, v5, v6, v7, v8, v9, rfl⟩ := len10 hv
              have f5 : ∃ (B2 : Bk) (pa : Option Addr) (pc : Nat) (ra : Option Addr) (rc : Nat) (f c : Value), v5 = .tuple #[.agg #[.int .i64 B2.ad, .int .i64 B2.ln, .int .i64 B2.ow, .int .i64 B2.lo, .int .i64 B2.hi, .slice pa B2.ds.length pc, .int .i64 B2.nw, .slice ra B2.es.length rc], f, c] ∧ DoorsX w q nb (nb + 1) pa B2.ds ∧ EntriesX w q nb (nb + 1) ra B2.es ∧ -999999 ≤ B2.ad ∧ B2.ad ≤ 999999 := (by have h := dep hdep 5 (by kernel_rfl); exact h)
              clear hdep hv
              obtain ⟨B2, pa, pc, ra, rc, f, c, rfl, h2, h3, h4⟩ := f5
              exact mid_val (.agg #[.int .i64 B2.ad, .int .i64 B2.ln, .int .i64 B2.ow, .int .i64 B2.lo, .int .i64 B2.hi, .slice pa B2.ds.length pc, .int .i64 B2.nw, .slice ra B2.es.length rc]) w (by kernel_rfl) (by kernel_rfl) (hK.out _ _ (Ap2.refl _ _ _) (JPlay.keep (i := 6) (by decide) (by decide) hJ) ⟨B2, pa, pc, ra, rc, rfl, h2, h3, h4⟩)
            · refine stepOkL_at _ rfl ?_
              intro listed vs w hls hv hi hcl hup hJ hdep K hK
              have hls : listed.size = 10 := hls
              obtain ⟨v0, v1, v2, v3, v4, v5, v6, v7, v8, v9, rfl⟩ := len10 hv
              have f5 : ∃ (B2 : Bk) (pa : Option Addr) (pc : Nat) (ra : Option Addr) (rc : Nat) (f c : Value), v5 = .tuple #[.agg #[.int .i64 B2.ad, .int .i64 B2.ln, .int .i64 B2.ow, .int .i64 B2.lo, .int .i64 B2.hi, .slice pa B2.ds.length pc, .int .i64 B2.nw, .slice ra B2.es.length rc], f, c] ∧ DoorsX w q nb (nb + 1) pa B2.ds ∧ EntriesX w q nb (nb + 1) ra B2.es ∧ -999999 ≤ B2.ad ∧ B2.ad ≤ 999999 := (by have h := dep hdep 5 (by kernel_rfl); exact h)
              clear hdep hv
              obtain ⟨B2, pa, pc, ra, rc, f, c, rfl, h2, h3, h4⟩ := f5
              exact mid_val (f) w (by kernel_rfl) (by kernel_rfl) (hK.out _ _ (Ap2.refl _ _ _) (JPlay.keep (i := 7) (by decide) (by decide) hJ) trivial)
            · refine stepOkL_at _ rfl ?_
              intro listed vs w hls hv hi hcl hup hJ hdep K hK
              have hls : listed.size = 10 := hls
              obtain ⟨v0, v1, v2, v3, v4, v5, v6, v7, v8, v9, rfl⟩ := len10 hv
              have f5 : ∃ (B2 : Bk) (pa : Option Addr) (pc : Nat) (ra : Option Addr) (rc : Nat) (f c : Value), v5 = .tuple #[.agg #[.int .i64 B2.ad, .int .i64 B2.ln, .int .i64 B2.ow, .int .i64 B2.lo, .int .i64 B2.hi, .slice pa B2.ds.length pc, .int .i64 B2.nw, .slice ra B2.es.length rc], f, c] ∧ DoorsX w q nb (nb + 1) pa B2.ds ∧ EntriesX w q nb (nb + 1) ra B2.es ∧ -999999 ≤ B2.ad ∧ B2.ad ≤ 999999 := (by have h := dep hdep 5 (by kernel_rfl); exact h)
              clear hdep hv
              obtain ⟨B2, pa, pc, ra, rc, f, c, rfl, h2, h3, h4⟩ := f5
              exact mid_val (c) w (by kernel_rfl) (by kernel_rfl) (hK.out _ _ (Ap2.refl _ _ _) (JPlay.keep (i := 8) (by decide) (by decide) hJ) trivial)
            · refine stepOkL_at _ rfl ?_
              intro listed vs w hls hv hi hcl hup hJ hdep K hK
              have hls : listed.size = 10 := hls
              obtain ⟨v0, v1, v2, v3, v4, v5, v6, v7, v8, v9, rfl⟩ := len10 hv
              have f0 : v0 = .agg #[.int .i64 B.ad, .int .i64 B.ln, .int .i64 B.ow, .int .i64 B.lo, .int .i64 B.hi, .slice va B.ds.length vc, .int .i64 B.nw, .slice ua B.es.length uc] := (by have h := dep hdep 0 (by kernel_rfl); exact h)
              have f1 : v1 = .pointer (some ⟨R, 0, none⟩) := (by have h := dep hdep 1 (by kernel_rfl); exact h)
              have f2 : v2 = .agg #[.int .i64 B.ad, .int .i64 B.ln, .int .i64 B.ow, .int .i64 B.lo, .int .i64 B.hi, .slice va B.ds.length vc, .int .i64 B.nw, .slice ua B.es.length uc] := (by have h := dep hdep 2 (by kernel_rfl); exact h)
              have f3 : ∃ k a ap b bp : Int, v3 = .agg #[.int .i64 k, .int .i64 a, .int .i64 ap, .int .i64 b, .int .i64 bp] := (by have h := dep hdep 3 (by kernel_rfl); exact h)
              have f4 : ∃ (B2 : Bk) (pa : Option Addr) (pc : Nat) (ra : Option Addr) (rc : Nat) (f c : Value), v4 = .tuple #[.agg #[.int .i64 B2.ad, .int .i64 B2.ln, .int .i64 B2.ow, .int .i64 B2.lo, .int .i64 B2.hi, .slice pa B2.ds.length pc, .int .i64 B2.nw, .slice ra B2.es.length rc], f, c] ∧ DoorsX w q nb (nb + 1) pa B2.ds ∧ EntriesX w q nb (nb + 1) ra B2.es ∧ -999999 ≤ B2.ad ∧ B2.ad ≤ 999999 := (by have h := dep hdep 4 (by kernel_rfl); exact h)
              have f5 : ∃ (B2 : Bk) (pa : Option Addr) (pc : Nat) (ra : Option Addr) (rc : Nat) (f c : Value), v5 = .tuple #[.agg #[.int .i64 B2.ad, .int .i64 B2.ln, .int .i64 B2.ow, .int .i64 B2.lo, .int .i64 B2.hi, .slice pa B2.ds.length pc, .int .i64 B2.nw, .slice ra B2.es.length rc], f, c] ∧ DoorsX w q nb (nb + 1) pa B2.ds ∧ EntriesX w q nb (nb + 1) ra B2.es ∧ -999999 ≤ B2.ad ∧ B2.ad ≤ 999999 := (by have h := dep hdep 5 (by kernel_rfl); exact h)
              have f6 : ∃ (B2 : Bk) (pa : Option Addr) (pc : Nat) (ra : Option Addr) (rc : Nat), v6 = .agg #[.int .i64 B2.ad, .int .i64 B2.ln, .int .i64 B2.ow, .int .i64 B2.lo, .int .i64 B2.hi, .slice pa B2.ds.length pc, .int .i64 B2.nw, .slice ra B2.es.length rc] ∧ DoorsX w q nb (nb + 1) pa B2.ds ∧ EntriesX w q nb (nb + 1) ra B2.es ∧ -999999 ≤ B2.ad ∧ B2.ad ≤ 999999 := (by have h := dep hdep 6 (by kernel_rfl); exact h)
              clear hdep hv
              obtain ⟨B2, pa, pc, ra, rc, rfl, h2, h3, h4, h5⟩ := f6
              have h9 : listed.getD 9 false = false := not_up hi
              obtain ⟨hbx, hDX, hEX⟩ := hJ.2.2.2.1 h9
              obtain ⟨q1, q2⟩ := id hbx
              have q3 := hJ.2.2.2.2.2.2.2
              refine mid_skip (World.setCell (World.setCell (World.setCell (World.setCell (World.setCell (World.setCell (World.setCell (World.setCell w ⟨nb, 0, none⟩ (.int .i64 B2.ad)) ⟨nb, 1, none⟩ (.int .i64 B2.ln)) ⟨nb, 2, none⟩ (.int .i64 B2.ow)) ⟨nb, 3, none⟩ (.int .i64 B2.lo)) ⟨nb, 4, none⟩ (.int .i64 B2.hi)) ⟨nb, 5, none⟩ (.slice pa B2.ds.length pc)) ⟨nb, 6, none⟩ (.int .i64 B2.nw)) ⟨nb, 7, none⟩ (.slice ra B2.es.length rc)) (by kernel_rfl) ?_ (hK.out undef _ (Ap2.set8 (Ap2.refl _ _ _) (.int .i64 B2.ad) (.int .i64 B2.ln) (.int .i64 B2.ow) (.int .i64 B2.lo) (.int .i64 B2.hi) (.slice pa B2.ds.length pc) (.int .i64 B2.nw) (.slice ra B2.es.length rc)) (JPlay.stored hJ (by omega) (Play.mk B2 ((Bx.set8 ⟨hbx, q3⟩ (.int .i64 B2.ad) (.int .i64 B2.ln) (.int .i64 B2.ow) (.int .i64 B2.lo) (.int .i64 B2.hi) (.slice pa B2.ds.length pc) (.int .i64 B2.nw) (.slice ra B2.es.length rc))) (doorsX_set8 h2 (.int .i64 B2.ad) (.int .i64 B2.ln) (.int .i64 B2.ow) (.int .i64 B2.lo) (.int .i64 B2.hi) (.slice pa B2.ds.length pc) (.int .i64 B2.nw) (.slice ra B2.es.length rc)) (entriesX_set8 h3 (.int .i64 B2.ad) (.int .i64 B2.ln) (.int .i64 B2.ow) (.int .i64 B2.lo) (.int .i64 B2.hi) (.slice pa B2.ds.length pc) (.int .i64 B2.nw) (.slice ra B2.es.length rc)) h4 h5) (by omega) (by omega) (by omega)) trivial)
              simp only [setAll, List.setIfInBounds_toArray, List.set_cons_zero, List.set_cons_succ, List.set_nil]
              go_simp
          · intro listed vs w hls hal hv hJ hall
            obtain ⟨v0, v1, v2, v3, v4, v5, v6, v7, v8, v9, rfl⟩ := len10 hv
            have f0 : v0 = .agg #[.int .i64 B.ad, .int .i64 B.ln, .int .i64 B.ow, .int .i64 B.lo, .int .i64 B.hi, .slice va B.ds.length vc, .int .i64 B.nw, .slice ua B.es.length uc] := (by have h := hall 0 (by decide); exact h)
            have f1 : v1 = .pointer (some ⟨R, 0, none⟩) := (by have h := hall 1 (by decide); exact h)
            have f2 : v2 = .agg #[.int .i64 B.ad, .int .i64 B.ln, .int .i64 B.ow, .int .i64 B.lo, .int .i64 B.hi, .slice va B.ds.length vc, .int .i64 B.nw, .slice ua B.es.length uc] := (by have h := hall 2 (by decide); exact h)
            have f3 : ∃ k a ap b bp : Int, v3 = .agg #[.int .i64 k, .int .i64 a, .int .i64 ap, .int .i64 b, .int .i64 bp] := (by have h := hall 3 (by decide); exact h)
            have f4 : ∃ (B2 : Bk) (pa : Option Addr) (pc : Nat) (ra : Option Addr) (rc : Nat) (f c : Value), v4 = .tuple #[.agg #[.int .i64 B2.ad, .int .i64 B2.ln, .int .i64 B2.ow, .int .i64 B2.lo, .int .i64 B2.hi, .slice pa B2.ds.length pc, .int .i64 B2.nw, .slice ra B2.es.length rc], f, c] ∧ DoorsX w q nb (nb + 1) pa B2.ds ∧ EntriesX w q nb (nb + 1) ra B2.es ∧ -999999 ≤ B2.ad ∧ B2.ad ≤ 999999 := (by have h := hall 4 (by decide); exact h)
            have f5 : ∃ (B2 : Bk) (pa : Option Addr) (pc : Nat) (ra : Option Addr) (rc : Nat) (f c : Value), v5 = .tuple #[.agg #[.int .i64 B2.ad, .int .i64 B2.ln, .int .i64 B2.ow, .int .i64 B2.lo, .int .i64 B2.hi, .slice pa B2.ds.length pc, .int .i64 B2.nw, .slice ra B2.es.length rc], f, c] ∧ DoorsX w q nb (nb + 1) pa B2.ds ∧ EntriesX w q nb (nb + 1) ra B2.es ∧ -999999 ≤ B2.ad ∧ B2.ad ≤ 999999 := (by have h := hall 5 (by decide); exact h)
            have f6 : ∃ (B2 : Bk) (pa : Option Addr) (pc : Nat) (ra : Option Addr) (rc : Nat), v6 = .agg #[.int .i64 B2.ad, .int .i64 B2.ln, .int .i64 B2.ow, .int .i64 B2.lo, .int .i64 B2.hi, .slice pa B2.ds.length pc, .int .i64 B2.nw, .slice ra B2.es.length rc] ∧ DoorsX w q nb (nb + 1) pa B2.ds ∧ EntriesX w q nb (nb + 1) ra B2.es ∧ -999999 ≤ B2.ad ∧ B2.ad ≤ 999999 := (by have h := hall 6 (by decide); exact h)
            clear hall hv
            obtain ⟨HC, HRn, -, -, hP, bx, -⟩ := hJ
            have hP := hP (hal 9 (by decide))
            clear f0 f1 f2 f3 f4 f5 f6
            simp only [setAll, List.setIfInBounds_toArray, List.set_cons_zero, List.set_cons_succ, List.set_nil]
            go_wp2_with fail
            go_roundg (j - 1).toNat
            case measure => omega
            case rel => exact ⟨j - 1, rfl, by omega, by omega, rfl, hP, bx, HC, HRn.le (by omega)⟩
      · obtain ⟨B, va, vc, ua, uc, bb, hDX, hEX, ha1, ha2⟩ := hP
        have y1 := bb.1.2
        obtain ⟨⟨q1, q2⟩, q3⟩ := id bx
        go_wp2_with fail
        have hbv := bx.set8 (.int .i64 B.ad) (.int .i64 B.ln) (.int .i64 B.ow) (.int .i64 B.lo) (.int .i64 B.hi) (.slice va B.ds.length vc) (.int .i64 B.nw) (.slice ua B.es.length uc)
        obtain ⟨⟨t1, t2⟩, t3⟩ := id hbv
        refine bodyPost_ret (v := .agg #[.int .i64 B.ad, .int .i64 B.ln, .int .i64 B.ow, .int .i64 B.lo, .int .i64 B.hi, .slice va B.ds.length vc, .int .i64 B.nw, .slice ua B.es.length uc]) (by simp [results, Tryz.results158, go_sem, t2]) rfl ⟨⟨B, va, vc, ua, uc, rfl, ?_, ?_, hDX.1, hEX.1, ha1, ha2⟩, ap_set8x HC (n := nb + 1) (by omega) (.int .i64 B.ad) (.int .i64 B.ln) (.int .i64 B.ow) (.int .i64 B.lo) (.int .i64 B.hi) (.slice va B.ds.length vc) (.int .i64 B.nw) (.slice ua B.es.length uc), (rb_set8 HRc (n := nb + 1) (by omega) (.int .i64 B.ad) (.int .i64 B.ln) (.int .i64 B.ow) (.int .i64 B.lo) (.int .i64 B.hi) (.slice va B.ds.length vc) (.int .i64 B.nw) (.slice ua B.es.length uc)).le (by omega)⟩
        · exact hDX.out8 (.int .i64 B.ad) (.int .i64 B.ln) (.int .i64 B.ow) (.int .i64 B.lo) (.int .i64 B.hi) (.slice va B.ds.length vc) (.int .i64 B.nw) (.slice ua B.es.length uc)
        · exact hEX.out8 (.int .i64 B.ad) (.int .i64 B.ln) (.int .i64 B.ow) (.int .i64 B.lo) (.int .i64 B.hi) (.slice va B.ds.length vc) (.int .i64 B.nw) (.slice ua B.es.length uc)
end Go.Proofs.YtcgjpmhjijmplaaGreatDoor
