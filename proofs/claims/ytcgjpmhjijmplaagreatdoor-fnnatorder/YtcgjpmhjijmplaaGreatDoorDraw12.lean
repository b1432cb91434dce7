/- Draws: the specification's l5Play, walked. -/
import Derived.Test.YtcgjpmhjijmplaaGreatDoorDraw11
import Derived.Test.YtcgjpmhjijmplaaGreatDoorOut3
import Derived.Test.YtcgjpmhjijmplaaGreatDoorJoinP
import Derived.Deep.DeepCutAuto
namespace Go.Proofs.YtcgjpmhjijmplaaGreatDoor
open Go.ChangeShapes Go.WideShapes Go.ChangeAt Go.RowKit Go.Maps

/-- Doors in memory from block q on, not in block nb. -/
def DoorsX (w : World) (q nb xb : Nat) (da : Option Addr) (ds : List Dr) : Prop := ds.length ≤ 100 ∧ (ds = [] ∨ ∃ b o, da = some ⟨b, o, none⟩ ∧ q ≤ b ∧ (b ≠ nb ∧ b ≠ xb) ∧ b < w.heap.size ∧ DrCells w b o ds)
def EntriesX (w : World) (q nb xb : Nat) (ea : Option Addr) (es : List En) : Prop := es.length ≤ 100 ∧ (es = [] ∨ ∃ b o, ea = some ⟨b, o, none⟩ ∧ q ≤ b ∧ (b ≠ nb ∧ b ≠ xb) ∧ b < w.heap.size ∧ EnCells w b o es)
theorem DoorsX.apart {R : Nat} {w w' : World} {q nb xb : Nat} {da : Option Addr} {ds : List Dr} (h : DoorsX w q nb xb da ds) (ha : Apart R w w') (hR : R < q) : DoorsX w' q nb xb da ds :=
  ⟨h.1, h.2.imp id fun ⟨b, o, h1, h2, h3, h4, h5⟩ => ⟨b, o, h1, h2, h3, Nat.lt_of_lt_of_le h4 ha.size, h5.apart ha h4 (by omega)⟩⟩
theorem EntriesX.apart {R : Nat} {w w' : World} {q nb xb : Nat} {da : Option Addr} {ds : List En} (h : EntriesX w q nb xb da ds) (ha : Apart R w w') (hR : R < q) : EntriesX w' q nb xb da ds :=
  ⟨h.1, h.2.imp id fun ⟨b, o, h1, h2, h3, h4, h5⟩ => ⟨b, o, h1, h2, h3, Nat.lt_of_lt_of_le h4 ha.size, h5.apart ha h4 (by omega)⟩⟩
theorem dr_other {w : World} {g o : Nat} {ds : List Dr} (h : DrCells w g o ds) {n j : Nat} (hn : g ≠ n) (v : Value) : DrCells (w.setCell ⟨n, j, none⟩ v) g o ds := by
  have hc : ∀ p, (w.setCell ⟨n, j, none⟩ v).cell? ⟨g, p, none⟩ = w.cell? ⟨g, p, none⟩ := fun p => World.cell?_setCell_other _ _ _ _ (fun e => hn (by injection e with e1; exact e1.symm))
  intro i x hi
  obtain ⟨c0, c1, c2, c3⟩ := h i x hi
  refine ⟨?_, ?_, ?_, ?_⟩ <;> (rw [hc]; assumption)
theorem DoorsX.set {w : World} {q nb xb : Nat} {da : Option Addr} {ds : List Dr} (h : DoorsX w q nb xb da ds) (j : Nat) (v : Value) : DoorsX (w.setCell ⟨nb, j, none⟩ v) q nb xb da ds :=
  ⟨h.1, h.2.imp id fun ⟨b, o, h1, h2, h3, h4, h5⟩ => ⟨b, o, h1, h2, h3, by simpa [World.setCell] using h4, dr_other h5 h3.1 v⟩⟩
theorem EntriesX.set {w : World} {q nb xb : Nat} {da : Option Addr} {ds : List En} (h : EntriesX w q nb xb da ds) (j : Nat) (v : Value) : EntriesX (w.setCell ⟨nb, j, none⟩ v) q nb xb da ds :=
  ⟨h.1, h.2.imp id fun ⟨b, o, h1, h2, h3, h4, h5⟩ => ⟨b, o, h1, h2, h3, by simpa [World.setCell] using h4, en_other h5 h3.1 v⟩⟩
/-- A book that is being played lies in block nb. -/
def Play (w : World) (q nb xb : Nat) : Prop := ∃ (B : Bk) (va : Option Addr) (vc : Nat) (ua : Option Addr) (uc : Nat), Bx w nb #[.int .i64 B.ad, .int .i64 B.ln, .int .i64 B.ow, .int .i64 B.lo, .int .i64 B.hi, .slice va B.ds.length vc, .int .i64 B.nw, .slice ua B.es.length uc] ∧ DoorsX w q nb xb va B.ds ∧ EntriesX w q nb xb ua B.es ∧ -999999 ≤ B.ad ∧ B.ad ≤ 999999
theorem Play.apart {R : Nat} {w w' : World} {q nb xb : Nat} (h : Play w q nb xb) (ha : Apart R w w') (hR : R < q) (hn : nb ≠ R) : Play w' q nb xb := by
  obtain ⟨B, va, vc, ua, uc, h1, h2, h3, h4⟩ := h
  exact ⟨B, va, vc, ua, uc, h1.apart ha hn, h2.apart ha hR, h3.apart ha hR, h4⟩
theorem Play.lt {w : World} {q nb xb : Nat} (h : Play w q nb xb) : nb < w.heap.size := by
  obtain ⟨B, va, vc, ua, uc, h1, _⟩ := h
  exact h1.1.1
/-- A store of a whole book. -/
structure Ap2 (R nb : Nat) (w w' : World) : Prop where
  size : w.heap.size ≤ w'.heap.size
  block : ∀ k, k < w.heap.size → k ≠ R → k ≠ nb → w'.heap[k]? = w.heap[k]?
theorem Ap2.refl (R nb : Nat) (w : World) : Ap2 R nb w w := ⟨Nat.le_refl _, fun _ _ _ _ => rfl⟩
theorem Ap2.of {R nb : Nat} {w w' : World} (h : Apart R w w') : Ap2 R nb w w' := ⟨h.size, fun k hk h1 _ => h.block k hk h1⟩
theorem Ap2.set {R nb : Nat} {w0 w : World} (h : Ap2 R nb w0 w) (j : Nat) (v : Value) : Ap2 R nb w0 (w.setCell ⟨nb, j, none⟩ v) :=
  ⟨by simpa [World.setCell] using h.size, fun k hk h1 h2 => (Below.heap_setCell _ _ _ _ (by simpa using h2)).trans (h.block k hk h1 h2)⟩
theorem Ap2.set8 {R nb : Nat} {w0 w : World} (h : Ap2 R nb w0 w) (a b c d e f g i : Value) : Ap2 R nb w0 (World.setCell (World.setCell (World.setCell (World.setCell (World.setCell (World.setCell (World.setCell (World.setCell w ⟨nb, 0, none⟩ (a)) ⟨nb, 1, none⟩ (b)) ⟨nb, 2, none⟩ (c)) ⟨nb, 3, none⟩ (d)) ⟨nb, 4, none⟩ (e)) ⟨nb, 5, none⟩ (f)) ⟨nb, 6, none⟩ (g)) ⟨nb, 7, none⟩ (i)) := (((((((h.set 0 a).set 1 b).set 2 c).set 3 d).set 4 e).set 5 f).set 6 g).set 7 i
theorem Ap2.cell {R nb : Nat} {w w' : World} (h : Ap2 R nb w w') {b o : Nat} (hb : b < w.heap.size) (h1 : b ≠ R) (h2 : b ≠ nb) : w'.cell? ⟨b, o, none⟩ = w.cell? ⟨b, o, none⟩ := World.cell?_of_block (w := w) (h.block b hb h1 h2)
theorem ap_set8x {R : Nat} {w0 w : World} (h : Apart R w0 w) {n : Nat} (hn : w0.heap.size ≤ n) (a b c d e f g i : Value) : Apart R w0 (World.setCell (World.setCell (World.setCell (World.setCell (World.setCell (World.setCell (World.setCell (World.setCell w ⟨n, 0, none⟩ (a)) ⟨n, 1, none⟩ (b)) ⟨n, 2, none⟩ (c)) ⟨n, 3, none⟩ (d)) ⟨n, 4, none⟩ (e)) ⟨n, 5, none⟩ (f)) ⟨n, 6, none⟩ (g)) ⟨n, 7, none⟩ (i)) :=
  ap_new (ap_new (ap_new (ap_new (ap_new (ap_new (ap_new (ap_new h hn a) hn b) hn c) hn d) hn e) hn f) hn g) hn i
theorem rb_set8 {w : World} {R : Nat} {k : Int} (h : Rb w R k) {n : Nat} (hn : R < n) (a b c d e f g i : Value) : Rb (World.setCell (World.setCell (World.setCell (World.setCell (World.setCell (World.setCell (World.setCell (World.setCell w ⟨n, 0, none⟩ (a)) ⟨n, 1, none⟩ (b)) ⟨n, 2, none⟩ (c)) ⟨n, 3, none⟩ (d)) ⟨n, 4, none⟩ (e)) ⟨n, 5, none⟩ (f)) ⟨n, 6, none⟩ (g)) ⟨n, 7, none⟩ (i)) R k :=
  (((((((h.set hn a).set hn b).set hn c).set hn d).set hn e).set hn f).set hn g).set hn i
/-- The condition that region 5 of l5Play keeps. -/
def JPlay (R q nb xb : Nat) (w0 : World) (N : Int) (C : Array Value) (va ua : Option Addr) (ds : List Dr) (es : List En) (L : Array Bool) (w : World) : Prop :=
  Apart R w0 w ∧ Rb w R (N + 200) ∧ (L.getD 3 false = false → Rb w R N) ∧ (L.getD 9 false = false → Box w nb C ∧ DoorsX w q nb xb va ds ∧ EntriesX w q nb xb ua es) ∧ (L.getD 9 false = true → Play w q nb xb) ∧ Bx w xb #[.int .i64 0, .int .i64 0, .int .i64 0, .int .i64 0, .int .i64 0, .slice none 0 0, .int .i64 0, .slice none 0 0] ∧ nb < w.heap.size ∧ ∀ j, w.frozen? ⟨nb, j, none⟩ = false
section
variable {R q nb xb : Nat} {w0 : World} {N : Int} {C : Array Value} {va ua : Option Addr} {ds : List Dr} {es : List En} {L : Array Bool} {w : World}
theorem JPlay.keep {i : Nat} (h3 : 3 ≠ i) (h9 : 9 ≠ i) (h : JPlay R q nb xb w0 N C va ua ds es L w) : JPlay R q nb xb w0 N C va ua ds es (L.setIfInBounds i true) w := by
  refine ⟨h.1, h.2.1, fun x => h.2.2.1 (by rwa [listed_ne h3] at x), fun x => h.2.2.2.1 (by rwa [listed_ne h9] at x), fun x => h.2.2.2.2.1 (by rwa [listed_ne h9] at x), h.2.2.2.2.2⟩
theorem JPlay.below {w' : World} {i : Nat} (h : JPlay R q nb xb w0 N C va ua ds es L w) (hb : Below w.heap.size w w') (h3 : 3 ≠ i) (h9 : 9 ≠ i) (hRq : R < q) (hnR : nb ≠ R) (_ : xb ≠ R) : JPlay R q nb xb w0 N C va ua ds es (L.setIfInBounds i true) w' := by
  have ha := ap_of_bl (R := R) hb
  refine ⟨ap_trans h.1 ha, h.2.1.below hb, fun x => (h.2.2.1 (by rwa [listed_ne h3] at x)).below hb, fun x => ?_, fun x => (h.2.2.2.2.1 (by rwa [listed_ne h9] at x)).apart ha hRq hnR, h.2.2.2.2.2.1.below hb, Nat.lt_of_lt_of_le h.2.2.2.2.2.2.1 hb.size, fun j => (hb.frozen (p := ⟨nb, j, none⟩) h.2.2.2.2.2.2.1).trans (h.2.2.2.2.2.2.2 j)⟩
  obtain ⟨x1, x2, x3⟩ := h.2.2.2.1 (by rwa [listed_ne h9] at x)
  exact ⟨x1.below hb, x2.apart ha hRq, x3.apart ha hRq⟩
theorem JPlay.stored (h : JPlay R q nb xb w0 N C va ua ds es L w) (hl : 9 < L.size) {a b c d e f g i : Value} (hP : Play (World.setCell (World.setCell (World.setCell (World.setCell (World.setCell (World.setCell (World.setCell (World.setCell w ⟨nb, 0, none⟩ (a)) ⟨nb, 1, none⟩ (b)) ⟨nb, 2, none⟩ (c)) ⟨nb, 3, none⟩ (d)) ⟨nb, 4, none⟩ (e)) ⟨nb, 5, none⟩ (f)) ⟨nb, 6, none⟩ (g)) ⟨nb, 7, none⟩ (i)) q nb xb) (hw : w0.heap.size ≤ nb) (hR : R < nb) (hxn : xb ≠ nb) : JPlay R q nb xb w0 N C va ua ds es (L.setIfInBounds 9 true) (World.setCell (World.setCell (World.setCell (World.setCell (World.setCell (World.setCell (World.setCell (World.setCell w ⟨nb, 0, none⟩ (a)) ⟨nb, 1, none⟩ (b)) ⟨nb, 2, none⟩ (c)) ⟨nb, 3, none⟩ (d)) ⟨nb, 4, none⟩ (e)) ⟨nb, 5, none⟩ (f)) ⟨nb, 6, none⟩ (g)) ⟨nb, 7, none⟩ (i)) := by
  refine ⟨ap_set8x h.1 hw a b c d e f g i, rb_set8 h.2.1 hR a b c d e f g i, fun x => rb_set8 (h.2.2.1 (by rwa [listed_ne (by decide)] at x)) hR a b c d e f g i, fun x => ?_, fun _ => hP, h.2.2.2.2.2.1.other8 hxn a b c d e f g i, ?_, ?_⟩
  · rw [listed_eq hl] at x; cases x
  · simpa [World.setCell] using h.2.2.2.2.2.2.1
  · simpa using h.2.2.2.2.2.2.2
end
theorem Play.mk {w : World} {q nb xb : Nat} {va : Option Addr} {vc : Nat} {ua : Option Addr} {uc : Nat} (B : Bk) (h : Bx w nb #[.int .i64 B.ad, .int .i64 B.ln, .int .i64 B.ow, .int .i64 B.lo, .int .i64 B.hi, .slice va B.ds.length vc, .int .i64 B.nw, .slice ua B.es.length uc]) (hD : DoorsX w q nb xb va B.ds) (hE : EntriesX w q nb xb ua B.es) (h1 : -999999 ≤ B.ad) (h2 : B.ad ≤ 999999) : Play w q nb xb := ⟨B, va, vc, ua, uc, h, hD, hE, h1, h2⟩
end Go.Proofs.YtcgjpmhjijmplaaGreatDoor
