/- What NatOut tells, as plain data; memory laws for its walks. -/
import Derived.Test.YtcgjpmhjijmplaaGreatDoorJoinN
import Derived.Test.YtcgjpmhjijmplaaGreatDoorTick3
import Derived.Test.YtcgjpmhjijmplaaGreatDoorJoinC
namespace Go.Proofs.YtcgjpmhjijmplaaGreatDoor
open Go.ChangeShapes Go.WideShapes Go.ChangeAt Go.RowKit Go.Maps

/-- A flow as plain data. -/
structure Fl where
  k : Int
  a : Int
  ap : Int
  b : Int
  bp : Int
/-- What NatOut tells: a book, a flow, a code. -/
structure Out where
  R : Bk
  F : Fl
  c : Int
def goesB (ad ln ow a b : Int) : Bool := insB ad ln a && peerB ad ln ow b
/-- The least free port from lo to hi. -/
def freeP (es : List En) (k b bp lo hi : Int) : Option Int := Option.map (fun (i : Nat) => lo + (i : Int)) ((List.range (hi + 1 - lo).toNat).find? fun (i : Nat) => !es.any (takenE k b bp (lo + (i : Int))))
def zeroF : Fl := ⟨0, 0, 0, 0, 0⟩
/-- An entry goes out once more. -/
def again (nw : Int) (d : En) : En := ⟨d.k, d.pr, d.pp, d.o, d.i, d.ip, nw⟩
noncomputable def outM (B : Bk) (k a ap b bp : Int) : Out :=
  if bookB B.ad B.ln B.ow B.lo B.hi B.nw B.ds B.es = true then
    if flowB k a ap b bp = true then
      if goesB B.ad B.ln B.ow a b = true then
        match B.ds.find? (sendsD k a ap) with
        | some d => ⟨B, ⟨k, B.ow, d.o, b, bp⟩, 0⟩
        | none =>
          match B.es.findIdx? (sendsE B.nw k a ap b bp) with
          | some i => ⟨⟨B.ad, B.ln, B.ow, B.lo, B.hi, B.nw, B.ds, B.es.modify i (again B.nw)⟩, ⟨k, B.ow, (B.es[i]?.map (·.o)).getD 0, b, bp⟩, 0⟩
          | none =>
            if B.es.length = 16 then ⟨B, zeroF, 4⟩ else
            match freeP B.es k b bp B.lo B.hi with
            | some p => ⟨⟨B.ad, B.ln, B.ow, B.lo, B.hi, B.nw, B.ds, putE B.es ⟨k, b, bp, p, a, ap, B.nw⟩⟩, ⟨k, B.ow, p, b, bp⟩, 0⟩
            | none => ⟨B, zeroF, 5⟩
      else ⟨B, zeroF, 3⟩
    else ⟨B, zeroF, 2⟩
  else ⟨⟨0, 0, 0, 0, 0, 0, [], []⟩, zeroF, 1⟩
theorem free_some {es : List En} {k b bp lo hi p : Int} (h : FreeAt es k b bp lo hi p) (hp : p ≠ 0) : freeP es k b bp lo hi = some p := by
  rcases h with ⟨h1, h2, h3, h4⟩ | ⟨h, _⟩
  · have h5 : (List.range (hi + 1 - lo).toNat).find? (fun (i : Nat) => !es.any (takenE k b bp (lo + (i : Int)))) = some (p - lo).toNat := by
      refine find_at (n := (p - lo).toNat) ?_ ?_ ?_
      · rw [List.getElem?_range (by omega)]
      · rw [show lo + ((p - lo).toNat : Int) = p by omega, h3]; rfl
      · intro j y hj hy
        rw [List.getElem?_range (by omega)] at hy
        obtain rfl := Option.some.inj hy
        rw [h4 (lo + (j : Int)) (by omega) (by omega)]; rfl
    unfold freeP
    rw [h5]
    simp only [Option.map_some]
    rw [show lo + ((p - lo).toNat : Int) = p by omega]
  · exact absurd h hp
theorem free_none {es : List En} {k b bp lo hi : Int} (h : FreeAt es k b bp lo hi 0) (hl : 1 ≤ lo) : freeP es k b bp lo hi = none := by
  rcases h with ⟨h1, _⟩ | ⟨_, h⟩
  · omega
  · unfold freeP
    rw [Option.map_eq_none_iff, List.find?_eq_none]
    intro i hi
    rw [List.mem_range] at hi
    rw [h (lo + (i : Int)) (by omega) (by omega)]; simp
theorem foundIdx {α : Type} {p : α → Bool} {xs : List α} {n : Nat} {x : α} (h : xs[n]? = some x) (hp : p x = true) (hb : ∀ j y, j < n → xs[j]? = some y → p y = false) : xs.findIdx? p = some n := by
  have hl := get_lt h
  rw [List.findIdx?_eq_some_iff_getElem]
  refine ⟨hl, ?_, ?_⟩
  · rw [List.getElem?_eq_getElem hl] at h
    rw [Option.some.inj h]; exact hp
  · intro j hj
    have := hb j xs[j] hj (by simp)
    simp [this]
theorem noIdx {α : Type} {p : α → Bool} {xs : List α} (h : ∀ (j : Nat) y, xs[j]? = some y → p y = false) : xs.findIdx? p = none := by
  rw [List.findIdx?_eq_none_iff]
  intro x hx
  obtain ⟨j, hj⟩ := List.mem_iff_getElem?.1 hx
  exact h j x hj
theorem noFind {α : Type} {p : α → Bool} {xs : List α} (h : ∀ (j : Nat) y, xs[j]? = some y → p y = false) : xs.find? p = none := by
  rw [List.find?_eq_none]
  intro x hx
  obtain ⟨j, hj⟩ := List.mem_iff_getElem?.1 hx
  simp [h j x hj]

section
variable {ad ln ow lo hi nw : Int} {ds : List Dr} {es : List En} {k a ap b bp : Int}
theorem out_one (hk : bookB ad ln ow lo hi nw ds es = false) : outM ⟨ad, ln, ow, lo, hi, nw, ds, es⟩ k a ap b bp = ⟨⟨0, 0, 0, 0, 0, 0, [], []⟩, zeroF, 1⟩ := by simp [outM, hk]
theorem out_two (hk : bookB ad ln ow lo hi nw ds es = true) (hf : flowB k a ap b bp = false) : outM ⟨ad, ln, ow, lo, hi, nw, ds, es⟩ k a ap b bp = ⟨⟨ad, ln, ow, lo, hi, nw, ds, es⟩, zeroF, 2⟩ := by simp [outM, hk, hf]
theorem out_three (hk : bookB ad ln ow lo hi nw ds es = true) (hf : flowB k a ap b bp = true) (hg : goesB ad ln ow a b = false) : outM ⟨ad, ln, ow, lo, hi, nw, ds, es⟩ k a ap b bp = ⟨⟨ad, ln, ow, lo, hi, nw, ds, es⟩, zeroF, 3⟩ := by simp [outM, hk, hf, hg]
theorem out_door (hk : bookB ad ln ow lo hi nw ds es = true) (hf : flowB k a ap b bp = true) (hg : goesB ad ln ow a b = true) {d : Dr} (hd : ds.find? (sendsD k a ap) = some d) : outM ⟨ad, ln, ow, lo, hi, nw, ds, es⟩ k a ap b bp = ⟨⟨ad, ln, ow, lo, hi, nw, ds, es⟩, ⟨k, ow, d.o, b, bp⟩, 0⟩ := by simp [outM, hk, hf, hg, hd]
theorem out_entry (hk : bookB ad ln ow lo hi nw ds es = true) (hf : flowB k a ap b bp = true) (hg : goesB ad ln ow a b = true) (hd : ds.find? (sendsD k a ap) = none) {i : Nat} {e : En} (hi' : es.findIdx? (sendsE nw k a ap b bp) = some i) (he : es[i]? = some e) :
    outM ⟨ad, ln, ow, lo, hi, nw, ds, es⟩ k a ap b bp = ⟨⟨ad, ln, ow, lo, hi, nw, ds, es.modify i (again nw)⟩, ⟨k, ow, e.o, b, bp⟩, 0⟩ := by simp [outM, hk, hf, hg, hd, hi', he]
theorem out_four (hk : bookB ad ln ow lo hi nw ds es = true) (hf : flowB k a ap b bp = true) (hg : goesB ad ln ow a b = true) (hd : ds.find? (sendsD k a ap) = none) (hi' : es.findIdx? (sendsE nw k a ap b bp) = none) (hl : es.length = 16) :
    outM ⟨ad, ln, ow, lo, hi, nw, ds, es⟩ k a ap b bp = ⟨⟨ad, ln, ow, lo, hi, nw, ds, es⟩, zeroF, 4⟩ := by simp [outM, hk, hf, hg, hd, hi', hl]
theorem out_five (hk : bookB ad ln ow lo hi nw ds es = true) (hf : flowB k a ap b bp = true) (hg : goesB ad ln ow a b = true) (hd : ds.find? (sendsD k a ap) = none) (hi' : es.findIdx? (sendsE nw k a ap b bp) = none) (hl : es.length ≠ 16) (hp : freeP es k b bp lo hi = none) :
    outM ⟨ad, ln, ow, lo, hi, nw, ds, es⟩ k a ap b bp = ⟨⟨ad, ln, ow, lo, hi, nw, ds, es⟩, zeroF, 5⟩ := by simp [outM, hk, hf, hg, hd, hi', hl, hp]
theorem out_new (hk : bookB ad ln ow lo hi nw ds es = true) (hf : flowB k a ap b bp = true) (hg : goesB ad ln ow a b = true) (hd : ds.find? (sendsD k a ap) = none) (hi' : es.findIdx? (sendsE nw k a ap b bp) = none) (hl : es.length ≠ 16) {p : Int} (hp : freeP es k b bp lo hi = some p) :
    outM ⟨ad, ln, ow, lo, hi, nw, ds, es⟩ k a ap b bp = ⟨⟨ad, ln, ow, lo, hi, nw, ds, putE es ⟨k, b, bp, p, a, ap, nw⟩⟩, ⟨k, ow, p, b, bp⟩, 0⟩ := by simp [outM, hk, hf, hg, hd, hi', hl, hp]
end

/-- What is told of a book beside a flow and a code. -/
def ToldO (w : World) (base : Nat) (e : Ending) (O : Out) : Prop :=
  ∃ va vc ua uc, e = .returned (.tuple #[.agg #[.int .i64 O.R.ad, .int .i64 O.R.ln, .int .i64 O.R.ow, .int .i64 O.R.lo, .int .i64 O.R.hi, .slice va O.R.ds.length vc, .int .i64 O.R.nw, .slice ua O.R.es.length uc], .agg #[.int .i64 O.F.k, .int .i64 O.F.a, .int .i64 O.F.ap, .int .i64 O.F.b, .int .i64 O.F.bp], .int .i64 O.c]) ∧ OwnB w base (.slice va O.R.ds.length vc) O.R.ds (.slice ua O.R.es.length uc) O.R.es
theorem own_other5 {w : World} {base size k : Nat} {t : TypeId} {v : Value} {xs : List Value} (hh : w.ownsRow base t size v k xs) {m : Nat} (hm : m < base) (a b c d e : Value) : (((((w.setCell ⟨m, 0, none⟩ a).setCell ⟨m, 1, none⟩ b).setCell ⟨m, 2, none⟩ c).setCell ⟨m, 3, none⟩ d).setCell ⟨m, 4, none⟩ e).ownsRow base t size v k xs :=
  own_other (own_other (own_other (own_other (own_other hh hm a) hm b) hm c) hm d) hm e
theorem Bx.other5 {w : World} {n m : Nat} {C : Array Value} (h : Bx w m C) (hm : m ≠ n) (a b c d e : Value) : Bx (((((w.setCell ⟨n, 0, none⟩ a).setCell ⟨n, 1, none⟩ b).setCell ⟨n, 2, none⟩ c).setCell ⟨n, 3, none⟩ d).setCell ⟨n, 4, none⟩ e) m C :=
  ((((h.other hm a).other hm b).other hm c).other hm d).other hm e
theorem OwnB.mono {w : World} {base base' : Nat} {vd ve : Value} {ds : List Dr} {es : List En} (h : OwnB w base vd ds ve es) (hb : base' ≤ base) : OwnB w base' vd ds ve es := ⟨own_mono h.1 hb, own_mono h.2.1 hb, h.2.2⟩
theorem OwnB.set8 {w : World} {base : Nat} {vd ve : Value} {ds : List Dr} {es : List En} (h : OwnB w base vd ds ve es) {m : Nat} (hm : m < base) (a b c d e f g i : Value) : OwnB ((((((((w.setCell ⟨m, 0, none⟩ a).setCell ⟨m, 1, none⟩ b).setCell ⟨m, 2, none⟩ c).setCell ⟨m, 3, none⟩ d).setCell ⟨m, 4, none⟩ e).setCell ⟨m, 5, none⟩ f).setCell ⟨m, 6, none⟩ g).setCell ⟨m, 7, none⟩ i) base vd ds ve es :=
  ⟨own_other8 h.1 hm a b c d e f g i, own_other8 h.2.1 hm a b c d e f g i, h.2.2⟩
theorem OwnB.set5 {w : World} {base : Nat} {vd ve : Value} {ds : List Dr} {es : List En} (h : OwnB w base vd ds ve es) {m : Nat} (hm : m < base) (a b c d e : Value) : OwnB (((((w.setCell ⟨m, 0, none⟩ a).setCell ⟨m, 1, none⟩ b).setCell ⟨m, 2, none⟩ c).setCell ⟨m, 3, none⟩ d).setCell ⟨m, 4, none⟩ e) base vd ds ve es :=
  ⟨own_other5 h.1 hm a b c d e, own_other5 h.2.1 hm a b c d e, h.2.2⟩
theorem Box.other8 {w : World} {n m : Nat} {C : Array Value} (h : Box w m C) (hm : m ≠ n) (a b c d e f g i : Value) : Box ((((((((w.setCell ⟨n, 0, none⟩ a).setCell ⟨n, 1, none⟩ b).setCell ⟨n, 2, none⟩ c).setCell ⟨n, 3, none⟩ d).setCell ⟨n, 4, none⟩ e).setCell ⟨n, 5, none⟩ f).setCell ⟨n, 6, none⟩ g).setCell ⟨n, 7, none⟩ i) m C :=
  (((((((h.other hm a).other hm b).other hm c).other hm d).other hm e).other hm f).other hm g).other hm i
theorem dr_other8 {w : World} {g o : Nat} {ds : List Dr} (h : DrCells w g o ds) {n : Nat} (hn : g ≠ n) (a b c d e f p i : Value) : DrCells ((((((((w.setCell ⟨n, 0, none⟩ a).setCell ⟨n, 1, none⟩ b).setCell ⟨n, 2, none⟩ c).setCell ⟨n, 3, none⟩ d).setCell ⟨n, 4, none⟩ e).setCell ⟨n, 5, none⟩ f).setCell ⟨n, 6, none⟩ p).setCell ⟨n, 7, none⟩ i) g o ds := by
  have hc : ∀ (W : World) j v p, (W.setCell ⟨n, j, none⟩ v).cell? ⟨g, p, none⟩ = W.cell? ⟨g, p, none⟩ := fun W j v p => World.cell?_setCell_other _ _ _ _ (fun e => hn (by injection e with e1; exact e1.symm))
  intro j x hj
  obtain ⟨c0, c1, c2, c3⟩ := h j x hj
  refine ⟨?_, ?_, ?_, ?_⟩ <;> (rw [hc, hc, hc, hc, hc, hc, hc, hc]; assumption)
theorem en_other8 {w : World} {g o : Nat} {es : List En} (h : EnCells w g o es) {n : Nat} (hn : g ≠ n) (a b c d e f p i : Value) : EnCells ((((((((w.setCell ⟨n, 0, none⟩ a).setCell ⟨n, 1, none⟩ b).setCell ⟨n, 2, none⟩ c).setCell ⟨n, 3, none⟩ d).setCell ⟨n, 4, none⟩ e).setCell ⟨n, 5, none⟩ f).setCell ⟨n, 6, none⟩ p).setCell ⟨n, 7, none⟩ i) g o es := by
  have hc : ∀ (W : World) j v p, (W.setCell ⟨n, j, none⟩ v).cell? ⟨g, p, none⟩ = W.cell? ⟨g, p, none⟩ := fun W j v p => World.cell?_setCell_other _ _ _ _ (fun e => hn (by injection e with e1; exact e1.symm))
  intro j x hj
  obtain ⟨c0, c1, c2, c3, c4, c5, c6⟩ := h j x hj
  refine ⟨?_, ?_, ?_, ?_, ?_, ?_, ?_⟩ <;> (rw [hc, hc, hc, hc, hc, hc, hc, hc]; assumption)
theorem en_other5 {w : World} {g o : Nat} {es : List En} (h : EnCells w g o es) {n : Nat} (hn : g ≠ n) (a b c d e : Value) : EnCells (((((w.setCell ⟨n, 0, none⟩ a).setCell ⟨n, 1, none⟩ b).setCell ⟨n, 2, none⟩ c).setCell ⟨n, 3, none⟩ d).setCell ⟨n, 4, none⟩ e) g o es := by
  have hc : ∀ (W : World) j v p, (W.setCell ⟨n, j, none⟩ v).cell? ⟨g, p, none⟩ = W.cell? ⟨g, p, none⟩ := fun W j v p => World.cell?_setCell_other _ _ _ _ (fun e => hn (by injection e with e1; exact e1.symm))
  intro j x hj
  obtain ⟨c0, c1, c2, c3, c4, c5, c6⟩ := h j x hj
  refine ⟨?_, ?_, ?_, ?_, ?_, ?_, ?_⟩ <;> (rw [hc, hc, hc, hc, hc]; assumption)
theorem row_of_own {w : World} {base g n cap size : Nat} {e : TypeId} {xs : List Value} (h : w.ownsRow base e size (.slice (some ⟨g, 0, none⟩) n cap) n xs) : IsRow w g e (cap * size) ∧ base ≤ g ∧ n ≤ cap ∧ cap ≤ maxLen := by
  rcases h.2 with ⟨h1, _⟩ | ⟨g', cap', cur, h1, h2, h3, h4, h5, h6, h7⟩
  · cases h1
  · simp only [Value.slice.injEq, Option.some.injEq, Addr.mk.injEq] at h1
    obtain ⟨⟨rfl, -⟩, -, rfl⟩ := h1
    exact ⟨⟨cur, h3, h6⟩, h2, h4, h5⟩
/-- One field of one entry in an own row turns. -/
theorem own_touch {w : World} {base g cap : Nat} {e : TypeId} {L : List En} (ho : w.ownsRow base e 7 (.slice (some ⟨g, 0, none⟩) L.length cap) L.length (flatE L)) {i : Nat} {d : En} (hd : L[i]? = some d) (x : Int) :
    (w.setCell ⟨g, 0 + i * 7 + 6, none⟩ (.int .i64 x)).ownsRow base e 7 (.slice (some ⟨g, 0, none⟩) (L.modify i (again x)).length cap) (L.modify i (again x)).length (flatE (L.modify i (again x))) := by
  obtain ⟨hr, hb, hc, hm⟩ := row_of_own ho
  have hcs := enCells_of_own ho rfl
  have hil := get_lt hd
  refine own_of_row (hr.set _) hb (by simpa using hc) hm ?_
  have ho : ∀ q, q ≠ 0 + i * 7 + 6 → (w.setCell ⟨g, 0 + i * 7 + 6, none⟩ (.int .i64 x)).cell? ⟨g, q, none⟩ = w.cell? ⟨g, q, none⟩ := fun q hq => World.cell?_setCell_other _ _ _ _ (fun e => hq (by injection e with _ e2; exact e2.symm))
  have hs : (w.setCell ⟨g, 0 + i * 7 + 6, none⟩ (.int .i64 x)).cell? ⟨g, 0 + i * 7 + 6, none⟩ = some (.int .i64 x) := by
    obtain ⟨u, hu⟩ := hr.cell (j := 0 + i * 7 + 6) (by omega)
    exact World.cell?_setCell_same _ _ _ hu
  intro j y hj
  rw [List.getElem?_modify] at hj
  by_cases hij : i = j
  · subst hij
    rw [hd] at hj
    simp at hj
    subst hj
    obtain ⟨c0, c1, c2, c3, c4, c5, c6⟩ := hcs i d hd
    refine ⟨?_, ?_, ?_, ?_, ?_, ?_, hs⟩ <;> (rw [ho _ (by omega)]; assumption)
  · simp [hij] at hj
    obtain ⟨c0, c1, c2, c3, c4, c5, c6⟩ := hcs j y hj
    refine ⟨?_, ?_, ?_, ?_, ?_, ?_, ?_⟩ <;> (rw [ho _ (by omega)]; assumption)
end Go.Proofs.YtcgjpmhjijmplaaGreatDoor
