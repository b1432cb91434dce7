/- Draws: the specification's l5Spoil, walked. -/
import Derived.Test.YtcgjpmhjijmplaaGreatDoorDraw13
import Derived.Test.YtcgjpmhjijmplaaGreatDoorStep
namespace Go.Proofs.YtcgjpmhjijmplaaGreatDoor
open Go.ChangeShapes Go.WideShapes Go.ChangeAt Go.RowKit Go.Maps

theorem own_apart {R : Nat} {w w' : World} {base size n : Nat} {e : TypeId} {v : Value} {xs : List Value} (h : w.ownsRow base e size v n xs) (ha : Apart R w w') (hR : R < base) : w'.ownsRow base e size v n xs := by
  refine ⟨h.1, ?_⟩
  rcases h.2 with o | ⟨g, cap, cur, h1, h2, h3, h4⟩
  · exact Or.inl o
  · have hl := (h.lt g (by rw [h1]; rfl)).2
    exact Or.inr ⟨g, cap, cur, h1, h2, (ha.block g hl (by omega)).trans h3, h4⟩
theorem OwnB.apart {R : Nat} {w w' : World} {base : Nat} {vd ve : Value} {ds : List Dr} {es : List En} (h : OwnB w base vd ds ve es) (ha : Apart R w w') (hR : R < base) : OwnB w' base vd ds ve es := ⟨own_apart h.1 ha hR, own_apart h.2.1 ha hR, h.2.2⟩
theorem OwnB.other {w : World} {base : Nat} {vd ve : Value} {ds : List Dr} {es : List En} (h : OwnB w base vd ds ve es) {m j : Nat} (hm : m < base) (u : Value) : OwnB (w.setCell ⟨m, j, none⟩ u) base vd ds ve es := ⟨own_other h.1 hm u, own_other h.2.1 hm u, h.2.2⟩
theorem doorsL_own {w : World} {base q : Nat} {va : Option Addr} {vc : Nat} {e : TypeId} {L : List Dr} (h : w.ownsRow base e 4 (.slice va L.length vc) L.length (flatD L)) (hq : q ≤ base) : DoorsL w q va L.length L := by
  refine ⟨rfl, ?_⟩
  rcases h.2 with ⟨h1, h2⟩ | ⟨g, cap, cur, h1, _⟩
  · exact Or.inl (List.eq_nil_of_length_eq_zero h2)
  · have hg := h.lt g (by rw [h1]; rfl)
    simp only [Value.slice.injEq] at h1
    obtain ⟨rfl, -, rfl⟩ := h1
    exact Or.inr ⟨g, 0, rfl, by omega, hg.2, drCells_of_own h rfl⟩
theorem entriesL_own {w : World} {base q : Nat} {va : Option Addr} {vc : Nat} {e : TypeId} {L : List En} (h : w.ownsRow base e 7 (.slice va L.length vc) L.length (flatE L)) (hq : q ≤ base) : EntriesL w q va L.length L := by
  refine ⟨rfl, ?_⟩
  rcases h.2 with ⟨h1, h2⟩ | ⟨g, cap, cur, h1, _⟩
  · exact Or.inl (List.eq_nil_of_length_eq_zero h2)
  · have hg := h.lt g (by rw [h1]; rfl)
    simp only [Value.slice.injEq] at h1
    obtain ⟨rfl, -, rfl⟩ := h1
    exact Or.inr ⟨g, 0, rfl, by omega, hg.2, enCells_of_own h rfl⟩
theorem DoorsL.mono {w : World} {q y : Nat} {da : Option Addr} {dn : Nat} {ds : List Dr} (hh : DoorsL w q da dn ds) (hy : y ≤ q) : DoorsL w y da dn ds := ⟨hh.1, hh.2.imp id fun ⟨b, o, h1, h2, h3⟩ => ⟨b, o, h1, by omega, h3⟩⟩
theorem EntriesL.mono {w : World} {q y : Nat} {da : Option Addr} {dn : Nat} {ds : List En} (hh : EntriesL w q da dn ds) (hy : y ≤ q) : EntriesL w y da dn ds := ⟨hh.1, hh.2.imp id fun ⟨b, o, h1, h2, h3⟩ => ⟨b, o, h1, by omega, h3⟩⟩
theorem Bx.far {w w' : World} {n : Nat} {C : Array Value} {row : Option Nat} (h : Bx w n C) (hg : w.grownBy w' row) (hr : ∀ k, row = some k → n ≠ k) : Bx w' n C :=
  ⟨h.1.far hg hr, fun j => (World.frozen?_of_block (w := w) (a := ⟨n, j, none⟩) (hg.block n h.1.1 (fun e => hr n e.symm rfl))).trans (h.2 j)⟩
theorem Rb.grown {R : Nat} {n : Int} {w w' : World} {row : Option Nat} (h : Rb w R n) (hg : w.grownBy w' row) (hr : ∀ k, row = some k → R < k) : Rb w' R n := by
  obtain ⟨p, p0, p1, h1, h2, h3, ba, bn, bc, h4, h5, h6⟩ := h
  have hb : ∀ b, b ≤ R → w'.heap[b]? = w.heap[b]? := fun b hb => hg.block b (by omega) (fun e => by have := hr b e.symm; omega)
  refine ⟨p, p0, p1, Nat.lt_of_lt_of_le h1 hg.size, fun j => (World.frozen?_of_block (w := w) (a := ⟨R, j, none⟩) (hb R (Nat.le_refl _))).trans (h2 j), (World.cell?_of_block (w := w) (a := ⟨R, 1, none⟩) (hb R (Nat.le_refl _))).trans h3, ba, bn, bc, (World.cell?_of_block (w := w) (a := ⟨R, 0, none⟩) (hb R (Nat.le_refl _))).trans h4, h5, h6.imp id fun ⟨b, o, x1, x2, x3⟩ => ⟨b, o, x1, x2, fun i hi => ?_⟩⟩
  obtain ⟨u, u0, u1, hu⟩ := x3 i hi
  exact ⟨u, u0, u1, (World.cell?_of_block (w := w) (a := ⟨b, o + i, none⟩) (hb b (by omega))).trans hu⟩
theorem own_grown {w w' : World} {base size n : Nat} {e : TypeId} {v : Value} {xs : List Value} {row : Option Nat} (h : w.ownsRow base e size v n xs) (hg : w.grownBy w' row) (hr : ∀ g, v.ownBlock = some g → row ≠ some g) : w'.ownsRow base e size v n xs := by
  refine ⟨h.1, ?_⟩
  rcases h.2 with o | ⟨g, cap, cur, h1, h2, h3, h4⟩
  · exact Or.inl o
  · have hl := (h.lt g (by rw [h1]; rfl)).2
    exact Or.inr ⟨g, cap, cur, h1, h2, (hg.block g hl (fun e => hr g (by rw [h1]; rfl) e.symm)).trans h3, h4⟩
theorem own_types {w : World} {base base' s1 s2 n1 n2 : Nat} {e1 e2 : TypeId} {v1 v2 : Value} {x1 x2 : List Value} (h1 : w.ownsRow base e1 s1 v1 n1 x1) (h2 : w.ownsRow base' e2 s2 v2 n2 x2) (hne : e1 ≠ e2) : ∀ g, v1.ownBlock = some g → v2.ownBlock ≠ some g := by
  intro g hg hg2
  rcases h1.2 with ⟨o, _⟩ | ⟨a, cap, cur, rfl, _, b1, _⟩
  · rw [o] at hg; cases hg
  · rcases h2.2 with ⟨o, _⟩ | ⟨a2, cap2, cur2, rfl, _, b2, _⟩
    · rw [o] at hg2; cases hg2
    · obtain rfl : a = g := by simpa [Value.ownBlock] using hg
      obtain rfl : a2 = a := by simpa [Value.ownBlock] using hg2
      rw [b1] at b2
      simp only [Option.some.injEq, Obj.cells.injEq] at b2
      exact hne b2.2.1
/-- One more entry behind the own ones. -/
theorem OwnB.more {w w' : World} {base : Nat} {vd ve v' : Value} {ds : List Dr} {es : List En} {d : En} (h : OwnB w base vd ds ve es) (ho : w'.ownsRow base 52 7 v' (es.length + 1) (flatE es ++ flatE [d])) (hg : w.grownBy w' ve.ownBlock) :
    ∃ ua uc, v' = .slice ua (es ++ [d]).length uc ∧ OwnB w' base vd ds (.slice ua (es ++ [d]).length uc) (es ++ [d]) := by
  obtain ⟨g, cap, hv, _⟩ := own_form ho (by omega)
  have hl : (es ++ [d]).length = es.length + 1 := by simp
  refine ⟨some ⟨g, 0, none⟩, cap, by rw [hl]; exact hv, ?_⟩
  rw [← flatE_append, ← hl] at ho
  rw [← hl] at hv
  subst hv
  have hd := own_grown h.1 hg h.2.2
  exact ⟨hd, ho, own_types hd ho (by decide)⟩
/-- A book that was drawn, or spoilt. -/
def DrawnA (w' : World) (q : Nat) (e : Ending) : Prop := ∃ (B : Bk) (va : Option Addr) (vc : Nat) (ua : Option Addr) (uc : Nat), e = .returned (.agg #[.int .i64 B.ad, .int .i64 B.ln, .int .i64 B.ow, .int .i64 B.lo, .int .i64 B.hi, .slice va B.ds.length vc, .int .i64 B.nw, .slice ua B.es.length uc]) ∧ DoorsL w' q va B.ds.length B.ds ∧ EntriesL w' q ua B.es.length B.es ∧ B.ds.length ≤ 100 ∧ B.es.length ≤ 200 ∧ -1000000 ≤ B.ad ∧ B.ad ≤ 1000000
/-- A book in block nb, its lists their own. -/
def MS (nb base : Nat) (C : Array Value) (vd : Value) (ds : List Dr) (ve : Value) (es : List En) (w : World) : Prop := Bx w nb C ∧ OwnB w base vd ds ve es
theorem MS.apart {R nb base : Nat} {C : Array Value} {vd ve : Value} {ds : List Dr} {es : List En} {w w' : World} (h : MS nb base C vd ds ve es w) (ha : Apart R w w') (h1 : nb ≠ R) (h2 : R < base) : MS nb base C vd ds ve es w' := ⟨h.1.apart ha h1, h.2.apart ha h2⟩
/-- A spoilt book in block nb, its lists their own. -/
def Spl (w : World) (base nb : Nat) : Prop := ∃ (B : Bk) (va : Option Addr) (vc : Nat) (ua : Option Addr) (uc : Nat), Bx w nb #[.int .i64 B.ad, .int .i64 B.ln, .int .i64 B.ow, .int .i64 B.lo, .int .i64 B.hi, .slice va B.ds.length vc, .int .i64 B.nw, .slice ua B.es.length uc] ∧ OwnB w base (.slice va B.ds.length vc) B.ds (.slice ua B.es.length uc) B.es ∧ B.ds.length ≤ 100 ∧ B.es.length ≤ 200 ∧ -1000000 ≤ B.ad ∧ B.ad ≤ 1000000
theorem Spl.mk {w : World} {base nb dl el : Nat} {va : Option Addr} {vc : Nat} {ua : Option Addr} {uc : Nat} (B : Bk) (h : Bx w nb #[.int .i64 B.ad, .int .i64 B.ln, .int .i64 B.ow, .int .i64 B.lo, .int .i64 B.hi, .slice va dl vc, .int .i64 B.nw, .slice ua el uc]) (hO : OwnB w base (.slice va B.ds.length vc) B.ds (.slice ua B.es.length uc) B.es) (hd : dl = B.ds.length) (he : el = B.es.length) (h1 : B.ds.length ≤ 100) (h2 : B.es.length ≤ 200) (h3 : -1000000 ≤ B.ad) (h4 : B.ad ≤ 1000000) : Spl w base nb := by
  subst hd; subst he; exact ⟨B, va, vc, ua, uc, h, hO, h1, h2, h3, h4⟩
/-- The world at each point of region 36. -/
def J36 (W0 W1 w9 W10 : World) (L : Array Bool) (w : World) : Prop := (L.getD 7 false = false → W0 = w) ∧ (L.getD 7 false = true → L.getD 8 false = false → W1 = w) ∧ (L.getD 8 false = true → L.getD 10 false = false → w9 = w) ∧ (L.getD 10 false = true → W10 = w)
theorem J36.keep {W0 W1 w9 W10 : World} {L : Array Bool} {w : World} {i : Nat} (h : J36 W0 W1 w9 W10 L w) (h7 : 7 ≠ i) (h8 : 8 ≠ i) (h10 : 10 ≠ i) : J36 W0 W1 w9 W10 (L.setIfInBounds i true) w := by
  unfold J36
  rw [listed_ne h7, listed_ne h8, listed_ne h10]
  exact h
end Go.Proofs.YtcgjpmhjijmplaaGreatDoor
