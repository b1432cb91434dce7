/- Draws: the specification's l5Spoil, walked. -/
import Derived.Test.YtcgjpmhjijmplaaGreatDoorDraw13
import Derived.Test.YtcgjpmhjijmplaaGreatDoorStep
namespace Go.Proofs.YtcgjpmhjijmplaaGreatDoor
open Go.ChangeShapes Go.WideShapes Go.ChangeAt Go.RowKit Go.Maps

theorem own_apart {R : Nat} {w w' : World} {base size n : Nat} {e : TypeId} {v : Value} {xs : List Value} (h : w.ownsRow base e size v n xs) (ha : Apart R w w') (hR : R < base) : w'.ownsRow base e size v n xs := by
  refine ⟨h.1, ?_⟩
  rcases h.2 with o | ⟨g, cap, cur, h1, h2, h3, h4⟩
  · exact Or.inl o
  · have hl := (h.lt g (by rw [h1]; rfl)).2
    exact Or.inr ⟨g, cap, cur, h1, h2, (ha.block g hl (by omega)).trans h3, h4⟩
theorem OwnB.apart {R : Nat} {w w' : World} {base : Nat} {vd ve : Value} {ds : List Dr} {es : List En} (h : OwnB w base vd ds ve es) (ha : Apart R w w') (hR : R < base) : OwnB w' base vd ds ve es := ⟨own_apart h.1 ha hR, own_apart h.2.1 ha hR, h.2.2⟩
theorem OwnB.other {w : World} {base : Nat} {vd ve : Value} {ds : List Dr} {es : List En} (h : OwnB w base vd ds ve es) {m j : Nat} (hm : m < base) (u : Value) : OwnB (w.setCell ⟨m, j, none⟩ u) base vd ds ve es := ⟨own_other h.1 hm u, own_other h.2.1 hm u, h.2.2⟩
theorem doorsL_own {w : World} {base q : Nat} {va : Option Addr} {vc : Nat} {e : TypeId} {L : List Dr} (h : w.ownsRow base e 4 (.slice va L.length vc) L.length (flatD L)) (hq : q ≤ base) : DoorsL w q va L.length L := by
  refine ⟨rfl, ?_⟩
  rcases h.2 with ⟨h1, h2⟩ | ⟨g, cap, cur, h1, _⟩
  · exact Or.inl (List.eq_nil_of_length_eq_zero h2)
  · have hg := h.lt g (by rw [h1]; rfl)
    simp only [Value.slice.injEq] at h1
    obtain ⟨rfl, -, rfl⟩ := h1
    exact Or.inr ⟨g, 0, rfl, by omega, hg.2, drCells_of_own h rfl⟩
theorem entriesL_own {w : World} {base q : Nat} {va : Option Addr} {vc : Nat} {e : TypeId} {L : List En} (h : w.ownsRow base e 7 (.slice va L.length vc) L.length (flatE L)) (hq : q ≤ base) : EntriesL w q va L.length L := by
  refine ⟨rfl, ?_⟩
  rcases h.2 with ⟨h1, h2⟩ | ⟨g, cap, cur, h1, _⟩
  · exact Or.inl (List.eq_nil_of_length_eq_zero h2)
  · have hg := h.lt g (by rw [h1]; rfl)
    simp only [Value.slice.injEq] at h1
    obtain ⟨rfl, -, rfl⟩ := h1
    exact Or.inr ⟨g, 0, rfl, by omega, hg.2, enCells_of_own h rfl⟩
theorem DoorsL.mono {w : World} {q y : Nat} {da : Option Addr} {dn : Nat} {ds : List Dr} (hh : DoorsL w q da dn ds) (hy : y ≤ q) : DoorsL w y da dn ds := ⟨hh.1, hh.2.imp id fun ⟨b, o, h1, h2, h3⟩ => ⟨b, o, h1, by omega, h3⟩⟩
theorem EntriesL.mono {w : World} {q y : Nat} {da : Option Addr} {dn : Nat} {ds : List En} (hh : EntriesL w q da dn ds) (hy : y ≤ q) : EntriesL w y da dn ds := ⟨hh.1, hh.2.imp id fun ⟨b, o, h1, h2, h3⟩ => ⟨b, o, h1, by omega, h3⟩⟩
/-- One cell of an own row turns. -/
theorem own_put1 {w : World} {base g n cap size : Nat} {e : TypeId} {xs : List Value} (h : w.ownsRow base e size (.slice (some ⟨g, 0, none⟩) n cap) n xs) (j : Nat) (u : Value) :
    (w.setCell ⟨g, j, none⟩ u).ownsRow base e size (.slice (some ⟨g, 0, none⟩) n cap) n (xs.set j u) := by
  have hl := h.1
  rcases h.2 with ⟨h1, _⟩ | ⟨g', cap', cur, h1, h2, h3, h4, h5, h6, h7⟩
  · cases h1
  · simp only [Value.slice.injEq, Option.some.injEq, Addr.mk.injEq] at h1
    obtain ⟨⟨rfl, -⟩, -, rfl⟩ := h1
    have hg : g < w.heap.size := (h.lt g rfl).2
    refine ⟨by simpa using hl, Or.inr ⟨g, cap, cur.setIfInBounds j u, rfl, h2, ?_, h4, h5, by simpa using h6, ?_⟩⟩
    · have hh' : w.heap[g] = .cells cur e := by simpa [hg] using h3
      simp [World.setCell, Array.getElem_modify, hg, hh']
    · rw [Array.toList_setIfInBounds, List.take_set, h7]
theorem flatD_modify (L : List Dr) (i k : Nat) (f : Dr → Dr) (u : Value) (d : Dr) (hd : L[i]? = some d) (hf : drV (f d) = (drV d).set k u) (hk : k < 4) : (flatD L).set (i * 4 + k) u = flatD (L.modify i f) := by
  induction L generalizing i with
  | nil => simp at hd
  | cons x L ih =>
    cases i with
    | zero =>
      simp at hd; subst hd
      rw [Nat.zero_mul, Nat.zero_add]
      show (drV x ++ flatD L).set k u = drV (f x) ++ flatD L
      rw [List.set_append_left _ _ (by simpa [drV] using hk), hf]
    | succ i =>
      simp at hd
      simp only [List.modify_succ_cons, flatD]
      rw [List.set_append_right _ _ (by simp [drV]; omega)]
      have : (i + 1) * 4 + k - (drV x).length = i * 4 + k := by simp [drV]; omega
      rw [this, ih i hd]
theorem flatE_modify (L : List En) (i k : Nat) (f : En → En) (u : Value) (d : En) (hd : L[i]? = some d) (hf : enV (f d) = (enV d).set k u) (hk : k < 7) : (flatE L).set (i * 7 + k) u = flatE (L.modify i f) := by
  induction L generalizing i with
  | nil => simp at hd
  | cons x L ih =>
    cases i with
    | zero =>
      simp at hd; subst hd
      rw [Nat.zero_mul, Nat.zero_add]
      show (enV x ++ flatE L).set k u = enV (f x) ++ flatE L
      rw [List.set_append_left _ _ (by simpa [enV] using hk), hf]
    | succ i =>
      simp at hd
      simp only [List.modify_succ_cons, flatE]
      rw [List.set_append_right _ _ (by simp [enV]; omega)]
      have : (i + 1) * 7 + k - (enV x).length = i * 7 + k := by simp [enV]; omega
      rw [this, ih i hd]
def setD (k : Nat) (x : Int) (d : Dr) : Dr := match k with | 0 => ⟨x, d.o, d.i, d.p⟩ | 1 => ⟨d.k, x, d.i, d.p⟩ | _ => ⟨d.k, d.o, x, d.p⟩
def setE (k : Nat) (x : Int) (d : En) : En := match k with | 1 => ⟨d.k, x, d.pp, d.o, d.i, d.ip, d.l⟩ | 3 => ⟨d.k, d.pr, d.pp, x, d.i, d.ip, d.l⟩ | _ => ⟨d.k, d.pr, d.pp, d.o, d.i, d.ip, x⟩
theorem OwnB.setD {w : World} {base g cap : Nat} {ve : Value} {ds : List Dr} {es : List En} (h : OwnB w base (.slice (some ⟨g, 0, none⟩) ds.length cap) ds ve es) {i : Nat} {d : Dr} (hd : ds[i]? = some d) (k : Nat) (hk : k ≤ 2) (x : Int) :
    OwnB (w.setCell ⟨g, i * 4 + k, none⟩ (.int .i64 x)) base (.slice (some ⟨g, 0, none⟩) (ds.modify i (Go.Proofs.YtcgjpmhjijmplaaGreatDoor.setD k x)).length cap) (ds.modify i (Go.Proofs.YtcgjpmhjijmplaaGreatDoor.setD k x)) ve es := by
  have h1 := own_put1 h.1 (i * 4 + k) (.int .i64 x)
  rw [flatD_modify ds i k (Go.Proofs.YtcgjpmhjijmplaaGreatDoor.setD k x) (.int .i64 x) d hd (by rcases (show k = 0 ∨ k = 1 ∨ k = 2 by omega) with rfl | rfl | rfl <;> rfl) (by omega)] at h1
  have hl : (ds.modify i (Go.Proofs.YtcgjpmhjijmplaaGreatDoor.setD k x)).length = ds.length := by simp
  refine ⟨by rw [hl]; exact h1, own_ne h.2.1 (fun j hj e => h.2.2 g rfl (by rw [← e]; exact hj)) _, fun j hj => h.2.2 j (by simpa using hj)⟩
theorem OwnB.setE {w : World} {base g cap : Nat} {vd : Value} {ds : List Dr} {es : List En} (h : OwnB w base vd ds (.slice (some ⟨g, 0, none⟩) es.length cap) es) {i : Nat} {d : En} (hd : es[i]? = some d) (k : Nat) (hk : k = 1 ∨ k = 3 ∨ k = 6) (x : Int) :
    OwnB (w.setCell ⟨g, i * 7 + k, none⟩ (.int .i64 x)) base vd ds (.slice (some ⟨g, 0, none⟩) (es.modify i (Go.Proofs.YtcgjpmhjijmplaaGreatDoor.setE k x)).length cap) (es.modify i (Go.Proofs.YtcgjpmhjijmplaaGreatDoor.setE k x)) := by
  have h1 := own_put1 h.2.1 (i * 7 + k) (.int .i64 x)
  rw [flatE_modify es i k (Go.Proofs.YtcgjpmhjijmplaaGreatDoor.setE k x) (.int .i64 x) d hd (by rcases hk with rfl | rfl | rfl <;> rfl) (by omega)] at h1
  have hl : (es.modify i (Go.Proofs.YtcgjpmhjijmplaaGreatDoor.setE k x)).length = es.length := by simp
  refine ⟨own_ne h.1 (fun j hj e => h.2.2 j hj (by rw [e]; rfl)) _, by rw [hl]; exact h1, fun j hj h2 => h.2.2 j hj (by simpa using h2)⟩
theorem Bx.far {w w' : World} {n : Nat} {C : Array Value} {row : Option Nat} (h : Bx w n C) (hg : w.grownBy w' row) (hr : ∀ k, row = some k → n ≠ k) : Bx w' n C :=
  ⟨h.1.far hg hr, fun j => (World.frozen?_of_block (w := w) (a := ⟨n, j, none⟩) (hg.block n h.1.1 (fun e => hr n e.symm rfl))).trans (h.2 j)⟩
theorem ap_grown {R : Nat} {w0 w w' : World} {row : Option Nat} (h : Apart R w0 w) (hg : w.grownBy w' row) (hr : ∀ k, row = some k → w0.heap.size ≤ k) : Apart R w0 w' :=
  ⟨hg.os.trans h.os, hg.tape.trans h.tape, hg.output.trans h.output, Nat.le_trans h.size hg.size, fun k hk hne => (hg.block k (Nat.lt_of_lt_of_le hk h.size) (fun e => by have := hr k e.symm; omega)).trans (h.block k hk hne)⟩
theorem Rb.grown {R : Nat} {n : Int} {w w' : World} {row : Option Nat} (h : Rb w R n) (hg : w.grownBy w' row) (hr : ∀ k, row = some k → R < k) : Rb w' R n := by
  obtain ⟨p, p0, p1, h1, h2, h3, ba, bn, bc, h4, h5, h6⟩ := h
  have hb : ∀ b, b ≤ R → w'.heap[b]? = w.heap[b]? := fun b hb => hg.block b (by omega) (fun e => by have := hr b e.symm; omega)
  refine ⟨p, p0, p1, Nat.lt_of_lt_of_le h1 hg.size, fun j => (World.frozen?_of_block (w := w) (a := ⟨R, j, none⟩) (hb R (Nat.le_refl _))).trans (h2 j), (World.cell?_of_block (w := w) (a := ⟨R, 1, none⟩) (hb R (Nat.le_refl _))).trans h3, ba, bn, bc, (World.cell?_of_block (w := w) (a := ⟨R, 0, none⟩) (hb R (Nat.le_refl _))).trans h4, h5, h6.imp id fun ⟨b, o, x1, x2, x3⟩ => ⟨b, o, x1, x2, fun i hi => ?_⟩⟩
  obtain ⟨u, u0, u1, hu⟩ := x3 i hi
  exact ⟨u, u0, u1, (World.cell?_of_block (w := w) (a := ⟨b, o + i, none⟩) (hb b (by omega))).trans hu⟩
theorem own_grown {w w' : World} {base size n : Nat} {e : TypeId} {v : Value} {xs : List Value} {row : Option Nat} (h : w.ownsRow base e size v n xs) (hg : w.grownBy w' row) (hr : ∀ g, v.ownBlock = some g → row ≠ some g) : w'.ownsRow base e size v n xs := by
  refine ⟨h.1, ?_⟩
  rcases h.2 with o | ⟨g, cap, cur, h1, h2, h3, h4⟩
  · exact Or.inl o
  · have hl := (h.lt g (by rw [h1]; rfl)).2
    exact Or.inr ⟨g, cap, cur, h1, h2, (hg.block g hl (fun e => hr g (by rw [h1]; rfl) e.symm)).trans h3, h4⟩
theorem own_types {w : World} {base base' s1 s2 n1 n2 : Nat} {e1 e2 : TypeId} {v1 v2 : Value} {x1 x2 : List Value} (h1 : w.ownsRow base e1 s1 v1 n1 x1) (h2 : w.ownsRow base' e2 s2 v2 n2 x2) (hne : e1 ≠ e2) : ∀ g, v1.ownBlock = some g → v2.ownBlock ≠ some g := by
  intro g hg hg2
  rcases h1.2 with ⟨o, _⟩ | ⟨a, cap, cur, rfl, _, b1, _⟩
  · rw [o] at hg; cases hg
  · rcases h2.2 with ⟨o, _⟩ | ⟨a2, cap2, cur2, rfl, _, b2, _⟩
    · rw [o] at hg2; cases hg2
    · obtain rfl : a = g := by simpa [Value.ownBlock] using hg
      obtain rfl : a2 = a := by simpa [Value.ownBlock] using hg2
      rw [b1] at b2
      simp only [Option.some.injEq, Obj.cells.injEq] at b2
      exact hne b2.2.1
/-- One more entry behind the own ones. -/
theorem OwnB.more {w w' : World} {base : Nat} {vd ve v' : Value} {ds : List Dr} {es : List En} {d : En} (h : OwnB w base vd ds ve es) (ho : w'.ownsRow base 52 7 v' (es.length + 1) (flatE es ++ flatE [d])) (hg : w.grownBy w' ve.ownBlock) :
    ∃ ua uc, v' = .slice ua (es ++ [d]).length uc ∧ OwnB w' base vd ds (.slice ua (es ++ [d]).length uc) (es ++ [d]) := by
  obtain ⟨g, cap, hv, _⟩ := own_form ho (by omega)
  have hl : (es ++ [d]).length = es.length + 1 := by simp
  refine ⟨some ⟨g, 0, none⟩, cap, by rw [hl]; exact hv, ?_⟩
  rw [← flatE_append, ← hl] at ho
  rw [← hl] at hv
  subst hv
  have hd := own_grown h.1 hg h.2.2
  exact ⟨hd, ho, own_types hd ho (by decide)⟩
/-- A book that was drawn, or spoilt. -/
def DrawnA (w' : World) (q : Nat) (e : Ending) : Prop := ∃ (B : Bk) (va : Option Addr) (vc : Nat) (ua : Option Addr) (uc : Nat), e = .returned (.agg #[.int .i64 B.ad, .int .i64 B.ln, .int .i64 B.ow, .int .i64 B.lo, .int .i64 B.hi, .slice va B.ds.length vc, .int .i64 B.nw, .slice ua B.es.length uc]) ∧ DoorsL w' q va B.ds.length B.ds ∧ EntriesL w' q ua B.es.length B.es ∧ B.ds.length ≤ 100 ∧ B.es.length ≤ 200 ∧ -1000000 ≤ B.ad ∧ B.ad ≤ 1000000
/-- A book in block nb, its lists their own. -/
def MS (nb base : Nat) (C : Array Value) (vd : Value) (ds : List Dr) (ve : Value) (es : List En) (w : World) : Prop := Bx w nb C ∧ OwnB w base vd ds ve es
theorem MS.apart {R nb base : Nat} {C : Array Value} {vd ve : Value} {ds : List Dr} {es : List En} {w w' : World} (h : MS nb base C vd ds ve es w) (ha : Apart R w w') (h1 : nb ≠ R) (h2 : R < base) : MS nb base C vd ds ve es w' := ⟨h.1.apart ha h1, h.2.apart ha h2⟩
/-- A spoilt book in block nb, its lists their own. -/
def Spl (w : World) (base nb : Nat) : Prop := ∃ (B : Bk) (va : Option Addr) (vc : Nat) (ua : Option Addr) (uc : Nat), Bx w nb #[.int .i64 B.ad, .int .i64 B.ln, .int .i64 B.ow, .int .i64 B.lo, .int .i64 B.hi, .slice va B.ds.length vc, .int .i64 B.nw, .slice ua B.es.length uc] ∧ OwnB w base (.slice va B.ds.length vc) B.ds (.slice ua B.es.length uc) B.es ∧ B.ds.length ≤ 100 ∧ B.es.length ≤ 200 ∧ -1000000 ≤ B.ad ∧ B.ad ≤ 1000000
theorem Spl.mk {w : World} {base nb dl el : Nat} {va : Option Addr} {vc : Nat} {ua : Option Addr} {uc : Nat} (B : Bk) (h : Bx w nb #[.int .i64 B.ad, .int .i64 B.ln, .int .i64 B.ow, .int .i64 B.lo, .int .i64 B.hi, .slice va dl vc, .int .i64 B.nw, .slice ua el uc]) (hO : OwnB w base (.slice va B.ds.length vc) B.ds (.slice ua B.es.length uc) B.es) (hd : dl = B.ds.length) (he : el = B.es.length) (h1 : B.ds.length ≤ 100) (h2 : B.es.length ≤ 200) (h3 : -1000000 ≤ B.ad) (h4 : B.ad ≤ 1000000) : Spl w base nb := by
  subst hd; subst he; exact ⟨B, va, vc, ua, uc, h, hO, h1, h2, h3, h4⟩
def FSp9 (R : Nat) (nb : Nat) : Nat → Value → World → Prop
  | 0, v, _ => v = .pointer (some ⟨nb, 0, none⟩)
  | 1, v, _ => IsInt bdS v
  | 2, v, _ => IsInt bdM v
  | 3, v, w => IntsL R 4 bdM v w
  | 4, v, _ => v = .pointer (some ⟨R, 0, none⟩)
  | 5, v, _ => IsPick 4 v
  | 6, v, w => IntAt R bdM v w
  | 7, v, _ => IsInt bdM v
  | 8, v, _ => v = .pointer (some ⟨nb, 0, none⟩)
  | _, _, _ => True
def FSp11 (R : Nat) (nb : Nat) : Nat → Value → World → Prop
  | 0, v, _ => v = .pointer (some ⟨nb, 1, none⟩)
  | 1, v, _ => IsInt bdT v
  | 2, v, _ => IsInt bdT v
  | 3, v, w => IntsL R 5 bdT v w
  | 4, v, _ => v = .pointer (some ⟨R, 0, none⟩)
  | 5, v, _ => IsPick 5 v
  | 6, v, w => IntAt R bdT v w
  | 7, v, _ => IsInt bdT v
  | 8, v, _ => v = .pointer (some ⟨nb, 1, none⟩)
  | _, _, _ => True
def FSp13 (R : Nat) (nb : Nat) : Nat → Value → World → Prop
  | 0, v, _ => v = .pointer (some ⟨nb, 0, none⟩)
  | 1, v, _ => IsInt bdT v
  | 2, v, w => IntsL R 4 bdT v w
  | 3, v, _ => v = .pointer (some ⟨R, 0, none⟩)
  | 4, v, _ => IsPick 4 v
  | 5, v, w => IntAt R bdT v w
  | 6, v, _ => IsInt bdT v
  | 7, v, _ => v = .pointer (some ⟨nb, 2, none⟩)
  | _, _, _ => True
def FSp15 (R : Nat) (nb : Nat) : Nat → Value → World → Prop
  | 0, v, _ => v = .pointer (some ⟨nb, 4, none⟩)
  | 1, v, _ => IsInt bdT v
  | 2, v, _ => v = .pointer (some ⟨nb, 4, none⟩)
  | 3, v, _ => IsInt bdT v
  | 4, v, _ => IsInt bdT v
  | 5, v, w => IntsL R 5 bdT v w
  | 6, v, _ => v = .pointer (some ⟨R, 0, none⟩)
  | 7, v, _ => IsPick 5 v
  | 8, v, w => IntAt R bdT v w
  | 9, v, _ => IsInt bdT v
  | 10, v, _ => v = .pointer (some ⟨nb, 3, none⟩)
  | _, _, _ => True
def FSp17 (R : Nat) (nb : Nat) : Nat → Value → World → Prop
  | 0, v, _ => v = .pointer (some ⟨nb, 3, none⟩)
  | 1, v, _ => IsInt bdT v
  | 2, v, _ => v = .pointer (some ⟨nb, 3, none⟩)
  | 3, v, _ => IsInt bdT v
  | 4, v, _ => IsInt bdT v
  | 5, v, w => IntsL R 4 bdT v w
  | 6, v, _ => v = .pointer (some ⟨R, 0, none⟩)
  | 7, v, _ => IsPick 4 v
  | 8, v, w => IntAt R bdT v w
  | 9, v, _ => IsInt bdT v
  | 10, v, _ => v = .pointer (some ⟨nb, 4, none⟩)
  | _, _, _ => True
def FSp19 (R : Nat) (nb : Nat) : Nat → Value → World → Prop
  | 0, v, _ => v = .pointer (some ⟨nb, 6, none⟩)
  | 1, v, _ => IsInt bdT v
  | 2, v, _ => IsInt bdT v
  | 3, v, _ => v = .pointer (some ⟨nb, 6, none⟩)
  | 4, v, _ => IsInt bdT v
  | 5, v, _ => IsInt bdT v
  | 6, v, w => IntsL R 6 bdT v w
  | 7, v, _ => v = .pointer (some ⟨R, 0, none⟩)
  | 8, v, _ => IsPick 6 v
  | 9, v, w => IntAt R bdT v w
  | 10, v, _ => IsInt bdT v
  | 11, v, _ => v = .pointer (some ⟨nb, 6, none⟩)
  | _, _, _ => True
def FSp36 (nb g : Nat) (B2 : Bk) (uc : Nat) (de : Int) (d2 : En) (W0 : World) (ra : Option Addr) (rc : Nat) : Nat → Value → World → Prop
  | 0, v, _ => v = .pointer (some ⟨nb, 7, none⟩)
  | 1, v, _ => v = .slice (some ⟨g, 0, none⟩) B2.es.length uc
  | 2, v, _ => v = .pointer (some ⟨nb, 7, none⟩)
  | 3, v, _ => v = .slice (some ⟨g, 0, none⟩) B2.es.length uc
  | 4, v, _ => v = .int .i64 de
  | 5, v, _ => v = .pointer (some ⟨g, de.toNat * 7, none⟩)
  | 6, v, _ => v = .agg #[.int .i64 d2.k, .int .i64 d2.pr, .int .i64 d2.pp, .int .i64 d2.o, .int .i64 d2.i, .int .i64 d2.ip, .int .i64 d2.l]
  | 7, v, _ => v = .slice (some ⟨W0.heap.size, 0, none⟩) 1 1
  | 8, v, _ => v = .slice ra (B2.es ++ [d2]).length rc
  | 9, v, _ => v = .pointer (some ⟨nb, 7, none⟩)
  | _, _, _ => True
/-- The world at each point of region 36. -/
def J36 (W0 W1 w9 W10 : World) (L : Array Bool) (w : World) : Prop := (L.getD 7 false = false → W0 = w) ∧ (L.getD 7 false = true → L.getD 8 false = false → W1 = w) ∧ (L.getD 8 false = true → L.getD 10 false = false → w9 = w) ∧ (L.getD 10 false = true → W10 = w)
theorem J36.keep {W0 W1 w9 W10 : World} {L : Array Bool} {w : World} {i : Nat} (h : J36 W0 W1 w9 W10 L w) (h7 : 7 ≠ i) (h8 : 8 ≠ i) (h10 : 10 ≠ i) : J36 W0 W1 w9 W10 (L.setIfInBounds i true) w := by
  unfold J36
  rw [listed_ne h7, listed_ne h8, listed_ne h10]
  exact h
theorem up_of {ops : Array Oper} {L : Array Bool} (hcl : Closed ops L) (j i : Nat) (oj : Oper) (hj : ops[j]? = some oj) (hd : (oj.after.any fun e => Region.binds .any e && e.on == i) = true) (h : L.getD i false = false) : L.getD j false = false := by
  cases hx : L.getD j false with
  | false => rfl
  | true =>
    simp only [Array.any_eq_true', Bool.and_eq_true, beq_iff_eq] at hd
    obtain ⟨e, he, hb, rfl⟩ := hd
    rw [hcl j oj hj hx e he hb] at h
    cases h
theorem J36.two {W0 W1 w9 W10 : World} {L : Array Bool} {w : World} (h : J36 W0 W1 w9 W10 L w) (h8 : L.getD 8 false = false) : W0 = w ∨ W1 = w := by
  cases hx : L.getD 7 false with
  | false => exact Or.inl (h.1 hx)
  | true => exact Or.inr (h.2.1 hx h8)
def FSp35 (R : Nat) (nb : Nat) (B : Bk) (ua : Option Addr) (uc : Nat) (g : Nat) (di : Int) : Nat → Value → World → Prop
  | 0, v, _ => v = .pointer (some ⟨nb, 7, none⟩)
  | 1, v, _ => v = .slice ua B.es.length uc
  | 2, v, _ => v = .int .i64 di
  | 3, v, _ => v = .pointer (some ⟨nb, 2, none⟩)
  | 4, v, _ => IsInt bdT v
  | 5, v, _ => v = .pointer (some ⟨nb, 0, none⟩)
  | 6, v, _ => IsInt bdT v
  | 7, v, w => IntsL R 4 bdT v w
  | 8, v, _ => v = .pointer (some ⟨R, 0, none⟩)
  | 9, v, _ => IsPick 4 v
  | 10, v, w => IntAt R bdT v w
  | 11, v, _ => IsInt bdT v
  | 12, v, _ => v = .pointer (some ⟨g, di.toNat * 7, none⟩)
  | 13, v, _ => v = .pointer (some ⟨g, di.toNat * 7 + 1, none⟩)
  | _, _, _ => True
def FSp22 (R : Nat) (nb : Nat) (B : Bk) (va : Option Addr) (vc : Nat) (g : Nat) (di : Int) : Nat → Value → World → Prop
  | 0, v, _ => v = .pointer (some ⟨nb, 5, none⟩)
  | 1, v, _ => v = .slice va B.ds.length vc
  | 2, v, _ => v = .int .i64 di
  | 3, v, _ => v = .pointer (some ⟨nb, 3, none⟩)
  | 4, v, _ => IsInt bdT v
  | 5, v, _ => v = .pointer (some ⟨nb, 3, none⟩)
  | 6, v, _ => IsInt bdT v
  | 7, v, _ => IsInt bdT v
  | 8, v, _ => v = .pointer (some ⟨nb, 4, none⟩)
  | 9, v, _ => IsInt bdT v
  | 10, v, _ => IsInt bdT v
  | 11, v, w => IntsL R 6 bdT v w
  | 12, v, _ => v = .pointer (some ⟨R, 0, none⟩)
  | 13, v, _ => IsPick 6 v
  | 14, v, w => IntAt R bdT v w
  | 15, v, _ => IsInt bdT v
  | 16, v, _ => v = .pointer (some ⟨g, di.toNat * 4, none⟩)
  | 17, v, _ => v = .pointer (some ⟨g, di.toNat * 4 + 1, none⟩)
  | _, _, _ => True
def FSp25 (R : Nat) (nb : Nat) (B : Bk) (va : Option Addr) (vc : Nat) (g : Nat) (di : Int) : Nat → Value → World → Prop
  | 0, v, _ => v = .pointer (some ⟨nb, 5, none⟩)
  | 1, v, _ => v = .slice va B.ds.length vc
  | 2, v, _ => v = .int .i64 di
  | 3, v, _ => v = .pointer (some ⟨nb, 0, none⟩)
  | 4, v, _ => IsInt bdT v
  | 5, v, _ => v = .pointer (some ⟨nb, 0, none⟩)
  | 6, v, _ => IsInt bdT v
  | 7, v, _ => IsInt bdT v
  | 8, v, _ => v = .pointer (some ⟨nb, 2, none⟩)
  | 9, v, _ => IsInt bdT v
  | 10, v, w => IntsL R 3 bdT v w
  | 11, v, _ => v = .pointer (some ⟨R, 0, none⟩)
  | 12, v, _ => IsPick 3 v
  | 13, v, w => IntAt R bdT v w
  | 14, v, _ => IsInt bdT v
  | 15, v, _ => v = .pointer (some ⟨g, di.toNat * 4, none⟩)
  | 16, v, _ => v = .pointer (some ⟨g, di.toNat * 4 + 2, none⟩)
  | _, _, _ => True
def FSp26 (R : Nat) (nb : Nat) (B : Bk) (va : Option Addr) (vc : Nat) (g : Nat) (di : Int) : Nat → Value → World → Prop
  | 0, v, _ => v = .pointer (some ⟨nb, 5, none⟩)
  | 1, v, _ => v = .slice va B.ds.length vc
  | 2, v, _ => v = .int .i64 di
  | 3, v, w => IntsL R 4 bdT v w
  | 4, v, _ => v = .pointer (some ⟨R, 0, none⟩)
  | 5, v, _ => IsPick 4 v
  | 6, v, w => IntAt R bdT v w
  | 7, v, _ => IsInt bdT v
  | 8, v, _ => v = .pointer (some ⟨g, di.toNat * 4, none⟩)
  | 9, v, _ => v = .pointer (some ⟨g, di.toNat * 4, none⟩)
  | _, _, _ => True
def FSp29 (R : Nat) (nb : Nat) (B : Bk) (ua : Option Addr) (uc : Nat) (g : Nat) (di : Int) : Nat → Value → World → Prop
  | 0, v, _ => v = .pointer (some ⟨nb, 7, none⟩)
  | 1, v, _ => v = .slice ua B.es.length uc
  | 2, v, _ => v = .int .i64 di
  | 3, v, _ => v = .pointer (some ⟨nb, 3, none⟩)
  | 4, v, _ => IsInt bdT v
  | 5, v, _ => v = .pointer (some ⟨nb, 4, none⟩)
  | 6, v, _ => IsInt bdT v
  | 7, v, _ => v = .pointer (some ⟨nb, 4, none⟩)
  | 8, v, _ => IsInt bdT v
  | 9, v, _ => IsInt bdT v
  | 10, v, w => IntsL R 3 bdT v w
  | 11, v, _ => v = .pointer (some ⟨R, 0, none⟩)
  | 12, v, _ => IsPick 3 v
  | 13, v, w => IntAt R bdT v w
  | 14, v, _ => IsInt bdT v
  | 15, v, _ => v = .pointer (some ⟨g, di.toNat * 7, none⟩)
  | 16, v, _ => v = .pointer (some ⟨g, di.toNat * 7 + 3, none⟩)
  | _, _, _ => True
def FSp32 (R : Nat) (nb : Nat) (B : Bk) (ua : Option Addr) (uc : Nat) (g : Nat) (di : Int) : Nat → Value → World → Prop
  | 0, v, _ => v = .pointer (some ⟨nb, 7, none⟩)
  | 1, v, _ => v = .slice ua B.es.length uc
  | 2, v, _ => v = .int .i64 di
  | 3, v, _ => v = .pointer (some ⟨nb, 6, none⟩)
  | 4, v, _ => IsInt bdT v
  | 5, v, _ => v = .pointer (some ⟨nb, 6, none⟩)
  | 6, v, _ => IsInt bdT v
  | 7, v, _ => IsInt bdT v
  | 8, v, _ => v = .pointer (some ⟨nb, 6, none⟩)
  | 9, v, _ => IsInt bdT v
  | 10, v, _ => IsInt bdT v
  | 11, v, _ => v = .pointer (some ⟨nb, 6, none⟩)
  | 12, v, _ => IsInt bdT v
  | 13, v, _ => IsInt bdT v
  | 14, v, w => IntsL R 5 bdT v w
  | 15, v, _ => v = .pointer (some ⟨R, 0, none⟩)
  | 16, v, _ => IsPick 5 v
  | 17, v, w => IntAt R bdT v w
  | 18, v, _ => IsInt bdT v
  | 19, v, _ => v = .pointer (some ⟨g, di.toNat * 7, none⟩)
  | 20, v, _ => v = .pointer (some ⟨g, di.toNat * 7 + 6, none⟩)
  | _, _, _ => True
def sndOf : Code → Code
  | .seq _ b => b
  | c => c
def fstOf : Code → Code
  | .seq a _ => a
  | c => c
def inOf : Code → Code
  | .block _ c => c
  | c => c
def elseOf : Code → Code
  | .seq _ (.cond _ _ b) => b
  | c => c
/-- The switch of l5Spoil. -/
noncomputable def swOf : Code := inOf (sndOf (fstOf (sndOf (sndOf (sndOf (sndOf (Tryz.f121.body.getD .skip)))))))

set_option maxRecDepth 20000 in
set_option maxHeartbeats 8000000 in
theorem spoil_10 {Q : Exit → Act → World → Prop} {s1 s2 s7 s8 s9 s10 s11 s12 s13 s14 s15 s16 s17 s18 s19 s20 s21 s22 s24 s25 s26 s27 s28 s29 s30 s31 s32 s33 s34 s35 s36 s37 s38 s39 s40 s41 s42 s43 s44 s45 s46 s47 s48 s49 s50 s51 s52 s53 s54 s55 s56 s57 s58 s59 s60 s61 s62 s63 s64 s65 s66 s67 s68 s69 s70 s71 s72 s73 s74 s75 s76 s77 s78 s79 s80 s81 s82 s83 s84 s85 s86 s87 s88 s89 s90 s91 s92 s93 s94 s95 s96 s97 s98 s99 s100 s101 s102 s103 s104 s105 s106 s107 s108 s109 s110 s111 s112 s113 s114 s115 s116 s117 s118 s119 s120 s121 s122 s123 s124 s125 s126 s127 s128 s129 s130 s131 s132 s133 s134 s135 s136 s137 s138 s139 s140 s141 s142 s143 s144 s145 s146 s147 s148 s149 s150 s151 s152 s153 s154 s155 s156 s157 s158 s159 s160 s161 s162 s163 s164 s165 s166 s167 s168 s169 s170 s171 s172 s173 s174 s175 s176 s177 s178 s179 s180 s181 s182 s183 s184 s185 s186 s187 s188 s189 s190 s191 s192 s193 s194 s195 s196 s197 s198 s199 s200 s201 s202 s204 s205 s206 s207 s208 s209 s210 s211 s212 s213 s214 s215 s216 s217 s218 s219 s220 s221 s222 s223 s224 s225 s226 s227 s228 s229 s230 s231 s232 s233 s234 s235 s236 s237 s238 s239 s240 s241 s242 s243 s244 s245 s246 s247 s248 s249 s250 s251 s252 s253 s254 s255 s256 s257 s258 s259 s260 s261 s262 : Value} (R : Nat) (n : Int) (w0 : World) (B : Bk) (va : Option Addr) (vc : Nat) (ua : Option Addr) (uc base : Nat) (wc : World) (dd de r N : Int) (hn : n ≤ 800000000) (hR : R < w0.heap.size) (a0 : -999999 ≤ B.ad) (a1 : B.ad ≤ 999999) (hdn : B.ds.length ≤ 100) (hen : B.es.length ≤ 100) (hnbx : base = w0.heap.size + 2) (_ : 0 ≤ dd) (_ : dd < B.ds.length + 1) (e0 : 0 ≤ de) (e1 : de < B.es.length + 1) (_ : 0 ≤ r) (_ : r < 12) (hN : N = n + 10) (HR : Rb wc R N) (bb : Bx wc w0.heap.size #[.int .i64 B.ad, .int .i64 B.ln, .int .i64 B.ow, .int .i64 B.lo, .int .i64 B.hi, .slice va B.ds.length vc, .int .i64 B.nw, .slice ua B.es.length uc]) (bx : Bx wc (w0.heap.size + 1) #[.int .i64 0, .int .i64 0, .int .i64 0, .int .i64 0, .int .i64 0, .slice none 0 0, .int .i64 0, .slice none 0 0]) (hO : OwnB wc base (.slice va B.ds.length vc) B.ds (.slice ua B.es.length uc) B.es) (HC : Apart R w0 wc)
    (hQ : Hid (∀ (t7 t24 t25 t26 t27 t28 t29 t30 t31 t32 t33 t34 t35 t36 t37 t38 t39 t40 t41 t42 t43 t44 t45 t46 t47 t48 t49 t50 t51 t52 t53 t54 t55 t56 t57 t58 t59 t60 t61 t62 t63 t64 t65 t66 t67 t68 t69 t70 t71 t72 t73 t74 t75 t76 t77 t78 t79 t80 t81 t82 t83 t84 t85 t86 t87 t88 t89 t90 t91 t92 t93 t94 t95 t96 t97 t98 t99 t100 t101 t102 t103 t104 t105 t106 t107 t108 t109 t110 t111 t112 t113 t114 t115 t116 t117 t118 t119 t120 t121 t122 t123 t124 t125 t126 t127 t128 t129 t130 t131 t132 t133 t134 t135 t136 t137 t138 t139 t140 t141 t142 t143 t144 t145 t146 t147 t148 t149 t150 t151 t152 t153 t154 t155 t156 t157 t158 t159 t160 t161 t162 t163 t164 t165 t166 t167 t168 t169 t170 t171 t172 t173 t174 t175 t176 t177 t178 t179 t180 t181 t182 t183 t184 t185 t186 t187 t188 t189 t190 t191 t192 t193 t194 t195 t196 t197 t198 t199 t200 t201 t202 t203 t204 t205 t206 t207 t208 t209 t210 t211 t212 t213 t214 t215 t216 t217 t218 t219 t220 t221 t222 t223 t224 t225 t226 t227 t228 t229 t230 t231 t232 t233 t234 t235 t236 t237 t238 t239 t240 t241 t242 t243 t244 t245 t246 t247 t248 t249 t250 t251 t252 t253 t254 t255 t256 t257 t258 t259 t260 t261 t262 : Value) (w' : World), (Spl w' base w0.heap.size ∧ Bx w' (w0.heap.size + 1) #[.int .i64 0, .int .i64 0, .int .i64 0, .int .i64 0, .int .i64 0, .slice none 0 0, .int .i64 0, .slice none 0 0] ∧ Apart R w0 w' ∧ Rb w' R (n + 900)) → Q .normal ⟨List.toArray (.pointer (some ⟨R, 0, none⟩) :: s1 :: s2 :: .pointer (some ⟨w0.heap.size, 0, none⟩) :: .pointer (some ⟨w0.heap.size + 1, 0, none⟩) :: .int .i64 dd :: .int .i64 de :: t7 :: s8 :: s9 :: s10 :: s11 :: s12 :: s13 :: s14 :: s15 :: s16 :: s17 :: s18 :: s19 :: s20 :: s21 :: s22 :: .int .i64 r :: t24 :: t25 :: t26 :: t27 :: t28 :: t29 :: t30 :: t31 :: t32 :: t33 :: t34 :: t35 :: t36 :: t37 :: t38 :: t39 :: t40 :: t41 :: t42 :: t43 :: t44 :: t45 :: t46 :: t47 :: t48 :: t49 :: t50 :: t51 :: t52 :: t53 :: t54 :: t55 :: t56 :: t57 :: t58 :: t59 :: t60 :: t61 :: t62 :: t63 :: t64 :: t65 :: t66 :: t67 :: t68 :: t69 :: t70 :: t71 :: t72 :: t73 :: t74 :: t75 :: t76 :: t77 :: t78 :: t79 :: t80 :: t81 :: t82 :: t83 :: t84 :: t85 :: t86 :: t87 :: t88 :: t89 :: t90 :: t91 :: t92 :: t93 :: t94 :: t95 :: t96 :: t97 :: t98 :: t99 :: t100 :: t101 :: t102 :: t103 :: t104 :: t105 :: t106 :: t107 :: t108 :: t109 :: t110 :: t111 :: t112 :: t113 :: t114 :: t115 :: t116 :: t117 :: t118 :: t119 :: t120 :: t121 :: t122 :: t123 :: t124 :: t125 :: t126 :: t127 :: t128 :: t129 :: t130 :: t131 :: t132 :: t133 :: t134 :: t135 :: t136 :: t137 :: t138 :: t139 :: t140 :: t141 :: t142 :: t143 :: t144 :: t145 :: t146 :: t147 :: t148 :: t149 :: t150 :: t151 :: t152 :: t153 :: t154 :: t155 :: t156 :: t157 :: t158 :: t159 :: t160 :: t161 :: t162 :: t163 :: t164 :: t165 :: t166 :: t167 :: t168 :: t169 :: t170 :: t171 :: t172 :: t173 :: t174 :: t175 :: t176 :: t177 :: t178 :: t179 :: t180 :: t181 :: t182 :: t183 :: t184 :: t185 :: t186 :: t187 :: t188 :: t189 :: t190 :: t191 :: t192 :: t193 :: t194 :: t195 :: t196 :: t197 :: t198 :: t199 :: t200 :: t201 :: t202 :: t203 :: t204 :: t205 :: t206 :: t207 :: t208 :: t209 :: t210 :: t211 :: t212 :: t213 :: t214 :: t215 :: t216 :: t217 :: t218 :: t219 :: t220 :: t221 :: t222 :: t223 :: t224 :: t225 :: t226 :: t227 :: t228 :: t229 :: t230 :: t231 :: t232 :: t233 :: t234 :: t235 :: t236 :: t237 :: t238 :: t239 :: t240 :: t241 :: t242 :: t243 :: t244 :: t245 :: t246 :: t247 :: t248 :: t249 :: t250 :: t251 :: t252 :: t253 :: t254 :: t255 :: t256 :: t257 :: t258 :: t259 :: t260 :: t261 :: t262 :: []), []⟩ w')) : Code.wp Tryz.prog (sndOf (elseOf (elseOf (elseOf (elseOf (elseOf (elseOf (elseOf (elseOf (elseOf (swOf))))))))))) Q ⟨List.toArray (.pointer (some ⟨R, 0, none⟩) :: s1 :: s2 :: .pointer (some ⟨w0.heap.size, 0, none⟩) :: .pointer (some ⟨w0.heap.size + 1, 0, none⟩) :: .int .i64 dd :: .int .i64 de :: s7 :: s8 :: s9 :: s10 :: s11 :: s12 :: s13 :: s14 :: s15 :: s16 :: s17 :: s18 :: s19 :: s20 :: s21 :: s22 :: .int .i64 r :: s24 :: s25 :: s26 :: s27 :: s28 :: s29 :: s30 :: s31 :: s32 :: s33 :: s34 :: s35 :: s36 :: s37 :: s38 :: s39 :: s40 :: s41 :: s42 :: s43 :: s44 :: s45 :: s46 :: s47 :: s48 :: s49 :: s50 :: s51 :: s52 :: s53 :: s54 :: s55 :: s56 :: s57 :: s58 :: s59 :: s60 :: s61 :: s62 :: s63 :: s64 :: s65 :: s66 :: s67 :: s68 :: s69 :: s70 :: s71 :: s72 :: s73 :: s74 :: s75 :: s76 :: s77 :: s78 :: s79 :: s80 :: s81 :: s82 :: s83 :: s84 :: s85 :: s86 :: s87 :: s88 :: s89 :: s90 :: s91 :: s92 :: s93 :: s94 :: s95 :: s96 :: s97 :: s98 :: s99 :: s100 :: s101 :: s102 :: s103 :: s104 :: s105 :: s106 :: s107 :: s108 :: s109 :: s110 :: s111 :: s112 :: s113 :: s114 :: s115 :: s116 :: s117 :: s118 :: s119 :: s120 :: s121 :: s122 :: s123 :: s124 :: s125 :: s126 :: s127 :: s128 :: s129 :: s130 :: s131 :: s132 :: s133 :: s134 :: s135 :: s136 :: s137 :: s138 :: s139 :: s140 :: s141 :: s142 :: s143 :: s144 :: s145 :: s146 :: s147 :: s148 :: s149 :: s150 :: s151 :: s152 :: s153 :: s154 :: s155 :: s156 :: s157 :: s158 :: s159 :: s160 :: s161 :: s162 :: s163 :: s164 :: s165 :: s166 :: s167 :: s168 :: s169 :: s170 :: s171 :: s172 :: s173 :: s174 :: s175 :: s176 :: s177 :: s178 :: s179 :: s180 :: s181 :: s182 :: s183 :: s184 :: s185 :: s186 :: s187 :: s188 :: s189 :: s190 :: s191 :: s192 :: s193 :: s194 :: s195 :: s196 :: s197 :: s198 :: s199 :: s200 :: s201 :: s202 :: .bool false :: s204 :: s205 :: s206 :: s207 :: s208 :: s209 :: s210 :: s211 :: s212 :: s213 :: s214 :: s215 :: s216 :: s217 :: s218 :: s219 :: s220 :: s221 :: s222 :: s223 :: s224 :: s225 :: s226 :: s227 :: s228 :: s229 :: s230 :: s231 :: s232 :: s233 :: s234 :: s235 :: s236 :: s237 :: s238 :: s239 :: s240 :: s241 :: s242 :: s243 :: s244 :: s245 :: s246 :: s247 :: s248 :: s249 :: s250 :: s251 :: s252 :: s253 :: s254 :: s255 :: s256 :: s257 :: s258 :: s259 :: s260 :: s261 :: s262 :: []), []⟩ wc := by
  conv => arg 2; whnf
  go_upto_region 33 with fail
  by_cases h0 : r = 10
  · have hq : (r == 10) = true := by simpa using h0
    clear h0
    by_cases hlt : de < (B.es.length : Int)
    · obtain ⟨g, cap, hv, hg0, hg1, hg2, hg3⟩ := own_form hO.2.1 (by omega)
      simp only [Value.slice.injEq] at hv
      obtain ⟨rfl, -, rfl⟩ := hv
      obtain ⟨d, hdd⟩ : ∃ d, B.es[de.toNat]? = some d := ⟨B.es[de.toNat]'(by omega), by simp⟩
      have hdd : Hid (B.es[de.toNat]? = some d) := hdd
      have y1 := bb.1.2
      go_upto_region 35 with fail
      clear y1
      have hM : ∀ w w', (MS w0.heap.size base #[.int .i64 B.ad, .int .i64 B.ln, .int .i64 B.ow, .int .i64 B.lo, .int .i64 B.hi, .slice va B.ds.length vc, .int .i64 B.nw, .slice (some ⟨g, 0, none⟩) B.es.length uc] (.slice va B.ds.length vc) B.ds (.slice (some ⟨g, 0, none⟩) B.es.length uc) B.es) w → Apart R w w' → (MS w0.heap.size base #[.int .i64 B.ad, .int .i64 B.ln, .int .i64 B.ow, .int .i64 B.lo, .int .i64 B.hi, .slice va B.ds.length vc, .int .i64 B.nw, .slice (some ⟨g, 0, none⟩) B.es.length uc] (.slice va B.ds.length vc) B.ds (.slice (some ⟨g, 0, none⟩) B.es.length uc) B.es) w' := fun w w' h ha => h.apart ha (by omega) (by omega)
      refine region_last [238, 239, 240, 241, 242, 243, 244, 245, 246, 247, 248, 249, 250, 251, 100014] 14 (FSp35 R w0.heap.size B (some ⟨g, 0, none⟩) uc g de) (JS R wc N (MS w0.heap.size base #[.int .i64 B.ad, .int .i64 B.ln, .int .i64 B.ow, .int .i64 B.lo, .int .i64 B.hi, .slice va B.ds.length vc, .int .i64 B.nw, .slice (some ⟨g, 0, none⟩) B.es.length uc] (.slice va B.ds.length vc) B.ds (.slice (some ⟨g, 0, none⟩) B.es.length uc) B.es)) (Apart R) (by as_aux_lemma => kernel_rfl) (by as_aux_lemma => kernel_rfl) (by decide) (by as_aux_lemma => kernel_rfl) (by as_aux_lemma => kernel_rfl) _ rfl ?_ (JS.zero HR ⟨bb, hO⟩ hM) ?_ ?_
      · intro i v w w' hR h
        rcases i with _ | _ | _ | _ | _ | _ | _ | _ | _ | _ | _ | _ | _ | _ | _ | i
        all_goals first
          | exact h
          | exact IntsL.apart h hR
          | exact IntAt.apart h hR
      · refine all_lt_succ (all_lt_succ (all_lt_succ (all_lt_succ (all_lt_succ (all_lt_succ (all_lt_succ (all_lt_succ (all_lt_succ (all_lt_succ (all_lt_succ (all_lt_succ (all_lt_succ (all_lt_succ (all_lt_zero _) ?_) ?_) ?_) ?_) ?_) ?_) ?_) ?_) ?_) ?_) ?_) ?_) ?_) ?_
        all_goals (refine stepOk_at _ rfl ?_; intro vs w c hv hc hJ hdep K hK; have hc : c < 15 := hc; obtain ⟨v0, v1, v2, v3, v4, v5, v6, v7, v8, v9, v10, v11, v12, v13, v14, rfl⟩ := len15 hv; have dr := fun v h => hK.out v w (ap_refl _ _) hJ.next h)
        · exact mid_val _ w (by as_aux_lemma => kernel_rfl) (by as_aux_lemma => kernel_rfl) (dr _ rfl)
        · obtain rfl := dep hdep 0 (by as_aux_lemma => kernel_rfl)
          exact mid_ld (by as_aux_lemma => kernel_rfl) (by as_aux_lemma => kernel_rfl) (ld_ents (hJ.2.2.1.1.2 7)) (dr _ rfl)
        · exact mid_val _ w (by as_aux_lemma => kernel_rfl) (by as_aux_lemma => kernel_rfl) (dr _ rfl)
        · exact mid_val _ w (by as_aux_lemma => kernel_rfl) (by as_aux_lemma => kernel_rfl) (dr _ rfl)
        · obtain rfl := dep hdep 3 (by as_aux_lemma => kernel_rfl)
          exact mid_ld (by as_aux_lemma => kernel_rfl) (by as_aux_lemma => kernel_rfl) (ld_int (hJ.2.2.1.1.2 2)) (dr _ ⟨_, rfl, trivial⟩)
        · exact mid_val _ w (by as_aux_lemma => kernel_rfl) (by as_aux_lemma => kernel_rfl) (dr _ rfl)
        · obtain rfl := dep hdep 5 (by as_aux_lemma => kernel_rfl)
          exact mid_ld (by as_aux_lemma => kernel_rfl) (by as_aux_lemma => kernel_rfl) (ld_int (hJ.2.2.1.1.2 0)) (dr _ ⟨_, rfl, trivial⟩)
        · obtain ⟨y0, rfl, h0⟩ := dep hdep 4 (by as_aux_lemma => kernel_rfl)
          obtain ⟨y1, rfl, h1⟩ := dep hdep 6 (by as_aux_lemma => kernel_rfl)
          exact mid_val (.slice (some ⟨w.heap.size, 0, none⟩) 4 4) (w.alloc (.cells (ofI [y0, y1, 65535, 65536]) 3)) (by as_aux_lemma => kernel_rfl) (by as_aux_lemma => kernel_rfl) (hK.out _ _ (ap_alloc (ap_refl _ _) _) (hJ.more hM _) (ints_new [y0, y1, 65535, 65536] hJ.2.1.lt (fa trivial (fa trivial (fa trivial (fa trivial fn))))))
        · exact mid_val _ w (by as_aux_lemma => kernel_rfl) (by as_aux_lemma => kernel_rfl) (dr _ rfl)
        · obtain rfl := dep hdep 8 (by as_aux_lemma => kernel_rfl)
          exact mid_pick R 4 hJ.2.1 (by omega) (by omega) (by omega) (by as_aux_lemma => kernel_rfl) (by as_aux_lemma => kernel_rfl) fun v w' h ha hr => hK.out v w' ha (hJ.far hM ha hr) h
        · obtain ⟨n, rfl, hn, hl, hc⟩ := dep hdep 7 (by as_aux_lemma => kernel_rfl)
          obtain ⟨r, rfl, r0, r1⟩ := dep hdep 9 (by as_aux_lemma => kernel_rfl)
          exact mid_ix hc hn hl r0 (by omega) (by as_aux_lemma => kernel_rfl) (by as_aux_lemma => kernel_rfl) fun v h => dr v h
        · obtain ⟨n, j, x, rfl, hn, hl, hc, hx⟩ := dep hdep 10 (by as_aux_lemma => kernel_rfl)
          exact mid_ld (by as_aux_lemma => kernel_rfl) (by as_aux_lemma => kernel_rfl) (ld_int hc) (dr _ ⟨x, rfl, hx⟩)
        · obtain rfl := dep hdep 1 (by as_aux_lemma => kernel_rfl)
          obtain rfl := dep hdep 2 (by as_aux_lemma => kernel_rfl)
          exact mid_sem (ixSemT 24 g B.es.length uc de) (by as_aux_lemma => kernel_rfl) (by as_aux_lemma => kernel_rfl) (ixe_ok (by omega) (by omega)) (dr _ rfl)
        · obtain rfl := dep hdep 12 (by as_aux_lemma => kernel_rfl)
          exact mid_val (.pointer (some ⟨g, de.toNat * 7 + 1, none⟩)) w (by as_aux_lemma => kernel_rfl) (by as_aux_lemma => kernel_rfl) (dr _ rfl)
      · intro vs w hv hJ hall
        obtain ⟨v0, v1, v2, v3, v4, v5, v6, v7, v8, v9, v10, v11, v12, v13, v14, rfl⟩ := len15 hv
        obtain ⟨x, rfl, -⟩ := hall 11 (by decide)
        obtain rfl := hall 13 (by decide)
        obtain ⟨HC3, HR3, bb3, hO3⟩ := hJ
        clear hall hv
        replace bx := bx.apart HC3 (by omega)
        replace HC := ap_trans HC HC3
        obtain ⟨u, hu⟩ := (row_of_own hO3.2.1).1.cell (j := de.toNat * 7 + 1) (by omega)
        have hfz := (row_of_own hO3.2.1).1.frozen
        have hgb := hO3.2.1.lt g rfl
        refine mid_stc (t' := (List.toArray (.pointer (some ⟨R, 0, none⟩) :: s1 :: s2 :: .pointer (some ⟨w0.heap.size, 0, none⟩) :: .pointer (some ⟨w0.heap.size + 1, 0, none⟩) :: .int .i64 dd :: .int .i64 de :: s7 :: s8 :: s9 :: s10 :: s11 :: s12 :: s13 :: s14 :: s15 :: s16 :: s17 :: s18 :: s19 :: s20 :: s21 :: s22 :: .int .i64 r :: s24 :: s25 :: s26 :: s27 :: s28 :: s29 :: s30 :: s31 :: s32 :: s33 :: s34 :: s35 :: s36 :: s37 :: s38 :: s39 :: s40 :: s41 :: s42 :: s43 :: s44 :: s45 :: s46 :: s47 :: s48 :: s49 :: s50 :: s51 :: s52 :: s53 :: s54 :: s55 :: s56 :: s57 :: s58 :: s59 :: s60 :: s61 :: s62 :: s63 :: s64 :: s65 :: s66 :: s67 :: s68 :: s69 :: s70 :: s71 :: s72 :: s73 :: s74 :: s75 :: s76 :: s77 :: s78 :: s79 :: s80 :: s81 :: s82 :: s83 :: s84 :: s85 :: s86 :: s87 :: s88 :: s89 :: s90 :: s91 :: s92 :: s93 :: s94 :: s95 :: s96 :: s97 :: s98 :: s99 :: s100 :: s101 :: s102 :: s103 :: s104 :: s105 :: s106 :: s107 :: s108 :: s109 :: s110 :: s111 :: s112 :: s113 :: s114 :: s115 :: s116 :: s117 :: s118 :: s119 :: s120 :: s121 :: s122 :: s123 :: s124 :: s125 :: s126 :: s127 :: s128 :: s129 :: s130 :: s131 :: s132 :: s133 :: s134 :: s135 :: s136 :: s137 :: s138 :: s139 :: s140 :: s141 :: s142 :: s143 :: s144 :: s145 :: s146 :: s147 :: s148 :: s149 :: s150 :: s151 :: s152 :: s153 :: s154 :: s155 :: s156 :: s157 :: s158 :: s159 :: s160 :: s161 :: s162 :: s163 :: s164 :: s165 :: s166 :: s167 :: s168 :: s169 :: s170 :: s171 :: s172 :: s173 :: s174 :: s175 :: s176 :: s177 :: s178 :: s179 :: s180 :: s181 :: s182 :: s183 :: s184 :: s185 :: s186 :: s187 :: s188 :: s189 :: s190 :: s191 :: s192 :: s193 :: s194 :: s195 :: s196 :: s197 :: s198 :: s199 :: s200 :: s201 :: s202 :: .bool false :: s204 :: s205 :: s206 :: s207 :: s208 :: s209 :: s210 :: s211 :: s212 :: s213 :: s214 :: s215 :: s216 :: s217 :: s218 :: s219 :: s220 :: s221 :: s222 :: s223 :: s224 :: s225 :: s226 :: s227 :: s228 :: s229 :: s230 :: .bool true :: .bool true :: .int .i64 de :: .pointer (some ⟨w0.heap.size, 7, none⟩) :: .slice (some ⟨g, 0, none⟩) B.es.length uc :: .int .i64 B.es.length :: .bool true :: v0 :: v1 :: v2 :: v3 :: v4 :: v5 :: v6 :: v7 :: v8 :: v9 :: v10 :: .int .i64 x :: v12 :: .pointer (some ⟨g, de.toNat * 7 + 1, none⟩) :: s252 :: s253 :: s254 :: s255 :: s256 :: s257 :: s258 :: s259 :: s260 :: s261 :: s262 :: []))) (stSem ⟨g, de.toNat * 7 + 1, none⟩ x) (by as_aux_lemma => kernel_rfl) (by as_aux_lemma => kernel_rfl) (by as_aux_lemma => kernel_rfl) rfl (st_int hu (hfz _)) ?_
        have hO4 := hO3.setE hdd.out 1 (by omega) x
        have bb4 := bb3.other (m := g) (j := de.toNat * 7 + 1) (by omega) (.int .i64 x)
        replace bx := bx.other (m := g) (j := de.toNat * 7 + 1) (by omega) (.int .i64 x)
        replace HC := ap_new HC (n := g) (j := de.toNat * 7 + 1) (by omega) (.int .i64 x)
        replace HR3 := HR3.set (m := g) (j := de.toNat * 7 + 1) (by omega) (.int .i64 x)
        
        clear hu hfz bb3 HR hO bb hO3
        have hO := hO4
        have HR := HR3
        have bb := bb4
        clear hO4 HR3 bb4
        generalize w.setCell ⟨g, de.toNat * 7 + 1, none⟩ (.int .i64 x) = W9 at *
        obtain ⟨B2, m1, m2, m3, m4, m5, m6, m7, m8⟩ : ∃ B2 : Bk, B2.ad = B.ad ∧ B2.ln = B.ln ∧ B2.ow = B.ow ∧ B2.lo = B.lo ∧ B2.hi = B.hi ∧ B2.nw = B.nw ∧ B2.ds = B.ds ∧ B2.es = B.es.modify de.toNat (setE 1 x) := ⟨⟨B.ad, B.ln, B.ow, B.lo, B.hi, B.nw, B.ds, B.es.modify de.toNat (setE 1 x)⟩, rfl, rfl, rfl, rfl, rfl, rfl, rfl, rfl⟩
        have hl2 : B2.ds.length = B.ds.length := by rw [m7]
        have hl3 : B2.es.length = B.es.length := by rw [m8]; simp
        have a0 : -999999 ≤ B2.ad := by rw [m1]; exact a0
        have a1 : B2.ad ≤ 999999 := by rw [m1]; exact a1
        rw [← m7, ← m8] at hO
        rw [← m1, ← m2, ← m3, ← m4, ← m5, ← m6, ← hl2, ← hl3] at bb
        obtain ⟨d2, hdd2⟩ : ∃ d, B2.es[de.toNat]? = some d := ⟨B2.es[de.toNat]'(by omega), by simp⟩
        have hdd : Hid (B2.es[de.toNat]? = some d2) := hdd2
        have hlt2 : de < (B2.es.length : Int) := by omega
        have hdn2 : B2.ds.length ≤ 100 := by omega
        have hen2 : B2.es.length ≤ 100 := by omega
        have hgn : g ≠ w0.heap.size := by omega
        clear m1 m2 m3 m4 m5 m6 m7 m8 hl2 hl3 hdd2
        obtain ⟨i0, hi0, hz0, hz1, hz2⟩ := info_parts infoEn
        go_upto_region 36 with fail
        have hlq := bl_drew (bl_refl W9)
        replace bb := bb.below hlq
        replace bx := bx.below hlq
        replace hO := hO.below hlq
        replace HC := ap_trans HC (ap_of_bl hlq)
        replace HR := HR.below hlq
        clear hlq
        generalize hW0 : World.drew W9 = W0 at *
        have hrow := enCells_of_own hO.2.1 rfl
        obtain ⟨c0, c1, c2, c3, c4, c5, c6⟩ := hrow _ _ hdd.out
        simp only [Nat.zero_add] at c0 c1 c2 c3 c4 c5 c6
        have hBl := bl_alloc (bl_refl W0) (.cells #[.int .i64 d2.k, .int .i64 d2.pr, .int .i64 d2.pp, .int .i64 d2.o, .int .i64 d2.i, .int .i64 d2.ip, .int .i64 d2.l] 52)
        have be := Box.new W0 #[.int .i64 d2.k, .int .i64 d2.pr, .int .i64 d2.pp, .int .i64 d2.o, .int .i64 d2.i, .int .i64 d2.ip, .int .i64 d2.l] 52
        have bb1 := bb.below hBl
        replace bx := bx.below hBl
        replace hO := hO.below hBl
        replace HC := ap_trans HC (ap_of_bl hBl)
        replace HR := HR.below hBl
        have hbs := bx.1.1
        generalize hW1 : World.alloc W0 (.cells #[.int .i64 d2.k, .int .i64 d2.pr, .int .i64 d2.pp, .int .i64 d2.o, .int .i64 d2.i, .int .i64 d2.ip, .int .i64 d2.l] 52) = W1 at *
        obtain ⟨v', w9, hrun, own2, hg9⟩ := run_append_any (P := Tryz.prog) W1 base 24 24 52 i0 (.agg #[.int .i64 0, .int .i64 0, .int .i64 0, .int .i64 0, .int .i64 0, .int .i64 0, .int .i64 0]) 7 56 Tryz.underlying24 hi0 hz0 hz1 hz2 rfl (by decide) _ _ _ hO.2.1 _ _ _ (takes_boxE be) (by unfold maxLen; omega) (by omega) (by omega)
        have hgb : ∀ k, (Value.slice (some ⟨g, 0, none⟩) B2.es.length uc).ownBlock = some k → base ≤ k := fun k hk => (hO.2.1.lt k hk).1
        have bb9 := bb1.far hg9 (fun k hk => by have := hgb k hk; omega)
        replace bx := bx.far hg9 (fun k hk => by have := hgb k hk; omega)
        replace HC := ap_grown HC hg9 (fun k hk => by have := hgb k hk; omega)
        replace HR := HR.grown hg9 (fun k hk => by have := hgb k hk; omega)
        obtain ⟨ra, rc, rfl, hO9⟩ := hO.more own2 hg9
        clear hgb hg9 own2 hBl hrow
        refine region_midL [252, 253, 254, 255, 256, 257, 258, 259, 260, 261, 100010] (FSp36 w0.heap.size g B2 uc de d2 W0 ra rc) (J36 W0 W1 w9 (w9.setCell ⟨w0.heap.size, 7, none⟩ (.slice ra (B2.es ++ [d2]).length rc))) (fun _ _ => True) (by as_aux_lemma => kernel_rfl) (by as_aux_lemma => kernel_rfl) (by decide) (fun i v w w' _ h => (by rcases i with _ | _ | _ | _ | _ | _ | _ | _ | _ | _ | _ | i <;> exact h)) ?_ ?_ ?_
        · refine ⟨fun _ => hW0.symm, fun h => ?_, fun h => ?_, fun h => ?_⟩ <;> simp at h
        · refine all_lt_succ (all_lt_succ (all_lt_succ (all_lt_succ (all_lt_succ (all_lt_succ (all_lt_succ (all_lt_succ (all_lt_succ (all_lt_succ (all_lt_succ (all_lt_zero _) ?_) ?_) ?_) ?_) ?_) ?_) ?_) ?_) ?_) ?_) ?_
          all_goals (refine stepOkL_at _ rfl ?_; intro listed vs w hls hv hi hcl hup hJ hdep K hK; have hls : listed.size = 11 := hls; obtain ⟨k0, k1, k2, k3, k4, k5, k6, k7, k8, k9, k10, rfl⟩ := len11 hv)
          · exact mid_val (.pointer (some ⟨w0.heap.size, 7, none⟩)) w (by as_aux_lemma => kernel_rfl) (by as_aux_lemma => kernel_rfl) (hK.out _ _ trivial (hJ.keep (by decide) (by decide) (by decide)) rfl)
          · have n0 := not_up hi
            have n0 := up_of hcl 8 1 _ rfl (by as_aux_lemma => kernel_rfl) n0
            obtain rfl := dep hdep 0 (by as_aux_lemma => kernel_rfl)
            rcases hJ.two n0 with hw | hw <;> subst w
            · exact mid_ld (by as_aux_lemma => kernel_rfl) (by as_aux_lemma => kernel_rfl) (ld_ents (bb.1.2 7)) (hK.out _ _ trivial (hJ.keep (by decide) (by decide) (by decide)) rfl)
            · exact mid_ld (by as_aux_lemma => kernel_rfl) (by as_aux_lemma => kernel_rfl) (ld_ents (bb1.1.2 7)) (hK.out _ _ trivial (hJ.keep (by decide) (by decide) (by decide)) rfl)
          · exact mid_val (.pointer (some ⟨w0.heap.size, 7, none⟩)) w (by as_aux_lemma => kernel_rfl) (by as_aux_lemma => kernel_rfl) (hK.out _ _ trivial (hJ.keep (by decide) (by decide) (by decide)) rfl)
          · have n0 := not_up hi
            have n0 := up_of hcl 5 3 _ rfl (by as_aux_lemma => kernel_rfl) n0
            have n0 := up_of hcl 6 5 _ rfl (by as_aux_lemma => kernel_rfl) n0
            have n0 := up_of hcl 7 6 _ rfl (by as_aux_lemma => kernel_rfl) n0
            have n0 := up_of hcl 8 7 _ rfl (by as_aux_lemma => kernel_rfl) n0
            obtain rfl := dep hdep 2 (by as_aux_lemma => kernel_rfl)
            rcases hJ.two n0 with hw | hw <;> subst w
            · exact mid_ld (by as_aux_lemma => kernel_rfl) (by as_aux_lemma => kernel_rfl) (ld_ents (bb.1.2 7)) (hK.out _ _ trivial (hJ.keep (by decide) (by decide) (by decide)) rfl)
            · exact mid_ld (by as_aux_lemma => kernel_rfl) (by as_aux_lemma => kernel_rfl) (ld_ents (bb1.1.2 7)) (hK.out _ _ trivial (hJ.keep (by decide) (by decide) (by decide)) rfl)
          · exact mid_val (.int .i64 de) w (by as_aux_lemma => kernel_rfl) (by as_aux_lemma => kernel_rfl) (hK.out _ _ trivial (hJ.keep (by decide) (by decide) (by decide)) rfl)
          · obtain rfl := dep hdep 3 (by as_aux_lemma => kernel_rfl)
            obtain rfl := dep hdep 4 (by as_aux_lemma => kernel_rfl)
            exact mid_sem (ixSemT 24 g B2.es.length uc de) (by as_aux_lemma => kernel_rfl) (by as_aux_lemma => kernel_rfl) (ixe_ok (by omega) (by omega)) (hK.out _ _ trivial (hJ.keep (by decide) (by decide) (by decide)) rfl)
          · have n7 := up_of hcl 7 6 _ rfl (by as_aux_lemma => kernel_rfl) (not_up hi)
            have hw := hJ.1 n7
            subst w
            obtain rfl := dep hdep 5 (by as_aux_lemma => kernel_rfl)
            exact mid_ld (by as_aux_lemma => kernel_rfl) (by as_aux_lemma => kernel_rfl) (ld_en c0 c1 c2 c3 c4 c5 c6) (hK.out _ _ trivial (hJ.keep (by decide) (by decide) (by decide)) rfl)
          · obtain rfl := dep hdep 6 (by as_aux_lemma => kernel_rfl)
            have hw := hJ.1 (not_up hi)
            subst w
            have n8 := up_of hcl 8 7 _ rfl (by as_aux_lemma => kernel_rfl) (not_up hi)
            have n10 := up_of hcl 10 8 _ rfl (by as_aux_lemma => kernel_rfl) n8
            refine mid_val (.slice (some ⟨W0.heap.size, 0, none⟩) 1 1) (World.alloc W0 (.cells #[.int .i64 d2.k, .int .i64 d2.pr, .int .i64 d2.pp, .int .i64 d2.o, .int .i64 d2.i, .int .i64 d2.ip, .int .i64 d2.l] 52)) (by as_aux_lemma => kernel_rfl) (by as_aux_lemma => kernel_rfl) (hK.out _ _ trivial ?_ rfl)
            show J36 _ _ _ _ (listed.setIfInBounds 7 true) _
            unfold J36
            rw [listed_eq (by omega), listed_ne (by decide), listed_ne (by decide), n8, n10]
            exact ⟨fun h => absurd h (by decide), fun _ _ => hW1.symm, fun h => absurd h (by decide), fun h => absurd h (by decide)⟩
          · obtain rfl := dep hdep 1 (by as_aux_lemma => kernel_rfl)
            obtain rfl := dep hdep 7 (by as_aux_lemma => kernel_rfl)
            have t7 := upd hup 7 (by as_aux_lemma => kernel_rfl)
            have n8 := not_up hi
            have n10 := up_of hcl 10 8 _ rfl (by as_aux_lemma => kernel_rfl) n8
            have hw := hJ.2.1 t7 n8
            subst w
            refine mid_ap (apSem (.slice (some ⟨g, 0, none⟩) B2.es.length uc) (.slice (some ⟨W0.heap.size, 0, none⟩) 1 1)) (by as_aux_lemma => kernel_rfl) (by as_aux_lemma => kernel_rfl) (ap_run hrun) (hK.out _ _ trivial ?_ rfl)
            show J36 _ _ _ _ (listed.setIfInBounds 8 true) _
            unfold J36
            rw [listed_eq (by omega), listed_ne (by decide), listed_ne (by decide), t7, n10]
            exact ⟨fun h => absurd h (by decide), fun _ h => absurd h (by decide), fun _ _ => rfl, fun h => absurd h (by decide)⟩
          · exact mid_val (.pointer (some ⟨w0.heap.size, 7, none⟩)) w (by as_aux_lemma => kernel_rfl) (by as_aux_lemma => kernel_rfl) (hK.out _ _ trivial (hJ.keep (by decide) (by decide) (by decide)) rfl)
          · obtain rfl := dep hdep 8 (by as_aux_lemma => kernel_rfl)
            obtain rfl := dep hdep 9 (by as_aux_lemma => kernel_rfl)
            have t8 := upd hup 8 (by as_aux_lemma => kernel_rfl)
            have t7 := upd hup 7 (by as_aux_lemma => kernel_rfl)
            have hw := hJ.2.2.1 t8 (not_up hi)
            subst w
            refine mid_st (stSemE ⟨w0.heap.size, 7, none⟩ (.slice ra (B2.es ++ [d2]).length rc)) (by as_aux_lemma => kernel_rfl) (by as_aux_lemma => kernel_rfl) rfl (st_ents (bb9.1.2 7) (bb9.2 7)) (hK.out undef _ trivial ?_ trivial)
            show J36 _ _ _ _ (listed.setIfInBounds 10 true) _
            unfold J36
            rw [listed_eq (by omega), listed_ne (by decide), listed_ne (by decide), t7, t8]
            exact ⟨fun h => absurd h (by decide), fun _ h => absurd h (by decide), fun _ h => absurd h (by decide), fun _ => rfl⟩
        · intro listed vs w hls hal hv hJ hall
          obtain ⟨k0, k1, k2, k3, k4, k5, k6, k7, k8, k9, k10, rfl⟩ := len11 hv
          obtain rfl := hall 0 (by decide)
          obtain rfl := hall 1 (by decide)
          obtain rfl := hall 2 (by decide)
          obtain rfl := hall 3 (by decide)
          obtain rfl := hall 4 (by decide)
          obtain rfl := hall 5 (by decide)
          obtain rfl := hall 6 (by decide)
          obtain rfl := hall 7 (by decide)
          obtain rfl := hall 8 (by decide)
          obtain rfl := hall 9 (by decide)
          have hw := hJ.2.2.2 (hal 10 (by decide))
          subst w
          clear hall hal hv hJ
          refine q_eq (t' := (List.toArray (.pointer (some ⟨R, 0, none⟩) :: s1 :: s2 :: .pointer (some ⟨w0.heap.size, 0, none⟩) :: .pointer (some ⟨w0.heap.size + 1, 0, none⟩) :: .int .i64 dd :: .int .i64 de :: s7 :: s8 :: s9 :: s10 :: s11 :: s12 :: s13 :: s14 :: s15 :: s16 :: s17 :: s18 :: s19 :: s20 :: s21 :: s22 :: .int .i64 r :: s24 :: s25 :: s26 :: s27 :: s28 :: s29 :: s30 :: s31 :: s32 :: s33 :: s34 :: s35 :: s36 :: s37 :: s38 :: s39 :: s40 :: s41 :: s42 :: s43 :: s44 :: s45 :: s46 :: s47 :: s48 :: s49 :: s50 :: s51 :: s52 :: s53 :: s54 :: s55 :: s56 :: s57 :: s58 :: s59 :: s60 :: s61 :: s62 :: s63 :: s64 :: s65 :: s66 :: s67 :: s68 :: s69 :: s70 :: s71 :: s72 :: s73 :: s74 :: s75 :: s76 :: s77 :: s78 :: s79 :: s80 :: s81 :: s82 :: s83 :: s84 :: s85 :: s86 :: s87 :: s88 :: s89 :: s90 :: s91 :: s92 :: s93 :: s94 :: s95 :: s96 :: s97 :: s98 :: s99 :: s100 :: s101 :: s102 :: s103 :: s104 :: s105 :: s106 :: s107 :: s108 :: s109 :: s110 :: s111 :: s112 :: s113 :: s114 :: s115 :: s116 :: s117 :: s118 :: s119 :: s120 :: s121 :: s122 :: s123 :: s124 :: s125 :: s126 :: s127 :: s128 :: s129 :: s130 :: s131 :: s132 :: s133 :: s134 :: s135 :: s136 :: s137 :: s138 :: s139 :: s140 :: s141 :: s142 :: s143 :: s144 :: s145 :: s146 :: s147 :: s148 :: s149 :: s150 :: s151 :: s152 :: s153 :: s154 :: s155 :: s156 :: s157 :: s158 :: s159 :: s160 :: s161 :: s162 :: s163 :: s164 :: s165 :: s166 :: s167 :: s168 :: s169 :: s170 :: s171 :: s172 :: s173 :: s174 :: s175 :: s176 :: s177 :: s178 :: s179 :: s180 :: s181 :: s182 :: s183 :: s184 :: s185 :: s186 :: s187 :: s188 :: s189 :: s190 :: s191 :: s192 :: s193 :: s194 :: s195 :: s196 :: s197 :: s198 :: s199 :: s200 :: s201 :: s202 :: .bool false :: s204 :: s205 :: s206 :: s207 :: s208 :: s209 :: s210 :: s211 :: s212 :: s213 :: s214 :: s215 :: s216 :: s217 :: s218 :: s219 :: s220 :: s221 :: s222 :: s223 :: s224 :: s225 :: s226 :: s227 :: s228 :: s229 :: s230 :: .bool true :: .bool true :: .int .i64 de :: .pointer (some ⟨w0.heap.size, 7, none⟩) :: .slice (some ⟨g, 0, none⟩) B.es.length uc :: .int .i64 B.es.length :: .bool true :: v0 :: v1 :: v2 :: v3 :: v4 :: v5 :: v6 :: v7 :: v8 :: v9 :: v10 :: .int .i64 x :: v12 :: .pointer (some ⟨g, de.toNat * 7 + 1, none⟩) :: .pointer (some ⟨w0.heap.size, 7, none⟩) :: .slice (some ⟨g, 0, none⟩) B2.es.length uc :: .pointer (some ⟨w0.heap.size, 7, none⟩) :: .slice (some ⟨g, 0, none⟩) B2.es.length uc :: .int .i64 de :: .pointer (some ⟨g, de.toNat * 7, none⟩) :: .agg #[.int .i64 d2.k, .int .i64 d2.pr, .int .i64 d2.pp, .int .i64 d2.o, .int .i64 d2.i, .int .i64 d2.ip, .int .i64 d2.l] :: .slice (some ⟨W0.heap.size, 0, none⟩) 1 1 :: .slice ra (B2.es ++ [d2]).length rc :: .pointer (some ⟨w0.heap.size, 7, none⟩) :: s262 :: []))) (by as_aux_lemma => kernel_rfl) ?_
          replace bx := bx.other (m := w0.heap.size) (j := 7) (by omega) (.slice ra (B2.es ++ [d2]).length rc)
          replace hO9 := hO9.other (m := w0.heap.size) (j := 7) (by omega) (.slice ra (B2.es ++ [d2]).length rc)
          replace HC := ap_new HC (n := w0.heap.size) (j := 7) (by omega) (.slice ra (B2.es ++ [d2]).length rc)
          replace HR := HR.set (m := w0.heap.size) (j := 7) (by omega) (.slice ra (B2.es ++ [d2]).length rc)
          have bb9 := bb9.set (j := 7) (by simp) (.slice ra (B2.es ++ [d2]).length rc)
          clear bb bb1 hrun c0 c1 c2 c3 c4 c5 c6 be hO
          have hO := hO9
          have bb := bb9
          generalize w9.setCell ⟨w0.heap.size, 7, none⟩ (.slice ra (B2.es ++ [d2]).length rc) = W11 at *
          go_wp2_with fail
          refine hQ.out _ _ _ _ _ _ _ _ _ _ _ _ _ _ _ _ _ _ _ _ _ _ _ _ _ _ _ _ _ _ _ _ _ _ _ _ _ _ _ _ _ _ _ _ _ _ _ _ _ _ _ _ _ _ _ _ _ _ _ _ _ _ _ _ _ _ _ _ _ _ _ _ _ _ _ _ _ _ _ _ _ _ _ _ _ _ _ _ _ _ _ _ _ _ _ _ _ _ _ _ _ _ _ _ _ _ _ _ _ _ _ _ _ _ _ _ _ _ _ _ _ _ _ _ _ _ _ _ _ _ _ _ _ _ _ _ _ _ _ _ _ _ _ _ _ _ _ _ _ _ _ _ _ _ _ _ _ _ _ _ _ _ _ _ _ _ _ _ _ _ _ _ _ _ _ _ _ _ _ _ _ _ _ _ _ _ _ _ _ _ _ _ _ _ _ _ _ _ _ _ _ _ _ _ _ _ _ _ _ _ _ _ _ _ _ _ _ _ _ _ _ _ _ _ _ _ _ _ _ _ _ _ _ _ _ _ _ _ _ _ _ ?_
          exact ⟨Spl.mk ⟨B2.ad, B2.ln, B2.ow, B2.lo, B2.hi, B2.nw, B2.ds, (B2.es ++ [d2])⟩ bb hO (by simp) (by simp) (by simp; omega) (by simp; omega) (show (-1000000 : Int) ≤ B2.ad by omega) (show B2.ad ≤ (1000000 : Int) by omega), bx, HC, HR.le (by omega)⟩
    · have y1 := bb.1.2
      clear y1
      have y1 := bb.1.2
      go_wp2_with fail
      refine hQ.out _ _ _ _ _ _ _ _ _ _ _ _ _ _ _ _ _ _ _ _ _ _ _ _ _ _ _ _ _ _ _ _ _ _ _ _ _ _ _ _ _ _ _ _ _ _ _ _ _ _ _ _ _ _ _ _ _ _ _ _ _ _ _ _ _ _ _ _ _ _ _ _ _ _ _ _ _ _ _ _ _ _ _ _ _ _ _ _ _ _ _ _ _ _ _ _ _ _ _ _ _ _ _ _ _ _ _ _ _ _ _ _ _ _ _ _ _ _ _ _ _ _ _ _ _ _ _ _ _ _ _ _ _ _ _ _ _ _ _ _ _ _ _ _ _ _ _ _ _ _ _ _ _ _ _ _ _ _ _ _ _ _ _ _ _ _ _ _ _ _ _ _ _ _ _ _ _ _ _ _ _ _ _ _ _ _ _ _ _ _ _ _ _ _ _ _ _ _ _ _ _ _ _ _ _ _ _ _ _ _ _ _ _ _ _ _ _ _ _ _ _ _ _ _ _ _ _ _ _ _ _ _ _ _ _ _ _ _ _ _ _ ?_
      exact ⟨Spl.mk ⟨B.ad, B.ln, B.ow, B.lo, B.hi, B.nw, B.ds, B.es⟩ bb hO (by simp) (by simp) (by simp; omega) (by simp; omega) (show (-1000000 : Int) ≤ B.ad by omega) (show B.ad ≤ (1000000 : Int) by omega), bx, HC, HR.le (by omega)⟩
  have hq10 : (r == 10) = false := by simpa using h0
  clear h0
  obtain ⟨i0, hi0, hz0, hz1, hz2⟩ := info_parts infoEn
  go_wp2_with fail
  refine (pick_rb R _ 2 _ HR (by omega) (by omega) (by omega)).mono ?_
  rintro e w4 ⟨⟨r5, rfl, x0, x1⟩, ha, hr⟩
  replace bb := bb.apart ha (by omega)
  replace bx := bx.apart ha (by omega)
  replace hO := hO.apart ha (by omega)
  replace HC := ap_trans HC ha
  replace HR := hr.le (show _ ≤ N + 1 by omega)
  clear ha hr
  have hw16 : IntKind.i64.wrap (16 + r5) = 16 + r5 := wrap_of _ (by omega) (by omega)
  go_wp2_with fail
  go_loopg [] (200 - B.es.length) (fun g wr => ∃ (es : List En) (ua : Option Addr) (uc el : Nat), el = es.length ∧ g = 200 - el ∧ el ≤ 100 ∧ Bx wr w0.heap.size #[.int .i64 B.ad, .int .i64 B.ln, .int .i64 B.ow, .int .i64 B.lo, .int .i64 B.hi, .slice va B.ds.length vc, .int .i64 B.nw, .slice ua el uc] ∧ OwnB wr base (.slice va B.ds.length vc) B.ds (.slice ua el uc) es ∧ Bx wr (w0.heap.size + 1) #[.int .i64 0, .int .i64 0, .int .i64 0, .int .i64 0, .int .i64 0, .slice none 0 0, .int .i64 0, .slice none 0 0] ∧ Apart R w0 wr ∧ Rb wr R (N + 1))
  case atStart => exact ⟨B.es, ua, uc, B.es.length, rfl, rfl, by omega, bb, hO, bx, HC, HR⟩
  case round =>
    clear bb bx hO HC HR
    obtain ⟨es, ua, uc, el, rfl, hges, hle, bb, hO, bx, HC, HR⟩ := hrel
    have y1 := bb.1.2
    by_cases hlt : (es.length : Int) < 16 + r5
    · have hBl := bl_alloc (bl_refl wr) (.cells #[.int .i64 7, .int .i64 (53248 + (es.length : Int)), .int .i64 1, .int .i64 B.lo, .int .i64 B.ad, .int .i64 1, .int .i64 B.nw] 52)
      have be := Box.new wr #[.int .i64 7, .int .i64 (53248 + (es.length : Int)), .int .i64 1, .int .i64 B.lo, .int .i64 B.ad, .int .i64 1, .int .i64 B.nw] 52
      replace bb := bb.below hBl
      replace bx := bx.below hBl
      replace hO := hO.below hBl
      replace HC := ap_trans HC (ap_of_bl hBl)
      replace HR := HR.below hBl
      clear hBl
      have hbx1 := bx.1.1
      simp only [World.size_alloc] at hbx1
      have hT := takes_boxE (d := ⟨7, 53248 + (es.length : Int), 1, B.lo, B.ad, 1, B.nw⟩) be
      go_wp2_with (first
        | (at_builtin; refine wpList_append_any _ 46 rfl rfl _ _ 24 rfl base 52 i0 (.agg #[.int .i64 0, .int .i64 0, .int .i64 0, .int .i64 0, .int .i64 0, .int .i64 0, .int .i64 0]) 7 56 Tryz.underlying24 hi0 hz0 hz1 hz2 rfl (by decide) _ _ _ rfl hO.2.1 _ _ _ rfl hT (by unfold maxLen; omega) (by omega) (by simp; omega) ?_; intro v' w9 own2 hg9; obtain ⟨xa, xc, rfl, hO9⟩ := hO.more own2 hg9; have hgb : ∀ k, (Value.slice ua es.length uc).ownBlock = some k → base ≤ k := fun k hk => (hO.2.1.lt k hk).1; replace bb := bb.far hg9 (fun k hk => by have := hgb k hk; omega); obtain ⟨⟨q1, q2⟩, q3⟩ := id bb))
      replace bx := bx.far hg9 (fun k hk => by have := hgb k hk; omega)
      replace HC := ap_grown HC hg9 (fun k hk => by have := hgb k hk; omega)
      replace HR := HR.grown hg9 (fun k hk => by have := hgb k hk; omega)
      clear hgb hg9 own2 hO be hT q1 q2 q3
      have hl9 : (es ++ [(⟨7, 53248 + (es.length : Int), 1, B.lo, B.ad, 1, B.nw⟩ : En)]).length = es.length + 1 := by simp
      rw [hl9] at hO9
      go_roundg (200 - (es.length + 1))
      case measure => omega
      case rel => exact ⟨es ++ [⟨7, 53248 + (es.length : Int), 1, B.lo, B.ad, 1, B.nw⟩], xa, xc, es.length + 1, by simp, rfl, by omega, bb.set (j := 7) (by simp) (.slice xa (es.length + 1) xc), hO9.other (m := w0.heap.size) (j := 7) (by omega) (.slice xa (es.length + 1) xc), bx.other (m := w0.heap.size) (j := 7) (by omega) (.slice xa (es.length + 1) xc), ap_new HC (n := w0.heap.size) (j := 7) (by omega) (.slice xa (es.length + 1) xc), HR.set (m := w0.heap.size) (j := 7) (by omega) (.slice xa (es.length + 1) xc)⟩
    · go_wp2_with fail
      refine hQ.out _ _ _ _ _ _ _ _ _ _ _ _ _ _ _ _ _ _ _ _ _ _ _ _ _ _ _ _ _ _ _ _ _ _ _ _ _ _ _ _ _ _ _ _ _ _ _ _ _ _ _ _ _ _ _ _ _ _ _ _ _ _ _ _ _ _ _ _ _ _ _ _ _ _ _ _ _ _ _ _ _ _ _ _ _ _ _ _ _ _ _ _ _ _ _ _ _ _ _ _ _ _ _ _ _ _ _ _ _ _ _ _ _ _ _ _ _ _ _ _ _ _ _ _ _ _ _ _ _ _ _ _ _ _ _ _ _ _ _ _ _ _ _ _ _ _ _ _ _ _ _ _ _ _ _ _ _ _ _ _ _ _ _ _ _ _ _ _ _ _ _ _ _ _ _ _ _ _ _ _ _ _ _ _ _ _ _ _ _ _ _ _ _ _ _ _ _ _ _ _ _ _ _ _ _ _ _ _ _ _ _ _ _ _ _ _ _ _ _ _ _ _ _ _ _ _ _ _ _ _ _ _ _ _ _ _ _ _ _ _ _ ?_
      exact ⟨Spl.mk ⟨B.ad, B.ln, B.ow, B.lo, B.hi, B.nw, B.ds, es⟩ bb hO (by simp) (by simp) (by simp; omega) (by simp; omega) (show (-1000000 : Int) ≤ B.ad by omega) (show B.ad ≤ (1000000 : Int) by omega), bx, HC, HR.le (by omega)⟩
set_option maxRecDepth 20000 in
set_option maxHeartbeats 8000000 in
theorem spoil_6 {Q : Exit → Act → World → Prop} {s1 s2 s7 s8 s9 s10 s11 s12 s13 s14 s15 s16 s17 s18 s19 s20 s21 s22 s24 s25 s26 s27 s28 s29 s30 s31 s32 s33 s34 s35 s36 s37 s38 s39 s40 s41 s42 s43 s44 s45 s46 s47 s48 s49 s50 s51 s52 s53 s54 s55 s56 s57 s58 s59 s60 s61 s62 s63 s64 s65 s66 s67 s68 s69 s70 s71 s72 s73 s74 s75 s76 s77 s78 s79 s80 s81 s82 s83 s84 s85 s86 s87 s88 s89 s90 s91 s92 s93 s94 s95 s96 s97 s98 s99 s100 s101 s102 s103 s104 s105 s107 s108 s109 s110 s111 s112 s113 s114 s115 s116 s117 s118 s119 s120 s121 s122 s123 s124 s125 s126 s127 s128 s129 s130 s131 s132 s133 s134 s135 s136 s137 s138 s139 s140 s141 s142 s143 s144 s145 s146 s147 s148 s149 s150 s151 s152 s153 s154 s155 s156 s157 s158 s159 s160 s161 s162 s163 s164 s165 s166 s167 s168 s169 s170 s171 s172 s173 s174 s175 s176 s177 s178 s179 s180 s181 s182 s183 s184 s185 s186 s187 s188 s189 s190 s191 s192 s193 s194 s195 s196 s197 s198 s199 s200 s201 s202 s203 s204 s205 s206 s207 s208 s209 s210 s211 s212 s213 s214 s215 s216 s217 s218 s219 s220 s221 s222 s223 s224 s225 s226 s227 s228 s229 s230 s231 s232 s233 s234 s235 s236 s237 s238 s239 s240 s241 s242 s243 s244 s245 s246 s247 s248 s249 s250 s251 s252 s253 s254 s255 s256 s257 s258 s259 s260 s261 s262 : Value} (R : Nat) (n : Int) (w0 : World) (B : Bk) (va : Option Addr) (vc : Nat) (ua : Option Addr) (uc base : Nat) (wc : World) (dd de r N : Int) (hn : n ≤ 800000000) (hR : R < w0.heap.size) (a0 : -999999 ≤ B.ad) (a1 : B.ad ≤ 999999) (hdn : B.ds.length ≤ 100) (hen : B.es.length ≤ 100) (hnbx : base = w0.heap.size + 2) (d0 : 0 ≤ dd) (d1 : dd < B.ds.length + 1) (e0 : 0 ≤ de) (e1 : de < B.es.length + 1) (r0 : 0 ≤ r) (r1 : r < 12) (hN : N = n + 10) (HR : Rb wc R N) (bb : Bx wc w0.heap.size #[.int .i64 B.ad, .int .i64 B.ln, .int .i64 B.ow, .int .i64 B.lo, .int .i64 B.hi, .slice va B.ds.length vc, .int .i64 B.nw, .slice ua B.es.length uc]) (bx : Bx wc (w0.heap.size + 1) #[.int .i64 0, .int .i64 0, .int .i64 0, .int .i64 0, .int .i64 0, .slice none 0 0, .int .i64 0, .slice none 0 0]) (hO : OwnB wc base (.slice va B.ds.length vc) B.ds (.slice ua B.es.length uc) B.es) (HC : Apart R w0 wc)
    (hQ : Hid (∀ (t7 t24 t25 t26 t27 t28 t29 t30 t31 t32 t33 t34 t35 t36 t37 t38 t39 t40 t41 t42 t43 t44 t45 t46 t47 t48 t49 t50 t51 t52 t53 t54 t55 t56 t57 t58 t59 t60 t61 t62 t63 t64 t65 t66 t67 t68 t69 t70 t71 t72 t73 t74 t75 t76 t77 t78 t79 t80 t81 t82 t83 t84 t85 t86 t87 t88 t89 t90 t91 t92 t93 t94 t95 t96 t97 t98 t99 t100 t101 t102 t103 t104 t105 t106 t107 t108 t109 t110 t111 t112 t113 t114 t115 t116 t117 t118 t119 t120 t121 t122 t123 t124 t125 t126 t127 t128 t129 t130 t131 t132 t133 t134 t135 t136 t137 t138 t139 t140 t141 t142 t143 t144 t145 t146 t147 t148 t149 t150 t151 t152 t153 t154 t155 t156 t157 t158 t159 t160 t161 t162 t163 t164 t165 t166 t167 t168 t169 t170 t171 t172 t173 t174 t175 t176 t177 t178 t179 t180 t181 t182 t183 t184 t185 t186 t187 t188 t189 t190 t191 t192 t193 t194 t195 t196 t197 t198 t199 t200 t201 t202 t203 t204 t205 t206 t207 t208 t209 t210 t211 t212 t213 t214 t215 t216 t217 t218 t219 t220 t221 t222 t223 t224 t225 t226 t227 t228 t229 t230 t231 t232 t233 t234 t235 t236 t237 t238 t239 t240 t241 t242 t243 t244 t245 t246 t247 t248 t249 t250 t251 t252 t253 t254 t255 t256 t257 t258 t259 t260 t261 t262 : Value) (w' : World), (Spl w' base w0.heap.size ∧ Bx w' (w0.heap.size + 1) #[.int .i64 0, .int .i64 0, .int .i64 0, .int .i64 0, .int .i64 0, .slice none 0 0, .int .i64 0, .slice none 0 0] ∧ Apart R w0 w' ∧ Rb w' R (n + 900)) → Q .normal ⟨List.toArray (.pointer (some ⟨R, 0, none⟩) :: s1 :: s2 :: .pointer (some ⟨w0.heap.size, 0, none⟩) :: .pointer (some ⟨w0.heap.size + 1, 0, none⟩) :: .int .i64 dd :: .int .i64 de :: t7 :: s8 :: s9 :: s10 :: s11 :: s12 :: s13 :: s14 :: s15 :: s16 :: s17 :: s18 :: s19 :: s20 :: s21 :: s22 :: .int .i64 r :: t24 :: t25 :: t26 :: t27 :: t28 :: t29 :: t30 :: t31 :: t32 :: t33 :: t34 :: t35 :: t36 :: t37 :: t38 :: t39 :: t40 :: t41 :: t42 :: t43 :: t44 :: t45 :: t46 :: t47 :: t48 :: t49 :: t50 :: t51 :: t52 :: t53 :: t54 :: t55 :: t56 :: t57 :: t58 :: t59 :: t60 :: t61 :: t62 :: t63 :: t64 :: t65 :: t66 :: t67 :: t68 :: t69 :: t70 :: t71 :: t72 :: t73 :: t74 :: t75 :: t76 :: t77 :: t78 :: t79 :: t80 :: t81 :: t82 :: t83 :: t84 :: t85 :: t86 :: t87 :: t88 :: t89 :: t90 :: t91 :: t92 :: t93 :: t94 :: t95 :: t96 :: t97 :: t98 :: t99 :: t100 :: t101 :: t102 :: t103 :: t104 :: t105 :: t106 :: t107 :: t108 :: t109 :: t110 :: t111 :: t112 :: t113 :: t114 :: t115 :: t116 :: t117 :: t118 :: t119 :: t120 :: t121 :: t122 :: t123 :: t124 :: t125 :: t126 :: t127 :: t128 :: t129 :: t130 :: t131 :: t132 :: t133 :: t134 :: t135 :: t136 :: t137 :: t138 :: t139 :: t140 :: t141 :: t142 :: t143 :: t144 :: t145 :: t146 :: t147 :: t148 :: t149 :: t150 :: t151 :: t152 :: t153 :: t154 :: t155 :: t156 :: t157 :: t158 :: t159 :: t160 :: t161 :: t162 :: t163 :: t164 :: t165 :: t166 :: t167 :: t168 :: t169 :: t170 :: t171 :: t172 :: t173 :: t174 :: t175 :: t176 :: t177 :: t178 :: t179 :: t180 :: t181 :: t182 :: t183 :: t184 :: t185 :: t186 :: t187 :: t188 :: t189 :: t190 :: t191 :: t192 :: t193 :: t194 :: t195 :: t196 :: t197 :: t198 :: t199 :: t200 :: t201 :: t202 :: t203 :: t204 :: t205 :: t206 :: t207 :: t208 :: t209 :: t210 :: t211 :: t212 :: t213 :: t214 :: t215 :: t216 :: t217 :: t218 :: t219 :: t220 :: t221 :: t222 :: t223 :: t224 :: t225 :: t226 :: t227 :: t228 :: t229 :: t230 :: t231 :: t232 :: t233 :: t234 :: t235 :: t236 :: t237 :: t238 :: t239 :: t240 :: t241 :: t242 :: t243 :: t244 :: t245 :: t246 :: t247 :: t248 :: t249 :: t250 :: t251 :: t252 :: t253 :: t254 :: t255 :: t256 :: t257 :: t258 :: t259 :: t260 :: t261 :: t262 :: []), []⟩ w')) : Code.wp Tryz.prog (sndOf (elseOf (elseOf (elseOf (elseOf (elseOf (swOf))))))) Q ⟨List.toArray (.pointer (some ⟨R, 0, none⟩) :: s1 :: s2 :: .pointer (some ⟨w0.heap.size, 0, none⟩) :: .pointer (some ⟨w0.heap.size + 1, 0, none⟩) :: .int .i64 dd :: .int .i64 de :: s7 :: s8 :: s9 :: s10 :: s11 :: s12 :: s13 :: s14 :: s15 :: s16 :: s17 :: s18 :: s19 :: s20 :: s21 :: s22 :: .int .i64 r :: s24 :: s25 :: s26 :: s27 :: s28 :: s29 :: s30 :: s31 :: s32 :: s33 :: s34 :: s35 :: s36 :: s37 :: s38 :: s39 :: s40 :: s41 :: s42 :: s43 :: s44 :: s45 :: s46 :: s47 :: s48 :: s49 :: s50 :: s51 :: s52 :: s53 :: s54 :: s55 :: s56 :: s57 :: s58 :: s59 :: s60 :: s61 :: s62 :: s63 :: s64 :: s65 :: s66 :: s67 :: s68 :: s69 :: s70 :: s71 :: s72 :: s73 :: s74 :: s75 :: s76 :: s77 :: s78 :: s79 :: s80 :: s81 :: s82 :: s83 :: s84 :: s85 :: s86 :: s87 :: s88 :: s89 :: s90 :: s91 :: s92 :: s93 :: s94 :: s95 :: s96 :: s97 :: s98 :: s99 :: s100 :: s101 :: s102 :: s103 :: s104 :: s105 :: .bool false :: s107 :: s108 :: s109 :: s110 :: s111 :: s112 :: s113 :: s114 :: s115 :: s116 :: s117 :: s118 :: s119 :: s120 :: s121 :: s122 :: s123 :: s124 :: s125 :: s126 :: s127 :: s128 :: s129 :: s130 :: s131 :: s132 :: s133 :: s134 :: s135 :: s136 :: s137 :: s138 :: s139 :: s140 :: s141 :: s142 :: s143 :: s144 :: s145 :: s146 :: s147 :: s148 :: s149 :: s150 :: s151 :: s152 :: s153 :: s154 :: s155 :: s156 :: s157 :: s158 :: s159 :: s160 :: s161 :: s162 :: s163 :: s164 :: s165 :: s166 :: s167 :: s168 :: s169 :: s170 :: s171 :: s172 :: s173 :: s174 :: s175 :: s176 :: s177 :: s178 :: s179 :: s180 :: s181 :: s182 :: s183 :: s184 :: s185 :: s186 :: s187 :: s188 :: s189 :: s190 :: s191 :: s192 :: s193 :: s194 :: s195 :: s196 :: s197 :: s198 :: s199 :: s200 :: s201 :: s202 :: s203 :: s204 :: s205 :: s206 :: s207 :: s208 :: s209 :: s210 :: s211 :: s212 :: s213 :: s214 :: s215 :: s216 :: s217 :: s218 :: s219 :: s220 :: s221 :: s222 :: s223 :: s224 :: s225 :: s226 :: s227 :: s228 :: s229 :: s230 :: s231 :: s232 :: s233 :: s234 :: s235 :: s236 :: s237 :: s238 :: s239 :: s240 :: s241 :: s242 :: s243 :: s244 :: s245 :: s246 :: s247 :: s248 :: s249 :: s250 :: s251 :: s252 :: s253 :: s254 :: s255 :: s256 :: s257 :: s258 :: s259 :: s260 :: s261 :: s262 :: []), []⟩ wc := by
  conv => arg 2; whnf
  go_upto_region 20 with fail
  by_cases h0 : r = 6
  · have hq : (r == 6) = true := by simpa using h0
    clear h0
    by_cases hlt : dd < (B.ds.length : Int)
    · obtain ⟨g, cap, hv, hg0, hg1, hg2, hg3⟩ := own_form hO.1 (by omega)
      simp only [Value.slice.injEq] at hv
      obtain ⟨rfl, -, rfl⟩ := hv
      obtain ⟨d, hdd⟩ : ∃ d, B.ds[dd.toNat]? = some d := ⟨B.ds[dd.toNat]'(by omega), by simp⟩
      have hdd : Hid (B.ds[dd.toNat]? = some d) := hdd
      have y1 := bb.1.2
      go_upto_region 22 with fail
      clear y1
      have hM : ∀ w w', (MS w0.heap.size base #[.int .i64 B.ad, .int .i64 B.ln, .int .i64 B.ow, .int .i64 B.lo, .int .i64 B.hi, .slice (some ⟨g, 0, none⟩) B.ds.length vc, .int .i64 B.nw, .slice ua B.es.length uc] (.slice (some ⟨g, 0, none⟩) B.ds.length vc) B.ds (.slice ua B.es.length uc) B.es) w → Apart R w w' → (MS w0.heap.size base #[.int .i64 B.ad, .int .i64 B.ln, .int .i64 B.ow, .int .i64 B.lo, .int .i64 B.hi, .slice (some ⟨g, 0, none⟩) B.ds.length vc, .int .i64 B.nw, .slice ua B.es.length uc] (.slice (some ⟨g, 0, none⟩) B.ds.length vc) B.ds (.slice ua B.es.length uc) B.es) w' := fun w w' h ha => h.apart ha (by omega) (by omega)
      refine region_last [127, 128, 129, 130, 131, 132, 133, 134, 135, 136, 137, 138, 139, 140, 141, 142, 143, 144, 100018] 18 (FSp22 R w0.heap.size B (some ⟨g, 0, none⟩) vc g dd) (JS R wc N (MS w0.heap.size base #[.int .i64 B.ad, .int .i64 B.ln, .int .i64 B.ow, .int .i64 B.lo, .int .i64 B.hi, .slice (some ⟨g, 0, none⟩) B.ds.length vc, .int .i64 B.nw, .slice ua B.es.length uc] (.slice (some ⟨g, 0, none⟩) B.ds.length vc) B.ds (.slice ua B.es.length uc) B.es)) (Apart R) (by as_aux_lemma => kernel_rfl) (by as_aux_lemma => kernel_rfl) (by decide) (by as_aux_lemma => kernel_rfl) (by as_aux_lemma => kernel_rfl) _ rfl ?_ (JS.zero HR ⟨bb, hO⟩ hM) ?_ ?_
      · intro i v w w' hR h
        rcases i with _ | _ | _ | _ | _ | _ | _ | _ | _ | _ | _ | _ | _ | _ | _ | _ | _ | _ | _ | i
        all_goals first
          | exact h
          | exact IntsL.apart h hR
          | exact IntAt.apart h hR
      · refine all_lt_succ (all_lt_succ (all_lt_succ (all_lt_succ (all_lt_succ (all_lt_succ (all_lt_succ (all_lt_succ (all_lt_succ (all_lt_succ (all_lt_succ (all_lt_succ (all_lt_succ (all_lt_succ (all_lt_succ (all_lt_succ (all_lt_succ (all_lt_succ (all_lt_zero _) ?_) ?_) ?_) ?_) ?_) ?_) ?_) ?_) ?_) ?_) ?_) ?_) ?_) ?_) ?_) ?_) ?_) ?_
        all_goals (refine stepOk_at _ rfl ?_; intro vs w c hv hc hJ hdep K hK; have hc : c < 19 := hc; obtain ⟨v0, v1, v2, v3, v4, v5, v6, v7, v8, v9, v10, v11, v12, v13, v14, v15, v16, v17, v18, rfl⟩ := len19 hv; have dr := fun v h => hK.out v w (ap_refl _ _) hJ.next h)
        · exact mid_val _ w (by as_aux_lemma => kernel_rfl) (by as_aux_lemma => kernel_rfl) (dr _ rfl)
        · obtain rfl := dep hdep 0 (by as_aux_lemma => kernel_rfl)
          exact mid_ld (by as_aux_lemma => kernel_rfl) (by as_aux_lemma => kernel_rfl) (ld_doors (hJ.2.2.1.1.2 5)) (dr _ rfl)
        · exact mid_val _ w (by as_aux_lemma => kernel_rfl) (by as_aux_lemma => kernel_rfl) (dr _ rfl)
        · exact mid_val _ w (by as_aux_lemma => kernel_rfl) (by as_aux_lemma => kernel_rfl) (dr _ rfl)
        · obtain rfl := dep hdep 3 (by as_aux_lemma => kernel_rfl)
          exact mid_ld (by as_aux_lemma => kernel_rfl) (by as_aux_lemma => kernel_rfl) (ld_int (hJ.2.2.1.1.2 3)) (dr _ ⟨_, rfl, trivial⟩)
        · exact mid_val _ w (by as_aux_lemma => kernel_rfl) (by as_aux_lemma => kernel_rfl) (dr _ rfl)
        · obtain rfl := dep hdep 5 (by as_aux_lemma => kernel_rfl)
          exact mid_ld (by as_aux_lemma => kernel_rfl) (by as_aux_lemma => kernel_rfl) (ld_int (hJ.2.2.1.1.2 3)) (dr _ ⟨_, rfl, trivial⟩)
        · obtain ⟨x, rfl, hx⟩ := dep hdep 6 (by as_aux_lemma => kernel_rfl)
          exact mid_val (.int .i64 (IntKind.i64.wrap (x - 1))) w (by as_aux_lemma => kernel_rfl) (by as_aux_lemma => kernel_rfl) (dr _ ⟨_, rfl, trivial⟩)
        · exact mid_val _ w (by as_aux_lemma => kernel_rfl) (by as_aux_lemma => kernel_rfl) (dr _ rfl)
        · obtain rfl := dep hdep 8 (by as_aux_lemma => kernel_rfl)
          exact mid_ld (by as_aux_lemma => kernel_rfl) (by as_aux_lemma => kernel_rfl) (ld_int (hJ.2.2.1.1.2 4)) (dr _ ⟨_, rfl, trivial⟩)
        · obtain ⟨x, rfl, hx⟩ := dep hdep 9 (by as_aux_lemma => kernel_rfl)
          exact mid_val (.int .i64 (IntKind.i64.wrap (x + 1))) w (by as_aux_lemma => kernel_rfl) (by as_aux_lemma => kernel_rfl) (dr _ ⟨_, rfl, trivial⟩)
        · obtain ⟨y1, rfl, h1⟩ := dep hdep 4 (by as_aux_lemma => kernel_rfl)
          obtain ⟨y2, rfl, h2⟩ := dep hdep 7 (by as_aux_lemma => kernel_rfl)
          obtain ⟨y3, rfl, h3⟩ := dep hdep 10 (by as_aux_lemma => kernel_rfl)
          exact mid_val (.slice (some ⟨w.heap.size, 0, none⟩) 6 6) (w.alloc (.cells (ofI [0, y1, y2, y3, 65535, 65536]) 3)) (by as_aux_lemma => kernel_rfl) (by as_aux_lemma => kernel_rfl) (hK.out _ _ (ap_alloc (ap_refl _ _) _) (hJ.more hM _) (ints_new [0, y1, y2, y3, 65535, 65536] hJ.2.1.lt (fa trivial (fa trivial (fa trivial (fa trivial (fa trivial (fa trivial fn))))))))
        · exact mid_val _ w (by as_aux_lemma => kernel_rfl) (by as_aux_lemma => kernel_rfl) (dr _ rfl)
        · obtain rfl := dep hdep 12 (by as_aux_lemma => kernel_rfl)
          exact mid_pick R 6 hJ.2.1 (by omega) (by omega) (by omega) (by as_aux_lemma => kernel_rfl) (by as_aux_lemma => kernel_rfl) fun v w' h ha hr => hK.out v w' ha (hJ.far hM ha hr) h
        · obtain ⟨n, rfl, hn, hl, hc⟩ := dep hdep 11 (by as_aux_lemma => kernel_rfl)
          obtain ⟨r, rfl, r0, r1⟩ := dep hdep 13 (by as_aux_lemma => kernel_rfl)
          exact mid_ix hc hn hl r0 (by omega) (by as_aux_lemma => kernel_rfl) (by as_aux_lemma => kernel_rfl) fun v h => dr v h
        · obtain ⟨n, j, x, rfl, hn, hl, hc, hx⟩ := dep hdep 14 (by as_aux_lemma => kernel_rfl)
          exact mid_ld (by as_aux_lemma => kernel_rfl) (by as_aux_lemma => kernel_rfl) (ld_int hc) (dr _ ⟨x, rfl, hx⟩)
        · obtain rfl := dep hdep 1 (by as_aux_lemma => kernel_rfl)
          obtain rfl := dep hdep 2 (by as_aux_lemma => kernel_rfl)
          exact mid_sem (ixSemT 23 g B.ds.length vc dd) (by as_aux_lemma => kernel_rfl) (by as_aux_lemma => kernel_rfl) (ixd_ok (by omega) (by omega)) (dr _ rfl)
        · obtain rfl := dep hdep 16 (by as_aux_lemma => kernel_rfl)
          exact mid_val (.pointer (some ⟨g, dd.toNat * 4 + 1, none⟩)) w (by as_aux_lemma => kernel_rfl) (by as_aux_lemma => kernel_rfl) (dr _ rfl)
      · intro vs w hv hJ hall
        obtain ⟨v0, v1, v2, v3, v4, v5, v6, v7, v8, v9, v10, v11, v12, v13, v14, v15, v16, v17, v18, rfl⟩ := len19 hv
        obtain ⟨x, rfl, -⟩ := hall 15 (by decide)
        obtain rfl := hall 17 (by decide)
        obtain ⟨HC3, HR3, bb3, hO3⟩ := hJ
        clear hall hv
        replace bx := bx.apart HC3 (by omega)
        replace HC := ap_trans HC HC3
        obtain ⟨u, hu⟩ := (row_of_own hO3.1).1.cell (j := dd.toNat * 4 + 1) (by omega)
        have hfz := (row_of_own hO3.1).1.frozen
        have hgb := hO3.1.lt g rfl
        refine mid_stc (t' := (List.toArray (.pointer (some ⟨R, 0, none⟩) :: s1 :: s2 :: .pointer (some ⟨w0.heap.size, 0, none⟩) :: .pointer (some ⟨w0.heap.size + 1, 0, none⟩) :: .int .i64 dd :: .int .i64 de :: s7 :: s8 :: s9 :: s10 :: s11 :: s12 :: s13 :: s14 :: s15 :: s16 :: s17 :: s18 :: s19 :: s20 :: s21 :: s22 :: .int .i64 r :: s24 :: s25 :: s26 :: s27 :: s28 :: s29 :: s30 :: s31 :: s32 :: s33 :: s34 :: s35 :: s36 :: s37 :: s38 :: s39 :: s40 :: s41 :: s42 :: s43 :: s44 :: s45 :: s46 :: s47 :: s48 :: s49 :: s50 :: s51 :: s52 :: s53 :: s54 :: s55 :: s56 :: s57 :: s58 :: s59 :: s60 :: s61 :: s62 :: s63 :: s64 :: s65 :: s66 :: s67 :: s68 :: s69 :: s70 :: s71 :: s72 :: s73 :: s74 :: s75 :: s76 :: s77 :: s78 :: s79 :: s80 :: s81 :: s82 :: s83 :: s84 :: s85 :: s86 :: s87 :: s88 :: s89 :: s90 :: s91 :: s92 :: s93 :: s94 :: s95 :: s96 :: s97 :: s98 :: s99 :: s100 :: s101 :: s102 :: s103 :: s104 :: s105 :: .bool false :: s107 :: s108 :: s109 :: s110 :: s111 :: s112 :: s113 :: s114 :: s115 :: s116 :: s117 :: s118 :: s119 :: .bool true :: .bool true :: .int .i64 dd :: .pointer (some ⟨w0.heap.size, 5, none⟩) :: .slice (some ⟨g, 0, none⟩) B.ds.length vc :: .int .i64 B.ds.length :: .bool true :: v0 :: v1 :: v2 :: v3 :: v4 :: v5 :: v6 :: v7 :: v8 :: v9 :: v10 :: v11 :: v12 :: v13 :: v14 :: .int .i64 x :: v16 :: .pointer (some ⟨g, dd.toNat * 4 + 1, none⟩) :: s145 :: s146 :: s147 :: s148 :: s149 :: s150 :: s151 :: s152 :: s153 :: s154 :: s155 :: s156 :: s157 :: s158 :: s159 :: s160 :: s161 :: s162 :: s163 :: s164 :: s165 :: s166 :: s167 :: s168 :: s169 :: s170 :: s171 :: s172 :: s173 :: s174 :: s175 :: s176 :: s177 :: s178 :: s179 :: s180 :: s181 :: s182 :: s183 :: s184 :: s185 :: s186 :: s187 :: s188 :: s189 :: s190 :: s191 :: s192 :: s193 :: s194 :: s195 :: s196 :: s197 :: s198 :: s199 :: s200 :: s201 :: s202 :: s203 :: s204 :: s205 :: s206 :: s207 :: s208 :: s209 :: s210 :: s211 :: s212 :: s213 :: s214 :: s215 :: s216 :: s217 :: s218 :: s219 :: s220 :: s221 :: s222 :: s223 :: s224 :: s225 :: s226 :: s227 :: s228 :: s229 :: s230 :: s231 :: s232 :: s233 :: s234 :: s235 :: s236 :: s237 :: s238 :: s239 :: s240 :: s241 :: s242 :: s243 :: s244 :: s245 :: s246 :: s247 :: s248 :: s249 :: s250 :: s251 :: s252 :: s253 :: s254 :: s255 :: s256 :: s257 :: s258 :: s259 :: s260 :: s261 :: s262 :: []))) (stSem ⟨g, dd.toNat * 4 + 1, none⟩ x) (by as_aux_lemma => kernel_rfl) (by as_aux_lemma => kernel_rfl) (by as_aux_lemma => kernel_rfl) rfl (st_int hu (hfz _)) ?_
        have hO4 := hO3.setD hdd.out 1 (by omega) x
        have bb4 := bb3.other (m := g) (j := dd.toNat * 4 + 1) (by omega) (.int .i64 x)
        replace bx := bx.other (m := g) (j := dd.toNat * 4 + 1) (by omega) (.int .i64 x)
        replace HC := ap_new HC (n := g) (j := dd.toNat * 4 + 1) (by omega) (.int .i64 x)
        replace HR3 := HR3.set (m := g) (j := dd.toNat * 4 + 1) (by omega) (.int .i64 x)
        
        clear hu hfz bb3 HR hO bb hO3
        have hO := hO4
        have HR := HR3
        have bb := bb4
        clear hO4 HR3 bb4
        generalize w.setCell ⟨g, dd.toNat * 4 + 1, none⟩ (.int .i64 x) = W9 at *
        have y1 := bb.1.2
        go_wp2_with fail
        refine hQ.out _ _ _ _ _ _ _ _ _ _ _ _ _ _ _ _ _ _ _ _ _ _ _ _ _ _ _ _ _ _ _ _ _ _ _ _ _ _ _ _ _ _ _ _ _ _ _ _ _ _ _ _ _ _ _ _ _ _ _ _ _ _ _ _ _ _ _ _ _ _ _ _ _ _ _ _ _ _ _ _ _ _ _ _ _ _ _ _ _ _ _ _ _ _ _ _ _ _ _ _ _ _ _ _ _ _ _ _ _ _ _ _ _ _ _ _ _ _ _ _ _ _ _ _ _ _ _ _ _ _ _ _ _ _ _ _ _ _ _ _ _ _ _ _ _ _ _ _ _ _ _ _ _ _ _ _ _ _ _ _ _ _ _ _ _ _ _ _ _ _ _ _ _ _ _ _ _ _ _ _ _ _ _ _ _ _ _ _ _ _ _ _ _ _ _ _ _ _ _ _ _ _ _ _ _ _ _ _ _ _ _ _ _ _ _ _ _ _ _ _ _ _ _ _ _ _ _ _ _ _ _ _ _ _ _ _ _ _ _ _ _ ?_
        exact ⟨Spl.mk ⟨B.ad, B.ln, B.ow, B.lo, B.hi, B.nw, (B.ds.modify dd.toNat (setD 1 x)), B.es⟩ bb hO (by simp) (by simp) (by simp; omega) (by simp; omega) (show (-1000000 : Int) ≤ B.ad by omega) (show B.ad ≤ (1000000 : Int) by omega), bx, HC, HR.le (by omega)⟩
    · have y1 := bb.1.2
      clear y1
      have y1 := bb.1.2
      go_wp2_with fail
      refine hQ.out _ _ _ _ _ _ _ _ _ _ _ _ _ _ _ _ _ _ _ _ _ _ _ _ _ _ _ _ _ _ _ _ _ _ _ _ _ _ _ _ _ _ _ _ _ _ _ _ _ _ _ _ _ _ _ _ _ _ _ _ _ _ _ _ _ _ _ _ _ _ _ _ _ _ _ _ _ _ _ _ _ _ _ _ _ _ _ _ _ _ _ _ _ _ _ _ _ _ _ _ _ _ _ _ _ _ _ _ _ _ _ _ _ _ _ _ _ _ _ _ _ _ _ _ _ _ _ _ _ _ _ _ _ _ _ _ _ _ _ _ _ _ _ _ _ _ _ _ _ _ _ _ _ _ _ _ _ _ _ _ _ _ _ _ _ _ _ _ _ _ _ _ _ _ _ _ _ _ _ _ _ _ _ _ _ _ _ _ _ _ _ _ _ _ _ _ _ _ _ _ _ _ _ _ _ _ _ _ _ _ _ _ _ _ _ _ _ _ _ _ _ _ _ _ _ _ _ _ _ _ _ _ _ _ _ _ _ _ _ _ _ ?_
      exact ⟨Spl.mk ⟨B.ad, B.ln, B.ow, B.lo, B.hi, B.nw, B.ds, B.es⟩ bb hO (by simp) (by simp) (by simp; omega) (by simp; omega) (show (-1000000 : Int) ≤ B.ad by omega) (show B.ad ≤ (1000000 : Int) by omega), bx, HC, HR.le (by omega)⟩
  have hq6 : (r == 6) = false := by simpa using h0
  clear h0
  go_upto_region 23 with fail
  by_cases h0 : r = 7
  · have hq : (r == 7) = true := by simpa using h0
    clear h0
    by_cases hlt : dd < (B.ds.length : Int)
    · obtain ⟨g, cap, hv, hg0, hg1, hg2, hg3⟩ := own_form hO.1 (by omega)
      simp only [Value.slice.injEq] at hv
      obtain ⟨rfl, -, rfl⟩ := hv
      obtain ⟨d, hdd⟩ : ∃ d, B.ds[dd.toNat]? = some d := ⟨B.ds[dd.toNat]'(by omega), by simp⟩
      have hdd : Hid (B.ds[dd.toNat]? = some d) := hdd
      have y1 := bb.1.2
      go_upto_region 25 with fail
      clear y1
      have hM : ∀ w w', (MS w0.heap.size base #[.int .i64 B.ad, .int .i64 B.ln, .int .i64 B.ow, .int .i64 B.lo, .int .i64 B.hi, .slice (some ⟨g, 0, none⟩) B.ds.length vc, .int .i64 B.nw, .slice ua B.es.length uc] (.slice (some ⟨g, 0, none⟩) B.ds.length vc) B.ds (.slice ua B.es.length uc) B.es) w → Apart R w w' → (MS w0.heap.size base #[.int .i64 B.ad, .int .i64 B.ln, .int .i64 B.ow, .int .i64 B.lo, .int .i64 B.hi, .slice (some ⟨g, 0, none⟩) B.ds.length vc, .int .i64 B.nw, .slice ua B.es.length uc] (.slice (some ⟨g, 0, none⟩) B.ds.length vc) B.ds (.slice ua B.es.length uc) B.es) w' := fun w w' h ha => h.apart ha (by omega) (by omega)
      refine region_last [152, 153, 154, 155, 156, 157, 158, 159, 160, 161, 162, 163, 164, 165, 166, 167, 168, 100017] 17 (FSp25 R w0.heap.size B (some ⟨g, 0, none⟩) vc g dd) (JS R wc N (MS w0.heap.size base #[.int .i64 B.ad, .int .i64 B.ln, .int .i64 B.ow, .int .i64 B.lo, .int .i64 B.hi, .slice (some ⟨g, 0, none⟩) B.ds.length vc, .int .i64 B.nw, .slice ua B.es.length uc] (.slice (some ⟨g, 0, none⟩) B.ds.length vc) B.ds (.slice ua B.es.length uc) B.es)) (Apart R) (by as_aux_lemma => kernel_rfl) (by as_aux_lemma => kernel_rfl) (by decide) (by as_aux_lemma => kernel_rfl) (by as_aux_lemma => kernel_rfl) _ rfl ?_ (JS.zero HR ⟨bb, hO⟩ hM) ?_ ?_
      · intro i v w w' hR h
        rcases i with _ | _ | _ | _ | _ | _ | _ | _ | _ | _ | _ | _ | _ | _ | _ | _ | _ | _ | i
        all_goals first
          | exact h
          | exact IntsL.apart h hR
          | exact IntAt.apart h hR
      · refine all_lt_succ (all_lt_succ (all_lt_succ (all_lt_succ (all_lt_succ (all_lt_succ (all_lt_succ (all_lt_succ (all_lt_succ (all_lt_succ (all_lt_succ (all_lt_succ (all_lt_succ (all_lt_succ (all_lt_succ (all_lt_succ (all_lt_succ (all_lt_zero _) ?_) ?_) ?_) ?_) ?_) ?_) ?_) ?_) ?_) ?_) ?_) ?_) ?_) ?_) ?_) ?_) ?_
        all_goals (refine stepOk_at _ rfl ?_; intro vs w c hv hc hJ hdep K hK; have hc : c < 18 := hc; obtain ⟨v0, v1, v2, v3, v4, v5, v6, v7, v8, v9, v10, v11, v12, v13, v14, v15, v16, v17, rfl⟩ := len18 hv; have dr := fun v h => hK.out v w (ap_refl _ _) hJ.next h)
        · exact mid_val _ w (by as_aux_lemma => kernel_rfl) (by as_aux_lemma => kernel_rfl) (dr _ rfl)
        · obtain rfl := dep hdep 0 (by as_aux_lemma => kernel_rfl)
          exact mid_ld (by as_aux_lemma => kernel_rfl) (by as_aux_lemma => kernel_rfl) (ld_doors (hJ.2.2.1.1.2 5)) (dr _ rfl)
        · exact mid_val _ w (by as_aux_lemma => kernel_rfl) (by as_aux_lemma => kernel_rfl) (dr _ rfl)
        · exact mid_val _ w (by as_aux_lemma => kernel_rfl) (by as_aux_lemma => kernel_rfl) (dr _ rfl)
        · obtain rfl := dep hdep 3 (by as_aux_lemma => kernel_rfl)
          exact mid_ld (by as_aux_lemma => kernel_rfl) (by as_aux_lemma => kernel_rfl) (ld_int (hJ.2.2.1.1.2 0)) (dr _ ⟨_, rfl, trivial⟩)
        · exact mid_val _ w (by as_aux_lemma => kernel_rfl) (by as_aux_lemma => kernel_rfl) (dr _ rfl)
        · obtain rfl := dep hdep 5 (by as_aux_lemma => kernel_rfl)
          exact mid_ld (by as_aux_lemma => kernel_rfl) (by as_aux_lemma => kernel_rfl) (ld_int (hJ.2.2.1.1.2 0)) (dr _ ⟨_, rfl, trivial⟩)
        · obtain ⟨x, rfl, hx⟩ := dep hdep 6 (by as_aux_lemma => kernel_rfl)
          exact mid_val (.int .i64 (IntKind.i64.wrap (x - 1))) w (by as_aux_lemma => kernel_rfl) (by as_aux_lemma => kernel_rfl) (dr _ ⟨_, rfl, trivial⟩)
        · exact mid_val _ w (by as_aux_lemma => kernel_rfl) (by as_aux_lemma => kernel_rfl) (dr _ rfl)
        · obtain rfl := dep hdep 8 (by as_aux_lemma => kernel_rfl)
          exact mid_ld (by as_aux_lemma => kernel_rfl) (by as_aux_lemma => kernel_rfl) (ld_int (hJ.2.2.1.1.2 2)) (dr _ ⟨_, rfl, trivial⟩)
        · obtain ⟨y0, rfl, h0⟩ := dep hdep 4 (by as_aux_lemma => kernel_rfl)
          obtain ⟨y1, rfl, h1⟩ := dep hdep 7 (by as_aux_lemma => kernel_rfl)
          obtain ⟨y2, rfl, h2⟩ := dep hdep 9 (by as_aux_lemma => kernel_rfl)
          exact mid_val (.slice (some ⟨w.heap.size, 0, none⟩) 3 3) (w.alloc (.cells (ofI [y0, y1, y2]) 3)) (by as_aux_lemma => kernel_rfl) (by as_aux_lemma => kernel_rfl) (hK.out _ _ (ap_alloc (ap_refl _ _) _) (hJ.more hM _) (ints_new [y0, y1, y2] hJ.2.1.lt (fa trivial (fa trivial (fa trivial fn)))))
        · exact mid_val _ w (by as_aux_lemma => kernel_rfl) (by as_aux_lemma => kernel_rfl) (dr _ rfl)
        · obtain rfl := dep hdep 11 (by as_aux_lemma => kernel_rfl)
          exact mid_pick R 3 hJ.2.1 (by omega) (by omega) (by omega) (by as_aux_lemma => kernel_rfl) (by as_aux_lemma => kernel_rfl) fun v w' h ha hr => hK.out v w' ha (hJ.far hM ha hr) h
        · obtain ⟨n, rfl, hn, hl, hc⟩ := dep hdep 10 (by as_aux_lemma => kernel_rfl)
          obtain ⟨r, rfl, r0, r1⟩ := dep hdep 12 (by as_aux_lemma => kernel_rfl)
          exact mid_ix hc hn hl r0 (by omega) (by as_aux_lemma => kernel_rfl) (by as_aux_lemma => kernel_rfl) fun v h => dr v h
        · obtain ⟨n, j, x, rfl, hn, hl, hc, hx⟩ := dep hdep 13 (by as_aux_lemma => kernel_rfl)
          exact mid_ld (by as_aux_lemma => kernel_rfl) (by as_aux_lemma => kernel_rfl) (ld_int hc) (dr _ ⟨x, rfl, hx⟩)
        · obtain rfl := dep hdep 1 (by as_aux_lemma => kernel_rfl)
          obtain rfl := dep hdep 2 (by as_aux_lemma => kernel_rfl)
          exact mid_sem (ixSemT 23 g B.ds.length vc dd) (by as_aux_lemma => kernel_rfl) (by as_aux_lemma => kernel_rfl) (ixd_ok (by omega) (by omega)) (dr _ rfl)
        · obtain rfl := dep hdep 15 (by as_aux_lemma => kernel_rfl)
          exact mid_val (.pointer (some ⟨g, dd.toNat * 4 + 2, none⟩)) w (by as_aux_lemma => kernel_rfl) (by as_aux_lemma => kernel_rfl) (dr _ rfl)
      · intro vs w hv hJ hall
        obtain ⟨v0, v1, v2, v3, v4, v5, v6, v7, v8, v9, v10, v11, v12, v13, v14, v15, v16, v17, rfl⟩ := len18 hv
        obtain ⟨x, rfl, -⟩ := hall 14 (by decide)
        obtain rfl := hall 16 (by decide)
        obtain ⟨HC3, HR3, bb3, hO3⟩ := hJ
        clear hall hv
        replace bx := bx.apart HC3 (by omega)
        replace HC := ap_trans HC HC3
        obtain ⟨u, hu⟩ := (row_of_own hO3.1).1.cell (j := dd.toNat * 4 + 2) (by omega)
        have hfz := (row_of_own hO3.1).1.frozen
        have hgb := hO3.1.lt g rfl
        refine mid_stc (t' := (List.toArray (.pointer (some ⟨R, 0, none⟩) :: s1 :: s2 :: .pointer (some ⟨w0.heap.size, 0, none⟩) :: .pointer (some ⟨w0.heap.size + 1, 0, none⟩) :: .int .i64 dd :: .int .i64 de :: s7 :: s8 :: s9 :: s10 :: s11 :: s12 :: s13 :: s14 :: s15 :: s16 :: s17 :: s18 :: s19 :: s20 :: s21 :: s22 :: .int .i64 r :: s24 :: s25 :: s26 :: s27 :: s28 :: s29 :: s30 :: s31 :: s32 :: s33 :: s34 :: s35 :: s36 :: s37 :: s38 :: s39 :: s40 :: s41 :: s42 :: s43 :: s44 :: s45 :: s46 :: s47 :: s48 :: s49 :: s50 :: s51 :: s52 :: s53 :: s54 :: s55 :: s56 :: s57 :: s58 :: s59 :: s60 :: s61 :: s62 :: s63 :: s64 :: s65 :: s66 :: s67 :: s68 :: s69 :: s70 :: s71 :: s72 :: s73 :: s74 :: s75 :: s76 :: s77 :: s78 :: s79 :: s80 :: s81 :: s82 :: s83 :: s84 :: s85 :: s86 :: s87 :: s88 :: s89 :: s90 :: s91 :: s92 :: s93 :: s94 :: s95 :: s96 :: s97 :: s98 :: s99 :: s100 :: s101 :: s102 :: s103 :: s104 :: s105 :: .bool false :: s107 :: s108 :: s109 :: s110 :: s111 :: s112 :: s113 :: s114 :: s115 :: s116 :: s117 :: s118 :: s119 :: .bool false :: .bool false :: s122 :: s123 :: s124 :: s125 :: s126 :: s127 :: s128 :: s129 :: s130 :: s131 :: s132 :: s133 :: s134 :: s135 :: s136 :: s137 :: s138 :: s139 :: s140 :: s141 :: s142 :: s143 :: s144 :: .bool true :: .bool true :: .int .i64 dd :: .pointer (some ⟨w0.heap.size, 5, none⟩) :: .slice (some ⟨g, 0, none⟩) B.ds.length vc :: .int .i64 B.ds.length :: .bool true :: v0 :: v1 :: v2 :: v3 :: v4 :: v5 :: v6 :: v7 :: v8 :: v9 :: v10 :: v11 :: v12 :: v13 :: .int .i64 x :: v15 :: .pointer (some ⟨g, dd.toNat * 4 + 2, none⟩) :: s169 :: s170 :: s171 :: s172 :: s173 :: s174 :: s175 :: s176 :: s177 :: s178 :: s179 :: s180 :: s181 :: s182 :: s183 :: s184 :: s185 :: s186 :: s187 :: s188 :: s189 :: s190 :: s191 :: s192 :: s193 :: s194 :: s195 :: s196 :: s197 :: s198 :: s199 :: s200 :: s201 :: s202 :: s203 :: s204 :: s205 :: s206 :: s207 :: s208 :: s209 :: s210 :: s211 :: s212 :: s213 :: s214 :: s215 :: s216 :: s217 :: s218 :: s219 :: s220 :: s221 :: s222 :: s223 :: s224 :: s225 :: s226 :: s227 :: s228 :: s229 :: s230 :: s231 :: s232 :: s233 :: s234 :: s235 :: s236 :: s237 :: s238 :: s239 :: s240 :: s241 :: s242 :: s243 :: s244 :: s245 :: s246 :: s247 :: s248 :: s249 :: s250 :: s251 :: s252 :: s253 :: s254 :: s255 :: s256 :: s257 :: s258 :: s259 :: s260 :: s261 :: s262 :: []))) (stSem ⟨g, dd.toNat * 4 + 2, none⟩ x) (by as_aux_lemma => kernel_rfl) (by as_aux_lemma => kernel_rfl) (by as_aux_lemma => kernel_rfl) rfl (st_int hu (hfz _)) ?_
        have hO4 := hO3.setD hdd.out 2 (by omega) x
        have bb4 := bb3.other (m := g) (j := dd.toNat * 4 + 2) (by omega) (.int .i64 x)
        replace bx := bx.other (m := g) (j := dd.toNat * 4 + 2) (by omega) (.int .i64 x)
        replace HC := ap_new HC (n := g) (j := dd.toNat * 4 + 2) (by omega) (.int .i64 x)
        replace HR3 := HR3.set (m := g) (j := dd.toNat * 4 + 2) (by omega) (.int .i64 x)
        
        clear hu hfz bb3 HR hO bb hO3
        have hO := hO4
        have HR := HR3
        have bb := bb4
        clear hO4 HR3 bb4
        generalize w.setCell ⟨g, dd.toNat * 4 + 2, none⟩ (.int .i64 x) = W9 at *
        obtain ⟨B2, m1, m2, m3, m4, m5, m6, m7, m8⟩ : ∃ B2 : Bk, B2.ad = B.ad ∧ B2.ln = B.ln ∧ B2.ow = B.ow ∧ B2.lo = B.lo ∧ B2.hi = B.hi ∧ B2.nw = B.nw ∧ B2.ds = B.ds.modify dd.toNat (setD 2 x) ∧ B2.es = B.es := ⟨⟨B.ad, B.ln, B.ow, B.lo, B.hi, B.nw, B.ds.modify dd.toNat (setD 2 x), B.es⟩, rfl, rfl, rfl, rfl, rfl, rfl, rfl, rfl⟩
        have hl2 : B2.ds.length = B.ds.length := by rw [m7]; simp
        have hl3 : B2.es.length = B.es.length := by rw [m8]
        have a0 : -999999 ≤ B2.ad := by rw [m1]; exact a0
        have a1 : B2.ad ≤ 999999 := by rw [m1]; exact a1
        rw [← m7, ← m8] at hO
        rw [← m1, ← m2, ← m3, ← m4, ← m5, ← m6, ← hl2, ← hl3] at bb
        obtain ⟨d2, hdd2⟩ : ∃ d, B2.ds[dd.toNat]? = some d := ⟨B2.ds[dd.toNat]'(by omega), by simp⟩
        have hdd : Hid (B2.ds[dd.toNat]? = some d2) := hdd2
        have hlen : Hid (B2.ds.length = B.ds.length ∧ B2.es.length = B.es.length) := ⟨hl2, hl3⟩
        have hlt2 : dd < (B2.ds.length : Int) := by omega
        have hdn2 : B2.ds.length ≤ 100 := by omega
        have hen2 : B2.es.length ≤ 100 := by omega
        have HR := HR.le (show _ ≤ N + 60 by omega)
        clear m1 m2 m3 m4 m5 m6 m7 m8 hl2 hl3 hdd2 hM
        go_upto_region 26 with fail
        have hM : ∀ w w', (MS w0.heap.size base #[.int .i64 B2.ad, .int .i64 B2.ln, .int .i64 B2.ow, .int .i64 B2.lo, .int .i64 B2.hi, .slice (some ⟨g, 0, none⟩) B2.ds.length vc, .int .i64 B2.nw, .slice ua B2.es.length uc] (.slice (some ⟨g, 0, none⟩) B2.ds.length vc) B2.ds (.slice ua B2.es.length uc) B2.es) w → Apart R w w' → (MS w0.heap.size base #[.int .i64 B2.ad, .int .i64 B2.ln, .int .i64 B2.ow, .int .i64 B2.lo, .int .i64 B2.hi, .slice (some ⟨g, 0, none⟩) B2.ds.length vc, .int .i64 B2.nw, .slice ua B2.es.length uc] (.slice (some ⟨g, 0, none⟩) B2.ds.length vc) B2.ds (.slice ua B2.es.length uc) B2.es) w' := fun w w' h ha => h.apart ha (by omega) (by omega)
        refine region_last [169, 170, 171, 172, 173, 174, 175, 176, 177, 178, 100010] 10 (FSp26 R w0.heap.size B2 (some ⟨g, 0, none⟩) vc g dd) (JS R W9 (N + 60) (MS w0.heap.size base #[.int .i64 B2.ad, .int .i64 B2.ln, .int .i64 B2.ow, .int .i64 B2.lo, .int .i64 B2.hi, .slice (some ⟨g, 0, none⟩) B2.ds.length vc, .int .i64 B2.nw, .slice ua B2.es.length uc] (.slice (some ⟨g, 0, none⟩) B2.ds.length vc) B2.ds (.slice ua B2.es.length uc) B2.es)) (Apart R) (by as_aux_lemma => kernel_rfl) (by as_aux_lemma => kernel_rfl) (by decide) (by as_aux_lemma => kernel_rfl) (by as_aux_lemma => kernel_rfl) _ rfl ?_ (JS.zero HR ⟨bb, hO⟩ hM) ?_ ?_
        · intro i v w w' hR h
          rcases i with _ | _ | _ | _ | _ | _ | _ | _ | _ | _ | _ | i
          all_goals first
            | exact h
            | exact IntsL.apart h hR
            | exact IntAt.apart h hR
        · refine all_lt_succ (all_lt_succ (all_lt_succ (all_lt_succ (all_lt_succ (all_lt_succ (all_lt_succ (all_lt_succ (all_lt_succ (all_lt_succ (all_lt_zero _) ?_) ?_) ?_) ?_) ?_) ?_) ?_) ?_) ?_) ?_
          all_goals (refine stepOk_at _ rfl ?_; intro vs w c hv hc hJ hdep K hK; have hc : c < 11 := hc; obtain ⟨k0, k1, k2, k3, k4, k5, k6, k7, k8, k9, k10, rfl⟩ := len11 hv; have dr := fun v h => hK.out v w (ap_refl _ _) hJ.next h)
          · exact mid_val _ w (by as_aux_lemma => kernel_rfl) (by as_aux_lemma => kernel_rfl) (dr _ rfl)
          · obtain rfl := dep hdep 0 (by as_aux_lemma => kernel_rfl)
            exact mid_ld (by as_aux_lemma => kernel_rfl) (by as_aux_lemma => kernel_rfl) (ld_doors (hJ.2.2.1.1.2 5)) (dr _ rfl)
          · exact mid_val _ w (by as_aux_lemma => kernel_rfl) (by as_aux_lemma => kernel_rfl) (dr _ rfl)
          · exact mid_val (.slice (some ⟨w.heap.size, 0, none⟩) 4 4) (w.alloc (.cells (ofI [0, 1, 7, 8]) 3)) (by as_aux_lemma => kernel_rfl) (by as_aux_lemma => kernel_rfl) (hK.out _ _ (ap_alloc (ap_refl _ _) _) (hJ.more hM _) (ints_new [0, 1, 7, 8] hJ.2.1.lt (fa trivial (fa trivial (fa trivial (fa trivial fn))))))
          · exact mid_val _ w (by as_aux_lemma => kernel_rfl) (by as_aux_lemma => kernel_rfl) (dr _ rfl)
          · obtain rfl := dep hdep 4 (by as_aux_lemma => kernel_rfl)
            exact mid_pick R 4 hJ.2.1 (by omega) (by omega) (by omega) (by as_aux_lemma => kernel_rfl) (by as_aux_lemma => kernel_rfl) fun v w' h ha hr => hK.out v w' ha (hJ.far hM ha hr) h
          · obtain ⟨n, rfl, hn, hl, hc⟩ := dep hdep 3 (by as_aux_lemma => kernel_rfl)
            obtain ⟨r, rfl, r0, r1⟩ := dep hdep 5 (by as_aux_lemma => kernel_rfl)
            exact mid_ix hc hn hl r0 (by omega) (by as_aux_lemma => kernel_rfl) (by as_aux_lemma => kernel_rfl) fun v h => dr v h
          · obtain ⟨n, j, x, rfl, hn, hl, hc, hx⟩ := dep hdep 6 (by as_aux_lemma => kernel_rfl)
            exact mid_ld (by as_aux_lemma => kernel_rfl) (by as_aux_lemma => kernel_rfl) (ld_int hc) (dr _ ⟨x, rfl, hx⟩)
          · obtain rfl := dep hdep 1 (by as_aux_lemma => kernel_rfl)
            obtain rfl := dep hdep 2 (by as_aux_lemma => kernel_rfl)
            exact mid_sem (ixSemT 23 g B2.ds.length vc dd) (by as_aux_lemma => kernel_rfl) (by as_aux_lemma => kernel_rfl) (ixd_ok (by omega) (by omega)) (dr _ rfl)
          · obtain rfl := dep hdep 8 (by as_aux_lemma => kernel_rfl)
            exact mid_val (.pointer (some ⟨g, dd.toNat * 4, none⟩)) w (by as_aux_lemma => kernel_rfl) (by as_aux_lemma => kernel_rfl) (dr _ rfl)
        · intro vs w hv hJ hall
          obtain ⟨k0, k1, k2, k3, k4, k5, k6, k7, k8, k9, k10, rfl⟩ := len11 hv
          obtain ⟨x2, rfl, -⟩ := hall 7 (by decide)
          obtain rfl := hall 9 (by decide)
          obtain ⟨HC3, HR3, bb3, hO3⟩ := hJ
          clear hall hv
          replace bx := bx.apart HC3 (by omega)
          replace HC := ap_trans HC HC3
          obtain ⟨u, hu⟩ := (row_of_own hO3.1).1.cell (j := dd.toNat * 4) (by omega)
          have hfz := (row_of_own hO3.1).1.frozen
          have hgb := hO3.1.lt g rfl
          refine mid_stc (t' := (List.toArray (.pointer (some ⟨R, 0, none⟩) :: s1 :: s2 :: .pointer (some ⟨w0.heap.size, 0, none⟩) :: .pointer (some ⟨w0.heap.size + 1, 0, none⟩) :: .int .i64 dd :: .int .i64 de :: s7 :: s8 :: s9 :: s10 :: s11 :: s12 :: s13 :: s14 :: s15 :: s16 :: s17 :: s18 :: s19 :: s20 :: s21 :: s22 :: .int .i64 r :: s24 :: s25 :: s26 :: s27 :: s28 :: s29 :: s30 :: s31 :: s32 :: s33 :: s34 :: s35 :: s36 :: s37 :: s38 :: s39 :: s40 :: s41 :: s42 :: s43 :: s44 :: s45 :: s46 :: s47 :: s48 :: s49 :: s50 :: s51 :: s52 :: s53 :: s54 :: s55 :: s56 :: s57 :: s58 :: s59 :: s60 :: s61 :: s62 :: s63 :: s64 :: s65 :: s66 :: s67 :: s68 :: s69 :: s70 :: s71 :: s72 :: s73 :: s74 :: s75 :: s76 :: s77 :: s78 :: s79 :: s80 :: s81 :: s82 :: s83 :: s84 :: s85 :: s86 :: s87 :: s88 :: s89 :: s90 :: s91 :: s92 :: s93 :: s94 :: s95 :: s96 :: s97 :: s98 :: s99 :: s100 :: s101 :: s102 :: s103 :: s104 :: s105 :: .bool false :: s107 :: s108 :: s109 :: s110 :: s111 :: s112 :: s113 :: s114 :: s115 :: s116 :: s117 :: s118 :: s119 :: .bool false :: .bool false :: s122 :: s123 :: s124 :: s125 :: s126 :: s127 :: s128 :: s129 :: s130 :: s131 :: s132 :: s133 :: s134 :: s135 :: s136 :: s137 :: s138 :: s139 :: s140 :: s141 :: s142 :: s143 :: s144 :: .bool true :: .bool true :: .int .i64 dd :: .pointer (some ⟨w0.heap.size, 5, none⟩) :: .slice (some ⟨g, 0, none⟩) B.ds.length vc :: .int .i64 B.ds.length :: .bool true :: v0 :: v1 :: v2 :: v3 :: v4 :: v5 :: v6 :: v7 :: v8 :: v9 :: v10 :: v11 :: v12 :: v13 :: .int .i64 x :: v15 :: .pointer (some ⟨g, dd.toNat * 4 + 2, none⟩) :: k0 :: k1 :: k2 :: k3 :: k4 :: k5 :: k6 :: .int .i64 x2 :: k8 :: .pointer (some ⟨g, dd.toNat * 4, none⟩) :: s179 :: s180 :: s181 :: s182 :: s183 :: s184 :: s185 :: s186 :: s187 :: s188 :: s189 :: s190 :: s191 :: s192 :: s193 :: s194 :: s195 :: s196 :: s197 :: s198 :: s199 :: s200 :: s201 :: s202 :: s203 :: s204 :: s205 :: s206 :: s207 :: s208 :: s209 :: s210 :: s211 :: s212 :: s213 :: s214 :: s215 :: s216 :: s217 :: s218 :: s219 :: s220 :: s221 :: s222 :: s223 :: s224 :: s225 :: s226 :: s227 :: s228 :: s229 :: s230 :: s231 :: s232 :: s233 :: s234 :: s235 :: s236 :: s237 :: s238 :: s239 :: s240 :: s241 :: s242 :: s243 :: s244 :: s245 :: s246 :: s247 :: s248 :: s249 :: s250 :: s251 :: s252 :: s253 :: s254 :: s255 :: s256 :: s257 :: s258 :: s259 :: s260 :: s261 :: s262 :: []))) (stSem ⟨g, dd.toNat * 4, none⟩ x2) (by as_aux_lemma => kernel_rfl) (by as_aux_lemma => kernel_rfl) (by as_aux_lemma => kernel_rfl) rfl (st_int hu (hfz _)) ?_
          have hO4 := hO3.setD hdd.out 0 (by omega) x2
          have bb4 := bb3.other (m := g) (j := dd.toNat * 4 + 0) (by omega) (.int .i64 x2)
          replace bx := bx.other (m := g) (j := dd.toNat * 4 + 0) (by omega) (.int .i64 x2)
          replace HC := ap_new HC (n := g) (j := dd.toNat * 4 + 0) (by omega) (.int .i64 x2)
          replace HR3 := HR3.set (m := g) (j := dd.toNat * 4 + 0) (by omega) (.int .i64 x2)
          simp only [Nat.add_zero] at hO4 bb4 bx HC HR3
          clear hu hfz bb3 HR hO bb hO3
          have hO := hO4
          have HR := HR3
          have bb := bb4
          clear hO4 HR3 bb4
          generalize w.setCell ⟨g, dd.toNat * 4, none⟩ (.int .i64 x2) = W10 at *
          have y1 := bb.1.2
          go_wp2_with fail
          refine hQ.out _ _ _ _ _ _ _ _ _ _ _ _ _ _ _ _ _ _ _ _ _ _ _ _ _ _ _ _ _ _ _ _ _ _ _ _ _ _ _ _ _ _ _ _ _ _ _ _ _ _ _ _ _ _ _ _ _ _ _ _ _ _ _ _ _ _ _ _ _ _ _ _ _ _ _ _ _ _ _ _ _ _ _ _ _ _ _ _ _ _ _ _ _ _ _ _ _ _ _ _ _ _ _ _ _ _ _ _ _ _ _ _ _ _ _ _ _ _ _ _ _ _ _ _ _ _ _ _ _ _ _ _ _ _ _ _ _ _ _ _ _ _ _ _ _ _ _ _ _ _ _ _ _ _ _ _ _ _ _ _ _ _ _ _ _ _ _ _ _ _ _ _ _ _ _ _ _ _ _ _ _ _ _ _ _ _ _ _ _ _ _ _ _ _ _ _ _ _ _ _ _ _ _ _ _ _ _ _ _ _ _ _ _ _ _ _ _ _ _ _ _ _ _ _ _ _ _ _ _ _ _ _ _ _ _ _ _ _ _ _ _ ?_
          exact ⟨Spl.mk ⟨B2.ad, B2.ln, B2.ow, B2.lo, B2.hi, B2.nw, (B2.ds.modify dd.toNat (setD 0 x2)), B2.es⟩ bb hO (by simp) (by simp) (by simp; omega) (by simp; omega) (show (-1000000 : Int) ≤ B2.ad by omega) (show B2.ad ≤ (1000000 : Int) by omega), bx, HC, HR.le (by omega)⟩
    · have y1 := bb.1.2
      clear y1
      have y1 := bb.1.2
      go_wp2_with fail
      refine hQ.out _ _ _ _ _ _ _ _ _ _ _ _ _ _ _ _ _ _ _ _ _ _ _ _ _ _ _ _ _ _ _ _ _ _ _ _ _ _ _ _ _ _ _ _ _ _ _ _ _ _ _ _ _ _ _ _ _ _ _ _ _ _ _ _ _ _ _ _ _ _ _ _ _ _ _ _ _ _ _ _ _ _ _ _ _ _ _ _ _ _ _ _ _ _ _ _ _ _ _ _ _ _ _ _ _ _ _ _ _ _ _ _ _ _ _ _ _ _ _ _ _ _ _ _ _ _ _ _ _ _ _ _ _ _ _ _ _ _ _ _ _ _ _ _ _ _ _ _ _ _ _ _ _ _ _ _ _ _ _ _ _ _ _ _ _ _ _ _ _ _ _ _ _ _ _ _ _ _ _ _ _ _ _ _ _ _ _ _ _ _ _ _ _ _ _ _ _ _ _ _ _ _ _ _ _ _ _ _ _ _ _ _ _ _ _ _ _ _ _ _ _ _ _ _ _ _ _ _ _ _ _ _ _ _ _ _ _ _ _ _ _ ?_
      exact ⟨Spl.mk ⟨B.ad, B.ln, B.ow, B.lo, B.hi, B.nw, B.ds, B.es⟩ bb hO (by simp) (by simp) (by simp; omega) (by simp; omega) (show (-1000000 : Int) ≤ B.ad by omega) (show B.ad ≤ (1000000 : Int) by omega), bx, HC, HR.le (by omega)⟩
  have hq7 : (r == 7) = false := by simpa using h0
  clear h0
  go_upto_region 27 with fail
  by_cases h0 : r = 8
  · have hq : (r == 8) = true := by simpa using h0
    clear h0
    by_cases hlt : de < (B.es.length : Int)
    · obtain ⟨g, cap, hv, hg0, hg1, hg2, hg3⟩ := own_form hO.2.1 (by omega)
      simp only [Value.slice.injEq] at hv
      obtain ⟨rfl, -, rfl⟩ := hv
      obtain ⟨d, hdd⟩ : ∃ d, B.es[de.toNat]? = some d := ⟨B.es[de.toNat]'(by omega), by simp⟩
      have hdd : Hid (B.es[de.toNat]? = some d) := hdd
      have y1 := bb.1.2
      go_upto_region 29 with fail
      clear y1
      have hM : ∀ w w', (MS w0.heap.size base #[.int .i64 B.ad, .int .i64 B.ln, .int .i64 B.ow, .int .i64 B.lo, .int .i64 B.hi, .slice va B.ds.length vc, .int .i64 B.nw, .slice (some ⟨g, 0, none⟩) B.es.length uc] (.slice va B.ds.length vc) B.ds (.slice (some ⟨g, 0, none⟩) B.es.length uc) B.es) w → Apart R w w' → (MS w0.heap.size base #[.int .i64 B.ad, .int .i64 B.ln, .int .i64 B.ow, .int .i64 B.lo, .int .i64 B.hi, .slice va B.ds.length vc, .int .i64 B.nw, .slice (some ⟨g, 0, none⟩) B.es.length uc] (.slice va B.ds.length vc) B.ds (.slice (some ⟨g, 0, none⟩) B.es.length uc) B.es) w' := fun w w' h ha => h.apart ha (by omega) (by omega)
      refine region_last [186, 187, 188, 189, 190, 191, 192, 193, 194, 195, 196, 197, 198, 199, 200, 201, 202, 100017] 17 (FSp29 R w0.heap.size B (some ⟨g, 0, none⟩) uc g de) (JS R wc N (MS w0.heap.size base #[.int .i64 B.ad, .int .i64 B.ln, .int .i64 B.ow, .int .i64 B.lo, .int .i64 B.hi, .slice va B.ds.length vc, .int .i64 B.nw, .slice (some ⟨g, 0, none⟩) B.es.length uc] (.slice va B.ds.length vc) B.ds (.slice (some ⟨g, 0, none⟩) B.es.length uc) B.es)) (Apart R) (by as_aux_lemma => kernel_rfl) (by as_aux_lemma => kernel_rfl) (by decide) (by as_aux_lemma => kernel_rfl) (by as_aux_lemma => kernel_rfl) _ rfl ?_ (JS.zero HR ⟨bb, hO⟩ hM) ?_ ?_
      · intro i v w w' hR h
        rcases i with _ | _ | _ | _ | _ | _ | _ | _ | _ | _ | _ | _ | _ | _ | _ | _ | _ | _ | i
        all_goals first
          | exact h
          | exact IntsL.apart h hR
          | exact IntAt.apart h hR
      · refine all_lt_succ (all_lt_succ (all_lt_succ (all_lt_succ (all_lt_succ (all_lt_succ (all_lt_succ (all_lt_succ (all_lt_succ (all_lt_succ (all_lt_succ (all_lt_succ (all_lt_succ (all_lt_succ (all_lt_succ (all_lt_succ (all_lt_succ (all_lt_zero _) ?_) ?_) ?_) ?_) ?_) ?_) ?_) ?_) ?_) ?_) ?_) ?_) ?_) ?_) ?_) ?_) ?_
        all_goals (refine stepOk_at _ rfl ?_; intro vs w c hv hc hJ hdep K hK; have hc : c < 18 := hc; obtain ⟨v0, v1, v2, v3, v4, v5, v6, v7, v8, v9, v10, v11, v12, v13, v14, v15, v16, v17, rfl⟩ := len18 hv; have dr := fun v h => hK.out v w (ap_refl _ _) hJ.next h)
        · exact mid_val _ w (by as_aux_lemma => kernel_rfl) (by as_aux_lemma => kernel_rfl) (dr _ rfl)
        · obtain rfl := dep hdep 0 (by as_aux_lemma => kernel_rfl)
          exact mid_ld (by as_aux_lemma => kernel_rfl) (by as_aux_lemma => kernel_rfl) (ld_ents (hJ.2.2.1.1.2 7)) (dr _ rfl)
        · exact mid_val _ w (by as_aux_lemma => kernel_rfl) (by as_aux_lemma => kernel_rfl) (dr _ rfl)
        · exact mid_val _ w (by as_aux_lemma => kernel_rfl) (by as_aux_lemma => kernel_rfl) (dr _ rfl)
        · obtain rfl := dep hdep 3 (by as_aux_lemma => kernel_rfl)
          exact mid_ld (by as_aux_lemma => kernel_rfl) (by as_aux_lemma => kernel_rfl) (ld_int (hJ.2.2.1.1.2 3)) (dr _ ⟨_, rfl, trivial⟩)
        · exact mid_val _ w (by as_aux_lemma => kernel_rfl) (by as_aux_lemma => kernel_rfl) (dr _ rfl)
        · obtain rfl := dep hdep 5 (by as_aux_lemma => kernel_rfl)
          exact mid_ld (by as_aux_lemma => kernel_rfl) (by as_aux_lemma => kernel_rfl) (ld_int (hJ.2.2.1.1.2 4)) (dr _ ⟨_, rfl, trivial⟩)
        · exact mid_val _ w (by as_aux_lemma => kernel_rfl) (by as_aux_lemma => kernel_rfl) (dr _ rfl)
        · obtain rfl := dep hdep 7 (by as_aux_lemma => kernel_rfl)
          exact mid_ld (by as_aux_lemma => kernel_rfl) (by as_aux_lemma => kernel_rfl) (ld_int (hJ.2.2.1.1.2 4)) (dr _ ⟨_, rfl, trivial⟩)
        · obtain ⟨x, rfl, hx⟩ := dep hdep 8 (by as_aux_lemma => kernel_rfl)
          exact mid_val (.int .i64 (IntKind.i64.wrap (x + 1))) w (by as_aux_lemma => kernel_rfl) (by as_aux_lemma => kernel_rfl) (dr _ ⟨_, rfl, trivial⟩)
        · obtain ⟨y0, rfl, h0⟩ := dep hdep 4 (by as_aux_lemma => kernel_rfl)
          obtain ⟨y1, rfl, h1⟩ := dep hdep 6 (by as_aux_lemma => kernel_rfl)
          obtain ⟨y2, rfl, h2⟩ := dep hdep 9 (by as_aux_lemma => kernel_rfl)
          exact mid_val (.slice (some ⟨w.heap.size, 0, none⟩) 3 3) (w.alloc (.cells (ofI [y0, y1, y2]) 3)) (by as_aux_lemma => kernel_rfl) (by as_aux_lemma => kernel_rfl) (hK.out _ _ (ap_alloc (ap_refl _ _) _) (hJ.more hM _) (ints_new [y0, y1, y2] hJ.2.1.lt (fa trivial (fa trivial (fa trivial fn)))))
        · exact mid_val _ w (by as_aux_lemma => kernel_rfl) (by as_aux_lemma => kernel_rfl) (dr _ rfl)
        · obtain rfl := dep hdep 11 (by as_aux_lemma => kernel_rfl)
          exact mid_pick R 3 hJ.2.1 (by omega) (by omega) (by omega) (by as_aux_lemma => kernel_rfl) (by as_aux_lemma => kernel_rfl) fun v w' h ha hr => hK.out v w' ha (hJ.far hM ha hr) h
        · obtain ⟨n, rfl, hn, hl, hc⟩ := dep hdep 10 (by as_aux_lemma => kernel_rfl)
          obtain ⟨r, rfl, r0, r1⟩ := dep hdep 12 (by as_aux_lemma => kernel_rfl)
          exact mid_ix hc hn hl r0 (by omega) (by as_aux_lemma => kernel_rfl) (by as_aux_lemma => kernel_rfl) fun v h => dr v h
        · obtain ⟨n, j, x, rfl, hn, hl, hc, hx⟩ := dep hdep 13 (by as_aux_lemma => kernel_rfl)
          exact mid_ld (by as_aux_lemma => kernel_rfl) (by as_aux_lemma => kernel_rfl) (ld_int hc) (dr _ ⟨x, rfl, hx⟩)
        · obtain rfl := dep hdep 1 (by as_aux_lemma => kernel_rfl)
          obtain rfl := dep hdep 2 (by as_aux_lemma => kernel_rfl)
          exact mid_sem (ixSemT 24 g B.es.length uc de) (by as_aux_lemma => kernel_rfl) (by as_aux_lemma => kernel_rfl) (ixe_ok (by omega) (by omega)) (dr _ rfl)
        · obtain rfl := dep hdep 15 (by as_aux_lemma => kernel_rfl)
          exact mid_val (.pointer (some ⟨g, de.toNat * 7 + 3, none⟩)) w (by as_aux_lemma => kernel_rfl) (by as_aux_lemma => kernel_rfl) (dr _ rfl)
      · intro vs w hv hJ hall
        obtain ⟨v0, v1, v2, v3, v4, v5, v6, v7, v8, v9, v10, v11, v12, v13, v14, v15, v16, v17, rfl⟩ := len18 hv
        obtain ⟨x, rfl, -⟩ := hall 14 (by decide)
        obtain rfl := hall 16 (by decide)
        obtain ⟨HC3, HR3, bb3, hO3⟩ := hJ
        clear hall hv
        replace bx := bx.apart HC3 (by omega)
        replace HC := ap_trans HC HC3
        obtain ⟨u, hu⟩ := (row_of_own hO3.2.1).1.cell (j := de.toNat * 7 + 3) (by omega)
        have hfz := (row_of_own hO3.2.1).1.frozen
        have hgb := hO3.2.1.lt g rfl
        refine mid_stc (t' := (List.toArray (.pointer (some ⟨R, 0, none⟩) :: s1 :: s2 :: .pointer (some ⟨w0.heap.size, 0, none⟩) :: .pointer (some ⟨w0.heap.size + 1, 0, none⟩) :: .int .i64 dd :: .int .i64 de :: s7 :: s8 :: s9 :: s10 :: s11 :: s12 :: s13 :: s14 :: s15 :: s16 :: s17 :: s18 :: s19 :: s20 :: s21 :: s22 :: .int .i64 r :: s24 :: s25 :: s26 :: s27 :: s28 :: s29 :: s30 :: s31 :: s32 :: s33 :: s34 :: s35 :: s36 :: s37 :: s38 :: s39 :: s40 :: s41 :: s42 :: s43 :: s44 :: s45 :: s46 :: s47 :: s48 :: s49 :: s50 :: s51 :: s52 :: s53 :: s54 :: s55 :: s56 :: s57 :: s58 :: s59 :: s60 :: s61 :: s62 :: s63 :: s64 :: s65 :: s66 :: s67 :: s68 :: s69 :: s70 :: s71 :: s72 :: s73 :: s74 :: s75 :: s76 :: s77 :: s78 :: s79 :: s80 :: s81 :: s82 :: s83 :: s84 :: s85 :: s86 :: s87 :: s88 :: s89 :: s90 :: s91 :: s92 :: s93 :: s94 :: s95 :: s96 :: s97 :: s98 :: s99 :: s100 :: s101 :: s102 :: s103 :: s104 :: s105 :: .bool false :: s107 :: s108 :: s109 :: s110 :: s111 :: s112 :: s113 :: s114 :: s115 :: s116 :: s117 :: s118 :: s119 :: .bool false :: .bool false :: s122 :: s123 :: s124 :: s125 :: s126 :: s127 :: s128 :: s129 :: s130 :: s131 :: s132 :: s133 :: s134 :: s135 :: s136 :: s137 :: s138 :: s139 :: s140 :: s141 :: s142 :: s143 :: s144 :: .bool false :: .bool false :: s147 :: s148 :: s149 :: s150 :: s151 :: s152 :: s153 :: s154 :: s155 :: s156 :: s157 :: s158 :: s159 :: s160 :: s161 :: s162 :: s163 :: s164 :: s165 :: s166 :: s167 :: s168 :: s169 :: s170 :: s171 :: s172 :: s173 :: s174 :: s175 :: s176 :: s177 :: s178 :: .bool true :: .bool true :: .int .i64 de :: .pointer (some ⟨w0.heap.size, 7, none⟩) :: .slice (some ⟨g, 0, none⟩) B.es.length uc :: .int .i64 B.es.length :: .bool true :: v0 :: v1 :: v2 :: v3 :: v4 :: v5 :: v6 :: v7 :: v8 :: v9 :: v10 :: v11 :: v12 :: v13 :: .int .i64 x :: v15 :: .pointer (some ⟨g, de.toNat * 7 + 3, none⟩) :: s203 :: s204 :: s205 :: s206 :: s207 :: s208 :: s209 :: s210 :: s211 :: s212 :: s213 :: s214 :: s215 :: s216 :: s217 :: s218 :: s219 :: s220 :: s221 :: s222 :: s223 :: s224 :: s225 :: s226 :: s227 :: s228 :: s229 :: s230 :: s231 :: s232 :: s233 :: s234 :: s235 :: s236 :: s237 :: s238 :: s239 :: s240 :: s241 :: s242 :: s243 :: s244 :: s245 :: s246 :: s247 :: s248 :: s249 :: s250 :: s251 :: s252 :: s253 :: s254 :: s255 :: s256 :: s257 :: s258 :: s259 :: s260 :: s261 :: s262 :: []))) (stSem ⟨g, de.toNat * 7 + 3, none⟩ x) (by as_aux_lemma => kernel_rfl) (by as_aux_lemma => kernel_rfl) (by as_aux_lemma => kernel_rfl) rfl (st_int hu (hfz _)) ?_
        have hO4 := hO3.setE hdd.out 3 (by omega) x
        have bb4 := bb3.other (m := g) (j := de.toNat * 7 + 3) (by omega) (.int .i64 x)
        replace bx := bx.other (m := g) (j := de.toNat * 7 + 3) (by omega) (.int .i64 x)
        replace HC := ap_new HC (n := g) (j := de.toNat * 7 + 3) (by omega) (.int .i64 x)
        replace HR3 := HR3.set (m := g) (j := de.toNat * 7 + 3) (by omega) (.int .i64 x)
        
        clear hu hfz bb3 HR hO bb hO3
        have hO := hO4
        have HR := HR3
        have bb := bb4
        clear hO4 HR3 bb4
        generalize w.setCell ⟨g, de.toNat * 7 + 3, none⟩ (.int .i64 x) = W9 at *
        have y1 := bb.1.2
        go_wp2_with fail
        refine hQ.out _ _ _ _ _ _ _ _ _ _ _ _ _ _ _ _ _ _ _ _ _ _ _ _ _ _ _ _ _ _ _ _ _ _ _ _ _ _ _ _ _ _ _ _ _ _ _ _ _ _ _ _ _ _ _ _ _ _ _ _ _ _ _ _ _ _ _ _ _ _ _ _ _ _ _ _ _ _ _ _ _ _ _ _ _ _ _ _ _ _ _ _ _ _ _ _ _ _ _ _ _ _ _ _ _ _ _ _ _ _ _ _ _ _ _ _ _ _ _ _ _ _ _ _ _ _ _ _ _ _ _ _ _ _ _ _ _ _ _ _ _ _ _ _ _ _ _ _ _ _ _ _ _ _ _ _ _ _ _ _ _ _ _ _ _ _ _ _ _ _ _ _ _ _ _ _ _ _ _ _ _ _ _ _ _ _ _ _ _ _ _ _ _ _ _ _ _ _ _ _ _ _ _ _ _ _ _ _ _ _ _ _ _ _ _ _ _ _ _ _ _ _ _ _ _ _ _ _ _ _ _ _ _ _ _ _ _ _ _ _ _ ?_
        exact ⟨Spl.mk ⟨B.ad, B.ln, B.ow, B.lo, B.hi, B.nw, B.ds, (B.es.modify de.toNat (setE 3 x))⟩ bb hO (by simp) (by simp) (by simp; omega) (by simp; omega) (show (-1000000 : Int) ≤ B.ad by omega) (show B.ad ≤ (1000000 : Int) by omega), bx, HC, HR.le (by omega)⟩
    · have y1 := bb.1.2
      clear y1
      have y1 := bb.1.2
      go_wp2_with fail
      refine hQ.out _ _ _ _ _ _ _ _ _ _ _ _ _ _ _ _ _ _ _ _ _ _ _ _ _ _ _ _ _ _ _ _ _ _ _ _ _ _ _ _ _ _ _ _ _ _ _ _ _ _ _ _ _ _ _ _ _ _ _ _ _ _ _ _ _ _ _ _ _ _ _ _ _ _ _ _ _ _ _ _ _ _ _ _ _ _ _ _ _ _ _ _ _ _ _ _ _ _ _ _ _ _ _ _ _ _ _ _ _ _ _ _ _ _ _ _ _ _ _ _ _ _ _ _ _ _ _ _ _ _ _ _ _ _ _ _ _ _ _ _ _ _ _ _ _ _ _ _ _ _ _ _ _ _ _ _ _ _ _ _ _ _ _ _ _ _ _ _ _ _ _ _ _ _ _ _ _ _ _ _ _ _ _ _ _ _ _ _ _ _ _ _ _ _ _ _ _ _ _ _ _ _ _ _ _ _ _ _ _ _ _ _ _ _ _ _ _ _ _ _ _ _ _ _ _ _ _ _ _ _ _ _ _ _ _ _ _ _ _ _ _ ?_
      exact ⟨Spl.mk ⟨B.ad, B.ln, B.ow, B.lo, B.hi, B.nw, B.ds, B.es⟩ bb hO (by simp) (by simp) (by simp; omega) (by simp; omega) (show (-1000000 : Int) ≤ B.ad by omega) (show B.ad ≤ (1000000 : Int) by omega), bx, HC, HR.le (by omega)⟩
  have hq8 : (r == 8) = false := by simpa using h0
  clear h0
  go_upto_region 30 with fail
  by_cases h0 : r = 9
  · have hq : (r == 9) = true := by simpa using h0
    clear h0
    by_cases hlt : de < (B.es.length : Int)
    · obtain ⟨g, cap, hv, hg0, hg1, hg2, hg3⟩ := own_form hO.2.1 (by omega)
      simp only [Value.slice.injEq] at hv
      obtain ⟨rfl, -, rfl⟩ := hv
      obtain ⟨d, hdd⟩ : ∃ d, B.es[de.toNat]? = some d := ⟨B.es[de.toNat]'(by omega), by simp⟩
      have hdd : Hid (B.es[de.toNat]? = some d) := hdd
      have y1 := bb.1.2
      go_upto_region 32 with fail
      clear y1
      have hM : ∀ w w', (MS w0.heap.size base #[.int .i64 B.ad, .int .i64 B.ln, .int .i64 B.ow, .int .i64 B.lo, .int .i64 B.hi, .slice va B.ds.length vc, .int .i64 B.nw, .slice (some ⟨g, 0, none⟩) B.es.length uc] (.slice va B.ds.length vc) B.ds (.slice (some ⟨g, 0, none⟩) B.es.length uc) B.es) w → Apart R w w' → (MS w0.heap.size base #[.int .i64 B.ad, .int .i64 B.ln, .int .i64 B.ow, .int .i64 B.lo, .int .i64 B.hi, .slice va B.ds.length vc, .int .i64 B.nw, .slice (some ⟨g, 0, none⟩) B.es.length uc] (.slice va B.ds.length vc) B.ds (.slice (some ⟨g, 0, none⟩) B.es.length uc) B.es) w' := fun w w' h ha => h.apart ha (by omega) (by omega)
      refine region_last [210, 211, 212, 213, 214, 215, 216, 217, 218, 219, 220, 221, 222, 223, 224, 225, 226, 227, 228, 229, 230, 100021] 21 (FSp32 R w0.heap.size B (some ⟨g, 0, none⟩) uc g de) (JS R wc N (MS w0.heap.size base #[.int .i64 B.ad, .int .i64 B.ln, .int .i64 B.ow, .int .i64 B.lo, .int .i64 B.hi, .slice va B.ds.length vc, .int .i64 B.nw, .slice (some ⟨g, 0, none⟩) B.es.length uc] (.slice va B.ds.length vc) B.ds (.slice (some ⟨g, 0, none⟩) B.es.length uc) B.es)) (Apart R) (by as_aux_lemma => kernel_rfl) (by as_aux_lemma => kernel_rfl) (by decide) (by as_aux_lemma => kernel_rfl) (by as_aux_lemma => kernel_rfl) _ rfl ?_ (JS.zero HR ⟨bb, hO⟩ hM) ?_ ?_
      · intro i v w w' hR h
        rcases i with _ | _ | _ | _ | _ | _ | _ | _ | _ | _ | _ | _ | _ | _ | _ | _ | _ | _ | _ | _ | _ | _ | i
        all_goals first
          | exact h
          | exact IntsL.apart h hR
          | exact IntAt.apart h hR
      · refine all_lt_succ (all_lt_succ (all_lt_succ (all_lt_succ (all_lt_succ (all_lt_succ (all_lt_succ (all_lt_succ (all_lt_succ (all_lt_succ (all_lt_succ (all_lt_succ (all_lt_succ (all_lt_succ (all_lt_succ (all_lt_succ (all_lt_succ (all_lt_succ (all_lt_succ (all_lt_succ (all_lt_succ (all_lt_zero _) ?_) ?_) ?_) ?_) ?_) ?_) ?_) ?_) ?_) ?_) ?_) ?_) ?_) ?_) ?_) ?_) ?_) ?_) ?_) ?_) ?_
        all_goals (refine stepOk_at _ rfl ?_; intro vs w c hv hc hJ hdep K hK; have hc : c < 22 := hc; obtain ⟨v0, v1, v2, v3, v4, v5, v6, v7, v8, v9, v10, v11, v12, v13, v14, v15, v16, v17, v18, v19, v20, v21, rfl⟩ := len22 hv; have dr := fun v h => hK.out v w (ap_refl _ _) hJ.next h)
        · exact mid_val _ w (by as_aux_lemma => kernel_rfl) (by as_aux_lemma => kernel_rfl) (dr _ rfl)
        · obtain rfl := dep hdep 0 (by as_aux_lemma => kernel_rfl)
          exact mid_ld (by as_aux_lemma => kernel_rfl) (by as_aux_lemma => kernel_rfl) (ld_ents (hJ.2.2.1.1.2 7)) (dr _ rfl)
        · exact mid_val _ w (by as_aux_lemma => kernel_rfl) (by as_aux_lemma => kernel_rfl) (dr _ rfl)
        · exact mid_val _ w (by as_aux_lemma => kernel_rfl) (by as_aux_lemma => kernel_rfl) (dr _ rfl)
        · obtain rfl := dep hdep 3 (by as_aux_lemma => kernel_rfl)
          exact mid_ld (by as_aux_lemma => kernel_rfl) (by as_aux_lemma => kernel_rfl) (ld_int (hJ.2.2.1.1.2 6)) (dr _ ⟨_, rfl, trivial⟩)
        · exact mid_val _ w (by as_aux_lemma => kernel_rfl) (by as_aux_lemma => kernel_rfl) (dr _ rfl)
        · obtain rfl := dep hdep 5 (by as_aux_lemma => kernel_rfl)
          exact mid_ld (by as_aux_lemma => kernel_rfl) (by as_aux_lemma => kernel_rfl) (ld_int (hJ.2.2.1.1.2 6)) (dr _ ⟨_, rfl, trivial⟩)
        · obtain ⟨x, rfl, hx⟩ := dep hdep 6 (by as_aux_lemma => kernel_rfl)
          exact mid_val (.int .i64 (IntKind.i64.wrap (x + 1))) w (by as_aux_lemma => kernel_rfl) (by as_aux_lemma => kernel_rfl) (dr _ ⟨_, rfl, trivial⟩)
        · exact mid_val _ w (by as_aux_lemma => kernel_rfl) (by as_aux_lemma => kernel_rfl) (dr _ rfl)
        · obtain rfl := dep hdep 8 (by as_aux_lemma => kernel_rfl)
          exact mid_ld (by as_aux_lemma => kernel_rfl) (by as_aux_lemma => kernel_rfl) (ld_int (hJ.2.2.1.1.2 6)) (dr _ ⟨_, rfl, trivial⟩)
        · obtain ⟨x, rfl, hx⟩ := dep hdep 9 (by as_aux_lemma => kernel_rfl)
          exact mid_val (.int .i64 (IntKind.i64.wrap (x - 11))) w (by as_aux_lemma => kernel_rfl) (by as_aux_lemma => kernel_rfl) (dr _ ⟨_, rfl, trivial⟩)
        · exact mid_val _ w (by as_aux_lemma => kernel_rfl) (by as_aux_lemma => kernel_rfl) (dr _ rfl)
        · obtain rfl := dep hdep 11 (by as_aux_lemma => kernel_rfl)
          exact mid_ld (by as_aux_lemma => kernel_rfl) (by as_aux_lemma => kernel_rfl) (ld_int (hJ.2.2.1.1.2 6)) (dr _ ⟨_, rfl, trivial⟩)
        · obtain ⟨x, rfl, hx⟩ := dep hdep 12 (by as_aux_lemma => kernel_rfl)
          exact mid_val (.int .i64 (IntKind.i64.wrap (x - 12))) w (by as_aux_lemma => kernel_rfl) (by as_aux_lemma => kernel_rfl) (dr _ ⟨_, rfl, trivial⟩)
        · obtain ⟨y0, rfl, h0⟩ := dep hdep 4 (by as_aux_lemma => kernel_rfl)
          obtain ⟨y1, rfl, h1⟩ := dep hdep 7 (by as_aux_lemma => kernel_rfl)
          obtain ⟨y2, rfl, h2⟩ := dep hdep 10 (by as_aux_lemma => kernel_rfl)
          obtain ⟨y3, rfl, h3⟩ := dep hdep 13 (by as_aux_lemma => kernel_rfl)
          exact mid_val (.slice (some ⟨w.heap.size, 0, none⟩) 5 5) (w.alloc (.cells (ofI [y0, y1, y2, y3, -1]) 3)) (by as_aux_lemma => kernel_rfl) (by as_aux_lemma => kernel_rfl) (hK.out _ _ (ap_alloc (ap_refl _ _) _) (hJ.more hM _) (ints_new [y0, y1, y2, y3, -1] hJ.2.1.lt (fa trivial (fa trivial (fa trivial (fa trivial (fa trivial fn)))))))
        · exact mid_val _ w (by as_aux_lemma => kernel_rfl) (by as_aux_lemma => kernel_rfl) (dr _ rfl)
        · obtain rfl := dep hdep 15 (by as_aux_lemma => kernel_rfl)
          exact mid_pick R 5 hJ.2.1 (by omega) (by omega) (by omega) (by as_aux_lemma => kernel_rfl) (by as_aux_lemma => kernel_rfl) fun v w' h ha hr => hK.out v w' ha (hJ.far hM ha hr) h
        · obtain ⟨n, rfl, hn, hl, hc⟩ := dep hdep 14 (by as_aux_lemma => kernel_rfl)
          obtain ⟨r, rfl, r0, r1⟩ := dep hdep 16 (by as_aux_lemma => kernel_rfl)
          exact mid_ix hc hn hl r0 (by omega) (by as_aux_lemma => kernel_rfl) (by as_aux_lemma => kernel_rfl) fun v h => dr v h
        · obtain ⟨n, j, x, rfl, hn, hl, hc, hx⟩ := dep hdep 17 (by as_aux_lemma => kernel_rfl)
          exact mid_ld (by as_aux_lemma => kernel_rfl) (by as_aux_lemma => kernel_rfl) (ld_int hc) (dr _ ⟨x, rfl, hx⟩)
        · obtain rfl := dep hdep 1 (by as_aux_lemma => kernel_rfl)
          obtain rfl := dep hdep 2 (by as_aux_lemma => kernel_rfl)
          exact mid_sem (ixSemT 24 g B.es.length uc de) (by as_aux_lemma => kernel_rfl) (by as_aux_lemma => kernel_rfl) (ixe_ok (by omega) (by omega)) (dr _ rfl)
        · obtain rfl := dep hdep 19 (by as_aux_lemma => kernel_rfl)
          exact mid_val (.pointer (some ⟨g, de.toNat * 7 + 6, none⟩)) w (by as_aux_lemma => kernel_rfl) (by as_aux_lemma => kernel_rfl) (dr _ rfl)
      · intro vs w hv hJ hall
        obtain ⟨v0, v1, v2, v3, v4, v5, v6, v7, v8, v9, v10, v11, v12, v13, v14, v15, v16, v17, v18, v19, v20, v21, rfl⟩ := len22 hv
        obtain ⟨x, rfl, -⟩ := hall 18 (by decide)
        obtain rfl := hall 20 (by decide)
        obtain ⟨HC3, HR3, bb3, hO3⟩ := hJ
        clear hall hv
        replace bx := bx.apart HC3 (by omega)
        replace HC := ap_trans HC HC3
        obtain ⟨u, hu⟩ := (row_of_own hO3.2.1).1.cell (j := de.toNat * 7 + 6) (by omega)
        have hfz := (row_of_own hO3.2.1).1.frozen
        have hgb := hO3.2.1.lt g rfl
        refine mid_stc (t' := (List.toArray (.pointer (some ⟨R, 0, none⟩) :: s1 :: s2 :: .pointer (some ⟨w0.heap.size, 0, none⟩) :: .pointer (some ⟨w0.heap.size + 1, 0, none⟩) :: .int .i64 dd :: .int .i64 de :: s7 :: s8 :: s9 :: s10 :: s11 :: s12 :: s13 :: s14 :: s15 :: s16 :: s17 :: s18 :: s19 :: s20 :: s21 :: s22 :: .int .i64 r :: s24 :: s25 :: s26 :: s27 :: s28 :: s29 :: s30 :: s31 :: s32 :: s33 :: s34 :: s35 :: s36 :: s37 :: s38 :: s39 :: s40 :: s41 :: s42 :: s43 :: s44 :: s45 :: s46 :: s47 :: s48 :: s49 :: s50 :: s51 :: s52 :: s53 :: s54 :: s55 :: s56 :: s57 :: s58 :: s59 :: s60 :: s61 :: s62 :: s63 :: s64 :: s65 :: s66 :: s67 :: s68 :: s69 :: s70 :: s71 :: s72 :: s73 :: s74 :: s75 :: s76 :: s77 :: s78 :: s79 :: s80 :: s81 :: s82 :: s83 :: s84 :: s85 :: s86 :: s87 :: s88 :: s89 :: s90 :: s91 :: s92 :: s93 :: s94 :: s95 :: s96 :: s97 :: s98 :: s99 :: s100 :: s101 :: s102 :: s103 :: s104 :: s105 :: .bool false :: s107 :: s108 :: s109 :: s110 :: s111 :: s112 :: s113 :: s114 :: s115 :: s116 :: s117 :: s118 :: s119 :: .bool false :: .bool false :: s122 :: s123 :: s124 :: s125 :: s126 :: s127 :: s128 :: s129 :: s130 :: s131 :: s132 :: s133 :: s134 :: s135 :: s136 :: s137 :: s138 :: s139 :: s140 :: s141 :: s142 :: s143 :: s144 :: .bool false :: .bool false :: s147 :: s148 :: s149 :: s150 :: s151 :: s152 :: s153 :: s154 :: s155 :: s156 :: s157 :: s158 :: s159 :: s160 :: s161 :: s162 :: s163 :: s164 :: s165 :: s166 :: s167 :: s168 :: s169 :: s170 :: s171 :: s172 :: s173 :: s174 :: s175 :: s176 :: s177 :: s178 :: .bool false :: .bool false :: s181 :: s182 :: s183 :: s184 :: s185 :: s186 :: s187 :: s188 :: s189 :: s190 :: s191 :: s192 :: s193 :: s194 :: s195 :: s196 :: s197 :: s198 :: s199 :: s200 :: s201 :: s202 :: .bool true :: .bool true :: .int .i64 de :: .pointer (some ⟨w0.heap.size, 7, none⟩) :: .slice (some ⟨g, 0, none⟩) B.es.length uc :: .int .i64 B.es.length :: .bool true :: v0 :: v1 :: v2 :: v3 :: v4 :: v5 :: v6 :: v7 :: v8 :: v9 :: v10 :: v11 :: v12 :: v13 :: v14 :: v15 :: v16 :: v17 :: .int .i64 x :: v19 :: .pointer (some ⟨g, de.toNat * 7 + 6, none⟩) :: s231 :: s232 :: s233 :: s234 :: s235 :: s236 :: s237 :: s238 :: s239 :: s240 :: s241 :: s242 :: s243 :: s244 :: s245 :: s246 :: s247 :: s248 :: s249 :: s250 :: s251 :: s252 :: s253 :: s254 :: s255 :: s256 :: s257 :: s258 :: s259 :: s260 :: s261 :: s262 :: []))) (stSem ⟨g, de.toNat * 7 + 6, none⟩ x) (by as_aux_lemma => kernel_rfl) (by as_aux_lemma => kernel_rfl) (by as_aux_lemma => kernel_rfl) rfl (st_int hu (hfz _)) ?_
        have hO4 := hO3.setE hdd.out 6 (by omega) x
        have bb4 := bb3.other (m := g) (j := de.toNat * 7 + 6) (by omega) (.int .i64 x)
        replace bx := bx.other (m := g) (j := de.toNat * 7 + 6) (by omega) (.int .i64 x)
        replace HC := ap_new HC (n := g) (j := de.toNat * 7 + 6) (by omega) (.int .i64 x)
        replace HR3 := HR3.set (m := g) (j := de.toNat * 7 + 6) (by omega) (.int .i64 x)
        
        clear hu hfz bb3 HR hO bb hO3
        have hO := hO4
        have HR := HR3
        have bb := bb4
        clear hO4 HR3 bb4
        generalize w.setCell ⟨g, de.toNat * 7 + 6, none⟩ (.int .i64 x) = W9 at *
        have y1 := bb.1.2
        go_wp2_with fail
        refine hQ.out _ _ _ _ _ _ _ _ _ _ _ _ _ _ _ _ _ _ _ _ _ _ _ _ _ _ _ _ _ _ _ _ _ _ _ _ _ _ _ _ _ _ _ _ _ _ _ _ _ _ _ _ _ _ _ _ _ _ _ _ _ _ _ _ _ _ _ _ _ _ _ _ _ _ _ _ _ _ _ _ _ _ _ _ _ _ _ _ _ _ _ _ _ _ _ _ _ _ _ _ _ _ _ _ _ _ _ _ _ _ _ _ _ _ _ _ _ _ _ _ _ _ _ _ _ _ _ _ _ _ _ _ _ _ _ _ _ _ _ _ _ _ _ _ _ _ _ _ _ _ _ _ _ _ _ _ _ _ _ _ _ _ _ _ _ _ _ _ _ _ _ _ _ _ _ _ _ _ _ _ _ _ _ _ _ _ _ _ _ _ _ _ _ _ _ _ _ _ _ _ _ _ _ _ _ _ _ _ _ _ _ _ _ _ _ _ _ _ _ _ _ _ _ _ _ _ _ _ _ _ _ _ _ _ _ _ _ _ _ _ _ ?_
        exact ⟨Spl.mk ⟨B.ad, B.ln, B.ow, B.lo, B.hi, B.nw, B.ds, (B.es.modify de.toNat (setE 6 x))⟩ bb hO (by simp) (by simp) (by simp; omega) (by simp; omega) (show (-1000000 : Int) ≤ B.ad by omega) (show B.ad ≤ (1000000 : Int) by omega), bx, HC, HR.le (by omega)⟩
    · have y1 := bb.1.2
      clear y1
      have y1 := bb.1.2
      go_wp2_with fail
      refine hQ.out _ _ _ _ _ _ _ _ _ _ _ _ _ _ _ _ _ _ _ _ _ _ _ _ _ _ _ _ _ _ _ _ _ _ _ _ _ _ _ _ _ _ _ _ _ _ _ _ _ _ _ _ _ _ _ _ _ _ _ _ _ _ _ _ _ _ _ _ _ _ _ _ _ _ _ _ _ _ _ _ _ _ _ _ _ _ _ _ _ _ _ _ _ _ _ _ _ _ _ _ _ _ _ _ _ _ _ _ _ _ _ _ _ _ _ _ _ _ _ _ _ _ _ _ _ _ _ _ _ _ _ _ _ _ _ _ _ _ _ _ _ _ _ _ _ _ _ _ _ _ _ _ _ _ _ _ _ _ _ _ _ _ _ _ _ _ _ _ _ _ _ _ _ _ _ _ _ _ _ _ _ _ _ _ _ _ _ _ _ _ _ _ _ _ _ _ _ _ _ _ _ _ _ _ _ _ _ _ _ _ _ _ _ _ _ _ _ _ _ _ _ _ _ _ _ _ _ _ _ _ _ _ _ _ _ _ _ _ _ _ _ ?_
      exact ⟨Spl.mk ⟨B.ad, B.ln, B.ow, B.lo, B.hi, B.nw, B.ds, B.es⟩ bb hO (by simp) (by simp) (by simp; omega) (by simp; omega) (show (-1000000 : Int) ≤ B.ad by omega) (show B.ad ≤ (1000000 : Int) by omega), bx, HC, HR.le (by omega)⟩
  have hq9 : (r == 9) = false := by simpa using h0
  clear h0
  go_upto_if 203 with fail
  exact spoil_10 R n w0 B va vc ua uc base wc dd de r N hn hR a0 a1 hdn hen hnbx d0 d1 e0 e1 r0 r1 hN HR bb bx hO HC hQ
set_option maxRecDepth 20000 in
set_option maxHeartbeats 8000000 in
theorem spoilB_ret (R : Nat) (n : Int) (ad ln ow lo hi nw : Int) (da : Option Addr) (dn dc : Nat) (ea : Option Addr) (en ec : Nat) (ds : List Dr) (es : List En) (w0 : World) (h : Rb w0 R n) (hn : n ≤ 800000000) (a0 : -999999 ≤ ad) (a1 : ad ≤ 999999) (HD : DoorsAt w0 da dn ds) (HE : EntriesAt w0 ea en es) (hdn : dn ≤ 100) (hen : en ≤ 100) :
    Calls Tryz.prog 121 #[.pointer (some ⟨R, 0, none⟩), .agg #[.int .i64 ad, .int .i64 ln, .int .i64 ow, .int .i64 lo, .int .i64 hi, .slice da dn dc, .int .i64 nw, .slice ea en ec]] w0 fun e w' => DrawnA w' w0.heap.size e ∧ Apart R w0 w' ∧ Rb w' R (n + 1000) := by
  have hR := h.lt
  have hdl := HD.1
  have hel := HE.1
  subst hdl
  subst hel
  have hB0 := bl_alloc (bl_alloc (bl_refl w0) (.cells #[.int .i64 ad, .int .i64 ln, .int .i64 ow, .int .i64 lo, .int .i64 hi, .slice da ds.length dc, .int .i64 nw, .slice ea es.length ec] 26)) (.cells #[.int .i64 0, .int .i64 0, .int .i64 0, .int .i64 0, .int .i64 0, .slice none 0 0, .int .i64 0, .slice none 0 0] 26)
  have hBl := bl_alloc (bl_refl (w0.alloc (.cells #[.int .i64 ad, .int .i64 ln, .int .i64 ow, .int .i64 lo, .int .i64 hi, .slice da ds.length dc, .int .i64 nw, .slice ea es.length ec] 26))) (.cells #[.int .i64 0, .int .i64 0, .int .i64 0, .int .i64 0, .int .i64 0, .slice none 0 0, .int .i64 0, .slice none 0 0] 26)
  have HC : Apart R w0 _ := ap_of_bl hB0
  have HR := h.below hB0
  have bb := (Bx.new w0 #[.int .i64 ad, .int .i64 ln, .int .i64 ow, .int .i64 lo, .int .i64 hi, .slice da ds.length dc, .int .i64 nw, .slice ea es.length ec] 26).below hBl
  have bx := Bx.new (w0.alloc (.cells #[.int .i64 ad, .int .i64 ln, .int .i64 ow, .int .i64 lo, .int .i64 hi, .slice da ds.length dc, .int .i64 nw, .slice ea es.length ec] 26)) #[.int .i64 0, .int .i64 0, .int .i64 0, .int .i64 0, .int .i64 0, .slice none 0 0, .int .i64 0, .slice none 0 0] 26
  simp only [World.size_alloc] at bx
  have H1 : Hid (Calls Tryz.prog _ _ _ _) := l2Copy_ret ad ln ow lo hi nw da ds.length dc ea es.length ec ds es _ (HD.below hB0) (HE.below hB0) (by omega) (by omega)
  have y1 := bb.1.2
  go_enter Tryz.func121, Tryz.ntmps121
  go_wp2_with fail
  refine H1.out.mono ?_
  rintro e w1 ⟨va, vc, ua, uc, rfl, hO, hb⟩
  have hsb := hb.size
  simp only [World.size_alloc] at hO hsb
  replace bb := bb.below hb
  replace bx := bx.below hb
  replace HC := ap_trans HC (ap_of_bl hb)
  replace HR := HR.below hb
  clear H1 y1 hb h hB0 hBl HD HE
  obtain ⟨⟨q1, q2⟩, q3⟩ := id bb
  obtain ⟨B, hBe⟩ : ∃ B : Bk, Hid (B = ⟨ad, ln, ow, lo, hi, nw, ds, es⟩) ∧ B.ad = ad ∧ B.ln = ln ∧ B.ow = ow ∧ B.lo = lo ∧ B.hi = hi ∧ B.nw = nw ∧ B.ds = ds ∧ B.es = es := ⟨_, rfl, rfl, rfl, rfl, rfl, rfl, rfl, rfl, rfl⟩
  obtain ⟨-, rfl, rfl, rfl, rfl, rfl, rfl, rfl, rfl⟩ := hBe
  go_upto_region 2 with fail
  replace bb := bb.set8 (.int .i64 B.ad) (.int .i64 B.ln) (.int .i64 B.ow) (.int .i64 B.lo) (.int .i64 B.hi) (.slice va B.ds.length vc) (.int .i64 B.nw) (.slice ua B.es.length uc)
  replace bx := bx.other8 (n := w0.heap.size) (by omega) (.int .i64 B.ad) (.int .i64 B.ln) (.int .i64 B.ow) (.int .i64 B.lo) (.int .i64 B.hi) (.slice va B.ds.length vc) (.int .i64 B.nw) (.slice ua B.es.length uc)
  replace hO := hO.set8 (m := w0.heap.size) (by omega) (.int .i64 B.ad) (.int .i64 B.ln) (.int .i64 B.ow) (.int .i64 B.lo) (.int .i64 B.hi) (.slice va B.ds.length vc) (.int .i64 B.nw) (.slice ua B.es.length uc)
  replace HC := ap_set8x HC (n := w0.heap.size) (by omega) (.int .i64 B.ad) (.int .i64 B.ln) (.int .i64 B.ow) (.int .i64 B.lo) (.int .i64 B.hi) (.slice va B.ds.length vc) (.int .i64 B.nw) (.slice ua B.es.length uc)
  replace HR := rb_set8 HR (n := w0.heap.size) (by omega) (.int .i64 B.ad) (.int .i64 B.ln) (.int .i64 B.ow) (.int .i64 B.lo) (.int .i64 B.hi) (.slice va B.ds.length vc) (.int .i64 B.nw) (.slice ua B.es.length uc)
  clear q1 q2 q3
  generalize (World.setCell (World.setCell (World.setCell (World.setCell (World.setCell (World.setCell (World.setCell (World.setCell w1 ⟨w0.heap.size, 0, none⟩ (.int .i64 B.ad)) ⟨w0.heap.size, 1, none⟩ (.int .i64 B.ln)) ⟨w0.heap.size, 2, none⟩ (.int .i64 B.ow)) ⟨w0.heap.size, 3, none⟩ (.int .i64 B.lo)) ⟨w0.heap.size, 4, none⟩ (.int .i64 B.hi)) ⟨w0.heap.size, 5, none⟩ (.slice va B.ds.length vc)) ⟨w0.heap.size, 6, none⟩ (.int .i64 B.nw)) ⟨w0.heap.size, 7, none⟩ (.slice ua B.es.length uc)) = W1 at *
  obtain ⟨base, hbase⟩ : ∃ base, base = w0.heap.size + 1 + 1 := ⟨_, rfl⟩
  rw [← hbase] at hO
  have hnbx : base = w0.heap.size + 2 := by omega
  clear hbase
  have hx := bx.1.1
  have y1 := bb.1.2
  go_wp2_with fail
  refine (pick_rb R _ (B.ds.length + 1) _ HR (by omega) (by omega) (by omega)).mono ?_
  rintro e w2 ⟨⟨dd, rfl, d0, d1⟩, ha, hr⟩
  replace bb := bb.apart ha (by omega)
  replace bx := bx.apart ha (by omega)
  replace hO := hO.apart ha (by omega)
  replace HC := ap_trans HC ha
  clear ha HR y1
  have y1 := bb.1.2
  go_wp2_with fail
  refine (pick_rb R _ (B.es.length + 1) _ hr (by omega) (by omega) (by omega)).mono ?_
  rintro e w3 ⟨⟨de, rfl, e0, e1⟩, ha, hr⟩
  replace bb := bb.apart ha (by omega)
  replace bx := bx.apart ha (by omega)
  replace hO := hO.apart ha (by omega)
  replace HC := ap_trans HC ha
  clear ha y1
  go_wp2_with fail
  refine (pick_rb R _ 12 _ hr (by omega) (by omega) (by omega)).mono ?_
  rintro e wc ⟨⟨r, rfl, r0, r1⟩, ha, hr⟩
  replace bb := bb.apart ha (by omega)
  replace bx := bx.apart ha (by omega)
  replace hO := hO.apart ha (by omega)
  replace HC := ap_trans HC ha
  clear ha
  have HR := hr.le (show _ ≤ n + 10 by omega)
  clear hr
  obtain ⟨N, hN⟩ : ∃ N : Int, N = n + 10 := ⟨_, rfl⟩
  rw [← hN] at HR
  go_upto_block 0 with fail
  go_cut [] (fun wc => Spl wc base w0.heap.size ∧ Bx wc (w0.heap.size + 1) #[.int .i64 0, .int .i64 0, .int .i64 0, .int .i64 0, .int .i64 0, .slice none 0 0, .int .i64 0, .slice none 0 0] ∧ Apart R w0 wc ∧ Rb wc R (n + 900))
  case first =>
    go_upto_region 8 with fail
    by_cases h0 : r = 0
    · have hq : (r == 0) = true := by simpa using h0
      clear h0
      go_upto_region 9 with fail
      have hM : ∀ w w', (MS w0.heap.size base #[.int .i64 B.ad, .int .i64 B.ln, .int .i64 B.ow, .int .i64 B.lo, .int .i64 B.hi, .slice va B.ds.length vc, .int .i64 B.nw, .slice ua B.es.length uc] (.slice va B.ds.length vc) B.ds (.slice ua B.es.length uc) B.es) w → Apart R w w' → (MS w0.heap.size base #[.int .i64 B.ad, .int .i64 B.ln, .int .i64 B.ow, .int .i64 B.lo, .int .i64 B.hi, .slice va B.ds.length vc, .int .i64 B.nw, .slice ua B.es.length uc] (.slice va B.ds.length vc) B.ds (.slice ua B.es.length uc) B.es) w' := fun w w' h ha => h.apart ha (by omega) (by omega)
      refine region_last [50, 51, 52, 53, 54, 55, 56, 57, 58, 100009] 9 (FSp9 R w0.heap.size) (JS R wc N (MS w0.heap.size base #[.int .i64 B.ad, .int .i64 B.ln, .int .i64 B.ow, .int .i64 B.lo, .int .i64 B.hi, .slice va B.ds.length vc, .int .i64 B.nw, .slice ua B.es.length uc] (.slice va B.ds.length vc) B.ds (.slice ua B.es.length uc) B.es)) (Apart R) (by as_aux_lemma => kernel_rfl) (by as_aux_lemma => kernel_rfl) (by decide) (by as_aux_lemma => kernel_rfl) (by as_aux_lemma => kernel_rfl) _ rfl ?_ (JS.zero HR ⟨bb, hO⟩ hM) ?_ ?_
      · intro i v w w' hR h
        rcases i with _ | _ | _ | _ | _ | _ | _ | _ | _ | _ | i
        all_goals first
          | exact h
          | exact IntsL.apart h hR
          | exact IntAt.apart h hR
      · refine all_lt_succ (all_lt_succ (all_lt_succ (all_lt_succ (all_lt_succ (all_lt_succ (all_lt_succ (all_lt_succ (all_lt_succ (all_lt_zero _) ?_) ?_) ?_) ?_) ?_) ?_) ?_) ?_) ?_
        all_goals (refine stepOk_at _ rfl ?_; intro vs w c hv hc hJ hdep K hK; have hc : c < 10 := hc; obtain ⟨v0, v1, v2, v3, v4, v5, v6, v7, v8, v9, rfl⟩ := len10 hv; have dr := fun v h => hK.out v w (ap_refl _ _) hJ.next h)
        · exact mid_val _ w (by as_aux_lemma => kernel_rfl) (by as_aux_lemma => kernel_rfl) (dr _ rfl)
        · obtain rfl := dep hdep 0 (by as_aux_lemma => kernel_rfl)
          exact mid_ld (by as_aux_lemma => kernel_rfl) (by as_aux_lemma => kernel_rfl) (ld_int (hJ.2.2.1.1.2 0)) (dr _ ⟨_, rfl, ⟨by omega, by omega⟩⟩)
        · obtain ⟨x, rfl, hx⟩ := dep hdep 1 (by as_aux_lemma => kernel_rfl)
          exact mid_val (.int .i64 (IntKind.i64.wrap (x + 1))) w (by as_aux_lemma => kernel_rfl) (by as_aux_lemma => kernel_rfl) (dr _ ⟨_, rfl, by obtain ⟨x0, x1⟩ := hx; rw [wrap_of _ (by omega) (by omega)]; exact ⟨by omega, by omega⟩⟩)
        · obtain ⟨y1, rfl, h1⟩ := dep hdep 2 (by as_aux_lemma => kernel_rfl)
          exact mid_val (.slice (some ⟨w.heap.size, 0, none⟩) 4 4) (w.alloc (.cells (ofI [-1, y1, 51200, 65536]) 3)) (by as_aux_lemma => kernel_rfl) (by as_aux_lemma => kernel_rfl) (hK.out _ _ (ap_alloc (ap_refl _ _) _) (hJ.more hM _) (ints_new [-1, y1, 51200, 65536] hJ.2.1.lt (fa ⟨by omega, by omega⟩ (fa h1 (fa ⟨by omega, by omega⟩ (fa ⟨by omega, by omega⟩ fn))))))
        · exact mid_val _ w (by as_aux_lemma => kernel_rfl) (by as_aux_lemma => kernel_rfl) (dr _ rfl)
        · obtain rfl := dep hdep 4 (by as_aux_lemma => kernel_rfl)
          exact mid_pick R 4 hJ.2.1 (by omega) (by omega) (by omega) (by as_aux_lemma => kernel_rfl) (by as_aux_lemma => kernel_rfl) fun v w' h ha hr => hK.out v w' ha (hJ.far hM ha hr) h
        · obtain ⟨n, rfl, hn, hl, hc⟩ := dep hdep 3 (by as_aux_lemma => kernel_rfl)
          obtain ⟨r, rfl, r0, r1⟩ := dep hdep 5 (by as_aux_lemma => kernel_rfl)
          exact mid_ix hc hn hl r0 (by omega) (by as_aux_lemma => kernel_rfl) (by as_aux_lemma => kernel_rfl) fun v h => dr v h
        · obtain ⟨n, j, x, rfl, hn, hl, hc, hx⟩ := dep hdep 6 (by as_aux_lemma => kernel_rfl)
          exact mid_ld (by as_aux_lemma => kernel_rfl) (by as_aux_lemma => kernel_rfl) (ld_int hc) (dr _ ⟨x, rfl, hx⟩)
        · exact mid_val _ w (by as_aux_lemma => kernel_rfl) (by as_aux_lemma => kernel_rfl) (dr _ rfl)
      · intro vs w hv hJ hall
        obtain ⟨v0, v1, v2, v3, v4, v5, v6, v7, v8, v9, rfl⟩ := len10 hv
        obtain ⟨x, rfl, hxb⟩ := hall 7 (by decide)
        obtain ⟨x0, x1⟩ := hxb
        obtain rfl := hall 8 (by decide)
        obtain ⟨HC3, HR3, bb3, hO3⟩ := hJ
        clear hall hv
        replace bx := bx.apart HC3 (by omega)
        replace HC := ap_trans HC HC3
        refine mid_stc (t' := (List.toArray (.pointer (some ⟨R, 0, none⟩) :: .agg #[.int .i64 B.ad, .int .i64 B.ln, .int .i64 B.ow, .int .i64 B.lo, .int .i64 B.hi, .slice da B.ds.length dc, .int .i64 B.nw, .slice ea B.es.length ec] :: undef :: .pointer (some ⟨w0.heap.size, 0, none⟩) :: .pointer (some ⟨w0.heap.size + 1, 0, none⟩) :: .int .i64 dd :: .int .i64 de :: undef :: .agg #[.int .i64 B.ad, .int .i64 B.ln, .int .i64 B.ow, .int .i64 B.lo, .int .i64 B.hi, .slice da B.ds.length dc, .int .i64 B.nw, .slice ea B.es.length ec] :: .agg #[.int .i64 B.ad, .int .i64 B.ln, .int .i64 B.ow, .int .i64 B.lo, .int .i64 B.hi, .slice va B.ds.length vc, .int .i64 B.nw, .slice ua B.es.length uc] :: .pointer (some ⟨R, 0, none⟩) :: .pointer (some ⟨w0.heap.size, 5, none⟩) :: .slice va B.ds.length vc :: .int .i64 B.ds.length :: .int .i64 (B.ds.length + 1) :: .int .i64 dd :: .pointer (some ⟨R, 0, none⟩) :: .pointer (some ⟨w0.heap.size, 7, none⟩) :: .slice ua B.es.length uc :: .int .i64 B.es.length :: .int .i64 (B.es.length + 1) :: .int .i64 de :: .pointer (some ⟨R, 0, none⟩) :: .int .i64 r :: undef :: undef :: undef :: undef :: undef :: undef :: undef :: undef :: undef :: undef :: undef :: undef :: undef :: undef :: undef :: undef :: undef :: undef :: undef :: undef :: undef :: undef :: undef :: undef :: .bool true :: .bool true :: v0 :: v1 :: v2 :: v3 :: v4 :: v5 :: v6 :: .int .i64 x :: .pointer (some ⟨w0.heap.size, 0, none⟩) :: undef :: undef :: undef :: undef :: undef :: undef :: undef :: undef :: undef :: undef :: undef :: undef :: undef :: undef :: undef :: undef :: undef :: undef :: undef :: undef :: undef :: undef :: undef :: undef :: undef :: undef :: undef :: undef :: undef :: undef :: undef :: undef :: undef :: undef :: undef :: undef :: undef :: undef :: undef :: undef :: undef :: undef :: undef :: undef :: undef :: undef :: undef :: undef :: undef :: undef :: undef :: undef :: undef :: undef :: undef :: undef :: undef :: undef :: undef :: undef :: undef :: undef :: undef :: undef :: undef :: undef :: undef :: undef :: undef :: undef :: undef :: undef :: undef :: undef :: undef :: undef :: undef :: undef :: undef :: undef :: undef :: undef :: undef :: undef :: undef :: undef :: undef :: undef :: undef :: undef :: undef :: undef :: undef :: undef :: undef :: undef :: undef :: undef :: undef :: undef :: undef :: undef :: undef :: undef :: undef :: undef :: undef :: undef :: undef :: undef :: undef :: undef :: undef :: undef :: undef :: undef :: undef :: undef :: undef :: undef :: undef :: undef :: undef :: undef :: undef :: undef :: undef :: undef :: undef :: undef :: undef :: undef :: undef :: undef :: undef :: undef :: undef :: undef :: undef :: undef :: undef :: undef :: undef :: undef :: undef :: undef :: undef :: undef :: undef :: undef :: undef :: undef :: undef :: undef :: undef :: undef :: undef :: undef :: undef :: undef :: undef :: undef :: undef :: undef :: undef :: undef :: undef :: undef :: undef :: undef :: undef :: undef :: undef :: undef :: undef :: undef :: undef :: undef :: undef :: undef :: undef :: undef :: undef :: undef :: undef :: undef :: undef :: undef :: undef :: undef :: undef :: undef :: undef :: undef :: undef :: undef :: undef :: undef :: undef :: undef :: undef :: undef :: undef :: undef :: []))) (stSem ⟨w0.heap.size, 0, none⟩ x) (by as_aux_lemma => kernel_rfl) (by as_aux_lemma => kernel_rfl) (by as_aux_lemma => kernel_rfl) rfl (st_int (bb3.1.2 0) (bb3.2 0)) ?_
        have bb : Bx _ w0.heap.size #[.int .i64 x, .int .i64 B.ln, .int .i64 B.ow, .int .i64 B.lo, .int .i64 B.hi, .slice va B.ds.length vc, .int .i64 B.nw, .slice ua B.es.length uc] := bb3.set (j := 0) (by simp) (.int .i64 x)
        replace bx := bx.other (m := w0.heap.size) (j := 0) (by omega) (.int .i64 x)
        replace hO3 := hO3.other (m := w0.heap.size) (j := 0) (by omega) (.int .i64 x)
        replace HC := ap_new HC (n := w0.heap.size) (j := 0) (by omega) (.int .i64 x)
        replace HR3 := HR3.set (m := w0.heap.size) (j := 0) (by omega) (.int .i64 x)
        clear bb3 HR hO
        have hO := hO3
        have HR := HR3
        clear hO3 HR3
        generalize w.setCell ⟨w0.heap.size, 0, none⟩ (.int .i64 x) = W9 at *
        go_wp2_with fail
        go_meet
        exact ⟨Spl.mk ⟨x, B.ln, B.ow, B.lo, B.hi, B.nw, B.ds, B.es⟩ bb hO (by simp) (by simp) (by simp; omega) (by simp; omega) (show (-1000000 : Int) ≤ x by omega) (show x ≤ (1000000 : Int) by omega), bx, HC, HR.le (by omega)⟩
    have hq0 : (r == 0) = false := by simpa using h0
    clear h0
    go_upto_region 10 with fail
    by_cases h0 : r = 1
    · have hq : (r == 1) = true := by simpa using h0
      clear h0
      go_upto_region 11 with fail
      have hM : ∀ w w', (MS w0.heap.size base #[.int .i64 B.ad, .int .i64 B.ln, .int .i64 B.ow, .int .i64 B.lo, .int .i64 B.hi, .slice va B.ds.length vc, .int .i64 B.nw, .slice ua B.es.length uc] (.slice va B.ds.length vc) B.ds (.slice ua B.es.length uc) B.es) w → Apart R w w' → (MS w0.heap.size base #[.int .i64 B.ad, .int .i64 B.ln, .int .i64 B.ow, .int .i64 B.lo, .int .i64 B.hi, .slice va B.ds.length vc, .int .i64 B.nw, .slice ua B.es.length uc] (.slice va B.ds.length vc) B.ds (.slice ua B.es.length uc) B.es) w' := fun w w' h ha => h.apart ha (by omega) (by omega)
      refine region_last [61, 62, 63, 64, 65, 66, 67, 68, 69, 100009] 9 (FSp11 R w0.heap.size) (JS R wc N (MS w0.heap.size base #[.int .i64 B.ad, .int .i64 B.ln, .int .i64 B.ow, .int .i64 B.lo, .int .i64 B.hi, .slice va B.ds.length vc, .int .i64 B.nw, .slice ua B.es.length uc] (.slice va B.ds.length vc) B.ds (.slice ua B.es.length uc) B.es)) (Apart R) (by as_aux_lemma => kernel_rfl) (by as_aux_lemma => kernel_rfl) (by decide) (by as_aux_lemma => kernel_rfl) (by as_aux_lemma => kernel_rfl) _ rfl ?_ (JS.zero HR ⟨bb, hO⟩ hM) ?_ ?_
      · intro i v w w' hR h
        rcases i with _ | _ | _ | _ | _ | _ | _ | _ | _ | _ | i
        all_goals first
          | exact h
          | exact IntsL.apart h hR
          | exact IntAt.apart h hR
      · refine all_lt_succ (all_lt_succ (all_lt_succ (all_lt_succ (all_lt_succ (all_lt_succ (all_lt_succ (all_lt_succ (all_lt_succ (all_lt_zero _) ?_) ?_) ?_) ?_) ?_) ?_) ?_) ?_) ?_
        all_goals (refine stepOk_at _ rfl ?_; intro vs w c hv hc hJ hdep K hK; have hc : c < 10 := hc; obtain ⟨v0, v1, v2, v3, v4, v5, v6, v7, v8, v9, rfl⟩ := len10 hv; have dr := fun v h => hK.out v w (ap_refl _ _) hJ.next h)
        · exact mid_val _ w (by as_aux_lemma => kernel_rfl) (by as_aux_lemma => kernel_rfl) (dr _ rfl)
        · obtain rfl := dep hdep 0 (by as_aux_lemma => kernel_rfl)
          exact mid_ld (by as_aux_lemma => kernel_rfl) (by as_aux_lemma => kernel_rfl) (ld_int (hJ.2.2.1.1.2 1)) (dr _ ⟨_, rfl, trivial⟩)
        · obtain ⟨x, rfl, hx⟩ := dep hdep 1 (by as_aux_lemma => kernel_rfl)
          exact mid_val (.int .i64 (IntKind.i64.wrap (x - 1))) w (by as_aux_lemma => kernel_rfl) (by as_aux_lemma => kernel_rfl) (dr _ ⟨_, rfl, trivial⟩)
        · obtain ⟨y4, rfl, h4⟩ := dep hdep 2 (by as_aux_lemma => kernel_rfl)
          exact mid_val (.slice (some ⟨w.heap.size, 0, none⟩) 5 5) (w.alloc (.cells (ofI [-1, 0, 16, 17, y4]) 3)) (by as_aux_lemma => kernel_rfl) (by as_aux_lemma => kernel_rfl) (hK.out _ _ (ap_alloc (ap_refl _ _) _) (hJ.more hM _) (ints_new [-1, 0, 16, 17, y4] hJ.2.1.lt (fa trivial (fa trivial (fa trivial (fa trivial (fa trivial fn)))))))
        · exact mid_val _ w (by as_aux_lemma => kernel_rfl) (by as_aux_lemma => kernel_rfl) (dr _ rfl)
        · obtain rfl := dep hdep 4 (by as_aux_lemma => kernel_rfl)
          exact mid_pick R 5 hJ.2.1 (by omega) (by omega) (by omega) (by as_aux_lemma => kernel_rfl) (by as_aux_lemma => kernel_rfl) fun v w' h ha hr => hK.out v w' ha (hJ.far hM ha hr) h
        · obtain ⟨n, rfl, hn, hl, hc⟩ := dep hdep 3 (by as_aux_lemma => kernel_rfl)
          obtain ⟨r, rfl, r0, r1⟩ := dep hdep 5 (by as_aux_lemma => kernel_rfl)
          exact mid_ix hc hn hl r0 (by omega) (by as_aux_lemma => kernel_rfl) (by as_aux_lemma => kernel_rfl) fun v h => dr v h
        · obtain ⟨n, j, x, rfl, hn, hl, hc, hx⟩ := dep hdep 6 (by as_aux_lemma => kernel_rfl)
          exact mid_ld (by as_aux_lemma => kernel_rfl) (by as_aux_lemma => kernel_rfl) (ld_int hc) (dr _ ⟨x, rfl, hx⟩)
        · exact mid_val _ w (by as_aux_lemma => kernel_rfl) (by as_aux_lemma => kernel_rfl) (dr _ rfl)
      · intro vs w hv hJ hall
        obtain ⟨v0, v1, v2, v3, v4, v5, v6, v7, v8, v9, rfl⟩ := len10 hv
        obtain ⟨x, rfl, hxb⟩ := hall 7 (by decide)
        clear hxb
        obtain rfl := hall 8 (by decide)
        obtain ⟨HC3, HR3, bb3, hO3⟩ := hJ
        clear hall hv
        replace bx := bx.apart HC3 (by omega)
        replace HC := ap_trans HC HC3
        refine mid_stc (t' := (List.toArray (.pointer (some ⟨R, 0, none⟩) :: .agg #[.int .i64 B.ad, .int .i64 B.ln, .int .i64 B.ow, .int .i64 B.lo, .int .i64 B.hi, .slice da B.ds.length dc, .int .i64 B.nw, .slice ea B.es.length ec] :: undef :: .pointer (some ⟨w0.heap.size, 0, none⟩) :: .pointer (some ⟨w0.heap.size + 1, 0, none⟩) :: .int .i64 dd :: .int .i64 de :: undef :: .agg #[.int .i64 B.ad, .int .i64 B.ln, .int .i64 B.ow, .int .i64 B.lo, .int .i64 B.hi, .slice da B.ds.length dc, .int .i64 B.nw, .slice ea B.es.length ec] :: .agg #[.int .i64 B.ad, .int .i64 B.ln, .int .i64 B.ow, .int .i64 B.lo, .int .i64 B.hi, .slice va B.ds.length vc, .int .i64 B.nw, .slice ua B.es.length uc] :: .pointer (some ⟨R, 0, none⟩) :: .pointer (some ⟨w0.heap.size, 5, none⟩) :: .slice va B.ds.length vc :: .int .i64 B.ds.length :: .int .i64 (B.ds.length + 1) :: .int .i64 dd :: .pointer (some ⟨R, 0, none⟩) :: .pointer (some ⟨w0.heap.size, 7, none⟩) :: .slice ua B.es.length uc :: .int .i64 B.es.length :: .int .i64 (B.es.length + 1) :: .int .i64 de :: .pointer (some ⟨R, 0, none⟩) :: .int .i64 r :: undef :: undef :: undef :: undef :: undef :: undef :: undef :: undef :: undef :: undef :: undef :: undef :: undef :: undef :: undef :: undef :: undef :: undef :: undef :: undef :: undef :: undef :: undef :: undef :: .bool false :: .bool false :: undef :: undef :: undef :: undef :: undef :: undef :: undef :: undef :: undef :: .bool true :: .bool true :: v0 :: v1 :: v2 :: v3 :: v4 :: v5 :: v6 :: .int .i64 x :: .pointer (some ⟨w0.heap.size, 1, none⟩) :: undef :: undef :: undef :: undef :: undef :: undef :: undef :: undef :: undef :: undef :: undef :: undef :: undef :: undef :: undef :: undef :: undef :: undef :: undef :: undef :: undef :: undef :: undef :: undef :: undef :: undef :: undef :: undef :: undef :: undef :: undef :: undef :: undef :: undef :: undef :: undef :: undef :: undef :: undef :: undef :: undef :: undef :: undef :: undef :: undef :: undef :: undef :: undef :: undef :: undef :: undef :: undef :: undef :: undef :: undef :: undef :: undef :: undef :: undef :: undef :: undef :: undef :: undef :: undef :: undef :: undef :: undef :: undef :: undef :: undef :: undef :: undef :: undef :: undef :: undef :: undef :: undef :: undef :: undef :: undef :: undef :: undef :: undef :: undef :: undef :: undef :: undef :: undef :: undef :: undef :: undef :: undef :: undef :: undef :: undef :: undef :: undef :: undef :: undef :: undef :: undef :: undef :: undef :: undef :: undef :: undef :: undef :: undef :: undef :: undef :: undef :: undef :: undef :: undef :: undef :: undef :: undef :: undef :: undef :: undef :: undef :: undef :: undef :: undef :: undef :: undef :: undef :: undef :: undef :: undef :: undef :: undef :: undef :: undef :: undef :: undef :: undef :: undef :: undef :: undef :: undef :: undef :: undef :: undef :: undef :: undef :: undef :: undef :: undef :: undef :: undef :: undef :: undef :: undef :: undef :: undef :: undef :: undef :: undef :: undef :: undef :: undef :: undef :: undef :: undef :: undef :: undef :: undef :: undef :: undef :: undef :: undef :: undef :: undef :: undef :: undef :: undef :: undef :: undef :: undef :: undef :: undef :: undef :: undef :: undef :: undef :: undef :: undef :: undef :: undef :: undef :: undef :: undef :: []))) (stSem ⟨w0.heap.size, 1, none⟩ x) (by as_aux_lemma => kernel_rfl) (by as_aux_lemma => kernel_rfl) (by as_aux_lemma => kernel_rfl) rfl (st_int (bb3.1.2 1) (bb3.2 1)) ?_
        have bb : Bx _ w0.heap.size #[.int .i64 B.ad, .int .i64 x, .int .i64 B.ow, .int .i64 B.lo, .int .i64 B.hi, .slice va B.ds.length vc, .int .i64 B.nw, .slice ua B.es.length uc] := bb3.set (j := 1) (by simp) (.int .i64 x)
        replace bx := bx.other (m := w0.heap.size) (j := 1) (by omega) (.int .i64 x)
        replace hO3 := hO3.other (m := w0.heap.size) (j := 1) (by omega) (.int .i64 x)
        replace HC := ap_new HC (n := w0.heap.size) (j := 1) (by omega) (.int .i64 x)
        replace HR3 := HR3.set (m := w0.heap.size) (j := 1) (by omega) (.int .i64 x)
        clear bb3 HR hO
        have hO := hO3
        have HR := HR3
        clear hO3 HR3
        generalize w.setCell ⟨w0.heap.size, 1, none⟩ (.int .i64 x) = W9 at *
        go_wp2_with fail
        go_meet
        exact ⟨Spl.mk ⟨B.ad, x, B.ow, B.lo, B.hi, B.nw, B.ds, B.es⟩ bb hO (by simp) (by simp) (by simp; omega) (by simp; omega) (show (-1000000 : Int) ≤ B.ad by omega) (show B.ad ≤ (1000000 : Int) by omega), bx, HC, HR.le (by omega)⟩
    have hq1 : (r == 1) = false := by simpa using h0
    clear h0
    go_upto_region 12 with fail
    by_cases h0 : r = 2
    · have hq : (r == 2) = true := by simpa using h0
      clear h0
      go_upto_region 13 with fail
      have hM : ∀ w w', (MS w0.heap.size base #[.int .i64 B.ad, .int .i64 B.ln, .int .i64 B.ow, .int .i64 B.lo, .int .i64 B.hi, .slice va B.ds.length vc, .int .i64 B.nw, .slice ua B.es.length uc] (.slice va B.ds.length vc) B.ds (.slice ua B.es.length uc) B.es) w → Apart R w w' → (MS w0.heap.size base #[.int .i64 B.ad, .int .i64 B.ln, .int .i64 B.ow, .int .i64 B.lo, .int .i64 B.hi, .slice va B.ds.length vc, .int .i64 B.nw, .slice ua B.es.length uc] (.slice va B.ds.length vc) B.ds (.slice ua B.es.length uc) B.es) w' := fun w w' h ha => h.apart ha (by omega) (by omega)
      refine region_last [72, 73, 74, 75, 76, 77, 78, 79, 100008] 8 (FSp13 R w0.heap.size) (JS R wc N (MS w0.heap.size base #[.int .i64 B.ad, .int .i64 B.ln, .int .i64 B.ow, .int .i64 B.lo, .int .i64 B.hi, .slice va B.ds.length vc, .int .i64 B.nw, .slice ua B.es.length uc] (.slice va B.ds.length vc) B.ds (.slice ua B.es.length uc) B.es)) (Apart R) (by as_aux_lemma => kernel_rfl) (by as_aux_lemma => kernel_rfl) (by decide) (by as_aux_lemma => kernel_rfl) (by as_aux_lemma => kernel_rfl) _ rfl ?_ (JS.zero HR ⟨bb, hO⟩ hM) ?_ ?_
      · intro i v w w' hR h
        rcases i with _ | _ | _ | _ | _ | _ | _ | _ | _ | i
        all_goals first
          | exact h
          | exact IntsL.apart h hR
          | exact IntAt.apart h hR
      · refine all_lt_succ (all_lt_succ (all_lt_succ (all_lt_succ (all_lt_succ (all_lt_succ (all_lt_succ (all_lt_succ (all_lt_zero _) ?_) ?_) ?_) ?_) ?_) ?_) ?_) ?_
        all_goals (refine stepOk_at _ rfl ?_; intro vs w c hv hc hJ hdep K hK; have hc : c < 9 := hc; obtain ⟨v0, v1, v2, v3, v4, v5, v6, v7, v8, rfl⟩ := len9 hv; have dr := fun v h => hK.out v w (ap_refl _ _) hJ.next h)
        · exact mid_val _ w (by as_aux_lemma => kernel_rfl) (by as_aux_lemma => kernel_rfl) (dr _ rfl)
        · obtain rfl := dep hdep 0 (by as_aux_lemma => kernel_rfl)
          exact mid_ld (by as_aux_lemma => kernel_rfl) (by as_aux_lemma => kernel_rfl) (ld_int (hJ.2.2.1.1.2 0)) (dr _ ⟨_, rfl, trivial⟩)
        · obtain ⟨y2, rfl, h2⟩ := dep hdep 1 (by as_aux_lemma => kernel_rfl)
          exact mid_val (.slice (some ⟨w.heap.size, 0, none⟩) 4 4) (w.alloc (.cells (ofI [-1, 65536, y2, 51202]) 3)) (by as_aux_lemma => kernel_rfl) (by as_aux_lemma => kernel_rfl) (hK.out _ _ (ap_alloc (ap_refl _ _) _) (hJ.more hM _) (ints_new [-1, 65536, y2, 51202] hJ.2.1.lt (fa trivial (fa trivial (fa trivial (fa trivial fn))))))
        · exact mid_val _ w (by as_aux_lemma => kernel_rfl) (by as_aux_lemma => kernel_rfl) (dr _ rfl)
        · obtain rfl := dep hdep 3 (by as_aux_lemma => kernel_rfl)
          exact mid_pick R 4 hJ.2.1 (by omega) (by omega) (by omega) (by as_aux_lemma => kernel_rfl) (by as_aux_lemma => kernel_rfl) fun v w' h ha hr => hK.out v w' ha (hJ.far hM ha hr) h
        · obtain ⟨n, rfl, hn, hl, hc⟩ := dep hdep 2 (by as_aux_lemma => kernel_rfl)
          obtain ⟨r, rfl, r0, r1⟩ := dep hdep 4 (by as_aux_lemma => kernel_rfl)
          exact mid_ix hc hn hl r0 (by omega) (by as_aux_lemma => kernel_rfl) (by as_aux_lemma => kernel_rfl) fun v h => dr v h
        · obtain ⟨n, j, x, rfl, hn, hl, hc, hx⟩ := dep hdep 5 (by as_aux_lemma => kernel_rfl)
          exact mid_ld (by as_aux_lemma => kernel_rfl) (by as_aux_lemma => kernel_rfl) (ld_int hc) (dr _ ⟨x, rfl, hx⟩)
        · exact mid_val _ w (by as_aux_lemma => kernel_rfl) (by as_aux_lemma => kernel_rfl) (dr _ rfl)
      · intro vs w hv hJ hall
        obtain ⟨v0, v1, v2, v3, v4, v5, v6, v7, v8, rfl⟩ := len9 hv
        obtain ⟨x, rfl, hxb⟩ := hall 6 (by decide)
        clear hxb
        obtain rfl := hall 7 (by decide)
        obtain ⟨HC3, HR3, bb3, hO3⟩ := hJ
        clear hall hv
        replace bx := bx.apart HC3 (by omega)
        replace HC := ap_trans HC HC3
        refine mid_stc (t' := (List.toArray (.pointer (some ⟨R, 0, none⟩) :: .agg #[.int .i64 B.ad, .int .i64 B.ln, .int .i64 B.ow, .int .i64 B.lo, .int .i64 B.hi, .slice da B.ds.length dc, .int .i64 B.nw, .slice ea B.es.length ec] :: undef :: .pointer (some ⟨w0.heap.size, 0, none⟩) :: .pointer (some ⟨w0.heap.size + 1, 0, none⟩) :: .int .i64 dd :: .int .i64 de :: undef :: .agg #[.int .i64 B.ad, .int .i64 B.ln, .int .i64 B.ow, .int .i64 B.lo, .int .i64 B.hi, .slice da B.ds.length dc, .int .i64 B.nw, .slice ea B.es.length ec] :: .agg #[.int .i64 B.ad, .int .i64 B.ln, .int .i64 B.ow, .int .i64 B.lo, .int .i64 B.hi, .slice va B.ds.length vc, .int .i64 B.nw, .slice ua B.es.length uc] :: .pointer (some ⟨R, 0, none⟩) :: .pointer (some ⟨w0.heap.size, 5, none⟩) :: .slice va B.ds.length vc :: .int .i64 B.ds.length :: .int .i64 (B.ds.length + 1) :: .int .i64 dd :: .pointer (some ⟨R, 0, none⟩) :: .pointer (some ⟨w0.heap.size, 7, none⟩) :: .slice ua B.es.length uc :: .int .i64 B.es.length :: .int .i64 (B.es.length + 1) :: .int .i64 de :: .pointer (some ⟨R, 0, none⟩) :: .int .i64 r :: undef :: undef :: undef :: undef :: undef :: undef :: undef :: undef :: undef :: undef :: undef :: undef :: undef :: undef :: undef :: undef :: undef :: undef :: undef :: undef :: undef :: undef :: undef :: undef :: .bool false :: .bool false :: undef :: undef :: undef :: undef :: undef :: undef :: undef :: undef :: undef :: .bool false :: .bool false :: undef :: undef :: undef :: undef :: undef :: undef :: undef :: undef :: undef :: .bool true :: .bool true :: v0 :: v1 :: v2 :: v3 :: v4 :: v5 :: .int .i64 x :: .pointer (some ⟨w0.heap.size, 2, none⟩) :: undef :: undef :: undef :: undef :: undef :: undef :: undef :: undef :: undef :: undef :: undef :: undef :: undef :: undef :: undef :: undef :: undef :: undef :: undef :: undef :: undef :: undef :: undef :: undef :: undef :: undef :: undef :: undef :: undef :: undef :: undef :: undef :: undef :: undef :: undef :: undef :: undef :: undef :: undef :: undef :: undef :: undef :: undef :: undef :: undef :: undef :: undef :: undef :: undef :: undef :: undef :: undef :: undef :: undef :: undef :: undef :: undef :: undef :: undef :: undef :: undef :: undef :: undef :: undef :: undef :: undef :: undef :: undef :: undef :: undef :: undef :: undef :: undef :: undef :: undef :: undef :: undef :: undef :: undef :: undef :: undef :: undef :: undef :: undef :: undef :: undef :: undef :: undef :: undef :: undef :: undef :: undef :: undef :: undef :: undef :: undef :: undef :: undef :: undef :: undef :: undef :: undef :: undef :: undef :: undef :: undef :: undef :: undef :: undef :: undef :: undef :: undef :: undef :: undef :: undef :: undef :: undef :: undef :: undef :: undef :: undef :: undef :: undef :: undef :: undef :: undef :: undef :: undef :: undef :: undef :: undef :: undef :: undef :: undef :: undef :: undef :: undef :: undef :: undef :: undef :: undef :: undef :: undef :: undef :: undef :: undef :: undef :: undef :: undef :: undef :: undef :: undef :: undef :: undef :: undef :: undef :: undef :: undef :: undef :: undef :: undef :: undef :: undef :: undef :: undef :: undef :: undef :: undef :: undef :: undef :: undef :: undef :: undef :: undef :: undef :: undef :: undef :: undef :: undef :: undef :: undef :: undef :: undef :: []))) (stSem ⟨w0.heap.size, 2, none⟩ x) (by as_aux_lemma => kernel_rfl) (by as_aux_lemma => kernel_rfl) (by as_aux_lemma => kernel_rfl) rfl (st_int (bb3.1.2 2) (bb3.2 2)) ?_
        have bb : Bx _ w0.heap.size #[.int .i64 B.ad, .int .i64 B.ln, .int .i64 x, .int .i64 B.lo, .int .i64 B.hi, .slice va B.ds.length vc, .int .i64 B.nw, .slice ua B.es.length uc] := bb3.set (j := 2) (by simp) (.int .i64 x)
        replace bx := bx.other (m := w0.heap.size) (j := 2) (by omega) (.int .i64 x)
        replace hO3 := hO3.other (m := w0.heap.size) (j := 2) (by omega) (.int .i64 x)
        replace HC := ap_new HC (n := w0.heap.size) (j := 2) (by omega) (.int .i64 x)
        replace HR3 := HR3.set (m := w0.heap.size) (j := 2) (by omega) (.int .i64 x)
        clear bb3 HR hO
        have hO := hO3
        have HR := HR3
        clear hO3 HR3
        generalize w.setCell ⟨w0.heap.size, 2, none⟩ (.int .i64 x) = W9 at *
        go_wp2_with fail
        go_meet
        exact ⟨Spl.mk ⟨B.ad, B.ln, x, B.lo, B.hi, B.nw, B.ds, B.es⟩ bb hO (by simp) (by simp) (by simp; omega) (by simp; omega) (show (-1000000 : Int) ≤ B.ad by omega) (show B.ad ≤ (1000000 : Int) by omega), bx, HC, HR.le (by omega)⟩
    have hq2 : (r == 2) = false := by simpa using h0
    clear h0
    go_upto_region 14 with fail
    by_cases h0 : r = 3
    · have hq : (r == 3) = true := by simpa using h0
      clear h0
      go_upto_region 15 with fail
      have hM : ∀ w w', (MS w0.heap.size base #[.int .i64 B.ad, .int .i64 B.ln, .int .i64 B.ow, .int .i64 B.lo, .int .i64 B.hi, .slice va B.ds.length vc, .int .i64 B.nw, .slice ua B.es.length uc] (.slice va B.ds.length vc) B.ds (.slice ua B.es.length uc) B.es) w → Apart R w w' → (MS w0.heap.size base #[.int .i64 B.ad, .int .i64 B.ln, .int .i64 B.ow, .int .i64 B.lo, .int .i64 B.hi, .slice va B.ds.length vc, .int .i64 B.nw, .slice ua B.es.length uc] (.slice va B.ds.length vc) B.ds (.slice ua B.es.length uc) B.es) w' := fun w w' h ha => h.apart ha (by omega) (by omega)
      refine region_last [82, 83, 84, 85, 86, 87, 88, 89, 90, 91, 92, 100011] 11 (FSp15 R w0.heap.size) (JS R wc N (MS w0.heap.size base #[.int .i64 B.ad, .int .i64 B.ln, .int .i64 B.ow, .int .i64 B.lo, .int .i64 B.hi, .slice va B.ds.length vc, .int .i64 B.nw, .slice ua B.es.length uc] (.slice va B.ds.length vc) B.ds (.slice ua B.es.length uc) B.es)) (Apart R) (by as_aux_lemma => kernel_rfl) (by as_aux_lemma => kernel_rfl) (by decide) (by as_aux_lemma => kernel_rfl) (by as_aux_lemma => kernel_rfl) _ rfl ?_ (JS.zero HR ⟨bb, hO⟩ hM) ?_ ?_
      · intro i v w w' hR h
        rcases i with _ | _ | _ | _ | _ | _ | _ | _ | _ | _ | _ | _ | i
        all_goals first
          | exact h
          | exact IntsL.apart h hR
          | exact IntAt.apart h hR
      · refine all_lt_succ (all_lt_succ (all_lt_succ (all_lt_succ (all_lt_succ (all_lt_succ (all_lt_succ (all_lt_succ (all_lt_succ (all_lt_succ (all_lt_succ (all_lt_zero _) ?_) ?_) ?_) ?_) ?_) ?_) ?_) ?_) ?_) ?_) ?_
        all_goals (refine stepOk_at _ rfl ?_; intro vs w c hv hc hJ hdep K hK; have hc : c < 12 := hc; obtain ⟨v0, v1, v2, v3, v4, v5, v6, v7, v8, v9, v10, v11, rfl⟩ := len12 hv; have dr := fun v h => hK.out v w (ap_refl _ _) hJ.next h)
        · exact mid_val _ w (by as_aux_lemma => kernel_rfl) (by as_aux_lemma => kernel_rfl) (dr _ rfl)
        · obtain rfl := dep hdep 0 (by as_aux_lemma => kernel_rfl)
          exact mid_ld (by as_aux_lemma => kernel_rfl) (by as_aux_lemma => kernel_rfl) (ld_int (hJ.2.2.1.1.2 4)) (dr _ ⟨_, rfl, trivial⟩)
        · exact mid_val _ w (by as_aux_lemma => kernel_rfl) (by as_aux_lemma => kernel_rfl) (dr _ rfl)
        · obtain rfl := dep hdep 2 (by as_aux_lemma => kernel_rfl)
          exact mid_ld (by as_aux_lemma => kernel_rfl) (by as_aux_lemma => kernel_rfl) (ld_int (hJ.2.2.1.1.2 4)) (dr _ ⟨_, rfl, trivial⟩)
        · obtain ⟨x, rfl, hx⟩ := dep hdep 3 (by as_aux_lemma => kernel_rfl)
          exact mid_val (.int .i64 (IntKind.i64.wrap (x + 1))) w (by as_aux_lemma => kernel_rfl) (by as_aux_lemma => kernel_rfl) (dr _ ⟨_, rfl, trivial⟩)
        · obtain ⟨y1, rfl, h1⟩ := dep hdep 1 (by as_aux_lemma => kernel_rfl)
          obtain ⟨y2, rfl, h2⟩ := dep hdep 4 (by as_aux_lemma => kernel_rfl)
          exact mid_val (.slice (some ⟨w.heap.size, 0, none⟩) 5 5) (w.alloc (.cells (ofI [0, y1, y2, 1, 30]) 3)) (by as_aux_lemma => kernel_rfl) (by as_aux_lemma => kernel_rfl) (hK.out _ _ (ap_alloc (ap_refl _ _) _) (hJ.more hM _) (ints_new [0, y1, y2, 1, 30] hJ.2.1.lt (fa trivial (fa trivial (fa trivial (fa trivial (fa trivial fn)))))))
        · exact mid_val _ w (by as_aux_lemma => kernel_rfl) (by as_aux_lemma => kernel_rfl) (dr _ rfl)
        · obtain rfl := dep hdep 6 (by as_aux_lemma => kernel_rfl)
          exact mid_pick R 5 hJ.2.1 (by omega) (by omega) (by omega) (by as_aux_lemma => kernel_rfl) (by as_aux_lemma => kernel_rfl) fun v w' h ha hr => hK.out v w' ha (hJ.far hM ha hr) h
        · obtain ⟨n, rfl, hn, hl, hc⟩ := dep hdep 5 (by as_aux_lemma => kernel_rfl)
          obtain ⟨r, rfl, r0, r1⟩ := dep hdep 7 (by as_aux_lemma => kernel_rfl)
          exact mid_ix hc hn hl r0 (by omega) (by as_aux_lemma => kernel_rfl) (by as_aux_lemma => kernel_rfl) fun v h => dr v h
        · obtain ⟨n, j, x, rfl, hn, hl, hc, hx⟩ := dep hdep 8 (by as_aux_lemma => kernel_rfl)
          exact mid_ld (by as_aux_lemma => kernel_rfl) (by as_aux_lemma => kernel_rfl) (ld_int hc) (dr _ ⟨x, rfl, hx⟩)
        · exact mid_val _ w (by as_aux_lemma => kernel_rfl) (by as_aux_lemma => kernel_rfl) (dr _ rfl)
      · intro vs w hv hJ hall
        obtain ⟨v0, v1, v2, v3, v4, v5, v6, v7, v8, v9, v10, v11, rfl⟩ := len12 hv
        obtain ⟨x, rfl, hxb⟩ := hall 9 (by decide)
        clear hxb
        obtain rfl := hall 10 (by decide)
        obtain ⟨HC3, HR3, bb3, hO3⟩ := hJ
        clear hall hv
        replace bx := bx.apart HC3 (by omega)
        replace HC := ap_trans HC HC3
        refine mid_stc (t' := (List.toArray (.pointer (some ⟨R, 0, none⟩) :: .agg #[.int .i64 B.ad, .int .i64 B.ln, .int .i64 B.ow, .int .i64 B.lo, .int .i64 B.hi, .slice da B.ds.length dc, .int .i64 B.nw, .slice ea B.es.length ec] :: undef :: .pointer (some ⟨w0.heap.size, 0, none⟩) :: .pointer (some ⟨w0.heap.size + 1, 0, none⟩) :: .int .i64 dd :: .int .i64 de :: undef :: .agg #[.int .i64 B.ad, .int .i64 B.ln, .int .i64 B.ow, .int .i64 B.lo, .int .i64 B.hi, .slice da B.ds.length dc, .int .i64 B.nw, .slice ea B.es.length ec] :: .agg #[.int .i64 B.ad, .int .i64 B.ln, .int .i64 B.ow, .int .i64 B.lo, .int .i64 B.hi, .slice va B.ds.length vc, .int .i64 B.nw, .slice ua B.es.length uc] :: .pointer (some ⟨R, 0, none⟩) :: .pointer (some ⟨w0.heap.size, 5, none⟩) :: .slice va B.ds.length vc :: .int .i64 B.ds.length :: .int .i64 (B.ds.length + 1) :: .int .i64 dd :: .pointer (some ⟨R, 0, none⟩) :: .pointer (some ⟨w0.heap.size, 7, none⟩) :: .slice ua B.es.length uc :: .int .i64 B.es.length :: .int .i64 (B.es.length + 1) :: .int .i64 de :: .pointer (some ⟨R, 0, none⟩) :: .int .i64 r :: undef :: undef :: undef :: undef :: undef :: undef :: undef :: undef :: undef :: undef :: undef :: undef :: undef :: undef :: undef :: undef :: undef :: undef :: undef :: undef :: undef :: undef :: undef :: undef :: .bool false :: .bool false :: undef :: undef :: undef :: undef :: undef :: undef :: undef :: undef :: undef :: .bool false :: .bool false :: undef :: undef :: undef :: undef :: undef :: undef :: undef :: undef :: undef :: .bool false :: .bool false :: undef :: undef :: undef :: undef :: undef :: undef :: undef :: undef :: .bool true :: .bool true :: v0 :: v1 :: v2 :: v3 :: v4 :: v5 :: v6 :: v7 :: v8 :: .int .i64 x :: .pointer (some ⟨w0.heap.size, 3, none⟩) :: undef :: undef :: undef :: undef :: undef :: undef :: undef :: undef :: undef :: undef :: undef :: undef :: undef :: undef :: undef :: undef :: undef :: undef :: undef :: undef :: undef :: undef :: undef :: undef :: undef :: undef :: undef :: undef :: undef :: undef :: undef :: undef :: undef :: undef :: undef :: undef :: undef :: undef :: undef :: undef :: undef :: undef :: undef :: undef :: undef :: undef :: undef :: undef :: undef :: undef :: undef :: undef :: undef :: undef :: undef :: undef :: undef :: undef :: undef :: undef :: undef :: undef :: undef :: undef :: undef :: undef :: undef :: undef :: undef :: undef :: undef :: undef :: undef :: undef :: undef :: undef :: undef :: undef :: undef :: undef :: undef :: undef :: undef :: undef :: undef :: undef :: undef :: undef :: undef :: undef :: undef :: undef :: undef :: undef :: undef :: undef :: undef :: undef :: undef :: undef :: undef :: undef :: undef :: undef :: undef :: undef :: undef :: undef :: undef :: undef :: undef :: undef :: undef :: undef :: undef :: undef :: undef :: undef :: undef :: undef :: undef :: undef :: undef :: undef :: undef :: undef :: undef :: undef :: undef :: undef :: undef :: undef :: undef :: undef :: undef :: undef :: undef :: undef :: undef :: undef :: undef :: undef :: undef :: undef :: undef :: undef :: undef :: undef :: undef :: undef :: undef :: undef :: undef :: undef :: undef :: undef :: undef :: undef :: undef :: undef :: undef :: undef :: undef :: undef :: undef :: undef :: undef :: undef :: undef :: undef :: []))) (stSem ⟨w0.heap.size, 3, none⟩ x) (by as_aux_lemma => kernel_rfl) (by as_aux_lemma => kernel_rfl) (by as_aux_lemma => kernel_rfl) rfl (st_int (bb3.1.2 3) (bb3.2 3)) ?_
        have bb : Bx _ w0.heap.size #[.int .i64 B.ad, .int .i64 B.ln, .int .i64 B.ow, .int .i64 x, .int .i64 B.hi, .slice va B.ds.length vc, .int .i64 B.nw, .slice ua B.es.length uc] := bb3.set (j := 3) (by simp) (.int .i64 x)
        replace bx := bx.other (m := w0.heap.size) (j := 3) (by omega) (.int .i64 x)
        replace hO3 := hO3.other (m := w0.heap.size) (j := 3) (by omega) (.int .i64 x)
        replace HC := ap_new HC (n := w0.heap.size) (j := 3) (by omega) (.int .i64 x)
        replace HR3 := HR3.set (m := w0.heap.size) (j := 3) (by omega) (.int .i64 x)
        clear bb3 HR hO
        have hO := hO3
        have HR := HR3
        clear hO3 HR3
        generalize w.setCell ⟨w0.heap.size, 3, none⟩ (.int .i64 x) = W9 at *
        go_wp2_with fail
        go_meet
        exact ⟨Spl.mk ⟨B.ad, B.ln, B.ow, x, B.hi, B.nw, B.ds, B.es⟩ bb hO (by simp) (by simp) (by simp; omega) (by simp; omega) (show (-1000000 : Int) ≤ B.ad by omega) (show B.ad ≤ (1000000 : Int) by omega), bx, HC, HR.le (by omega)⟩
    have hq3 : (r == 3) = false := by simpa using h0
    clear h0
    go_upto_region 16 with fail
    by_cases h0 : r = 4
    · have hq : (r == 4) = true := by simpa using h0
      clear h0
      go_upto_region 17 with fail
      have hM : ∀ w w', (MS w0.heap.size base #[.int .i64 B.ad, .int .i64 B.ln, .int .i64 B.ow, .int .i64 B.lo, .int .i64 B.hi, .slice va B.ds.length vc, .int .i64 B.nw, .slice ua B.es.length uc] (.slice va B.ds.length vc) B.ds (.slice ua B.es.length uc) B.es) w → Apart R w w' → (MS w0.heap.size base #[.int .i64 B.ad, .int .i64 B.ln, .int .i64 B.ow, .int .i64 B.lo, .int .i64 B.hi, .slice va B.ds.length vc, .int .i64 B.nw, .slice ua B.es.length uc] (.slice va B.ds.length vc) B.ds (.slice ua B.es.length uc) B.es) w' := fun w w' h ha => h.apart ha (by omega) (by omega)
      refine region_last [95, 96, 97, 98, 99, 100, 101, 102, 103, 104, 105, 100011] 11 (FSp17 R w0.heap.size) (JS R wc N (MS w0.heap.size base #[.int .i64 B.ad, .int .i64 B.ln, .int .i64 B.ow, .int .i64 B.lo, .int .i64 B.hi, .slice va B.ds.length vc, .int .i64 B.nw, .slice ua B.es.length uc] (.slice va B.ds.length vc) B.ds (.slice ua B.es.length uc) B.es)) (Apart R) (by as_aux_lemma => kernel_rfl) (by as_aux_lemma => kernel_rfl) (by decide) (by as_aux_lemma => kernel_rfl) (by as_aux_lemma => kernel_rfl) _ rfl ?_ (JS.zero HR ⟨bb, hO⟩ hM) ?_ ?_
      · intro i v w w' hR h
        rcases i with _ | _ | _ | _ | _ | _ | _ | _ | _ | _ | _ | _ | i
        all_goals first
          | exact h
          | exact IntsL.apart h hR
          | exact IntAt.apart h hR
      · refine all_lt_succ (all_lt_succ (all_lt_succ (all_lt_succ (all_lt_succ (all_lt_succ (all_lt_succ (all_lt_succ (all_lt_succ (all_lt_succ (all_lt_succ (all_lt_zero _) ?_) ?_) ?_) ?_) ?_) ?_) ?_) ?_) ?_) ?_) ?_
        all_goals (refine stepOk_at _ rfl ?_; intro vs w c hv hc hJ hdep K hK; have hc : c < 12 := hc; obtain ⟨v0, v1, v2, v3, v4, v5, v6, v7, v8, v9, v10, v11, rfl⟩ := len12 hv; have dr := fun v h => hK.out v w (ap_refl _ _) hJ.next h)
        · exact mid_val _ w (by as_aux_lemma => kernel_rfl) (by as_aux_lemma => kernel_rfl) (dr _ rfl)
        · obtain rfl := dep hdep 0 (by as_aux_lemma => kernel_rfl)
          exact mid_ld (by as_aux_lemma => kernel_rfl) (by as_aux_lemma => kernel_rfl) (ld_int (hJ.2.2.1.1.2 3)) (dr _ ⟨_, rfl, trivial⟩)
        · exact mid_val _ w (by as_aux_lemma => kernel_rfl) (by as_aux_lemma => kernel_rfl) (dr _ rfl)
        · obtain rfl := dep hdep 2 (by as_aux_lemma => kernel_rfl)
          exact mid_ld (by as_aux_lemma => kernel_rfl) (by as_aux_lemma => kernel_rfl) (ld_int (hJ.2.2.1.1.2 3)) (dr _ ⟨_, rfl, trivial⟩)
        · obtain ⟨x, rfl, hx⟩ := dep hdep 3 (by as_aux_lemma => kernel_rfl)
          exact mid_val (.int .i64 (IntKind.i64.wrap (x - 1))) w (by as_aux_lemma => kernel_rfl) (by as_aux_lemma => kernel_rfl) (dr _ ⟨_, rfl, trivial⟩)
        · obtain ⟨y0, rfl, h0⟩ := dep hdep 1 (by as_aux_lemma => kernel_rfl)
          obtain ⟨y1, rfl, h1⟩ := dep hdep 4 (by as_aux_lemma => kernel_rfl)
          exact mid_val (.slice (some ⟨w.heap.size, 0, none⟩) 4 4) (w.alloc (.cells (ofI [y0, y1, 65535, 65536]) 3)) (by as_aux_lemma => kernel_rfl) (by as_aux_lemma => kernel_rfl) (hK.out _ _ (ap_alloc (ap_refl _ _) _) (hJ.more hM _) (ints_new [y0, y1, 65535, 65536] hJ.2.1.lt (fa trivial (fa trivial (fa trivial (fa trivial fn))))))
        · exact mid_val _ w (by as_aux_lemma => kernel_rfl) (by as_aux_lemma => kernel_rfl) (dr _ rfl)
        · obtain rfl := dep hdep 6 (by as_aux_lemma => kernel_rfl)
          exact mid_pick R 4 hJ.2.1 (by omega) (by omega) (by omega) (by as_aux_lemma => kernel_rfl) (by as_aux_lemma => kernel_rfl) fun v w' h ha hr => hK.out v w' ha (hJ.far hM ha hr) h
        · obtain ⟨n, rfl, hn, hl, hc⟩ := dep hdep 5 (by as_aux_lemma => kernel_rfl)
          obtain ⟨r, rfl, r0, r1⟩ := dep hdep 7 (by as_aux_lemma => kernel_rfl)
          exact mid_ix hc hn hl r0 (by omega) (by as_aux_lemma => kernel_rfl) (by as_aux_lemma => kernel_rfl) fun v h => dr v h
        · obtain ⟨n, j, x, rfl, hn, hl, hc, hx⟩ := dep hdep 8 (by as_aux_lemma => kernel_rfl)
          exact mid_ld (by as_aux_lemma => kernel_rfl) (by as_aux_lemma => kernel_rfl) (ld_int hc) (dr _ ⟨x, rfl, hx⟩)
        · exact mid_val _ w (by as_aux_lemma => kernel_rfl) (by as_aux_lemma => kernel_rfl) (dr _ rfl)
      · intro vs w hv hJ hall
        obtain ⟨v0, v1, v2, v3, v4, v5, v6, v7, v8, v9, v10, v11, rfl⟩ := len12 hv
        obtain ⟨x, rfl, hxb⟩ := hall 9 (by decide)
        clear hxb
        obtain rfl := hall 10 (by decide)
        obtain ⟨HC3, HR3, bb3, hO3⟩ := hJ
        clear hall hv
        replace bx := bx.apart HC3 (by omega)
        replace HC := ap_trans HC HC3
        refine mid_stc (t' := (List.toArray (.pointer (some ⟨R, 0, none⟩) :: .agg #[.int .i64 B.ad, .int .i64 B.ln, .int .i64 B.ow, .int .i64 B.lo, .int .i64 B.hi, .slice da B.ds.length dc, .int .i64 B.nw, .slice ea B.es.length ec] :: undef :: .pointer (some ⟨w0.heap.size, 0, none⟩) :: .pointer (some ⟨w0.heap.size + 1, 0, none⟩) :: .int .i64 dd :: .int .i64 de :: undef :: .agg #[.int .i64 B.ad, .int .i64 B.ln, .int .i64 B.ow, .int .i64 B.lo, .int .i64 B.hi, .slice da B.ds.length dc, .int .i64 B.nw, .slice ea B.es.length ec] :: .agg #[.int .i64 B.ad, .int .i64 B.ln, .int .i64 B.ow, .int .i64 B.lo, .int .i64 B.hi, .slice va B.ds.length vc, .int .i64 B.nw, .slice ua B.es.length uc] :: .pointer (some ⟨R, 0, none⟩) :: .pointer (some ⟨w0.heap.size, 5, none⟩) :: .slice va B.ds.length vc :: .int .i64 B.ds.length :: .int .i64 (B.ds.length + 1) :: .int .i64 dd :: .pointer (some ⟨R, 0, none⟩) :: .pointer (some ⟨w0.heap.size, 7, none⟩) :: .slice ua B.es.length uc :: .int .i64 B.es.length :: .int .i64 (B.es.length + 1) :: .int .i64 de :: .pointer (some ⟨R, 0, none⟩) :: .int .i64 r :: undef :: undef :: undef :: undef :: undef :: undef :: undef :: undef :: undef :: undef :: undef :: undef :: undef :: undef :: undef :: undef :: undef :: undef :: undef :: undef :: undef :: undef :: undef :: undef :: .bool false :: .bool false :: undef :: undef :: undef :: undef :: undef :: undef :: undef :: undef :: undef :: .bool false :: .bool false :: undef :: undef :: undef :: undef :: undef :: undef :: undef :: undef :: undef :: .bool false :: .bool false :: undef :: undef :: undef :: undef :: undef :: undef :: undef :: undef :: .bool false :: .bool false :: undef :: undef :: undef :: undef :: undef :: undef :: undef :: undef :: undef :: undef :: undef :: .bool true :: .bool true :: v0 :: v1 :: v2 :: v3 :: v4 :: v5 :: v6 :: v7 :: v8 :: .int .i64 x :: .pointer (some ⟨w0.heap.size, 4, none⟩) :: undef :: undef :: undef :: undef :: undef :: undef :: undef :: undef :: undef :: undef :: undef :: undef :: undef :: undef :: undef :: undef :: undef :: undef :: undef :: undef :: undef :: undef :: undef :: undef :: undef :: undef :: undef :: undef :: undef :: undef :: undef :: undef :: undef :: undef :: undef :: undef :: undef :: undef :: undef :: undef :: undef :: undef :: undef :: undef :: undef :: undef :: undef :: undef :: undef :: undef :: undef :: undef :: undef :: undef :: undef :: undef :: undef :: undef :: undef :: undef :: undef :: undef :: undef :: undef :: undef :: undef :: undef :: undef :: undef :: undef :: undef :: undef :: undef :: undef :: undef :: undef :: undef :: undef :: undef :: undef :: undef :: undef :: undef :: undef :: undef :: undef :: undef :: undef :: undef :: undef :: undef :: undef :: undef :: undef :: undef :: undef :: undef :: undef :: undef :: undef :: undef :: undef :: undef :: undef :: undef :: undef :: undef :: undef :: undef :: undef :: undef :: undef :: undef :: undef :: undef :: undef :: undef :: undef :: undef :: undef :: undef :: undef :: undef :: undef :: undef :: undef :: undef :: undef :: undef :: undef :: undef :: undef :: undef :: undef :: undef :: undef :: undef :: undef :: undef :: undef :: undef :: undef :: undef :: undef :: undef :: undef :: undef :: undef :: undef :: undef :: undef :: undef :: undef :: undef :: undef :: undef :: undef :: []))) (stSem ⟨w0.heap.size, 4, none⟩ x) (by as_aux_lemma => kernel_rfl) (by as_aux_lemma => kernel_rfl) (by as_aux_lemma => kernel_rfl) rfl (st_int (bb3.1.2 4) (bb3.2 4)) ?_
        have bb : Bx _ w0.heap.size #[.int .i64 B.ad, .int .i64 B.ln, .int .i64 B.ow, .int .i64 B.lo, .int .i64 x, .slice va B.ds.length vc, .int .i64 B.nw, .slice ua B.es.length uc] := bb3.set (j := 4) (by simp) (.int .i64 x)
        replace bx := bx.other (m := w0.heap.size) (j := 4) (by omega) (.int .i64 x)
        replace hO3 := hO3.other (m := w0.heap.size) (j := 4) (by omega) (.int .i64 x)
        replace HC := ap_new HC (n := w0.heap.size) (j := 4) (by omega) (.int .i64 x)
        replace HR3 := HR3.set (m := w0.heap.size) (j := 4) (by omega) (.int .i64 x)
        clear bb3 HR hO
        have hO := hO3
        have HR := HR3
        clear hO3 HR3
        generalize w.setCell ⟨w0.heap.size, 4, none⟩ (.int .i64 x) = W9 at *
        go_wp2_with fail
        go_meet
        exact ⟨Spl.mk ⟨B.ad, B.ln, B.ow, B.lo, x, B.nw, B.ds, B.es⟩ bb hO (by simp) (by simp) (by simp; omega) (by simp; omega) (show (-1000000 : Int) ≤ B.ad by omega) (show B.ad ≤ (1000000 : Int) by omega), bx, HC, HR.le (by omega)⟩
    have hq4 : (r == 4) = false := by simpa using h0
    clear h0
    go_upto_region 18 with fail
    by_cases h0 : r = 5
    · have hq : (r == 5) = true := by simpa using h0
      clear h0
      go_upto_region 19 with fail
      have hM : ∀ w w', (MS w0.heap.size base #[.int .i64 B.ad, .int .i64 B.ln, .int .i64 B.ow, .int .i64 B.lo, .int .i64 B.hi, .slice va B.ds.length vc, .int .i64 B.nw, .slice ua B.es.length uc] (.slice va B.ds.length vc) B.ds (.slice ua B.es.length uc) B.es) w → Apart R w w' → (MS w0.heap.size base #[.int .i64 B.ad, .int .i64 B.ln, .int .i64 B.ow, .int .i64 B.lo, .int .i64 B.hi, .slice va B.ds.length vc, .int .i64 B.nw, .slice ua B.es.length uc] (.slice va B.ds.length vc) B.ds (.slice ua B.es.length uc) B.es) w' := fun w w' h ha => h.apart ha (by omega) (by omega)
      refine region_last [108, 109, 110, 111, 112, 113, 114, 115, 116, 117, 118, 119, 100012] 12 (FSp19 R w0.heap.size) (JS R wc N (MS w0.heap.size base #[.int .i64 B.ad, .int .i64 B.ln, .int .i64 B.ow, .int .i64 B.lo, .int .i64 B.hi, .slice va B.ds.length vc, .int .i64 B.nw, .slice ua B.es.length uc] (.slice va B.ds.length vc) B.ds (.slice ua B.es.length uc) B.es)) (Apart R) (by as_aux_lemma => kernel_rfl) (by as_aux_lemma => kernel_rfl) (by decide) (by as_aux_lemma => kernel_rfl) (by as_aux_lemma => kernel_rfl) _ rfl ?_ (JS.zero HR ⟨bb, hO⟩ hM) ?_ ?_
      · intro i v w w' hR h
        rcases i with _ | _ | _ | _ | _ | _ | _ | _ | _ | _ | _ | _ | _ | i
        all_goals first
          | exact h
          | exact IntsL.apart h hR
          | exact IntAt.apart h hR
      · refine all_lt_succ (all_lt_succ (all_lt_succ (all_lt_succ (all_lt_succ (all_lt_succ (all_lt_succ (all_lt_succ (all_lt_succ (all_lt_succ (all_lt_succ (all_lt_succ (all_lt_zero _) ?_) ?_) ?_) ?_) ?_) ?_) ?_) ?_) ?_) ?_) ?_) ?_
        all_goals (refine stepOk_at _ rfl ?_; intro vs w c hv hc hJ hdep K hK; have hc : c < 13 := hc; obtain ⟨v0, v1, v2, v3, v4, v5, v6, v7, v8, v9, v10, v11, v12, rfl⟩ := len13 hv; have dr := fun v h => hK.out v w (ap_refl _ _) hJ.next h)
        · exact mid_val _ w (by as_aux_lemma => kernel_rfl) (by as_aux_lemma => kernel_rfl) (dr _ rfl)
        · obtain rfl := dep hdep 0 (by as_aux_lemma => kernel_rfl)
          exact mid_ld (by as_aux_lemma => kernel_rfl) (by as_aux_lemma => kernel_rfl) (ld_int (hJ.2.2.1.1.2 6)) (dr _ ⟨_, rfl, trivial⟩)
        · obtain ⟨x, rfl, hx⟩ := dep hdep 1 (by as_aux_lemma => kernel_rfl)
          exact mid_val (.int .i64 (IntKind.i64.wrap (x + 8))) w (by as_aux_lemma => kernel_rfl) (by as_aux_lemma => kernel_rfl) (dr _ ⟨_, rfl, trivial⟩)
        · exact mid_val _ w (by as_aux_lemma => kernel_rfl) (by as_aux_lemma => kernel_rfl) (dr _ rfl)
        · obtain rfl := dep hdep 3 (by as_aux_lemma => kernel_rfl)
          exact mid_ld (by as_aux_lemma => kernel_rfl) (by as_aux_lemma => kernel_rfl) (ld_int (hJ.2.2.1.1.2 6)) (dr _ ⟨_, rfl, trivial⟩)
        · obtain ⟨x, rfl, hx⟩ := dep hdep 4 (by as_aux_lemma => kernel_rfl)
          exact mid_val (.int .i64 (IntKind.i64.wrap (x + 12))) w (by as_aux_lemma => kernel_rfl) (by as_aux_lemma => kernel_rfl) (dr _ ⟨_, rfl, trivial⟩)
        · obtain ⟨y4, rfl, h4⟩ := dep hdep 2 (by as_aux_lemma => kernel_rfl)
          obtain ⟨y5, rfl, h5⟩ := dep hdep 5 (by as_aux_lemma => kernel_rfl)
          exact mid_val (.slice (some ⟨w.heap.size, 0, none⟩) 6 6) (w.alloc (.cells (ofI [-1, 0, 1000000, 1000001, y4, y5]) 3)) (by as_aux_lemma => kernel_rfl) (by as_aux_lemma => kernel_rfl) (hK.out _ _ (ap_alloc (ap_refl _ _) _) (hJ.more hM _) (ints_new [-1, 0, 1000000, 1000001, y4, y5] hJ.2.1.lt (fa trivial (fa trivial (fa trivial (fa trivial (fa trivial (fa trivial fn))))))))
        · exact mid_val _ w (by as_aux_lemma => kernel_rfl) (by as_aux_lemma => kernel_rfl) (dr _ rfl)
        · obtain rfl := dep hdep 7 (by as_aux_lemma => kernel_rfl)
          exact mid_pick R 6 hJ.2.1 (by omega) (by omega) (by omega) (by as_aux_lemma => kernel_rfl) (by as_aux_lemma => kernel_rfl) fun v w' h ha hr => hK.out v w' ha (hJ.far hM ha hr) h
        · obtain ⟨n, rfl, hn, hl, hc⟩ := dep hdep 6 (by as_aux_lemma => kernel_rfl)
          obtain ⟨r, rfl, r0, r1⟩ := dep hdep 8 (by as_aux_lemma => kernel_rfl)
          exact mid_ix hc hn hl r0 (by omega) (by as_aux_lemma => kernel_rfl) (by as_aux_lemma => kernel_rfl) fun v h => dr v h
        · obtain ⟨n, j, x, rfl, hn, hl, hc, hx⟩ := dep hdep 9 (by as_aux_lemma => kernel_rfl)
          exact mid_ld (by as_aux_lemma => kernel_rfl) (by as_aux_lemma => kernel_rfl) (ld_int hc) (dr _ ⟨x, rfl, hx⟩)
        · exact mid_val _ w (by as_aux_lemma => kernel_rfl) (by as_aux_lemma => kernel_rfl) (dr _ rfl)
      · intro vs w hv hJ hall
        obtain ⟨v0, v1, v2, v3, v4, v5, v6, v7, v8, v9, v10, v11, v12, rfl⟩ := len13 hv
        obtain ⟨x, rfl, hxb⟩ := hall 10 (by decide)
        clear hxb
        obtain rfl := hall 11 (by decide)
        obtain ⟨HC3, HR3, bb3, hO3⟩ := hJ
        clear hall hv
        replace bx := bx.apart HC3 (by omega)
        replace HC := ap_trans HC HC3
        refine mid_stc (t' := (List.toArray (.pointer (some ⟨R, 0, none⟩) :: .agg #[.int .i64 B.ad, .int .i64 B.ln, .int .i64 B.ow, .int .i64 B.lo, .int .i64 B.hi, .slice da B.ds.length dc, .int .i64 B.nw, .slice ea B.es.length ec] :: undef :: .pointer (some ⟨w0.heap.size, 0, none⟩) :: .pointer (some ⟨w0.heap.size + 1, 0, none⟩) :: .int .i64 dd :: .int .i64 de :: undef :: .agg #[.int .i64 B.ad, .int .i64 B.ln, .int .i64 B.ow, .int .i64 B.lo, .int .i64 B.hi, .slice da B.ds.length dc, .int .i64 B.nw, .slice ea B.es.length ec] :: .agg #[.int .i64 B.ad, .int .i64 B.ln, .int .i64 B.ow, .int .i64 B.lo, .int .i64 B.hi, .slice va B.ds.length vc, .int .i64 B.nw, .slice ua B.es.length uc] :: .pointer (some ⟨R, 0, none⟩) :: .pointer (some ⟨w0.heap.size, 5, none⟩) :: .slice va B.ds.length vc :: .int .i64 B.ds.length :: .int .i64 (B.ds.length + 1) :: .int .i64 dd :: .pointer (some ⟨R, 0, none⟩) :: .pointer (some ⟨w0.heap.size, 7, none⟩) :: .slice ua B.es.length uc :: .int .i64 B.es.length :: .int .i64 (B.es.length + 1) :: .int .i64 de :: .pointer (some ⟨R, 0, none⟩) :: .int .i64 r :: undef :: undef :: undef :: undef :: undef :: undef :: undef :: undef :: undef :: undef :: undef :: undef :: undef :: undef :: undef :: undef :: undef :: undef :: undef :: undef :: undef :: undef :: undef :: undef :: .bool false :: .bool false :: undef :: undef :: undef :: undef :: undef :: undef :: undef :: undef :: undef :: .bool false :: .bool false :: undef :: undef :: undef :: undef :: undef :: undef :: undef :: undef :: undef :: .bool false :: .bool false :: undef :: undef :: undef :: undef :: undef :: undef :: undef :: undef :: .bool false :: .bool false :: undef :: undef :: undef :: undef :: undef :: undef :: undef :: undef :: undef :: undef :: undef :: .bool false :: .bool false :: undef :: undef :: undef :: undef :: undef :: undef :: undef :: undef :: undef :: undef :: undef :: .bool true :: .bool true :: v0 :: v1 :: v2 :: v3 :: v4 :: v5 :: v6 :: v7 :: v8 :: v9 :: .int .i64 x :: .pointer (some ⟨w0.heap.size, 6, none⟩) :: undef :: undef :: undef :: undef :: undef :: undef :: undef :: undef :: undef :: undef :: undef :: undef :: undef :: undef :: undef :: undef :: undef :: undef :: undef :: undef :: undef :: undef :: undef :: undef :: undef :: undef :: undef :: undef :: undef :: undef :: undef :: undef :: undef :: undef :: undef :: undef :: undef :: undef :: undef :: undef :: undef :: undef :: undef :: undef :: undef :: undef :: undef :: undef :: undef :: undef :: undef :: undef :: undef :: undef :: undef :: undef :: undef :: undef :: undef :: undef :: undef :: undef :: undef :: undef :: undef :: undef :: undef :: undef :: undef :: undef :: undef :: undef :: undef :: undef :: undef :: undef :: undef :: undef :: undef :: undef :: undef :: undef :: undef :: undef :: undef :: undef :: undef :: undef :: undef :: undef :: undef :: undef :: undef :: undef :: undef :: undef :: undef :: undef :: undef :: undef :: undef :: undef :: undef :: undef :: undef :: undef :: undef :: undef :: undef :: undef :: undef :: undef :: undef :: undef :: undef :: undef :: undef :: undef :: undef :: undef :: undef :: undef :: undef :: undef :: undef :: undef :: undef :: undef :: undef :: undef :: undef :: undef :: undef :: undef :: undef :: undef :: undef :: undef :: undef :: undef :: undef :: undef :: undef :: []))) (stSem ⟨w0.heap.size, 6, none⟩ x) (by as_aux_lemma => kernel_rfl) (by as_aux_lemma => kernel_rfl) (by as_aux_lemma => kernel_rfl) rfl (st_int (bb3.1.2 6) (bb3.2 6)) ?_
        have bb : Bx _ w0.heap.size #[.int .i64 B.ad, .int .i64 B.ln, .int .i64 B.ow, .int .i64 B.lo, .int .i64 B.hi, .slice va B.ds.length vc, .int .i64 x, .slice ua B.es.length uc] := bb3.set (j := 6) (by simp) (.int .i64 x)
        replace bx := bx.other (m := w0.heap.size) (j := 6) (by omega) (.int .i64 x)
        replace hO3 := hO3.other (m := w0.heap.size) (j := 6) (by omega) (.int .i64 x)
        replace HC := ap_new HC (n := w0.heap.size) (j := 6) (by omega) (.int .i64 x)
        replace HR3 := HR3.set (m := w0.heap.size) (j := 6) (by omega) (.int .i64 x)
        clear bb3 HR hO
        have hO := hO3
        have HR := HR3
        clear hO3 HR3
        generalize w.setCell ⟨w0.heap.size, 6, none⟩ (.int .i64 x) = W9 at *
        go_wp2_with fail
        go_meet
        exact ⟨Spl.mk ⟨B.ad, B.ln, B.ow, B.lo, B.hi, x, B.ds, B.es⟩ bb hO (by simp) (by simp) (by simp; omega) (by simp; omega) (show (-1000000 : Int) ≤ B.ad by omega) (show B.ad ≤ (1000000 : Int) by omega), bx, HC, HR.le (by omega)⟩
    have hq5 : (r == 5) = false := by simpa using h0
    clear h0
    go_upto_if 106 with fail
    exact spoil_6 R n w0 B va vc ua uc base wc dd de r N hn hR a0 a1 hdn hen hnbx d0 d1 e0 e1 r0 r1 hN HR bb bx hO HC (fun _ _ _ _ _ _ _ _ _ _ _ _ _ _ _ _ _ _ _ _ _ _ _ _ _ _ _ _ _ _ _ _ _ _ _ _ _ _ _ _ _ _ _ _ _ _ _ _ _ _ _ _ _ _ _ _ _ _ _ _ _ _ _ _ _ _ _ _ _ _ _ _ _ _ _ _ _ _ _ _ _ _ _ _ _ _ _ _ _ _ _ _ _ _ _ _ _ _ _ _ _ _ _ _ _ _ _ _ _ _ _ _ _ _ _ _ _ _ _ _ _ _ _ _ _ _ _ _ _ _ _ _ _ _ _ _ _ _ _ _ _ _ _ _ _ _ _ _ _ _ _ _ _ _ _ _ _ _ _ _ _ _ _ _ _ _ _ _ _ _ _ _ _ _ _ _ _ _ _ _ _ _ _ _ _ _ _ _ _ _ _ _ _ _ _ _ _ _ _ _ _ _ _ _ _ _ _ _ _ _ _ _ _ _ _ _ _ _ _ _ _ _ _ _ _ _ _ _ _ _ _ _ _ _ _ _ _ _ _ _ w' h => (by go_wp2_with fail; go_meet; exact h))
  case rest =>
    clear bb bx hO HC HR
    obtain ⟨⟨B, va, vc, ua, uc, bb, hO, hl1, hl2, hl3, hl4⟩, bx, HC, HR⟩ := hcut
    obtain ⟨⟨s1, s2⟩, s3⟩ := id bx
    have y1 := bb.1.2
    go_wp2_with fail
    have hbv := bx.set8 (.int .i64 B.ad) (.int .i64 B.ln) (.int .i64 B.ow) (.int .i64 B.lo) (.int .i64 B.hi) (.slice va B.ds.length vc) (.int .i64 B.nw) (.slice ua B.es.length uc)
    obtain ⟨⟨t1, t2⟩, t3⟩ := id hbv
    exact bodyPost_ret (v := .agg #[.int .i64 B.ad, .int .i64 B.ln, .int .i64 B.ow, .int .i64 B.lo, .int .i64 B.hi, .slice va B.ds.length vc, .int .i64 B.nw, .slice ua B.es.length uc]) (by simp [results, Tryz.results121, go_sem, t2]) rfl ⟨⟨B, va, vc, ua, uc, rfl, ((doorsL_own hO.1 (Nat.le_refl _)).out (x := w0.heap.size + 1) (by omega) (.int .i64 B.ad) (.int .i64 B.ln) (.int .i64 B.ow) (.int .i64 B.lo) (.int .i64 B.hi) (.slice va B.ds.length vc) (.int .i64 B.nw) (.slice ua B.es.length uc)).mono (by omega), ((entriesL_own hO.2.1 (Nat.le_refl _)).out (x := w0.heap.size + 1) (by omega) (.int .i64 B.ad) (.int .i64 B.ln) (.int .i64 B.ow) (.int .i64 B.lo) (.int .i64 B.hi) (.slice va B.ds.length vc) (.int .i64 B.nw) (.slice ua B.es.length uc)).mono (by omega), hl1, hl2, hl3, hl4⟩, ap_set8x HC (n := w0.heap.size + 1) (by omega) (.int .i64 B.ad) (.int .i64 B.ln) (.int .i64 B.ow) (.int .i64 B.lo) (.int .i64 B.hi) (.slice va B.ds.length vc) (.int .i64 B.nw) (.slice ua B.es.length uc), (rb_set8 HR (n := w0.heap.size + 1) (by omega) (.int .i64 B.ad) (.int .i64 B.ln) (.int .i64 B.ow) (.int .i64 B.lo) (.int .i64 B.hi) (.slice va B.ds.length vc) (.int .i64 B.nw) (.slice ua B.es.length uc)).le (by omega)⟩
end Go.Proofs.YtcgjpmhjijmplaaGreatDoor
