/- The program's natWithEntry, walked. -/
import Derived.Test.YtcgjpmhjijmplaaGreatDoorGo4
namespace Go.Proofs.YtcgjpmhjijmplaaGreatDoor
open Go.ChangeShapes Go.WideShapes Go.ChangeAt Go.RowKit Go.Maps

theorem IsRow.made (w : World) (C : Array Value) (t : TypeId) : IsRow (w.alloc (.cells C t)) w.heap.size t C.size := ⟨C, by show (w.heap.push (.cells C t))[w.heap.size]? = _; simp, rfl⟩
/-- The search over a row of one's own. -/
theorem search_own (base : Nat) (ua : Option Addr) (uc n : Nat) (es : List En) (d : En) (w : World) (ho : w.ownsRow base 52 7 (.slice ua n uc) n (flatE es)) (hn : n = es.length) (hl : n ≤ 17) (hs : es.Pairwise (fun e d => lessE e d = true)) :
    Calls Tryz.prog 139 #[.slice ua n uc, .agg #[.int .i64 d.k, .int .i64 d.pr, .int .i64 d.pp, .int .i64 d.o, .int .i64 d.i, .int .i64 d.ip, .int .i64 d.l], .func (.func 140) #[] #[]] w fun e w' => Searched es d e ∧ Below w.heap.size w w' := by
  have ho1 := ho
  rcases ho.2 with ⟨he, h0⟩ | ⟨g, cap, cur, he, hbg, hg, hnc, hcm, hcs, htake⟩
  · injection he with e1 e2 e3
    subst e1; subst e3
    obtain rfl : es = [] := List.length_eq_zero_iff.1 (by omega)
    subst h0
    exact search_nil none 0 d w
  · injection he with e1 e2 e3
    subst e1; subst e3; subst hn
    exact search_some g 0 es uc d w (ho1.lt g rfl).2 (enCells_of_own ho1 rfl) hl hs
/-- The list with an entry laid in: over the one that stands there, or between. -/
def putL (es : List En) (d : En) (i : Nat) (f : Bool) : List En := if f then es.set i d else insL es i d
theorem en_over {w : World} {g m i : Nat} {e : TypeId} {L : List En} {d : En} (h : EnCells w g 0 L) (hr : IsRow w g e m) (hm : L.length * 7 ≤ m) (hi : i < L.length) : EnCells (put7 w g (i * 7) d) g 0 (L.set i d) := by
  intro j x hj
  rw [List.getElem?_set] at hj
  by_cases hij : i = j
  · subst hij
    simp [hi] at hj
    subst hj
    have k := put7_in (p := i * 7) (d := d) hr (by omega)
    exact ⟨by simpa [enV] using k 0 (by omega), by simpa [enV] using k 1 (by omega), by simpa [enV] using k 2 (by omega), by simpa [enV] using k 3 (by omega), by simpa [enV] using k 4 (by omega), by simpa [enV] using k 5 (by omega), by simpa [enV] using k 6 (by omega)⟩
  · simp only [hij, if_false] at hj
    obtain ⟨c0, c1, c2, c3, c4, c5, c6⟩ := h j x hj
    refine ⟨?_, ?_, ?_, ?_, ?_, ?_, ?_⟩ <;> (rw [put7_out (by omega)]; assumption)
theorem bx_put7 {w : World} {n g p : Nat} {C : Array Value} {d : En} (h : Bx w n C) (hn : n ≠ g) : Bx (put7 w g p d) n C :=
  ((((((h.other hn _).other hn _).other hn _).other hn _).other hn _).other hn _).other hn _
theorem own_put7 {w : World} {base size n g p : Nat} {e : TypeId} {v : Value} {xs : List Value} {d : En} (h : w.ownsRow base e size v n xs) (hm : ∀ k, v.ownBlock = some k → k ≠ g) : (put7 w g p d).ownsRow base e size v n xs :=
  own_ne (own_ne (own_ne (own_ne (own_ne (own_ne (own_ne h hm _) hm _) hm _) hm _) hm _) hm _) hm _
theorem bl_put7 {w0 w : World} {g p : Nat} {d : En} (h : Below w0.heap.size w0 w) (hg : w0.heap.size ≤ g) : Below w0.heap.size w0 (put7 w g p d) :=
  bl_set (bl_set (bl_set (bl_set (bl_set (bl_set (bl_set h hg _) hg _) hg _) hg _) hg _) hg _) hg _
set_option maxRecDepth 20000 in
set_option maxHeartbeats 4000000 in
theorem withEntry_ret (ad ln ow lo hi nw : Int) (da : Option Addr) (dn dc : Nat) (ea : Option Addr) (en ec : Nat) (d : En) (ds : List Dr) (es : List En) (w : World) (hD : DoorsAt w da dn ds) (hE : EntriesAt w ea en es) (hdn : dn ≤ 6) (hen : en ≤ 16) (hs : es.Pairwise (fun e d => lessE e d = true)) :
    Calls Tryz.prog 101 #[.agg #[.int .i64 ad, .int .i64 ln, .int .i64 ow, .int .i64 lo, .int .i64 hi, .slice da dn dc, .int .i64 nw, .slice ea en ec], .agg #[.int .i64 d.k, .int .i64 d.pr, .int .i64 d.pp, .int .i64 d.o, .int .i64 d.i, .int .i64 d.ip, .int .i64 d.l]] w fun e w' => ∃ va vc ua uc i f, SearchAt es d i ∧ (f = true ↔ ∃ y, es[i]? = some y ∧ sameK y d) ∧ e = .returned (.agg #[.int .i64 ad, .int .i64 ln, .int .i64 ow, .int .i64 lo, .int .i64 hi, .slice va dn vc, .int .i64 nw, .slice ua (putL es d i f).length uc]) ∧ OwnB w' w.heap.size (.slice va dn vc) ds (.slice ua (putL es d i f).length uc) (putL es d i f) ∧ Below w.heap.size w w' := by
  have hb0 := bl_alloc (bl_alloc (bl_alloc (bl_refl w) (.cells #[.int .i64 ad, .int .i64 ln, .int .i64 ow, .int .i64 lo, .int .i64 hi, .slice da dn dc, .int .i64 nw, .slice ea en ec] 26)) (.cells #[.int .i64 d.k, .int .i64 d.pr, .int .i64 d.pp, .int .i64 d.o, .int .i64 d.i, .int .i64 d.ip, .int .i64 d.l] 52)) (.cells #[.int .i64 0, .int .i64 0, .int .i64 0, .int .i64 0, .int .i64 0, .slice none 0 0, .int .i64 0, .slice none 0 0] 26)
  have x1 := ((Box.new w #[.int .i64 ad, .int .i64 ln, .int .i64 ow, .int .i64 lo, .int .i64 hi, .slice da dn dc, .int .i64 nw, .slice ea en ec] 26).below (bl_alloc (bl_refl _) (.cells #[.int .i64 d.k, .int .i64 d.pr, .int .i64 d.pp, .int .i64 d.o, .int .i64 d.i, .int .i64 d.ip, .int .i64 d.l] 52))).below (bl_alloc (bl_refl _) (.cells #[.int .i64 0, .int .i64 0, .int .i64 0, .int .i64 0, .int .i64 0, .slice none 0 0, .int .i64 0, .slice none 0 0] 26))
  have x2 := (Box.new (w.alloc (.cells #[.int .i64 ad, .int .i64 ln, .int .i64 ow, .int .i64 lo, .int .i64 hi, .slice da dn dc, .int .i64 nw, .slice ea en ec] 26)) #[.int .i64 d.k, .int .i64 d.pr, .int .i64 d.pp, .int .i64 d.o, .int .i64 d.i, .int .i64 d.ip, .int .i64 d.l] 52).below (bl_alloc (bl_refl _) (.cells #[.int .i64 0, .int .i64 0, .int .i64 0, .int .i64 0, .int .i64 0, .slice none 0 0, .int .i64 0, .slice none 0 0] 26))
  have bx := Bx.new ((w.alloc (.cells #[.int .i64 ad, .int .i64 ln, .int .i64 ow, .int .i64 lo, .int .i64 hi, .slice da dn dc, .int .i64 nw, .slice ea en ec] 26)).alloc (.cells #[.int .i64 d.k, .int .i64 d.pr, .int .i64 d.pp, .int .i64 d.o, .int .i64 d.i, .int .i64 d.ip, .int .i64 d.l] 52)) #[.int .i64 0, .int .i64 0, .int .i64 0, .int .i64 0, .int .i64 0, .slice none 0 0, .int .i64 0, .slice none 0 0] 26
  simp only [World.size_alloc] at bx x2
  have H1 : Hid (Calls Tryz.prog _ _ _ _) := natCopy_ret ad ln ow lo hi nw da dn dc ea en ec ds es _ (hD.below hb0) (hE.below hb0) (by omega) (by omega)
  have hdl' : Hid (dn = ds.length) := hD.1
  have hel' : Hid (en = es.length) := hE.1
  replace hs : Hid (es.Pairwise (fun e d => lessE e d = true)) := hs
  clear hD hE
  go_enter Tryz.func101, Tryz.ntmps101
  go_wp2_with fail
  refine H1.out.mono ?_
  rintro e w1 ⟨va, vc, ua, uc, rfl, hO, hb1⟩
  have hB1 := bl_trans hb0 hb1
  replace x1 := x1.below hb1
  replace x2 := x2.below hb1
  replace bx := bx.below hb1
  have hs0 := hb1.size
  simp only [World.size_alloc] at hs0
  clear H1
  have x4 := Bx.new w1 #[.int .i64 ad, .int .i64 ln, .int .i64 ow, .int .i64 lo, .int .i64 hi, .slice va dn vc, .int .i64 nw, .slice ua en uc] 26
  have hBl := bl_alloc (bl_refl w1) (.cells #[.int .i64 ad, .int .i64 ln, .int .i64 ow, .int .i64 lo, .int .i64 hi, .slice va dn vc, .int .i64 nw, .slice ua en uc] 26)
  have hB2 := bl_trans hB1 hBl
  replace x1 := x1.below hBl
  replace x2 := x2.below hBl
  replace bx := bx.below hBl
  have hOl := hO
  replace hO := hO.below hBl
  go_upto_region 2 with fail
  generalize hnx : w1.heap.size = nx at *
  generalize w1.alloc (.cells #[.int .i64 ad, .int .i64 ln, .int .i64 ow, .int .i64 lo, .int .i64 hi, .slice va dn vc, .int .i64 nw, .slice ua en uc] 26) = W2 at *
  have hOd := own_mono hO.1 (show w.heap.size + 3 ≤ ((((w.alloc (.cells #[.int .i64 ad, .int .i64 ln, .int .i64 ow, .int .i64 lo, .int .i64 hi, .slice da dn dc, .int .i64 nw, .slice ea en ec] 26)).alloc (.cells #[.int .i64 d.k, .int .i64 d.pr, .int .i64 d.pp, .int .i64 d.o, .int .i64 d.i, .int .i64 d.ip, .int .i64 d.l] 52)).alloc (.cells #[.int .i64 0, .int .i64 0, .int .i64 0, .int .i64 0, .int .i64 0, .slice none 0 0, .int .i64 0, .slice none 0 0] 26))).heap.size by simp only [World.size_alloc]; omega)
  have hOe := own_mono hO.2.1 (show w.heap.size + 3 ≤ ((((w.alloc (.cells #[.int .i64 ad, .int .i64 ln, .int .i64 ow, .int .i64 lo, .int .i64 hi, .slice da dn dc, .int .i64 nw, .slice ea en ec] 26)).alloc (.cells #[.int .i64 d.k, .int .i64 d.pr, .int .i64 d.pp, .int .i64 d.o, .int .i64 d.i, .int .i64 d.ip, .int .i64 d.l] 52)).alloc (.cells #[.int .i64 0, .int .i64 0, .int .i64 0, .int .i64 0, .int .i64 0, .slice none 0 0, .int .i64 0, .slice none 0 0] 26))).heap.size by simp only [World.size_alloc]; omega)
  have hOx := hO.2.2
  have hld : ∀ k, (Value.slice va dn vc).ownBlock = some k → k < nx := fun k hk => by have := (hOl.1.lt k hk).2; omega
  have hle : ∀ k, (Value.slice ua en uc).ownBlock = some k → k < nx := fun k hk => by have := (hOl.2.1.lt k hk).2; omega
  clear hO hOl x1 hBl hb0 hb1 hB1
  rw [← hel'.out] at hOe
  have hx40 := x4.1.1
  have H2 : Hid (Calls Tryz.prog _ _ _ _) := search_own (w.heap.size + 3) ua uc en es d W2 hOe hel'.out (by omega) hs.out
  obtain ⟨⟨q1, q2⟩, q3⟩ := id x4
  obtain ⟨p1, p2⟩ := id x2
  go_wp2_with fail
  refine H2.out.mono ?_
  rintro e w3 ⟨⟨i, f, rfl, hsa, hf⟩, hb3⟩
  clear q1 q2 q3 p1 p2 H2
  have hB3 := bl_trans hB2 hb3
  replace x2 := x2.below hb3
  replace bx := bx.below hb3
  replace x4 := x4.below hb3
  replace hOd := ownsRow_bl hOd hb3
  replace hOe := ownsRow_bl hOe hb3
  have hs3 := hb3.size
  have hn3 : nx < w3.heap.size := Nat.lt_of_lt_of_le hx40 hs3
  clear hb3 hB2
  obtain ⟨⟨q1, q2⟩, q3⟩ := id x4
  obtain ⟨p1, p2⟩ := id x2
  replace hf : Hid (f = true ↔ ∃ y, es[i]? = some y ∧ sameK y d) := hf
  cases f with
  | true =>
    obtain ⟨y, hy, hk⟩ := hf.out.1 rfl
    have hil : i < en := by have h1 := get_lt hy; have h2 := hel'.out; omega
    have hi' : (i : Int) < (en : Int) := by omega
    clear hy hk y
    obtain ⟨g, cap, hsl, hg0, hg1, hcap, hmx⟩ := own_form hOe (by omega)
    simp only [Value.slice.injEq] at hsl
    obtain ⟨rfl, -, rfl⟩ := hsl
    obtain ⟨hR, -, -, -⟩ := row_of_own hOe
    have hcs : Hid (EnCells w3 g 0 es) := enCells_of_own (by rw [← hel'.out]; exact hOe) hel'.out
    have hgn : nx ≠ g := fun e => by have := hle g rfl; omega
    have hgd : ∀ k, (Value.slice va dn vc).ownBlock = some k → k ≠ g := fun k hk e => hOx k hk (by rw [e]; rfl)
    clear hOe hle hOx
    obtain ⟨v0, e0⟩ := hR.cell (j := i * 7) (by omega)
    have z0 := hR.frozen (i * 7)
    obtain ⟨v1, e1⟩ := hR.cell (j := i * 7 + 1) (by omega)
    have z1 := hR.frozen (i * 7 + 1)
    obtain ⟨v2, e2⟩ := hR.cell (j := i * 7 + 2) (by omega)
    have z2 := hR.frozen (i * 7 + 2)
    obtain ⟨v3, e3⟩ := hR.cell (j := i * 7 + 3) (by omega)
    have z3 := hR.frozen (i * 7 + 3)
    obtain ⟨v4, e4⟩ := hR.cell (j := i * 7 + 4) (by omega)
    have z4 := hR.frozen (i * 7 + 4)
    obtain ⟨v5, e5⟩ := hR.cell (j := i * 7 + 5) (by omega)
    have z5 := hR.frozen (i * 7 + 5)
    obtain ⟨v6, e6⟩ := hR.cell (j := i * 7 + 6) (by omega)
    have z6 := hR.frozen (i * 7 + 6)
    go_upto_region 5 with fail
    generalize hW4 : (World.setCell (World.setCell (World.setCell (World.setCell (World.setCell (World.setCell (World.setCell w3 ⟨g, i * 7, none⟩ (.int .i64 d.k)) ⟨g, i * 7 + 1, none⟩ (.int .i64 d.pr)) ⟨g, i * 7 + 2, none⟩ (.int .i64 d.pp)) ⟨g, i * 7 + 3, none⟩ (.int .i64 d.o)) ⟨g, i * 7 + 4, none⟩ (.int .i64 d.i)) ⟨g, i * 7 + 5, none⟩ (.int .i64 d.ip)) ⟨g, i * 7 + 6, none⟩ (.int .i64 d.l)) = W4
    have hp : put7 w3 g (i * 7) d = W4 := hW4
    clear hW4 e0 e1 e2 e3 e4 e5 e6 z0 z1 z2 z3 z4 z5 z6 q1 q2 q3 p1 p2 x2
    have hE4 := en_over (d := d) (i := i) hcs.out hR (by have h2 := hel'.out; omega) (by have h2 := hel'.out; omega)
    have hR4 := put7_row (p := i * 7) (d := d) hR
    have hO4 := own_of_row hR4 hg0 (by have h2 := hel'.out; simp only [List.length_set]; omega) hmx hE4
    replace x4 := bx_put7 (p := i * 7) (d := d) x4 hgn
    replace bx := bx_put7 (g := g) (p := i * 7) (d := d) bx (show w.heap.size + 1 + 1 ≠ g by omega)
    replace hOd := own_put7 (p := i * 7) (d := d) hOd hgd
    replace hB3 := bl_put7 (g := g) (p := i * 7) (d := d) hB3 (show w.heap.size ≤ g by omega)
    have hgd2 : ∀ k, (Value.slice va dn vc).ownBlock = some k → (Value.slice (some ⟨g, 0, none⟩) (putL es d i true).length uc).ownBlock ≠ some k := fun k h1 h2 => hgd k h1 (Option.some.inj h2).symm
    clear hE4 hR4 hR hcs
    rw [hp] at x4 bx hOd hB3 hO4
    clear hp
    obtain ⟨⟨q1, q2⟩, q3⟩ := id x4
    obtain ⟨⟨p1, p2⟩, p3⟩ := id bx
    clear x4 hgd hld hgn
    go_wp2_with fail
    have hbv := bx.set8 (.int .i64 ad) (.int .i64 ln) (.int .i64 ow) (.int .i64 lo) (.int .i64 hi) (.slice va dn vc) (.int .i64 nw) (.slice (some ⟨g, 0, none⟩) en uc)
    obtain ⟨⟨t1, t2⟩, t3⟩ := id hbv
    have hpl : (putL es d i true).length = en := by show (es.set i d).length = _; rw [List.length_set, hel'.out]
    refine bodyPost_ret (v := .agg #[.int .i64 ad, .int .i64 ln, .int .i64 ow, .int .i64 lo, .int .i64 hi, .slice va dn vc, .int .i64 nw, .slice (some ⟨g, 0, none⟩) en uc]) (by simp [results, Tryz.results101, go_sem, t2]) rfl ⟨va, vc, some ⟨g, 0, none⟩, uc, i, true, hsa, by simpa using hf.out, by rw [hpl], ⟨?_, ?_, hgd2⟩, bl_set8 hB3 (n := w.heap.size + 1 + 1) (by omega) (.int .i64 ad) (.int .i64 ln) (.int .i64 ow) (.int .i64 lo) (.int .i64 hi) (.slice va dn vc) (.int .i64 nw) (.slice (some ⟨g, 0, none⟩) en uc)⟩
    · exact own_mono (own_other8 hOd (m := w.heap.size + 1 + 1) (by omega) (.int .i64 ad) (.int .i64 ln) (.int .i64 ow) (.int .i64 lo) (.int .i64 hi) (.slice va dn vc) (.int .i64 nw) (.slice (some ⟨g, 0, none⟩) en uc)) (by omega)
    · exact own_mono (own_other8 hO4 (m := w.heap.size + 1 + 1) (by omega) (.int .i64 ad) (.int .i64 ln) (.int .i64 ow) (.int .i64 lo) (.int .i64 hi) (.slice va dn vc) (.int .i64 nw) (.slice (some ⟨g, 0, none⟩) en uc)) (by omega)
  | false =>
    go_upto_region 6 with fail
    have hBl := bl_alloc (bl_refl w3) (.cells #[.int .i64 d.k, .int .i64 d.pr, .int .i64 d.pp, .int .i64 d.o, .int .i64 d.i, .int .i64 d.ip, .int .i64 d.l] 52)
    have hB4 := bl_trans hB3 hBl
    replace x2 := x2.below hBl
    replace bx := bx.below hBl
    replace x4 := x4.below hBl
    replace hOd := ownsRow_bl hOd hBl
    replace hOe := ownsRow_bl hOe hBl
    have hv : IsRow (w3.alloc (.cells #[.int .i64 d.k, .int .i64 d.pr, .int .i64 d.pp, .int .i64 d.o, .int .i64 d.i, .int .i64 d.ip, .int .i64 d.l] 52)) w3.heap.size 52 7 := IsRow.made w3 #[.int .i64 d.k, .int .i64 d.pr, .int .i64 d.pp, .int .i64 d.o, .int .i64 d.i, .int .i64 d.ip, .int .i64 d.l] 52
    have hvs : Hid (∀ j v, (enV d)[j]? = some v → (w3.alloc (.cells #[.int .i64 d.k, .int .i64 d.pr, .int .i64 d.pp, .int .i64 d.o, .int .i64 d.i, .int .i64 d.ip, .int .i64 d.l] 52)).cell? ⟨w3.heap.size, j, none⟩ = some v) := fun j v hj => by
      rw [new_cell, show #[.int .i64 d.k, .int .i64 d.pr, .int .i64 d.pp, .int .i64 d.o, .int .i64 d.i, .int .i64 d.ip, .int .i64 d.l] = (enV d).toArray from rfl, List.getElem?_toArray]; exact hj
    have H4 : Hid (Calls Tryz.prog _ _ _ _) := insert_own (w.heap.size + 3) ua uc en i w3.heap.size es d _ hOe hel'.out (by have := hsa.1; have := hel'.out; omega) hen (by have := hB4.size; simp only [World.size_alloc] at *; omega) hv hvs.out (fun e => by have := hle _ e; omega)
    clear hvs
    go_wp2_with fail
    refine H4.out.mono ?_
    rintro e w5 ⟨v, rfl, hown, hF, hvb⟩
    clear H4 q1 q2 q3 p1 p2 hBl hv
    obtain ⟨a', c', rfl⟩ := own_slice hown
    have hrow : ∀ k, (Value.slice ua en uc).ownBlock = some k → w.heap.size + 3 ≤ k := fun k hk => (hOe.lt k hk).1
    have hB5 := hF.bl hB4 (fun k hk => by have := hrow k hk; omega)
    replace x4 := hF.bx x4 (fun e => by have := hle nx e; omega)
    replace bx := hF.bx bx (fun e => by have := hrow _ e; omega)
    replace hOd := hF.own hOd hOx
    have hOx2 : ∀ k, (Value.slice va dn vc).ownBlock = some k → (Value.slice a' (en + 1) c').ownBlock ≠ some k := fun k h1 h2 => by
      rcases hvb with h | h
      · exact hOx k h1 (h ▸ h2)
      · rw [h] at h2; have := Option.some.inj h2; have := hld k h1; simp only [World.size_alloc] at *; omega
    have hle2 : ∀ k, (Value.slice a' (en + 1) c').ownBlock = some k → k ≠ nx := fun k h2 => by
      rcases hvb with h | h
      · have := hle k (h ▸ h2); omega
      · rw [h] at h2; have := Option.some.inj h2; simp only [World.size_alloc] at *; omega
    have hld2 : ∀ k, (Value.slice va dn vc).ownBlock = some k → k ≠ nx := fun k hk => Nat.ne_of_lt (hld k hk)
    clear hF hB4 hOe hvb
    obtain ⟨⟨q1, q2⟩, q3⟩ := id x4
    go_upto_region 7 with fail
    clear q1 q2 q3
    replace x4 : Bx _ nx #[.int .i64 ad, .int .i64 ln, .int .i64 ow, .int .i64 lo, .int .i64 hi, .slice va dn vc, .int .i64 nw, .slice a' (en + 1) c'] := x4.set (j := 7) (by simp) (.slice a' (en + 1) c')
    replace bx := bx.other (m := nx) (j := 7) (by omega) (.slice a' (en + 1) c')
    replace hOd := own_ne hOd hld2 (j := 7) (.slice a' (en + 1) c')
    replace hown := own_ne hown hle2 (j := 7) (.slice a' (en + 1) c')
    replace hB5 := bl_set (p := ⟨nx, 7, none⟩) hB5 (by simp; omega) (.slice a' (en + 1) c')
    generalize w5.setCell ⟨nx, 7, none⟩ (.slice a' (en + 1) c') = W6 at *
    obtain ⟨⟨q1, q2⟩, q3⟩ := id x4
    obtain ⟨⟨p1, p2⟩, p3⟩ := id bx
    go_wp2_with fail
    have hbv := bx.set8 (.int .i64 ad) (.int .i64 ln) (.int .i64 ow) (.int .i64 lo) (.int .i64 hi) (.slice va dn vc) (.int .i64 nw) (.slice a' (en + 1) c')
    obtain ⟨⟨t1, t2⟩, t3⟩ := id hbv
    have hpl : (putL es d i false).length = en + 1 := by show (insL es i d).length = _; rw [insL_length, hel'.out]
    refine bodyPost_ret (v := .agg #[.int .i64 ad, .int .i64 ln, .int .i64 ow, .int .i64 lo, .int .i64 hi, .slice va dn vc, .int .i64 nw, .slice a' (en + 1) c']) (by simp [results, Tryz.results101, go_sem, t2]) rfl ⟨va, vc, a', c', i, false, hsa, hf.out, by rw [hpl], ⟨?_, ?_, by rw [hpl]; exact hOx2⟩, bl_set8 hB5 (n := w.heap.size + 1 + 1) (by omega) (.int .i64 ad) (.int .i64 ln) (.int .i64 ow) (.int .i64 lo) (.int .i64 hi) (.slice va dn vc) (.int .i64 nw) (.slice a' (en + 1) c')⟩
    · exact own_mono (own_other8 hOd (m := w.heap.size + 1 + 1) (by omega) (.int .i64 ad) (.int .i64 ln) (.int .i64 ow) (.int .i64 lo) (.int .i64 hi) (.slice va dn vc) (.int .i64 nw) (.slice a' (en + 1) c')) (by omega)
    · rw [hpl]
      exact own_mono (own_other8 hown (m := w.heap.size + 1 + 1) (by omega) (.int .i64 ad) (.int .i64 ln) (.int .i64 ow) (.int .i64 lo) (.int .i64 hi) (.slice va dn vc) (.int .i64 nw) (.slice a' (en + 1) c')) (by omega)
end Go.Proofs.YtcgjpmhjijmplaaGreatDoor
