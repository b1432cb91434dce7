/- Draws: the specification's l5Any, and the draws of books beside flows, walked. -/
import Derived.Test.YtcgjpmhjijmplaaGreatDoorDraw14
import Derived.Test.YtcgjpmhjijmplaaGreatDoorDraw8
namespace Go.Proofs.YtcgjpmhjijmplaaGreatDoor
open Go.ChangeShapes Go.WideShapes Go.ChangeAt Go.RowKit Go.Maps

set_option maxRecDepth 20000 in
set_option maxHeartbeats 4000000 in
theorem any_ret (R : Nat) (n : Int) (w0 : World) (h : Rb w0 R n) (hn : n ≤ 500000000) :
    Calls Tryz.prog 61 #[.pointer (some ⟨R, 0, none⟩)] w0 fun e w' => DrawnA w' w0.heap.size e ∧ Apart R w0 w' ∧ Rb w' R (n + 2000000) := by
  have hR := h.lt
  have hBl := bl_alloc (bl_refl w0) (.cells #[.int .i64 0, .int .i64 0, .int .i64 0, .int .i64 0, .int .i64 0, .slice none 0 0, .int .i64 0, .slice none 0 0] 26)
  have HC : Apart R w0 _ := ap_of_bl hBl
  have HR := h.below hBl
  have bx := Bx.new w0 #[.int .i64 0, .int .i64 0, .int .i64 0, .int .i64 0, .int .i64 0, .slice none 0 0, .int .i64 0, .slice none 0 0] 26
  have H1 : Hid (Calls Tryz.prog _ _ _ _) := book_ret R n _ HR (by omega)
  clear hBl h
  go_enter Tryz.func61, Tryz.ntmps61
  go_wp2_with fail
  refine H1.out.mono ?_
  rintro e w1 ⟨⟨B, va, vc, ua, uc, rfl, hD, hE, hd1, he1, a0, a1⟩, ha, hr⟩
  have hs1 := ha.size
  simp only [World.size_alloc] at hD hE hs1
  replace bx := bx.apart ha (by omega)
  replace HC := ap_trans HC ha
  clear H1 ha HR
  have bb := Bx.new w1 #[.int .i64 B.ad, .int .i64 B.ln, .int .i64 B.ow, .int .i64 B.lo, .int .i64 B.hi, .slice va B.ds.length vc, .int .i64 B.nw, .slice ua B.es.length uc] 26
  have hBl := bl_alloc (bl_refl w1) (.cells #[.int .i64 B.ad, .int .i64 B.ln, .int .i64 B.ow, .int .i64 B.lo, .int .i64 B.hi, .slice va B.ds.length vc, .int .i64 B.nw, .slice ua B.es.length uc] 26)
  replace bx := bx.below hBl
  replace HC := ap_trans HC (ap_of_bl hBl)
  replace hr := hr.below hBl
  replace hD := hD.apart (ap_of_bl (R := R) hBl) (by omega)
  replace hE := hE.apart (ap_of_bl (R := R) hBl) (by omega)
  clear hBl
  go_wp2_with fail
  refine (pick_rb R _ 24 _ hr (by omega) (by omega) (by omega)).mono ?_
  rintro e w2 ⟨⟨y, rfl, y0, y1⟩, ha, hr⟩
  have hs2 := ha.size
  simp only [World.size_alloc] at hs2
  replace bb := bb.apart ha (by omega)
  replace bx := bx.apart ha (by omega)
  replace HC := ap_trans HC ha
  replace hD := hD.apart ha (by omega)
  replace hE := hE.apart ha (by omega)
  clear ha
  generalize w1.heap.size = nb at *
  by_cases hy : y = 0
  · subst hy
    have H3 : Hid (Calls Tryz.prog _ _ _ _) := spoilB_ret R _ B.ad B.ln B.ow B.lo B.hi B.nw va B.ds.length vc ua B.es.length uc B.ds B.es w2 hr (by omega) a0 a1 hD.at hE.at hd1 he1
    obtain ⟨⟨p1, p2⟩, p3⟩ := id bb
    go_wp2_with fail
    refine H3.out.mono ?_
    rintro e w3 ⟨⟨B2, pa, pc, ra, rc, rfl, hD2, hE2, hl1, hl2, hl3, hl4⟩, ha, hr⟩
    replace bx := bx.apart ha (by omega)
    replace HC := ap_trans HC ha
    clear ha H3 p1 p2 p3 bb hD hE
    obtain ⟨⟨q1, q2⟩, q3⟩ := id bx
    go_wp2_with fail
    have hbv := bx.set8 (.int .i64 B2.ad) (.int .i64 B2.ln) (.int .i64 B2.ow) (.int .i64 B2.lo) (.int .i64 B2.hi) (.slice pa B2.ds.length pc) (.int .i64 B2.nw) (.slice ra B2.es.length rc)
    obtain ⟨⟨t1, t2⟩, t3⟩ := id hbv
    exact bodyPost_ret (v := .agg #[.int .i64 B2.ad, .int .i64 B2.ln, .int .i64 B2.ow, .int .i64 B2.lo, .int .i64 B2.hi, .slice pa B2.ds.length pc, .int .i64 B2.nw, .slice ra B2.es.length rc]) (by simp [results, Tryz.results61, go_sem, t2]) rfl ⟨⟨B2, pa, pc, ra, rc, rfl, hD2.out (x := w0.heap.size) (by omega) (.int .i64 B2.ad) (.int .i64 B2.ln) (.int .i64 B2.ow) (.int .i64 B2.lo) (.int .i64 B2.hi) (.slice pa B2.ds.length pc) (.int .i64 B2.nw) (.slice ra B2.es.length rc), hE2.out (x := w0.heap.size) (by omega) (.int .i64 B2.ad) (.int .i64 B2.ln) (.int .i64 B2.ow) (.int .i64 B2.lo) (.int .i64 B2.hi) (.slice pa B2.ds.length pc) (.int .i64 B2.nw) (.slice ra B2.es.length rc), hl1, hl2, hl3, hl4⟩, ap_set8x HC (n := w0.heap.size) (by omega) (.int .i64 B2.ad) (.int .i64 B2.ln) (.int .i64 B2.ow) (.int .i64 B2.lo) (.int .i64 B2.hi) (.slice pa B2.ds.length pc) (.int .i64 B2.nw) (.slice ra B2.es.length rc), (rb_set8 hr (n := w0.heap.size) (by omega) (.int .i64 B2.ad) (.int .i64 B2.ln) (.int .i64 B2.ow) (.int .i64 B2.lo) (.int .i64 B2.hi) (.slice pa B2.ds.length pc) (.int .i64 B2.nw) (.slice ra B2.es.length rc)).le (by omega)⟩
  · have hy' : (y == 0) = false := by simpa using hy
    obtain ⟨⟨p1, p2⟩, p3⟩ := id bb
    obtain ⟨⟨q1, q2⟩, q3⟩ := id bx
    go_wp2_with fail
    have hbv := bx.set8 (.int .i64 B.ad) (.int .i64 B.ln) (.int .i64 B.ow) (.int .i64 B.lo) (.int .i64 B.hi) (.slice va B.ds.length vc) (.int .i64 B.nw) (.slice ua B.es.length uc)
    obtain ⟨⟨t1, t2⟩, t3⟩ := id hbv
    exact bodyPost_ret (v := .agg #[.int .i64 B.ad, .int .i64 B.ln, .int .i64 B.ow, .int .i64 B.lo, .int .i64 B.hi, .slice va B.ds.length vc, .int .i64 B.nw, .slice ua B.es.length uc]) (by simp [results, Tryz.results61, go_sem, t2]) rfl ⟨⟨B, va, vc, ua, uc, rfl, hD.out (x := w0.heap.size) (by omega) (.int .i64 B.ad) (.int .i64 B.ln) (.int .i64 B.ow) (.int .i64 B.lo) (.int .i64 B.hi) (.slice va B.ds.length vc) (.int .i64 B.nw) (.slice ua B.es.length uc), hE.out (x := w0.heap.size) (by omega) (.int .i64 B.ad) (.int .i64 B.ln) (.int .i64 B.ow) (.int .i64 B.lo) (.int .i64 B.hi) (.slice va B.ds.length vc) (.int .i64 B.nw) (.slice ua B.es.length uc), hd1, by omega, by omega, by omega⟩, ap_set8x HC (n := w0.heap.size) (by omega) (.int .i64 B.ad) (.int .i64 B.ln) (.int .i64 B.ow) (.int .i64 B.lo) (.int .i64 B.hi) (.slice va B.ds.length vc) (.int .i64 B.nw) (.slice ua B.es.length uc), (rb_set8 hr (n := w0.heap.size) (by omega) (.int .i64 B.ad) (.int .i64 B.ln) (.int .i64 B.ow) (.int .i64 B.lo) (.int .i64 B.hi) (.slice va B.ds.length vc) (.int .i64 B.nw) (.slice ua B.es.length uc)).le (by omega)⟩

/-- A book and a flow, drawn. -/
def DrawnF (w' : World) (q : Nat) (e : Ending) : Prop := ∃ (B : Bk) (va : Option Addr) (vc : Nat) (ua : Option Addr) (uc : Nat) (k a ap b bp : Int), e = .returned (.tuple #[.agg #[.int .i64 B.ad, .int .i64 B.ln, .int .i64 B.ow, .int .i64 B.lo, .int .i64 B.hi, .slice va B.ds.length vc, .int .i64 B.nw, .slice ua B.es.length uc], .agg #[.int .i64 k, .int .i64 a, .int .i64 ap, .int .i64 b, .int .i64 bp]]) ∧ DoorsL w' q va B.ds.length B.ds ∧ EntriesL w' q ua B.es.length B.es ∧ B.ds.length ≤ 100 ∧ B.es.length ≤ 200
theorem DrawnA.out {w w' : World} {q : Nat} {e : Ending} (h : DrawnA w q e) (hb : Below w.heap.size w w') : DrawnA w' q e := by
  obtain ⟨B, va, vc, ua, uc, h1, h2, h3, h4⟩ := h
  refine ⟨B, va, vc, ua, uc, h1, ⟨h2.1, h2.2.imp id fun ⟨b, o, x1, x2, x3, x4⟩ => ⟨b, o, x1, x2, Nat.lt_of_lt_of_le x3 hb.size, fun i d hi => ?_⟩⟩, ⟨h3.1, h3.2.imp id fun ⟨b, o, x1, x2, x3, x4⟩ => ⟨b, o, x1, x2, Nat.lt_of_lt_of_le x3 hb.size, fun i d hi => ?_⟩⟩, h4⟩
  · obtain ⟨c0, c1, c2, c3⟩ := x4 i d hi
    refine ⟨?_, ?_, ?_, ?_⟩ <;> (rw [hb.cell x3]; assumption)
  · obtain ⟨c0, c1, c2, c3, c4, c5, c6⟩ := x4 i d hi
    refine ⟨?_, ?_, ?_, ?_, ?_, ?_, ?_⟩ <;> (rw [hb.cell x3]; assumption)
theorem DoorsL.off {w : World} {q : Nat} {da : Option Addr} {dn x : Nat} {ds : List Dr} (hh : DoorsL w q da dn ds) (hx : w.heap.size ≤ x) : Hid (ds ≠ [] → ∀ b o, da = some ⟨b, o, none⟩ → b ≠ x) := by
  show ds ≠ [] → ∀ b o, da = some ⟨b, o, none⟩ → b ≠ x
  intro hne b o hb
  rcases hh.2 with h | ⟨b', o', h1, _, h3, _⟩
  · exact absurd h hne
  · rw [h1] at hb
    simp only [Option.some.injEq, Addr.mk.injEq] at hb
    omega
theorem DoorsL.cell1 {w : World} {q : Nat} {da : Option Addr} {dn x j : Nat} {ds : List Dr} (hh : DoorsL w q da dn ds) (hx : ds ≠ [] → ∀ b o, da = some ⟨b, o, none⟩ → q ≤ b → b ≠ x) (v : Value) : DoorsL (w.setCell ⟨x, j, none⟩ v) q da dn ds := by
  refine ⟨hh.1, ?_⟩
  rcases hh.2 with h | ⟨b, o, h1, h2, h3, h4⟩
  · exact Or.inl h
  · by_cases hne : ds = []
    · exact Or.inl hne
    · have hb := hx hne b o h1 h2
      refine Or.inr ⟨b, o, h1, h2, by simpa [World.setCell] using h3, fun i d hi => ?_⟩
      obtain ⟨c0, c1, c2, c3⟩ := h4 i d hi
      refine ⟨?_, ?_, ?_, ?_⟩ <;> (rw [World.cell?_setCell_other _ _ _ _ (fun e => by injection e with e1; omega)]; assumption)
theorem DoorsL.keep8 {w : World} {q : Nat} {da : Option Addr} {dn x : Nat} {ds : List Dr} (hh : DoorsL w q da dn ds) (hx : x < q) (a b c d e f g i : Value) : DoorsL (World.setCell (World.setCell (World.setCell (World.setCell (World.setCell (World.setCell (World.setCell (World.setCell w ⟨x, 0, none⟩ (a)) ⟨x, 1, none⟩ (b)) ⟨x, 2, none⟩ (c)) ⟨x, 3, none⟩ (d)) ⟨x, 4, none⟩ (e)) ⟨x, 5, none⟩ (f)) ⟨x, 6, none⟩ (g)) ⟨x, 7, none⟩ (i)) q da dn ds := by
  have h1 : ds ≠ [] → ∀ b o, da = some ⟨b, o, none⟩ → q ≤ b → b ≠ x := fun _ b o _ h => by omega
  exact (((((((hh.cell1 h1 a).cell1 h1 b).cell1 h1 c).cell1 h1 d).cell1 h1 e).cell1 h1 f).cell1 h1 g).cell1 h1 i
theorem DoorsL.keep5 {w : World} {q : Nat} {da : Option Addr} {dn x : Nat} {ds : List Dr} (hh : DoorsL w q da dn ds) (hx : x < q) (a b c d e : Value) : DoorsL (World.setCell (World.setCell (World.setCell (World.setCell (World.setCell w ⟨x, 0, none⟩ (a)) ⟨x, 1, none⟩ (b)) ⟨x, 2, none⟩ (c)) ⟨x, 3, none⟩ (d)) ⟨x, 4, none⟩ (e)) q da dn ds := by
  have h1 : ds ≠ [] → ∀ b o, da = some ⟨b, o, none⟩ → q ≤ b → b ≠ x := fun _ b o _ h => by omega
  exact ((((hh.cell1 h1 a).cell1 h1 b).cell1 h1 c).cell1 h1 d).cell1 h1 e
theorem DoorsL.far5 {w : World} {q : Nat} {da : Option Addr} {dn x : Nat} {ds : List Dr} (hh : DoorsL w q da dn ds) (hx : Hid (ds ≠ [] → ∀ b o, da = some ⟨b, o, none⟩ → b ≠ x)) (a b c d e : Value) : DoorsL (World.setCell (World.setCell (World.setCell (World.setCell (World.setCell w ⟨x, 0, none⟩ (a)) ⟨x, 1, none⟩ (b)) ⟨x, 2, none⟩ (c)) ⟨x, 3, none⟩ (d)) ⟨x, 4, none⟩ (e)) q da dn ds := by
  have h1 : ds ≠ [] → ∀ b o, da = some ⟨b, o, none⟩ → q ≤ b → b ≠ x := fun h b o h2 _ => hx.out h b o h2
  exact ((((hh.cell1 h1 a).cell1 h1 b).cell1 h1 c).cell1 h1 d).cell1 h1 e
theorem EntriesL.off {w : World} {q : Nat} {da : Option Addr} {dn x : Nat} {ds : List En} (hh : EntriesL w q da dn ds) (hx : w.heap.size ≤ x) : Hid (ds ≠ [] → ∀ b o, da = some ⟨b, o, none⟩ → b ≠ x) := by
  show ds ≠ [] → ∀ b o, da = some ⟨b, o, none⟩ → b ≠ x
  intro hne b o hb
  rcases hh.2 with h | ⟨b', o', h1, _, h3, _⟩
  · exact absurd h hne
  · rw [h1] at hb
    simp only [Option.some.injEq, Addr.mk.injEq] at hb
    omega
theorem EntriesL.cell1 {w : World} {q : Nat} {da : Option Addr} {dn x j : Nat} {ds : List En} (hh : EntriesL w q da dn ds) (hx : ds ≠ [] → ∀ b o, da = some ⟨b, o, none⟩ → q ≤ b → b ≠ x) (v : Value) : EntriesL (w.setCell ⟨x, j, none⟩ v) q da dn ds := by
  refine ⟨hh.1, ?_⟩
  rcases hh.2 with h | ⟨b, o, h1, h2, h3, h4⟩
  · exact Or.inl h
  · by_cases hne : ds = []
    · exact Or.inl hne
    · have hb := hx hne b o h1 h2
      refine Or.inr ⟨b, o, h1, h2, by simpa [World.setCell] using h3, fun i d hi => ?_⟩
      obtain ⟨c0, c1, c2, c3, c4, c5, c6⟩ := h4 i d hi
      refine ⟨?_, ?_, ?_, ?_, ?_, ?_, ?_⟩ <;> (rw [World.cell?_setCell_other _ _ _ _ (fun e => by injection e with e1; omega)]; assumption)
theorem EntriesL.keep8 {w : World} {q : Nat} {da : Option Addr} {dn x : Nat} {ds : List En} (hh : EntriesL w q da dn ds) (hx : x < q) (a b c d e f g i : Value) : EntriesL (World.setCell (World.setCell (World.setCell (World.setCell (World.setCell (World.setCell (World.setCell (World.setCell w ⟨x, 0, none⟩ (a)) ⟨x, 1, none⟩ (b)) ⟨x, 2, none⟩ (c)) ⟨x, 3, none⟩ (d)) ⟨x, 4, none⟩ (e)) ⟨x, 5, none⟩ (f)) ⟨x, 6, none⟩ (g)) ⟨x, 7, none⟩ (i)) q da dn ds := by
  have h1 : ds ≠ [] → ∀ b o, da = some ⟨b, o, none⟩ → q ≤ b → b ≠ x := fun _ b o _ h => by omega
  exact (((((((hh.cell1 h1 a).cell1 h1 b).cell1 h1 c).cell1 h1 d).cell1 h1 e).cell1 h1 f).cell1 h1 g).cell1 h1 i
theorem EntriesL.keep5 {w : World} {q : Nat} {da : Option Addr} {dn x : Nat} {ds : List En} (hh : EntriesL w q da dn ds) (hx : x < q) (a b c d e : Value) : EntriesL (World.setCell (World.setCell (World.setCell (World.setCell (World.setCell w ⟨x, 0, none⟩ (a)) ⟨x, 1, none⟩ (b)) ⟨x, 2, none⟩ (c)) ⟨x, 3, none⟩ (d)) ⟨x, 4, none⟩ (e)) q da dn ds := by
  have h1 : ds ≠ [] → ∀ b o, da = some ⟨b, o, none⟩ → q ≤ b → b ≠ x := fun _ b o _ h => by omega
  exact ((((hh.cell1 h1 a).cell1 h1 b).cell1 h1 c).cell1 h1 d).cell1 h1 e
theorem EntriesL.far5 {w : World} {q : Nat} {da : Option Addr} {dn x : Nat} {ds : List En} (hh : EntriesL w q da dn ds) (hx : Hid (ds ≠ [] → ∀ b o, da = some ⟨b, o, none⟩ → b ≠ x)) (a b c d e : Value) : EntriesL (World.setCell (World.setCell (World.setCell (World.setCell (World.setCell w ⟨x, 0, none⟩ (a)) ⟨x, 1, none⟩ (b)) ⟨x, 2, none⟩ (c)) ⟨x, 3, none⟩ (d)) ⟨x, 4, none⟩ (e)) q da dn ds := by
  have h1 : ds ≠ [] → ∀ b o, da = some ⟨b, o, none⟩ → q ≤ b → b ≠ x := fun h b o h2 _ => hx.out h b o h2
  exact ((((hh.cell1 h1 a).cell1 h1 b).cell1 h1 c).cell1 h1 d).cell1 h1 e
theorem bl_set8d {w0 w : World} (h : Below w0.heap.size w0 w) {n : Nat} (hn : w0.heap.size ≤ n) (a b c d e f g i : Value) : Below w0.heap.size w0 (World.setCell (World.setCell (World.setCell (World.setCell (World.setCell (World.setCell (World.setCell (World.setCell w ⟨n, 0, none⟩ (a)) ⟨n, 1, none⟩ (b)) ⟨n, 2, none⟩ (c)) ⟨n, 3, none⟩ (d)) ⟨n, 4, none⟩ (e)) ⟨n, 5, none⟩ (f)) ⟨n, 6, none⟩ (g)) ⟨n, 7, none⟩ (i)) :=
  bl_set (bl_set (bl_set (bl_set (bl_set (bl_set (bl_set (bl_set h hn a) hn b) hn c) hn d) hn e) hn f) hn g) hn i
set_option maxRecDepth 20000 in
set_option maxHeartbeats 4000000 in
theorem drawOut_ret (ca : Option Addr) (cn cc : Nat) (w : World) (hn : cn ≤ cc) (hc : cc ≤ maxLen) (hb : BytesIn w ca cn) :
    Calls Tryz.prog 22 #[.slice ca cn cc] w fun e w' => DrawnF w' w.heap.size e ∧ Below w.heap.size w w' := by
  have hB0 := bl_alloc (bl_alloc (bl_refl w) (.cells #[.int .i64 0, .int .i64 0, .int .i64 0, .int .i64 0, .int .i64 0, .slice none 0 0, .int .i64 0, .slice none 0 0] 26)) (.cells #[.int .i64 0, .int .i64 0, .int .i64 0, .int .i64 0, .int .i64 0] 32)
  have bz := (Bx.new w #[.int .i64 0, .int .i64 0, .int .i64 0, .int .i64 0, .int .i64 0, .slice none 0 0, .int .i64 0, .slice none 0 0] 26).below (bl_alloc (bl_refl _) (.cells #[.int .i64 0, .int .i64 0, .int .i64 0, .int .i64 0, .int .i64 0] 32))
  have bx := Bx.new (w.alloc (.cells #[.int .i64 0, .int .i64 0, .int .i64 0, .int .i64 0, .int .i64 0, .slice none 0 0, .int .i64 0, .slice none 0 0] 26)) #[.int .i64 0, .int .i64 0, .int .i64 0, .int .i64 0, .int .i64 0] 32
  simp only [World.size_alloc] at bx
  have H1 : Hid (Calls Tryz.prog _ _ _ _) := open_ret ca cn cc _ hn hc (hb.below hB0)
  clear hn hc hb
  go_enter Tryz.func22, Tryz.ntmps22
  go_wp2_with fail
  refine H1.out.mono ?_
  rintro e w1 ⟨rfl, hb1, hrd⟩
  have hB1 := bl_trans hB0 hb1
  replace bx := bx.below hb1
  replace bz := bz.below hb1
  simp only [World.size_alloc] at hrd
  have HR : Rb w1 (w.heap.size + 1 + 1) 0 := ⟨0, by omega, by omega, hrd⟩
  generalize hRR : w.heap.size + 1 + 1 = R at *
  clear H1 hb1 hrd hB0
  go_wp2_with fail
  refine (any_ret R _ _ HR (by omega)).mono ?_
  rintro e w2 ⟨⟨B, va, vc, ua, uc, rfl, hD, hE, hl1, hl2, hl3, hl4⟩, ha, hr⟩
  have hRl := HR.lt
  have hs1 := ha.size
  replace hB1 := bl_of_ap hB1 ha (by omega)
  replace bx := bx.apart ha (by omega)
  replace bz := bz.apart ha (by omega)
  clear HR ha
  have bb := Bx.new w2 #[.int .i64 B.ad, .int .i64 B.ln, .int .i64 B.ow, .int .i64 B.lo, .int .i64 B.hi, .slice va B.ds.length vc, .int .i64 B.nw, .slice ua B.es.length uc] 26
  have hBl := bl_alloc (bl_refl w2) (.cells #[.int .i64 B.ad, .int .i64 B.ln, .int .i64 B.ow, .int .i64 B.lo, .int .i64 B.hi, .slice va B.ds.length vc, .int .i64 B.nw, .slice ua B.es.length uc] 26)
  replace bx := bx.below hBl
  replace bz := bz.below hBl
  replace hr := hr.below hBl
  replace hB1 := bl_trans hB1 hBl
  replace hD := hD.apart (ap_of_bl (R := R) hBl) (by omega)
  replace hE := hE.apart (ap_of_bl (R := R) hBl) (by omega)
  clear hBl
  have y1 := bb.1.2
  have H2 : Hid (Calls Tryz.prog _ _ _ _) := outflow_ret R _ B.ad B.ln B.ow B.lo B.hi B.nw va B.ds.length vc ua B.es.length uc B.ds B.es w1.heap.size _ hr (by omega) hl3 hl4 hD hE hRl hl1 hl2
  go_wp2_with fail
  refine H2.out.mono ?_
  rintro e w3 ⟨⟨k, a, ap, b, bp, rfl, -⟩, ha, hr⟩
  have hs2 := ha.size
  simp only [World.size_alloc] at hs2
  replace hB1 := bl_of_ap hB1 ha (by omega)
  replace bx := bx.apart ha (by omega)
  replace bz := bz.apart ha (by omega)
  replace bb := bb.apart ha (by omega)
  replace hD := hD.apart ha (by omega)
  replace hE := hE.apart ha (by omega)
  clear ha H2 y1
  generalize w2.heap.size = nb at *
  have hdf := hD.off (x := w3.heap.size) (Nat.le_refl _)
  have hef := hE.off (x := w3.heap.size) (Nat.le_refl _)
  have bf := Bx.new w3 #[.int .i64 k, .int .i64 a, .int .i64 ap, .int .i64 b, .int .i64 bp] 32
  have hBl := bl_alloc (bl_refl w3) (.cells #[.int .i64 k, .int .i64 a, .int .i64 ap, .int .i64 b, .int .i64 bp] 32)
  replace bx := bx.below hBl
  replace bz := bz.below hBl
  replace bb := bb.below hBl
  replace hr := hr.below hBl
  replace hB1 := bl_trans hB1 hBl
  replace hD := hD.apart (ap_of_bl (R := R) hBl) (by omega)
  replace hE := hE.apart (ap_of_bl (R := R) hBl) (by omega)
  clear hBl
  go_wp2_with fail
  refine (pick_rb R _ 16 _ hr (by omega) (by omega) (by omega)).mono ?_
  rintro e w4 ⟨⟨y, rfl, y0, y1⟩, ha, hr⟩
  replace hB1 := bl_of_ap hB1 ha (by omega)
  replace bx := bx.apart ha (by omega)
  replace bz := bz.apart ha (by omega)
  replace bb := bb.apart ha (by omega)
  replace bf := bf.apart ha (by omega)
  replace hD := hD.apart ha (by omega)
  replace hE := hE.apart ha (by omega)
  clear ha
  generalize w3.heap.size = nf at *
  by_cases hy : y = 0
  · subst hy
    have H3 : Hid (Calls Tryz.prog _ _ _ _) := spoil_ret R _ k a ap b bp _ hr (by omega)
    obtain ⟨⟨p1, p2⟩, p3⟩ := id bf
    go_wp2_with fail
    refine H3.out.mono ?_
    clear p1 p2 p3 H3
    rintro e w5 ⟨⟨k2, a2, ap2, b2, bp2, rfl⟩, ha, hr⟩
    replace hB1 := bl_of_ap hB1 ha (by omega)
    replace bx := bx.apart ha (by omega)
    replace bz := bz.apart ha (by omega)
    replace bb := bb.apart ha (by omega)
    replace bf := bf.apart ha (by omega)
    replace hD := hD.apart ha (by omega)
    replace hE := hE.apart ha (by omega)
    clear ha hr
    obtain ⟨⟨p1, p2⟩, p3⟩ := id bf
    go_upto_region 6 with fail
    replace bf := bf.set5 (.int .i64 k2) (.int .i64 a2) (.int .i64 ap2) (.int .i64 b2) (.int .i64 bp2)
    replace bx := bx.other5 (n := nf) (by omega) (.int .i64 k2) (.int .i64 a2) (.int .i64 ap2) (.int .i64 b2) (.int .i64 bp2)
    replace bz := bz.other5 (n := nf) (by omega) (.int .i64 k2) (.int .i64 a2) (.int .i64 ap2) (.int .i64 b2) (.int .i64 bp2)
    replace bb := bb.other5 (n := nf) (by omega) (.int .i64 k2) (.int .i64 a2) (.int .i64 ap2) (.int .i64 b2) (.int .i64 bp2)
    replace hD := hD.far5 (x := nf) hdf (.int .i64 k2) (.int .i64 a2) (.int .i64 ap2) (.int .i64 b2) (.int .i64 bp2)
    replace hE := hE.far5 (x := nf) hef (.int .i64 k2) (.int .i64 a2) (.int .i64 ap2) (.int .i64 b2) (.int .i64 bp2)
    replace hB1 := bl_set5d hB1 (n := nf) (by omega) (.int .i64 k2) (.int .i64 a2) (.int .i64 ap2) (.int .i64 b2) (.int .i64 bp2)
    clear p1 p2 p3
    generalize (World.setCell (World.setCell (World.setCell (World.setCell (World.setCell w5 ⟨nf, 0, none⟩ (.int .i64 k2)) ⟨nf, 1, none⟩ (.int .i64 a2)) ⟨nf, 2, none⟩ (.int .i64 ap2)) ⟨nf, 3, none⟩ (.int .i64 b2)) ⟨nf, 4, none⟩ (.int .i64 bp2)) = W6 at *
    go_upto_region 6 with fail
    refine wp_region_held_drew (S := (fun w' => Bx w' nb #[.int .i64 B.ad, .int .i64 B.ln, .int .i64 B.ow, .int .i64 B.lo, .int .i64 B.hi, .slice va B.ds.length vc, .int .i64 B.nw, .slice ua B.es.length uc] ∧ Bx w' nf #[.int .i64 k2, .int .i64 a2, .int .i64 ap2, .int .i64 b2, .int .i64 bp2])) (by kernel_rfl) ?_ (fun hHeld => ?_)
    · exact ⟨bb.below (bl_drew (bl_refl _)), bf.below (bl_drew (bl_refl _))⟩
    have hlq := bl_drew (bl_refl W6)
    replace bb := bb.below hlq
    replace bx := bx.below hlq
    replace bz := bz.below hlq
    replace bf := bf.below hlq
    replace hD := hD.apart (ap_of_bl (R := R) hlq) (by omega)
    replace hE := hE.apart (ap_of_bl (R := R) hlq) (by omega)
    replace hB1 := bl_trans hB1 hlq
    clear hlq
    generalize World.drew W6 = W0 at *
    refine takeL 0 20 ?_ ?_ hHeld ?_
    rotate_left
    · (intro w hSw; (try dsimp only at hSw); obtain ⟨⟨⟨hS1, hS2⟩, hS3⟩, ⟨hS4, hS5⟩, hS6⟩ := hSw; go_simp; try with_reducible rfl)
    simp only [Act.put, puA, puB, puC]
    refine takeL 1 21 ?_ ?_ hHeld ?_
    rotate_left
    · (intro w hSw; (try dsimp only at hSw); obtain ⟨⟨⟨hS1, hS2⟩, hS3⟩, ⟨hS4, hS5⟩, hS6⟩ := hSw; go_simp; try with_reducible rfl)
    simp only [Act.put, puA, puB, puC]
    refine wpAnyH_ready (rs := [2]) (by kernel_rfl) (by simp) (AllReadyH.cons rfl (fun K hK => ?_) (AllReadyH.nil))
    obtain ⟨⟨z1, z2⟩, z3⟩ := id bz
    obtain ⟨⟨s1, s2⟩, s3⟩ := id bb
    go_simp
    replace bz := bz.set8 (.int .i64 B.ad) (.int .i64 B.ln) (.int .i64 B.ow) (.int .i64 B.lo) (.int .i64 B.hi) (.slice va B.ds.length vc) (.int .i64 B.nw) (.slice ua B.es.length uc)
    replace bx := bx.other8 (n := w.heap.size) (by omega) (.int .i64 B.ad) (.int .i64 B.ln) (.int .i64 B.ow) (.int .i64 B.lo) (.int .i64 B.hi) (.slice va B.ds.length vc) (.int .i64 B.nw) (.slice ua B.es.length uc)
    replace bb := bb.other8 (n := w.heap.size) (by omega) (.int .i64 B.ad) (.int .i64 B.ln) (.int .i64 B.ow) (.int .i64 B.lo) (.int .i64 B.hi) (.slice va B.ds.length vc) (.int .i64 B.nw) (.slice ua B.es.length uc)
    replace bf := bf.other8 (n := w.heap.size) (by omega) (.int .i64 B.ad) (.int .i64 B.ln) (.int .i64 B.ow) (.int .i64 B.lo) (.int .i64 B.hi) (.slice va B.ds.length vc) (.int .i64 B.nw) (.slice ua B.es.length uc)
    replace hD := hD.keep8 (x := w.heap.size) (by omega) (.int .i64 B.ad) (.int .i64 B.ln) (.int .i64 B.ow) (.int .i64 B.lo) (.int .i64 B.hi) (.slice va B.ds.length vc) (.int .i64 B.nw) (.slice ua B.es.length uc)
    replace hE := hE.keep8 (x := w.heap.size) (by omega) (.int .i64 B.ad) (.int .i64 B.ln) (.int .i64 B.ow) (.int .i64 B.lo) (.int .i64 B.hi) (.slice va B.ds.length vc) (.int .i64 B.nw) (.slice ua B.es.length uc)
    replace hB1 := bl_set8d hB1 (Nat.le_refl _) (.int .i64 B.ad) (.int .i64 B.ln) (.int .i64 B.ow) (.int .i64 B.lo) (.int .i64 B.hi) (.slice va B.ds.length vc) (.int .i64 B.nw) (.slice ua B.es.length uc)
    clear z1 z2 z3 s1 s2 s3
    generalize (World.setCell (World.setCell (World.setCell (World.setCell (World.setCell (World.setCell (World.setCell (World.setCell W0 ⟨w.heap.size, 0, none⟩ (.int .i64 B.ad)) ⟨w.heap.size, 1, none⟩ (.int .i64 B.ln)) ⟨w.heap.size, 2, none⟩ (.int .i64 B.ow)) ⟨w.heap.size, 3, none⟩ (.int .i64 B.lo)) ⟨w.heap.size, 4, none⟩ (.int .i64 B.hi)) ⟨w.heap.size, 5, none⟩ (.slice va B.ds.length vc)) ⟨w.heap.size, 6, none⟩ (.int .i64 B.nw)) ⟨w.heap.size, 7, none⟩ (.slice ua B.es.length uc)) = W7 at *
    refine hK.out _ _ ?_ (fun hHeld1 => ?_)
    · exact ⟨bb, bf⟩
    clear hK K hHeld
    have hHeld := hHeld1
    clear hHeld1
    refine wpAnyH_ready (rs := [3]) (by kernel_rfl) (by simp) (AllReadyH.cons rfl (fun K hK => ?_) (AllReadyH.nil))
    obtain ⟨⟨z1, z2⟩, z3⟩ := id bx
    go_simp
    replace bx := bx.set5 (.int .i64 k2) (.int .i64 a2) (.int .i64 ap2) (.int .i64 b2) (.int .i64 bp2)
    replace bz := bz.other5 (n := w.heap.size + 1) (by omega) (.int .i64 k2) (.int .i64 a2) (.int .i64 ap2) (.int .i64 b2) (.int .i64 bp2)
    replace bb := bb.other5 (n := w.heap.size + 1) (by omega) (.int .i64 k2) (.int .i64 a2) (.int .i64 ap2) (.int .i64 b2) (.int .i64 bp2)
    replace bf := bf.other5 (n := w.heap.size + 1) (by omega) (.int .i64 k2) (.int .i64 a2) (.int .i64 ap2) (.int .i64 b2) (.int .i64 bp2)
    replace hD := hD.keep5 (x := w.heap.size + 1) (by omega) (.int .i64 k2) (.int .i64 a2) (.int .i64 ap2) (.int .i64 b2) (.int .i64 bp2)
    replace hE := hE.keep5 (x := w.heap.size + 1) (by omega) (.int .i64 k2) (.int .i64 a2) (.int .i64 ap2) (.int .i64 b2) (.int .i64 bp2)
    replace hB1 := bl_set5d hB1 (n := w.heap.size + 1) (by omega) (.int .i64 k2) (.int .i64 a2) (.int .i64 ap2) (.int .i64 b2) (.int .i64 bp2)
    clear z1 z2 z3
    generalize (World.setCell (World.setCell (World.setCell (World.setCell (World.setCell W7 ⟨w.heap.size + 1, 0, none⟩ (.int .i64 k2)) ⟨w.heap.size + 1, 1, none⟩ (.int .i64 a2)) ⟨w.heap.size + 1, 2, none⟩ (.int .i64 ap2)) ⟨w.heap.size + 1, 3, none⟩ (.int .i64 b2)) ⟨w.heap.size + 1, 4, none⟩ (.int .i64 bp2)) = W8 at *
    refine hK.out _ _ ?_ (fun hHeld1 => ?_)
    · exact ⟨bb, bf⟩
    clear hK K hHeld
    have hHeld := hHeld1
    clear hHeld1
    refine wpAnyH_done (by kernel_rfl) ?_ _
    clear hHeld
    go_wp2_with fail
    obtain ⟨⟨t1, t2⟩, t3⟩ := id bz
    obtain ⟨⟨u1, u2⟩, u3⟩ := id bx
    exact bodyPost_ret (v := .tuple #[.agg #[.int .i64 B.ad, .int .i64 B.ln, .int .i64 B.ow, .int .i64 B.lo, .int .i64 B.hi, .slice va B.ds.length vc, .int .i64 B.nw, .slice ua B.es.length uc], .agg #[.int .i64 k2, .int .i64 a2, .int .i64 ap2, .int .i64 b2, .int .i64 bp2]]) (by simp [results, Tryz.results22, go_sem, t2, u2]) rfl ⟨⟨B, va, vc, ua, uc, k2, a2, ap2, b2, bp2, rfl, hD.mono (by omega), hE.mono (by omega), hl1, hl2⟩, hB1⟩
  · have hy' : (y == 0) = false := by simpa using hy
    go_upto_region 6 with fail
    refine wp_region_held_drew (S := (fun w' => Bx w' nb #[.int .i64 B.ad, .int .i64 B.ln, .int .i64 B.ow, .int .i64 B.lo, .int .i64 B.hi, .slice va B.ds.length vc, .int .i64 B.nw, .slice ua B.es.length uc] ∧ Bx w' nf #[.int .i64 k, .int .i64 a, .int .i64 ap, .int .i64 b, .int .i64 bp])) (by kernel_rfl) ?_ (fun hHeld => ?_)
    · exact ⟨bb.below (bl_drew (bl_refl _)), bf.below (bl_drew (bl_refl _))⟩
    have hlq := bl_drew (bl_refl w4)
    replace bb := bb.below hlq
    replace bx := bx.below hlq
    replace bz := bz.below hlq
    replace bf := bf.below hlq
    replace hD := hD.apart (ap_of_bl (R := R) hlq) (by omega)
    replace hE := hE.apart (ap_of_bl (R := R) hlq) (by omega)
    replace hB1 := bl_trans hB1 hlq
    clear hlq
    generalize World.drew w4 = W0 at *
    refine takeL 0 20 ?_ ?_ hHeld ?_
    rotate_left
    · (intro w hSw; (try dsimp only at hSw); obtain ⟨⟨⟨hS1, hS2⟩, hS3⟩, ⟨hS4, hS5⟩, hS6⟩ := hSw; go_simp; try with_reducible rfl)
    simp only [Act.put, puA, puB, puC]
    refine takeL 1 21 ?_ ?_ hHeld ?_
    rotate_left
    · (intro w hSw; (try dsimp only at hSw); obtain ⟨⟨⟨hS1, hS2⟩, hS3⟩, ⟨hS4, hS5⟩, hS6⟩ := hSw; go_simp; try with_reducible rfl)
    simp only [Act.put, puA, puB, puC]
    refine wpAnyH_ready (rs := [2]) (by kernel_rfl) (by simp) (AllReadyH.cons rfl (fun K hK => ?_) (AllReadyH.nil))
    obtain ⟨⟨z1, z2⟩, z3⟩ := id bz
    obtain ⟨⟨s1, s2⟩, s3⟩ := id bb
    go_simp
    replace bz := bz.set8 (.int .i64 B.ad) (.int .i64 B.ln) (.int .i64 B.ow) (.int .i64 B.lo) (.int .i64 B.hi) (.slice va B.ds.length vc) (.int .i64 B.nw) (.slice ua B.es.length uc)
    replace bx := bx.other8 (n := w.heap.size) (by omega) (.int .i64 B.ad) (.int .i64 B.ln) (.int .i64 B.ow) (.int .i64 B.lo) (.int .i64 B.hi) (.slice va B.ds.length vc) (.int .i64 B.nw) (.slice ua B.es.length uc)
    replace bb := bb.other8 (n := w.heap.size) (by omega) (.int .i64 B.ad) (.int .i64 B.ln) (.int .i64 B.ow) (.int .i64 B.lo) (.int .i64 B.hi) (.slice va B.ds.length vc) (.int .i64 B.nw) (.slice ua B.es.length uc)
    replace bf := bf.other8 (n := w.heap.size) (by omega) (.int .i64 B.ad) (.int .i64 B.ln) (.int .i64 B.ow) (.int .i64 B.lo) (.int .i64 B.hi) (.slice va B.ds.length vc) (.int .i64 B.nw) (.slice ua B.es.length uc)
    replace hD := hD.keep8 (x := w.heap.size) (by omega) (.int .i64 B.ad) (.int .i64 B.ln) (.int .i64 B.ow) (.int .i64 B.lo) (.int .i64 B.hi) (.slice va B.ds.length vc) (.int .i64 B.nw) (.slice ua B.es.length uc)
    replace hE := hE.keep8 (x := w.heap.size) (by omega) (.int .i64 B.ad) (.int .i64 B.ln) (.int .i64 B.ow) (.int .i64 B.lo) (.int .i64 B.hi) (.slice va B.ds.length vc) (.int .i64 B.nw) (.slice ua B.es.length uc)
    replace hB1 := bl_set8d hB1 (Nat.le_refl _) (.int .i64 B.ad) (.int .i64 B.ln) (.int .i64 B.ow) (.int .i64 B.lo) (.int .i64 B.hi) (.slice va B.ds.length vc) (.int .i64 B.nw) (.slice ua B.es.length uc)
    clear z1 z2 z3 s1 s2 s3
    generalize (World.setCell (World.setCell (World.setCell (World.setCell (World.setCell (World.setCell (World.setCell (World.setCell W0 ⟨w.heap.size, 0, none⟩ (.int .i64 B.ad)) ⟨w.heap.size, 1, none⟩ (.int .i64 B.ln)) ⟨w.heap.size, 2, none⟩ (.int .i64 B.ow)) ⟨w.heap.size, 3, none⟩ (.int .i64 B.lo)) ⟨w.heap.size, 4, none⟩ (.int .i64 B.hi)) ⟨w.heap.size, 5, none⟩ (.slice va B.ds.length vc)) ⟨w.heap.size, 6, none⟩ (.int .i64 B.nw)) ⟨w.heap.size, 7, none⟩ (.slice ua B.es.length uc)) = W7 at *
    refine hK.out _ _ ?_ (fun hHeld1 => ?_)
    · exact ⟨bb, bf⟩
    clear hK K hHeld
    have hHeld := hHeld1
    clear hHeld1
    refine wpAnyH_ready (rs := [3]) (by kernel_rfl) (by simp) (AllReadyH.cons rfl (fun K hK => ?_) (AllReadyH.nil))
    obtain ⟨⟨z1, z2⟩, z3⟩ := id bx
    go_simp
    replace bx := bx.set5 (.int .i64 k) (.int .i64 a) (.int .i64 ap) (.int .i64 b) (.int .i64 bp)
    replace bz := bz.other5 (n := w.heap.size + 1) (by omega) (.int .i64 k) (.int .i64 a) (.int .i64 ap) (.int .i64 b) (.int .i64 bp)
    replace bb := bb.other5 (n := w.heap.size + 1) (by omega) (.int .i64 k) (.int .i64 a) (.int .i64 ap) (.int .i64 b) (.int .i64 bp)
    replace bf := bf.other5 (n := w.heap.size + 1) (by omega) (.int .i64 k) (.int .i64 a) (.int .i64 ap) (.int .i64 b) (.int .i64 bp)
    replace hD := hD.keep5 (x := w.heap.size + 1) (by omega) (.int .i64 k) (.int .i64 a) (.int .i64 ap) (.int .i64 b) (.int .i64 bp)
    replace hE := hE.keep5 (x := w.heap.size + 1) (by omega) (.int .i64 k) (.int .i64 a) (.int .i64 ap) (.int .i64 b) (.int .i64 bp)
    replace hB1 := bl_set5d hB1 (n := w.heap.size + 1) (by omega) (.int .i64 k) (.int .i64 a) (.int .i64 ap) (.int .i64 b) (.int .i64 bp)
    clear z1 z2 z3
    generalize (World.setCell (World.setCell (World.setCell (World.setCell (World.setCell W7 ⟨w.heap.size + 1, 0, none⟩ (.int .i64 k)) ⟨w.heap.size + 1, 1, none⟩ (.int .i64 a)) ⟨w.heap.size + 1, 2, none⟩ (.int .i64 ap)) ⟨w.heap.size + 1, 3, none⟩ (.int .i64 b)) ⟨w.heap.size + 1, 4, none⟩ (.int .i64 bp)) = W8 at *
    refine hK.out _ _ ?_ (fun hHeld1 => ?_)
    · exact ⟨bb, bf⟩
    clear hK K hHeld
    have hHeld := hHeld1
    clear hHeld1
    refine wpAnyH_done (by kernel_rfl) ?_ _
    clear hHeld
    go_wp2_with fail
    obtain ⟨⟨t1, t2⟩, t3⟩ := id bz
    obtain ⟨⟨u1, u2⟩, u3⟩ := id bx
    exact bodyPost_ret (v := .tuple #[.agg #[.int .i64 B.ad, .int .i64 B.ln, .int .i64 B.ow, .int .i64 B.lo, .int .i64 B.hi, .slice va B.ds.length vc, .int .i64 B.nw, .slice ua B.es.length uc], .agg #[.int .i64 k, .int .i64 a, .int .i64 ap, .int .i64 b, .int .i64 bp]]) (by simp [results, Tryz.results22, go_sem, t2, u2]) rfl ⟨⟨B, va, vc, ua, uc, k, a, ap, b, bp, rfl, hD.mono (by omega), hE.mono (by omega), hl1, hl2⟩, hB1⟩

end Go.Proofs.YtcgjpmhjijmplaaGreatDoor
