/- A book that comes in by value, opened: eight fields, two slices of structs. -/
import Derived.Test.YtcgjpmhjijmplabGreatDoorLaws6
import Derived.Deep.Slices
namespace Go.Proofs.YtcgjpmhjijmplabGreatDoor
open Go.ChangeShapes Go.WideShapes Go.ChangeAt Go.RowKit
set_option maxRecDepth 100000 in
theorem addr_add (b o n : Nat) : Addr.add ⟨b, o, none⟩ n = ⟨b, o + n, none⟩ := by
  unfold Addr.add
  split
  · rename_i h; subst h; rfl
  · rfl

set_option maxRecDepth 100000 in
theorem ldoor_cells : Tryz.prog.cellsOf 97 = 4 := by kernel_rfl
set_option maxRecDepth 100000 in
theorem ldoor_of {H : Type} {enc : TypeId × Value → H} {W : World} {base fuel : Nat} {sp : Nat → Bool} {held : Bool} {cs : List Value} {y : DataW H × List MemPlace} (h : DataW.trod enc Tryz.prog W base sp held fuel 97 cs = some y) :
    ∃ d : Dr, cs = [.int .i64 d.k, .int .i64 d.o, .int .i64 d.i, .int .i64 d.p] := by
  obtain ⟨xs, n, _, _, hl, hlen, hfs⟩ := DataW.trod_struct Tryz.underlying97 h
  rw [ldoor_cells] at hl
  match cs, hl, xs, hlen with
  | [c0, c1, c2, c3], _, [y0, y1, y2, y3], _ =>
    obtain ⟨x0, e0, _, _⟩ := DataW.trod_int Tryz.underlying3 (by simpa [intCells] using hfs 0 _ rfl)
    obtain ⟨x1, e1, _, _⟩ := DataW.trod_int Tryz.underlying3 (by simpa [intCells] using hfs 1 _ rfl)
    obtain ⟨x2, e2, _, _⟩ := DataW.trod_int Tryz.underlying3 (by simpa [intCells] using hfs 2 _ rfl)
    obtain ⟨x3, e3, _, _⟩ := DataW.trod_int Tryz.underlying3 (by simpa [intCells] using hfs 3 _ rfl)
    simp at e0 e1 e2 e3
    subst e0 e1 e2 e3
    exact ⟨⟨x0, x1, x2, x3⟩, rfl⟩
set_option maxRecDepth 100000 in
theorem ldoor_open {H : Type} {enc : TypeId × Value → H} {W : World} {fuel : Nat} {v : Value} {y : DataW H × List MemPlace} (h : DataW.trod enc Tryz.prog W 0 (fun _ => true) true fuel 22 [v] = some y) :
    ∃ a m c ds, v = .slice a m c ∧ m ≤ maxLen ∧ DoorsAt W a m ds := by
  rcases Deep.open_slice Tryz.underlying22 h with ⟨hcs, _⟩ | ⟨a, len, cap, m, n, D, Pl, hcs, _, hl, hm, hmm, _, hall⟩
  · simp at hcs
    subst hcs
    exact ⟨none, 0, 0, [], rfl, by unfold maxLen; omega, rfl, Or.inl rfl⟩
  · simp at hcs
    subst hcs
    simp at hmm
    subst hmm
    rw [ldoor_cells] at hall
    have hel : ∀ i, i < len → ∃ d : Dr, W.cells? 0 (a.add (i * 4)) 4 = some [.int .i64 d.k, .int .i64 d.o, .int .i64 d.i, .int .i64 d.p] := by
      intro i hi
      obtain ⟨cs', h1, h2⟩ := hall i (by omega)
      obtain ⟨d, hd⟩ := ldoor_of h2
      exact ⟨d, hd ▸ h1⟩
    have hch : ∃ f : Nat → Dr, ∀ i, i < len → W.cells? 0 (a.add (i * 4)) 4 = some [.int .i64 (f i).k, .int .i64 (f i).o, .int .i64 (f i).i, .int .i64 (f i).p] := by
      refine ⟨fun i => if h : i < len then Classical.choose (hel i h) else ⟨0, 0, 0, 0⟩, fun i hi => ?_⟩
      simp only [hi, dif_pos]
      exact Classical.choose_spec (hel i hi)
    obtain ⟨f, hf⟩ := hch
    refine ⟨some a, len, _, (List.range len).map f, rfl, by omega, by simp, ?_⟩
    rcases Nat.eq_zero_or_pos len with h0 | h0
    · left; simp [h0]
    · right
      obtain ⟨b, o, spot⟩ := a
      have hc0 := (World.cells?_some (hf 0 h0)).2.2
      have hsp : spot = none := by
        have := (hc0 0 (by omega))
        simpa [Addr.add] using World.cell?_spot this
      subst hsp
      refine ⟨b, o, rfl, World.cells?_block (hf 0 h0) (by omega), ?_⟩
      intro i d hd
      have hi : i < len := by simpa using get_lt hd
      have hdf : f i = d := by simpa [hi] using hd
      have hc := (World.cells?_some (hf i hi)).2.2
      simp only [addr_add] at hc
      rw [hdf] at hc
      exact ⟨by simpa using hc 0 (by omega), by simpa using hc 1 (by omega), by simpa using hc 2 (by omega), by simpa using hc 3 (by omega)⟩

set_option maxRecDepth 100000 in
theorem lentry_cells : Tryz.prog.cellsOf 99 = 7 := by kernel_rfl
set_option maxRecDepth 100000 in
theorem lentry_of {H : Type} {enc : TypeId × Value → H} {W : World} {base fuel : Nat} {sp : Nat → Bool} {held : Bool} {cs : List Value} {y : DataW H × List MemPlace} (h : DataW.trod enc Tryz.prog W base sp held fuel 99 cs = some y) :
    ∃ d : En, cs = [.int .i64 d.k, .int .i64 d.pr, .int .i64 d.pp, .int .i64 d.o, .int .i64 d.i, .int .i64 d.ip, .int .i64 d.l] := by
  obtain ⟨xs, n, _, _, hl, hlen, hfs⟩ := DataW.trod_struct Tryz.underlying99 h
  rw [lentry_cells] at hl
  match cs, hl, xs, hlen with
  | [c0, c1, c2, c3, c4, c5, c6], _, [y0, y1, y2, y3, y4, y5, y6], _ =>
    obtain ⟨x0, e0, _, _⟩ := DataW.trod_int Tryz.underlying3 (by simpa [intCells] using hfs 0 _ rfl)
    obtain ⟨x1, e1, _, _⟩ := DataW.trod_int Tryz.underlying3 (by simpa [intCells] using hfs 1 _ rfl)
    obtain ⟨x2, e2, _, _⟩ := DataW.trod_int Tryz.underlying3 (by simpa [intCells] using hfs 2 _ rfl)
    obtain ⟨x3, e3, _, _⟩ := DataW.trod_int Tryz.underlying3 (by simpa [intCells] using hfs 3 _ rfl)
    obtain ⟨x4, e4, _, _⟩ := DataW.trod_int Tryz.underlying3 (by simpa [intCells] using hfs 4 _ rfl)
    obtain ⟨x5, e5, _, _⟩ := DataW.trod_int Tryz.underlying3 (by simpa [intCells] using hfs 5 _ rfl)
    obtain ⟨x6, e6, _, _⟩ := DataW.trod_int Tryz.underlying3 (by simpa [intCells] using hfs 6 _ rfl)
    simp at e0 e1 e2 e3 e4 e5 e6
    subst e0 e1 e2 e3 e4 e5 e6
    exact ⟨⟨x0, x1, x2, x3, x4, x5, x6⟩, rfl⟩
set_option maxRecDepth 100000 in
theorem lentry_open {H : Type} {enc : TypeId × Value → H} {W : World} {fuel : Nat} {v : Value} {y : DataW H × List MemPlace} (h : DataW.trod enc Tryz.prog W 0 (fun _ => true) true fuel 23 [v] = some y) :
    ∃ a m c ds, v = .slice a m c ∧ m ≤ maxLen ∧ EntriesAt W a m ds := by
  rcases Deep.open_slice Tryz.underlying23 h with ⟨hcs, _⟩ | ⟨a, len, cap, m, n, D, Pl, hcs, _, hl, hm, hmm, _, hall⟩
  · simp at hcs
    subst hcs
    exact ⟨none, 0, 0, [], rfl, by unfold maxLen; omega, rfl, Or.inl rfl⟩
  · simp at hcs
    subst hcs
    simp at hmm
    subst hmm
    rw [lentry_cells] at hall
    have hel : ∀ i, i < len → ∃ d : En, W.cells? 0 (a.add (i * 7)) 7 = some [.int .i64 d.k, .int .i64 d.pr, .int .i64 d.pp, .int .i64 d.o, .int .i64 d.i, .int .i64 d.ip, .int .i64 d.l] := by
      intro i hi
      obtain ⟨cs', h1, h2⟩ := hall i (by omega)
      obtain ⟨d, hd⟩ := lentry_of h2
      exact ⟨d, hd ▸ h1⟩
    have hch : ∃ f : Nat → En, ∀ i, i < len → W.cells? 0 (a.add (i * 7)) 7 = some [.int .i64 (f i).k, .int .i64 (f i).pr, .int .i64 (f i).pp, .int .i64 (f i).o, .int .i64 (f i).i, .int .i64 (f i).ip, .int .i64 (f i).l] := by
      refine ⟨fun i => if h : i < len then Classical.choose (hel i h) else ⟨0, 0, 0, 0, 0, 0, 0⟩, fun i hi => ?_⟩
      simp only [hi, dif_pos]
      exact Classical.choose_spec (hel i hi)
    obtain ⟨f, hf⟩ := hch
    refine ⟨some a, len, _, (List.range len).map f, rfl, by omega, by simp, ?_⟩
    rcases Nat.eq_zero_or_pos len with h0 | h0
    · left; simp [h0]
    · right
      obtain ⟨b, o, spot⟩ := a
      have hc0 := (World.cells?_some (hf 0 h0)).2.2
      have hsp : spot = none := by
        have := (hc0 0 (by omega))
        simpa [Addr.add] using World.cell?_spot this
      subst hsp
      refine ⟨b, o, rfl, World.cells?_block (hf 0 h0) (by omega), ?_⟩
      intro i d hd
      have hi : i < len := by simpa using get_lt hd
      have hdf : f i = d := by simpa [hi] using hd
      have hc := (World.cells?_some (hf i hi)).2.2
      simp only [addr_add] at hc
      rw [hdf] at hc
      exact ⟨by simpa using hc 0 (by omega), by simpa using hc 1 (by omega), by simpa using hc 2 (by omega), by simpa using hc 3 (by omega), by simpa using hc 4 (by omega), by simpa using hc 5 (by omega), by simpa using hc 6 (by omega)⟩

set_option maxRecDepth 100000 in
theorem own : ownKnob Tryz.prog.godebug = none := by kernel_rfl
set_option maxRecDepth 100000 in
theorem laidOut : laidOutB Tryz.prog = true := by kernel_rfl
set_option maxRecDepth 100000 in
theorem lbook_cells : Tryz.prog.cellsOf 25 = 8 := by kernel_rfl
set_option maxRecDepth 100000 in
theorem lds_cells : Tryz.prog.cellsOf 22 = 1 := by kernel_rfl
set_option maxRecDepth 100000 in
theorem les_cells : Tryz.prog.cellsOf 23 = 1 := by kernel_rfl
set_option maxRecDepth 100000 in
theorem array8 {α : Type} {cs : Array α} (h : cs.size = 8) : ∃ c0 c1 c2 c3 c4 c5 c6 c7, cs = #[c0, c1, c2, c3, c4, c5, c6, c7] := by
  obtain ⟨l⟩ := cs
  match l, h with
  | [c0, c1, c2, c3, c4, c5, c6, c7], _ => exact ⟨c0, c1, c2, c3, c4, c5, c6, c7, rfl⟩
set_option maxRecDepth 100000 in
theorem open_book {H : Type} {enc : TypeId × Value → H} {W : World} {base : Nat} {v : Value} {d : DataW H} {p : List MemPlace}
    (hv : Value.okWide Tryz.prog W .any base 25 v) (h : DataW.Trod enc Tryz.prog W 0 (fun _ => true) true 25 v d p) :
    ∃ (ad ln ow lo hi nw : Int) (da : Option Addr) (dn dc : Nat) (ea : Option Addr) (en ec : Nat) (ds : List Dr) (es : List En), v = .agg #[.int .i64 ad, .int .i64 ln, .int .i64 ow, .int .i64 lo, .int .i64 hi, .slice da dn dc, .int .i64 nw, .slice ea en ec] ∧ dn ≤ maxLen ∧ en ≤ maxLen ∧ DoorsAt W da dn ds ∧ EntriesAt W ea en es := by
  obtain ⟨cs, rfl, hsz⟩ := okWide_struct Tryz.underlying25 hv
  obtain ⟨c0, c1, c2, c3, c4, c5, c6, c7, rfl⟩ := array8 (hsz.trans lbook_cells)
  obtain ⟨fuel, hf⟩ := h
  obtain ⟨xs, n, _, _, _, hlen, hfs⟩ := DataW.trod_struct Tryz.underlying25 hf
  match xs, hlen with
  | [y0, y1, y2, y3, y4, y5, y6, y7], _ =>
    obtain ⟨x0, e0, _, _⟩ := DataW.trod_int Tryz.underlying3 (by simpa [Value.cells, intCells] using hfs 0 _ rfl)
    obtain ⟨x1, e1, _, _⟩ := DataW.trod_int Tryz.underlying3 (by simpa [Value.cells, intCells] using hfs 1 _ rfl)
    obtain ⟨x2, e2, _, _⟩ := DataW.trod_int Tryz.underlying3 (by simpa [Value.cells, intCells] using hfs 2 _ rfl)
    obtain ⟨x3, e3, _, _⟩ := DataW.trod_int Tryz.underlying3 (by simpa [Value.cells, intCells] using hfs 3 _ rfl)
    obtain ⟨x4, e4, _, _⟩ := DataW.trod_int Tryz.underlying3 (by simpa [Value.cells, intCells] using hfs 4 _ rfl)
    obtain ⟨da, dn, dc, ds, e5, hdn, hD⟩ := ldoor_open (v := c5) (by simpa [Value.cells, lds_cells] using hfs 5 _ rfl)
    obtain ⟨x6, e6, _, _⟩ := DataW.trod_int Tryz.underlying3 (by simpa [Value.cells, intCells] using hfs 6 _ rfl)
    obtain ⟨ea, en, ec, es, e7, hen, hE⟩ := lentry_open (v := c7) (by simpa [Value.cells, les_cells] using hfs 7 _ rfl)
    simp at e0 e1 e2 e3 e4 e6
    subst e0 e1 e2 e3 e4 e5 e6 e7
    exact ⟨_, _, _, _, _, _, _, _, _, _, _, _, ds, es, rfl, hdn, hen, hD, hE⟩
end Go.Proofs.YtcgjpmhjijmplabGreatDoor
