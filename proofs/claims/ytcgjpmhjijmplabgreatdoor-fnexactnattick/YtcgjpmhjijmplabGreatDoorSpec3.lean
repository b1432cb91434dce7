/- The specification's functions of chapter 2 (books) that go through a list, walked. -/
import Derived.Test.YtcgjpmhjijmplabGreatDoorSpec2
import Derived.Deep.LoopGhost
import Derived.Deep.Light
namespace Go.Proofs.YtcgjpmhjijmplabGreatDoor
open Go.ChangeShapes Go.WideShapes Go.ChangeAt Go.RowKit

structure Dr where
  k : Int
  o : Int
  i : Int
  p : Int
structure En where
  k : Int
  pr : Int
  pp : Int
  o : Int
  i : Int
  ip : Int
  l : Int

/-- The cells from (b, o) on hold these doors, each of four cells. -/
def DrCells (w : World) (b o : Nat) (ds : List Dr) : Prop :=
  ∀ (i : Nat) (d : Dr), ds[i]? = some d → w.cell? ⟨b, o + i * 4, none⟩ = some (.int .i64 d.k) ∧ w.cell? ⟨b, o + i * 4 + 1, none⟩ = some (.int .i64 d.o) ∧ w.cell? ⟨b, o + i * 4 + 2, none⟩ = some (.int .i64 d.i) ∧ w.cell? ⟨b, o + i * 4 + 3, none⟩ = some (.int .i64 d.p)
def EnCells (w : World) (b o : Nat) (es : List En) : Prop :=
  ∀ (i : Nat) (d : En), es[i]? = some d → w.cell? ⟨b, o + i * 7, none⟩ = some (.int .i64 d.k) ∧ w.cell? ⟨b, o + i * 7 + 1, none⟩ = some (.int .i64 d.pr) ∧ w.cell? ⟨b, o + i * 7 + 2, none⟩ = some (.int .i64 d.pp) ∧ w.cell? ⟨b, o + i * 7 + 3, none⟩ = some (.int .i64 d.o) ∧ w.cell? ⟨b, o + i * 7 + 4, none⟩ = some (.int .i64 d.i) ∧ w.cell? ⟨b, o + i * 7 + 5, none⟩ = some (.int .i64 d.ip) ∧ w.cell? ⟨b, o + i * 7 + 6, none⟩ = some (.int .i64 d.l)
theorem DrCells.below {w w' : World} {b o : Nat} {ds : List Dr} (h : DrCells w b o ds) (hb : Below w.heap.size w w') (hlt : b < w.heap.size) : DrCells w' b o ds := by
  intro i d hi
  obtain ⟨h0, h1, h2, h3⟩ := h i d hi
  refine ⟨?_, ?_, ?_, ?_⟩ <;> (rw [hb.cell (by simpa using hlt)]; assumption)
theorem EnCells.below {w w' : World} {b o : Nat} {es : List En} (h : EnCells w b o es) (hb : Below w.heap.size w w') (hlt : b < w.heap.size) : EnCells w' b o es := by
  intro i d hi
  obtain ⟨h0, h1, h2, h3, h4, h5, h6⟩ := h i d hi
  refine ⟨?_, ?_, ?_, ?_, ?_, ?_, ?_⟩ <;> (rw [hb.cell (by simpa using hlt)]; assumption)

/-- Two doors, the first ahead of the second: as the document asks. -/
def pairB (e d : Dr) : Bool := !(decide (d.k < e.k) || (e.k == d.k && (decide (d.o ≤ e.o) || (e.i == d.i && e.p == d.p))))
theorem pair1 {e d : Dr} (h1 : e.k = d.k) (h3 : e.i = d.i) (h4 : d.o ≤ e.o ∨ (e.p == d.p) = true) : pairB e d = false := by
  rcases h4 with h | h <;> simp_all [pairB]
theorem pair2 {e d : Dr} (h1 : e.k = d.k) (h : e.o < d.o ∧ (e.p == d.p) = false) : pairB e d = true := by
  have h2 := h.2
  simp [pairB, h1, h.1, h2]
theorem pair3 {e d : Dr} (h1 : e.k = d.k) (h2 : e.o < d.o) (h3 : ¬ e.i = d.i) : pairB e d = true := by
  simp [pairB, h1, h2, h3]
theorem pair4 {e d : Dr} (h1 : e.k = d.k) (h2 : d.o ≤ e.o) : pairB e d = false := by
  simp [pairB, h1, h2]
theorem pair5 {e d : Dr} (h1 : e.k ≤ d.k) (h2 : ¬ e.k = d.k) : pairB e d = true := by
  simp [pairB, h1, h2]
theorem pair6 {e d : Dr} (h1 : d.k < e.k) : pairB e d = false := by
  simp [pairB, h1]
theorem some_one {α : Type} {x : Option α} {a b : α} (h : x = some a) (h' : x = some b) : a = b := Option.some.inj (h.symm.trans h')
theorem pairs_up {ds : List Dr} {m : Nat} {d e : Dr} (hp : ∀ j e, j < m → ds[j]? = some e → pairB e d = true) (he : ds[m]? = some e) (h : pairB e d = true) : ∀ j e, j < m + 1 → ds[j]? = some e → pairB e d = true := by
  intro j e' hj he'
  by_cases hjm : j < m
  · exact hp j e' hjm he'
  · have hjm' : j = m := by omega
    subst hjm'
    rw [some_one he' he]; exact h
def doorB (ad ln lo hi : Int) (d : Dr) : Bool := dokB ad ln lo hi d.k d.o d.i d.p
def DoorsUp (ad ln lo hi : Int) (ds : List Dr) (n : Nat) : Prop := ∀ i d, i < n → ds[i]? = some d → doorB ad ln lo hi d = true ∧ ∀ j e, j < i → ds[j]? = some e → pairB e d = true
open Classical in
noncomputable def doorsB (ad ln lo hi : Int) (ds : List Dr) : Bool := decide (ds.length ≤ 6 ∧ DoorsUp ad ln lo hi ds ds.length)

theorem doors_up {ad ln lo hi : Int} {ds : List Dr} {n m : Nat} {d : Dr} (hu : DoorsUp ad ln lo hi ds n) (hd : ds[n]? = some d) (hok : dokB ad ln lo hi d.k d.o d.i d.p = true) (hm : ¬ m < n) (hp : ∀ j e, j < m → ds[j]? = some e → pairB e d = true) : DoorsUp ad ln lo hi ds (n + 1) := by
  intro j e' hj he'
  by_cases hjm : j < n
  · exact hu j e' hjm he'
  · have hjm' : j = n := by omega
    subst hjm'
    rw [some_one he' hd]
    exact ⟨hok, fun i f hi hf => hp i f (by omega) hf⟩
theorem doors_no1 {ad ln lo hi : Int} {ds : List Dr} {n : Nat} {d : Dr} (hn : n < ds.length) (hd : ds[n]? = some d) (h : ¬ dokB ad ln lo hi d.k d.o d.i d.p = true) : false = doorsB ad ln lo hi ds := by
  symm
  simp only [doorsB, decide_eq_false_iff_not]
  rintro ⟨_, hall⟩
  exact h (hall n d hn hd).1
theorem doors_no2 {ad ln lo hi : Int} {ds : List Dr} {n m : Nat} {d e : Dr} (hn : n < ds.length) (hd : ds[n]? = some d) (hm : m < n) (he : ds[m]? = some e) (h : pairB e d = false) : false = doorsB ad ln lo hi ds := by
  symm
  simp only [doorsB, decide_eq_false_iff_not]
  rintro ⟨_, hall⟩
  have := (hall n d hn hd).2 m e hm he
  rw [h] at this
  cases this
/-- Block n is there, and holds these cells. -/
def Box (w : World) (n : Nat) (C : Array Value) : Prop := n < w.heap.size ∧ ∀ j, w.cell? ⟨n, j, none⟩ = C[j]?
theorem Box.new (w : World) (C : Array Value) (t : TypeId) : Box (w.alloc (.cells C t)) w.heap.size C := ⟨by simp, fun j => World.cell?_alloc_new w C t j⟩
theorem Box.below {W w1 : World} {n : Nat} {C : Array Value} (h : Box W n C) (hb : Below W.heap.size W w1) : Box w1 n C :=
  ⟨Nat.lt_of_lt_of_le h.1 hb.size, fun j => (hb.cell (p := ⟨n, j, none⟩) h.1).trans (h.2 j)⟩

set_option maxHeartbeats 4000000 in
theorem l2Doors_some (ad ln ow lo hi nw : Int) (b o : Nat) (ds : List Dr) (dc : Nat) (ea : Option Addr) (en ec : Nat) (w : World) (l0 : 0 ≤ ln) (l1 : ln ≤ 16) (a0 : 0 ≤ ad) (a1 : ad ≤ 65535) (hlt : b < w.heap.size) (hc : DrCells w b o ds) (hl : ds.length ≤ 6) :
    Calls Tryz.prog 49 #[.agg #[.int .i64 ad, .int .i64 ln, .int .i64 ow, .int .i64 lo, .int .i64 hi, .slice (some ⟨b, o, none⟩) ds.length dc, .int .i64 nw, .slice ea en ec]] w fun e w' => e = .returned (.bool (doorsB ad ln lo hi ds)) ∧ Below w.heap.size w w' := by
  go_enter Tryz.func49, Tryz.ntmps49
  go_wp2_with fail
  go_loopg [3] ds.length (fun g i wr => ∃ n : Nat, g = ds.length - n ∧ n ≤ ds.length ∧ i = .int .i64 n ∧ DoorsUp ad ln lo hi ds n ∧ Below w.heap.size w wr ∧ Box wr w.heap.size #[.int .i64 ad, .int .i64 ln, .int .i64 ow, .int .i64 lo, .int .i64 hi, .slice (some ⟨b, o, none⟩) ds.length dc, .int .i64 nw, .slice ea en ec])
  case atStart => exact ⟨0, by omega, by omega, rfl, fun _ _ h => absurd h (by omega), bl_alloc (bl_refl _) _, Box.new _ _ _⟩
  case round =>
    obtain ⟨n, hg, hn, rfl, hup, hB, hX⟩ := hrel
    obtain ⟨hsz, hbox⟩ := id hX
    by_cases hlt2 : n < ds.length
    · obtain ⟨d, hd⟩ : ∃ d, ds[n]? = some d := ⟨ds[n], by simp [hlt2]⟩
      obtain ⟨c0, c1, c2, c3⟩ := hc.below hB hlt n d hd
      have hUp : Hid (DoorsUp ad ln lo hi ds n) := hup
      have hD : Hid (ds[n]? = some d) := hd
      clear hup hd
      have hb2 : b < wr.heap.size := by have := hB.size; omega
      go_wp2_with fail
      refine (l2DoorOk_ret _ _ _ _ _ _ _ _ _ _ _ _ _ _ _ _ _ l0 l1 a0 a1).mono ?_
      rintro e w1 ⟨rfl, hb1⟩
      have hB1 := bl_trans (bl_alloc hB _) hb1
      have hX1 := (hX.below (bl_alloc (bl_refl _) _)).below hb1
      have hY1 := (Box.new wr #[.int .i64 d.k, .int .i64 d.o, .int .i64 d.i, .int .i64 d.p] 52).below hb1
      by_cases hok : dokB ad ln lo hi d.k d.o d.i d.p = true
      · go_wp2_with fail
        go_loopg [5] n (fun g k wq => ∃ m : Nat, g = n - m ∧ m ≤ n ∧ k = .int .i64 m ∧ (∀ j e, j < m → ds[j]? = some e → pairB e d = true) ∧ Below w.heap.size w wq ∧ Box wq w.heap.size #[.int .i64 ad, .int .i64 ln, .int .i64 ow, .int .i64 lo, .int .i64 hi, .slice (some ⟨b, o, none⟩) ds.length dc, .int .i64 nw, .slice ea en ec] ∧ Box wq wr.heap.size #[.int .i64 d.k, .int .i64 d.o, .int .i64 d.i, .int .i64 d.p])
        case atStart => exact ⟨0, by omega, by omega, rfl, fun _ _ h => absurd h (by omega), hB1, hX1, hY1⟩
        case round =>
          obtain ⟨m, hgm, hm, rfl, hpr, hBq, hXq, hYq⟩ := hrel
          have HP : Hid (∀ j e, j < m → ds[j]? = some e → pairB e d = true) := hpr
          obtain ⟨hsx, hbx⟩ := id hXq
          obtain ⟨hsy, hby⟩ := id hYq
          clear hpr hbox c0 c1 c2 c3
          by_cases hlm : m < n
          · obtain ⟨e, he⟩ : ∃ e, ds[m]? = some e := ⟨ds[m], by simp⟩
            obtain ⟨c0, c1, c2, c3⟩ := hc.below hBq hlt m e he
            have hE : Hid (ds[m]? = some e) := he
            clear he
            have hb3 : b < wr.heap.size := by have := hBq.size; omega
            have hmd : (m : Int) < (ds.length : Int) := by omega
            go_wp2_with fail
            all_goals first
              | (go_ret
                 exact ⟨ret_bool (doors_no2 hlt2 hD.out hlm hE.out (by first | exact pair1 ‹_› ‹_› ‹_› | exact pair4 ‹_› ‹_› | exact pair6 ‹_›)), bl_alloc hBq _⟩)
              | (go_roundg (n - (m + 1))
                 case measure => omega
                 case rel => exact ⟨m + 1, rfl, by omega, by go_num, pairs_up HP.out hE.out (by first | exact pair2 ‹_› ‹_› | exact pair3 ‹_› ‹_› ‹_› | exact pair5 ‹_› ‹_›), bl_alloc hBq _, hXq.below (bl_alloc (bl_refl _) _), hYq.below (bl_alloc (bl_refl _) _)⟩)
          · go_wp2_with fail
            go_roundg (ds.length - (n + 1))
            case measure => omega
            case rel => exact ⟨n + 1, rfl, by omega, by go_num, doors_up hUp.out hD.out hok hlm HP.out, hBq, hXq⟩
      · go_wp2
        go_ret
        exact ⟨ret_bool (doors_no1 hlt2 hD.out hok), hB1⟩
    · go_wp2_with fail
      go_ret
      refine ⟨ret_bool ?_, hB⟩
      symm
      simp only [doorsB, decide_eq_true_eq]
      have : n = ds.length := by omega
      exact ⟨hl, this ▸ hup⟩

theorem l2Doors_many (ad ln ow lo hi nw : Int) (da : Option Addr) (dn dc : Nat) (ea : Option Addr) (en ec : Nat) (w : World) (hl : 6 < dn) :
    Calls Tryz.prog 49 #[.agg #[.int .i64 ad, .int .i64 ln, .int .i64 ow, .int .i64 lo, .int .i64 hi, .slice da dn dc, .int .i64 nw, .slice ea en ec]] w fun e w' => e = .returned (.bool false) ∧ Below w.heap.size w w' := by
  have hl' : (6 : Int) < (dn : Int) := by omega
  go_enter Tryz.func49, Tryz.ntmps49
  go_wp2
  go_ret
  exact ⟨rfl, bl_alloc (bl_refl _) _⟩

theorem l2Doors_nil (ad ln ow lo hi nw : Int) (da : Option Addr) (dc : Nat) (ea : Option Addr) (en ec : Nat) (w : World) :
    Calls Tryz.prog 49 #[.agg #[.int .i64 ad, .int .i64 ln, .int .i64 ow, .int .i64 lo, .int .i64 hi, .slice da 0 dc, .int .i64 nw, .slice ea en ec]] w fun e w' => e = .returned (.bool true) ∧ Below w.heap.size w w' := by
  go_enter Tryz.func49, Tryz.ntmps49
  go_wp2_with fail
  go_loopg [3] 0 (fun _ i wr => i = .int .i64 0 ∧ Below w.heap.size w wr ∧ Box wr w.heap.size #[.int .i64 ad, .int .i64 ln, .int .i64 ow, .int .i64 lo, .int .i64 hi, .slice da 0 dc, .int .i64 nw, .slice ea en ec])
  case atStart => exact ⟨rfl, bl_alloc (bl_refl _) _, Box.new _ _ _⟩
  case round =>
    obtain ⟨rfl, hB, hX⟩ := hrel
    obtain ⟨hsz, hbox⟩ := id hX
    go_wp2_with fail
    go_ret
    exact ⟨rfl, hB⟩

/-- A slice that holds these doors. -/
def DoorsAt (w : World) (da : Option Addr) (dn : Nat) (ds : List Dr) : Prop := dn = ds.length ∧ (ds = [] ∨ ∃ b o, da = some ⟨b, o, none⟩ ∧ b < w.heap.size ∧ DrCells w b o ds)
def EntriesAt (w : World) (ea : Option Addr) (en : Nat) (es : List En) : Prop := en = es.length ∧ (es = [] ∨ ∃ b o, ea = some ⟨b, o, none⟩ ∧ b < w.heap.size ∧ EnCells w b o es)
theorem DoorsAt.below {w w' : World} {da : Option Addr} {dn : Nat} {ds : List Dr} (h : DoorsAt w da dn ds) (hb : Below w.heap.size w w') : DoorsAt w' da dn ds := by
  refine ⟨h.1, ?_⟩
  rcases h.2 with h | ⟨b, o, rfl, hlt, hc⟩
  · exact Or.inl h
  · exact Or.inr ⟨b, o, rfl, Nat.lt_of_lt_of_le hlt hb.size, hc.below hb hlt⟩
theorem EntriesAt.below {w w' : World} {ea : Option Addr} {en : Nat} {es : List En} (h : EntriesAt w ea en es) (hb : Below w.heap.size w w') : EntriesAt w' ea en es := by
  refine ⟨h.1, ?_⟩
  rcases h.2 with h | ⟨b, o, rfl, hlt, hc⟩
  · exact Or.inl h
  · exact Or.inr ⟨b, o, rfl, Nat.lt_of_lt_of_le hlt hb.size, hc.below hb hlt⟩

theorem l2Doors_ret (ad ln ow lo hi nw : Int) (da : Option Addr) (dn dc : Nat) (ea : Option Addr) (en ec : Nat) (ds : List Dr) (w : World) (l0 : 0 ≤ ln) (l1 : ln ≤ 16) (a0 : 0 ≤ ad) (a1 : ad ≤ 65535) (h : DoorsAt w da dn ds) :
    Calls Tryz.prog 49 #[.agg #[.int .i64 ad, .int .i64 ln, .int .i64 ow, .int .i64 lo, .int .i64 hi, .slice da dn dc, .int .i64 nw, .slice ea en ec]] w fun e w' => e = .returned (.bool (doorsB ad ln lo hi ds)) ∧ Below w.heap.size w w' := by
  obtain ⟨rfl, h⟩ := h
  by_cases hl : ds.length ≤ 6
  · rcases h with rfl | ⟨b, o, rfl, hlt, hc⟩
    · have e : doorsB ad ln lo hi [] = true := by simp [doorsB, DoorsUp]
      rw [e]
      exact l2Doors_nil ad ln ow lo hi nw da dc ea en ec w
    · exact l2Doors_some ad ln ow lo hi nw b o ds dc ea en ec w l0 l1 a0 a1 hlt hc hl
  · have e : doorsB ad ln lo hi ds = false := by simp [doorsB, hl]
    rw [e]
    exact l2Doors_many ad ln ow lo hi nw da ds.length dc ea en ec w (by omega)
end Go.Proofs.YtcgjpmhjijmplabGreatDoor
