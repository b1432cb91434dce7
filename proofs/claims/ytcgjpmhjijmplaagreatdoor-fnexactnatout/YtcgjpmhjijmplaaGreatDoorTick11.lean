/- Marks in a book, and whether they are held; walked. -/
import Derived.Test.YtcgjpmhjijmplaaGreatDoorTick10
namespace Go.Proofs.YtcgjpmhjijmplaaGreatDoor
open Go.ChangeShapes Go.WideShapes Go.ChangeAt Go.RowKit Go.Maps

/-- All blocks but the two rows' are as they were. -/
structure Far2 (r s : Option Nat) (w w' : World) : Prop where
  os : w'.os = w.os
  tape : w'.tape = w.tape
  output : w'.output = w.output
  size : w.heap.size ≤ w'.heap.size
  block : ∀ k, k < w.heap.size → r ≠ some k → s ≠ some k → w'.heap[k]? = w.heap[k]?
theorem Far.two {r s : Option Nat} {a b c : World} (h : Far r a b) (k : Far s b c) : Far2 r s a c :=
  ⟨k.os.trans h.os, k.tape.trans h.tape, k.output.trans h.output, Nat.le_trans h.size k.size, fun i hi h1 h2 => (k.block i (Nat.lt_of_lt_of_le hi h.size) h2).trans (h.block i hi h1)⟩
theorem Far.after {r : Option Nat} {a b c : World} (h : Below a.heap.size a b) (k : Far r b c) : Far r a c :=
  ⟨k.os.trans h.os, k.tape.trans h.tape, k.output.trans h.output, Nat.le_trans h.size k.size, fun i hi h2 => (k.block i (Nat.lt_of_lt_of_le hi h.size) h2).trans (h.block i hi)⟩
theorem Far2.bl {r s : Option Nat} {w0 w w' : World} (h : Far2 r s w w') (hb : Below w0.heap.size w0 w) (hr : ∀ k, r = some k → w0.heap.size ≤ k) (hs : ∀ k, s = some k → w0.heap.size ≤ k) : Below w0.heap.size w0 w' :=
  ⟨h.os.trans hb.os, h.tape.trans hb.tape, h.output.trans hb.output, Nat.le_trans hb.size h.size, fun k hk => (h.block k (Nat.lt_of_lt_of_le hk hb.size) (fun e => by have := hr k e; omega) (fun e => by have := hs k e; omega)).trans (hb.block k hk)⟩
theorem Far2.box {r s : Option Nat} {w w' : World} {n : Nat} {C : Array Value} (h : Far2 r s w w') (b : Box w n C) (hr : r ≠ some n) (hs : s ≠ some n) : Box w' n C :=
  ⟨Nat.lt_of_lt_of_le b.1 h.size, fun j => (World.cell?_of_block (w := w) (h.block n b.1 hr hs)).trans (b.2 j)⟩
theorem Far2.own {r s : Option Nat} {w w' : World} {base size n : Nat} {e : TypeId} {v : Value} {xs : List Value} (h : Far2 r s w w') (o : w.ownsRow base e size v n xs) (hr : ∀ k, v.ownBlock = some k → r ≠ some k) (hs : ∀ k, v.ownBlock = some k → s ≠ some k) : w'.ownsRow base e size v n xs := by
  have hl := o.lt
  refine ⟨o.1, ?_⟩
  rcases o.2 with o | ⟨g, cap, cur, h1, h2, h3, h4⟩
  · exact Or.inl o
  · have e1 : v.ownBlock = some g := by rw [h1]; rfl
    exact Or.inr ⟨g, cap, cur, h1, h2, (h.block g (hl g e1).2 (hr g e1) (hs g e1)).trans h3, h4⟩

set_option maxHeartbeats 2000000 in
theorem markBook_ret (ad ln ow lo hi nw : Int) (da : Option Addr) (dn dc : Nat) (ea : Option Addr) (en ec : Nat) (base : Nat) (xs ys : List Value) (w : World) (hd : w.ownsRow base 85 4 (.slice da dn dc) dn xs) (he : w.ownsRow base 52 7 (.slice ea en ec) en ys) (hx : ∀ g, (Value.slice da dn dc).ownBlock = some g → (Value.slice ea en ec).ownBlock ≠ some g) (hdn : dn ≤ 1048576) (hen : en ≤ 1048576) :
    Calls Tryz.prog 38 #[.agg #[.int .i64 ad, .int .i64 ln, .int .i64 ow, .int .i64 lo, .int .i64 hi, .slice da dn dc, .int .i64 nw, .slice ea en ec], .int .i64 1] w fun e w' => e = .returned (.int .i64 (1 + (dn * 4 : Nat) + (en * 7 : Nat))) ∧ Far2 (Value.slice da dn dc).ownBlock (Value.slice ea en ec).ownBlock w w' ∧ MarkOf w' (.slice da dn dc) dn 4 1 ∧ MarkOf w' (.slice ea en ec) en 7 (1 + (dn * 4 : Nat)) := by
  have hb0 := bl_alloc (bl_refl w) (.cells #[.int .i64 ad, .int .i64 ln, .int .i64 ow, .int .i64 lo, .int .i64 hi, .slice da dn dc, .int .i64 nw, .slice ea en ec] 26)
  have x1 := Bx.new w #[.int .i64 ad, .int .i64 ln, .int .i64 ow, .int .i64 lo, .int .i64 hi, .slice da dn dc, .int .i64 nw, .slice ea en ec] 26
  have hdl := fun k h => (hd.lt k h).2
  have hel := fun k h => (he.lt k h).2
  replace hd := ownsRow_bl hd hb0
  replace he := ownsRow_bl he hb0
  have H1 : Hid (Calls Tryz.prog _ _ _ _) := markD_own da dn dc base xs 1 _ hd hdn (by omega) (by omega)
  have hdl : Hid (∀ k, (Value.slice da dn dc).ownBlock = some k → k < w.heap.size) := hdl
  have hel : Hid (∀ k, (Value.slice ea en ec).ownBlock = some k → k < w.heap.size) := hel
  have hx : Hid (∀ g, (Value.slice da dn dc).ownBlock = some g → (Value.slice ea en ec).ownBlock ≠ some g) := hx
  have he : Hid (World.ownsRow _ base 52 7 (.slice ea en ec) en ys) := he
  clear hd
  go_enter Tryz.func38, Tryz.ntmps38
  have y1 := x1.1.2
  go_wp2_with fail
  refine H1.out.mono ?_
  rintro e w1 ⟨rfl, hF1, hM1⟩
  replace x1 := hF1.bx x1 (fun e => by have := hdl.out _ e; omega)
  have he1 := hF1.own he.out (fun k h1 h2 => hx.out k h2 h1)
  have H2 : Hid (Calls Tryz.prog _ _ _ _) := markE_own ea en ec base ys (1 + (dn * 4 : Nat)) w1 he1 hen (by omega) (by omega)
  have hM1 : Hid (MarkOf w1 (.slice da dn dc) dn 4 1) := hM1
  have hF1 : Hid (Far _ _ w1) := hF1
  clear H1 y1 he1
  have y1 := x1.1.2
  have hl1 := x1.1.1
  go_wp2_with fail
  refine H2.out.mono ?_
  rintro e w2 ⟨rfl, hF2, hM2⟩
  go_wp2_with fail
  go_ret
  exact ⟨rfl, (Far.after hb0 hF1.out).two hF2, hM1.out.far hF2 (fun g h1 h2 => hx.out g h1 h2), hM2⟩

set_option maxHeartbeats 2000000 in
theorem heldBook_ret (ad ln ow lo hi nw : Int) (da : Option Addr) (dn dc : Nat) (ea : Option Addr) (en ec : Nat) (w : World) (hd : MarkOf w (.slice da dn dc) dn 4 1) (he : MarkOf w (.slice ea en ec) en 7 (1 + (dn * 4 : Nat))) (hdn : dn ≤ 1048576) (hen : en ≤ 1048576) :
    Calls Tryz.prog 39 #[.agg #[.int .i64 ad, .int .i64 ln, .int .i64 ow, .int .i64 lo, .int .i64 hi, .slice da dn dc, .int .i64 nw, .slice ea en ec], .int .i64 1] w fun e w' => e = .returned (.int .i64 (1 + (dn * 4 : Nat) + (en * 7 : Nat))) ∧ Below w.heap.size w w' := by
  have hb0 := bl_alloc (bl_refl w) (.cells #[.int .i64 ad, .int .i64 ln, .int .i64 ow, .int .i64 lo, .int .i64 hi, .slice da dn dc, .int .i64 nw, .slice ea en ec] 26)
  have x1 := Bx.new w #[.int .i64 ad, .int .i64 ln, .int .i64 ow, .int .i64 lo, .int .i64 hi, .slice da dn dc, .int .i64 nw, .slice ea en ec] 26
  have H1 : Hid (Calls Tryz.prog _ _ _ _) := heldD_own da dn dc 1 _ (hd.far (row := none) (far_of_bl hb0) (fun g _ h => by cases h)) hdn (by omega) (by omega)
  have H2 : Hid (Calls Tryz.prog _ _ _ _) := heldE_own ea en ec (1 + (dn * 4 : Nat)) _ (he.far (row := none) (far_of_bl hb0) (fun g _ h => by cases h)) hen (by omega) (by omega)
  clear hd he
  go_enter Tryz.func39, Tryz.ntmps39
  have y1 := x1.1.2
  go_wp2_with fail
  refine H1.out.mono ?_
  rintro e w1 ⟨rfl, rfl⟩
  have k0 : ¬ ((1 : Int) + (dn * 4 : Nat) < 0) := by omega
  have k2 : ¬ ((1 : Int) + (dn * 4 : Nat) + (en * 7 : Nat) < 0) := by omega
  go_wp2_with fail
  refine H2.out.mono ?_
  rintro e w2 ⟨rfl, rfl⟩
  go_wp2_with fail
  go_ret
  exact ⟨rfl, hb0⟩
end Go.Proofs.YtcgjpmhjijmplaaGreatDoor
