/- Joined: Tick6, Tick7, Tick8. -/
import Derived.Test.YtcgjpmhjijmplaaGreatDoorJoinC
/- slices.DeleteFunc over the tick's closure, walked. -/
namespace Go.Proofs.YtcgjpmhjijmplaaGreatDoor
open Go.ChangeShapes Go.WideShapes Go.ChangeAt Go.RowKit Go.Maps

def zE : Array Value := #[.int .i64 0, .int .i64 0, .int .i64 0, .int .i64 0, .int .i64 0, .int .i64 0, .int .i64 0]
theorem zE_len (n : Nat) : (Builtin.zeroCells zE n).toList.length = n * 7 := by simp [Builtin.zeroCells, zE]
theorem new_cell (w : World) (cs : Array Value) (t : TypeId) (k : Nat) : (w.alloc (Obj.cells cs t)).cell? ⟨w.heap.size, k, none⟩ = cs[k]? := by
  unfold World.cell? World.alloc; simp
end Go.Proofs.YtcgjpmhjijmplaaGreatDoor

/- The program's natPassTick, walked. -/
namespace Go.Proofs.YtcgjpmhjijmplaaGreatDoor
open Go.ChangeShapes Go.WideShapes Go.ChangeAt Go.RowKit Go.Maps

/-- All blocks but the row's are as they were. -/
structure Far (row : Option Nat) (w w' : World) : Prop where
  os : w'.os = w.os
  tape : w'.tape = w.tape
  output : w'.output = w.output
  size : w.heap.size ≤ w'.heap.size
  block : ∀ k, k < w.heap.size → row ≠ some k → w'.heap[k]? = w.heap[k]?
theorem far_of_bl {row : Option Nat} {w w' : World} (h : Below w.heap.size w w') : Far row w w' := ⟨h.os, h.tape, h.output, h.size, fun k hk _ => h.block k hk⟩
theorem far_of_ap {g : Nat} {w w' : World} (h : Apart g w w') : Far (some g) w w' := ⟨h.os, h.tape, h.output, h.size, fun k hk hn => h.block k hk (fun e => hn (by rw [e]))⟩
theorem Far.bl {row : Option Nat} {w0 w w' : World} (h : Far row w w') (hb : Below w0.heap.size w0 w) (hr : ∀ k, row = some k → w0.heap.size ≤ k) : Below w0.heap.size w0 w' :=
  ⟨h.os.trans hb.os, h.tape.trans hb.tape, h.output.trans hb.output, Nat.le_trans hb.size h.size, fun k hk => (h.block k (Nat.lt_of_lt_of_le hk hb.size) (fun e => by have := hr k e; omega)).trans (hb.block k hk)⟩
theorem Far.bx {row : Option Nat} {w w' : World} {n : Nat} {C : Array Value} (h : Far row w w') (b : Bx w n C) (hn : row ≠ some n) : Bx w' n C :=
  ⟨⟨Nat.lt_of_lt_of_le b.1.1 h.size, fun j => (World.cell?_of_block (w := w) (h.block n b.1.1 hn)).trans (b.1.2 j)⟩, fun j => (World.frozen?_of_block (w := w) (a := ⟨n, j, none⟩) (h.block n b.1.1 hn)).trans (b.2 j)⟩
theorem Far.own {row : Option Nat} {w w' : World} {base size n : Nat} {e : TypeId} {v : Value} {xs : List Value} (h : Far row w w') (o : w.ownsRow base e size v n xs) (hn : ∀ k, v.ownBlock = some k → row ≠ some k) : w'.ownsRow base e size v n xs := by
  have hl := o.lt
  refine ⟨o.1, ?_⟩
  rcases o.2 with o | ⟨g, cap, cur, h1, h2, h3, h4⟩
  · exact Or.inl o
  · have e1 : v.ownBlock = some g := by rw [h1]; rfl
    exact Or.inr ⟨g, cap, cur, h1, h2, (h.block g (hl g e1).2 (hn g e1)).trans h3, h4⟩

end Go.Proofs.YtcgjpmhjijmplaaGreatDoor

/- The program's NatTick, walked. -/
namespace Go.Proofs.YtcgjpmhjijmplaaGreatDoor
open Go.ChangeShapes Go.WideShapes Go.ChangeAt Go.RowKit Go.Maps

set_option maxRecDepth 20000 in
set_option maxHeartbeats 4000000 in
theorem refused_one (ad ln ow lo hi nw : Int) (da : Option Addr) (dn dc : Nat) (ea : Option Addr) (en ec : Nat) (w : World) (hg : Gl w) :
    Calls Tryz.prog 46 #[.agg #[.int .i64 ad, .int .i64 ln, .int .i64 ow, .int .i64 lo, .int .i64 hi, .slice da dn dc, .int .i64 nw, .slice ea en ec], .iface 133 (.int .i64 1)] w fun e w' => e = .returned (.tuple #[.agg #[.int .i64 0, .int .i64 0, .int .i64 0, .int .i64 0, .int .i64 0, .slice none 0 0, .int .i64 0, .slice none 0 0], .int .i64 1]) ∧ Below w.heap.size w w' := by
  have hb0 := bl_alloc (bl_alloc (bl_refl w) (.cells #[.int .i64 ad, .int .i64 ln, .int .i64 ow, .int .i64 lo, .int .i64 hi, .slice da dn dc, .int .i64 nw, .slice ea en ec] 26)) (.cells #[.int .i64 0, .int .i64 0, .int .i64 0, .int .i64 0, .int .i64 0, .slice none 0 0, .int .i64 0, .slice none 0 0] 26)
  have bx := Bx.new (w.alloc (.cells #[.int .i64 ad, .int .i64 ln, .int .i64 ow, .int .i64 lo, .int .i64 hi, .slice da dn dc, .int .i64 nw, .slice ea en ec] 26)) #[.int .i64 0, .int .i64 0, .int .i64 0, .int .i64 0, .int .i64 0, .slice none 0 0, .int .i64 0, .slice none 0 0] 26
  simp only [World.size_alloc] at bx
  have H1 : Hid (Calls Tryz.prog _ _ _ _) := natCode_ret 1 _ (hg.below hb0)
  go_enter Tryz.func46, Tryz.ntmps46
  go_wp2_with fail
  refine H1.out.mono ?_
  rintro e w1 ⟨rfl, hb1⟩
  have hB1 := bl_trans hb0 hb1
  replace bx := bx.below hb1
  clear hb0 hb1 H1
  obtain ⟨⟨q1, q2⟩, q3⟩ := id bx
  go_wp2_with fail
  have hbv := bx.set8 (.int .i64 0) (.int .i64 0) (.int .i64 0) (.int .i64 0) (.int .i64 0) (.slice none 0 0) (.int .i64 0) (.slice none 0 0)
  obtain ⟨⟨t1, t2⟩, t3⟩ := id hbv
  exact bodyPost_ret (v := .tuple #[.agg #[.int .i64 0, .int .i64 0, .int .i64 0, .int .i64 0, .int .i64 0, .slice none 0 0, .int .i64 0, .slice none 0 0], .int .i64 1]) (by simp [results, Tryz.results46, go_sem, t2]) rfl ⟨rfl, bl_set8 hB1 (n := w.heap.size + 1) (by omega) (.int .i64 0) (.int .i64 0) (.int .i64 0) (.int .i64 0) (.int .i64 0) (.slice none 0 0) (.int .i64 0) (.slice none 0 0)⟩

set_option maxRecDepth 20000 in
set_option maxHeartbeats 4000000 in
theorem refused_more (ad ln ow lo hi nw : Int) (da : Option Addr) (dn dc : Nat) (ea : Option Addr) (en ec : Nat) (ds : List Dr) (es : List En) (c : Int) (w : World) (hg : Gl w) (hD : DoorsAt w da dn ds) (hE : EntriesAt w ea en es) (hdl : dn ≤ 1048576) (hel : en ≤ 1048576) (hc : (c == 1) = false) :
    Calls Tryz.prog 46 #[.agg #[.int .i64 ad, .int .i64 ln, .int .i64 ow, .int .i64 lo, .int .i64 hi, .slice da dn dc, .int .i64 nw, .slice ea en ec], .iface 133 (.int .i64 c)] w fun e w' => ∃ va vc ua uc, e = .returned (.tuple #[.agg #[.int .i64 ad, .int .i64 ln, .int .i64 ow, .int .i64 lo, .int .i64 hi, .slice va dn vc, .int .i64 nw, .slice ua en uc], .int .i64 c]) ∧ OwnB w' w.heap.size (.slice va dn vc) ds (.slice ua en uc) es ∧ Below w.heap.size w w' := by
  have hb0 := bl_alloc (bl_alloc (bl_refl w) (.cells #[.int .i64 ad, .int .i64 ln, .int .i64 ow, .int .i64 lo, .int .i64 hi, .slice da dn dc, .int .i64 nw, .slice ea en ec] 26)) (.cells #[.int .i64 0, .int .i64 0, .int .i64 0, .int .i64 0, .int .i64 0, .slice none 0 0, .int .i64 0, .slice none 0 0] 26)
  have x1 := (Box.new w #[.int .i64 ad, .int .i64 ln, .int .i64 ow, .int .i64 lo, .int .i64 hi, .slice da dn dc, .int .i64 nw, .slice ea en ec] 26).below (bl_alloc (bl_refl _) (.cells #[.int .i64 0, .int .i64 0, .int .i64 0, .int .i64 0, .int .i64 0, .slice none 0 0, .int .i64 0, .slice none 0 0] 26))
  have bx := Bx.new (w.alloc (.cells #[.int .i64 ad, .int .i64 ln, .int .i64 ow, .int .i64 lo, .int .i64 hi, .slice da dn dc, .int .i64 nw, .slice ea en ec] 26)) #[.int .i64 0, .int .i64 0, .int .i64 0, .int .i64 0, .int .i64 0, .slice none 0 0, .int .i64 0, .slice none 0 0] 26
  simp only [World.size_alloc] at bx
  have H1 : Hid (Calls Tryz.prog _ _ _ _) := natCode_ret c _ (hg.below hb0)
  have HD : Hid (∀ W, Below w.heap.size w W → DoorsAt W da dn ds) := fun W h => hD.below h
  have HE : Hid (∀ W, Below w.heap.size w W → EntriesAt W ea en es) := fun W h => hE.below h
  clear hD hE
  go_enter Tryz.func46, Tryz.ntmps46
  go_wp2_with fail
  refine H1.out.mono ?_
  rintro e w1 ⟨rfl, hb1⟩
  have hB1 := bl_trans hb0 hb1
  replace bx := bx.below hb1
  replace x1 := x1.below hb1
  clear hb0 hb1 H1
  have y1 := x1.2
  have hl0 := x1.1
  have hl1 := bx.1.1
  have H2 : Hid (Calls Tryz.prog _ _ _ _) := natCopy_ret ad ln ow lo hi nw da dn dc ea en ec ds es w1 (HD.out _ hB1) (HE.out _ hB1) hdl hel
  go_wp2_with fail
  refine H2.out.mono ?_
  rintro e w2 ⟨va, vc, ua, uc, rfl, hO, hb2⟩
  have hB2 := bl_trans hB1 hb2
  replace bx := bx.below hb2
  clear H2 hb2 y1 x1
  obtain ⟨⟨q1, q2⟩, q3⟩ := id bx
  go_wp2_with fail
  have hbv := bx.set8 (.int .i64 ad) (.int .i64 ln) (.int .i64 ow) (.int .i64 lo) (.int .i64 hi) (.slice va dn vc) (.int .i64 nw) (.slice ua en uc)
  obtain ⟨⟨t1, t2⟩, t3⟩ := id hbv
  exact bodyPost_ret (v := .tuple #[.agg #[.int .i64 ad, .int .i64 ln, .int .i64 ow, .int .i64 lo, .int .i64 hi, .slice va dn vc, .int .i64 nw, .slice ua en uc], .int .i64 c]) (by simp [results, Tryz.results46, go_sem, t2]) rfl ⟨va, vc, ua, uc, rfl, ⟨own_mono (own_other8 (own_mono hO.1 (show w.heap.size + 2 ≤ w1.heap.size by omega)) (m := w.heap.size + 1) (by omega) (.int .i64 ad) (.int .i64 ln) (.int .i64 ow) (.int .i64 lo) (.int .i64 hi) (.slice va dn vc) (.int .i64 nw) (.slice ua en uc)) (by omega), own_mono (own_other8 (own_mono hO.2.1 (show w.heap.size + 2 ≤ w1.heap.size by omega)) (m := w.heap.size + 1) (by omega) (.int .i64 ad) (.int .i64 ln) (.int .i64 ow) (.int .i64 lo) (.int .i64 hi) (.slice va dn vc) (.int .i64 nw) (.slice ua en uc)) (by omega), hO.2.2⟩, bl_set8 hB2 (n := w.heap.size + 1) (by omega) (.int .i64 ad) (.int .i64 ln) (.int .i64 ow) (.int .i64 lo) (.int .i64 hi) (.slice va dn vc) (.int .i64 nw) (.slice ua en uc)⟩
end Go.Proofs.YtcgjpmhjijmplaaGreatDoor
