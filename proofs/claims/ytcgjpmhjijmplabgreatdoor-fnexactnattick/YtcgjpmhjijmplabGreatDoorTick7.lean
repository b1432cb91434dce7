/- The program's natPassTick, walked. -/
import Derived.Test.YtcgjpmhjijmplabGreatDoorTick6
namespace Go.Proofs.YtcgjpmhjijmplabGreatDoor
open Go.ChangeShapes Go.WideShapes Go.ChangeAt Go.RowKit Go.Maps

/-- All blocks but the row's are as they were. -/
structure Far (row : Option Nat) (w w' : World) : Prop where
  os : w'.os = w.os
  tape : w'.tape = w.tape
  output : w'.output = w.output
  size : w.heap.size ≤ w'.heap.size
  block : ∀ k, k < w.heap.size → row ≠ some k → w'.heap[k]? = w.heap[k]?
theorem far_of_bl {row : Option Nat} {w w' : World} (h : Below w.heap.size w w') : Far row w w' := ⟨h.os, h.tape, h.output, h.size, fun k hk _ => h.block k hk⟩
theorem far_of_ap {g : Nat} {w w' : World} (h : Apart g w w') : Far (some g) w w' := ⟨h.os, h.tape, h.output, h.size, fun k hk hn => h.block k hk (fun e => hn (by rw [e]))⟩
theorem Far.bl {row : Option Nat} {w0 w w' : World} (h : Far row w w') (hb : Below w0.heap.size w0 w) (hr : ∀ k, row = some k → w0.heap.size ≤ k) : Below w0.heap.size w0 w' :=
  ⟨h.os.trans hb.os, h.tape.trans hb.tape, h.output.trans hb.output, Nat.le_trans hb.size h.size, fun k hk => (h.block k (Nat.lt_of_lt_of_le hk hb.size) (fun e => by have := hr k e; omega)).trans (hb.block k hk)⟩
theorem Far.bx {row : Option Nat} {w w' : World} {n : Nat} {C : Array Value} (h : Far row w w') (b : Bx w n C) (hn : row ≠ some n) : Bx w' n C :=
  ⟨⟨Nat.lt_of_lt_of_le b.1.1 h.size, fun j => (World.cell?_of_block (w := w) (h.block n b.1.1 hn)).trans (b.1.2 j)⟩, fun j => (World.frozen?_of_block (w := w) (a := ⟨n, j, none⟩) (h.block n b.1.1 hn)).trans (b.2 j)⟩
theorem Far.own {row : Option Nat} {w w' : World} {base size n : Nat} {e : TypeId} {v : Value} {xs : List Value} (h : Far row w w') (o : w.ownsRow base e size v n xs) (hn : ∀ k, v.ownBlock = some k → row ≠ some k) : w'.ownsRow base e size v n xs := by
  have hl := o.lt
  refine ⟨o.1, ?_⟩
  rcases o.2 with o | ⟨g, cap, cur, h1, h2, h3, h4⟩
  · exact Or.inl o
  · have e1 : v.ownBlock = some g := by rw [h1]; rfl
    exact Or.inr ⟨g, cap, cur, h1, h2, (h.block g (hl g e1).2 (hn g e1)).trans h3, h4⟩

theorem index_nil (f : Value) (w : World) :
    Calls Tryz.prog 83 #[.slice none 0 0, f] w fun e w' => e = .returned (.int .i64 (-1)) ∧ Below w.heap.size w w' := by
  go_enter Tryz.func83, Tryz.ntmps83
  go_wp2_with fail
  go_loopg [8] 0 (fun gg i wr => gg = 0 ∧ i = .int .i64 0 ∧ Below w.heap.size w wr)
  case atStart => exact ⟨rfl, rfl, bl_refl _⟩
  case round =>
    obtain ⟨rfl, rfl, hB⟩ := hrel
    go_wp2_with fail
    go_ret
    exact ⟨rfl, hB⟩
theorem delete_nil (f : Value) (w : World) :
    Calls Tryz.prog 62 #[.slice none 0 0, f] w fun e w' => e = .returned (.slice none 0 0) ∧ Below w.heap.size w w' := by
  go_enter Tryz.func62, Tryz.ntmps62
  go_wp2_with fail
  refine (index_nil _ _).mono ?_
  rintro e w1 ⟨rfl, hb⟩
  go_wp2_with fail
  go_ret
  exact ⟨rfl, hb⟩
theorem delete_own (base nb : Nat) (nw : Int) (ua : Option Addr) (en uc : Nat) (es : List En) (w : World) (ho : w.ownsRow base 55 7 (.slice ua en uc) es.length (flatE es)) (hen : en = es.length) (hnb : w.cell? ⟨nb, 6, none⟩ = some (.int .i64 (nw + 1))) (hnl : nb < w.heap.size) (hne : ∀ k, (Value.slice ua en uc).ownBlock = some k → k ≠ nb) (hl : es.length ≤ 16) (n0 : 0 ≤ nw) (n1 : nw ≤ 1000000) (hla : ∀ (i : Nat) d, es[i]? = some d → 0 ≤ d.l ∧ d.l ≤ nw) :
    Calls Tryz.prog 62 #[.slice ua en uc, .func (.func 63) #[] #[.pointer (some ⟨nb, 0, none⟩)]] w fun e w' =>
      e = .returned (.slice ua (tickL nw es).length uc) ∧ Far (Value.slice ua en uc).ownBlock w w' ∧ w'.ownsRow base 55 7 (.slice ua (tickL nw es).length uc) (tickL nw es).length (flatE (tickL nw es)) := by
  subst hen
  have hle : (tickL nw es).length ≤ es.length := List.length_filter_le _ _
  rcases ho.2 with ⟨h1, h2⟩ | ⟨g, cap, cur, h1, h2, h3, h4, h5, h6, h7⟩
  · simp only [Value.slice.injEq] at h1
    obtain ⟨rfl, hz, rfl⟩ := h1
    have hes : es = [] := List.eq_nil_of_length_eq_zero hz
    subst hes
    refine (delete_nil _ w).mono ?_
    rintro e w1 ⟨rfl, hb⟩
    exact ⟨rfl, far_of_bl hb, World.ownsRow_nil _ _ _ _⟩
  · have hcs := enCells_of_own (by rw [← h1]; exact ho) rfl
    simp only [Value.slice.injEq] at h1
    obtain ⟨rfl, -, rfl⟩ := h1
    refine (delete_ret g uc nb nw es w ⟨cur, h3, h6⟩ h4 h5 hcs hnb hnl (fun e => hne g rfl e.symm) hl n0 n1 hla).mono ?_
    rintro e w1 ⟨rfl, hA, hR, hE⟩
    exact ⟨rfl, far_of_ap hA, own_of_row hR h2 (by omega) h5 hE⟩

set_option maxRecDepth 20000 in
set_option maxHeartbeats 2000000 in
theorem passTick_no (ad ln ow lo hi nw : Int) (da : Option Addr) (dn dc : Nat) (ea : Option Addr) (en ec : Nat) (ds : List Dr) (es : List En) (c : Int) (w : World) (hD : DoorsAt w da dn ds) (hE : EntriesAt w ea en es) (hc : (bookB ad ln ow lo hi nw ds es = false ∧ c = 1) ∨ (bookB ad ln ow lo hi nw ds es = true ∧ nw = 1000000 ∧ c = 2)) :
    Calls Tryz.prog 33 #[.agg #[.int .i64 ad, .int .i64 ln, .int .i64 ow, .int .i64 lo, .int .i64 hi, .slice da dn dc, .int .i64 nw, .slice ea en ec]] w fun e w' => e = .returned (.tuple #[.agg #[.int .i64 0, .int .i64 0, .int .i64 0, .int .i64 0, .int .i64 0, .slice none 0 0, .int .i64 0, .slice none 0 0], .iface 107 (.int .i64 c)]) ∧ Below w.heap.size w w' := by
  have hb0 := bl_alloc (bl_alloc (bl_refl w) (.cells #[.int .i64 ad, .int .i64 ln, .int .i64 ow, .int .i64 lo, .int .i64 hi, .slice da dn dc, .int .i64 nw, .slice ea en ec] 35)) (.cells #[.int .i64 0, .int .i64 0, .int .i64 0, .int .i64 0, .int .i64 0, .slice none 0 0, .int .i64 0, .slice none 0 0] 35)
  have x1 := (Box.new w #[.int .i64 ad, .int .i64 ln, .int .i64 ow, .int .i64 lo, .int .i64 hi, .slice da dn dc, .int .i64 nw, .slice ea en ec] 35).below (bl_alloc (bl_refl _) (.cells #[.int .i64 0, .int .i64 0, .int .i64 0, .int .i64 0, .int .i64 0, .slice none 0 0, .int .i64 0, .slice none 0 0] 35))
  have bx := Bx.new (w.alloc (.cells #[.int .i64 ad, .int .i64 ln, .int .i64 ow, .int .i64 lo, .int .i64 hi, .slice da dn dc, .int .i64 nw, .slice ea en ec] 35)) #[.int .i64 0, .int .i64 0, .int .i64 0, .int .i64 0, .int .i64 0, .slice none 0 0, .int .i64 0, .slice none 0 0] 35
  simp only [World.size_alloc] at bx
  have H1 : Hid (Calls Tryz.prog _ _ _ _) := implBook_ret ad ln ow lo hi nw da dn dc ea en ec ds es _ (hD.below hb0) (hE.below hb0)
  clear hD hE
  rcases hc with ⟨hk, rfl⟩ | ⟨hk, hmx, rfl⟩
  · go_enter Tryz.func33, Tryz.ntmps33
    go_wp2_with fail
    refine H1.out.mono ?_
    rintro e w1 ⟨rfl, hb1⟩
    have hB1 := bl_trans hb0 hb1
    replace bx := bx.below hb1
    clear hb0 hb1 H1 x1
    obtain ⟨⟨q1, q2⟩, q3⟩ := id bx
    go_wp2_with fail
    have hbv := bx.set8 (.int .i64 0) (.int .i64 0) (.int .i64 0) (.int .i64 0) (.int .i64 0) (.slice none 0 0) (.int .i64 0) (.slice none 0 0)
    obtain ⟨⟨t1, t2⟩, t3⟩ := id hbv
    exact bodyPost_ret (v := .tuple #[.agg #[.int .i64 0, .int .i64 0, .int .i64 0, .int .i64 0, .int .i64 0, .slice none 0 0, .int .i64 0, .slice none 0 0], .iface 107 (.int .i64 1)]) (by simp [results, Tryz.results33, go_sem, t2]) rfl ⟨rfl, bl_set8 hB1 (n := w.heap.size + 1) (by omega) (.int .i64 0) (.int .i64 0) (.int .i64 0) (.int .i64 0) (.int .i64 0) (.slice none 0 0) (.int .i64 0) (.slice none 0 0)⟩
  · have hq : (nw == 1000000) = true := by simpa using hmx
    clear hmx
    go_enter Tryz.func33, Tryz.ntmps33
    go_wp2_with fail
    refine H1.out.mono ?_
    rintro e w1 ⟨rfl, hb1⟩
    have hB1 := bl_trans hb0 hb1
    replace bx := bx.below hb1
    replace x1 := x1.below hb1
    clear hb0 hb1 H1
    have y1 := x1.2
    have hl1 := x1.1
    obtain ⟨⟨q1, q2⟩, q3⟩ := id bx
    go_wp2_with fail
    have hbv := bx.set8 (.int .i64 0) (.int .i64 0) (.int .i64 0) (.int .i64 0) (.int .i64 0) (.slice none 0 0) (.int .i64 0) (.slice none 0 0)
    obtain ⟨⟨t1, t2⟩, t3⟩ := id hbv
    exact bodyPost_ret (v := .tuple #[.agg #[.int .i64 0, .int .i64 0, .int .i64 0, .int .i64 0, .int .i64 0, .slice none 0 0, .int .i64 0, .slice none 0 0], .iface 107 (.int .i64 2)]) (by simp [results, Tryz.results33, go_sem, t2]) rfl ⟨rfl, bl_set8 hB1 (n := w.heap.size + 1) (by omega) (.int .i64 0) (.int .i64 0) (.int .i64 0) (.int .i64 0) (.int .i64 0) (.slice none 0 0) (.int .i64 0) (.slice none 0 0)⟩
end Go.Proofs.YtcgjpmhjijmplabGreatDoor
