/- What a region keeps that calls NatOut and stores what is told. -/
import Derived.Test.YtcgjpmhjijmplaaGreatDoorJoinP
import Derived.Test.YtcgjpmhjijmplaaGreatDoorOutM
import Derived.Test.YtcgjpmhjijmplaaGreatDoorJoinG
namespace Go.Proofs.YtcgjpmhjijmplaaGreatDoor
open Go.ChangeShapes Go.WideShapes Go.ChangeAt Go.RowKit Go.Maps

theorem OwnB.set8n {w : World} {base m : Nat} {vd ve : Value} {ds : List Dr} {es : List En} (h : OwnB w base vd ds ve es) (h1 : ∀ k, vd.ownBlock = some k → k ≠ m) (h2 : ∀ k, ve.ownBlock = some k → k ≠ m) (a b c d e f g i : Value) : OwnB (World.setCell (World.setCell (World.setCell (World.setCell (World.setCell (World.setCell (World.setCell (World.setCell w ⟨m, 0, none⟩ (a)) ⟨m, 1, none⟩ (b)) ⟨m, 2, none⟩ (c)) ⟨m, 3, none⟩ (d)) ⟨m, 4, none⟩ (e)) ⟨m, 5, none⟩ (f)) ⟨m, 6, none⟩ (g)) ⟨m, 7, none⟩ (i)) base vd ds ve es :=
  ⟨own_ne (own_ne (own_ne (own_ne (own_ne (own_ne (own_ne (own_ne h.1 h1 a) h1 b) h1 c) h1 d) h1 e) h1 f) h1 g) h1 i, own_ne (own_ne (own_ne (own_ne (own_ne (own_ne (own_ne (own_ne h.2.1 h2 a) h2 b) h2 c) h2 d) h2 e) h2 f) h2 g) h2 i, h.2.2⟩
theorem OwnB.set5n {w : World} {base m : Nat} {vd ve : Value} {ds : List Dr} {es : List En} (h : OwnB w base vd ds ve es) (h1 : ∀ k, vd.ownBlock = some k → k ≠ m) (h2 : ∀ k, ve.ownBlock = some k → k ≠ m) (a b c d e : Value) : OwnB (World.setCell (World.setCell (World.setCell (World.setCell (World.setCell w ⟨m, 0, none⟩ (a)) ⟨m, 1, none⟩ (b)) ⟨m, 2, none⟩ (c)) ⟨m, 3, none⟩ (d)) ⟨m, 4, none⟩ (e)) base vd ds ve es :=
  ⟨own_ne (own_ne (own_ne (own_ne (own_ne h.1 h1 a) h1 b) h1 c) h1 d) h1 e, own_ne (own_ne (own_ne (own_ne (own_ne h.2.1 h2 a) h2 b) h2 c) h2 d) h2 e, h.2.2⟩
def Ne2 (D E : Value) (n : Nat) : Prop := (∀ k, D.ownBlock = some k → k ≠ n) ∧ ∀ k, E.ownBlock = some k → k ≠ n
theorem OwnB.ne_old {w : World} {base n : Nat} {vd ve : Value} {ds : List Dr} {es : List En} (h : OwnB w base vd ds ve es) (hn : n < base) : Ne2 vd ve n := ⟨fun k e => by have := (h.1.lt k e).1; omega, fun k e => by have := (h.2.1.lt k e).1; omega⟩
theorem OwnB.ne_new {w : World} {base : Nat} {vd ve : Value} {ds : List Dr} {es : List En} (h : OwnB w base vd ds ve es) : Ne2 vd ve w.heap.size := ⟨fun k e => Nat.ne_of_lt (h.1.lt k e).2, fun k e => Nat.ne_of_lt (h.2.1.lt k e).2⟩
/-- The book and the flow that are told, on their way: 4 the call, 5 to 8 its parts, 9 and 10 the new variables, 11 and 12 the stores. -/
structure JG (w0 v0 : World) (n1 n2 lo : Nat) (C1 C2 : Array Value) (R : Bk) (F : Fl) (c : Int) (m9 m10 : Nat) (va : Option Addr) (vc : Nat) (ua : Option Addr) (uc : Nat) (b4 b5 b6 b7 b8 b9 b10 b11 b12 b13 : Bool) (y4 y5 y6 y7 y8 y9 y10 y13 : Value) (w : World) : Prop where
  hB : Below w0.heap.size w0 w
  hC : Below v0.heap.size v0 w
  x1 : Box w n1 C1
  x2 : Box w n2 C2
  h4 : b4 = true → y4 = .tuple #[.agg #[.int .i64 R.ad, .int .i64 R.ln, .int .i64 R.ow, .int .i64 R.lo, .int .i64 R.hi, .slice va R.ds.length vc, .int .i64 R.nw, .slice ua R.es.length uc], .agg #[.int .i64 F.k, .int .i64 F.a, .int .i64 F.ap, .int .i64 F.b, .int .i64 F.bp], .int .i64 c] ∧ OwnB w v0.heap.size (.slice va R.ds.length vc) R.ds (.slice ua R.es.length uc) R.es ∧ (b9 = true → Ne2 (.slice va R.ds.length vc) (.slice ua R.es.length uc) m9) ∧ (b10 = true → Ne2 (.slice va R.ds.length vc) (.slice ua R.es.length uc) m10)
  h5 : b5 = true → b4 = true ∧ y5 = .tuple #[.agg #[.int .i64 R.ad, .int .i64 R.ln, .int .i64 R.ow, .int .i64 R.lo, .int .i64 R.hi, .slice va R.ds.length vc, .int .i64 R.nw, .slice ua R.es.length uc], .agg #[.int .i64 F.k, .int .i64 F.a, .int .i64 F.ap, .int .i64 F.b, .int .i64 F.bp], .int .i64 c]
  h6 : b6 = true → b4 = true ∧ y6 = .agg #[.int .i64 R.ad, .int .i64 R.ln, .int .i64 R.ow, .int .i64 R.lo, .int .i64 R.hi, .slice va R.ds.length vc, .int .i64 R.nw, .slice ua R.es.length uc]
  h7 : b7 = true → y7 = .agg #[.int .i64 F.k, .int .i64 F.a, .int .i64 F.ap, .int .i64 F.b, .int .i64 F.bp]
  h8 : b8 = true → y8 = .int .i64 c
  h9 : b9 = true → y9 = .pointer (some ⟨m9, 0, none⟩) ∧ (lo < m9 ∧ v0.heap.size ≤ m9 ∧ m9 < w.heap.size) ∧ (b11 = false → Bx w m9 #[.int .i64 0, .int .i64 0, .int .i64 0, .int .i64 0, .int .i64 0, .slice none 0 0, .int .i64 0, .slice none 0 0]) ∧ (b11 = true → b4 = true ∧ Bx w m9 #[.int .i64 R.ad, .int .i64 R.ln, .int .i64 R.ow, .int .i64 R.lo, .int .i64 R.hi, .slice va R.ds.length vc, .int .i64 R.nw, .slice ua R.es.length uc])
  h10 : b10 = true → y10 = .pointer (some ⟨m10, 0, none⟩) ∧ (lo < m10 ∧ v0.heap.size ≤ m10 ∧ m10 < w.heap.size) ∧ (b9 = true → m9 ≠ m10) ∧ (b12 = false → Bx w m10 #[.int .i64 0, .int .i64 0, .int .i64 0, .int .i64 0, .int .i64 0]) ∧ (b12 = true → Bx w m10 #[.int .i64 F.k, .int .i64 F.a, .int .i64 F.ap, .int .i64 F.b, .int .i64 F.bp])
  h13 : b13 = true → y13 = .int .i64 c
  h11 : b11 = true → b9 = true
  h12 : b12 = true → b10 = true
section
variable {w0 v0 : World} {n1 n2 lo : Nat} {C1 C2 : Array Value} {R : Bk} {F : Fl} {c : Int} {m9 m10 : Nat} {va : Option Addr} {vc : Nat} {ua : Option Addr} {uc : Nat} {b4 b5 b6 b7 b8 b9 b10 b11 b12 b13 : Bool} {y4 y5 y6 y7 y8 y9 y10 y13 : Value} {w w' : World}
theorem JG.below (h : JG w0 v0 n1 n2 lo C1 C2 R F c m9 m10 va vc ua uc b4 b5 b6 b7 b8 b9 b10 b11 b12 b13 y4 y5 y6 y7 y8 y9 y10 y13 w) (hb : Below w.heap.size w w') : JG w0 v0 n1 n2 lo C1 C2 R F c m9 m10 va vc ua uc b4 b5 b6 b7 b8 b9 b10 b11 b12 b13 y4 y5 y6 y7 y8 y9 y10 y13 w' where
  hB := bl_trans h.hB hb
  hC := bl_trans h.hC hb
  x1 := h.x1.below hb
  x2 := h.x2.below hb
  h4 := fun e => by obtain ⟨a1, a2, a3⟩ := h.h4 e; exact ⟨a1, a2.below hb, a3⟩
  h5 := h.h5
  h6 := h.h6
  h7 := h.h7
  h8 := h.h8
  h9 := fun e => by obtain ⟨a1, ⟨a2, a3, a4⟩, a5, a6⟩ := h.h9 e; exact ⟨a1, ⟨a2, a3, Nat.lt_of_lt_of_le a4 hb.size⟩, fun x => (a5 x).below hb, fun x => ⟨(a6 x).1, (a6 x).2.below hb⟩⟩
  h10 := fun e => by obtain ⟨a1, ⟨a2, a3, a4⟩, a5, a6, a7⟩ := h.h10 e; exact ⟨a1, ⟨a2, a3, Nat.lt_of_lt_of_le a4 hb.size⟩, a5, fun x => (a6 x).below hb, fun x => (a7 x).below hb⟩
  h13 := h.h13
  h11 := h.h11
  h12 := h.h12
theorem JG.call {pa : Option Addr} {pc : Nat} {ra : Option Addr} {rc : Nat} (hf : b4 = false) (h : JG w0 v0 n1 n2 lo C1 C2 R F c m9 m10 va vc ua uc b4 b5 b6 b7 b8 b9 b10 b11 b12 b13 y4 y5 y6 y7 y8 y9 y10 y13 w) (hb : Below w.heap.size w w') (hO : OwnB w' w.heap.size (.slice pa R.ds.length pc) R.ds (.slice ra R.es.length rc) R.es) : JG w0 v0 n1 n2 lo C1 C2 R F c m9 m10 pa pc ra rc true b5 b6 b7 b8 b9 b10 b11 b12 b13 (.tuple #[.agg #[.int .i64 R.ad, .int .i64 R.ln, .int .i64 R.ow, .int .i64 R.lo, .int .i64 R.hi, .slice pa R.ds.length pc, .int .i64 R.nw, .slice ra R.es.length rc], .agg #[.int .i64 F.k, .int .i64 F.a, .int .i64 F.ap, .int .i64 F.b, .int .i64 F.bp], .int .i64 c]) y5 y6 y7 y8 y9 y10 y13 w' where
  hB := bl_trans h.hB hb
  hC := bl_trans h.hC hb
  x1 := h.x1.below hb
  x2 := h.x2.below hb
  h4 := fun _ => ⟨rfl, hO.mono h.hC.size, fun e => hO.ne_old (h.h9 e).2.1.2.2, fun e => hO.ne_old (h.h10 e).2.1.2.2⟩
  h5 := fun e => by have := (h.h5 e).1; rw [hf] at this; cases this
  h6 := fun e => by have := (h.h6 e).1; rw [hf] at this; cases this
  h7 := h.h7
  h8 := h.h8
  h9 := fun e => by obtain ⟨a1, ⟨a2, a3, a4⟩, a5, a6⟩ := h.h9 e; exact ⟨a1, ⟨a2, a3, Nat.lt_of_lt_of_le a4 hb.size⟩, fun x => (a5 x).below hb, fun x => by have := (a6 x).1; rw [hf] at this; cases this⟩
  h10 := fun e => by obtain ⟨a1, ⟨a2, a3, a4⟩, a5, a6, a7⟩ := h.h10 e; exact ⟨a1, ⟨a2, a3, Nat.lt_of_lt_of_le a4 hb.size⟩, a5, fun x => (a6 x).below hb, fun x => (a7 x).below hb⟩
  h13 := h.h13
  h11 := h.h11
  h12 := h.h12
theorem JG.mv5 (e4 : b4 = true) (h : JG w0 v0 n1 n2 lo C1 C2 R F c m9 m10 va vc ua uc b4 b5 b6 b7 b8 b9 b10 b11 b12 b13 y4 y5 y6 y7 y8 y9 y10 y13 w) : JG w0 v0 n1 n2 lo C1 C2 R F c m9 m10 va vc ua uc b4 true b6 b7 b8 b9 b10 b11 b12 b13 y4 (.tuple #[.agg #[.int .i64 R.ad, .int .i64 R.ln, .int .i64 R.ow, .int .i64 R.lo, .int .i64 R.hi, .slice va R.ds.length vc, .int .i64 R.nw, .slice ua R.es.length uc], .agg #[.int .i64 F.k, .int .i64 F.a, .int .i64 F.ap, .int .i64 F.b, .int .i64 F.bp], .int .i64 c]) y6 y7 y8 y9 y10 y13 w := ⟨h.hB, h.hC, h.x1, h.x2, h.h4, fun _ => ⟨e4, rfl⟩, h.h6, h.h7, h.h8, h.h9, h.h10, h.h13, h.h11, h.h12⟩
theorem JG.ex6 (e4 : b4 = true) (h : JG w0 v0 n1 n2 lo C1 C2 R F c m9 m10 va vc ua uc b4 b5 b6 b7 b8 b9 b10 b11 b12 b13 y4 y5 y6 y7 y8 y9 y10 y13 w) : JG w0 v0 n1 n2 lo C1 C2 R F c m9 m10 va vc ua uc b4 b5 true b7 b8 b9 b10 b11 b12 b13 y4 y5 (.agg #[.int .i64 R.ad, .int .i64 R.ln, .int .i64 R.ow, .int .i64 R.lo, .int .i64 R.hi, .slice va R.ds.length vc, .int .i64 R.nw, .slice ua R.es.length uc]) y7 y8 y9 y10 y13 w := ⟨h.hB, h.hC, h.x1, h.x2, h.h4, h.h5, fun _ => ⟨e4, rfl⟩, h.h7, h.h8, h.h9, h.h10, h.h13, h.h11, h.h12⟩
theorem JG.ex7 (h : JG w0 v0 n1 n2 lo C1 C2 R F c m9 m10 va vc ua uc b4 b5 b6 b7 b8 b9 b10 b11 b12 b13 y4 y5 y6 y7 y8 y9 y10 y13 w) : JG w0 v0 n1 n2 lo C1 C2 R F c m9 m10 va vc ua uc b4 b5 b6 true b8 b9 b10 b11 b12 b13 y4 y5 y6 (.agg #[.int .i64 F.k, .int .i64 F.a, .int .i64 F.ap, .int .i64 F.b, .int .i64 F.bp]) y8 y9 y10 y13 w := ⟨h.hB, h.hC, h.x1, h.x2, h.h4, h.h5, h.h6, fun _ => rfl, h.h8, h.h9, h.h10, h.h13, h.h11, h.h12⟩
theorem JG.ex8 (h : JG w0 v0 n1 n2 lo C1 C2 R F c m9 m10 va vc ua uc b4 b5 b6 b7 b8 b9 b10 b11 b12 b13 y4 y5 y6 y7 y8 y9 y10 y13 w) : JG w0 v0 n1 n2 lo C1 C2 R F c m9 m10 va vc ua uc b4 b5 b6 b7 true b9 b10 b11 b12 b13 y4 y5 y6 y7 (.int .i64 c) y9 y10 y13 w := ⟨h.hB, h.hC, h.x1, h.x2, h.h4, h.h5, h.h6, h.h7, fun _ => rfl, h.h9, h.h10, h.h13, h.h11, h.h12⟩
theorem JG.as13 (h : JG w0 v0 n1 n2 lo C1 C2 R F c m9 m10 va vc ua uc b4 b5 b6 b7 b8 b9 b10 b11 b12 b13 y4 y5 y6 y7 y8 y9 y10 y13 w) : JG w0 v0 n1 n2 lo C1 C2 R F c m9 m10 va vc ua uc b4 b5 b6 b7 b8 b9 b10 b11 b12 true y4 y5 y6 y7 y8 y9 y10 (.int .i64 c) w := ⟨h.hB, h.hC, h.x1, h.x2, h.h4, h.h5, h.h6, h.h7, h.h8, h.h9, h.h10, fun _ => rfl, h.h11, h.h12⟩
theorem JG.al9 {t : TypeId} (hl : lo = n1 ∨ lo = n2) (f9 : b9 = false) (h : JG w0 v0 n1 n2 lo C1 C2 R F c m9 m10 va vc ua uc b4 b5 b6 b7 b8 b9 b10 b11 b12 b13 y4 y5 y6 y7 y8 y9 y10 y13 w) : JG w0 v0 n1 n2 lo C1 C2 R F c w.heap.size m10 va vc ua uc b4 b5 b6 b7 b8 true b10 b11 b12 b13 y4 y5 y6 y7 y8 (.pointer (some ⟨w.heap.size, 0, none⟩)) y10 y13 (w.alloc (.cells #[.int .i64 0, .int .i64 0, .int .i64 0, .int .i64 0, .int .i64 0, .slice none 0 0, .int .i64 0, .slice none 0 0] t)) := by
  have hb : Below w.heap.size w (w.alloc (.cells #[.int .i64 0, .int .i64 0, .int .i64 0, .int .i64 0, .int .i64 0, .slice none 0 0, .int .i64 0, .slice none 0 0] t)) := bl_alloc (bl_refl _) _
  have hlo : lo < w.heap.size := by
    have := h.x1.1
    have := h.x2.1
    rcases hl with h | h <;> omega
  have g := h.below hb
  exact ⟨g.hB, g.hC, g.x1, g.x2, fun e => by obtain ⟨a1, a2, a3, a4⟩ := h.h4 e; exact ⟨a1, a2.below hb, fun _ => a2.ne_new, a4⟩, g.h5, g.h6, g.h7, g.h8, fun _ => ⟨rfl, ⟨hlo, h.hC.size, by simp⟩, fun _ => Bx.new _ _ _, fun e => by have := h.h11 e; rw [f9] at this; cases this⟩, fun e => by obtain ⟨a1, a2, a3, a4⟩ := g.h10 e; exact ⟨a1, a2, fun _ => by have := (h.h10 e).2.1.2.2; omega, a4⟩, g.h13, fun _ => rfl, g.h12⟩
theorem JG.al10 {t : TypeId} (hl : lo = n1 ∨ lo = n2) (f10 : b10 = false) (h : JG w0 v0 n1 n2 lo C1 C2 R F c m9 m10 va vc ua uc b4 b5 b6 b7 b8 b9 b10 b11 b12 b13 y4 y5 y6 y7 y8 y9 y10 y13 w) : JG w0 v0 n1 n2 lo C1 C2 R F c m9 w.heap.size va vc ua uc b4 b5 b6 b7 b8 b9 true b11 b12 b13 y4 y5 y6 y7 y8 y9 (.pointer (some ⟨w.heap.size, 0, none⟩)) y13 (w.alloc (.cells #[.int .i64 0, .int .i64 0, .int .i64 0, .int .i64 0, .int .i64 0] t)) := by
  have hb : Below w.heap.size w (w.alloc (.cells #[.int .i64 0, .int .i64 0, .int .i64 0, .int .i64 0, .int .i64 0] t)) := bl_alloc (bl_refl _) _
  have hlo : lo < w.heap.size := by
    have := h.x1.1
    have := h.x2.1
    rcases hl with h | h <;> omega
  have g := h.below hb
  exact ⟨g.hB, g.hC, g.x1, g.x2, fun e => by obtain ⟨a1, a2, a3, a4⟩ := h.h4 e; exact ⟨a1, a2.below hb, a3, fun _ => a2.ne_new⟩, g.h5, g.h6, g.h7, g.h8, g.h9, fun _ => ⟨rfl, ⟨hlo, h.hC.size, by simp⟩, fun e => by have := (h.h9 e).2.1.2.2; omega, fun _ => Bx.new _ _ _, fun e => by have := h.h12 e; rw [f10] at this; cases this⟩, g.h13, g.h11, fun _ => rfl⟩
theorem JG.st11 (hw : w0.heap.size ≤ v0.heap.size) (hn : n1 ≤ lo ∧ n2 ≤ lo) (e4 : b4 = true) (e9 : b9 = true) (f11 : b11 = false) (h : JG w0 v0 n1 n2 lo C1 C2 R F c m9 m10 va vc ua uc b4 b5 b6 b7 b8 b9 b10 b11 b12 b13 y4 y5 y6 y7 y8 y9 y10 y13 w) : JG w0 v0 n1 n2 lo C1 C2 R F c m9 m10 va vc ua uc b4 b5 b6 b7 b8 b9 b10 true b12 b13 y4 y5 y6 y7 y8 y9 y10 y13 (World.setCell (World.setCell (World.setCell (World.setCell (World.setCell (World.setCell (World.setCell (World.setCell w ⟨m9, 0, none⟩ (.int .i64 R.ad)) ⟨m9, 1, none⟩ (.int .i64 R.ln)) ⟨m9, 2, none⟩ (.int .i64 R.ow)) ⟨m9, 3, none⟩ (.int .i64 R.lo)) ⟨m9, 4, none⟩ (.int .i64 R.hi)) ⟨m9, 5, none⟩ (.slice va R.ds.length vc)) ⟨m9, 6, none⟩ (.int .i64 R.nw)) ⟨m9, 7, none⟩ (.slice ua R.es.length uc)) := by
  obtain ⟨a1, ⟨a2, a3, a4⟩, a5, -⟩ := h.h9 e9
  have hz := a5 f11
  obtain ⟨c1, c2, c3, c4⟩ := h.h4 e4
  refine ⟨bl_set8 h.hB (by omega) (.int .i64 R.ad) (.int .i64 R.ln) (.int .i64 R.ow) (.int .i64 R.lo) (.int .i64 R.hi) (.slice va R.ds.length vc) (.int .i64 R.nw) (.slice ua R.es.length uc), bl_set8 h.hC a3 (.int .i64 R.ad) (.int .i64 R.ln) (.int .i64 R.ow) (.int .i64 R.lo) (.int .i64 R.hi) (.slice va R.ds.length vc) (.int .i64 R.nw) (.slice ua R.es.length uc), h.x1.other8 (by omega) (.int .i64 R.ad) (.int .i64 R.ln) (.int .i64 R.ow) (.int .i64 R.lo) (.int .i64 R.hi) (.slice va R.ds.length vc) (.int .i64 R.nw) (.slice ua R.es.length uc), h.x2.other8 (by omega) (.int .i64 R.ad) (.int .i64 R.ln) (.int .i64 R.ow) (.int .i64 R.lo) (.int .i64 R.hi) (.slice va R.ds.length vc) (.int .i64 R.nw) (.slice ua R.es.length uc), fun _ => ⟨c1, c2.set8n (c3 e9).1 (c3 e9).2 (.int .i64 R.ad) (.int .i64 R.ln) (.int .i64 R.ow) (.int .i64 R.lo) (.int .i64 R.hi) (.slice va R.ds.length vc) (.int .i64 R.nw) (.slice ua R.es.length uc), c3, c4⟩, h.h5, h.h6, h.h7, h.h8, fun _ => ⟨a1, ⟨a2, a3, by simpa [World.setCell] using a4⟩, (fun e => by cases e), fun _ => ⟨e4, hz.set8 (.int .i64 R.ad) (.int .i64 R.ln) (.int .i64 R.ow) (.int .i64 R.lo) (.int .i64 R.hi) (.slice va R.ds.length vc) (.int .i64 R.nw) (.slice ua R.es.length uc)⟩⟩, fun e => ?_, h.h13, fun _ => e9, h.h12⟩
  obtain ⟨d1, ⟨d2, d3, d4⟩, d5, d6, d7⟩ := h.h10 e
  have := d5 e9
  exact ⟨d1, ⟨d2, d3, by simpa [World.setCell] using d4⟩, d5, fun x => (d6 x).other8 (by omega) (.int .i64 R.ad) (.int .i64 R.ln) (.int .i64 R.ow) (.int .i64 R.lo) (.int .i64 R.hi) (.slice va R.ds.length vc) (.int .i64 R.nw) (.slice ua R.es.length uc), fun x => (d7 x).other8 (by omega) (.int .i64 R.ad) (.int .i64 R.ln) (.int .i64 R.ow) (.int .i64 R.lo) (.int .i64 R.hi) (.slice va R.ds.length vc) (.int .i64 R.nw) (.slice ua R.es.length uc)⟩
theorem JG.st12 (hw : w0.heap.size ≤ v0.heap.size) (hn : n1 ≤ lo ∧ n2 ≤ lo) (e9 : b9 = true) (e10 : b10 = true) (f12 : b12 = false) (h : JG w0 v0 n1 n2 lo C1 C2 R F c m9 m10 va vc ua uc b4 b5 b6 b7 b8 b9 b10 b11 b12 b13 y4 y5 y6 y7 y8 y9 y10 y13 w) : JG w0 v0 n1 n2 lo C1 C2 R F c m9 m10 va vc ua uc b4 b5 b6 b7 b8 b9 b10 b11 true b13 y4 y5 y6 y7 y8 y9 y10 y13 (World.setCell (World.setCell (World.setCell (World.setCell (World.setCell w ⟨m10, 0, none⟩ (.int .i64 F.k)) ⟨m10, 1, none⟩ (.int .i64 F.a)) ⟨m10, 2, none⟩ (.int .i64 F.ap)) ⟨m10, 3, none⟩ (.int .i64 F.b)) ⟨m10, 4, none⟩ (.int .i64 F.bp)) := by
  obtain ⟨a1, ⟨a2, a3, a4⟩, a5, a6, -⟩ := h.h10 e10
  have hz := a6 f12
  have hne := a5 e9
  refine ⟨bl_set5 h.hB (by omega) (.int .i64 F.k) (.int .i64 F.a) (.int .i64 F.ap) (.int .i64 F.b) (.int .i64 F.bp), bl_set5 h.hC a3 (.int .i64 F.k) (.int .i64 F.a) (.int .i64 F.ap) (.int .i64 F.b) (.int .i64 F.bp), h.x1.other5 (by omega) (.int .i64 F.k) (.int .i64 F.a) (.int .i64 F.ap) (.int .i64 F.b) (.int .i64 F.bp), h.x2.other5 (by omega) (.int .i64 F.k) (.int .i64 F.a) (.int .i64 F.ap) (.int .i64 F.b) (.int .i64 F.bp), fun e => by obtain ⟨c1, c2, c3, c4⟩ := h.h4 e; exact ⟨c1, c2.set5n (c4 e10).1 (c4 e10).2 (.int .i64 F.k) (.int .i64 F.a) (.int .i64 F.ap) (.int .i64 F.b) (.int .i64 F.bp), c3, c4⟩, h.h5, h.h6, h.h7, h.h8, fun e => ?_, fun _ => ⟨a1, ⟨a2, a3, by simpa [World.setCell] using a4⟩, a5, (fun e => by cases e), fun _ => hz.set5 (.int .i64 F.k) (.int .i64 F.a) (.int .i64 F.ap) (.int .i64 F.b) (.int .i64 F.bp)⟩, h.h13, h.h11, fun _ => e10⟩
  obtain ⟨d1, ⟨d2, d3, d4⟩, d6, d7⟩ := h.h9 e
  exact ⟨d1, ⟨d2, d3, by simpa [World.setCell] using d4⟩, fun x => (d6 x).other5 hne (.int .i64 F.k) (.int .i64 F.a) (.int .i64 F.ap) (.int .i64 F.b) (.int .i64 F.bp), fun x => ⟨(d7 x).1, (d7 x).2.other5 hne (.int .i64 F.k) (.int .i64 F.a) (.int .i64 F.ap) (.int .i64 F.b) (.int .i64 F.bp)⟩⟩
end
end Go.Proofs.YtcgjpmhjijmplaaGreatDoor
