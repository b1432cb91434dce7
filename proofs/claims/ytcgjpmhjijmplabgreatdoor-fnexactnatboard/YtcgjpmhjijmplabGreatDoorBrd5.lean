/- The lines of the board, one by one: the program's iterator. -/
import Derived.Test.YtcgjpmhjijmplabGreatDoorBrd4
import Derived.RangeFuncNested
import Derived.RangeFuncBound
import Derived.RangeFuncCalls
import Derived.RangeFuncLeaves
import Derived.Shelf.Abstract
import Derived.Shelf.RegionOpen
import Derived.WalkKit
import Derived.OwnWalkIn
import Derived.TacticsInMore
import Derived.LoopNIn
import Derived.LoopIn
namespace Go.Proofs.YtcgjpmhjijmplabGreatDoor
open Go.RowKit Go.Shelf
attribute [local go_sem] Oper.semAt_some

/-- A line that is not written yet: of the tick, of a door, of an entry. -/
structure Ln (ds : List Dr) (es : List En) where
  kind : Unit ⊕ ({p : Nat × Dr // ds[p.1]? = some p.2} ⊕ {p : Nat × En // es[p.1]? = some p.2})
abbrev Ln.now {ds : List Dr} {es : List En} : Ln ds es := ⟨.inl ()⟩
abbrev Ln.door {ds : List Dr} {es : List En} (i : Nat) (d : Dr) (h : ds[i]? = some d) : Ln ds es := ⟨.inr (.inl ⟨(i, d), h⟩)⟩
abbrev Ln.flow {ds : List Dr} {es : List En} (i : Nat) (d : En) (h : es[i]? = some d) : Ln ds es := ⟨.inr (.inr ⟨(i, d), h⟩)⟩
def Ln.cells {ds : List Dr} {es : List En} (x : Ln ds es) : Array Value := match x.kind with
  | .inl _ => #[.int .i64 0, .int .i64 0]
  | .inr (.inl p) => #[.int .i64 1, .int .i64 p.1.1]
  | .inr (.inr p) => #[.int .i64 2, .int .i64 p.1.1]
def Ln.enc {ds : List Dr} {es : List En} (x : Ln ds es) : Array Value := #[.agg x.cells]
def Ln.txt {ds : List Dr} {es : List En} (ow nw : Int) (x : Ln ds es) : List UInt8 := match x.kind with
  | .inl _ => nowL nw
  | .inr (.inl p) => doorL ow p.1.2
  | .inr (.inr p) => flowL ow nw p.1.2
theorem get_here {α : Type} {l : List α} {k : Nat} (h : k < l.length) : l[k]? = some l[k] := by simp [h]
def lnD (ds : List Dr) (es : List En) : (k : Nat) → k ≤ ds.length → List (Ln ds es)
  | 0, _ => []
  | k + 1, h => lnD ds es k (Nat.le_of_succ_le h) ++ [.door k ds[k] (get_here h)]
def lnE (ds : List Dr) (es : List En) : (k : Nat) → k ≤ es.length → List (Ln ds es)
  | 0, _ => []
  | k + 1, h => lnE ds es k (Nat.le_of_succ_le h) ++ [.flow k es[k] (get_here h)]
theorem lnD_len (ds : List Dr) (es : List En) : ∀ (k : Nat) (h : k ≤ ds.length), (lnD ds es k h).length = k
  | 0, _ => rfl
  | k + 1, h => by rw [lnD, List.length_append, lnD_len ds es k]; rfl
theorem lnE_len (ds : List Dr) (es : List En) : ∀ (k : Nat) (h : k ≤ es.length), (lnE ds es k h).length = k
  | 0, _ => rfl
  | k + 1, h => by rw [lnE, List.length_append, lnE_len ds es k]; rfl
/-- What has been written when these lines have come. -/
def txtOf {ds : List Dr} {es : List En} (ow nw : Int) (ls : List (Ln ds es)) : List UInt8 := ls.flatMap fun l => l.txt ow nw ++ [10]
theorem txtOf_snoc {ds : List Dr} {es : List En} (ow nw : Int) (ls : List (Ln ds es)) (l : Ln ds es) : txtOf ow nw (ls ++ [l]) = txtOf ow nw ls ++ (l.txt ow nw ++ [10]) := by simp [txtOf]
theorem txt_lnD (ow nw : Int) (ds : List Dr) (es : List En) : ∀ (k : Nat) (h : k ≤ ds.length), txtOf ow nw (lnD ds es k h) = doorsT ow (ds.take k)
  | 0, _ => by simp [lnD, txtOf, doorsT]
  | k + 1, h => by
    rw [lnD, txtOf_snoc, txt_lnD ow nw ds es k, List.take_add_one, get_here (l := ds) h, show (some ds[k]).toList = [ds[k]] from rfl, doorsT_snoc]
    rfl
theorem txt_lnE (ow nw : Int) (ds : List Dr) (es : List En) : ∀ (k : Nat) (h : k ≤ es.length), txtOf ow nw (lnE ds es k h) = flowsT ow nw (es.take k)
  | 0, _ => by simp [lnE, txtOf, flowsT]
  | k + 1, h => by
    rw [lnE, txtOf_snoc, txt_lnE ow nw ds es k, List.take_add_one, get_here (l := es) h, show (some es[k]).toList = [es[k]] from rfl, flowsT_snoc]
    rfl
def lns (ds : List Dr) (es : List En) : List (Ln ds es) := [.now] ++ lnD ds es ds.length (Nat.le_refl _) ++ lnE ds es es.length (Nat.le_refl _)
theorem txt_lns (ow nw : Int) (ds : List Dr) (es : List En) : txtOf ow nw (lns ds es) = boardT ow nw ds es := by
  have h1 := txt_lnD ow nw ds es ds.length (Nat.le_refl _)
  have h2 := txt_lnE ow nw ds es es.length (Nat.le_refl _)
  rw [List.take_length] at h1 h2
  rw [boardT, ← h1, ← h2]
  simp [lns, txtOf, Ln.txt]
theorem box_kept {w w' : World} {n : Nat} {C : Array Value} (h : Box w n C) (hk : w'.heap[n]? = w.heap[n]?) : Box w' n C := by
  refine ⟨?_, fun j => (World.cell?_of_block (a := ⟨n, j, none⟩) hk).trans (h.2 j)⟩
  rcases Nat.lt_or_ge n w'.heap.size with h' | h'
  · exact h'
  · rw [Array.getElem?_eq_none h', eq_comm, Array.getElem?_eq_none_iff] at hk
    have := h.1
    omega
set_option maxRecDepth 100000 in
set_option maxHeartbeats 4000000 in
theorem lines1_in (F : Fence) (n : Nat) (h6 : F.fn 65) (hro : F.round = none) (hn : 1 ≤ n) (l Bn : Nat) (ad ln ow lo hi nw : Int) (da : Option Addr) (dc : Nat) (ea : Option Addr) (ec : Nat) (ds : List Dr) (es : List En) (J Jx : List (Ln ds es) → World → Prop)
    (hY : ∀ pre (x : Ln ds es) W, J pre W → pre.length < 1 + ds.length + es.length → YieldAt F (n - 1) Tryz.prog l x.enc W fun e W' => (e = .returned (.bool true) ∧ J (pre ++ [x]) W' ∧ W'.heap[Bn]? = W.heap[Bn]?) ∨ (e = .returned (.bool false) ∧ Jx (pre ++ [x]) W'))
    (W : World) (hds : ds.length ≤ 100) (hes : es.length ≤ 100) (hB : Box W Bn #[.int .i64 ad, .int .i64 ln, .int .i64 ow, .int .i64 lo, .int .i64 hi, .slice da ds.length dc, .int .i64 nw, .slice ea es.length ec]) (h0 : J [] W) :
    CallsIn F n Tryz.prog 65 #[.func (.yield l) #[] #[], .pointer (some ⟨Bn, 0, none⟩)] W fun e W' => (∃ v, e = .returned v) ∧ ((∃ ys, ys = lns ds es ∧ J ys W') ∨ (∃ pre, True ∧ Jx pre W')) := by
  refine callsIn_of_wp Tryz.func65 rfl h6 ?_ hro
  simp only [Tryz.ntmps65, List.size_toArray, List.length_cons, List.length_nil, Nat.reduceAdd, Nat.reduceSub, Array.replicate_succ, Array.replicate_zero, List.push_toArray, List.append_toArray, List.nil_append, List.cons_append]
  obtain ⟨f0, t0, a0, b0, hy0, hR0⟩ := hY [] .now W h0 (by simp; omega)
  dsimp only [Ln.enc, Ln.cells] at hy0
  gi_wp2
  refine hR0.mono ?_
  rintro e W1 (⟨rfl, hJ1, hk1⟩ | ⟨rfl, hx1⟩)
  · have y1 := box_kept hB hk1
    clear hy0 hR0 hk1 h0 hB
    have z1 := y1.2
    gi_wp2
    clear z1
    gi_loopw [13] (fun p wr => ∃ (k : Nat) (hk : k ≤ ds.length), p = .int .i64 k ∧ J ([.now] ++ lnD ds es k hk) wr ∧ Box wr Bn #[.int .i64 ad, .int .i64 ln, .int .i64 ow, .int .i64 lo, .int .i64 hi, .slice da ds.length dc, .int .i64 nw, .slice ea es.length ec]) (fun p _ => ds.length - (Lib.intOf p).toNat)
    case atStart => exact ⟨0, Nat.zero_le _, rfl, hJ1, y1⟩
    case round =>
      clear hJ1 y1
      obtain ⟨k, hk, rfl, hJ2, y2⟩ := hrel
      by_cases hlt : k < ds.length
      · have hlt' : (k : Int) < (ds.length : Int) := by omega
        obtain ⟨f1, t1, a1, b1, hy1, hR1⟩ := hY _ (.door k ds[k] (get_here hlt)) wr hJ2 (by rw [List.length_append, lnD_len]; simp; omega)
        dsimp only [Ln.enc, Ln.cells] at hy1
        gi_wp2
        refine hR1.mono ?_
        rintro e W2 (⟨rfl, hJ3, hk3⟩ | ⟨rfl, hx3⟩)
        · have y3 := box_kept y2 hk3
          clear hy1 hR1 hk3 y2 hJ2
          gi_wp2
          go_roundw
          case rel => exact ⟨k + 1, hlt, by go_num, by rw [lnD, ← List.append_assoc]; exact hJ3, y3⟩
          case measure => simp [Lib.intOf]; omega
        · gi_wp2
          refine bodyPost_ret (results_none rfl _ _ _) rfl ?_
          exact ⟨⟨_, rfl⟩, .inr ⟨_, trivial, hx3⟩⟩
      · obtain rfl : k = ds.length := by omega
        have z1 := y2.2
        gi_wp2
        clear z1
        gi_loopw [26] (fun p wr => ∃ (k : Nat) (hk : k ≤ es.length), p = .int .i64 k ∧ J ([.now] ++ lnD ds es ds.length (Nat.le_refl _) ++ lnE ds es k hk) wr) (fun p _ => es.length - (Lib.intOf p).toNat)
        case atStart => exact ⟨0, Nat.zero_le _, rfl, by simpa [lnE] using hJ2⟩
        case round =>
          clear hJ2 y2
          obtain ⟨k, hk, rfl, hJ2⟩ := hrel
          by_cases hlt : k < es.length
          · have hlt' : (k : Int) < (es.length : Int) := by omega
            obtain ⟨f1, t1, a1, b1, hy1, hR1⟩ := hY _ (.flow k es[k] (get_here hlt)) wr hJ2 (by rw [List.length_append, List.length_append, lnD_len, lnE_len]; simp; omega)
            dsimp only [Ln.enc, Ln.cells] at hy1
            gi_wp2
            refine hR1.mono ?_
            rintro e W2 (⟨rfl, hJ3, hk3⟩ | ⟨rfl, hx3⟩)
            · clear hy1 hR1 hk3 hJ2
              gi_wp2
              go_roundw
              case rel => exact ⟨k + 1, hlt, by go_num, by rw [lnE, ← List.append_assoc]; exact hJ3⟩
              case measure => simp [Lib.intOf]; omega
            · gi_wp2
              refine bodyPost_ret (results_none rfl _ _ _) rfl ?_
              exact ⟨⟨_, rfl⟩, .inr ⟨_, trivial, hx3⟩⟩
          · obtain rfl : k = es.length := by omega
            gi_wp2
            go_end0
            exact ⟨⟨_, rfl⟩, .inl ⟨_, rfl, hJ2⟩⟩
  · gi_wp2
    refine bodyPost_ret (results_none rfl _ _ _) rfl ?_
    exact ⟨⟨_, rfl⟩, .inr ⟨_, trivial, hx1⟩⟩
set_option maxHeartbeats 1000000 in
theorem lines_in (F : Fence) (n : Nat) (h5 : F.fn 43) (hro : F.round = none) (C : Array Value) (w : World) :
    CallsIn F n Tryz.prog 43 #[.agg C] w fun e w' => e = .returned (.func (.func 65) #[] #[.pointer (some ⟨w.heap.size, 0, none⟩)]) ∧ w' = w.alloc (.cells C 78) := by
  refine callsIn_of_wp Tryz.func43 rfl h5 ?_ hro
  simp only [Tryz.ntmps43, List.size_toArray, List.length_cons, List.length_nil, Nat.reduceAdd, Nat.reduceSub, Array.replicate_succ, Array.replicate_zero, List.push_toArray, List.append_toArray, List.nil_append, List.cons_append]
  gi_wp2
  go_ret
  exact ⟨rfl, rfl⟩
/-- The block that the iterator reads is as it was. -/
def KpB (Bn : Nat) (W W' : World) : Prop := W'.heap[Bn]? = W.heap[Bn]?
theorem lines_stops (F : Fence) (n : Nat) (h6 : F.fn 65) (hro : F.round = none) (hn : 1 ≤ n) (Bn : Nat) (ad ln ow lo hi nw : Int) (da : Option Addr) (dc : Nat) (ea : Option Addr) (ec : Nat) (ds : List Dr) (es : List En) (w : World) (hds : ds.length ≤ 100) (hes : es.length ≤ 100) (hB : Box w Bn #[.int .i64 ad, .int .i64 ln, .int .i64 ow, .int .i64 lo, .int .i64 hi, .slice da ds.length dc, .int .i64 nw, .slice ea es.length ec]) :
    SeqStopsK F n Tryz.prog 65 #[.pointer (some ⟨Bn, 0, none⟩)] (fun x : Ln ds es => x.enc) (KpB Bn) (fun ys => ys = lns ds es) (fun _ => True) (1 + ds.length + es.length) w := fun l J Jx W hW _ _ hY h0 =>
  lines1_in F n h6 hro hn l Bn ad ln ow lo hi nw da dc ea ec ds es J Jx hY W hds hes (hB.below hW) h0
end Go.Proofs.YtcgjpmhjijmplabGreatDoor
