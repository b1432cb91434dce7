/- Joined: Pass2, Pass3, Pass4. -/
import Derived.Test.YtcgjpmhjijmplaaGreatDoorPass1
import Derived.Test.YtcgjpmhjijmplaaGreatDoorBook
/- The program's natMayPass and natHolders, walked. -/
namespace Go.Proofs.YtcgjpmhjijmplaaGreatDoor
open Go.ChangeShapes Go.WideShapes Go.ChangeAt Go.RowKit Go.Maps

end Go.Proofs.YtcgjpmhjijmplaaGreatDoor

/- The program's natReceive and NatIn, walked. -/
namespace Go.Proofs.YtcgjpmhjijmplaaGreatDoor
open Go.ChangeShapes Go.WideShapes Go.ChangeAt Go.RowKit Go.Maps

theorem find_at {α : Type} {p : α → Bool} {xs : List α} {n : Nat} {x : α} (hx : xs[n]? = some x) (hp : p x = true) (hb : ∀ j y, j < n → xs[j]? = some y → p y = false) : xs.find? p = some x := by
  induction xs generalizing n with
  | nil => simp at hx
  | cons z zs ih =>
    cases n with
    | zero => simp at hx; subst hx; simp [hp]
    | succ n =>
      have h0 := hb 0 z (by omega) (by simp)
      simp only [List.find?_cons, h0]
      exact ih (by simpa using hx) (fun j y hj hy => hb (j + 1) y (by omega) (by simpa using hy))
theorem book_parts {ad ln ow lo hi nw : Int} {ds : List Dr} {es : List En} (h : bookB ad ln ow lo hi nw ds es = true) : (0 ≤ nw ∧ nw ≤ 1000000) ∧ ds.length ≤ 6 ∧ es.length ≤ 16 ∧ ∀ (i : Nat) d, es[i]? = some d → 0 ≤ d.l ∧ d.l ≤ nw := by
  simp only [bookB, Bool.and_eq_true] at h
  obtain ⟨⟨hf, hd⟩, he⟩ := h
  obtain ⟨_, _, _, _, hn⟩ := frameB_true hf
  simp only [doorsB, decide_eq_true_eq] at hd
  simp only [entriesB, decide_eq_true_eq] at he
  refine ⟨hn, hd.1, he.1, fun i d hi => ?_⟩
  have := (he.2 i d (get_lt hi) hi).1
  simp only [entryB, eokB, Bool.and_eq_true] at this
  exact inB_true this.1.2
end Go.Proofs.YtcgjpmhjijmplaaGreatDoor

/- The program's NatIn at every book and flow, walked. -/
namespace Go.Proofs.YtcgjpmhjijmplaaGreatDoor
open Go.ChangeShapes Go.WideShapes Go.ChangeAt Go.RowKit Go.Maps

theorem bl_set5 {w0 w : World} (h : Below w0.heap.size w0 w) {n : Nat} (hn : w0.heap.size ≤ n) (a b c d e : Value) : Below w0.heap.size w0 (((((w.setCell ⟨n, 0, none⟩ a).setCell ⟨n, 1, none⟩ b).setCell ⟨n, 2, none⟩ c).setCell ⟨n, 3, none⟩ d).setCell ⟨n, 4, none⟩ e) :=
  bl_set (bl_set (bl_set (bl_set (bl_set h hn a) hn b) hn c) hn d) hn e
end Go.Proofs.YtcgjpmhjijmplaaGreatDoor
