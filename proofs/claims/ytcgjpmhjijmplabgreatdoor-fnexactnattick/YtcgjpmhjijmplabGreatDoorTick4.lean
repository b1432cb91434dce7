/- The program's closure of natPassTick, slices.IndexFunc over it, walked. -/
import Derived.Test.YtcgjpmhjijmplabGreatDoorTick3
namespace Go.Proofs.YtcgjpmhjijmplabGreatDoor
open Go.ChangeShapes Go.WideShapes Go.ChangeAt Go.RowKit Go.Maps

theorem gone_ret (nb : Nat) (nw : Int) (d : En) (r : Bool) (w : World) (hnb : w.cell? ⟨nb, 6, none⟩ = some (.int .i64 (nw + 1))) (hnl : nb < w.heap.size) (n0 : 0 ≤ nw) (n1 : nw ≤ 1000000) (q0 : 0 ≤ d.l) (q1 : d.l ≤ nw) (hr : keepB nw d = !r) :
    Calls Tryz.prog 63 #[.agg #[.int .i64 d.k, .int .i64 d.pr, .int .i64 d.pp, .int .i64 d.o, .int .i64 d.i, .int .i64 d.ip, .int .i64 d.l], .pointer (some ⟨nb, 0, none⟩)] w fun e w' => e = .returned (.bool r) ∧ Below w.heap.size w w' := by
  go_enter Tryz.func63, Tryz.ntmps63
  go_wp2
  go_ret
  refine ⟨ret_bool ?_, bl_alloc (bl_refl _) _⟩
  cases r <;> simp [keepB] at hr ⊢ <;> omega

set_option maxHeartbeats 2000000 in
theorem index_ret (g cap nb : Nat) (nw : Int) (es : List En) (w : World) (hcs : EnCells w g 0 es) (hgl : g < w.heap.size) (hnb : w.cell? ⟨nb, 6, none⟩ = some (.int .i64 (nw + 1))) (hnl : nb < w.heap.size) (hl : es.length ≤ 16) (n0 : 0 ≤ nw) (n1 : nw ≤ 1000000) (hla : ∀ (i : Nat) d, es[i]? = some d → 0 ≤ d.l ∧ d.l ≤ nw) :
    Calls Tryz.prog 83 #[.slice (some ⟨g, 0, none⟩) es.length cap, .func (.func 63) #[] #[.pointer (some ⟨nb, 0, none⟩)]] w fun e w' =>
      ((∃ (n : Nat) (d : En), e = .returned (.int .i64 n) ∧ es[n]? = some d ∧ keepB nw d = false ∧ ∀ j y, j < n → es[j]? = some y → keepB nw y = true) ∨ (e = .returned (.int .i64 (-1)) ∧ ∀ (j : Nat) y, es[j]? = some y → keepB nw y = true)) ∧ Below w.heap.size w w' := by
  have HL : Hid (∀ (i : Nat) d, es[i]? = some d → 0 ≤ d.l ∧ d.l ≤ nw) := hla
  clear hla
  go_enter Tryz.func83, Tryz.ntmps83
  go_wp2_with fail
  go_loopg [8] es.length (fun gg i wr => ∃ n : Nat, gg = es.length - n ∧ n ≤ es.length ∧ i = .int .i64 n ∧ (∀ j y, j < n → es[j]? = some y → keepB nw y = true) ∧ Below w.heap.size w wr)
  case atStart => exact ⟨0, by omega, by omega, rfl, fun _ _ h => absurd h (by omega), bl_refl _⟩
  case round =>
    obtain ⟨n, hg, hn, rfl, HK, hB⟩ := hrel
    have HK : Hid (∀ j y, j < n → es[j]? = some y → keepB nw y = true) := HK
    by_cases hlt : n < es.length
    · have hlt' : (n : Int) < (es.length : Int) := by omega
      obtain ⟨d, hd⟩ : ∃ d, es[n]? = some d := ⟨es[n], by simp⟩
      obtain ⟨c0, c1, c2, c3, c4, c5, c6⟩ := hcs.below hB hgl n d hd
      obtain ⟨q0, q1⟩ := HL.out n d hd
      have hd : Hid (es[n]? = some d) := hd
      simp only [Nat.zero_add] at c0 c1 c2 c3 c4 c5 c6
      have hgl2 : g < wr.heap.size := Nat.lt_of_lt_of_le hgl hB.size
      have hnb2 : wr.cell? ⟨nb, 6, none⟩ = some (.int .i64 (nw + 1)) := (hB.cell (p := ⟨nb, 6, none⟩) hnl).trans hnb
      have hnl2 : nb < wr.heap.size := Nat.lt_of_lt_of_le hnl hB.size
      by_cases hk : keepB nw d = true
      · go_wp2_with fail
        refine (gone_ret nb nw d false _ hnb2 hnl2 n0 n1 q0 q1 (by simpa using hk)).mono ?_
        rintro e w2 ⟨rfl, hb2⟩
        go_wp2_with fail
        go_roundg (es.length - (n + 1))
        case measure => omega
        case rel => exact ⟨n + 1, rfl, by omega, by go_num, fun j y hj hy => (by rcases Nat.lt_or_ge j n with h | h; exact HK.out j y h hy; have : j = n := (by omega); subst this; rw [some_one hy hd.out]; exact hk), bl_trans hB hb2⟩
      · have hk : keepB nw d = false := by simpa using hk
        go_wp2_with fail
        refine (gone_ret nb nw d true _ hnb2 hnl2 n0 n1 q0 q1 (by simpa using hk)).mono ?_
        rintro e w2 ⟨rfl, hb2⟩
        go_wp2_with fail
        go_ret
        exact ⟨Or.inl ⟨n, d, rfl, hd.out, hk, HK.out⟩, bl_trans hB hb2⟩
    · have hlt' : ¬ (n : Int) < (es.length : Int) := by omega
      go_wp2_with fail
      go_ret
      exact ⟨Or.inr ⟨rfl, fun j y hy => HK.out j y (by have := get_lt hy; omega) hy⟩, hB⟩

/-- Block g is one row of m cells, none frozen. -/
def IsRow (w : World) (g : Nat) (e : TypeId) (m : Nat) : Prop := ∃ cur : Array Value, w.heap[g]? = some (.cells cur e) ∧ cur.size = m
theorem IsRow.lt {w : World} {g m : Nat} {e : TypeId} (h : IsRow w g e m) : g < w.heap.size := by
  obtain ⟨cur, hh, _⟩ := h
  rcases Nat.lt_or_ge g w.heap.size with h' | h'
  · exact h'
  · rw [Array.getElem?_eq_none h'] at hh; cases hh
theorem IsRow.below {w w' : World} {g m : Nat} {e : TypeId} (h : IsRow w g e m) (hb : Below w.heap.size w w') : IsRow w' g e m := by
  have hl := h.lt
  obtain ⟨cur, hh, hs⟩ := h
  exact ⟨cur, (hb.block g hl).trans hh, hs⟩
theorem IsRow.set {w : World} {g m j : Nat} {e : TypeId} (h : IsRow w g e m) (v : Value) : IsRow (w.setCell ⟨g, j, none⟩ v) g e m := by
  have hl := h.lt
  obtain ⟨cur, hh, hs⟩ := h
  refine ⟨cur.setIfInBounds j v, ?_, by simpa using hs⟩
  have hh' : w.heap[g] = .cells cur e := by simpa [hl] using hh
  simp [World.setCell, Array.getElem_modify, hl, hh']
theorem IsRow.cell {w : World} {g m : Nat} {e : TypeId} (h : IsRow w g e m) {j : Nat} (hj : j < m) : ∃ v, w.cell? ⟨g, j, none⟩ = some v := by
  obtain ⟨cur, hh, hs⟩ := h
  exact ⟨cur[j]'(by omega), by simp [World.cell?, hh, show j < cur.size by omega]⟩
theorem IsRow.frozen {w : World} {g m : Nat} {e : TypeId} (h : IsRow w g e m) (j : Nat) : w.frozen? ⟨g, j, none⟩ = false := by
  obtain ⟨cur, hh, hs⟩ := h
  simp [World.frozen?, hh]
end Go.Proofs.YtcgjpmhjijmplabGreatDoor
