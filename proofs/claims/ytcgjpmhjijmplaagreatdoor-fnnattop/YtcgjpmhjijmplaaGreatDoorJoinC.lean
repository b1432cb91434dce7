/- Joined: Tick4, Tick5. -/
import Derived.Test.YtcgjpmhjijmplaaGreatDoorTick3
import Derived.Test.YtcgjpmhjijmplaaGreatDoorJoinA
/- The program's closure of natPassTick, slices.IndexFunc over it, walked. -/
namespace Go.Proofs.YtcgjpmhjijmplaaGreatDoor
open Go.ChangeShapes Go.WideShapes Go.ChangeAt Go.RowKit Go.Maps

theorem gone_ret (nb : Nat) (nw : Int) (d : En) (r : Bool) (w : World) (hnb : w.cell? ⟨nb, 6, none⟩ = some (.int .i64 (nw + 1))) (hnl : nb < w.heap.size) (n0 : 0 ≤ nw) (n1 : nw ≤ 1000000) (q0 : 0 ≤ d.l) (q1 : d.l ≤ nw) (hr : keepB nw d = !r) :
    Calls Tryz.prog 94 #[.agg #[.int .i64 d.k, .int .i64 d.pr, .int .i64 d.pp, .int .i64 d.o, .int .i64 d.i, .int .i64 d.ip, .int .i64 d.l], .pointer (some ⟨nb, 0, none⟩)] w fun e w' => e = .returned (.bool r) ∧ Below w.heap.size w w' := by
  go_enter Tryz.func94, Tryz.ntmps94
  go_wp2
  go_ret
  refine ⟨ret_bool ?_, bl_alloc (bl_refl _) _⟩
  cases r <;> simp [keepB] at hr ⊢ <;> omega

set_option maxHeartbeats 2000000 in
theorem index_ret (g cap nb : Nat) (nw : Int) (es : List En) (w : World) (hcs : EnCells w g 0 es) (hgl : g < w.heap.size) (hnb : w.cell? ⟨nb, 6, none⟩ = some (.int .i64 (nw + 1))) (hnl : nb < w.heap.size) (hl : es.length ≤ 16) (n0 : 0 ≤ nw) (n1 : nw ≤ 1000000) (hla : ∀ (i : Nat) d, es[i]? = some d → 0 ≤ d.l ∧ d.l ≤ nw) :
    Calls Tryz.prog 135 #[.slice (some ⟨g, 0, none⟩) es.length cap, .func (.func 94) #[] #[.pointer (some ⟨nb, 0, none⟩)]] w fun e w' =>
      ((∃ (n : Nat) (d : En), e = .returned (.int .i64 n) ∧ es[n]? = some d ∧ keepB nw d = false ∧ ∀ j y, j < n → es[j]? = some y → keepB nw y = true) ∨ (e = .returned (.int .i64 (-1)) ∧ ∀ (j : Nat) y, es[j]? = some y → keepB nw y = true)) ∧ Below w.heap.size w w' := by
  have HL : Hid (∀ (i : Nat) d, es[i]? = some d → 0 ≤ d.l ∧ d.l ≤ nw) := hla
  clear hla
  go_enter Tryz.func135, Tryz.ntmps135
  go_wp2_with fail
  go_loopg [8] es.length (fun gg i wr => ∃ n : Nat, gg = es.length - n ∧ n ≤ es.length ∧ i = .int .i64 n ∧ (∀ j y, j < n → es[j]? = some y → keepB nw y = true) ∧ Below w.heap.size w wr)
  case atStart => exact ⟨0, by omega, by omega, rfl, fun _ _ h => absurd h (by omega), bl_refl _⟩
  case round =>
    obtain ⟨n, hg, hn, rfl, HK, hB⟩ := hrel
    have HK : Hid (∀ j y, j < n → es[j]? = some y → keepB nw y = true) := HK
    by_cases hlt : n < es.length
    · have hlt' : (n : Int) < (es.length : Int) := by omega
      obtain ⟨d, hd⟩ : ∃ d, es[n]? = some d := ⟨es[n], by simp⟩
      obtain ⟨c0, c1, c2, c3, c4, c5, c6⟩ := hcs.below hB hgl n d hd
      obtain ⟨q0, q1⟩ := HL.out n d hd
      have hd : Hid (es[n]? = some d) := hd
      simp only [Nat.zero_add] at c0 c1 c2 c3 c4 c5 c6
      have hgl2 : g < wr.heap.size := Nat.lt_of_lt_of_le hgl hB.size
      have hnb2 : wr.cell? ⟨nb, 6, none⟩ = some (.int .i64 (nw + 1)) := (hB.cell (p := ⟨nb, 6, none⟩) hnl).trans hnb
      have hnl2 : nb < wr.heap.size := Nat.lt_of_lt_of_le hnl hB.size
      by_cases hk : keepB nw d = true
      · go_wp2_with fail
        refine (gone_ret nb nw d false _ hnb2 hnl2 n0 n1 q0 q1 (by simpa using hk)).mono ?_
        rintro e w2 ⟨rfl, hb2⟩
        go_wp2_with fail
        go_roundg (es.length - (n + 1))
        case measure => omega
        case rel => exact ⟨n + 1, rfl, by omega, by go_num, fun j y hj hy => (by rcases Nat.lt_or_ge j n with h | h; exact HK.out j y h hy; have : j = n := (by omega); subst this; rw [some_one hy hd.out]; exact hk), bl_trans hB hb2⟩
      · have hk : keepB nw d = false := by simpa using hk
        go_wp2_with fail
        refine (gone_ret nb nw d true _ hnb2 hnl2 n0 n1 q0 q1 (by simpa using hk)).mono ?_
        rintro e w2 ⟨rfl, hb2⟩
        go_wp2_with fail
        go_ret
        exact ⟨Or.inl ⟨n, d, rfl, hd.out, hk, HK.out⟩, bl_trans hB hb2⟩
    · have hlt' : ¬ (n : Int) < (es.length : Int) := by omega
      go_wp2_with fail
      go_ret
      exact ⟨Or.inr ⟨rfl, fun j y hy => HK.out j y (by have := get_lt hy; omega) hy⟩, hB⟩

/-- Block g is one row of m cells, none frozen. -/
def IsRow (w : World) (g : Nat) (e : TypeId) (m : Nat) : Prop := ∃ cur : Array Value, w.heap[g]? = some (.cells cur e) ∧ cur.size = m
theorem IsRow.lt {w : World} {g m : Nat} {e : TypeId} (h : IsRow w g e m) : g < w.heap.size := by
  obtain ⟨cur, hh, _⟩ := h
  rcases Nat.lt_or_ge g w.heap.size with h' | h'
  · exact h'
  · rw [Array.getElem?_eq_none h'] at hh; cases hh
theorem IsRow.below {w w' : World} {g m : Nat} {e : TypeId} (h : IsRow w g e m) (hb : Below w.heap.size w w') : IsRow w' g e m := by
  have hl := h.lt
  obtain ⟨cur, hh, hs⟩ := h
  exact ⟨cur, (hb.block g hl).trans hh, hs⟩
theorem IsRow.set {w : World} {g m j : Nat} {e : TypeId} (h : IsRow w g e m) (v : Value) : IsRow (w.setCell ⟨g, j, none⟩ v) g e m := by
  have hl := h.lt
  obtain ⟨cur, hh, hs⟩ := h
  refine ⟨cur.setIfInBounds j v, ?_, by simpa using hs⟩
  have hh' : w.heap[g] = .cells cur e := by simpa [hl] using hh
  simp [World.setCell, Array.getElem_modify, hl, hh']
theorem IsRow.cell {w : World} {g m : Nat} {e : TypeId} (h : IsRow w g e m) {j : Nat} (hj : j < m) : ∃ v, w.cell? ⟨g, j, none⟩ = some v := by
  obtain ⟨cur, hh, hs⟩ := h
  exact ⟨cur[j]'(by omega), by simp [World.cell?, hh, show j < cur.size by omega]⟩
theorem IsRow.frozen {w : World} {g m : Nat} {e : TypeId} (h : IsRow w g e m) (j : Nat) : w.frozen? ⟨g, j, none⟩ = false := by
  obtain ⟨cur, hh, hs⟩ := h
  simp [World.frozen?, hh]
end Go.Proofs.YtcgjpmhjijmplaaGreatDoor

/- slices.DeleteFunc over the tick's closure: in place; walked. -/
namespace Go.Proofs.YtcgjpmhjijmplaaGreatDoor
open Go.ChangeShapes Go.WideShapes Go.ChangeAt Go.RowKit Go.Maps

def put7 (w : World) (g p : Nat) (d : En) : World := ((((((w.setCell ⟨g, p, none⟩ (.int .i64 d.k)).setCell ⟨g, p + 1, none⟩ (.int .i64 d.pr)).setCell ⟨g, p + 2, none⟩ (.int .i64 d.pp)).setCell ⟨g, p + 3, none⟩ (.int .i64 d.o)).setCell ⟨g, p + 4, none⟩ (.int .i64 d.i)).setCell ⟨g, p + 5, none⟩ (.int .i64 d.ip)).setCell ⟨g, p + 6, none⟩ (.int .i64 d.l)
theorem put7_row {w : World} {g p m : Nat} {e : TypeId} {d : En} (h : IsRow w g e m) : IsRow (put7 w g p d) g e m := by
  unfold put7; exact ((((((h.set _).set _).set _).set _).set _).set _).set _
theorem put7_ap {w0 w : World} {g p : Nat} {d : En} (h : Apart g w0 w) : Apart g w0 (put7 w g p d) := by
  unfold put7; exact ap_set (ap_set (ap_set (ap_set (ap_set (ap_set (ap_set h _ _) _ _) _ _) _ _) _ _) _ _) _ _
theorem put7_out {w : World} {g p q : Nat} {d : En} (h : q < p ∨ p + 7 ≤ q) : (put7 w g p d).cell? ⟨g, q, none⟩ = w.cell? ⟨g, q, none⟩ := by
  have hc : ∀ (W : World) r v, r ≠ q → (W.setCell ⟨g, r, none⟩ v).cell? ⟨g, q, none⟩ = W.cell? ⟨g, q, none⟩ := fun W r v hr => World.cell?_setCell_other _ _ _ _ (fun e => hr (by injection e with _ e2))
  unfold put7
  rw [hc _ _ _ (by omega), hc _ _ _ (by omega), hc _ _ _ (by omega), hc _ _ _ (by omega), hc _ _ _ (by omega), hc _ _ _ (by omega), hc _ _ _ (by omega)]
theorem put7_in {w : World} {g p m : Nat} {e : TypeId} {d : En} (h : IsRow w g e m) (hm : p + 7 ≤ m) : ∀ j, j < 7 → (put7 w g p d).cell? ⟨g, p + j, none⟩ = (enV d)[j]? := by
  have hc : ∀ (W : World) q r v, r ≠ q → (W.setCell ⟨g, r, none⟩ v).cell? ⟨g, q, none⟩ = W.cell? ⟨g, q, none⟩ := fun W q r v hr => World.cell?_setCell_other _ _ _ _ (fun e => hr (by injection e with _ e2))
  have hs : ∀ (W : World) r v, IsRow W g e m → r < m → (W.setCell ⟨g, r, none⟩ v).cell? ⟨g, r, none⟩ = some v := fun W r v hW hr => by
    obtain ⟨u, hu⟩ := hW.cell hr
    exact World.cell?_setCell_same _ _ _ hu
  have r1 := h.set (j := p) (.int .i64 d.k)
  have r2 := r1.set (j := p + 1) (.int .i64 d.pr)
  have r3 := r2.set (j := p + 2) (.int .i64 d.pp)
  have r4 := r3.set (j := p + 3) (.int .i64 d.o)
  have r5 := r4.set (j := p + 4) (.int .i64 d.i)
  have r6 := r5.set (j := p + 5) (.int .i64 d.ip)
  intro j hj
  unfold put7
  rcases (show j = 0 ∨ j = 1 ∨ j = 2 ∨ j = 3 ∨ j = 4 ∨ j = 5 ∨ j = 6 by omega) with rfl | rfl | rfl | rfl | rfl | rfl | rfl
  · rw [hc _ _ _ _ (by omega), hc _ _ _ _ (by omega), hc _ _ _ _ (by omega), hc _ _ _ _ (by omega), hc _ _ _ _ (by omega), hc _ _ _ _ (by omega)]; exact hs _ _ _ h (by omega)
  · rw [hc _ _ _ _ (by omega), hc _ _ _ _ (by omega), hc _ _ _ _ (by omega), hc _ _ _ _ (by omega), hc _ _ _ _ (by omega)]; exact hs _ _ _ r1 (by omega)
  · rw [hc _ _ _ _ (by omega), hc _ _ _ _ (by omega), hc _ _ _ _ (by omega), hc _ _ _ _ (by omega)]; exact hs _ _ _ r2 (by omega)
  · rw [hc _ _ _ _ (by omega), hc _ _ _ _ (by omega), hc _ _ _ _ (by omega)]; exact hs _ _ _ r3 (by omega)
  · rw [hc _ _ _ _ (by omega), hc _ _ _ _ (by omega)]; exact hs _ _ _ r4 (by omega)
  · rw [hc _ _ _ _ (by omega)]; exact hs _ _ _ r5 (by omega)
  · exact hs _ _ _ r6 (by omega)
theorem en_put {w : World} {g m : Nat} {e : TypeId} {L : List En} {d : En} (h : EnCells w g 0 L) (hr : IsRow w g e m) (hm : L.length * 7 + 7 ≤ m) : EnCells (put7 w g (L.length * 7) d) g 0 (L ++ [d]) := by
  intro i x hi
  rcases Nat.lt_or_ge i L.length with hlt | hge
  · rw [List.getElem?_append_left hlt] at hi
    obtain ⟨c0, c1, c2, c3, c4, c5, c6⟩ := h i x hi
    refine ⟨?_, ?_, ?_, ?_, ?_, ?_, ?_⟩ <;> (rw [put7_out (by omega)]; assumption)
  · have hi' : i = L.length := by
      have := get_lt hi
      simp at this; omega
    subst hi'
    simp at hi
    subst hi
    have k := put7_in (d := d) hr hm
    exact ⟨by simpa [enV] using k 0 (by omega), by simpa [enV] using k 1 (by omega), by simpa [enV] using k 2 (by omega), by simpa [enV] using k 3 (by omega), by simpa [enV] using k 4 (by omega), by simpa [enV] using k 5 (by omega), by simpa [enV] using k 6 (by omega)⟩
/-- The cells of the entries from n on. -/
def EnFrom (w : World) (g n : Nat) (es : List En) : Prop := ∀ (i : Nat) (d : En), n ≤ i → es[i]? = some d → ∀ j, j < 7 → w.cell? ⟨g, i * 7 + j, none⟩ = (enV d)[j]?
theorem en_from {w : World} {g : Nat} {es : List En} (h : EnCells w g 0 es) (n : Nat) : EnFrom w g n es := by
  intro i d _ hi j hj
  obtain ⟨c0, c1, c2, c3, c4, c5, c6⟩ := h i d hi
  simp only [Nat.zero_add] at c0 c1 c2 c3 c4 c5 c6
  rcases (show j = 0 ∨ j = 1 ∨ j = 2 ∨ j = 3 ∨ j = 4 ∨ j = 5 ∨ j = 6 by omega) with rfl | rfl | rfl | rfl | rfl | rfl | rfl <;> simpa [enV]
theorem en_take {w : World} {g : Nat} {es : List En} (h : EnCells w g 0 es) (n : Nat) : EnCells w g 0 (es.take n) := by
  intro i d hi
  rw [List.getElem?_take] at hi
  split at hi
  · exact h i d hi
  · cases hi
theorem filter_all {α : Type} {p : α → Bool} {xs : List α} (h : ∀ (j : Nat) y, xs[j]? = some y → p y = true) : xs.filter p = xs := by
  rw [List.filter_eq_self]
  intro x hx
  obtain ⟨j, hj⟩ := List.mem_iff_getElem?.1 hx
  exact h j x hj
theorem setCells_row {g : Nat} {e : TypeId} {m : Nat} : ∀ (vs : List Value) (o : Nat) (w : World), IsRow w g e m → IsRow (w.setCells g o vs) g e m
  | [], _, _, h => h
  | _ :: vs, o, _, h => setCells_row vs (o + 1) _ (h.set _)
theorem setCells_ap {g : Nat} {w0 : World} : ∀ (vs : List Value) (o : Nat) (w : World), Apart g w0 w → Apart g w0 (w.setCells g o vs)
  | [], _, _, h => h
  | _ :: vs, o, _, h => setCells_ap vs (o + 1) _ (ap_set h _ _)
theorem own_of_row {w : World} {base g cap : Nat} {e : TypeId} {L : List En} (hr : IsRow w g e (cap * 7)) (hb : base ≤ g) (hc : L.length ≤ cap) (hm : cap ≤ maxLen) (h : EnCells w g 0 L) : w.ownsRow base e 7 (.slice (some ⟨g, 0, none⟩) L.length cap) L.length (flatE L) := by
  obtain ⟨cur, hh, hs⟩ := hr
  refine ⟨flatE_length L, Or.inr ⟨g, cap, cur, rfl, hb, hh, hc, hm, hs, ?_⟩⟩
  apply List.ext_getElem?
  intro q
  rcases Nat.lt_or_ge q (L.length * 7) with hq | hq
  · rw [List.getElem?_take_of_lt hq]
    have k := en_from h 0 (q / 7) (L[q / 7]'(by omega)) (by omega) (by simp) (q % 7) (by omega)
    rw [show q / 7 * 7 + q % 7 = q by omega] at k
    have k2 := flatE_at L (q / 7) (L[q / 7]'(by omega)) (by simp) (q % 7) (by omega)
    rw [show q / 7 * 7 + q % 7 = q by omega] at k2
    rw [k2, ← k]
    simp [World.cell?, hh]
  · rw [List.getElem?_eq_none (by simp; omega), List.getElem?_eq_none (by rw [flatE_length]; omega)]
end Go.Proofs.YtcgjpmhjijmplaaGreatDoor
