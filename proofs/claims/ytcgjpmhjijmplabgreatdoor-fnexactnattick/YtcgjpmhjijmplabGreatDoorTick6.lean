/- slices.DeleteFunc over the tick's closure, walked. -/
import Derived.Test.YtcgjpmhjijmplabGreatDoorTick5
namespace Go.Proofs.YtcgjpmhjijmplabGreatDoor
open Go.ChangeShapes Go.WideShapes Go.ChangeAt Go.RowKit Go.Maps

theorem zeroEn (w : World) : (zeroValue 55).run Tryz.prog w = .ok (.agg #[.int .i64 0, .int .i64 0, .int .i64 0, .int .i64 0, .int .i64 0, .int .i64 0, .int .i64 0]) w := by kernel_rfl
def zE : Array Value := #[.int .i64 0, .int .i64 0, .int .i64 0, .int .i64 0, .int .i64 0, .int .i64 0, .int .i64 0]
theorem zE_one (n : Nat) : ∀ v ∈ (Builtin.zeroCells zE n).toList, v.oneCell' = true := by
  intro v hv
  simp only [Builtin.zeroCells, Array.toList_map, List.mem_map, Array.mem_toList_iff] at hv
  obtain ⟨i, _, rfl⟩ := hv
  have h7 : i % zE.size < 7 := Nat.mod_lt _ (by decide)
  generalize i % zE.size = q at h7
  rcases (show q = 0 ∨ q = 1 ∨ q = 2 ∨ q = 3 ∨ q = 4 ∨ q = 5 ∨ q = 6 by omega) with rfl | rfl | rfl | rfl | rfl | rfl | rfl <;> rfl
theorem zE_len (n : Nat) : (Builtin.zeroCells zE n).toList.length = n * 7 := by simp [Builtin.zeroCells, zE]
theorem run_clearE (W : World) (ty : TypeId) (g o n c m : Nat) (hr : IsRow W g 55 m) (hn : 0 < n) (hm : o + n * 7 ≤ m) : ∃ vs : List Value, vs.length = n * 7 ∧ (Builtin.clear_ #[33] ty #[.slice (some ⟨g, o, none⟩) n c]).run Tryz.prog W = .ok (.tuple #[]) (W.setCells g o vs) := by
  obtain ⟨k, rfl⟩ : ∃ k, n = k + 1 := ⟨n - 1, by omega⟩
  have hl := zE_len (k + 1)
  refine ⟨(Builtin.zeroCells zE (k + 1)).toList, hl, ?_⟩
  have hst := run_storeCells_cells (P := Tryz.prog) g o (Builtin.zeroCells zE (k + 1)).toList 0 W (fun j hj => by obtain ⟨v, hv⟩ := hr.cell (j := o + 0 + j) (by omega); rw [hv]; rfl) (fun j _ => hr.frozen _) (zE_one _)
  have hz : (Value.agg #[.int .i64 0, .int .i64 0, .int .i64 0, .int .i64 0, .int .i64 0, .int .i64 0, .int .i64 0]).cells = zE := rfl
  simp [Builtin.clear_, run_underlying Tryz.underlying33, hz, hst]

theorem new_cell (w : World) (cs : Array Value) (t : TypeId) (k : Nat) : (w.alloc (Obj.cells cs t)).cell? ⟨w.heap.size, k, none⟩ = cs[k]? := by
  unfold World.cell? World.alloc; simp
theorem setCells_low {g q : Nat} : ∀ (vs : List Value) (o : Nat) (w : World), q < o → (w.setCells g o vs).cell? ⟨g, q, none⟩ = w.cell? ⟨g, q, none⟩
  | [], _, _, _ => rfl
  | _ :: vs, o, _, h => (setCells_low vs (o + 1) _ (by omega)).trans (World.cell?_setCell_other _ _ _ _ (fun e => (show o ≠ q by omega) (by injection e with _ e2)))
theorem en_low {w : World} {g : Nat} {L : List En} (vs : List Value) (h : EnCells w g 0 L) : EnCells (w.setCells g (L.length * 7) vs) g 0 L := by
  intro i x hi
  have hlt := get_lt hi
  obtain ⟨c0, c1, c2, c3, c4, c5, c6⟩ := h i x hi
  refine ⟨?_, ?_, ?_, ?_, ?_, ?_, ?_⟩ <;> (rw [setCells_low _ _ _ (by omega)]; assumption)

set_option maxRecDepth 20000 in
set_option maxHeartbeats 4000000 in
theorem delete_ret (g cap nb : Nat) (nw : Int) (es : List En) (w : World) (hr : IsRow w g 55 (cap * 7)) (hcap : es.length ≤ cap) (hmx : cap ≤ maxLen) (hcs : EnCells w g 0 es) (hnb : w.cell? ⟨nb, 6, none⟩ = some (.int .i64 (nw + 1))) (hnl : nb < w.heap.size) (hne : nb ≠ g) (hl : es.length ≤ 16) (n0 : 0 ≤ nw) (n1 : nw ≤ 1000000) (hla : ∀ (i : Nat) d, es[i]? = some d → 0 ≤ d.l ∧ d.l ≤ nw) :
    Calls Tryz.prog 62 #[.slice (some ⟨g, 0, none⟩) es.length cap, .func (.func 63) #[] #[.pointer (some ⟨nb, 0, none⟩)]] w fun e w' =>
      e = .returned (.slice (some ⟨g, 0, none⟩) (tickL nw es).length cap) ∧ Apart g w w' ∧ IsRow w' g 55 (cap * 7) ∧ EnCells w' g 0 (tickL nw es) := by
  have hgl := hr.lt
  have HL : Hid (∀ (i : Nat) d, es[i]? = some d → 0 ≤ d.l ∧ d.l ≤ nw) := hla
  have H1 : Hid (Calls Tryz.prog _ _ _ _) := index_ret g cap nb nw es w hcs hgl hnb hnl hl n0 n1 hla
  have hmx : Hid (cap ≤ maxLen) := hmx
  clear hla
  go_enter Tryz.func62, Tryz.ntmps62
  go_wp2_with fail
  refine H1.out.mono ?_
  clear H1
  rintro e w1 ⟨⟨n, d0, rfl, hd0, hk0, HK⟩ | ⟨rfl, HK⟩, hb1⟩
  · have hn0 : n < es.length := get_lt hd0
    have htk : tickL nw (es.take (n + 1)) = es.take n := by
      rw [tick_no hd0 hk0]
      exact filter_all (fun j y hy => by
        rw [List.getElem?_take] at hy
        split at hy
        · exact HK j y (by assumption) hy
        · cases hy)
    clear HK hk0 hd0 d0
    have htk : Hid (tickL nw (es.take (n + 1)) = es.take n) := htk
    have hq : ((n : Int) == -1) = false := by simp <;> omega
    have hcs1 : Hid (EnCells w1 g 0 es) := hcs.below hb1 hgl
    have hr1 := hr.below hb1
    clear hcs
    go_wp2_with fail
    go_loopg [5, 6] es.length (fun gg iv jv wr => ∃ i j : Nat, gg + j = es.length + (n + 1) ∧ j ≤ es.length ∧ i < j ∧ iv = .int .i64 i ∧ jv = .int .i64 j ∧ i = (tickL nw (es.take j)).length ∧ EnCells wr g 0 (tickL nw (es.take j)) ∧ EnFrom wr g j es ∧ IsRow wr g 55 (cap * 7) ∧ Apart g w wr)
    case atStart => exact ⟨n, n + 1, rfl, by omega, by omega, rfl, by go_num, by rw [htk.out, List.length_take]; omega, by rw [htk.out]; exact en_take hcs1.out n, en_from hcs1.out _, hr1, ap_of_bl hb1⟩
    case round =>
      obtain ⟨i, j, hgj, hj, hij, rfl, rfl, hi', hE', hF', hR, hA⟩ := hrel
      have hE : Hid (EnCells wr g 0 (tickL nw (es.take j))) := hE'
      have hi : Hid (i = (tickL nw (es.take j)).length) := hi'
      have hF : Hid (EnFrom wr g j es) := hF'
      clear hE' hi' hF'
      have hgl2 := hR.lt
      have hnb2 : wr.cell? ⟨nb, 6, none⟩ = some (.int .i64 (nw + 1)) := (hA.cell hnl hne).trans hnb
      have hnl2 : nb < wr.heap.size := Nat.lt_of_lt_of_le hnl hA.size
      by_cases hlt : j < es.length
      · have hlt' : (j : Int) < (es.length : Int) := by omega
        obtain ⟨d, hd'⟩ : ∃ d, es[j]? = some d := ⟨es[j], by simp⟩
        obtain ⟨q0, q1⟩ := HL.out j d hd'
        have c := hF.out j d (Nat.le_refl _) hd'
        have c0 : wr.cell? ⟨g, j * 7, none⟩ = some (.int .i64 d.k) := c 0 (by omega)
        have c1 : wr.cell? ⟨g, j * 7 + 1, none⟩ = some (.int .i64 d.pr) := c 1 (by omega)
        have c2 : wr.cell? ⟨g, j * 7 + 2, none⟩ = some (.int .i64 d.pp) := c 2 (by omega)
        have c3 : wr.cell? ⟨g, j * 7 + 3, none⟩ = some (.int .i64 d.o) := c 3 (by omega)
        have c4 : wr.cell? ⟨g, j * 7 + 4, none⟩ = some (.int .i64 d.i) := c 4 (by omega)
        have c5 : wr.cell? ⟨g, j * 7 + 5, none⟩ = some (.int .i64 d.ip) := c 5 (by omega)
        have c6 : wr.cell? ⟨g, j * 7 + 6, none⟩ = some (.int .i64 d.l) := c 6 (by omega)
        clear c
        have hd : Hid (es[j]? = some d) := hd'
        clear hd'
        go_upto_region 8 with fail
        have hb3 : Below wr.heap.size wr (wr.alloc (Obj.cells #[.int .i64 d.k, .int .i64 d.pr, .int .i64 d.pp, .int .i64 d.o, .int .i64 d.i, .int .i64 d.ip, .int .i64 d.l] 55)) := bl_alloc (bl_refl _) _
        have hnb3 := (hb3.cell (p := ⟨nb, 6, none⟩) hnl2).trans hnb2
        have hnl3 : nb < (wr.alloc (Obj.cells #[.int .i64 d.k, .int .i64 d.pr, .int .i64 d.pp, .int .i64 d.o, .int .i64 d.i, .int .i64 d.ip, .int .i64 d.l] 55)).heap.size := Nat.lt_of_lt_of_le hnl2 hb3.size
        by_cases hk : keepB nw d = true
        · go_wp2_with fail
          refine (gone_ret nb nw d false _ hnb3 hnl3 n0 n1 q0 q1 (by simpa using hk)).mono ?_
          rintro e w2 ⟨rfl, hb2⟩
          have hbb := bl_trans hb3 hb2
          have hR2 := hR.below hbb
          have hA2 : Apart g w w2 := ap_trans hA (ap_of_bl hbb)
          have hE2 : Hid (EnCells w2 g 0 (tickL nw (es.take j))) := hE.out.below hbb hgl2
          have hF2 : Hid (EnFrom w2 g j es) := fun x y hx hy q hq => (hbb.cell (p := ⟨g, x * 7 + q, none⟩) hgl2).trans (hF.out x y hx hy q hq)
          have hgl3 := hR2.lt
          have b0 : w2.cell? ⟨wr.heap.size, 0, none⟩ = some (.int .i64 d.k) := (hb2.cell (p := ⟨wr.heap.size, 0, none⟩) (by simp)).trans (new_cell _ _ _ _)
          have b1 : w2.cell? ⟨wr.heap.size, 1, none⟩ = some (.int .i64 d.pr) := (hb2.cell (p := ⟨wr.heap.size, 1, none⟩) (by simp)).trans (new_cell _ _ _ _)
          have b2 : w2.cell? ⟨wr.heap.size, 2, none⟩ = some (.int .i64 d.pp) := (hb2.cell (p := ⟨wr.heap.size, 2, none⟩) (by simp)).trans (new_cell _ _ _ _)
          have b3 : w2.cell? ⟨wr.heap.size, 3, none⟩ = some (.int .i64 d.o) := (hb2.cell (p := ⟨wr.heap.size, 3, none⟩) (by simp)).trans (new_cell _ _ _ _)
          have b4 : w2.cell? ⟨wr.heap.size, 4, none⟩ = some (.int .i64 d.i) := (hb2.cell (p := ⟨wr.heap.size, 4, none⟩) (by simp)).trans (new_cell _ _ _ _)
          have b5 : w2.cell? ⟨wr.heap.size, 5, none⟩ = some (.int .i64 d.ip) := (hb2.cell (p := ⟨wr.heap.size, 5, none⟩) (by simp)).trans (new_cell _ _ _ _)
          have b6 : w2.cell? ⟨wr.heap.size, 6, none⟩ = some (.int .i64 d.l) := (hb2.cell (p := ⟨wr.heap.size, 6, none⟩) (by simp)).trans (new_cell _ _ _ _)
          obtain ⟨v0, e0⟩ := hR2.cell (j := i * 7) (by omega)
          have z0 := hR2.frozen (i * 7)
          obtain ⟨v1, e1⟩ := hR2.cell (j := i * 7 + 1) (by omega)
          have z1 := hR2.frozen (i * 7 + 1)
          obtain ⟨v2, e2⟩ := hR2.cell (j := i * 7 + 2) (by omega)
          have z2 := hR2.frozen (i * 7 + 2)
          obtain ⟨v3, e3⟩ := hR2.cell (j := i * 7 + 3) (by omega)
          have z3 := hR2.frozen (i * 7 + 3)
          obtain ⟨v4, e4⟩ := hR2.cell (j := i * 7 + 4) (by omega)
          have z4 := hR2.frozen (i * 7 + 4)
          obtain ⟨v5, e5⟩ := hR2.cell (j := i * 7 + 5) (by omega)
          have z5 := hR2.frozen (i * 7 + 5)
          obtain ⟨v6, e6⟩ := hR2.cell (j := i * 7 + 6) (by omega)
          have z6 := hR2.frozen (i * 7 + 6)
          go_wp2_with fail
          have hE4 : EnCells (put7 w2 g (i * 7) d) g 0 (tickL nw (es.take j) ++ [d]) := by
            have hle : i * 7 + 7 ≤ cap * 7 := by omega
            have k := en_put (d := d) hE2.out hR2 (by rw [← hi.out]; exact hle)
            rw [← hi.out] at k
            exact k
          have hF4 : EnFrom (put7 w2 g (i * 7) d) g (j + 1) es := fun x y hx hy q hq => by
            rw [put7_out (by omega)]
            exact hF2.out x y (by omega) hy q hq
          have hR4 := put7_row (p := i * 7) (d := d) hR2
          have hA4 := put7_ap (p := i * 7) (d := d) hA2
          go_roundg (es.length + (n + 1) - (j + 1))
          case measure => omega
          case rel => exact ⟨i + 1, j + 1, by omega, by omega, by omega, by go_num, by go_num, by rw [tick_yes hd.out hk, List.length_append, ← hi.out]; rfl, by rw [tick_yes hd.out hk]; exact hE4, hF4, hR4, hA4⟩
        · have hk : keepB nw d = false := by simpa using hk
          go_wp2_with fail
          refine (gone_ret nb nw d true _ hnb3 hnl3 n0 n1 q0 q1 (by simpa using hk)).mono ?_
          rintro e w2 ⟨rfl, hb2⟩
          have hbb := bl_trans hb3 hb2
          have hR2 := hR.below hbb
          have hA2 : Apart g w w2 := ap_trans hA (ap_of_bl hbb)
          have hE2 : Hid (EnCells w2 g 0 (tickL nw (es.take j))) := hE.out.below hbb hgl2
          have hF2 : Hid (EnFrom w2 g j es) := fun x y hx hy q hq => (hbb.cell (p := ⟨g, x * 7 + q, none⟩) hgl2).trans (hF.out x y hx hy q hq)
          have hgl3 := hR2.lt
          go_wp2_with fail
          go_roundg (es.length + (n + 1) - (j + 1))
          case measure => omega
          case rel => exact ⟨i, j + 1, by omega, by omega, by omega, rfl, by go_num, by rw [tick_no hd.out hk]; exact hi.out, by rw [tick_no hd.out hk]; exact hE2.out, fun x y hx hy => hF2.out x y (by omega) hy, hR2, hA2⟩
      · have hlt' : ¬ (j : Int) < (es.length : Int) := by omega
        have hje : j = es.length := by omega
        have hi2 : Hid (i = (tickL nw es).length) := by have h := hi.out; rw [hje, List.take_length] at h; exact h
        obtain ⟨vs, _, hrun⟩ := run_clearE wr 0 g (i * 7) (es.length - i) (cap - i) (cap * 7) hR (by omega) (by omega)
        have hE2 : Hid (EnCells (wr.setCells g (i * 7) vs) g 0 (tickL nw es)) := by
          have h := hE.out
          rw [hje, List.take_length] at h
          rw [hi2.out]; exact en_low vs h
        have hR2 := setCells_row vs (i * 7) wr hR
        have hA2 := setCells_ap vs (i * 7) wr hA
        go_wp2_with fail
        go_ret
        rw [← hi2.out]
        exact ⟨rfl, hA2, hR2, hE2.out⟩
  · have hq : ((-1 : Int) == -1) = true := rfl
    have htk : tickL nw es = es := filter_all HK
    clear HK
    go_wp2_with fail
    go_ret
    rw [htk]
    exact ⟨rfl, ap_of_bl hb1, hr.below hb1, hcs.below hb1 hgl⟩
end Go.Proofs.YtcgjpmhjijmplabGreatDoor
