/- Joined: Tick6, Tick7, Tick8, Tick9. -/
import Derived.Test.YtcgjpmhjijmplaaGreatDoorJoinC
/- slices.DeleteFunc over the tick's closure, walked. -/
namespace Go.Proofs.YtcgjpmhjijmplaaGreatDoor
open Go.ChangeShapes Go.WideShapes Go.ChangeAt Go.RowKit Go.Maps

def zE : Array Value := #[.int .i64 0, .int .i64 0, .int .i64 0, .int .i64 0, .int .i64 0, .int .i64 0, .int .i64 0]
theorem zE_one (n : Nat) : ∀ v ∈ (Builtin.zeroCells zE n).toList, v.oneCell' = true := by
  intro v hv
  simp only [Builtin.zeroCells, Array.toList_map, List.mem_map, Array.mem_toList_iff] at hv
  obtain ⟨i, _, rfl⟩ := hv
  have h7 : i % zE.size < 7 := Nat.mod_lt _ (by decide)
  generalize i % zE.size = q at h7
  rcases (show q = 0 ∨ q = 1 ∨ q = 2 ∨ q = 3 ∨ q = 4 ∨ q = 5 ∨ q = 6 by omega) with rfl | rfl | rfl | rfl | rfl | rfl | rfl <;> rfl
theorem zE_len (n : Nat) : (Builtin.zeroCells zE n).toList.length = n * 7 := by simp [Builtin.zeroCells, zE]
theorem run_clearE (W : World) (ty : TypeId) (g o n c m : Nat) (hr : IsRow W g 52 m) (hn : 0 < n) (hm : o + n * 7 ≤ m) : ∃ vs : List Value, vs.length = n * 7 ∧ (Builtin.clear_ #[24] ty #[.slice (some ⟨g, o, none⟩) n c]).run Tryz.prog W = .ok (.tuple #[]) (W.setCells g o vs) := by
  obtain ⟨k, rfl⟩ : ∃ k, n = k + 1 := ⟨n - 1, by omega⟩
  have hl := zE_len (k + 1)
  refine ⟨(Builtin.zeroCells zE (k + 1)).toList, hl, ?_⟩
  have hst := run_storeCells_cells (P := Tryz.prog) g o (Builtin.zeroCells zE (k + 1)).toList 0 W (fun j hj => by obtain ⟨v, hv⟩ := hr.cell (j := o + 0 + j) (by omega); rw [hv]; rfl) (fun j _ => hr.frozen _) (zE_one _)
  have hz : (Value.agg #[.int .i64 0, .int .i64 0, .int .i64 0, .int .i64 0, .int .i64 0, .int .i64 0, .int .i64 0]).cells = zE := rfl
  simp [Builtin.clear_, run_underlying Tryz.underlying24, hz, hst]

theorem new_cell (w : World) (cs : Array Value) (t : TypeId) (k : Nat) : (w.alloc (Obj.cells cs t)).cell? ⟨w.heap.size, k, none⟩ = cs[k]? := by
  unfold World.cell? World.alloc; simp
theorem setCells_low {g q : Nat} : ∀ (vs : List Value) (o : Nat) (w : World), q < o → (w.setCells g o vs).cell? ⟨g, q, none⟩ = w.cell? ⟨g, q, none⟩
  | [], _, _, _ => rfl
  | _ :: vs, o, _, h => (setCells_low vs (o + 1) _ (by omega)).trans (World.cell?_setCell_other _ _ _ _ (fun e => (show o ≠ q by omega) (by injection e with _ e2)))
theorem en_low {w : World} {g : Nat} {L : List En} (vs : List Value) (h : EnCells w g 0 L) : EnCells (w.setCells g (L.length * 7) vs) g 0 L := by
  intro i x hi
  have hlt := get_lt hi
  obtain ⟨c0, c1, c2, c3, c4, c5, c6⟩ := h i x hi
  refine ⟨?_, ?_, ?_, ?_, ?_, ?_, ?_⟩ <;> (rw [setCells_low _ _ _ (by omega)]; assumption)

set_option maxRecDepth 20000 in
set_option maxHeartbeats 4000000 in
theorem delete_ret (g cap nb : Nat) (nw : Int) (es : List En) (w : World) (hr : IsRow w g 52 (cap * 7)) (hcap : es.length ≤ cap) (hmx : cap ≤ maxLen) (hcs : EnCells w g 0 es) (hnb : w.cell? ⟨nb, 6, none⟩ = some (.int .i64 (nw + 1))) (hnl : nb < w.heap.size) (hne : nb ≠ g) (hl : es.length ≤ 16) (n0 : 0 ≤ nw) (n1 : nw ≤ 1000000) (hla : ∀ (i : Nat) d, es[i]? = some d → 0 ≤ d.l ∧ d.l ≤ nw) :
    Calls Tryz.prog 93 #[.slice (some ⟨g, 0, none⟩) es.length cap, .func (.func 94) #[] #[.pointer (some ⟨nb, 0, none⟩)]] w fun e w' =>
      e = .returned (.slice (some ⟨g, 0, none⟩) (tickL nw es).length cap) ∧ Apart g w w' ∧ IsRow w' g 52 (cap * 7) ∧ EnCells w' g 0 (tickL nw es) := by
  have hgl := hr.lt
  have HL : Hid (∀ (i : Nat) d, es[i]? = some d → 0 ≤ d.l ∧ d.l ≤ nw) := hla
  have H1 : Hid (Calls Tryz.prog _ _ _ _) := index_ret g cap nb nw es w hcs hgl hnb hnl hl n0 n1 hla
  have hmx : Hid (cap ≤ maxLen) := hmx
  clear hla
  go_enter Tryz.func93, Tryz.ntmps93
  go_wp2_with fail
  refine H1.out.mono ?_
  clear H1
  rintro e w1 ⟨⟨n, d0, rfl, hd0, hk0, HK⟩ | ⟨rfl, HK⟩, hb1⟩
  · have hn0 : n < es.length := get_lt hd0
    have htk : tickL nw (es.take (n + 1)) = es.take n := by
      rw [tick_no hd0 hk0]
      exact filter_all (fun j y hy => by
        rw [List.getElem?_take] at hy
        split at hy
        · exact HK j y (by assumption) hy
        · cases hy)
    clear HK hk0 hd0 d0
    have htk : Hid (tickL nw (es.take (n + 1)) = es.take n) := htk
    have hq : ((n : Int) == -1) = false := by simp <;> omega
    have hcs1 : Hid (EnCells w1 g 0 es) := hcs.below hb1 hgl
    have hr1 := hr.below hb1
    clear hcs
    go_wp2_with fail
    go_loopg [5, 6] es.length (fun gg iv jv wr => ∃ i j : Nat, gg + j = es.length + (n + 1) ∧ j ≤ es.length ∧ i < j ∧ iv = .int .i64 i ∧ jv = .int .i64 j ∧ i = (tickL nw (es.take j)).length ∧ EnCells wr g 0 (tickL nw (es.take j)) ∧ EnFrom wr g j es ∧ IsRow wr g 52 (cap * 7) ∧ Apart g w wr)
    case atStart => exact ⟨n, n + 1, rfl, by omega, by omega, rfl, by go_num, by rw [htk.out, List.length_take]; omega, by rw [htk.out]; exact en_take hcs1.out n, en_from hcs1.out _, hr1, ap_of_bl hb1⟩
    case round =>
      obtain ⟨i, j, hgj, hj, hij, rfl, rfl, hi', hE', hF', hR, hA⟩ := hrel
      have hE : Hid (EnCells wr g 0 (tickL nw (es.take j))) := hE'
      have hi : Hid (i = (tickL nw (es.take j)).length) := hi'
      have hF : Hid (EnFrom wr g j es) := hF'
      clear hE' hi' hF'
      have hgl2 := hR.lt
      have hnb2 : wr.cell? ⟨nb, 6, none⟩ = some (.int .i64 (nw + 1)) := (hA.cell hnl hne).trans hnb
      have hnl2 : nb < wr.heap.size := Nat.lt_of_lt_of_le hnl hA.size
      by_cases hlt : j < es.length
      · have hlt' : (j : Int) < (es.length : Int) := by omega
        obtain ⟨d, hd'⟩ : ∃ d, es[j]? = some d := ⟨es[j], by simp⟩
        obtain ⟨q0, q1⟩ := HL.out j d hd'
        have c := hF.out j d (Nat.le_refl _) hd'
        have c0 : wr.cell? ⟨g, j * 7, none⟩ = some (.int .i64 d.k) := c 0 (by omega)
        have c1 : wr.cell? ⟨g, j * 7 + 1, none⟩ = some (.int .i64 d.pr) := c 1 (by omega)
        have c2 : wr.cell? ⟨g, j * 7 + 2, none⟩ = some (.int .i64 d.pp) := c 2 (by omega)
        have c3 : wr.cell? ⟨g, j * 7 + 3, none⟩ = some (.int .i64 d.o) := c 3 (by omega)
        have c4 : wr.cell? ⟨g, j * 7 + 4, none⟩ = some (.int .i64 d.i) := c 4 (by omega)
        have c5 : wr.cell? ⟨g, j * 7 + 5, none⟩ = some (.int .i64 d.ip) := c 5 (by omega)
        have c6 : wr.cell? ⟨g, j * 7 + 6, none⟩ = some (.int .i64 d.l) := c 6 (by omega)
        clear c
        have hd : Hid (es[j]? = some d) := hd'
        clear hd'
        go_upto_region 8 with fail
        have hb3 : Below wr.heap.size wr (wr.alloc (Obj.cells #[.int .i64 d.k, .int .i64 d.pr, .int .i64 d.pp, .int .i64 d.o, .int .i64 d.i, .int .i64 d.ip, .int .i64 d.l] 52)) := bl_alloc (bl_refl _) _
        have hnb3 := (hb3.cell (p := ⟨nb, 6, none⟩) hnl2).trans hnb2
        have hnl3 : nb < (wr.alloc (Obj.cells #[.int .i64 d.k, .int .i64 d.pr, .int .i64 d.pp, .int .i64 d.o, .int .i64 d.i, .int .i64 d.ip, .int .i64 d.l] 52)).heap.size := Nat.lt_of_lt_of_le hnl2 hb3.size
        by_cases hk : keepB nw d = true
        · go_wp2_with fail
          refine (gone_ret nb nw d false _ hnb3 hnl3 n0 n1 q0 q1 (by simpa using hk)).mono ?_
          rintro e w2 ⟨rfl, hb2⟩
          have hbb := bl_trans hb3 hb2
          have hR2 := hR.below hbb
          have hA2 : Apart g w w2 := ap_trans hA (ap_of_bl hbb)
          have hE2 : Hid (EnCells w2 g 0 (tickL nw (es.take j))) := hE.out.below hbb hgl2
          have hF2 : Hid (EnFrom w2 g j es) := fun x y hx hy q hq => (hbb.cell (p := ⟨g, x * 7 + q, none⟩) hgl2).trans (hF.out x y hx hy q hq)
          have hgl3 := hR2.lt
          have b0 : w2.cell? ⟨wr.heap.size, 0, none⟩ = some (.int .i64 d.k) := (hb2.cell (p := ⟨wr.heap.size, 0, none⟩) (by simp)).trans (new_cell _ _ _ _)
          have b1 : w2.cell? ⟨wr.heap.size, 1, none⟩ = some (.int .i64 d.pr) := (hb2.cell (p := ⟨wr.heap.size, 1, none⟩) (by simp)).trans (new_cell _ _ _ _)
          have b2 : w2.cell? ⟨wr.heap.size, 2, none⟩ = some (.int .i64 d.pp) := (hb2.cell (p := ⟨wr.heap.size, 2, none⟩) (by simp)).trans (new_cell _ _ _ _)
          have b3 : w2.cell? ⟨wr.heap.size, 3, none⟩ = some (.int .i64 d.o) := (hb2.cell (p := ⟨wr.heap.size, 3, none⟩) (by simp)).trans (new_cell _ _ _ _)
          have b4 : w2.cell? ⟨wr.heap.size, 4, none⟩ = some (.int .i64 d.i) := (hb2.cell (p := ⟨wr.heap.size, 4, none⟩) (by simp)).trans (new_cell _ _ _ _)
          have b5 : w2.cell? ⟨wr.heap.size, 5, none⟩ = some (.int .i64 d.ip) := (hb2.cell (p := ⟨wr.heap.size, 5, none⟩) (by simp)).trans (new_cell _ _ _ _)
          have b6 : w2.cell? ⟨wr.heap.size, 6, none⟩ = some (.int .i64 d.l) := (hb2.cell (p := ⟨wr.heap.size, 6, none⟩) (by simp)).trans (new_cell _ _ _ _)
          obtain ⟨v0, e0⟩ := hR2.cell (j := i * 7) (by omega)
          have z0 := hR2.frozen (i * 7)
          obtain ⟨v1, e1⟩ := hR2.cell (j := i * 7 + 1) (by omega)
          have z1 := hR2.frozen (i * 7 + 1)
          obtain ⟨v2, e2⟩ := hR2.cell (j := i * 7 + 2) (by omega)
          have z2 := hR2.frozen (i * 7 + 2)
          obtain ⟨v3, e3⟩ := hR2.cell (j := i * 7 + 3) (by omega)
          have z3 := hR2.frozen (i * 7 + 3)
          obtain ⟨v4, e4⟩ := hR2.cell (j := i * 7 + 4) (by omega)
          have z4 := hR2.frozen (i * 7 + 4)
          obtain ⟨v5, e5⟩ := hR2.cell (j := i * 7 + 5) (by omega)
          have z5 := hR2.frozen (i * 7 + 5)
          obtain ⟨v6, e6⟩ := hR2.cell (j := i * 7 + 6) (by omega)
          have z6 := hR2.frozen (i * 7 + 6)
          go_wp2_with fail
          have hE4 : EnCells (put7 w2 g (i * 7) d) g 0 (tickL nw (es.take j) ++ [d]) := by
            have hle : i * 7 + 7 ≤ cap * 7 := by omega
            have k := en_put (d := d) hE2.out hR2 (by rw [← hi.out]; exact hle)
            rw [← hi.out] at k
            exact k
          have hF4 : EnFrom (put7 w2 g (i * 7) d) g (j + 1) es := fun x y hx hy q hq => by
            rw [put7_out (by omega)]
            exact hF2.out x y (by omega) hy q hq
          have hR4 := put7_row (p := i * 7) (d := d) hR2
          have hA4 := put7_ap (p := i * 7) (d := d) hA2
          go_roundg (es.length + (n + 1) - (j + 1))
          case measure => omega
          case rel => exact ⟨i + 1, j + 1, by omega, by omega, by omega, by go_num, by go_num, by rw [tick_yes hd.out hk, List.length_append, ← hi.out]; rfl, by rw [tick_yes hd.out hk]; exact hE4, hF4, hR4, hA4⟩
        · have hk : keepB nw d = false := by simpa using hk
          go_wp2_with fail
          refine (gone_ret nb nw d true _ hnb3 hnl3 n0 n1 q0 q1 (by simpa using hk)).mono ?_
          rintro e w2 ⟨rfl, hb2⟩
          have hbb := bl_trans hb3 hb2
          have hR2 := hR.below hbb
          have hA2 : Apart g w w2 := ap_trans hA (ap_of_bl hbb)
          have hE2 : Hid (EnCells w2 g 0 (tickL nw (es.take j))) := hE.out.below hbb hgl2
          have hF2 : Hid (EnFrom w2 g j es) := fun x y hx hy q hq => (hbb.cell (p := ⟨g, x * 7 + q, none⟩) hgl2).trans (hF.out x y hx hy q hq)
          have hgl3 := hR2.lt
          go_wp2_with fail
          go_roundg (es.length + (n + 1) - (j + 1))
          case measure => omega
          case rel => exact ⟨i, j + 1, by omega, by omega, by omega, rfl, by go_num, by rw [tick_no hd.out hk]; exact hi.out, by rw [tick_no hd.out hk]; exact hE2.out, fun x y hx hy => hF2.out x y (by omega) hy, hR2, hA2⟩
      · have hlt' : ¬ (j : Int) < (es.length : Int) := by omega
        have hje : j = es.length := by omega
        have hi2 : Hid (i = (tickL nw es).length) := by have h := hi.out; rw [hje, List.take_length] at h; exact h
        obtain ⟨vs, _, hrun⟩ := run_clearE wr 0 g (i * 7) (es.length - i) (cap - i) (cap * 7) hR (by omega) (by omega)
        have hE2 : Hid (EnCells (wr.setCells g (i * 7) vs) g 0 (tickL nw es)) := by
          have h := hE.out
          rw [hje, List.take_length] at h
          rw [hi2.out]; exact en_low vs h
        have hR2 := setCells_row vs (i * 7) wr hR
        have hA2 := setCells_ap vs (i * 7) wr hA
        go_wp2_with fail
        go_ret
        rw [← hi2.out]
        exact ⟨rfl, hA2, hR2, hE2.out⟩
  · have hq : ((-1 : Int) == -1) = true := rfl
    have htk : tickL nw es = es := filter_all HK
    clear HK
    go_wp2_with fail
    go_ret
    rw [htk]
    exact ⟨rfl, ap_of_bl hb1, hr.below hb1, hcs.below hb1 hgl⟩
end Go.Proofs.YtcgjpmhjijmplaaGreatDoor

/- The program's natPassTick, walked. -/
namespace Go.Proofs.YtcgjpmhjijmplaaGreatDoor
open Go.ChangeShapes Go.WideShapes Go.ChangeAt Go.RowKit Go.Maps

/-- All blocks but the row's are as they were. -/
structure Far (row : Option Nat) (w w' : World) : Prop where
  os : w'.os = w.os
  tape : w'.tape = w.tape
  output : w'.output = w.output
  size : w.heap.size ≤ w'.heap.size
  block : ∀ k, k < w.heap.size → row ≠ some k → w'.heap[k]? = w.heap[k]?
theorem far_of_bl {row : Option Nat} {w w' : World} (h : Below w.heap.size w w') : Far row w w' := ⟨h.os, h.tape, h.output, h.size, fun k hk _ => h.block k hk⟩
theorem far_of_ap {g : Nat} {w w' : World} (h : Apart g w w') : Far (some g) w w' := ⟨h.os, h.tape, h.output, h.size, fun k hk hn => h.block k hk (fun e => hn (by rw [e]))⟩
theorem Far.bl {row : Option Nat} {w0 w w' : World} (h : Far row w w') (hb : Below w0.heap.size w0 w) (hr : ∀ k, row = some k → w0.heap.size ≤ k) : Below w0.heap.size w0 w' :=
  ⟨h.os.trans hb.os, h.tape.trans hb.tape, h.output.trans hb.output, Nat.le_trans hb.size h.size, fun k hk => (h.block k (Nat.lt_of_lt_of_le hk hb.size) (fun e => by have := hr k e; omega)).trans (hb.block k hk)⟩
theorem Far.bx {row : Option Nat} {w w' : World} {n : Nat} {C : Array Value} (h : Far row w w') (b : Bx w n C) (hn : row ≠ some n) : Bx w' n C :=
  ⟨⟨Nat.lt_of_lt_of_le b.1.1 h.size, fun j => (World.cell?_of_block (w := w) (h.block n b.1.1 hn)).trans (b.1.2 j)⟩, fun j => (World.frozen?_of_block (w := w) (a := ⟨n, j, none⟩) (h.block n b.1.1 hn)).trans (b.2 j)⟩
theorem Far.own {row : Option Nat} {w w' : World} {base size n : Nat} {e : TypeId} {v : Value} {xs : List Value} (h : Far row w w') (o : w.ownsRow base e size v n xs) (hn : ∀ k, v.ownBlock = some k → row ≠ some k) : w'.ownsRow base e size v n xs := by
  have hl := o.lt
  refine ⟨o.1, ?_⟩
  rcases o.2 with o | ⟨g, cap, cur, h1, h2, h3, h4⟩
  · exact Or.inl o
  · have e1 : v.ownBlock = some g := by rw [h1]; rfl
    exact Or.inr ⟨g, cap, cur, h1, h2, (h.block g (hl g e1).2 (hn g e1)).trans h3, h4⟩

theorem index_nil (f : Value) (w : World) :
    Calls Tryz.prog 135 #[.slice none 0 0, f] w fun e w' => e = .returned (.int .i64 (-1)) ∧ Below w.heap.size w w' := by
  go_enter Tryz.func135, Tryz.ntmps135
  go_wp2_with fail
  go_loopg [8] 0 (fun gg i wr => gg = 0 ∧ i = .int .i64 0 ∧ Below w.heap.size w wr)
  case atStart => exact ⟨rfl, rfl, bl_refl _⟩
  case round =>
    obtain ⟨rfl, rfl, hB⟩ := hrel
    go_wp2_with fail
    go_ret
    exact ⟨rfl, hB⟩
theorem delete_nil (f : Value) (w : World) :
    Calls Tryz.prog 93 #[.slice none 0 0, f] w fun e w' => e = .returned (.slice none 0 0) ∧ Below w.heap.size w w' := by
  go_enter Tryz.func93, Tryz.ntmps93
  go_wp2_with fail
  refine (index_nil _ _).mono ?_
  rintro e w1 ⟨rfl, hb⟩
  go_wp2_with fail
  go_ret
  exact ⟨rfl, hb⟩
theorem delete_own (base nb : Nat) (nw : Int) (ua : Option Addr) (en uc : Nat) (es : List En) (w : World) (ho : w.ownsRow base 52 7 (.slice ua en uc) es.length (flatE es)) (hen : en = es.length) (hnb : w.cell? ⟨nb, 6, none⟩ = some (.int .i64 (nw + 1))) (hnl : nb < w.heap.size) (hne : ∀ k, (Value.slice ua en uc).ownBlock = some k → k ≠ nb) (hl : es.length ≤ 16) (n0 : 0 ≤ nw) (n1 : nw ≤ 1000000) (hla : ∀ (i : Nat) d, es[i]? = some d → 0 ≤ d.l ∧ d.l ≤ nw) :
    Calls Tryz.prog 93 #[.slice ua en uc, .func (.func 94) #[] #[.pointer (some ⟨nb, 0, none⟩)]] w fun e w' =>
      e = .returned (.slice ua (tickL nw es).length uc) ∧ Far (Value.slice ua en uc).ownBlock w w' ∧ w'.ownsRow base 52 7 (.slice ua (tickL nw es).length uc) (tickL nw es).length (flatE (tickL nw es)) := by
  subst hen
  have hle : (tickL nw es).length ≤ es.length := List.length_filter_le _ _
  rcases ho.2 with ⟨h1, h2⟩ | ⟨g, cap, cur, h1, h2, h3, h4, h5, h6, h7⟩
  · simp only [Value.slice.injEq] at h1
    obtain ⟨rfl, hz, rfl⟩ := h1
    have hes : es = [] := List.eq_nil_of_length_eq_zero hz
    subst hes
    refine (delete_nil _ w).mono ?_
    rintro e w1 ⟨rfl, hb⟩
    exact ⟨rfl, far_of_bl hb, World.ownsRow_nil _ _ _ _⟩
  · have hcs := enCells_of_own (by rw [← h1]; exact ho) rfl
    simp only [Value.slice.injEq] at h1
    obtain ⟨rfl, -, rfl⟩ := h1
    refine (delete_ret g uc nb nw es w ⟨cur, h3, h6⟩ h4 h5 hcs hnb hnl (fun e => hne g rfl e.symm) hl n0 n1 hla).mono ?_
    rintro e w1 ⟨rfl, hA, hR, hE⟩
    exact ⟨rfl, far_of_ap hA, own_of_row hR h2 (by omega) h5 hE⟩

set_option maxRecDepth 20000 in
set_option maxHeartbeats 2000000 in
theorem passTick_no (ad ln ow lo hi nw : Int) (da : Option Addr) (dn dc : Nat) (ea : Option Addr) (en ec : Nat) (ds : List Dr) (es : List En) (c : Int) (w : World) (hD : DoorsAt w da dn ds) (hE : EntriesAt w ea en es) (hc : (bookB ad ln ow lo hi nw ds es = false ∧ c = 1) ∨ (bookB ad ln ow lo hi nw ds es = true ∧ nw = 1000000 ∧ c = 2)) :
    Calls Tryz.prog 45 #[.agg #[.int .i64 ad, .int .i64 ln, .int .i64 ow, .int .i64 lo, .int .i64 hi, .slice da dn dc, .int .i64 nw, .slice ea en ec]] w fun e w' => e = .returned (.tuple #[.agg #[.int .i64 0, .int .i64 0, .int .i64 0, .int .i64 0, .int .i64 0, .slice none 0 0, .int .i64 0, .slice none 0 0], .iface 133 (.int .i64 c)]) ∧ Below w.heap.size w w' := by
  have hb0 := bl_alloc (bl_alloc (bl_refl w) (.cells #[.int .i64 ad, .int .i64 ln, .int .i64 ow, .int .i64 lo, .int .i64 hi, .slice da dn dc, .int .i64 nw, .slice ea en ec] 26)) (.cells #[.int .i64 0, .int .i64 0, .int .i64 0, .int .i64 0, .int .i64 0, .slice none 0 0, .int .i64 0, .slice none 0 0] 26)
  have x1 := (Box.new w #[.int .i64 ad, .int .i64 ln, .int .i64 ow, .int .i64 lo, .int .i64 hi, .slice da dn dc, .int .i64 nw, .slice ea en ec] 26).below (bl_alloc (bl_refl _) (.cells #[.int .i64 0, .int .i64 0, .int .i64 0, .int .i64 0, .int .i64 0, .slice none 0 0, .int .i64 0, .slice none 0 0] 26))
  have bx := Bx.new (w.alloc (.cells #[.int .i64 ad, .int .i64 ln, .int .i64 ow, .int .i64 lo, .int .i64 hi, .slice da dn dc, .int .i64 nw, .slice ea en ec] 26)) #[.int .i64 0, .int .i64 0, .int .i64 0, .int .i64 0, .int .i64 0, .slice none 0 0, .int .i64 0, .slice none 0 0] 26
  simp only [World.size_alloc] at bx
  have H1 : Hid (Calls Tryz.prog _ _ _ _) := implBook_ret ad ln ow lo hi nw da dn dc ea en ec ds es _ (hD.below hb0) (hE.below hb0)
  clear hD hE
  rcases hc with ⟨hk, rfl⟩ | ⟨hk, hmx, rfl⟩
  · go_enter Tryz.func45, Tryz.ntmps45
    go_wp2_with fail
    refine H1.out.mono ?_
    rintro e w1 ⟨rfl, hb1⟩
    have hB1 := bl_trans hb0 hb1
    replace bx := bx.below hb1
    clear hb0 hb1 H1 x1
    obtain ⟨⟨q1, q2⟩, q3⟩ := id bx
    go_wp2_with fail
    have hbv := bx.set8 (.int .i64 0) (.int .i64 0) (.int .i64 0) (.int .i64 0) (.int .i64 0) (.slice none 0 0) (.int .i64 0) (.slice none 0 0)
    obtain ⟨⟨t1, t2⟩, t3⟩ := id hbv
    exact bodyPost_ret (v := .tuple #[.agg #[.int .i64 0, .int .i64 0, .int .i64 0, .int .i64 0, .int .i64 0, .slice none 0 0, .int .i64 0, .slice none 0 0], .iface 133 (.int .i64 1)]) (by simp [results, Tryz.results45, go_sem, t2]) rfl ⟨rfl, bl_set8 hB1 (n := w.heap.size + 1) (by omega) (.int .i64 0) (.int .i64 0) (.int .i64 0) (.int .i64 0) (.int .i64 0) (.slice none 0 0) (.int .i64 0) (.slice none 0 0)⟩
  · have hq : (nw == 1000000) = true := by simpa using hmx
    clear hmx
    go_enter Tryz.func45, Tryz.ntmps45
    go_wp2_with fail
    refine H1.out.mono ?_
    rintro e w1 ⟨rfl, hb1⟩
    have hB1 := bl_trans hb0 hb1
    replace bx := bx.below hb1
    replace x1 := x1.below hb1
    clear hb0 hb1 H1
    have y1 := x1.2
    have hl1 := x1.1
    obtain ⟨⟨q1, q2⟩, q3⟩ := id bx
    go_wp2_with fail
    have hbv := bx.set8 (.int .i64 0) (.int .i64 0) (.int .i64 0) (.int .i64 0) (.int .i64 0) (.slice none 0 0) (.int .i64 0) (.slice none 0 0)
    obtain ⟨⟨t1, t2⟩, t3⟩ := id hbv
    exact bodyPost_ret (v := .tuple #[.agg #[.int .i64 0, .int .i64 0, .int .i64 0, .int .i64 0, .int .i64 0, .slice none 0 0, .int .i64 0, .slice none 0 0], .iface 133 (.int .i64 2)]) (by simp [results, Tryz.results45, go_sem, t2]) rfl ⟨rfl, bl_set8 hB1 (n := w.heap.size + 1) (by omega) (.int .i64 0) (.int .i64 0) (.int .i64 0) (.int .i64 0) (.int .i64 0) (.slice none 0 0) (.int .i64 0) (.slice none 0 0)⟩
end Go.Proofs.YtcgjpmhjijmplaaGreatDoor

/- The program's NatTick, walked. -/
namespace Go.Proofs.YtcgjpmhjijmplaaGreatDoor
open Go.ChangeShapes Go.WideShapes Go.ChangeAt Go.RowKit Go.Maps

set_option maxRecDepth 20000 in
set_option maxHeartbeats 4000000 in
theorem passTick_yes (ad ln ow lo hi nw : Int) (da : Option Addr) (dn dc : Nat) (ea : Option Addr) (en ec : Nat) (ds : List Dr) (es : List En) (w : World) (hD : DoorsAt w da dn ds) (hE : EntriesAt w ea en es) (hk : bookB ad ln ow lo hi nw ds es = true) (hmx : nw ≠ 1000000) :
    Calls Tryz.prog 45 #[.agg #[.int .i64 ad, .int .i64 ln, .int .i64 ow, .int .i64 lo, .int .i64 hi, .slice da dn dc, .int .i64 nw, .slice ea en ec]] w fun e w' => ∃ va vc ua uc, e = .returned (.tuple #[.agg #[.int .i64 ad, .int .i64 ln, .int .i64 ow, .int .i64 lo, .int .i64 hi, .slice va dn vc, .int .i64 (nw + 1), .slice ua (tickL nw es).length uc], .nilIface]) ∧ OwnB w' w.heap.size (.slice va dn vc) ds (.slice ua (tickL nw es).length uc) (tickL nw es) ∧ Below w.heap.size w w' := by
  have hb0 := bl_alloc (bl_alloc (bl_refl w) (.cells #[.int .i64 ad, .int .i64 ln, .int .i64 ow, .int .i64 lo, .int .i64 hi, .slice da dn dc, .int .i64 nw, .slice ea en ec] 26)) (.cells #[.int .i64 0, .int .i64 0, .int .i64 0, .int .i64 0, .int .i64 0, .slice none 0 0, .int .i64 0, .slice none 0 0] 26)
  have x1 := (Box.new w #[.int .i64 ad, .int .i64 ln, .int .i64 ow, .int .i64 lo, .int .i64 hi, .slice da dn dc, .int .i64 nw, .slice ea en ec] 26).below (bl_alloc (bl_refl _) (.cells #[.int .i64 0, .int .i64 0, .int .i64 0, .int .i64 0, .int .i64 0, .slice none 0 0, .int .i64 0, .slice none 0 0] 26))
  have bx := Bx.new (w.alloc (.cells #[.int .i64 ad, .int .i64 ln, .int .i64 ow, .int .i64 lo, .int .i64 hi, .slice da dn dc, .int .i64 nw, .slice ea en ec] 26)) #[.int .i64 0, .int .i64 0, .int .i64 0, .int .i64 0, .int .i64 0, .slice none 0 0, .int .i64 0, .slice none 0 0] 26
  simp only [World.size_alloc] at bx
  have H1 : Hid (Calls Tryz.prog _ _ _ _) := implBook_ret ad ln ow lo hi nw da dn dc ea en ec ds es _ (hD.below hb0) (hE.below hb0)
  have HD : Hid (∀ W, Below w.heap.size w W → DoorsAt W da dn ds) := fun W h => hD.below h
  have HE : Hid (∀ W, Below w.heap.size w W → EntriesAt W ea en es) := fun W h => hE.below h
  have hdl' : Hid (dn = ds.length) := hD.1
  have hel' : Hid (en = es.length) := hE.1
  clear hD hE
  obtain ⟨⟨n0, n1⟩, hd6, he16, hla⟩ := book_parts hk
  have HL : Hid (∀ (i : Nat) d, es[i]? = some d → 0 ≤ d.l ∧ d.l ≤ nw) := hla
  clear hla
  have hdn : dn ≤ 6 := by have := hdl'.out; omega
  have hen : en ≤ 16 := by have := hel'.out; omega
  have hq : (nw == 1000000) = false := by simpa using hmx
  have hn2 : nw < 1000000 := by omega
  clear hmx
  go_enter Tryz.func45, Tryz.ntmps45
  go_wp2_with fail
  refine H1.out.mono ?_
  rintro e w1 ⟨rfl, hb1⟩
  have hB1 := bl_trans hb0 hb1
  replace x1 := x1.below hb1
  replace bx := bx.below hb1
  clear hb0 hb1 H1
  have hl1 := bx.1.1
  have y1 := x1.2
  have hl0 := x1.1
  have H2 : Hid (Calls Tryz.prog _ _ _ _) := natCopy_ret ad ln ow lo hi nw da dn dc ea en ec ds es w1 (HD.out _ hB1) (HE.out _ hB1) (by omega) (by omega)
  go_wp2_with fail
  refine H2.out.mono ?_
  rintro e w2 ⟨va, vc, ua, uc, rfl, hO, hb2⟩
  have hB2 := bl_trans hB1 hb2
  replace bx := bx.below hb2
  have hs1 := hB1.size
  have hs2 := hb2.size
  have x4 := Bx.new w2 #[.int .i64 ad, .int .i64 ln, .int .i64 ow, .int .i64 lo, .int .i64 hi, .slice va dn vc, .int .i64 nw, .slice ua en uc] 26
  have hBl := bl_alloc (bl_refl w2) (.cells #[.int .i64 ad, .int .i64 ln, .int .i64 ow, .int .i64 lo, .int .i64 hi, .slice va dn vc, .int .i64 nw, .slice ua en uc] 26)
  have hB3 := bl_trans hB2 hBl
  replace bx := bx.below hBl
  have hOl := hO
  replace hO := hO.below hBl
  clear H2 hBl y1 hB1 hb2 x1
  go_upto_region 6 with fail
  generalize hnx : w2.heap.size = nx at *
  generalize w2.alloc (.cells #[.int .i64 ad, .int .i64 ln, .int .i64 ow, .int .i64 lo, .int .i64 hi, .slice va dn vc, .int .i64 nw, .slice ua en uc] 26) = W3 at *
  have hOd := own_mono hO.1 (show w.heap.size + 2 ≤ w1.heap.size by omega)
  have hOe := own_mono hO.2.1 (show w.heap.size + 2 ≤ w1.heap.size by omega)
  have hOx := hO.2.2
  have hld : ∀ k, (Value.slice va dn vc).ownBlock = some k → k ≠ nx := fun k hk => by have := (hOl.1.lt k hk).2; omega
  have hle : ∀ k, (Value.slice ua en uc).ownBlock = some k → k ≠ nx := fun k hk => by have := (hOl.2.1.lt k hk).2; omega
  obtain ⟨⟨q1, q2⟩, q3⟩ := id x4
  go_upto_region 7 with fail
  clear q1 q2 q3 hO hOl
  have hl4 := x4.1.1
  replace x4 : Bx _ nx #[.int .i64 ad, .int .i64 ln, .int .i64 ow, .int .i64 lo, .int .i64 hi, .slice va dn vc, .int .i64 (nw + 1), .slice ua en uc] := x4.set (j := 6) (by simp) (.int .i64 (nw + 1))
  replace bx := bx.other (m := nx) (j := 6) (by omega) (.int .i64 (nw + 1))
  replace hOd := own_ne hOd hld (j := 6) (.int .i64 (nw + 1))
  replace hOe := own_ne hOe hle (j := 6) (.int .i64 (nw + 1))
  replace hB3 := bl_set (p := ⟨nx, 6, none⟩) hB3 (by simp; omega) (.int .i64 (nw + 1))
  generalize W3.setCell ⟨nx, 6, none⟩ (.int .i64 (nw + 1)) = W4 at *
  have hnx4 := x4.1.1
  have H3 : Hid (Calls Tryz.prog _ _ _ _) := delete_own (w.heap.size + 2) nx nw ua en uc es W4 hOe hel'.out (x4.1.2 6) hnx4 hle he16 n0 n1 HL.out
  obtain ⟨⟨q1, q2⟩, q3⟩ := id x4
  go_wp2_with fail
  refine H3.out.mono ?_
  rintro e w5 ⟨rfl, hF, hown⟩
  have hob : ∀ k, (Value.slice ua (tickL nw es).length uc).ownBlock = some k → (Value.slice ua en uc).ownBlock = some k := fun k hk => by cases ua <;> exact hk
  have hrow : ∀ k, (Value.slice ua en uc).ownBlock = some k → w.heap.size + 2 ≤ k := fun k hk => (hOe.lt k hk).1
  have hB5 := hF.bl hB3 (fun k hk => by have := hrow k hk; omega)
  replace x4 := hF.bx x4 (fun e => hle nx e rfl)
  replace bx := hF.bx bx (fun e => by have := hrow _ e; omega)
  replace hOd := hF.own hOd hOx
  have hOx2 : ∀ k, (Value.slice va dn vc).ownBlock = some k → (Value.slice ua (tickL nw es).length uc).ownBlock ≠ some k := fun k h1 h2 => hOx k h1 (hob k h2)
  have hle2 : ∀ k, (Value.slice ua (tickL nw es).length uc).ownBlock = some k → k ≠ nx := fun k h => hle k (hob k h)
  clear H3 q1 q2 q3 hOe hF hB3
  obtain ⟨⟨q1, q2⟩, q3⟩ := id x4
  go_upto_region 8 with fail
  clear q1 q2 q3
  replace x4 : Bx _ nx #[.int .i64 ad, .int .i64 ln, .int .i64 ow, .int .i64 lo, .int .i64 hi, .slice va dn vc, .int .i64 (nw + 1), .slice ua (tickL nw es).length uc] := x4.set (j := 7) (by simp) (.slice ua (tickL nw es).length uc)
  replace bx := bx.other (m := nx) (j := 7) (by omega) (.slice ua (tickL nw es).length uc)
  replace hOd := own_ne hOd hld (j := 7) (.slice ua (tickL nw es).length uc)
  replace hown := own_ne hown hle2 (j := 7) (.slice ua (tickL nw es).length uc)
  replace hB5 := bl_set (p := ⟨nx, 7, none⟩) hB5 (by simp; omega) (.slice ua (tickL nw es).length uc)
  generalize w5.setCell ⟨nx, 7, none⟩ (.slice ua (tickL nw es).length uc) = W6 at *
  obtain ⟨⟨q1, q2⟩, q3⟩ := id x4
  obtain ⟨⟨p1, p2⟩, p3⟩ := id bx
  go_wp2_with fail
  have hbv := bx.set8 (.int .i64 ad) (.int .i64 ln) (.int .i64 ow) (.int .i64 lo) (.int .i64 hi) (.slice va dn vc) (.int .i64 (nw + 1)) (.slice ua (tickL nw es).length uc)
  obtain ⟨⟨t1, t2⟩, t3⟩ := id hbv
  refine bodyPost_ret (v := .tuple #[.agg #[.int .i64 ad, .int .i64 ln, .int .i64 ow, .int .i64 lo, .int .i64 hi, .slice va dn vc, .int .i64 (nw + 1), .slice ua (tickL nw es).length uc], .nilIface]) (by simp [results, Tryz.results45, go_sem, t2]) rfl ⟨va, vc, ua, uc, rfl, ⟨?_, ?_, hOx2⟩, bl_set8 hB5 (n := w.heap.size + 1) (by omega) (.int .i64 ad) (.int .i64 ln) (.int .i64 ow) (.int .i64 lo) (.int .i64 hi) (.slice va dn vc) (.int .i64 (nw + 1)) (.slice ua (tickL nw es).length uc)⟩
  · exact own_mono (own_other8 hOd (m := w.heap.size + 1) (by omega) (.int .i64 ad) (.int .i64 ln) (.int .i64 ow) (.int .i64 lo) (.int .i64 hi) (.slice va dn vc) (.int .i64 (nw + 1)) (.slice ua (tickL nw es).length uc)) (by omega)
  · exact own_mono (own_other8 hown (m := w.heap.size + 1) (by omega) (.int .i64 ad) (.int .i64 ln) (.int .i64 ow) (.int .i64 lo) (.int .i64 hi) (.slice va dn vc) (.int .i64 (nw + 1)) (.slice ua (tickL nw es).length uc)) (by omega)

set_option maxRecDepth 20000 in
set_option maxHeartbeats 4000000 in
theorem refused_one (ad ln ow lo hi nw : Int) (da : Option Addr) (dn dc : Nat) (ea : Option Addr) (en ec : Nat) (w : World) (hg : Gl w) :
    Calls Tryz.prog 46 #[.agg #[.int .i64 ad, .int .i64 ln, .int .i64 ow, .int .i64 lo, .int .i64 hi, .slice da dn dc, .int .i64 nw, .slice ea en ec], .iface 133 (.int .i64 1)] w fun e w' => e = .returned (.tuple #[.agg #[.int .i64 0, .int .i64 0, .int .i64 0, .int .i64 0, .int .i64 0, .slice none 0 0, .int .i64 0, .slice none 0 0], .int .i64 1]) ∧ Below w.heap.size w w' := by
  have hb0 := bl_alloc (bl_alloc (bl_refl w) (.cells #[.int .i64 ad, .int .i64 ln, .int .i64 ow, .int .i64 lo, .int .i64 hi, .slice da dn dc, .int .i64 nw, .slice ea en ec] 26)) (.cells #[.int .i64 0, .int .i64 0, .int .i64 0, .int .i64 0, .int .i64 0, .slice none 0 0, .int .i64 0, .slice none 0 0] 26)
  have bx := Bx.new (w.alloc (.cells #[.int .i64 ad, .int .i64 ln, .int .i64 ow, .int .i64 lo, .int .i64 hi, .slice da dn dc, .int .i64 nw, .slice ea en ec] 26)) #[.int .i64 0, .int .i64 0, .int .i64 0, .int .i64 0, .int .i64 0, .slice none 0 0, .int .i64 0, .slice none 0 0] 26
  simp only [World.size_alloc] at bx
  have H1 : Hid (Calls Tryz.prog _ _ _ _) := natCode_ret 1 _ (hg.below hb0)
  go_enter Tryz.func46, Tryz.ntmps46
  go_wp2_with fail
  refine H1.out.mono ?_
  rintro e w1 ⟨rfl, hb1⟩
  have hB1 := bl_trans hb0 hb1
  replace bx := bx.below hb1
  clear hb0 hb1 H1
  obtain ⟨⟨q1, q2⟩, q3⟩ := id bx
  go_wp2_with fail
  have hbv := bx.set8 (.int .i64 0) (.int .i64 0) (.int .i64 0) (.int .i64 0) (.int .i64 0) (.slice none 0 0) (.int .i64 0) (.slice none 0 0)
  obtain ⟨⟨t1, t2⟩, t3⟩ := id hbv
  exact bodyPost_ret (v := .tuple #[.agg #[.int .i64 0, .int .i64 0, .int .i64 0, .int .i64 0, .int .i64 0, .slice none 0 0, .int .i64 0, .slice none 0 0], .int .i64 1]) (by simp [results, Tryz.results46, go_sem, t2]) rfl ⟨rfl, bl_set8 hB1 (n := w.heap.size + 1) (by omega) (.int .i64 0) (.int .i64 0) (.int .i64 0) (.int .i64 0) (.int .i64 0) (.slice none 0 0) (.int .i64 0) (.slice none 0 0)⟩

set_option maxRecDepth 20000 in
set_option maxHeartbeats 4000000 in
theorem refused_more (ad ln ow lo hi nw : Int) (da : Option Addr) (dn dc : Nat) (ea : Option Addr) (en ec : Nat) (ds : List Dr) (es : List En) (c : Int) (w : World) (hg : Gl w) (hD : DoorsAt w da dn ds) (hE : EntriesAt w ea en es) (hdl : dn ≤ 1048576) (hel : en ≤ 1048576) (hc : (c == 1) = false) :
    Calls Tryz.prog 46 #[.agg #[.int .i64 ad, .int .i64 ln, .int .i64 ow, .int .i64 lo, .int .i64 hi, .slice da dn dc, .int .i64 nw, .slice ea en ec], .iface 133 (.int .i64 c)] w fun e w' => ∃ va vc ua uc, e = .returned (.tuple #[.agg #[.int .i64 ad, .int .i64 ln, .int .i64 ow, .int .i64 lo, .int .i64 hi, .slice va dn vc, .int .i64 nw, .slice ua en uc], .int .i64 c]) ∧ OwnB w' w.heap.size (.slice va dn vc) ds (.slice ua en uc) es ∧ Below w.heap.size w w' := by
  have hb0 := bl_alloc (bl_alloc (bl_refl w) (.cells #[.int .i64 ad, .int .i64 ln, .int .i64 ow, .int .i64 lo, .int .i64 hi, .slice da dn dc, .int .i64 nw, .slice ea en ec] 26)) (.cells #[.int .i64 0, .int .i64 0, .int .i64 0, .int .i64 0, .int .i64 0, .slice none 0 0, .int .i64 0, .slice none 0 0] 26)
  have x1 := (Box.new w #[.int .i64 ad, .int .i64 ln, .int .i64 ow, .int .i64 lo, .int .i64 hi, .slice da dn dc, .int .i64 nw, .slice ea en ec] 26).below (bl_alloc (bl_refl _) (.cells #[.int .i64 0, .int .i64 0, .int .i64 0, .int .i64 0, .int .i64 0, .slice none 0 0, .int .i64 0, .slice none 0 0] 26))
  have bx := Bx.new (w.alloc (.cells #[.int .i64 ad, .int .i64 ln, .int .i64 ow, .int .i64 lo, .int .i64 hi, .slice da dn dc, .int .i64 nw, .slice ea en ec] 26)) #[.int .i64 0, .int .i64 0, .int .i64 0, .int .i64 0, .int .i64 0, .slice none 0 0, .int .i64 0, .slice none 0 0] 26
  simp only [World.size_alloc] at bx
  have H1 : Hid (Calls Tryz.prog _ _ _ _) := natCode_ret c _ (hg.below hb0)
  have HD : Hid (∀ W, Below w.heap.size w W → DoorsAt W da dn ds) := fun W h => hD.below h
  have HE : Hid (∀ W, Below w.heap.size w W → EntriesAt W ea en es) := fun W h => hE.below h
  clear hD hE
  go_enter Tryz.func46, Tryz.ntmps46
  go_wp2_with fail
  refine H1.out.mono ?_
  rintro e w1 ⟨rfl, hb1⟩
  have hB1 := bl_trans hb0 hb1
  replace bx := bx.below hb1
  replace x1 := x1.below hb1
  clear hb0 hb1 H1
  have y1 := x1.2
  have hl0 := x1.1
  have hl1 := bx.1.1
  have H2 : Hid (Calls Tryz.prog _ _ _ _) := natCopy_ret ad ln ow lo hi nw da dn dc ea en ec ds es w1 (HD.out _ hB1) (HE.out _ hB1) hdl hel
  go_wp2_with fail
  refine H2.out.mono ?_
  rintro e w2 ⟨va, vc, ua, uc, rfl, hO, hb2⟩
  have hB2 := bl_trans hB1 hb2
  replace bx := bx.below hb2
  clear H2 hb2 y1 x1
  obtain ⟨⟨q1, q2⟩, q3⟩ := id bx
  go_wp2_with fail
  have hbv := bx.set8 (.int .i64 ad) (.int .i64 ln) (.int .i64 ow) (.int .i64 lo) (.int .i64 hi) (.slice va dn vc) (.int .i64 nw) (.slice ua en uc)
  obtain ⟨⟨t1, t2⟩, t3⟩ := id hbv
  exact bodyPost_ret (v := .tuple #[.agg #[.int .i64 ad, .int .i64 ln, .int .i64 ow, .int .i64 lo, .int .i64 hi, .slice va dn vc, .int .i64 nw, .slice ua en uc], .int .i64 c]) (by simp [results, Tryz.results46, go_sem, t2]) rfl ⟨va, vc, ua, uc, rfl, ⟨own_mono (own_other8 (own_mono hO.1 (show w.heap.size + 2 ≤ w1.heap.size by omega)) (m := w.heap.size + 1) (by omega) (.int .i64 ad) (.int .i64 ln) (.int .i64 ow) (.int .i64 lo) (.int .i64 hi) (.slice va dn vc) (.int .i64 nw) (.slice ua en uc)) (by omega), own_mono (own_other8 (own_mono hO.2.1 (show w.heap.size + 2 ≤ w1.heap.size by omega)) (m := w.heap.size + 1) (by omega) (.int .i64 ad) (.int .i64 ln) (.int .i64 ow) (.int .i64 lo) (.int .i64 hi) (.slice va dn vc) (.int .i64 nw) (.slice ua en uc)) (by omega), hO.2.2⟩, bl_set8 hB2 (n := w.heap.size + 1) (by omega) (.int .i64 ad) (.int .i64 ln) (.int .i64 ow) (.int .i64 lo) (.int .i64 hi) (.slice va dn vc) (.int .i64 nw) (.slice ua en uc)⟩
end Go.Proofs.YtcgjpmhjijmplaaGreatDoor

/- The program's NatTick at every book: the model's answer, walked. -/
namespace Go.Proofs.YtcgjpmhjijmplaaGreatDoor
open Go.ChangeShapes Go.WideShapes Go.ChangeAt Go.RowKit Go.Maps

set_option maxRecDepth 20000 in
set_option maxHeartbeats 4000000 in
theorem implTick_ret (ad ln ow lo hi nw : Int) (da : Option Addr) (dn dc : Nat) (ea : Option Addr) (en ec : Nat) (ds : List Dr) (es : List En) (w : World) (hg : Gl w) (hD : DoorsAt w da dn ds) (hE : EntriesAt w ea en es) :
    Calls Tryz.prog 11 #[.agg #[.int .i64 ad, .int .i64 ln, .int .i64 ow, .int .i64 lo, .int .i64 hi, .slice da dn dc, .int .i64 nw, .slice ea en ec]] w fun e w' => ToldB w' w.heap.size e (tickR ad ln ow lo hi nw ds es) (tickC ad ln ow lo hi nw ds es) ∧ Below w.heap.size w w' := by
  have hb0 := bl_alloc (bl_alloc (bl_refl w) (.cells #[.int .i64 ad, .int .i64 ln, .int .i64 ow, .int .i64 lo, .int .i64 hi, .slice da dn dc, .int .i64 nw, .slice ea en ec] 26)) (.cells #[.int .i64 0, .int .i64 0, .int .i64 0, .int .i64 0, .int .i64 0, .slice none 0 0, .int .i64 0, .slice none 0 0] 26)
  have x1 := (Box.new w #[.int .i64 ad, .int .i64 ln, .int .i64 ow, .int .i64 lo, .int .i64 hi, .slice da dn dc, .int .i64 nw, .slice ea en ec] 26).below (bl_alloc (bl_refl _) (.cells #[.int .i64 0, .int .i64 0, .int .i64 0, .int .i64 0, .int .i64 0, .slice none 0 0, .int .i64 0, .slice none 0 0] 26))
  have bx := Bx.new (w.alloc (.cells #[.int .i64 ad, .int .i64 ln, .int .i64 ow, .int .i64 lo, .int .i64 hi, .slice da dn dc, .int .i64 nw, .slice ea en ec] 26)) #[.int .i64 0, .int .i64 0, .int .i64 0, .int .i64 0, .int .i64 0, .slice none 0 0, .int .i64 0, .slice none 0 0] 26
  simp only [World.size_alloc] at bx
  have HD : Hid (∀ W, Below w.heap.size w W → DoorsAt W da dn ds) := fun W h => hD.below h
  have HE : Hid (∀ W, Below w.heap.size w W → EntriesAt W ea en es) := fun W h => hE.below h
  have hdl' : Hid (dn = ds.length) := hD.1
  have hel' : Hid (en = es.length) := hE.1
  clear hD hE
  by_cases hk : bookB ad ln ow lo hi nw ds es = true
  · obtain ⟨⟨n0, n1⟩, hd6, he16, -⟩ := book_parts hk
    have hdn : dn ≤ 6 := by have := hdl'.out; omega
    have hen : en ≤ 16 := by have := hel'.out; omega
    by_cases hmx : nw = 1000000
    · have hR : Hid (tickR ad ln ow lo hi nw ds es = ⟨ad, ln, ow, lo, hi, nw, ds, es⟩ ∧ tickC ad ln ow lo hi nw ds es = 2) := by constructor <;> simp only [tickR, tickC, if_pos hk, if_pos hmx]
      generalize tickR ad ln ow lo hi nw ds es = RR at *
      generalize tickC ad ln ow lo hi nw ds es = CC at *
      have H1 : Hid (Calls Tryz.prog _ _ _ _) := passTick_no ad ln ow lo hi nw da dn dc ea en ec ds es 2 _ (HD.out _ hb0) (HE.out _ hb0) (Or.inr ⟨hk, hmx, rfl⟩)
      clear hmx
      go_enter Tryz.func11, Tryz.ntmps11
      go_wp2_with fail
      refine H1.out.mono ?_
      rintro e w1 ⟨rfl, hb1⟩
      have hBl := bl_alloc (bl_refl w1) (.cells #[.int .i64 0, .int .i64 0, .int .i64 0, .int .i64 0, .int .i64 0, .slice none 0 0, .int .i64 0, .slice none 0 0] 26)
      have hB1 := bl_trans (bl_trans hb0 hb1) hBl
      replace x1 := (x1.below hb1).below hBl
      replace bx := (bx.below hb1).below hBl
      clear hb0 hb1 H1 hBl
      go_upto_region 2 with fail
      generalize w1.alloc (.cells #[.int .i64 0, .int .i64 0, .int .i64 0, .int .i64 0, .int .i64 0, .slice none 0 0, .int .i64 0, .slice none 0 0] 26) = W2 at *
      have y1 := x1.2
      have hl0 := x1.1
      have hl1 := bx.1.1
      have hs1 := hB1.size
      have H2 : Hid (Calls Tryz.prog _ _ _ _) := refused_more ad ln ow lo hi nw da dn dc ea en ec ds es 2 W2 (hg.below hB1) (HD.out _ hB1) (HE.out _ hB1) (by omega) (by omega) rfl
      go_wp2_with fail
      refine H2.out.mono ?_
      rintro e w2 ⟨va, vc, ua, uc, rfl, hO, hb2⟩
      have hB2 := bl_trans hB1 hb2
      replace bx := bx.below hb2
      clear H2 hb2 y1 x1
      obtain ⟨⟨q1, q2⟩, q3⟩ := id bx
      go_wp2_with fail
      have hbv := bx.set8 (.int .i64 ad) (.int .i64 ln) (.int .i64 ow) (.int .i64 lo) (.int .i64 hi) (.slice va dn vc) (.int .i64 nw) (.slice ua en uc)
      obtain ⟨⟨t1, t2⟩, t3⟩ := id hbv
      refine bodyPost_ret (v := .tuple #[.agg #[.int .i64 ad, .int .i64 ln, .int .i64 ow, .int .i64 lo, .int .i64 hi, .slice va dn vc, .int .i64 nw, .slice ua en uc], .int .i64 2]) (by simp [results, Tryz.results11, go_sem, t2]) rfl ⟨?_, bl_set8 hB2 (n := w.heap.size + 1) (by omega) (.int .i64 ad) (.int .i64 ln) (.int .i64 ow) (.int .i64 lo) (.int .i64 hi) (.slice va dn vc) (.int .i64 nw) (.slice ua en uc)⟩
      rw [hR.out.1, hR.out.2]
      have e1 := hdl'.out
      have e2 := hel'.out
      subst e1
      subst e2
      exact ⟨va, vc, ua, uc, rfl, ⟨own_mono (own_other8 (own_mono hO.1 (show w.heap.size + 2 ≤ W2.heap.size by omega)) (m := w.heap.size + 1) (by omega) (.int .i64 ad) (.int .i64 ln) (.int .i64 ow) (.int .i64 lo) (.int .i64 hi) (.slice va ds.length vc) (.int .i64 nw) (.slice ua es.length uc)) (by omega), own_mono (own_other8 (own_mono hO.2.1 (show w.heap.size + 2 ≤ W2.heap.size by omega)) (m := w.heap.size + 1) (by omega) (.int .i64 ad) (.int .i64 ln) (.int .i64 ow) (.int .i64 lo) (.int .i64 hi) (.slice va ds.length vc) (.int .i64 nw) (.slice ua es.length uc)) (by omega), hO.2.2⟩⟩
    · have hR : Hid (tickR ad ln ow lo hi nw ds es = ⟨ad, ln, ow, lo, hi, nw + 1, ds, tickL nw es⟩ ∧ tickC ad ln ow lo hi nw ds es = 0) := by constructor <;> simp only [tickR, tickC, if_pos hk, if_neg hmx]
      generalize tickR ad ln ow lo hi nw ds es = RR at *
      generalize tickC ad ln ow lo hi nw ds es = CC at *
      have H1 : Hid (Calls Tryz.prog _ _ _ _) := passTick_yes ad ln ow lo hi nw da dn dc ea en ec ds es _ (HD.out _ hb0) (HE.out _ hb0) hk hmx
      clear hmx
      go_enter Tryz.func11, Tryz.ntmps11
      go_wp2_with fail
      refine H1.out.mono ?_
      rintro e w1 ⟨va, vc, ua, uc, rfl, hO, hb1⟩
      have hBl := bl_alloc (bl_refl w1) (.cells #[.int .i64 ad, .int .i64 ln, .int .i64 ow, .int .i64 lo, .int .i64 hi, .slice va dn vc, .int .i64 (nw + 1), .slice ua (tickL nw es).length uc] 26)
      have hB1 := bl_trans (bl_trans hb0 hb1) hBl
      have x4 := (Bx.new w1 #[.int .i64 ad, .int .i64 ln, .int .i64 ow, .int .i64 lo, .int .i64 hi, .slice va dn vc, .int .i64 (nw + 1), .slice ua (tickL nw es).length uc] 26).1
      replace bx := (bx.below hb1).below hBl
      replace hO := hO.below hBl
      simp only [World.size_alloc] at hO
      clear hb0 hb1 H1 hBl x1
      go_upto_region 2 with fail
      generalize hnx : w1.heap.size = nx at *
      generalize w1.alloc (.cells #[.int .i64 ad, .int .i64 ln, .int .i64 ow, .int .i64 lo, .int .i64 hi, .slice va dn vc, .int .i64 (nw + 1), .slice ua (tickL nw es).length uc] 26) = W2 at *
      have y4 := x4.2
      have hl4 := x4.1
      obtain ⟨⟨q1, q2⟩, q3⟩ := id bx
      go_wp2_with fail
      have hbv := bx.set8 (.int .i64 ad) (.int .i64 ln) (.int .i64 ow) (.int .i64 lo) (.int .i64 hi) (.slice va dn vc) (.int .i64 (nw + 1)) (.slice ua (tickL nw es).length uc)
      obtain ⟨⟨t1, t2⟩, t3⟩ := id hbv
      refine bodyPost_ret (v := .tuple #[.agg #[.int .i64 ad, .int .i64 ln, .int .i64 ow, .int .i64 lo, .int .i64 hi, .slice va dn vc, .int .i64 (nw + 1), .slice ua (tickL nw es).length uc], .int .i64 0]) (by simp [results, Tryz.results11, go_sem, t2]) rfl ⟨?_, bl_set8 hB1 (n := w.heap.size + 1) (by omega) (.int .i64 ad) (.int .i64 ln) (.int .i64 ow) (.int .i64 lo) (.int .i64 hi) (.slice va dn vc) (.int .i64 (nw + 1)) (.slice ua (tickL nw es).length uc)⟩
      rw [hR.out.1, hR.out.2]
      have e1 := hdl'.out
      subst e1
      exact ⟨va, vc, ua, uc, rfl, ⟨own_mono (own_other8 hO.1 (m := w.heap.size + 1) (by omega) (.int .i64 ad) (.int .i64 ln) (.int .i64 ow) (.int .i64 lo) (.int .i64 hi) (.slice va ds.length vc) (.int .i64 (nw + 1)) (.slice ua (tickL nw es).length uc)) (by omega), own_mono (own_other8 hO.2.1 (m := w.heap.size + 1) (by omega) (.int .i64 ad) (.int .i64 ln) (.int .i64 ow) (.int .i64 lo) (.int .i64 hi) (.slice va ds.length vc) (.int .i64 (nw + 1)) (.slice ua (tickL nw es).length uc)) (by omega), hO.2.2⟩⟩
  · have hk' : bookB ad ln ow lo hi nw ds es = false := by simpa using hk
    have hR : Hid (tickR ad ln ow lo hi nw ds es = ⟨0, 0, 0, 0, 0, 0, [], []⟩ ∧ tickC ad ln ow lo hi nw ds es = 1) := by constructor <;> simp only [tickR, tickC, if_neg hk]
    generalize tickR ad ln ow lo hi nw ds es = RR at *
    generalize tickC ad ln ow lo hi nw ds es = CC at *
    have H1 : Hid (Calls Tryz.prog _ _ _ _) := passTick_no ad ln ow lo hi nw da dn dc ea en ec ds es 1 _ (HD.out _ hb0) (HE.out _ hb0) (Or.inl ⟨hk', rfl⟩)
    go_enter Tryz.func11, Tryz.ntmps11
    go_wp2_with fail
    refine H1.out.mono ?_
    rintro e w1 ⟨rfl, hb1⟩
    have hBl := bl_alloc (bl_refl w1) (.cells #[.int .i64 0, .int .i64 0, .int .i64 0, .int .i64 0, .int .i64 0, .slice none 0 0, .int .i64 0, .slice none 0 0] 26)
    have hB1 := bl_trans (bl_trans hb0 hb1) hBl
    replace x1 := (x1.below hb1).below hBl
    replace bx := (bx.below hb1).below hBl
    clear hb0 hb1 H1 hBl
    go_upto_region 2 with fail
    generalize w1.alloc (.cells #[.int .i64 0, .int .i64 0, .int .i64 0, .int .i64 0, .int .i64 0, .slice none 0 0, .int .i64 0, .slice none 0 0] 26) = W2 at *
    have y1 := x1.2
    have hl0 := x1.1
    have hl1 := bx.1.1
    have H2 : Hid (Calls Tryz.prog _ _ _ _) := refused_one ad ln ow lo hi nw da dn dc ea en ec W2 (hg.below hB1)
    go_wp2_with fail
    refine H2.out.mono ?_
    rintro e w2 ⟨rfl, hb2⟩
    have hB2 := bl_trans hB1 hb2
    replace bx := bx.below hb2
    clear H2 hb2 y1 x1
    obtain ⟨⟨q1, q2⟩, q3⟩ := id bx
    go_wp2_with fail
    have hbv := bx.set8 (.int .i64 0) (.int .i64 0) (.int .i64 0) (.int .i64 0) (.int .i64 0) (.slice none 0 0) (.int .i64 0) (.slice none 0 0)
    obtain ⟨⟨t1, t2⟩, t3⟩ := id hbv
    refine bodyPost_ret (v := .tuple #[.agg #[.int .i64 0, .int .i64 0, .int .i64 0, .int .i64 0, .int .i64 0, .slice none 0 0, .int .i64 0, .slice none 0 0], .int .i64 1]) (by simp [results, Tryz.results11, go_sem, t2]) rfl ⟨?_, bl_set8 hB2 (n := w.heap.size + 1) (by omega) (.int .i64 0) (.int .i64 0) (.int .i64 0) (.int .i64 0) (.int .i64 0) (.slice none 0 0) (.int .i64 0) (.slice none 0 0)⟩
    rw [hR.out.1, hR.out.2]
    exact ⟨none, 0, none, 0, rfl, own_nilB _ _⟩
end Go.Proofs.YtcgjpmhjijmplaaGreatDoor
