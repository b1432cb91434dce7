/- The program's natLivingApart, walked: the entries that live, gathered into a slice, and asked whether two are of one flow. -/
import Derived.Test.YtcgjpmhjijmplabGreatDoorImpl5
namespace Go.Proofs.YtcgjpmhjijmplabGreatDoor
open Go.ChangeShapes Go.WideShapes Go.ChangeAt Go.RowKit Go.Maps

theorem lives_b (ad ln ow lo hi nw : Int) (da : Option Addr) (dn dc : Nat) (ea : Option Addr) (en ec : Nat) (d : En) (w : World) (n0 : 0 ≤ nw) (n1 : nw ≤ 1000000) (q0 : 0 ≤ d.l) (q1 : d.l ≤ nw) :
    Calls Tryz.prog 115 #[.agg #[.int .i64 ad, .int .i64 ln, .int .i64 ow, .int .i64 lo, .int .i64 hi, .slice da dn dc, .int .i64 nw, .slice ea en ec], .agg #[.int .i64 d.k, .int .i64 d.pr, .int .i64 d.pp, .int .i64 d.o, .int .i64 d.i, .int .i64 d.ip, .int .i64 d.l]] w fun e w' => e = .returned (.bool (liveB nw d.l)) ∧ Below w.heap.size w w' := by
  obtain ⟨ek, epr, epp, eou, ein, eip, ela⟩ := d
  simp only at q0 q1 ⊢
  go_enter Tryz.func115, Tryz.ntmps115
  go_wp2
  go_ret
  exact ⟨rfl, bl_alloc (bl_alloc (bl_refl _) _) _⟩

def enV (d : En) : List Value := [.int .i64 d.k, .int .i64 d.pr, .int .i64 d.pp, .int .i64 d.o, .int .i64 d.i, .int .i64 d.ip, .int .i64 d.l]
def flatE : List En → List Value
  | [] => []
  | d :: L => enV d ++ flatE L
theorem flatE_append (L M : List En) : flatE (L ++ M) = flatE L ++ flatE M := by
  induction L with
  | nil => rfl
  | cons d L ih => simp [flatE, ih]
theorem flatE_at (L : List En) (i : Nat) (d : En) (h : L[i]? = some d) (j : Nat) (hj : j < 7) : (flatE L)[i * 7 + j]? = (enV d)[j]? := by
  induction L generalizing i with
  | nil => simp at h
  | cons x L ih =>
    have hl : (enV x).length = 7 := rfl
    cases i with
    | zero =>
      simp at h; subst h
      simp only [flatE, Nat.zero_mul, Nat.zero_add]
      rw [List.getElem?_append_left (by omega)]
    | succ i =>
      simp at h
      simp only [flatE]
      rw [List.getElem?_append_right (by omega), hl, show (i + 1) * 7 + j - 7 = i * 7 + j by omega]
      exact ih i h
theorem enCells_of_own {w : World} {base g n cap : Nat} {L : List En} {e : TypeId} (h : w.ownsRow base e 7 (.slice (some ⟨g, 0, none⟩) n cap) L.length (flatE L)) (hn : n = L.length) : EnCells w g 0 L := by
  subst hn
  rcases h.2 with ⟨h1, _⟩ | ⟨g', cap', cur, hv, _, hb, _, _, _, ht⟩
  · cases h1
  · simp only [Value.slice.injEq, Option.some.injEq, Addr.mk.injEq] at hv
    obtain ⟨⟨rfl, _⟩, _, rfl⟩ := hv
    intro i d hi
    have hil : i < L.length := by
      rcases Nat.lt_or_ge i L.length with h | h
      · exact h
      · rw [List.getElem?_eq_none h] at hi; cases hi
    have key : ∀ j, j < 7 → w.cell? ⟨g, 0 + i * 7 + j, none⟩ = (enV d)[j]? := by
      intro j hj
      have e1 : (cur.toList.take (L.length * 7))[i * 7 + j]? = cur.toList[i * 7 + j]? := List.getElem?_take_of_lt (by omega)
      rw [ht, flatE_at L i d hi j hj] at e1
      simp only [World.cell?, hb]
      rw [e1]; simp
    exact ⟨by simpa [enV] using key 0 (by omega), by simpa [enV] using key 1 (by omega), by simpa [enV] using key 2 (by omega), by simpa [enV] using key 3 (by omega), by simpa [enV] using key 4 (by omega), by simpa [enV] using key 5 (by omega), by simpa [enV] using key 6 (by omega)⟩
def liveL (nw : Int) (es : List En) : List En := es.filter fun d => liveB nw d.l
theorem liveL_yes {nw : Int} {es : List En} {n : Nat} {d : En} (hd : es[n]? = some d) (h : liveB nw d.l = true) : liveL nw (es.take (n + 1)) = liveL nw (es.take n) ++ [d] := by
  unfold liveL; rw [List.take_add_one, hd]; simp [h]
theorem liveL_no {nw : Int} {es : List En} {n : Nat} {d : En} (hd : es[n]? = some d) (h : liveB nw d.l = false) : liveL nw (es.take (n + 1)) = liveL nw (es.take n) := by
  unfold liveL; rw [List.take_add_one, hd]; simp [h]
theorem liveL_le (nw : Int) (es : List En) (n : Nat) : (liveL nw (es.take n)).length ≤ n := by
  unfold liveL
  exact Nat.le_trans (List.length_filter_le _ _) (by simp; omega)
theorem infoEn : (Tryz.prog.info? 55).map (fun i => (i.zero, i.size, i.bytes)) = some (some (.agg #[.int .i64 0, .int .i64 0, .int .i64 0, .int .i64 0, .int .i64 0, .int .i64 0, .int .i64 0]), 7, 56) := by kernel_rfl
theorem addr_add0 (n j : Nat) : Addr.add ⟨n, 0, none⟩ j = ⟨n, j, none⟩ := by
  unfold Addr.add; simp; intro h; exact h.symm
theorem cells7 (W : World) (C : Array Value) (t : TypeId) (j : Nat) (u : Value) (h : C.toList[j]? = some u) : (W.alloc (.cells C t)).cell? (Addr.add ⟨W.heap.size, 0, none⟩ j) = some u := by
  rw [show Addr.add ⟨W.heap.size, 0, none⟩ j = ⟨W.heap.size, j, none⟩ from addr_add0 _ _, World.cell?_alloc_new]
  simpa using h

theorem ownsRow_below {w w' : World} {base size n : Nat} {e : TypeId} {v : Value} {xs : List Value} (h : w.ownsRow base e size v n xs) (hb : Below w.heap.size w w') : w'.ownsRow base e size v n xs := by
  refine ⟨h.1, ?_⟩
  rcases h.2 with h0 | ⟨g, cap, cur, hv, hg, hh, r⟩
  · exact Or.inl h0
  · have hlt : g < w.heap.size := by
      rcases Nat.lt_or_ge g w.heap.size with h' | h'
      · exact h'
      · rw [Array.getElem?_eq_none h'] at hh; cases hh
    exact Or.inr ⟨g, cap, cur, hv, hg, (hb.block g hlt).trans hh, r⟩
theorem Box.grown {w w' : World} {n : Nat} {C : Array Value} {row : Option Nat} (h : Box w n C) (hg : w.grownBy w' row) (hr : ∀ k, row = some k → n < k) : Box w' n C :=
  ⟨Nat.lt_of_lt_of_le h.1 hg.size, fun j => (World.cell?_of_block (w := w) (a := ⟨n, j, none⟩) (hg.block n h.1 (fun e => by have := hr n e.symm; omega))).trans (h.2 j)⟩
theorem enV_one (d : En) : ∀ u ∈ enV d, u.oneCell' = true := by
  intro u hu
  simp only [enV, List.mem_cons, List.not_mem_nil, or_false] at hu
  rcases hu with rfl | rfl | rfl | rfl | rfl | rfl | rfl <;> rfl

theorem seat_nil (da : Option Addr) (dc : Nat) (w : World) (v : Value) :
    Calls Tryz.prog 110 #[.slice da 0 dc, v] w fun e w' => e = .returned (.bool true) ∧ Below w.heap.size w w' := by
  have hmm := @run_makeMap Tryz.prog
  go_enter Tryz.func110, Tryz.ntmps110
  go_wp2_with fail
  go_loopg [14] 0 (fun _ i wr => i = .int .i64 0 ∧ Below w.heap.size w wr)
  case atStart => exact ⟨rfl, bl_alloc (bl_refl _) _⟩
  case round =>
    obtain ⟨rfl, hB⟩ := hrel
    go_wp2_with fail
    go_ret
    exact ⟨rfl, hB⟩
theorem eflow_nil (da : Option Addr) (dc : Nat) (w : World) (v : Value) :
    Calls Tryz.prog 116 #[.slice da 0 dc, v] w fun e w' => e = .returned (.bool true) ∧ Below w.heap.size w w' := by
  have hmm := @run_makeMap Tryz.prog
  go_enter Tryz.func116, Tryz.ntmps116
  go_wp2_with fail
  go_loopg [14] 0 (fun _ i wr => i = .int .i64 0 ∧ Below w.heap.size w wr)
  case atStart => exact ⟨rfl, bl_alloc (bl_refl _) _⟩
  case round =>
    obtain ⟨rfl, hB⟩ := hrel
    go_wp2_with fail
    go_ret
    exact ⟨rfl, hB⟩
theorem eflow_own {w : World} {base : Nat} {v : Value} {L : List En} {e : TypeId} (h : w.ownsRow base e 7 v L.length (flatE L)) (hl : L.length ≤ 16) (hwf : ∀ (i : Nat) d, L[i]? = some d → eflowWf d) :
    Calls Tryz.prog 116 #[v, .func (.func 117) #[] #[]] w fun e w' => e = .returned (.bool (eflowB L)) ∧ Below w.heap.size w w' := by
  rcases h.2 with ⟨rfl, h0⟩ | ⟨g, cap, cur, rfl, hg, hb, r⟩
  · have : L = [] := List.eq_nil_of_length_eq_zero h0
    subst this
    have e : eflowB [] = true := by simp [eflowB, eflowUp]
    rw [e]
    exact eflow_nil none 0 w _
  · have hlt : g < w.heap.size := by
      rcases Nat.lt_or_ge g w.heap.size with h' | h'
      · exact h'
      · rw [Array.getElem?_eq_none h'] at hb; cases hb
    exact eflow_some g 0 L cap w hlt (enCells_of_own h rfl) hl hwf

set_option maxHeartbeats 4000000 in
theorem living_some (ad ln ow lo hi nw : Int) (da : Option Addr) (dn dc : Nat) (b o : Nat) (es : List En) (ec : Nat) (w : World) (n0 : 0 ≤ nw) (n1 : nw ≤ 1000000) (hlt : b < w.heap.size) (hc : EnCells w b o es) (hl : es.length ≤ 16) (hla : ∀ (i : Nat) d, es[i]? = some d → 0 ≤ d.l ∧ d.l ≤ nw) (hwf : ∀ (i : Nat) d, (liveL nw es)[i]? = some d → eflowWf d) :
    Calls Tryz.prog 93 #[.agg #[.int .i64 ad, .int .i64 ln, .int .i64 ow, .int .i64 lo, .int .i64 hi, .slice da dn dc, .int .i64 nw, .slice (some ⟨b, o, none⟩) es.length ec]] w fun e w' => e = .returned (.bool (eflowB (liveL nw es))) ∧ Below w.heap.size w w' := by
  obtain ⟨i0, hi0, hz0, hz1, hz2⟩ := info_parts infoEn
  go_enter Tryz.func93, Tryz.ntmps93
  go_wp2_with fail
  go_loopg [3, 9] es.length (fun g v i wr => ∃ n : Nat, g = es.length - n ∧ n ≤ es.length ∧ i = .int .i64 n ∧ wr.ownsRow (w.heap.size + 1) 55 7 v (liveL nw (es.take n)).length (flatE (liveL nw (es.take n))) ∧ Below w.heap.size w wr ∧ Box wr w.heap.size #[.int .i64 ad, .int .i64 ln, .int .i64 ow, .int .i64 lo, .int .i64 hi, .slice da dn dc, .int .i64 nw, .slice (some ⟨b, o, none⟩) es.length ec])
  case atStart => exact ⟨0, by omega, by omega, rfl, World.ownsRow_nil _ _ _ _, bl_alloc (bl_refl _) _, Box.new _ _ _⟩
  case round =>
    obtain ⟨n, hg, hn, rfl, hown, hB, hX⟩ := hrel
    obtain ⟨hsz, hbox⟩ := id hX
    by_cases hlt2 : n < es.length
    · obtain ⟨d, hd⟩ : ∃ d, es[n]? = some d := ⟨es[n], by simp [hlt2]⟩
      obtain ⟨c0, c1, c2, c3, c4, c5, c6⟩ := hc.below hB hlt n d hd
      obtain ⟨q0, q1⟩ := hla n d hd
      have hD : Hid (es[n]? = some d) := hd
      clear hd
      have hb2 : b < wr.heap.size := by have := hB.size; omega
      go_wp2_with fail
      refine (lives_b _ _ _ _ _ _ _ _ _ _ _ _ d _ n0 n1 q0 q1).mono ?_
      rintro e w1 ⟨rfl, hb1⟩
      have hB1 := bl_trans (bl_alloc hB _) hb1
      have hX1 := (hX.below (bl_alloc (bl_refl _) _)).below hb1
      have hY1 := (Box.new wr #[.int .i64 d.k, .int .i64 d.pr, .int .i64 d.pp, .int .i64 d.o, .int .i64 d.i, .int .i64 d.ip, .int .i64 d.l] 55).below hb1
      have hx1 := hX1.2
      have hy1 := hY1.2
      have hz1' := hb1.size
      simp only [World.size_alloc] at hz1'
      have hle := liveL_le nw es n
      have hownA := (ownsRow_below (ownsRow_below hown (bl_alloc (bl_refl _) (.cells #[.int .i64 d.k, .int .i64 d.pr, .int .i64 d.pp, .int .i64 d.o, .int .i64 d.i, .int .i64 d.ip, .int .i64 d.l] 55))) hb1)
      by_cases hv : liveB nw d.l = true
      · go_wp2_with (first
          | (at_builtin; refine wpList_append_own _ rfl _ _ 33 rfl (w.heap.size + 1) 55 i0 (.agg #[.int .i64 0, .int .i64 0, .int .i64 0, .int .i64 0, .int .i64 0, .int .i64 0, .int .i64 0]) 7 56 Tryz.underlying33 hi0 hz0 hz1 hz2 rfl (by decide) _ _ _ rfl (ownsRow_below hownA (bl_alloc (bl_refl _) _)) ⟨w1.heap.size, 0, none⟩ 1 1 (enV d) rfl rfl (fun j u h => cells7 w1 _ _ j u h) (enV_one d) (by unfold maxLen; omega) (by omega) (by simp; omega) ?_; intro v' w2 hown2 hgrow2 hnil2))
        have hz3 := hgrow2.size
        simp only [World.size_alloc] at hz3
        go_roundg (es.length - (n + 1))
        case measure => omega
        case rel =>
          refine ⟨n + 1, rfl, by omega, by go_num, ?_, (bl_alloc hB1 _).grown hgrow2 (by simp; omega) (fun k hk => by have := (hownA.lt _ hk).1; omega), (hX1.below (bl_alloc (bl_refl _) _)).grown hgrow2 (fun k hk => by have := (hownA.lt _ hk).1; omega)⟩
          rw [liveL_yes hD.out hv, flatE_append]
          simpa [flatE] using hown2
      · have hv' : liveB nw d.l = false := by simpa using hv
        go_wp2_with fail
        go_roundg (es.length - (n + 1))
        case measure => omega
        case rel =>
          refine ⟨n + 1, rfl, by omega, by go_num, ?_, hB1, hX1⟩
          rw [liveL_no hD.out hv']
          exact hownA
    · have hne : n = es.length := by omega
      subst hne
      rw [List.take_length] at hown
      have hle : (liveL nw es).length ≤ 16 := Nat.le_trans (List.length_filter_le _ _) hl
      have H : Hid (Calls Tryz.prog 116 #[u3, .func (.func 117) #[] #[]] wr fun e w' => e = .returned (.bool (eflowB (liveL nw es))) ∧ Below wr.heap.size wr w') := eflow_own hown hle hwf
      go_wp2_with fail
      refine H.out.mono ?_
      rintro e w1 ⟨rfl, hb1⟩
      go_wp2
      go_ret
      exact ⟨rfl, bl_trans hB hb1⟩

theorem living_nil (ad ln ow lo hi nw : Int) (da : Option Addr) (dn dc : Nat) (ea : Option Addr) (ec : Nat) (w : World) :
    Calls Tryz.prog 93 #[.agg #[.int .i64 ad, .int .i64 ln, .int .i64 ow, .int .i64 lo, .int .i64 hi, .slice da dn dc, .int .i64 nw, .slice ea 0 ec]] w fun e w' => e = .returned (.bool true) ∧ Below w.heap.size w w' := by
  go_enter Tryz.func93, Tryz.ntmps93
  go_wp2_with fail
  go_loopg [3, 9] 0 (fun _ v i wr => v = .slice none 0 0 ∧ i = .int .i64 0 ∧ Below w.heap.size w wr)
  case atStart => exact ⟨rfl, rfl, bl_alloc (bl_refl _) _⟩
  case round =>
    obtain ⟨rfl, rfl, hB⟩ := hrel
    go_wp2_with fail
    refine (eflow_nil _ _ _ _).mono ?_
    rintro e w1 ⟨rfl, hb1⟩
    go_wp2
    go_ret
    exact ⟨rfl, bl_trans hB hb1⟩

theorem livingApart_ret (ad ln ow lo hi nw : Int) (da : Option Addr) (dn dc : Nat) (ea : Option Addr) (en ec : Nat) (es : List En) (w : World) (n0 : 0 ≤ nw) (n1 : nw ≤ 1000000) (h : EntriesAt w ea en es) (hl : es.length ≤ 16) (hla : ∀ (i : Nat) d, es[i]? = some d → 0 ≤ d.l ∧ d.l ≤ nw) (hwf : ∀ (i : Nat) d, (liveL nw es)[i]? = some d → eflowWf d) :
    Calls Tryz.prog 93 #[.agg #[.int .i64 ad, .int .i64 ln, .int .i64 ow, .int .i64 lo, .int .i64 hi, .slice da dn dc, .int .i64 nw, .slice ea en ec]] w fun e w' => e = .returned (.bool (eflowB (liveL nw es))) ∧ Below w.heap.size w w' := by
  obtain ⟨rfl, h⟩ := h
  rcases h with rfl | ⟨b, o, rfl, hlt, hc⟩
  · have e : eflowB (liveL nw []) = true := by simp [eflowB, eflowUp, liveL]
    rw [e]
    exact living_nil ad ln ow lo hi nw da dn dc ea ec w
  · exact living_some ad ln ow lo hi nw da dn dc b o es ec w n0 n1 hlt hc hl hla hwf

theorem doorsApart_ret (ad ln ow lo hi nw : Int) (da : Option Addr) (dn dc : Nat) (ea : Option Addr) (en ec : Nat) (ds : List Dr) (w : World) (h : DoorsAt w da dn ds) (hl : ds.length ≤ 6) (hwf : ∀ (i : Nat) d, ds[i]? = some d → seatWf d) :
    Calls Tryz.prog 90 #[.agg #[.int .i64 ad, .int .i64 ln, .int .i64 ow, .int .i64 lo, .int .i64 hi, .slice da dn dc, .int .i64 nw, .slice ea en ec]] w fun e w' => e = .returned (.bool (seatB ds)) ∧ Below w.heap.size w w' := by
  have hb := bl_alloc (bl_refl w) (.cells #[.int .i64 ad, .int .i64 ln, .int .i64 ow, .int .i64 lo, .int .i64 hi, .slice da dn dc, .int .i64 nw, .slice ea en ec] 35)
  have H : Hid (Calls Tryz.prog 110 #[.slice da dn dc, .func (.func 111) #[] #[]] (w.alloc (.cells #[.int .i64 ad, .int .i64 ln, .int .i64 ow, .int .i64 lo, .int .i64 hi, .slice da dn dc, .int .i64 nw, .slice ea en ec] 35)) fun e w' => e = .returned (.bool (seatB ds)) ∧ Below (w.alloc (.cells #[.int .i64 ad, .int .i64 ln, .int .i64 ow, .int .i64 lo, .int .i64 hi, .slice da dn dc, .int .i64 nw, .slice ea en ec] 35)).heap.size (w.alloc (.cells #[.int .i64 ad, .int .i64 ln, .int .i64 ow, .int .i64 lo, .int .i64 hi, .slice da dn dc, .int .i64 nw, .slice ea en ec] 35)) w') := by
    obtain ⟨rfl, h⟩ := h.below hb
    rcases h with h | ⟨b, o, rfl, hlt, hc⟩
    · subst h
      have e : seatB [] = true := by simp [seatB, seatUp]
      rw [e]
      exact seat_nil da dc _ _
    · exact seat_some b o ds dc _ hlt hc hl hwf
  clear h
  go_enter Tryz.func90, Tryz.ntmps90
  go_wp2_with fail
  refine H.out.mono ?_
  rintro e w1 ⟨rfl, hb1⟩
  go_wp2
  go_ret
  exact ⟨rfl, bl_trans hb hb1⟩

theorem entriesOrdered_ret (ad ln ow lo hi nw : Int) (da : Option Addr) (dn dc : Nat) (ea : Option Addr) (en ec : Nat) (es : List En) (w : World) (h : EntriesAt w ea en es) (hl : es.length ≤ 16) :
    Calls Tryz.prog 92 #[.agg #[.int .i64 ad, .int .i64 ln, .int .i64 ow, .int .i64 lo, .int .i64 hi, .slice da dn dc, .int .i64 nw, .slice ea en ec]] w fun e w' => e = .returned (.bool (enOrdB es)) ∧ Below w.heap.size w w' := by
  have hb := bl_alloc (bl_refl w) (.cells #[.int .i64 ad, .int .i64 ln, .int .i64 ow, .int .i64 lo, .int .i64 hi, .slice da dn dc, .int .i64 nw, .slice ea en ec] 35)
  have H : Hid (Calls Tryz.prog 113 #[.slice ea en ec, .func (.func 114) #[] #[]] (w.alloc (.cells #[.int .i64 ad, .int .i64 ln, .int .i64 ow, .int .i64 lo, .int .i64 hi, .slice da dn dc, .int .i64 nw, .slice ea en ec] 35)) fun e w' => e = .returned (.bool (enOrdB es)) ∧ Below (w.alloc (.cells #[.int .i64 ad, .int .i64 ln, .int .i64 ow, .int .i64 lo, .int .i64 hi, .slice da dn dc, .int .i64 nw, .slice ea en ec] 35)).heap.size (w.alloc (.cells #[.int .i64 ad, .int .i64 ln, .int .i64 ow, .int .i64 lo, .int .i64 hi, .slice da dn dc, .int .i64 nw, .slice ea en ec] 35)) w') := by
    obtain ⟨rfl, h⟩ := h.below hb
    rcases h with h | ⟨b, o, rfl, hlt, hc⟩
    · subst h
      have e : enOrdB [] = true := by simp [enOrdB, EnOrd]
      rw [e]
      exact neighE_nil ea ec _ _
    · exact neighE_some b o es ec _ hlt hc hl
  clear h
  go_enter Tryz.func92, Tryz.ntmps92
  go_wp2_with fail
  refine H.out.mono ?_
  rintro e w1 ⟨rfl, hb1⟩
  go_wp2
  go_ret
  exact ⟨rfl, bl_trans hb hb1⟩

theorem entriesOk_ret (ad ln ow lo hi nw : Int) (da : Option Addr) (dn dc : Nat) (ea : Option Addr) (en ec : Nat) (es : List En) (w : World) (l0 : 0 ≤ ln) (l1 : ln ≤ 16) (a0 : 0 ≤ ad) (a1 : ad ≤ 65535) (n0 : 0 ≤ nw) (n1 : nw ≤ 1000000) (h : EntriesAt w ea en es) :
    Calls Tryz.prog 91 #[.agg #[.int .i64 ad, .int .i64 ln, .int .i64 ow, .int .i64 lo, .int .i64 hi, .slice da dn dc, .int .i64 nw, .slice ea en ec]] w fun e w' => e = .returned (.bool (enAllB ad ln ow lo hi nw es)) ∧ Below w.heap.size w w' := by
  obtain ⟨rfl, h⟩ := h
  by_cases hl : es.length ≤ 16
  · rcases h with rfl | ⟨b, o, rfl, hlt, hc⟩
    · have e : enAllB ad ln ow lo hi nw [] = true := by simp [enAllB, EnAll]
      rw [e]
      go_enter Tryz.func91, Tryz.ntmps91
      go_wp2_with fail
      go_loopg [12] 0 (fun _ i wr => i = .int .i64 0 ∧ Below w.heap.size w wr)
      case atStart => exact ⟨rfl, bl_alloc (bl_refl _) _⟩
      case round =>
        obtain ⟨rfl, hB⟩ := hrel
        go_wp2_with fail
        go_ret
        exact ⟨rfl, hB⟩
    · exact entriesOk_some ad ln ow lo hi nw da dn dc b o es ec w l0 l1 a0 a1 n0 n1 hlt hc hl
  · have e : enAllB ad ln ow lo hi nw es = false := by simp [enAllB, hl]
    rw [e]
    have hl' : (16 : Int) < (es.length : Int) := by omega
    go_enter Tryz.func91, Tryz.ntmps91
    go_wp2
    go_ret
    exact ⟨rfl, bl_alloc (bl_refl _) _⟩
end Go.Proofs.YtcgjpmhjijmplabGreatDoor
