/- The program's natApart (a map keyed by a struct), walked. -/
import Derived.Test.YtcgjpmhjijmplabGreatDoorImpl3
import Derived.Maps.OwnSet
namespace Go.Proofs.YtcgjpmhjijmplabGreatDoor
open Go.ChangeShapes Go.WideShapes Go.ChangeAt Go.RowKit Go.Maps

theorem laidOut2 : laidOutB Tryz.prog = true := by kernel_rfl
theorem intCells : Tryz.prog.cellsOf 3 = 1 := by kernel_rfl
theorem zeroInt (w : World) : (zeroValue 3).run Tryz.prog w = .ok (.int .i64 0) w := by kernel_rfl
theorem lits_int (d : Nat) (a : Int) (wa : (Lit.int .i64 a).wf = true) : Tryz.prog.keyLits (d + 1) 3 [.int .i64 a] = some [.int .i64 a] := by
  unfold Program.keyLits
  simp [Tryz.underlying3, wa]
theorem isMap_put {D : DataW Unit} (h : IsMap D) (k : Lit) (v : DataW Unit) : IsMap (D.put k v) := by
  obtain ⟨es, rfl⟩ := h
  exact ⟨_, rfl⟩
theorem ownsMap_below {H : Type} {P : Program} {k : TypeId} {R : Value → Option (DataW H × List MemPlace)} {w w' : World} {b n : Nat} {D : DataW H} (h : w.ownsMap P k R b n D) (hb : Below w.heap.size w w') (hlt : b < w.heap.size) : w'.ownsMap P k R b n D := by
  obtain ⟨es, clock, h1, h2⟩ := h
  exact ⟨es, clock, (hb.block b hlt).trans h1, h2⟩
theorem seat_ret (d : Dr) (w : World) : Calls Tryz.prog 111 #[.agg #[.int .i64 d.k, .int .i64 d.o, .int .i64 d.i, .int .i64 d.p]] w fun e w' => e = .returned (.agg #[.int .i64 d.k, .int .i64 d.i, .int .i64 d.p]) ∧ Below w.heap.size w w' := by
  go_enter Tryz.func111, Tryz.ntmps111
  go_wp2
  exact bodyPost_ret (v := .agg #[.int .i64 d.k, .int .i64 d.i, .int .i64 d.p]) (by simp [results, Tryz.results111, go_sem]) rfl ⟨rfl, bl_alloc (bl_alloc (bl_refl _) _) _⟩

theorem seatKeyed : Keyed Tryz.prog 60 := Keyed.of_law (deep_law_laid laidOut2 (m := 3) (by omega) (of_decide_eq_true (by kernel_rfl)) (by kernel_rfl) (by kernel_rfl))
theorem seatKT : Tryz.prog.keyType 60 = true := by kernel_rfl
theorem seatCells : Tryz.prog.cellsOf 60 = 3 := by kernel_rfl
theorem seat_key (a b c : Int) (wa : (Lit.int .i64 a).wf = true) (wb : (Lit.int .i64 b).wf = true) (wc : (Lit.int .i64 c).wf = true) :
    keyOf Tryz.prog 60 (.agg #[.int .i64 a, .int .i64 b, .int .i64 c]) = some (.string (keyBytes [.int .i64 a, .int .i64 b, .int .i64 c])) := by
  have hp : 1 ≤ Tryz.prog.types.size := of_decide_eq_true (by kernel_rfl)
  obtain ⟨z, hz⟩ : ∃ z, Tryz.prog.types.size + 1 = z + 1 + 1 := ⟨Tryz.prog.types.size - 1, by omega⟩
  have h : Tryz.prog.keyLits (z + 1 + 1) 60 [.int .i64 a, .int .i64 b, .int .i64 c] = some [.int .i64 a, .int .i64 b, .int .i64 c] := by
    have h1 := fun a wa => lits_int z a wa
    unfold Program.keyLits
    simp only [Tryz.underlying60, seatCells]
    generalize Tryz.prog.keyLits (z + 1) = F at h1
    simp [intCells, h1, wa, wb, wc]
  simp only [keyOf, Tryz.underlying60, seatKT, Value.formed, seatCells, hz]
  simp [Value.cells, h]
def seatLit (d : Dr) : Lit := .string (keyBytes [.int .i64 d.k, .int .i64 d.i, .int .i64 d.p])
def seatWf (d : Dr) : Prop := (Lit.int .i64 d.k).wf = true ∧ (Lit.int .i64 d.i).wf = true ∧ (Lit.int .i64 d.p).wf = true
def seatSame (e d : Dr) : Prop := e.k = d.k ∧ e.i = d.i ∧ e.p = d.p
theorem seat_at {d : Dr} (h : seatWf d) : keyOf Tryz.prog 60 (.agg #[.int .i64 d.k, .int .i64 d.i, .int .i64 d.p]) = some (seatLit d) := by
  obtain ⟨h0, h1, h2⟩ := h
  exact seat_key d.k d.i d.p h0 h1 h2
theorem seat_lit {e d : Dr} (he : seatWf e) (hd : seatWf d) : seatLit e = seatLit d ↔ seatSame e d := by
  constructor
  · intro h
    have := seatKeyed.inj (seat_at he) (h ▸ seat_at hd)
    simpa [seatSame] using this
  · rintro ⟨h0, h1, h2⟩
    unfold seatLit
    rw [h0, h1, h2]
/-- What the map holds behind n rounds: just the keys of the first n. -/
def seatHas (D : DataW Unit) (ds : List Dr) (n : Nat) : Prop := IsMap D ∧ ∀ d, seatWf d → (Maps.has D (seatLit d) = true ↔ ∃ j e, j < n ∧ ds[j]? = some e ∧ seatSame e d)
def seatUp (ds : List Dr) (n : Nat) : Prop := ∀ i d, i < n → ds[i]? = some d → ∀ j e, j < i → ds[j]? = some e → ¬ seatSame e d
open Classical in
noncomputable def seatB (ds : List Dr) : Bool := decide (seatUp ds ds.length)
theorem seat_put {D : DataW Unit} {ds : List Dr} {n : Nat} {d : Dr} (hwf : ∀ (i : Nat) d, ds[i]? = some d → seatWf d) (h : seatHas D ds n) (hd : ds[n]? = some d) (v : DataW Unit) : seatHas (D.put (seatLit d) v) ds (n + 1) := by
  have hk : WideAt.IsKeyLit (seatLit d) := seatKeyed.key (seat_at (hwf n d hd))
  refine ⟨isMap_put h.1 _ _, fun f hf => ?_⟩
  by_cases e : seatLit f = seatLit d
  · rw [e, has_put_same h.1 hk]
    simp only [true_iff]
    exact ⟨n, d, by omega, hd, (seat_lit (hwf n d hd) hf).1 e.symm⟩
  · rw [has_put_other e, h.2 f hf]
    constructor
    · rintro ⟨j, x, hj, hx, hs⟩; exact ⟨j, x, by omega, hx, hs⟩
    · rintro ⟨j, x, hj, hx, hs⟩
      refine ⟨j, x, ?_, hx, hs⟩
      rcases Nat.lt_or_ge j n with h' | h'
      · exact h'
      · have : j = n := by omega
        subst this
        rw [some_one hx hd] at hs
        exact absurd ((seat_lit (hwf _ _ hd) hf).2 hs).symm e

set_option maxHeartbeats 4000000 in
set_option maxRecDepth 100000 in
theorem seat_some (b o : Nat) (ds : List Dr) (dc : Nat) (w : World) (hlt : b < w.heap.size) (hc : DrCells w b o ds) (hl : ds.length ≤ 6) (hwf : ∀ (i : Nat) d, ds[i]? = some d → seatWf d) :
    Calls Tryz.prog 110 #[.slice (some ⟨b, o, none⟩) ds.length dc, .func (.func 111) #[] #[]] w fun e w' => e = .returned (.bool (seatB ds)) ∧ Below w.heap.size w w' := by
  have hmm := @run_makeMap Tryz.prog
  go_enter Tryz.func110, Tryz.ntmps110
  go_wp2_with fail
  go_loopg [14] ds.length (fun g i wr => ∃ (n : Nat) (D : DataW Unit), g = ds.length - n ∧ n ≤ ds.length ∧ i = .int .i64 n ∧ wr.ownsMap Tryz.prog 60 (plainElem Tryz.prog 3) w.heap.size n D ∧ seatHas D ds n ∧ seatUp ds n ∧ Below w.heap.size w wr ∧ w.heap.size < wr.heap.size)
  case atStart => exact ⟨0, .map [], by omega, by omega, rfl, World.ownsMap_made _ _ _ _, ⟨isMap_empty, fun d _ => by simp [Maps.has]⟩, fun _ _ h => absurd h (by omega), bl_alloc (bl_refl _) _, by simp⟩
  case round =>
    obtain ⟨n, D, hg, hn, rfl, hown, hhas', hup', hB, hsz⟩ := hrel
    have hHas : Hid (seatHas D ds n) := hhas'
    have hUp : Hid (seatUp ds n) := hup'
    clear hhas' hup'
    by_cases hlt2 : n < ds.length
    · obtain ⟨d, hd'⟩ : ∃ d, ds[n]? = some d := ⟨ds[n], by simp [hlt2]⟩
      obtain ⟨c0, c1, c2, c3⟩ := hc.below hB hlt n d hd'
      have hD : Hid (ds[n]? = some d) := hd'
      have hkey : Hid (keyOf Tryz.prog 60 (.agg #[.int .i64 d.k, .int .i64 d.i, .int .i64 d.p]) = some (seatLit d)) := seat_at (hwf n d hd')
      have hwd : Hid (seatWf d) := hwf n d hd'
      clear hd'
      have hb2 : b < wr.heap.size := by have := hB.size; omega
      go_wp2_with fail
      refine (seat_ret d _).mono ?_
      rintro e w1 ⟨rfl, hb1⟩
      have hB1 := bl_trans (bl_alloc hB _) hb1
      have hown1 := ownsMap_below (hown.alloc _) hb1 (by simp; omega)
      have hz1 := hb1.size
      simp only [World.size_alloc] at hz1
      have hsz1 : w.heap.size < w1.heap.size := by omega
      by_cases hh : Maps.has D (seatLit d) = true
      · go_wp2_with (first
          | (at_lookup; refine wpList_lookup_own_ok_int _ rfl _ _ 168 rfl 60 3 .i64 seatKeyed Tryz.underlying168 Tryz.underlying3 (zeroInt _) w.heap.size n D rfl (hown1.alloc _) _ _ rfl hkey.out ?_; intro c hat hwc))
        go_ret
        refine ⟨ret_bool ?_, bl_alloc hB1 _⟩
        symm
        simp only [seatB, decide_eq_false_iff_not]
        intro hall
        obtain ⟨j, e, hj, he, hs⟩ := (hHas.out.2 d hwd.out).1 hh
        exact hall n d hlt2 hD.out j e hj he hs
      · have hh' : Maps.has D (seatLit d) = false := by simpa using hh
        go_wp2_with (first
          | (at_lookup; refine wpList_lookup_own_ok_int _ rfl _ _ 168 rfl 60 3 .i64 seatKeyed Tryz.underlying168 Tryz.underlying3 (zeroInt _) w.heap.size n D rfl (hown1.alloc _) _ _ rfl hkey.out ?_; intro c hat hwc)
          | (at_mapUpdate; refine wpList_mapUpdate_own _ rfl _ _ _ 168 rfl 60 3 seatKeyed Tryz.underlying168 _ w.heap.size n D rfl (hown1.alloc _) (by unfold maxLen; omega) _ _ _ rfl rfl hkey.out _ [] (plainElem_int Tryz.underlying3 (WalkArith.wf_i64 (by omega))) ?_; intro w2 hown2 hgrow2))
        have hz2 := hgrow2.size
        simp only [World.size_alloc] at hz2
        go_roundg (ds.length - (n + 1))
        case measure => omega
        case rel =>
          refine ⟨n + 1, _, rfl, by omega, by go_num, hown2, seat_put hwf hHas.out hD.out _, ?_, (bl_alloc hB1 _).grown hgrow2 (by simp; omega) (fun k hk => by cases hk; exact Nat.le_refl _), by omega⟩
          intro j x hj hx
          by_cases hjm : j < n
          · exact hUp.out j x hjm hx
          · have hjm' : j = n := by omega
            subst hjm'
            rw [some_one hx hD.out]
            intro i y hi hy hs
            exact hh ((hHas.out.2 d hwd.out).2 ⟨i, y, hi, hy, hs⟩)
    · go_wp2_with fail
      go_ret
      refine ⟨ret_bool ?_, hB⟩
      symm
      simp only [seatB, decide_eq_true_eq]
      have : n = ds.length := by omega
      exact this ▸ hUp.out
end Go.Proofs.YtcgjpmhjijmplabGreatDoor
