/- The program's natUsed, natSend and NatOut, walked. -/
import Derived.Test.YtcgjpmhjijmplaaGreatDoorGo5
import Derived.Test.YtcgjpmhjijmplaaGreatDoorJoinG
import Derived.Test.YtcgjpmhjijmplaaGreatDoorJoinD
namespace Go.Proofs.YtcgjpmhjijmplaaGreatDoor
open Go.ChangeShapes Go.WideShapes Go.ChangeAt Go.RowKit Go.Maps

theorem less_again (y e : En) (nw : Int) : lessE y (again nw e) = lessE y e := rfl
/-- Laid in at the key of one that stands: that one, once more. -/
theorem put_held {es : List En} {n i : Nat} {e : En} {nw : Int} {f : Bool} (hs : es.Pairwise (fun e d => lessE e d = true)) (he : es[n]? = some e) (hsa : SearchAt es (again nw e) i) (hf : f = true ↔ ∃ y, es[i]? = some y ∧ sameK y (again nw e)) : putL es (again nw e) i f = es.modify n (again nw) := by
  have hin : i = n := by
    rcases Nat.lt_trichotomy i n with h | h | h
    · have hl := get_lt he
      have h1 : es[i]? = some (es[i]'(by omega)) := by simp
      have h2 := pw_get hs h h1 he
      have h3 := hsa.2.2 i _ (Nat.le_refl _) h1
      rw [less_again, h2] at h3
      cases h3
    · exact h
    · have h2 := hsa.2.1 n e h he
      rw [less_again] at h2
      have h3 := lessE_no h2
      rw [h2] at h3
      cases h3
  subst hin
  have hf1 : f = true := hf.2 ⟨e, he, rfl, rfl, rfl, rfl⟩
  subst hf1
  show es.set i (again nw e) = es.modify i (again nw)
  apply List.ext_getElem?
  intro j
  rw [List.getElem?_set, List.getElem?_modify]
  by_cases hj : i = j
  · subst hj
    have hl := get_lt he
    have h1 : es[i] = e := by simpa [hl] using he
    simp [hl, h1]
  · simp [hj]
/-- Laid in where none has the key. -/
theorem put_new {es : List En} {i : Nat} {d : En} {f : Bool} (hn : ∀ y ∈ es, ¬ sameK y d) (hsa : SearchAt es d i) (hf : f = true ↔ ∃ y, es[i]? = some y ∧ sameK y d) : putL es d i f = putE es d := by
  have hf0 : f = false := by
    cases f with
    | false => rfl
    | true => obtain ⟨y, hy, hk⟩ := hf.1 rfl; exact absurd hk (hn y (List.mem_of_getElem? hy))
  subst hf0
  show insL es i d = _
  rw [putE_at hsa.1 hsa.2.1 (fun y hy => hsa.2.2 i y (Nat.le_refl _) hy)]
  simp [insL]
theorem free_new {es : List En} {k a ap b bp lo hi p nw : Int} (h : freeP es k b bp lo hi = some p) : ∀ y ∈ es, ¬ sameK y ⟨k, b, bp, p, a, ap, nw⟩ := by
  intro y hy hs
  simp only [freeP, Option.map_eq_some_iff] at h
  obtain ⟨i, h1, h2⟩ := h
  have h3 := List.find?_some h1
  rw [h2] at h3
  have h4 : es.any (takenE k b bp p) = false := by simpa using h3
  rw [List.any_eq_false] at h4
  refine h4 y hy ?_
  obtain ⟨a1, a2, a3, a4⟩ := hs
  simp only at a1 a2 a3 a4
  simp [takenE, a1, a2, a3, a4]
/-- What natSend tells: of what passes the book behind and the port, else the code. -/
def SentO (w : World) (base : Nat) (e : Ending) (O : Out) : Prop :=
  (O.c ≠ 0 ∧ e = .returned (.tuple #[.agg #[.int .i64 0, .int .i64 0, .int .i64 0, .int .i64 0, .int .i64 0, .slice none 0 0, .int .i64 0, .slice none 0 0], .int .i64 0, .iface 133 (.int .i64 O.c)])) ∨
  (O.c = 0 ∧ ∃ va vc ua uc, e = .returned (.tuple #[.agg #[.int .i64 O.R.ad, .int .i64 O.R.ln, .int .i64 O.R.ow, .int .i64 O.R.lo, .int .i64 O.R.hi, .slice va O.R.ds.length vc, .int .i64 O.R.nw, .slice ua O.R.es.length uc], .int .i64 O.F.ap, .nilIface]) ∧ OwnB w base (.slice va O.R.ds.length vc) O.R.ds (.slice ua O.R.es.length uc) O.R.es)
/-- The forms of what is told. -/
theorem out_forms (B : Bk) (k a ap b bp : Int) :
    ((outM B k a ap b bp).c = 0 ∧ (outM B k a ap b bp).F = ⟨k, B.ow, (outM B k a ap b bp).F.ap, b, bp⟩) ∨
    ((outM B k a ap b bp).c = 1 ∧ outM B k a ap b bp = ⟨⟨0, 0, 0, 0, 0, 0, [], []⟩, zeroF, 1⟩) ∨
    ((outM B k a ap b bp).c ≠ 0 ∧ ((outM B k a ap b bp).c == 1) = false ∧ outM B k a ap b bp = ⟨B, zeroF, (outM B k a ap b bp).c⟩ ∧ bookB B.ad B.ln B.ow B.lo B.hi B.nw B.ds B.es = true) := by
  unfold outM
  by_cases h1 : bookB B.ad B.ln B.ow B.lo B.hi B.nw B.ds B.es = true
  · rw [if_pos h1]
    by_cases h2 : flowB k a ap b bp = true
    · rw [if_pos h2]
      by_cases h3 : goesB B.ad B.ln B.ow a b = true
      · rw [if_pos h3]
        split
        · exact Or.inl ⟨rfl, rfl⟩
        · split
          · exact Or.inl ⟨rfl, rfl⟩
          · split
            · exact Or.inr (Or.inr ⟨by simp, by simp, rfl, h1⟩)
            · split
              · exact Or.inl ⟨rfl, rfl⟩
              · exact Or.inr (Or.inr ⟨by simp, by simp, rfl, h1⟩)
      · rw [if_neg h3]; exact Or.inr (Or.inr ⟨by simp, by simp, rfl, h1⟩)
    · rw [if_neg h2]; exact Or.inr (Or.inr ⟨by simp, by simp, rfl, h1⟩)
  · rw [if_neg h1]; exact Or.inr (Or.inl ⟨rfl, rfl⟩)

theorem run_isEntry (d : En) (w : World) : (Instr.typeAssert (.iface 52 (.agg #[.int .i64 d.k, .int .i64 d.pr, .int .i64 d.pp, .int .i64 d.o, .int .i64 d.i, .int .i64 d.ip, .int .i64 d.l])) 140 52 true).run Tryz.prog w = .ok (.tuple #[.agg #[.int .i64 d.k, .int .i64 d.pr, .int .i64 d.pp, .int .i64 d.o, .int .i64 d.i, .int .i64 d.ip, .int .i64 d.l], .bool true]) w := by kernel_rfl
theorem run_noEntry (d : Dr) (w : World) : (Instr.typeAssert (.iface 85 (.agg #[.int .i64 d.k, .int .i64 d.o, .int .i64 d.i, .int .i64 d.p])) 140 52 true).run Tryz.prog w = .ok (.tuple #[.agg #[.int .i64 0, .int .i64 0, .int .i64 0, .int .i64 0, .int .i64 0, .int .i64 0, .int .i64 0], .bool false]) w := by kernel_rfl
theorem doorPort_ret (d : Dr) (w : World) : Calls Tryz.prog 216 #[.agg #[.int .i64 d.k, .int .i64 d.o, .int .i64 d.i, .int .i64 d.p]] w fun e w' => e = .returned (.int .i64 d.o) ∧ Below w.heap.size w w' := by
  go_enter Tryz.func216, Tryz.ntmps216
  go_wp2
  go_ret
  exact ⟨rfl, bl_alloc (bl_refl _) _⟩
theorem entryPort_ret (d : En) (w : World) : Calls Tryz.prog 212 #[.agg #[.int .i64 d.k, .int .i64 d.pr, .int .i64 d.pp, .int .i64 d.o, .int .i64 d.i, .int .i64 d.ip, .int .i64 d.l]] w fun e w' => e = .returned (.int .i64 d.o) ∧ Below w.heap.size w w' := by
  go_enter Tryz.func212, Tryz.ntmps212
  go_wp2
  go_ret
  exact ⟨rfl, bl_alloc (bl_refl _) _⟩
theorem methSendsD (v : Value) (w : World) : (Go.method 363 85 v "loop.example/ternnat/impl.sends").run Tryz.prog w = .ok (217, v) w := by kernel_rfl
theorem methSendsE (v : Value) (w : World) : (Go.method 363 52 v "loop.example/ternnat/impl.sends").run Tryz.prog w = .ok (214, v) w := by kernel_rfl
theorem methPortD (v : Value) (w : World) : (Go.method 363 85 v "loop.example/ternnat/impl.port").run Tryz.prog w = .ok (216, v) w := by kernel_rfl
theorem methPortE (v : Value) (w : World) : (Go.method 363 52 v "loop.example/ternnat/impl.port").run Tryz.prog w = .ok (212, v) w := by kernel_rfl

set_option maxRecDepth 20000 in
set_option maxHeartbeats 4000000 in
theorem used_entry (ad ln ow lo hi nw : Int) (da : Option Addr) (dn dc : Nat) (ea : Option Addr) (en ec : Nat) (d : En) (n : Nat) (ds : List Dr) (es : List En) (w : World) (hD : DoorsAt w da dn ds) (hE : EntriesAt w ea en es) (hdn : dn ≤ 6) (hen : en ≤ 16) (hs : es.Pairwise (fun e d => lessE e d = true)) (hd : es[n]? = some d) :
    Calls Tryz.prog 99 #[.agg #[.int .i64 ad, .int .i64 ln, .int .i64 ow, .int .i64 lo, .int .i64 hi, .slice da dn dc, .int .i64 nw, .slice ea en ec], .iface 52 (.agg #[.int .i64 d.k, .int .i64 d.pr, .int .i64 d.pp, .int .i64 d.o, .int .i64 d.i, .int .i64 d.ip, .int .i64 d.l])] w fun e w' => ∃ va vc ua uc, e = .returned (.agg #[.int .i64 ad, .int .i64 ln, .int .i64 ow, .int .i64 lo, .int .i64 hi, .slice va dn vc, .int .i64 nw, .slice ua (es.modify n (again nw)).length uc]) ∧ OwnB w' w.heap.size (.slice va dn vc) ds (.slice ua (es.modify n (again nw)).length uc) (es.modify n (again nw)) ∧ Below w.heap.size w w' := by
  have hb0 := bl_alloc (bl_alloc (bl_alloc (bl_refl w) (.cells #[.int .i64 ad, .int .i64 ln, .int .i64 ow, .int .i64 lo, .int .i64 hi, .slice da dn dc, .int .i64 nw, .slice ea en ec] 26)) (.cells #[.int .i64 0, .int .i64 0, .int .i64 0, .int .i64 0, .int .i64 0, .slice none 0 0, .int .i64 0, .slice none 0 0] 26)) (.cells #[.int .i64 d.k, .int .i64 d.pr, .int .i64 d.pp, .int .i64 d.o, .int .i64 d.i, .int .i64 d.ip, .int .i64 d.l] 52)
  have x1 := ((Box.new w #[.int .i64 ad, .int .i64 ln, .int .i64 ow, .int .i64 lo, .int .i64 hi, .slice da dn dc, .int .i64 nw, .slice ea en ec] 26).below (bl_alloc (bl_refl _) (.cells #[.int .i64 0, .int .i64 0, .int .i64 0, .int .i64 0, .int .i64 0, .slice none 0 0, .int .i64 0, .slice none 0 0] 26))).below (bl_alloc (bl_refl _) (.cells #[.int .i64 d.k, .int .i64 d.pr, .int .i64 d.pp, .int .i64 d.o, .int .i64 d.i, .int .i64 d.ip, .int .i64 d.l] 52))
  have bx := (Bx.new (w.alloc (.cells #[.int .i64 ad, .int .i64 ln, .int .i64 ow, .int .i64 lo, .int .i64 hi, .slice da dn dc, .int .i64 nw, .slice ea en ec] 26)) #[.int .i64 0, .int .i64 0, .int .i64 0, .int .i64 0, .int .i64 0, .slice none 0 0, .int .i64 0, .slice none 0 0] 26).below (bl_alloc (bl_refl _) (.cells #[.int .i64 d.k, .int .i64 d.pr, .int .i64 d.pp, .int .i64 d.o, .int .i64 d.i, .int .i64 d.ip, .int .i64 d.l] 52))
  have x3 := Bx.new ((w.alloc (.cells #[.int .i64 ad, .int .i64 ln, .int .i64 ow, .int .i64 lo, .int .i64 hi, .slice da dn dc, .int .i64 nw, .slice ea en ec] 26)).alloc (.cells #[.int .i64 0, .int .i64 0, .int .i64 0, .int .i64 0, .int .i64 0, .slice none 0 0, .int .i64 0, .slice none 0 0] 26)) #[.int .i64 d.k, .int .i64 d.pr, .int .i64 d.pp, .int .i64 d.o, .int .i64 d.i, .int .i64 d.ip, .int .i64 d.l] 52
  simp only [World.size_alloc] at bx x3
  have HP : Hid (∀ i f, SearchAt es (again nw d) i → (f = true ↔ ∃ y, es[i]? = some y ∧ sameK y (again nw d)) → putL es (again nw d) i f = es.modify n (again nw)) := fun i f h1 h2 => put_held hs hd h1 h2
  have HW : Hid (∀ W, Below w.heap.size w W → Calls Tryz.prog 101 #[.agg #[.int .i64 ad, .int .i64 ln, .int .i64 ow, .int .i64 lo, .int .i64 hi, .slice da dn dc, .int .i64 nw, .slice ea en ec], .agg #[.int .i64 d.k, .int .i64 d.pr, .int .i64 d.pp, .int .i64 d.o, .int .i64 d.i, .int .i64 d.ip, .int .i64 nw]] W fun e w' => ∃ va vc ua uc, e = .returned (.agg #[.int .i64 ad, .int .i64 ln, .int .i64 ow, .int .i64 lo, .int .i64 hi, .slice va dn vc, .int .i64 nw, .slice ua (es.modify n (again nw)).length uc]) ∧ OwnB w' W.heap.size (.slice va dn vc) ds (.slice ua (es.modify n (again nw)).length uc) (es.modify n (again nw)) ∧ Below W.heap.size W w') := fun W h => (withEntry_ret ad ln ow lo hi nw da dn dc ea en ec (again nw d) ds es W (hD.below h) (hE.below h) hdn hen hs).mono (by
    rintro e w' ⟨va, vc, ua, uc, i, f, hsa, hf, he, hO, hb⟩
    rw [HP.out i f hsa hf] at he hO
    exact ⟨va, vc, ua, uc, he, hO, hb⟩)
  clear HP hD hE hs hd
  generalize es.modify n (again nw) = L at *
  go_enter Tryz.func99, Tryz.ntmps99
  have hta := run_isEntry d
  go_upto_region 3 with fail
  clear hta
  generalize (((w.alloc (.cells #[.int .i64 ad, .int .i64 ln, .int .i64 ow, .int .i64 lo, .int .i64 hi, .slice da dn dc, .int .i64 nw, .slice ea en ec] 26)).alloc (.cells #[.int .i64 0, .int .i64 0, .int .i64 0, .int .i64 0, .int .i64 0, .slice none 0 0, .int .i64 0, .slice none 0 0] 26)).alloc (.cells #[.int .i64 d.k, .int .i64 d.pr, .int .i64 d.pp, .int .i64 d.o, .int .i64 d.i, .int .i64 d.ip, .int .i64 d.l] 52)) = W1 at *
  obtain ⟨⟨q1, q2⟩, q3⟩ := id x3
  have y1 := x1.2
  go_upto_region 4 with fail
  clear q1 q2 q3 y1
  replace x3 : Bx _ (w.heap.size + 1 + 1) #[.int .i64 d.k, .int .i64 d.pr, .int .i64 d.pp, .int .i64 d.o, .int .i64 d.i, .int .i64 d.ip, .int .i64 nw] := x3.set (j := 6) (by simp) (.int .i64 nw)
  replace x1 := x1.other (m := w.heap.size + 1 + 1) (j := 6) (by omega) (.int .i64 nw)
  replace bx := bx.other (m := w.heap.size + 1 + 1) (j := 6) (by omega) (.int .i64 nw)
  replace hb0 := bl_set (p := ⟨w.heap.size + 1 + 1, 6, none⟩) hb0 (by simp; omega) (.int .i64 nw)
  generalize W1.setCell ⟨w.heap.size + 1 + 1, 6, none⟩ (.int .i64 nw) = W2 at *
  have y1 := x1.2
  have y3 := x3.1.2
  have hl3 := x3.1.1
  go_wp2_with fail
  refine (HW.out _ hb0).mono ?_
  rintro e w3 ⟨va, vc, ua, uc, rfl, hO, hb3⟩
  have hB3 := bl_trans hb0 hb3
  replace bx := bx.below hb3
  clear y1 y3 x1 x3 HW hb3 hb0
  obtain ⟨⟨q1, q2⟩, q3⟩ := id bx
  go_wp2_with fail
  have hbv := bx.set8 (.int .i64 ad) (.int .i64 ln) (.int .i64 ow) (.int .i64 lo) (.int .i64 hi) (.slice va dn vc) (.int .i64 nw) (.slice ua L.length uc)
  obtain ⟨⟨t1, t2⟩, t3⟩ := id hbv
  exact bodyPost_ret (v := .agg #[.int .i64 ad, .int .i64 ln, .int .i64 ow, .int .i64 lo, .int .i64 hi, .slice va dn vc, .int .i64 nw, .slice ua L.length uc]) (by simp [results, Tryz.results99, go_sem, t2]) rfl ⟨va, vc, ua, uc, rfl, ((hO.mono (show w.heap.size + 2 ≤ _ by omega)).set8 (m := w.heap.size + 1) (by omega) (.int .i64 ad) (.int .i64 ln) (.int .i64 ow) (.int .i64 lo) (.int .i64 hi) (.slice va dn vc) (.int .i64 nw) (.slice ua L.length uc)).mono (by omega), bl_set8 hB3 (n := w.heap.size + 1) (by omega) (.int .i64 ad) (.int .i64 ln) (.int .i64 ow) (.int .i64 lo) (.int .i64 hi) (.slice va dn vc) (.int .i64 nw) (.slice ua L.length uc)⟩

set_option maxRecDepth 20000 in
set_option maxHeartbeats 4000000 in
theorem used_door (ad ln ow lo hi nw : Int) (da : Option Addr) (dn dc : Nat) (ea : Option Addr) (en ec : Nat) (d : Dr) (ds : List Dr) (es : List En) (w : World) (hD : DoorsAt w da dn ds) (hE : EntriesAt w ea en es) (hdn : dn ≤ 6) (hen : en ≤ 16) :
    Calls Tryz.prog 99 #[.agg #[.int .i64 ad, .int .i64 ln, .int .i64 ow, .int .i64 lo, .int .i64 hi, .slice da dn dc, .int .i64 nw, .slice ea en ec], .iface 85 (.agg #[.int .i64 d.k, .int .i64 d.o, .int .i64 d.i, .int .i64 d.p])] w fun e w' => ∃ va vc ua uc, e = .returned (.agg #[.int .i64 ad, .int .i64 ln, .int .i64 ow, .int .i64 lo, .int .i64 hi, .slice va dn vc, .int .i64 nw, .slice ua en uc]) ∧ OwnB w' w.heap.size (.slice va dn vc) ds (.slice ua en uc) es ∧ Below w.heap.size w w' := by
  have hb0 := bl_alloc (bl_alloc (bl_alloc (bl_refl w) (.cells #[.int .i64 ad, .int .i64 ln, .int .i64 ow, .int .i64 lo, .int .i64 hi, .slice da dn dc, .int .i64 nw, .slice ea en ec] 26)) (.cells #[.int .i64 0, .int .i64 0, .int .i64 0, .int .i64 0, .int .i64 0, .slice none 0 0, .int .i64 0, .slice none 0 0] 26)) (.cells #[.int .i64 0, .int .i64 0, .int .i64 0, .int .i64 0, .int .i64 0, .int .i64 0, .int .i64 0] 52)
  have x1 := ((Box.new w #[.int .i64 ad, .int .i64 ln, .int .i64 ow, .int .i64 lo, .int .i64 hi, .slice da dn dc, .int .i64 nw, .slice ea en ec] 26).below (bl_alloc (bl_refl _) (.cells #[.int .i64 0, .int .i64 0, .int .i64 0, .int .i64 0, .int .i64 0, .slice none 0 0, .int .i64 0, .slice none 0 0] 26))).below (bl_alloc (bl_refl _) (.cells #[.int .i64 0, .int .i64 0, .int .i64 0, .int .i64 0, .int .i64 0, .int .i64 0, .int .i64 0] 52))
  have bx := (Bx.new (w.alloc (.cells #[.int .i64 ad, .int .i64 ln, .int .i64 ow, .int .i64 lo, .int .i64 hi, .slice da dn dc, .int .i64 nw, .slice ea en ec] 26)) #[.int .i64 0, .int .i64 0, .int .i64 0, .int .i64 0, .int .i64 0, .slice none 0 0, .int .i64 0, .slice none 0 0] 26).below (bl_alloc (bl_refl _) (.cells #[.int .i64 0, .int .i64 0, .int .i64 0, .int .i64 0, .int .i64 0, .int .i64 0, .int .i64 0] 52))
  simp only [World.size_alloc] at bx
  have HW : Hid (∀ W, Below w.heap.size w W → Calls Tryz.prog 92 #[.agg #[.int .i64 ad, .int .i64 ln, .int .i64 ow, .int .i64 lo, .int .i64 hi, .slice da dn dc, .int .i64 nw, .slice ea en ec]] W fun e w' => ∃ va vc ua uc, e = .returned (.agg #[.int .i64 ad, .int .i64 ln, .int .i64 ow, .int .i64 lo, .int .i64 hi, .slice va dn vc, .int .i64 nw, .slice ua en uc]) ∧ OwnB w' W.heap.size (.slice va dn vc) ds (.slice ua en uc) es ∧ Below W.heap.size W w') := fun W h => natCopy_ret ad ln ow lo hi nw da dn dc ea en ec ds es W (hD.below h) (hE.below h) (by omega) (by omega)
  clear hD hE
  go_enter Tryz.func99, Tryz.ntmps99
  have hta := run_noEntry d
  go_upto_region 5 with fail
  clear hta
  generalize (((w.alloc (.cells #[.int .i64 ad, .int .i64 ln, .int .i64 ow, .int .i64 lo, .int .i64 hi, .slice da dn dc, .int .i64 nw, .slice ea en ec] 26)).alloc (.cells #[.int .i64 0, .int .i64 0, .int .i64 0, .int .i64 0, .int .i64 0, .slice none 0 0, .int .i64 0, .slice none 0 0] 26)).alloc (.cells #[.int .i64 0, .int .i64 0, .int .i64 0, .int .i64 0, .int .i64 0, .int .i64 0, .int .i64 0] 52)) = W1 at *
  have y1 := x1.2
  have hl3 := bx.1.1
  go_wp2_with fail
  refine (HW.out _ hb0).mono ?_
  rintro e w3 ⟨va, vc, ua, uc, rfl, hO, hb3⟩
  have hB3 := bl_trans hb0 hb3
  replace bx := bx.below hb3
  clear y1 x1 HW hb3 hb0
  obtain ⟨⟨q1, q2⟩, q3⟩ := id bx
  go_wp2_with fail
  have hbv := bx.set8 (.int .i64 ad) (.int .i64 ln) (.int .i64 ow) (.int .i64 lo) (.int .i64 hi) (.slice va dn vc) (.int .i64 nw) (.slice ua en uc)
  obtain ⟨⟨t1, t2⟩, t3⟩ := id hbv
  exact bodyPost_ret (v := .agg #[.int .i64 ad, .int .i64 ln, .int .i64 ow, .int .i64 lo, .int .i64 hi, .slice va dn vc, .int .i64 nw, .slice ua en uc]) (by simp [results, Tryz.results99, go_sem, t2]) rfl ⟨va, vc, ua, uc, rfl, ((hO.mono (show w.heap.size + 2 ≤ _ by omega)).set8 (m := w.heap.size + 1) (by omega) (.int .i64 ad) (.int .i64 ln) (.int .i64 ow) (.int .i64 lo) (.int .i64 hi) (.slice va dn vc) (.int .i64 nw) (.slice ua en uc)).mono (by omega), bl_set8 hB3 (n := w.heap.size + 1) (by omega) (.int .i64 ad) (.int .i64 ln) (.int .i64 ow) (.int .i64 lo) (.int .i64 hi) (.slice va dn vc) (.int .i64 nw) (.slice ua en uc)⟩
end Go.Proofs.YtcgjpmhjijmplaaGreatDoor
