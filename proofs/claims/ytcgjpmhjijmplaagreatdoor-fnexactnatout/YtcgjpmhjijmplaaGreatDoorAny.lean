/- A region that draws its order, walked by one condition on each operation's value: every operation is walked once, whatever the order. -/
import Derived.Test.YtcgjpmhjijmplaaGreatDoorBase
namespace Go.Proofs.YtcgjpmhjijmplaaGreatDoor
open Go.ChangeShapes Go.WideShapes Go.ChangeAt Go.RowKit

/-- The slots ds hold the values vs. -/
def setAll (t : Array Value) : List Nat → List Value → Array Value
  | d :: ds, v :: vs => setAll (t.setIfInBounds d v) ds vs
  | _, _ => t
theorem set_getD (t : Array Value) (d : Nat) : t.setIfInBounds d (t.getD d undef) = t := by
  rcases Nat.lt_or_ge d t.size with h | h
  · apply Array.ext_getElem?
    intro i
    by_cases hi : i = d
    · subst hi; simp [h]
    · rw [Array.getElem?_setIfInBounds_ne (fun e => hi e.symm)]
  · exact Array.setIfInBounds_eq_of_size_le h
theorem setAll_own (t : Array Value) : ∀ ds : List Nat, setAll t ds (ds.map (t.getD · undef)) = t
  | [] => rfl
  | d :: ds => by
    show setAll (t.setIfInBounds d (t.getD d undef)) ds (ds.map (t.getD · undef)) = t
    rw [set_getD]; exact setAll_own t ds
theorem set_comm (t : Array Value) {d e : Nat} (h : d ≠ e) (u v : Value) : (t.setIfInBounds d u).setIfInBounds e v = (t.setIfInBounds e v).setIfInBounds d u := by
  apply Array.ext_getElem?
  intro i
  by_cases hd : i = d
  · subst hd
    rw [Array.getElem?_setIfInBounds_ne (fun e => h e.symm)]
    simp only [Array.getElem?_setIfInBounds_self, Array.size_setIfInBounds]
  · rw [Array.getElem?_setIfInBounds_ne (i := d) (fun e => hd e.symm)]
    by_cases he : i = e
    · subst he
      simp only [Array.getElem?_setIfInBounds_self, Array.size_setIfInBounds]
    · rw [Array.getElem?_setIfInBounds_ne (fun h => he h.symm), Array.getElem?_setIfInBounds_ne (fun h => he h.symm), Array.getElem?_setIfInBounds_ne (fun h => hd h.symm)]
theorem setAll_out (t : Array Value) (e : Nat) (v : Value) : ∀ (ds : List Nat) (vs : List Value), e ∉ ds → setAll (t.setIfInBounds e v) ds vs = (setAll t ds vs).setIfInBounds e v
  | [], _, _ => by simp [setAll]
  | _ :: _, [], _ => by simp [setAll]
  | d :: ds, u :: vs, h => by
    simp only [List.mem_cons, not_or] at h
    show setAll ((t.setIfInBounds e v).setIfInBounds d u) ds vs = _
    rw [set_comm t h.1 v u]
    exact setAll_out (t.setIfInBounds d u) e v ds vs h.2
theorem setAll_set : ∀ (t : Array Value) (ds : List Nat) (vs : List Value) (i d : Nat) (v : Value), ds.Nodup → ds.length = vs.length → ds[i]? = some d → (setAll t ds vs).setIfInBounds d v = setAll t ds (vs.set i v)
  | _, [], _, _, _, _, _, _, h => by simp at h
  | _, _ :: _, [], _, _, _, _, h, _ => by simp at h
  | t, e :: ds, u :: vs, 0, d, v, hn, _, h => by
    simp only [List.getElem?_cons_zero, Option.some.injEq] at h
    subst h
    show (setAll (t.setIfInBounds e u) ds vs).setIfInBounds e v = setAll (t.setIfInBounds e v) ds vs
    rw [← setAll_out _ _ _ _ _ (List.nodup_cons.1 hn).1, Array.setIfInBounds_setIfInBounds]
  | t, e :: ds, u :: vs, i + 1, d, v, hn, hl, h => by
    simp only [List.getElem?_cons_succ] at h
    show (setAll (t.setIfInBounds e u) ds vs).setIfInBounds d v = setAll (t.setIfInBounds e u) ds (vs.set i v)
    exact setAll_set _ ds vs i d v (List.nodup_cons.1 hn).2 (by simpa using hl) h

theorem setAll_size (t : Array Value) : ∀ (ds : List Nat) (vs : List Value), (setAll t ds vs).size = t.size
  | [], _ => rfl
  | _ :: _, [] => rfl
  | d :: ds, v :: vs => by
    show (setAll (t.setIfInBounds d v) ds vs).size = t.size
    rw [setAll_size]; simp
/-- Every operation has the slot that ds names (one that has none: a slot past the end), and waits for elder ones alone. -/
def Plain (size : Nat) (ops : Array Oper) (ds : List Nat) : Bool := ops.size == ds.length && (List.range ops.size).all fun i => (match ops[i]? with | some o => (o.dst == ds[i]? || (o.dst == none && decide (size ≤ ds.getD i 0))) && o.after.all fun e => !Region.binds .any e || decide (e.on < i) | none => false)
theorem plain_spec {size : Nat} {ops : Array Oper} {ds : List Nat} (h : Plain size ops ds = true) : ops.size = ds.length ∧ ∀ i o, ops[i]? = some o → (o.dst = ds[i]? ∨ (o.dst = none ∧ size ≤ ds.getD i 0)) ∧ ∀ e ∈ o.after, Region.binds .any e = true → e.on < i := by
  unfold Plain at h
  simp only [Bool.and_eq_true, beq_iff_eq, List.all_eq_true, List.mem_range] at h
  refine ⟨h.1, fun i o ho => ?_⟩
  have hi : i < ops.size := by
    rcases Nat.lt_or_ge i ops.size with h | h
    · exact h
    · rw [Array.getElem?_eq_none h] at ho; cases ho
  have h2 := h.2 i hi
  rw [ho] at h2
  simp only [Bool.and_eq_true, Bool.or_eq_true, beq_iff_eq, decide_eq_true_eq, Array.all_eq_true'] at h2
  refine ⟨h2.1, fun e he hb => ?_⟩
  have := h2.2 e he
  simpa [hb] using this

/-- A goal that no tactic unfolds. -/
structure Held (p : Prop) : Prop where
  out : p
theorem count_set {listed : Array Bool} {i : Nat} (hil : i < listed.size) (h1 : listed.getD i true = false) : (listed.setIfInBounds i true).toList.count false + 1 = listed.toList.count false := by
  have h3 : listed[i] = false := by simpa [hil] using h1
  have h5 : listed.toList[i]'(by simpa using hil) = false := by simpa using h3
  have h6 : false ∈ listed.toList := by rw [← h5]; simp
  have h7 := List.count_pos_iff.2 h6
  rw [Array.toList_setIfInBounds, List.count_set (by simpa using hil), h5]
  simp only [beq_self_eq_true, if_true]
  have h8 : (true == false) = false := rfl
  rw [h8]
  simp only [Bool.false_eq_true, if_false, Nat.add_zero]
  omega
theorem none_ready {ops : Array Oper} {listed : Array Bool} (h : listed.toList.count false = 0) : Region.ready .any ops listed = [] := by
  apply List.eq_nil_iff_forall_not_mem.2
  intro j hj
  have h1 := (mem_ready.1 hj).1
  have hj' : j < listed.size := by
    rcases Nat.lt_or_ge j listed.size with h | h
    · exact h
    · rw [Array.getD_eq_getD_getElem?, Array.getElem?_eq_none h] at h1
      cases h1
  have hm : false ∈ listed.toList := by
    have h2 : listed[j] = false := by simpa [hj'] using h1
    rw [← h2]; simp
  have := List.count_pos_iff.2 hm
  omega
/-- Whatever has come up, so has all that it waits for. -/
def Closed (ops : Array Oper) (listed : Array Bool) : Prop := ∀ j o, ops[j]? = some o → listed.getD j false = true → ∀ e ∈ o.after, Region.binds .any e = true → listed.getD e.on false = true
theorem dep {o : Oper} {F : Nat → Value → World → Prop} {vs : List Value} {w : World} (h : ∀ e ∈ o.after, Region.binds .any e = true → F e.on (vs.getD e.on undef) w) (j : Nat) (hj : (o.after.any fun e => Region.binds .any e && e.on == j) = true) : F j (vs.getD j undef) w := by
  simp only [Array.any_eq_true', Bool.and_eq_true, beq_iff_eq] at hj
  obtain ⟨e, he, hb, rfl⟩ := hj
  exact h e he hb
/-- An operation that only computes. -/
theorem mid_val {P : Program} {w : World} {ops : Array Oper} {o : Oper} {t : Array Value} {df : List Deferred} {K : Act → World → Prop} {Q : Exit → Act → World → Prop} {E : Prop} (v : Value) (W : World) (hw : Region.wanted o (yielded ops t) = true)
    (hrun : (execOp (Act.eval ⟨t, df⟩) o).run P w = .ok (.value v) W) (h : K (Act.put ⟨t, df⟩ o.dst v) W) : Held (if Region.wanted o (yielded ops t) = true then Oper.wp P o ⟨t, df⟩ w K Q else E) := by
  refine ⟨?_⟩
  rw [if_pos hw]
  unfold Oper.wp
  rw [hrun, Oper.upon_value]; exact h
theorem mid_call {P : Program} {w : World} {ops : Array Oper} {o : Oper} {t : Array Value} {df : List Deferred} {K : Act → World → Prop} {Q : Exit → Act → World → Prop} {E : Prop} (f : Nat) {vs : Array Value} {post : Ending → World → Prop} (hw : Region.wanted o (yielded ops t) = true)
    (hc : Calls P f vs w post) (hrun : (execOp (Act.eval ⟨t, df⟩) o).run P w = .ok (.enter f vs) w) (h : ∀ e w', post e w' → ∃ v, e = .returned v ∧ K (Act.put ⟨t, df⟩ o.dst v) w') :
    Held (if Region.wanted o (yielded ops t) = true then Oper.wp P o ⟨t, df⟩ w K Q else E) := by
  refine ⟨?_⟩
  rw [if_pos hw]
  unfold Oper.wp
  rw [hrun, Oper.upon_enter]
  refine hc.mono ?_
  intro e w' he
  obtain ⟨v, rfl, hk⟩ := h e w' he
  exact hk
theorem len8 {vs : List Value} (h : vs.length = 8) : ∃ v0 v1 v2 v3 v4 v5 v6 v7, vs = [v0, v1, v2, v3, v4, v5, v6, v7] := match vs, h with | [v0, v1, v2, v3, v4, v5, v6, v7], _ => ⟨v0, v1, v2, v3, v4, v5, v6, v7, rfl⟩
theorem len13 {vs : List Value} (h : vs.length = 13) : ∃ v0 v1 v2 v3 v4 v5 v6 v7 v8 v9 v10 v11 v12, vs = [v0, v1, v2, v3, v4, v5, v6, v7, v8, v9, v10, v11, v12] := match vs, h with | [v0, v1, v2, v3, v4, v5, v6, v7, v8, v9, v10, v11, v12], _ => ⟨v0, v1, v2, v3, v4, v5, v6, v7, v8, v9, v10, v11, v12, rfl⟩
theorem len14 {vs : List Value} (h : vs.length = 14) : ∃ v0 v1 v2 v3 v4 v5 v6 v7 v8 v9 v10 v11 v12 v13, vs = [v0, v1, v2, v3, v4, v5, v6, v7, v8, v9, v10, v11, v12, v13] := match vs, h with | [v0, v1, v2, v3, v4, v5, v6, v7, v8, v9, v10, v11, v12, v13], _ => ⟨v0, v1, v2, v3, v4, v5, v6, v7, v8, v9, v10, v11, v12, v13, rfl⟩
theorem all_lt_zero (p : Nat → Prop) : ∀ i, i < 0 → p i := fun i h => absurd h (Nat.not_lt_zero i)
theorem all_lt_succ {p : Nat → Prop} {n : Nat} (h : ∀ i, i < n → p i) (hn : p n) : ∀ i, i < n + 1 → p i := fun i hi => by
  rcases Nat.lt_or_ge i n with h1 | h1
  · exact h i h1
  · exact (show i = n by omega) ▸ hn
end Go.Proofs.YtcgjpmhjijmplaaGreatDoor
