/- Joined: Any, AnyL. -/
import Derived.Test.YtcgjpmhjijmplaaGreatDoorBase
/- A region that draws its order, walked by one condition on each operation's value: every operation is walked once, whatever the order. -/
namespace Go.Proofs.YtcgjpmhjijmplaaGreatDoor
open Go.ChangeShapes Go.WideShapes Go.ChangeAt Go.RowKit

/-- The slots ds hold the values vs. -/
def setAll (t : Array Value) : List Nat → List Value → Array Value
  | d :: ds, v :: vs => setAll (t.setIfInBounds d v) ds vs
  | _, _ => t
theorem set_getD (t : Array Value) (d : Nat) : t.setIfInBounds d (t.getD d undef) = t := by
  rcases Nat.lt_or_ge d t.size with h | h
  · apply Array.ext_getElem?
    intro i
    by_cases hi : i = d
    · subst hi; simp [h]
    · rw [Array.getElem?_setIfInBounds_ne (fun e => hi e.symm)]
  · exact Array.setIfInBounds_eq_of_size_le h
theorem setAll_own (t : Array Value) : ∀ ds : List Nat, setAll t ds (ds.map (t.getD · undef)) = t
  | [] => rfl
  | d :: ds => by
    show setAll (t.setIfInBounds d (t.getD d undef)) ds (ds.map (t.getD · undef)) = t
    rw [set_getD]; exact setAll_own t ds
theorem set_comm (t : Array Value) {d e : Nat} (h : d ≠ e) (u v : Value) : (t.setIfInBounds d u).setIfInBounds e v = (t.setIfInBounds e v).setIfInBounds d u := by
  apply Array.ext_getElem?
  intro i
  by_cases hd : i = d
  · subst hd
    rw [Array.getElem?_setIfInBounds_ne (fun e => h e.symm)]
    simp only [Array.getElem?_setIfInBounds_self, Array.size_setIfInBounds]
  · rw [Array.getElem?_setIfInBounds_ne (i := d) (fun e => hd e.symm)]
    by_cases he : i = e
    · subst he
      simp only [Array.getElem?_setIfInBounds_self, Array.size_setIfInBounds]
    · rw [Array.getElem?_setIfInBounds_ne (fun h => he h.symm), Array.getElem?_setIfInBounds_ne (fun h => he h.symm), Array.getElem?_setIfInBounds_ne (fun h => hd h.symm)]
theorem setAll_out (t : Array Value) (e : Nat) (v : Value) : ∀ (ds : List Nat) (vs : List Value), e ∉ ds → setAll (t.setIfInBounds e v) ds vs = (setAll t ds vs).setIfInBounds e v
  | [], _, _ => by simp [setAll]
  | _ :: _, [], _ => by simp [setAll]
  | d :: ds, u :: vs, h => by
    simp only [List.mem_cons, not_or] at h
    show setAll ((t.setIfInBounds e v).setIfInBounds d u) ds vs = _
    rw [set_comm t h.1 v u]
    exact setAll_out (t.setIfInBounds d u) e v ds vs h.2
theorem setAll_set : ∀ (t : Array Value) (ds : List Nat) (vs : List Value) (i d : Nat) (v : Value), ds.Nodup → ds.length = vs.length → ds[i]? = some d → (setAll t ds vs).setIfInBounds d v = setAll t ds (vs.set i v)
  | _, [], _, _, _, _, _, _, h => by simp at h
  | _, _ :: _, [], _, _, _, _, h, _ => by simp at h
  | t, e :: ds, u :: vs, 0, d, v, hn, _, h => by
    simp only [List.getElem?_cons_zero, Option.some.injEq] at h
    subst h
    show (setAll (t.setIfInBounds e u) ds vs).setIfInBounds e v = setAll (t.setIfInBounds e v) ds vs
    rw [← setAll_out _ _ _ _ _ (List.nodup_cons.1 hn).1, Array.setIfInBounds_setIfInBounds]
  | t, e :: ds, u :: vs, i + 1, d, v, hn, hl, h => by
    simp only [List.getElem?_cons_succ] at h
    show (setAll (t.setIfInBounds e u) ds vs).setIfInBounds d v = setAll (t.setIfInBounds e u) ds (vs.set i v)
    exact setAll_set _ ds vs i d v (List.nodup_cons.1 hn).2 (by simpa using hl) h

theorem setAll_size (t : Array Value) : ∀ (ds : List Nat) (vs : List Value), (setAll t ds vs).size = t.size
  | [], _ => rfl
  | _ :: _, [] => rfl
  | d :: ds, v :: vs => by
    show (setAll (t.setIfInBounds d v) ds vs).size = t.size
    rw [setAll_size]; simp
/-- Every operation has the slot that ds names (one that has none: a slot past the end), and waits for elder ones alone. -/
def Plain (size : Nat) (ops : Array Oper) (ds : List Nat) : Bool := ops.size == ds.length && (List.range ops.size).all fun i => (match ops[i]? with | some o => (o.dst == ds[i]? || (o.dst == none && decide (size ≤ ds.getD i 0))) && o.after.all fun e => !Region.binds .any e || decide (e.on < i) | none => false)
theorem plain_spec {size : Nat} {ops : Array Oper} {ds : List Nat} (h : Plain size ops ds = true) : ops.size = ds.length ∧ ∀ i o, ops[i]? = some o → (o.dst = ds[i]? ∨ (o.dst = none ∧ size ≤ ds.getD i 0)) ∧ ∀ e ∈ o.after, Region.binds .any e = true → e.on < i := by
  unfold Plain at h
  simp only [Bool.and_eq_true, beq_iff_eq, List.all_eq_true, List.mem_range] at h
  refine ⟨h.1, fun i o ho => ?_⟩
  have hi : i < ops.size := by
    rcases Nat.lt_or_ge i ops.size with h | h
    · exact h
    · rw [Array.getElem?_eq_none h] at ho; cases ho
  have h2 := h.2 i hi
  rw [ho] at h2
  simp only [Bool.and_eq_true, Bool.or_eq_true, beq_iff_eq, decide_eq_true_eq, Array.all_eq_true'] at h2
  refine ⟨h2.1, fun e he hb => ?_⟩
  have := h2.2 e he
  simpa [hb] using this

/-- A goal that no tactic unfolds. -/
structure Held (p : Prop) : Prop where
  out : p
/-- One operation of such a region: with what is known of those that it waits for, it leaves what is wanted of it. -/
def StepOk (P : Program) (ops : Array Oper) (Q : Exit → Act → World → Prop) (ds : List Nat) (a0 : Act) (F : Nat → Value → World → Prop) (J : Nat → World → Prop) (Rel : World → World → Prop) (i : Nat) : Prop :=
  ∀ (o : Oper), ops[i]? = some o → ∀ (vs : List Value) (w : World) (c : Nat), vs.length = ds.length → c < ds.length → J c w → (∀ e ∈ o.after, Region.binds .any e = true → F e.on (vs.getD e.on undef) w) →
    ∀ K : Act → World → Prop, (∀ v w', Rel w w' → J (c + 1) w' → F i v w' → K (Act.put ⟨setAll a0.tmps ds vs, a0.defers⟩ o.dst v) w') →
      if Region.wanted o (yielded ops (setAll a0.tmps ds vs)) = true then Oper.wp P o ⟨setAll a0.tmps ds vs, a0.defers⟩ w K Q else K (Act.put ⟨setAll a0.tmps ds vs, a0.defers⟩ o.dst undef) w

theorem count_set {listed : Array Bool} {i : Nat} (hil : i < listed.size) (h1 : listed.getD i true = false) : (listed.setIfInBounds i true).toList.count false + 1 = listed.toList.count false := by
  have h3 : listed[i] = false := by simpa [hil] using h1
  have h5 : listed.toList[i]'(by simpa using hil) = false := by simpa using h3
  have h6 : false ∈ listed.toList := by rw [← h5]; simp
  have h7 := List.count_pos_iff.2 h6
  rw [Array.toList_setIfInBounds, List.count_set (by simpa using hil), h5]
  simp only [beq_self_eq_true, if_true]
  have h8 : (true == false) = false := rfl
  rw [h8]
  simp only [Bool.false_eq_true, if_false, Nat.add_zero]
  omega
theorem none_ready {ops : Array Oper} {listed : Array Bool} (h : listed.toList.count false = 0) : Region.ready .any ops listed = [] := by
  apply List.eq_nil_iff_forall_not_mem.2
  intro j hj
  have h1 := (mem_ready.1 hj).1
  have hj' : j < listed.size := by
    rcases Nat.lt_or_ge j listed.size with h | h
    · exact h
    · rw [Array.getD_eq_getD_getElem?, Array.getElem?_eq_none h] at h1
      cases h1
  have hm : false ∈ listed.toList := by
    have h2 : listed[j] = false := by simpa [hj'] using h1
    rw [← h2]; simp
  have := List.count_pos_iff.2 hm
  omega
/-- Whatever has come up, so has all that it waits for. -/
def Closed (ops : Array Oper) (listed : Array Bool) : Prop := ∀ j o, ops[j]? = some o → listed.getD j false = true → ∀ e ∈ o.after, Region.binds .any e = true → listed.getD e.on false = true
/-- Operation i waits for j, in at most f steps. -/
def reaches (ops : Array Oper) : Nat → Nat → Nat → Bool
  | 0, _, _ => false
  | f + 1, i, j => match ops[i]? with | some o => (o.after.any fun e => Region.binds .any e && e.on == j) || o.after.any fun e => Region.binds .any e && reaches ops f e.on j | none => false
theorem reaches_up {ops : Array Oper} {listed : Array Bool} (hcl : Closed ops listed) : ∀ (f i j : Nat) (o : Oper), ops[i]? = some o → (∀ e ∈ o.after, Region.binds .any e = true → listed.getD e.on false = true) → reaches ops f i j = true → listed.getD j false = true
  | 0, _, _, _, _, _, h => by simp [reaches] at h
  | f + 1, i, j, o, ho, hd, h => by
    simp only [reaches, ho, Bool.or_eq_true, Array.any_eq_true', Bool.and_eq_true, beq_iff_eq] at h
    rcases h with ⟨e, he, hb, rfl⟩ | ⟨e, he, hb, hr⟩
    · exact hd e he hb
    · have hl := hd e he hb
      cases ho2 : ops[e.on]? with
      | none => cases f <;> simp [reaches, ho2] at hr
      | some o2 => exact reaches_up hcl f e.on j o2 ho2 (fun e2 he2 hb2 => hcl e.on o2 ho2 hl e2 he2 hb2) hr
/-- The last operation waits for all others. -/
def Last (ops : Array Oper) (l : Nat) : Bool := (ops[l]?).isSome && (List.range ops.size).all fun j => j == l || reaches ops 2 l j
theorem last_spec {ops : Array Oper} {l : Nat} (h : Last ops l = true) : ∃ o, ops[l]? = some o ∧ ∀ j, j < ops.size → j ≠ l → reaches ops 2 l j = true := by
  unfold Last at h
  simp only [Bool.and_eq_true, List.all_eq_true, List.mem_range, Bool.or_eq_true, beq_iff_eq] at h
  obtain ⟨o, ho⟩ := Option.isSome_iff_exists.1 h.1
  exact ⟨o, ho, fun j hj hl => (h.2 j hj).resolve_left hl⟩

/-- All but operation l by StepOk; l, which waits for all others, by itself (l past the end: there is none). -/
theorem any_mid {P : Program} {ops : Array Oper} {Q : Exit → Act → World → Prop} {ds : List Nat} {a0 : Act} {F : Nat → Value → World → Prop} {J : Nat → World → Prop} {Rel : World → World → Prop} (l : Nat)
    (hp : Plain a0.tmps.size ops ds = true) (hn : ds.Nodup) (hF : ∀ i v w w', Rel w w' → F i v w → F i v w') (hs : ∀ i, i < ds.length → i ≠ l → StepOk P ops Q ds a0 F J Rel i)
    (hl : l < ops.size → Last ops l = true ∧ ∀ o, ops[l]? = some o → ∀ vs w, vs.length = ds.length → J (ops.size - 1) w → (∀ i, i < ds.length → i ≠ l → F i (vs.getD i undef) w) →
      if Region.wanted o (yielded ops (setAll a0.tmps ds vs)) = true then Oper.wp P o ⟨setAll a0.tmps ds vs, a0.defers⟩ w (Q .normal) Q else Q .normal (Act.put ⟨setAll a0.tmps ds vs, a0.defers⟩ o.dst undef) w)
    (he : ¬ l < ops.size → ∀ vs w, vs.length = ds.length → J ops.size w → (∀ i, i < ds.length → F i (vs.getD i undef) w) → Q .normal ⟨setAll a0.tmps ds vs, a0.defers⟩ w) :
    ∀ (fuel : Nat) (listed : Array Bool) (vs : List Value) (w : World) (c : Nat), listed.size = ops.size → vs.length = ds.length → listed.toList.count false = fuel → fuel + c = ops.size → (l < ops.size → listed.getD l true = false) → Closed ops listed → J c w → (∀ i, listed.getD i false = true → F i (vs.getD i undef) w) →
      wpAny P .any ops Q fuel listed ⟨setAll a0.tmps ds vs, a0.defers⟩ w := by
  obtain ⟨hsz, hp⟩ := plain_spec hp
  have hall : ∀ (listed : Array Bool), listed.size = ops.size → Region.ready .any ops listed = [] → ∀ n, ∀ i, i < n → i < ds.length → listed.getD i false = true := by
    intro listed hls hr n
    induction n with
    | zero => intro i hi; omega
    | succ n ih =>
      intro i hi hid
      rcases Nat.lt_or_ge i n with h | h
      · exact ih i h hid
      · have hin : i = n := by omega
        subst hin
        obtain ⟨o, ho⟩ : ∃ o, ops[i]? = some o := ⟨ops[i]'(by omega), by simp⟩
        by_cases hx : listed.getD i true = false
        · have hm : i ∈ Region.ready .any ops listed := mem_ready.2 ⟨hx, o, ho, fun e he hb => ih e.on ((hp i o ho).2 e he hb) (by have := (hp i o ho).2 e he hb; omega)⟩
          rw [hr] at hm; cases hm
        · have h1 : i < listed.size := by omega
          simp [h1] at hx ⊢
          exact hx
  have key : ∀ (listed : Array Bool) (vs : List Value) (w : World) (c : Nat), listed.size = ops.size → vs.length = ds.length → listed.toList.count false + c = ops.size → (l < ops.size → listed.getD l true = false) → J c w → (∀ i, listed.getD i false = true → F i (vs.getD i undef) w) → Region.ready .any ops listed = [] → Q .normal ⟨setAll a0.tmps ds vs, a0.defers⟩ w := by
    intro listed vs w c hls hv hc hll hJ hK hr
    have hA := hall listed hls hr ds.length
    by_cases hlo : l < ops.size
    · have h1 := hA l (by omega) (by omega)
      have h2 := hll hlo
      have h3 : l < listed.size := by omega
      simp [h3] at h1 h2
      rw [h1] at h2; cases h2
    · have h0 : listed.toList.count false = 0 := by
        rw [List.count_eq_zero]
        intro hm
        obtain ⟨j, hj, e⟩ := List.getElem_of_mem hm
        have hj' : j < listed.size := by simpa using hj
        have h1 := hA j (by omega) (by omega)
        simp [hj'] at h1
        have e2 : listed[j] = false := by simpa using e
        rw [h1] at e2; cases e2
      have hcc : c = ops.size := by omega
      subst hcc
      exact he hlo vs w hv hJ fun i hi => hK i (hA i (by omega) hi)
  intro fuel
  induction fuel with
  | zero =>
    intro listed vs w c hls hv hc hfc hll hcl hJ hK
    have hr := none_ready (ops := ops) hc
    exact ⟨hr, key listed vs w c hls hv (by omega) hll hJ hK hr⟩
  | succ fuel ih =>
    intro listed vs w c hls hv hc hfc hll hcl hJ hK
    refine ⟨key listed vs w c hls hv (by omega) hll hJ hK, fun i hi => ?_⟩
    obtain ⟨h1, o, ho, h2⟩ := mem_ready.1 hi
    have hio : i < ops.size := by
      rcases Nat.lt_or_ge i ops.size with h | h
      · exact h
      · rw [Array.getElem?_eq_none h] at ho; cases ho
    have hil : i < listed.size := by omega
    obtain ⟨d, hd⟩ : ∃ d, ds[i]? = some d := ⟨ds[i]'(by omega), by simp⟩
    have hput : ∀ v, Act.put ⟨setAll a0.tmps ds vs, a0.defers⟩ o.dst v = ⟨setAll a0.tmps ds (vs.set i v), a0.defers⟩ := by
      intro v
      rcases (hp i o ho).1 with h | ⟨h, hb⟩
      · rw [h, hd]
        simp only [Act.put]
        rw [setAll_set a0.tmps ds vs i d v hn hv.symm hd]
      · rw [h]
        have hb2 : a0.tmps.size ≤ d := by simpa [List.getD_eq_getElem?_getD, hd] using hb
        have e2 := setAll_set a0.tmps ds vs i d v hn hv.symm hd
        rw [Array.setIfInBounds_eq_of_size_le (by rw [setAll_size]; exact hb2)] at e2
        simp only [Act.put]
        rw [← e2]
    have hcs := count_set hil h1
    have hgd : ∀ j, j ≠ i → (listed.setIfInBounds i true).getD j false = listed.getD j false := fun j hji => by
      simp [Array.getD_eq_getD_getElem?, Array.getElem?_setIfInBounds_ne (fun e => hji e.symm)]
    have hgi : (listed.setIfInBounds i true).getD i false = true := by simp [hil]
    have hcl' : Closed ops (listed.setIfInBounds i true) := by
      intro j o' ho' hj e he hb
      by_cases hei : e.on = i
      · rw [hei]; exact hgi
      · rw [hgd _ hei]
        by_cases hji : j = i
        · subst hji
          obtain rfl := Option.some.inj (ho.symm.trans ho')
          exact h2 e he hb
        · rw [hgd j hji] at hj
          exact hcl j o' ho' hj e he hb
    refine wpOp_step ho fun K' hK' => ?_
    by_cases hli : i = l
    · subst hli
      obtain ⟨hL, hlast⟩ := hl hio
      obtain ⟨o', ho', hdep⟩ := last_spec hL
      obtain rfl : o' = o := Option.some.inj (ho'.symm.trans ho)
      have hrest : ∀ j, j < ds.length → j ≠ i → listed.getD j false = true := by
        intro j hj hji
        exact reaches_up hcl 2 i j o' ho h2 (hdep j (by omega) hji)
      have hc0 : (listed.setIfInBounds i true).toList.count false = 0 := by
        rw [List.count_eq_zero]
        intro hm
        obtain ⟨j, hj, e⟩ := List.getElem_of_mem hm
        have hj' : j < listed.size := by simpa using hj
        by_cases hji : j = i
        · subst hji
          simp at e
        · have h3 := hrest j (by omega) hji
          simp [hj'] at h3
          have e2 : listed[j] = false := by
            simpa [List.getElem_set_ne (fun h => hji h.symm)] using e
          rw [h3] at e2; cases e2
      have hcc : c = ops.size - 1 := by omega
      subst hcc
      have hz : fuel = 0 := by omega
      subst hz
      have hfin : ∀ a w, Q .normal a w → K' a w := by
        intro a w hq
        refine hK' _ _ ⟨none_ready hc0, hq⟩
      have := hlast o' ho vs w hv hJ (fun j hj hji => hK j (hrest j hj hji))
      split at this
      · rename_i hw
        rw [if_pos hw]
        exact Oper.wp_mono hfin this
      · rename_i hw
        rw [if_neg hw]
        exact hfin _ _ this
    · have fin : ∀ v w', Rel w w' → J (c + 1) w' → F i v w' → K' (Act.put ⟨setAll a0.tmps ds vs, a0.defers⟩ o.dst v) w' := by
        intro v w' hR hJ' hFv
        refine hK' _ _ ?_
        rw [hput v]
        refine ih _ _ _ (c + 1) (by simp [hls]) (by simp [hv]) (by omega) (by omega) (fun h => ?_) hcl' hJ' ?_
        · have := hll h
          simpa [Array.getD_eq_getD_getElem?, Array.getElem?_setIfInBounds_ne hli] using this
        · intro j hj
          by_cases hji : j = i
          · subst hji
            simpa [hv, show j < ds.length by omega] using hFv
          · have hj2 : listed.getD j false = true := by
              simpa [Array.getD_eq_getD_getElem?, Array.getElem?_setIfInBounds_ne (fun e => hji e.symm)] using hj
            have := hF j _ w w' hR (hK j hj2)
            simpa [List.getD_eq_getElem?_getD, List.getElem?_set_ne (fun e => hji e.symm)] using this
      exact hs i (by omega) hli o ho vs w c hv (by omega) hJ (fun e he hb => hK e.on (h2 e he hb)) K' fin

/-- .. where the last operation, l, waits for all others and is walked by itself. -/
theorem region_last {P : Program} {id : Nat} {ops : Array Oper} {Q : Exit → Act → World → Prop} {a0 : Act} {w : World} (ds : List Nat) (l : Nat) (F : Nat → Value → World → Prop) (J : Nat → World → Prop) (Rel : World → World → Prop)
    (hm : P.follows .mixedOrders = true) (hp : Plain a0.tmps.size ops ds = true) (hn : ds.Nodup) (hls : ops.size = l + 1) (hL : Last ops l = true) (o : Oper) (ho : ops[l]? = some o) (hF : ∀ i v w w', Rel w w' → F i v w → F i v w') (hJ : J 0 w.drew) (hs : ∀ i, i < l → StepOk P ops Q ds a0 F J Rel i)
    (he : ∀ vs w, vs.length = ds.length → J l w → (∀ i, i < l → F i (vs.getD i undef) w) →
      Held (if Region.wanted o (yielded ops (setAll a0.tmps ds vs)) = true then Oper.wp P o ⟨setAll a0.tmps ds vs, a0.defers⟩ w (Q .normal) Q else Q .normal (Act.put ⟨setAll a0.tmps ds vs, a0.defers⟩ o.dst undef) w)) : (Code.region id ops true).wp P Q a0 w := by
  refine wp_region_any hm ?_
  have hdl := (plain_spec hp).1
  have h := any_mid l hp hn hF (fun i hi hil => hs i (by omega)) (fun _ => ⟨hL, fun o' ho' vs w hv hJ hK => (by obtain rfl := Option.some.inj (ho.symm.trans ho'); exact (he vs w hv (by rw [hls] at hJ; exact hJ) (fun i hi => hK i (by omega) (by omega))).out)⟩) (fun h => absurd (by omega) h) ops.size (Array.replicate ops.size false) (ds.map (a0.tmps.getD · undef)) w.drew 0 (by simp) (by simp) (by simp) (by simp) (fun h => by simp [Array.getD, h]) (fun j o ho hj => by
    exfalso
    rcases Nat.lt_or_ge j ops.size with h | h
    · simp [Array.getD, h] at hj
    · simp [Array.getD, Nat.not_lt.2 h] at hj) hJ (fun i hi => by
    exfalso
    rcases Nat.lt_or_ge i ops.size with h | h
    · simp [Array.getD, h] at hi
    · simp [Array.getD, Nat.not_lt.2 h] at hi)
  rw [setAll_own] at h
  exact h
theorem stepOk_at {P : Program} {ops : Array Oper} {Q : Exit → Act → World → Prop} {ds : List Nat} {a0 : Act} {F : Nat → Value → World → Prop} {J : Nat → World → Prop} {Rel : World → World → Prop} {i : Nat} (o : Oper) (ho : ops[i]? = some o)
    (h : ∀ (vs : List Value) (w : World) (c : Nat), vs.length = ds.length → c < ds.length → J c w → (∀ e ∈ o.after, Region.binds .any e = true → F e.on (vs.getD e.on undef) w) →
      ∀ K : Act → World → Prop, Hid (∀ v w', Rel w w' → J (c + 1) w' → F i v w' → K (Act.put ⟨setAll a0.tmps ds vs, a0.defers⟩ o.dst v) w') →
      Held (if Region.wanted o (yielded ops (setAll a0.tmps ds vs)) = true then Oper.wp P o ⟨setAll a0.tmps ds vs, a0.defers⟩ w K Q else K (Act.put ⟨setAll a0.tmps ds vs, a0.defers⟩ o.dst undef) w)) : StepOk P ops Q ds a0 F J Rel i := by
  intro o' ho'
  obtain rfl := Option.some.inj (ho.symm.trans ho')
  intro vs w c hv hc hJ hd K hK
  exact (h vs w c hv hc hJ hd K hK).out
theorem dep {o : Oper} {F : Nat → Value → World → Prop} {vs : List Value} {w : World} (h : ∀ e ∈ o.after, Region.binds .any e = true → F e.on (vs.getD e.on undef) w) (j : Nat) (hj : (o.after.any fun e => Region.binds .any e && e.on == j) = true) : F j (vs.getD j undef) w := by
  simp only [Array.any_eq_true', Bool.and_eq_true, beq_iff_eq] at hj
  obtain ⟨e, he, hb, rfl⟩ := hj
  exact h e he hb
/-- An operation that only computes. -/
theorem mid_val {P : Program} {w : World} {ops : Array Oper} {o : Oper} {t : Array Value} {df : List Deferred} {K : Act → World → Prop} {Q : Exit → Act → World → Prop} {E : Prop} (v : Value) (W : World) (hw : Region.wanted o (yielded ops t) = true)
    (hrun : (execOp (Act.eval ⟨t, df⟩) o).run P w = .ok (.value v) W) (h : K (Act.put ⟨t, df⟩ o.dst v) W) : Held (if Region.wanted o (yielded ops t) = true then Oper.wp P o ⟨t, df⟩ w K Q else E) := by
  refine ⟨?_⟩
  rw [if_pos hw]
  unfold Oper.wp
  rw [hrun, Oper.upon_value]; exact h
theorem mid_call {P : Program} {w : World} {ops : Array Oper} {o : Oper} {t : Array Value} {df : List Deferred} {K : Act → World → Prop} {Q : Exit → Act → World → Prop} {E : Prop} (f : Nat) {vs : Array Value} {post : Ending → World → Prop} (hw : Region.wanted o (yielded ops t) = true)
    (hc : Calls P f vs w post) (hrun : (execOp (Act.eval ⟨t, df⟩) o).run P w = .ok (.enter f vs) w) (h : ∀ e w', post e w' → ∃ v, e = .returned v ∧ K (Act.put ⟨t, df⟩ o.dst v) w') :
    Held (if Region.wanted o (yielded ops t) = true then Oper.wp P o ⟨t, df⟩ w K Q else E) := by
  refine ⟨?_⟩
  rw [if_pos hw]
  unfold Oper.wp
  rw [hrun, Oper.upon_enter]
  refine hc.mono ?_
  intro e w' he
  obtain ⟨v, rfl, hk⟩ := h e w' he
  exact hk
theorem len6 {vs : List Value} (h : vs.length = 6) : ∃ v0 v1 v2 v3 v4 v5, vs = [v0, v1, v2, v3, v4, v5] := match vs, h with | [v0, v1, v2, v3, v4, v5], _ => ⟨v0, v1, v2, v3, v4, v5, rfl⟩
theorem len9 {vs : List Value} (h : vs.length = 9) : ∃ v0 v1 v2 v3 v4 v5 v6 v7 v8, vs = [v0, v1, v2, v3, v4, v5, v6, v7, v8] := match vs, h with | [v0, v1, v2, v3, v4, v5, v6, v7, v8], _ => ⟨v0, v1, v2, v3, v4, v5, v6, v7, v8, rfl⟩
theorem len10 {vs : List Value} (h : vs.length = 10) : ∃ v0 v1 v2 v3 v4 v5 v6 v7 v8 v9, vs = [v0, v1, v2, v3, v4, v5, v6, v7, v8, v9] := match vs, h with | [v0, v1, v2, v3, v4, v5, v6, v7, v8, v9], _ => ⟨v0, v1, v2, v3, v4, v5, v6, v7, v8, v9, rfl⟩
theorem len11 {vs : List Value} (h : vs.length = 11) : ∃ v0 v1 v2 v3 v4 v5 v6 v7 v8 v9 v10, vs = [v0, v1, v2, v3, v4, v5, v6, v7, v8, v9, v10] := match vs, h with | [v0, v1, v2, v3, v4, v5, v6, v7, v8, v9, v10], _ => ⟨v0, v1, v2, v3, v4, v5, v6, v7, v8, v9, v10, rfl⟩
theorem len12 {vs : List Value} (h : vs.length = 12) : ∃ v0 v1 v2 v3 v4 v5 v6 v7 v8 v9 v10 v11, vs = [v0, v1, v2, v3, v4, v5, v6, v7, v8, v9, v10, v11] := match vs, h with | [v0, v1, v2, v3, v4, v5, v6, v7, v8, v9, v10, v11], _ => ⟨v0, v1, v2, v3, v4, v5, v6, v7, v8, v9, v10, v11, rfl⟩
theorem len13 {vs : List Value} (h : vs.length = 13) : ∃ v0 v1 v2 v3 v4 v5 v6 v7 v8 v9 v10 v11 v12, vs = [v0, v1, v2, v3, v4, v5, v6, v7, v8, v9, v10, v11, v12] := match vs, h with | [v0, v1, v2, v3, v4, v5, v6, v7, v8, v9, v10, v11, v12], _ => ⟨v0, v1, v2, v3, v4, v5, v6, v7, v8, v9, v10, v11, v12, rfl⟩
theorem len15 {vs : List Value} (h : vs.length = 15) : ∃ v0 v1 v2 v3 v4 v5 v6 v7 v8 v9 v10 v11 v12 v13 v14, vs = [v0, v1, v2, v3, v4, v5, v6, v7, v8, v9, v10, v11, v12, v13, v14] := match vs, h with | [v0, v1, v2, v3, v4, v5, v6, v7, v8, v9, v10, v11, v12, v13, v14], _ => ⟨v0, v1, v2, v3, v4, v5, v6, v7, v8, v9, v10, v11, v12, v13, v14, rfl⟩
theorem len16 {vs : List Value} (h : vs.length = 16) : ∃ v0 v1 v2 v3 v4 v5 v6 v7 v8 v9 v10 v11 v12 v13 v14 v15, vs = [v0, v1, v2, v3, v4, v5, v6, v7, v8, v9, v10, v11, v12, v13, v14, v15] := match vs, h with | [v0, v1, v2, v3, v4, v5, v6, v7, v8, v9, v10, v11, v12, v13, v14, v15], _ => ⟨v0, v1, v2, v3, v4, v5, v6, v7, v8, v9, v10, v11, v12, v13, v14, v15, rfl⟩
theorem len18 {vs : List Value} (h : vs.length = 18) : ∃ v0 v1 v2 v3 v4 v5 v6 v7 v8 v9 v10 v11 v12 v13 v14 v15 v16 v17, vs = [v0, v1, v2, v3, v4, v5, v6, v7, v8, v9, v10, v11, v12, v13, v14, v15, v16, v17] := match vs, h with | [v0, v1, v2, v3, v4, v5, v6, v7, v8, v9, v10, v11, v12, v13, v14, v15, v16, v17], _ => ⟨v0, v1, v2, v3, v4, v5, v6, v7, v8, v9, v10, v11, v12, v13, v14, v15, v16, v17, rfl⟩
theorem len19 {vs : List Value} (h : vs.length = 19) : ∃ v0 v1 v2 v3 v4 v5 v6 v7 v8 v9 v10 v11 v12 v13 v14 v15 v16 v17 v18, vs = [v0, v1, v2, v3, v4, v5, v6, v7, v8, v9, v10, v11, v12, v13, v14, v15, v16, v17, v18] := match vs, h with | [v0, v1, v2, v3, v4, v5, v6, v7, v8, v9, v10, v11, v12, v13, v14, v15, v16, v17, v18], _ => ⟨v0, v1, v2, v3, v4, v5, v6, v7, v8, v9, v10, v11, v12, v13, v14, v15, v16, v17, v18, rfl⟩
theorem len22 {vs : List Value} (h : vs.length = 22) : ∃ v0 v1 v2 v3 v4 v5 v6 v7 v8 v9 v10 v11 v12 v13 v14 v15 v16 v17 v18 v19 v20 v21, vs = [v0, v1, v2, v3, v4, v5, v6, v7, v8, v9, v10, v11, v12, v13, v14, v15, v16, v17, v18, v19, v20, v21] := match vs, h with | [v0, v1, v2, v3, v4, v5, v6, v7, v8, v9, v10, v11, v12, v13, v14, v15, v16, v17, v18, v19, v20, v21], _ => ⟨v0, v1, v2, v3, v4, v5, v6, v7, v8, v9, v10, v11, v12, v13, v14, v15, v16, v17, v18, v19, v20, v21, rfl⟩
theorem all_lt_zero (p : Nat → Prop) : ∀ i, i < 0 → p i := fun i h => absurd h (Nat.not_lt_zero i)
theorem all_lt_succ {p : Nat → Prop} {n : Nat} (h : ∀ i, i < n → p i) (hn : p n) : ∀ i, i < n + 1 → p i := fun i hi => by
  rcases Nat.lt_or_ge i n with h1 | h1
  · exact h i h1
  · exact (show i = n by omega) ▸ hn
end Go.Proofs.YtcgjpmhjijmplaaGreatDoor

/- A region that draws its order: the condition on the world may hang on which operations have come up. -/
namespace Go.Proofs.YtcgjpmhjijmplaaGreatDoor
open Go.ChangeShapes Go.WideShapes Go.ChangeAt Go.RowKit

/-- One operation, where the condition on the world hangs on what has come up. -/
def StepOkL (P : Program) (ops : Array Oper) (Q : Exit → Act → World → Prop) (ds : List Nat) (a0 : Act) (F : Nat → Value → World → Prop) (J : Array Bool → World → Prop) (Rel : World → World → Prop) (i : Nat) : Prop :=
  ∀ (o : Oper), ops[i]? = some o → ∀ (listed : Array Bool) (vs : List Value) (w : World), listed.size = ops.size → vs.length = ds.length → listed.getD i true = false → Closed ops listed → (∀ e ∈ o.after, Region.binds .any e = true → listed.getD e.on false = true) → J listed w → (∀ e ∈ o.after, Region.binds .any e = true → F e.on (vs.getD e.on undef) w) →
    ∀ K : Act → World → Prop, Hid (∀ v w', Rel w w' → J (listed.setIfInBounds i true) w' → F i v w' → K (Act.put ⟨setAll a0.tmps ds vs, a0.defers⟩ o.dst v) w') →
      Held (if Region.wanted o (yielded ops (setAll a0.tmps ds vs)) = true then Oper.wp P o ⟨setAll a0.tmps ds vs, a0.defers⟩ w K Q else K (Act.put ⟨setAll a0.tmps ds vs, a0.defers⟩ o.dst undef) w)
theorem any_midL {P : Program} {ops : Array Oper} {Q : Exit → Act → World → Prop} {ds : List Nat} {a0 : Act} {F : Nat → Value → World → Prop} {J : Array Bool → World → Prop} {Rel : World → World → Prop}
    (hp : Plain a0.tmps.size ops ds = true) (hn : ds.Nodup) (hF : ∀ i v w w', Rel w w' → F i v w → F i v w') (hs : ∀ i, i < ds.length → StepOkL P ops Q ds a0 F J Rel i)
    (he : ∀ listed vs w, listed.size = ops.size → (∀ i, i < ds.length → listed.getD i false = true) → vs.length = ds.length → J listed w → (∀ i, i < ds.length → F i (vs.getD i undef) w) → Q .normal ⟨setAll a0.tmps ds vs, a0.defers⟩ w) :
    ∀ (fuel : Nat) (listed : Array Bool) (vs : List Value) (w : World), listed.size = ops.size → vs.length = ds.length → listed.toList.count false ≤ fuel → Closed ops listed → J listed w → (∀ i, listed.getD i false = true → F i (vs.getD i undef) w) →
      wpAny P .any ops Q fuel listed ⟨setAll a0.tmps ds vs, a0.defers⟩ w := by
  obtain ⟨hsz, hp⟩ := plain_spec hp
  have hall : ∀ (listed : Array Bool), listed.size = ops.size → Region.ready .any ops listed = [] → ∀ n, ∀ i, i < n → i < ds.length → listed.getD i false = true := by
    intro listed hls hr n
    induction n with
    | zero => intro i hi; omega
    | succ n ih =>
      intro i hi hid
      rcases Nat.lt_or_ge i n with h | h
      · exact ih i h hid
      · have hin : i = n := by omega
        subst hin
        obtain ⟨o, ho⟩ : ∃ o, ops[i]? = some o := ⟨ops[i]'(by omega), by simp⟩
        by_cases hx : listed.getD i true = false
        · have hm : i ∈ Region.ready .any ops listed := mem_ready.2 ⟨hx, o, ho, fun e he hb => ih e.on ((hp i o ho).2 e he hb) (by have := (hp i o ho).2 e he hb; omega)⟩
          rw [hr] at hm; cases hm
        · have h1 : i < listed.size := by omega
          simp [h1] at hx ⊢
          exact hx
  have key : ∀ (listed : Array Bool) (vs : List Value) (w : World), listed.size = ops.size → vs.length = ds.length → J listed w → (∀ i, listed.getD i false = true → F i (vs.getD i undef) w) → Region.ready .any ops listed = [] → Q .normal ⟨setAll a0.tmps ds vs, a0.defers⟩ w := by
    intro listed vs w hls hv hJ hK hr
    have hA := hall listed hls hr ds.length
    exact he listed vs w hls (fun i hi => hA i hi hi) hv hJ fun i hi => hK i (hA i hi hi)
  intro fuel
  induction fuel with
  | zero =>
    intro listed vs w hls hv hc hcl hJ hK
    have hr := none_ready (ops := ops) (Nat.le_zero.1 hc)
    exact ⟨hr, key listed vs w hls hv hJ hK hr⟩
  | succ fuel ih =>
    intro listed vs w hls hv hc hcl hJ hK
    refine ⟨key listed vs w hls hv hJ hK, fun i hi => ?_⟩
    obtain ⟨h1, o, ho, h2⟩ := mem_ready.1 hi
    have hio : i < ops.size := by
      rcases Nat.lt_or_ge i ops.size with h | h
      · exact h
      · rw [Array.getElem?_eq_none h] at ho; cases ho
    have hil : i < listed.size := by omega
    obtain ⟨d, hd⟩ : ∃ d, ds[i]? = some d := ⟨ds[i]'(by omega), by simp⟩
    have hput : ∀ v, Act.put ⟨setAll a0.tmps ds vs, a0.defers⟩ o.dst v = ⟨setAll a0.tmps ds (vs.set i v), a0.defers⟩ := by
      intro v
      rcases (hp i o ho).1 with h | ⟨h, hb⟩
      · rw [h, hd]
        simp only [Act.put]
        rw [setAll_set a0.tmps ds vs i d v hn hv.symm hd]
      · rw [h]
        have hb2 : a0.tmps.size ≤ d := by simpa [List.getD_eq_getElem?_getD, hd] using hb
        have e2 := setAll_set a0.tmps ds vs i d v hn hv.symm hd
        rw [Array.setIfInBounds_eq_of_size_le (by rw [setAll_size]; exact hb2)] at e2
        simp only [Act.put]
        rw [← e2]
    have hcs := count_set hil h1
    have hgd : ∀ j, j ≠ i → (listed.setIfInBounds i true).getD j false = listed.getD j false := fun j hji => by
      simp [Array.getD_eq_getD_getElem?, Array.getElem?_setIfInBounds_ne (fun e => hji e.symm)]
    have hgi : (listed.setIfInBounds i true).getD i false = true := by simp [hil]
    have hcl' : Closed ops (listed.setIfInBounds i true) := by
      intro j o' ho' hj e he hb
      by_cases hei : e.on = i
      · rw [hei]; exact hgi
      · rw [hgd _ hei]
        by_cases hji : j = i
        · subst hji
          obtain rfl := Option.some.inj (ho.symm.trans ho')
          exact h2 e he hb
        · rw [hgd j hji] at hj
          exact hcl j o' ho' hj e he hb
    refine wpOp_step ho fun K' hK' => ?_
    refine (hs i (by omega) o ho listed vs w hls hv h1 hcl h2 hJ (fun e he hb => hK e.on (h2 e he hb)) K' ?_).out
    intro v w' hR hJ' hFv
    refine hK' _ _ ?_
    rw [hput v]
    refine ih _ _ _ (by simp [hls]) (by simp [hv]) (by omega) hcl' hJ' ?_
    intro j hj
    by_cases hji : j = i
    · subst hji
      simpa [hv, show j < ds.length by omega] using hFv
    · rw [hgd j hji] at hj
      have := hF j _ w w' hR (hK j hj)
      simpa [List.getD_eq_getElem?_getD, List.getElem?_set_ne (fun e => hji e.symm)] using this
theorem region_midL {P : Program} {id : Nat} {ops : Array Oper} {Q : Exit → Act → World → Prop} {a0 : Act} {w : World} (ds : List Nat) (F : Nat → Value → World → Prop) (J : Array Bool → World → Prop) (Rel : World → World → Prop)
    (hm : P.follows .mixedOrders = true) (hp : Plain a0.tmps.size ops ds = true) (hn : ds.Nodup) (hF : ∀ i v w w', Rel w w' → F i v w → F i v w') (hJ : J (Array.replicate ops.size false) w.drew) (hs : ∀ i, i < ds.length → StepOkL P ops Q ds a0 F J Rel i)
    (he : ∀ listed vs w, listed.size = ops.size → (∀ i, i < ds.length → listed.getD i false = true) → vs.length = ds.length → J listed w → (∀ i, i < ds.length → F i (vs.getD i undef) w) → Q .normal ⟨setAll a0.tmps ds vs, a0.defers⟩ w) : (Code.region id ops true).wp P Q a0 w := by
  refine wp_region_any hm ?_
  have hno : ∀ i, (Array.replicate ops.size false).getD i false = true → False := fun i hi => by
    rcases Nat.lt_or_ge i ops.size with h | h
    · simp [Array.getD, h] at hi
    · simp [Array.getD, Nat.not_lt.2 h] at hi
  have h := any_midL hp hn hF hs he ops.size (Array.replicate ops.size false) (ds.map (a0.tmps.getD · undef)) w.drew (by simp) (by simp) (by simp) (fun j o ho hj => (hno j hj).elim) hJ (fun i hi => (hno i hi).elim)
  rw [setAll_own] at h
  exact h
theorem stepOkL_at {P : Program} {ops : Array Oper} {Q : Exit → Act → World → Prop} {ds : List Nat} {a0 : Act} {F : Nat → Value → World → Prop} {J : Array Bool → World → Prop} {Rel : World → World → Prop} {i : Nat} (o : Oper) (ho : ops[i]? = some o)
    (h : ∀ (listed : Array Bool) (vs : List Value) (w : World), listed.size = ops.size → vs.length = ds.length → listed.getD i true = false → Closed ops listed → (∀ e ∈ o.after, Region.binds .any e = true → listed.getD e.on false = true) → J listed w → (∀ e ∈ o.after, Region.binds .any e = true → F e.on (vs.getD e.on undef) w) →
      ∀ K : Act → World → Prop, Hid (∀ v w', Rel w w' → J (listed.setIfInBounds i true) w' → F i v w' → K (Act.put ⟨setAll a0.tmps ds vs, a0.defers⟩ o.dst v) w') →
      Held (if Region.wanted o (yielded ops (setAll a0.tmps ds vs)) = true then Oper.wp P o ⟨setAll a0.tmps ds vs, a0.defers⟩ w K Q else K (Act.put ⟨setAll a0.tmps ds vs, a0.defers⟩ o.dst undef) w)) : StepOkL P ops Q ds a0 F J Rel i := by
  intro o' ho'
  obtain rfl := Option.some.inj (ho.symm.trans ho')
  exact h
theorem upd {o : Oper} {listed : Array Bool} (h : ∀ e ∈ o.after, Region.binds .any e = true → listed.getD e.on false = true) (j : Nat) (hj : (o.after.any fun e => Region.binds .any e && e.on == j) = true) : listed.getD j false = true := by
  simp only [Array.any_eq_true', Bool.and_eq_true, beq_iff_eq] at hj
  obtain ⟨e, he, hb, rfl⟩ := hj
  exact h e he hb
/-- What waits for i has not come up before i. -/
theorem not_yet {ops : Array Oper} {listed : Array Bool} {i : Nat} (hcl : Closed ops listed) (hi : listed.getD i true = false) (j : Nat) (oj : Oper) (hj : ops[j]? = some oj) (hd : (oj.after.any fun e => Region.binds .any e && e.on == i) = true) : listed.getD j false = false := by
  cases hx : listed.getD j false with
  | false => rfl
  | true =>
    simp only [Array.any_eq_true', Bool.and_eq_true, beq_iff_eq] at hd
    obtain ⟨e, he, hb, rfl⟩ := hd
    have h := hcl j oj hj hx e he hb
    rcases Nat.lt_or_ge e.on listed.size with h1 | h1
    · simp [h1] at h hi; rw [h] at hi; cases hi
    · rw [Array.getD_eq_getD_getElem?, Array.getElem?_eq_none h1] at h; cases h
theorem listed_ne {listed : Array Bool} {i j : Nat} (h : j ≠ i) : (listed.setIfInBounds i true).getD j false = listed.getD j false := by
  simp [Array.getD_eq_getD_getElem?, Array.getElem?_setIfInBounds_ne (fun e => h e.symm)]
theorem listed_eq {listed : Array Bool} {i : Nat} (h : i < listed.size) : (listed.setIfInBounds i true).getD i false = true := by simp [h]
/-- An operation that has no value: a store. -/
theorem mid_skip {P : Program} {w : World} {ops : Array Oper} {o : Oper} {t : Array Value} {df : List Deferred} {K : Act → World → Prop} {Q : Exit → Act → World → Prop} {E : Prop} (W : World) (hw : Region.wanted o (yielded ops t) = true)
    (hrun : (execOp (Act.eval ⟨t, df⟩) o).run P w = .ok .skip W) (h : K (Act.put ⟨t, df⟩ o.dst undef) W) : Held (if Region.wanted o (yielded ops t) = true then Oper.wp P o ⟨t, df⟩ w K Q else E) := by
  refine ⟨?_⟩
  rw [if_pos hw]
  unfold Oper.wp
  rw [hrun]
  simp only [Oper.upon]
  exact h
end Go.Proofs.YtcgjpmhjijmplaaGreatDoor
