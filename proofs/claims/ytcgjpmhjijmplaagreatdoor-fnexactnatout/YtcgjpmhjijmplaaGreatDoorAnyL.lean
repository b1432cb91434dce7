/- A region that draws its order: the condition on the world may hang on which operations have come up. -/
import Derived.Test.YtcgjpmhjijmplaaGreatDoorAny
namespace Go.Proofs.YtcgjpmhjijmplaaGreatDoor
open Go.ChangeShapes Go.WideShapes Go.ChangeAt Go.RowKit

/-- One operation, where the condition on the world hangs on what has come up. -/
def StepOkL (P : Program) (ops : Array Oper) (Q : Exit → Act → World → Prop) (ds : List Nat) (a0 : Act) (F : Nat → Value → World → Prop) (J : Array Bool → World → Prop) (Rel : World → World → Prop) (i : Nat) : Prop :=
  ∀ (o : Oper), ops[i]? = some o → ∀ (listed : Array Bool) (vs : List Value) (w : World), listed.size = ops.size → vs.length = ds.length → listed.getD i true = false → Closed ops listed → (∀ e ∈ o.after, Region.binds .any e = true → listed.getD e.on false = true) → J listed w → (∀ e ∈ o.after, Region.binds .any e = true → F e.on (vs.getD e.on undef) w) →
    ∀ K : Act → World → Prop, Hid (∀ v w', Rel w w' → J (listed.setIfInBounds i true) w' → F i v w' → K (Act.put ⟨setAll a0.tmps ds vs, a0.defers⟩ o.dst v) w') →
      Held (if Region.wanted o (yielded ops (setAll a0.tmps ds vs)) = true then Oper.wp P o ⟨setAll a0.tmps ds vs, a0.defers⟩ w K Q else K (Act.put ⟨setAll a0.tmps ds vs, a0.defers⟩ o.dst undef) w)
theorem any_midL {P : Program} {ops : Array Oper} {Q : Exit → Act → World → Prop} {ds : List Nat} {a0 : Act} {F : Nat → Value → World → Prop} {J : Array Bool → World → Prop} {Rel : World → World → Prop}
    (hp : Plain a0.tmps.size ops ds = true) (hn : ds.Nodup) (hF : ∀ i v w w', Rel w w' → F i v w → F i v w') (hs : ∀ i, i < ds.length → StepOkL P ops Q ds a0 F J Rel i)
    (he : ∀ listed vs w, listed.size = ops.size → (∀ i, i < ds.length → listed.getD i false = true) → vs.length = ds.length → J listed w → (∀ i, i < ds.length → F i (vs.getD i undef) w) → Q .normal ⟨setAll a0.tmps ds vs, a0.defers⟩ w) :
    ∀ (fuel : Nat) (listed : Array Bool) (vs : List Value) (w : World), listed.size = ops.size → vs.length = ds.length → listed.toList.count false ≤ fuel → Closed ops listed → J listed w → (∀ i, listed.getD i false = true → F i (vs.getD i undef) w) →
      wpAny P .any ops Q fuel listed ⟨setAll a0.tmps ds vs, a0.defers⟩ w := by
  obtain ⟨hsz, hp⟩ := plain_spec hp
  have hall : ∀ (listed : Array Bool), listed.size = ops.size → Region.ready .any ops listed = [] → ∀ n, ∀ i, i < n → i < ds.length → listed.getD i false = true := by
    intro listed hls hr n
    induction n with
    | zero => intro i hi; omega
    | succ n ih =>
      intro i hi hid
      rcases Nat.lt_or_ge i n with h | h
      · exact ih i h hid
      · have hin : i = n := by omega
        subst hin
        obtain ⟨o, ho⟩ : ∃ o, ops[i]? = some o := ⟨ops[i]'(by omega), by simp⟩
        by_cases hx : listed.getD i true = false
        · have hm : i ∈ Region.ready .any ops listed := mem_ready.2 ⟨hx, o, ho, fun e he hb => ih e.on ((hp i o ho).2 e he hb) (by have := (hp i o ho).2 e he hb; omega)⟩
          rw [hr] at hm; cases hm
        · have h1 : i < listed.size := by omega
          simp [h1] at hx ⊢
          exact hx
  have key : ∀ (listed : Array Bool) (vs : List Value) (w : World), listed.size = ops.size → vs.length = ds.length → J listed w → (∀ i, listed.getD i false = true → F i (vs.getD i undef) w) → Region.ready .any ops listed = [] → Q .normal ⟨setAll a0.tmps ds vs, a0.defers⟩ w := by
    intro listed vs w hls hv hJ hK hr
    have hA := hall listed hls hr ds.length
    exact he listed vs w hls (fun i hi => hA i hi hi) hv hJ fun i hi => hK i (hA i hi hi)
  intro fuel
  induction fuel with
  | zero =>
    intro listed vs w hls hv hc hcl hJ hK
    have hr := none_ready (ops := ops) (Nat.le_zero.1 hc)
    exact ⟨hr, key listed vs w hls hv hJ hK hr⟩
  | succ fuel ih =>
    intro listed vs w hls hv hc hcl hJ hK
    refine ⟨key listed vs w hls hv hJ hK, fun i hi => ?_⟩
    obtain ⟨h1, o, ho, h2⟩ := mem_ready.1 hi
    have hio : i < ops.size := by
      rcases Nat.lt_or_ge i ops.size with h | h
      · exact h
      · rw [Array.getElem?_eq_none h] at ho; cases ho
    have hil : i < listed.size := by omega
    obtain ⟨d, hd⟩ : ∃ d, ds[i]? = some d := ⟨ds[i]'(by omega), by simp⟩
    have hput : ∀ v, Act.put ⟨setAll a0.tmps ds vs, a0.defers⟩ o.dst v = ⟨setAll a0.tmps ds (vs.set i v), a0.defers⟩ := by
      intro v
      rcases (hp i o ho).1 with h | ⟨h, hb⟩
      · rw [h, hd]
        simp only [Act.put]
        rw [setAll_set a0.tmps ds vs i d v hn hv.symm hd]
      · rw [h]
        have hb2 : a0.tmps.size ≤ d := by simpa [List.getD_eq_getElem?_getD, hd] using hb
        have e2 := setAll_set a0.tmps ds vs i d v hn hv.symm hd
        rw [Array.setIfInBounds_eq_of_size_le (by rw [setAll_size]; exact hb2)] at e2
        simp only [Act.put]
        rw [← e2]
    have hcs := count_set hil h1
    have hgd : ∀ j, j ≠ i → (listed.setIfInBounds i true).getD j false = listed.getD j false := fun j hji => by
      simp [Array.getD_eq_getD_getElem?, Array.getElem?_setIfInBounds_ne (fun e => hji e.symm)]
    have hgi : (listed.setIfInBounds i true).getD i false = true := by simp [hil]
    have hcl' : Closed ops (listed.setIfInBounds i true) := by
      intro j o' ho' hj e he hb
      by_cases hei : e.on = i
      · rw [hei]; exact hgi
      · rw [hgd _ hei]
        by_cases hji : j = i
        · subst hji
          obtain rfl := Option.some.inj (ho.symm.trans ho')
          exact h2 e he hb
        · rw [hgd j hji] at hj
          exact hcl j o' ho' hj e he hb
    refine wpOp_step ho fun K' hK' => ?_
    refine (hs i (by omega) o ho listed vs w hls hv h1 hcl h2 hJ (fun e he hb => hK e.on (h2 e he hb)) K' ?_).out
    intro v w' hR hJ' hFv
    refine hK' _ _ ?_
    rw [hput v]
    refine ih _ _ _ (by simp [hls]) (by simp [hv]) (by omega) hcl' hJ' ?_
    intro j hj
    by_cases hji : j = i
    · subst hji
      simpa [hv, show j < ds.length by omega] using hFv
    · rw [hgd j hji] at hj
      have := hF j _ w w' hR (hK j hj)
      simpa [List.getD_eq_getElem?_getD, List.getElem?_set_ne (fun e => hji e.symm)] using this
theorem region_midL {P : Program} {id : Nat} {ops : Array Oper} {Q : Exit → Act → World → Prop} {a0 : Act} {w : World} (ds : List Nat) (F : Nat → Value → World → Prop) (J : Array Bool → World → Prop) (Rel : World → World → Prop)
    (hm : P.follows .mixedOrders = true) (hp : Plain a0.tmps.size ops ds = true) (hn : ds.Nodup) (hF : ∀ i v w w', Rel w w' → F i v w → F i v w') (hJ : J (Array.replicate ops.size false) w.drew) (hs : ∀ i, i < ds.length → StepOkL P ops Q ds a0 F J Rel i)
    (he : ∀ listed vs w, listed.size = ops.size → (∀ i, i < ds.length → listed.getD i false = true) → vs.length = ds.length → J listed w → (∀ i, i < ds.length → F i (vs.getD i undef) w) → Q .normal ⟨setAll a0.tmps ds vs, a0.defers⟩ w) : (Code.region id ops true).wp P Q a0 w := by
  refine wp_region_any hm ?_
  have hno : ∀ i, (Array.replicate ops.size false).getD i false = true → False := fun i hi => by
    rcases Nat.lt_or_ge i ops.size with h | h
    · simp [Array.getD, h] at hi
    · simp [Array.getD, Nat.not_lt.2 h] at hi
  have h := any_midL hp hn hF hs he ops.size (Array.replicate ops.size false) (ds.map (a0.tmps.getD · undef)) w.drew (by simp) (by simp) (by simp) (fun j o ho hj => (hno j hj).elim) hJ (fun i hi => (hno i hi).elim)
  rw [setAll_own] at h
  exact h
theorem stepOkL_at {P : Program} {ops : Array Oper} {Q : Exit → Act → World → Prop} {ds : List Nat} {a0 : Act} {F : Nat → Value → World → Prop} {J : Array Bool → World → Prop} {Rel : World → World → Prop} {i : Nat} (o : Oper) (ho : ops[i]? = some o)
    (h : ∀ (listed : Array Bool) (vs : List Value) (w : World), listed.size = ops.size → vs.length = ds.length → listed.getD i true = false → Closed ops listed → (∀ e ∈ o.after, Region.binds .any e = true → listed.getD e.on false = true) → J listed w → (∀ e ∈ o.after, Region.binds .any e = true → F e.on (vs.getD e.on undef) w) →
      ∀ K : Act → World → Prop, Hid (∀ v w', Rel w w' → J (listed.setIfInBounds i true) w' → F i v w' → K (Act.put ⟨setAll a0.tmps ds vs, a0.defers⟩ o.dst v) w') →
      Held (if Region.wanted o (yielded ops (setAll a0.tmps ds vs)) = true then Oper.wp P o ⟨setAll a0.tmps ds vs, a0.defers⟩ w K Q else K (Act.put ⟨setAll a0.tmps ds vs, a0.defers⟩ o.dst undef) w)) : StepOkL P ops Q ds a0 F J Rel i := by
  intro o' ho'
  obtain rfl := Option.some.inj (ho.symm.trans ho')
  exact h
theorem listed_ne {listed : Array Bool} {i j : Nat} (h : j ≠ i) : (listed.setIfInBounds i true).getD j false = listed.getD j false := by
  simp [Array.getD_eq_getD_getElem?, Array.getElem?_setIfInBounds_ne (fun e => h e.symm)]
theorem listed_eq {listed : Array Bool} {i : Nat} (h : i < listed.size) : (listed.setIfInBounds i true).getD i false = true := by simp [h]
/-- An operation that has no value: a store. -/
theorem mid_skip {P : Program} {w : World} {ops : Array Oper} {o : Oper} {t : Array Value} {df : List Deferred} {K : Act → World → Prop} {Q : Exit → Act → World → Prop} {E : Prop} (W : World) (hw : Region.wanted o (yielded ops t) = true)
    (hrun : (execOp (Act.eval ⟨t, df⟩) o).run P w = .ok .skip W) (h : K (Act.put ⟨t, df⟩ o.dst undef) W) : Held (if Region.wanted o (yielded ops t) = true then Oper.wp P o ⟨t, df⟩ w K Q else E) := by
  refine ⟨?_⟩
  rw [if_pos hw]
  unfold Oper.wp
  rw [hrun]
  simp only [Oper.upon]
  exact h
end Go.Proofs.YtcgjpmhjijmplaaGreatDoor
