/- A region that draws its order: the condition sees what has come up, the values, and the world. -/
import Derived.Test.YtcgjpmhjijmplaaGreatDoorAnyL
namespace Go.Proofs.YtcgjpmhjijmplaaGreatDoor
open Go.ChangeShapes Go.WideShapes Go.ChangeAt Go.RowKit

def upd1 {α : Type} (f : Nat → α) (i : Nat) (v : α) : Nat → α := fun j => if j = i then v else f j
def StepOkV (P : Program) (ops : Array Oper) (Q : Exit → Act → World → Prop) (ds : List Nat) (a0 : Act) (J : (Nat → Bool) → (Nat → Value) → World → Prop) (i : Nat) : Prop :=
  ∀ (o : Oper), ops[i]? = some o → ∀ (L : Nat → Bool) (vs : List Value) (w : World), vs.length = ds.length → L i = false → (∀ e ∈ o.after, Region.binds .any e = true → L e.on = true) → J L (fun j => vs.getD j undef) w →
    ∀ K : Act → World → Prop, Hid (∀ v w', J (upd1 L i true) (upd1 (fun j => vs.getD j undef) i v) w' → K (Act.put ⟨setAll a0.tmps ds vs, a0.defers⟩ o.dst v) w') →
      Held (if Region.wanted o (yielded ops (setAll a0.tmps ds vs)) = true then Oper.wp P o ⟨setAll a0.tmps ds vs, a0.defers⟩ w K Q else K (Act.put ⟨setAll a0.tmps ds vs, a0.defers⟩ o.dst undef) w)
theorem up_fun {listed : Array Bool} {i : Nat} (h : i < listed.size) : (fun j => (listed.setIfInBounds i true).getD j false) = upd1 (fun j => listed.getD j false) i true := by
  funext j
  unfold upd1
  by_cases hj : j = i
  · subst hj; rw [if_pos rfl]; exact listed_eq h
  · rw [if_neg hj]; exact listed_ne hj
theorem vs_fun {vs : List Value} {i : Nat} {v : Value} (h : i < vs.length) : (fun j => (vs.set i v).getD j undef) = upd1 (fun j => vs.getD j undef) i v := by
  funext j
  unfold upd1
  by_cases hj : j = i
  · subst hj; rw [if_pos rfl]; simp [List.getD_eq_getElem?_getD, h]
  · rw [if_neg hj]; simp [List.getD_eq_getElem?_getD, List.getElem?_set_ne (fun e => hj e.symm)]
/-- The same conditions, said of listed arrays. -/
theorem region_midV {P : Program} {id : Nat} {ops : Array Oper} {Q : Exit → Act → World → Prop} {a0 : Act} {w : World} (ds : List Nat) (J : (Nat → Bool) → (Nat → Value) → World → Prop)
    (hm : P.follows .mixedOrders = true) (hp : Plain a0.tmps.size ops ds = true) (hn : ds.Nodup) (hJ : J (fun _ => false) (fun j => (ds.map (a0.tmps.getD · undef)).getD j undef) w.drew) (hs : ∀ i, i < ds.length → StepOkV P ops Q ds a0 J i)
    (he : ∀ L vs w, (∀ i, i < ds.length → L i = true) → vs.length = ds.length → J L (fun j => vs.getD j undef) w → Q .normal ⟨setAll a0.tmps ds vs, a0.defers⟩ w) : (Code.region id ops true).wp P Q a0 w := by
  refine wp_region_any hm ?_
  obtain ⟨hsz, hp⟩ := plain_spec hp
  have hall : ∀ (listed : Array Bool), listed.size = ops.size → Region.ready .any ops listed = [] → ∀ n, ∀ i, i < n → i < ds.length → listed.getD i false = true := by
    intro listed hls hr n
    induction n with
    | zero => intro i hi; omega
    | succ n ih =>
      intro i hi hid
      rcases Nat.lt_or_ge i n with h | h
      · exact ih i h hid
      · have hin : i = n := by omega
        subst hin
        obtain ⟨o, ho⟩ : ∃ o, ops[i]? = some o := ⟨ops[i]'(by omega), by simp⟩
        by_cases hx : listed.getD i true = false
        · have hm : i ∈ Region.ready .any ops listed := mem_ready.2 ⟨hx, o, ho, fun e he hb => ih e.on ((hp i o ho).2 e he hb) (by have := (hp i o ho).2 e he hb; omega)⟩
          rw [hr] at hm; cases hm
        · have h1 : i < listed.size := by omega
          simp [h1] at hx ⊢
          exact hx
  have main : ∀ (fuel : Nat) (listed : Array Bool) (vs : List Value) (w : World), listed.size = ops.size → vs.length = ds.length → listed.toList.count false ≤ fuel → J (fun j => listed.getD j false) (fun j => vs.getD j undef) w →
      wpAny P .any ops Q fuel listed ⟨setAll a0.tmps ds vs, a0.defers⟩ w := by
    have key : ∀ (listed : Array Bool) (vs : List Value) (w : World), listed.size = ops.size → vs.length = ds.length → J (fun j => listed.getD j false) (fun j => vs.getD j undef) w → Region.ready .any ops listed = [] → Q .normal ⟨setAll a0.tmps ds vs, a0.defers⟩ w := by
      intro listed vs w hls hv hJ hr
      have hA := hall listed hls hr ds.length
      exact he _ vs w (fun i hi => hA i hi hi) hv hJ
    intro fuel
    induction fuel with
    | zero =>
      intro listed vs w hls hv hc hJ
      have hr := none_ready (ops := ops) (Nat.le_zero.1 hc)
      exact ⟨hr, key listed vs w hls hv hJ hr⟩
    | succ fuel ih =>
      intro listed vs w hls hv hc hJ
      refine ⟨key listed vs w hls hv hJ, fun i hi => ?_⟩
      obtain ⟨h1, o, ho, h2⟩ := mem_ready.1 hi
      have hio : i < ops.size := by
        rcases Nat.lt_or_ge i ops.size with h | h
        · exact h
        · rw [Array.getElem?_eq_none h] at ho; cases ho
      have hil : i < listed.size := by omega
      obtain ⟨d, hd⟩ : ∃ d, ds[i]? = some d := ⟨ds[i]'(by omega), by simp⟩
      have hput : ∀ v, Act.put ⟨setAll a0.tmps ds vs, a0.defers⟩ o.dst v = ⟨setAll a0.tmps ds (vs.set i v), a0.defers⟩ := by
        intro v
        rcases (hp i o ho).1 with h | ⟨h, hb⟩
        · rw [h, hd]
          simp only [Act.put]
          rw [setAll_set a0.tmps ds vs i d v hn hv.symm hd]
        · rw [h]
          have hb2 : a0.tmps.size ≤ d := by simpa [List.getD_eq_getElem?_getD, hd] using hb
          have e2 := setAll_set a0.tmps ds vs i d v hn hv.symm hd
          rw [Array.setIfInBounds_eq_of_size_le (by rw [setAll_size]; exact hb2)] at e2
          simp only [Act.put]
          rw [← e2]
      have hcs := count_set hil h1
      have hLi : (fun j => listed.getD j false) i = false := by
        simp [hil] at h1 ⊢; exact h1
      refine wpOp_step ho fun K' hK' => ?_
      refine (hs i (by omega) o ho _ vs w hv hLi h2 hJ K' ?_).out
      intro v w' hJ'
      refine hK' _ _ ?_
      rw [hput v]
      refine ih _ _ _ (by simp [hls]) (by simp [hv]) (by omega) ?_
      rw [up_fun hil, vs_fun (by omega)]
      exact hJ'
  have h := main ops.size (Array.replicate ops.size false) (ds.map (a0.tmps.getD · undef)) w.drew (by simp) (by simp) (by simp) (by
    have e : (fun j => (Array.replicate ops.size false).getD j false) = fun _ => false := by
      funext j
      rcases Nat.lt_or_ge j ops.size with h | h
      · simp [Array.getD, h]
      · simp [Array.getD, Nat.not_lt.2 h]
    rw [e]; exact hJ)
  rw [setAll_own] at h
  exact h
theorem stepOkV_at {P : Program} {ops : Array Oper} {Q : Exit → Act → World → Prop} {ds : List Nat} {a0 : Act} {J : (Nat → Bool) → (Nat → Value) → World → Prop} {i : Nat} (o : Oper) (ho : ops[i]? = some o)
    (h : ∀ (L : Nat → Bool) (vs : List Value) (w : World), vs.length = ds.length → L i = false → (∀ e ∈ o.after, Region.binds .any e = true → L e.on = true) → J L (fun j => vs.getD j undef) w →
      ∀ K : Act → World → Prop, Hid (∀ v w', J (upd1 L i true) (upd1 (fun j => vs.getD j undef) i v) w' → K (Act.put ⟨setAll a0.tmps ds vs, a0.defers⟩ o.dst v) w') →
      Held (if Region.wanted o (yielded ops (setAll a0.tmps ds vs)) = true then Oper.wp P o ⟨setAll a0.tmps ds vs, a0.defers⟩ w K Q else K (Act.put ⟨setAll a0.tmps ds vs, a0.defers⟩ o.dst undef) w)) : StepOkV P ops Q ds a0 J i := by
  intro o' ho'
  obtain rfl := Option.some.inj (ho.symm.trans ho')
  exact h
theorem updV {o : Oper} {L : Nat → Bool} (h : ∀ e ∈ o.after, Region.binds .any e = true → L e.on = true) (j : Nat) (hj : (o.after.any fun e => Region.binds .any e && e.on == j) = true) : L j = true := by
  simp only [Array.any_eq_true', Bool.and_eq_true, beq_iff_eq] at hj
  obtain ⟨e, he, hb, rfl⟩ := hj
  exact h e he hb
end Go.Proofs.YtcgjpmhjijmplaaGreatDoor
