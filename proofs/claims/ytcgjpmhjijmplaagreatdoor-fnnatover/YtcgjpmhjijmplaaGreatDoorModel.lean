/- Of the models alone: books that are ok stay ok, what comes in, what goes out and comes back; the order of flows that begin in one tick. -/
import Derived.Test.YtcgjpmhjijmplaaGreatDoorOutM
import Derived.Test.YtcgjpmhjijmplaaGreatDoorJoinG
import Derived.Test.YtcgjpmhjijmplaaGreatDoorTick3
namespace Go.Proofs.YtcgjpmhjijmplaaGreatDoor

theorem lessE_iff {e d : En} : lessE e d = true ↔ (e.k < d.k ∨ e.k = d.k ∧ (e.pr < d.pr ∨ e.pr = d.pr ∧ (e.pp < d.pp ∨ e.pp = d.pp ∧ e.o < d.o))) := by
  unfold lessE lessB
  by_cases h1 : e.k = d.k
  · by_cases h2 : e.pr = d.pr
    · by_cases h3 : e.pp = d.pp
      · simp [h1, h2, h3]
      · simp [h1, h2, h3]
    · simp [h1, h2]
  · simp [h1]
theorem lessE_trans {a b c : En} (h1 : lessE a b = true) (h2 : lessE b c = true) : lessE a c = true := by
  rw [lessE_iff] at *; omega
/-- Entries that are as the document asks, said of the list whole. -/
def EsOk (ad ln ow lo hi nw : Int) (es : List En) : Prop := es.length ≤ 16 ∧ (∀ e ∈ es, entryB ad ln ow lo hi nw e = true) ∧ es.Pairwise (fun e d => lessE e d = true) ∧ es.Pairwise (fun e d => twiceB nw e d = false)
open Classical in
theorem entriesB_iff {ad ln ow lo hi nw : Int} {es : List En} : entriesB ad ln ow lo hi nw es = true ↔ EsOk ad ln ow lo hi nw es := by
  unfold entriesB EsOk
  rw [decide_eq_true_eq]
  refine and_congr_right fun _ => ⟨fun h => ?_, fun h => ?_⟩
  · have hadj : ∀ (n i : Nat) (hi : i + n + 1 < es.length), lessE (es[i]'(by omega)) es[i + n + 1] = true := by
      intro n
      induction n with
      | zero => intro i hi; exact (h (i + 1) _ hi (by simp)).2.1 i _ rfl (by simp)
      | succ n ih =>
        intro i hi
        exact lessE_trans (ih i (by omega)) ((h (i + (n + 1) + 1) _ hi (by simp)).2.1 (i + n + 1) _ (by omega) (by simp))
    refine ⟨fun e he => ?_, List.pairwise_iff_getElem.2 fun i j hi hj hij => ?_, List.pairwise_iff_getElem.2 fun i j hi hj hij => ?_⟩
    · obtain ⟨i, hi, rfl⟩ := List.getElem_of_mem he
      exact (h i _ hi (by simp)).1
    · have := hadj (j - i - 1) i (by omega)
      have e1 : i + (j - i - 1) + 1 = j := by omega
      simpa [e1] using this
    · exact (h j _ hj (by simp)).2.2 i _ hij (by simp)
  · obtain ⟨h1, h2, h3⟩ := h
    intro i d hi hd
    have hd' : es[i] = d := by simpa [hi] using hd
    refine ⟨h1 d (List.mem_of_getElem? hd), fun j e hj he => ?_, fun j e hj he => ?_⟩
    · have hj' : j < es.length := by omega
      have he' : es[j] = e := by simpa [hj'] using he
      rw [← hd', ← he']
      exact List.pairwise_iff_getElem.1 h2 j i hj' hi (by omega)
    · have hj' : j < es.length := by omega
      have he' : es[j] = e := by simpa [hj'] using he
      rw [← hd', ← he']
      exact List.pairwise_iff_getElem.1 h3 j i hj' hi hj
theorem book_iff {ad ln ow lo hi nw : Int} {ds : List Dr} {es : List En} : bookB ad ln ow lo hi nw ds es = true ↔ frameB ad ln ow lo hi nw = true ∧ doorsB ad ln lo hi ds = true ∧ EsOk ad ln ow lo hi nw es := by
  unfold bookB
  rw [← entriesB_iff]
  simp [and_assoc]
open Classical in
theorem doors_mem {ad ln lo hi : Int} {ds : List Dr} (h : doorsB ad ln lo hi ds = true) {d : Dr} (hd : d ∈ ds) : doorB ad ln lo hi d = true := by
  unfold doorsB at h
  rw [decide_eq_true_eq] at h
  obtain ⟨i, hi, rfl⟩ := List.getElem_of_mem hd
  exact (h.2 i _ hi (by simp)).1
theorem tick_ok {ad ln ow lo hi nw : Int} {ds : List Dr} {es : List En} (h : bookB ad ln ow lo hi nw ds es = true) (hn : nw ≠ 1000000) : bookB ad ln ow lo hi (nw + 1) ds (tickL nw es) = true := by
  rw [book_iff] at *
  obtain ⟨h1, h2, h3, h4, h5, h6⟩ := h
  refine ⟨?_, h2, ?_, fun e he => ?_, ?_, ?_⟩
  · simp only [frameB, Bool.and_eq_true, inB, decide_eq_true_eq] at h1 ⊢
    obtain ⟨h1, h7, h8⟩ := h1
    exact ⟨h1, by omega, by omega⟩
  · exact Nat.le_trans (List.length_filter_le _ _) h3
  · obtain ⟨he1, he2⟩ := List.mem_filter.1 he
    have := h4 e he1
    simp only [entryB, eokB, Bool.and_eq_true, inB, decide_eq_true_eq] at this ⊢
    simp only [keepB, decide_eq_true_eq] at he2
    obtain ⟨⟨h1, h7, h8⟩, h9⟩ := this
    exact ⟨⟨h1, by omega, by omega⟩, by omega⟩
  · exact h5.filter _
  · refine (h6.filter _).imp fun {e d} hx => ?_
    cases hs : sameE e d with
    | false => simp [twiceB, hs]
    | true =>
      simp only [twiceB, hs, Bool.true_and, liveB, Bool.and_eq_false_iff, decide_eq_false_iff_not] at hx ⊢
      omega
section
variable {ad ln ow lo hi nw : Int} {ds : List Dr} {es : List En} {k a ap b bp : Int}
theorem may_zero (h : mayIn ad ln ow lo hi nw ds es k a ap b bp = 0) : bookB ad ln ow lo hi nw ds es = true ∧ flowB k a ap b bp = true ∧ comesB ad ln ow a b = true := by
  unfold mayIn at h
  split at h
  · split at h
    · split at h
      · exact ⟨by assumption, by assumption, by assumption⟩
      · omega
    · omega
  · omega
theorem may_of (h1 : bookB ad ln ow lo hi nw ds es = true) (h2 : flowB k a ap b bp = true) (h3 : comesB ad ln ow a b = true) : mayIn ad ln ow lo hi nw ds es k a ap b bp = 0 := by
  unfold mayIn; rw [if_pos h1, if_pos h2, if_pos h3]
theorem may_range : mayIn ad ln ow lo hi nw ds es k a ap b bp = 0 ∨ mayIn ad ln ow lo hi nw ds es k a ap b bp = 1 ∨ mayIn ad ln ow lo hi nw ds es k a ap b bp = 2 ∨ mayIn ad ln ow lo hi nw ds es k a ap b bp = 3 := by
  unfold mayIn
  split
  · split
    · split <;> simp
    · simp
  · simp
theorem in_one (h : bookB ad ln ow lo hi nw ds es = false) : inCode ad ln ow lo hi nw ds es k a ap b bp = 1 := by
  have : mayIn ad ln ow lo hi nw ds es k a ap b bp = 1 := by unfold mayIn; rw [if_neg (by simp [h])]
  unfold inCode; rw [this]; simp
theorem in_zero (h : inCode ad ln ow lo hi nw ds es k a ap b bp = 0) : bookB ad ln ow lo hi nw ds es = true ∧ insB ad ln (inSeat ad ln ow lo hi nw ds es k a ap b bp).2.1 = true := by
  unfold inCode at h
  split at h
  · rename_i hm
    obtain ⟨h1, h2, h3⟩ := may_zero hm
    refine ⟨h1, ?_⟩
    unfold inSeat
    rw [if_pos hm]
    obtain ⟨p1, p2, p3, p4, p5, p6⟩ := book_iff.1 h1
    split at h
    · rename_i hr
      unfold recvO at hr ⊢
      split at hr
      · rename_i d hd
        have := doors_mem p2 (List.mem_of_find?_eq_some hd)
        simp only [doorB, dokB, Bool.and_eq_true] at this
        simpa [hd] using this.1.2
      · rename_i hd
        cases he : es.find? (takesE nw ow k a ap b bp) with
        | none => simp [he] at hr
        | some e =>
          have := p4 e (List.mem_of_find?_eq_some he)
          simp only [entryB, eokB, Bool.and_eq_true] at this
          simpa [hd] using this.1.1.1.2
    · omega
  · rename_i hm; exact absurd h hm
theorem in_six (h : inCode ad ln ow lo hi nw ds es k a ap b bp = 6) : (∀ e ∈ es, ¬ (nw - e.l < 8 ∧ e.k = k ∧ e.pr = a ∧ e.pp = ap ∧ e.o = bp)) ∧ ∀ d ∈ ds, ¬ (d.k = k ∧ d.o = bp) := by
  unfold inCode at h
  split at h
  · rename_i hm
    obtain ⟨h1, h2, h3⟩ := may_zero hm
    have hbo : b = ow := by simp only [comesB, Bool.and_eq_true, beq_iff_eq] at h3; exact h3.1
    split at h
    · omega
    · rename_i hr
      unfold recvO at hr
      cases hd : ds.find? (takesD k bp) with
      | some d => simp [hd] at hr
      | none =>
        cases he : es.find? (takesE nw ow k a ap b bp) with
        | some e => simp [hd, he] at hr
        | none =>
          rw [List.find?_eq_none] at hd he
          refine ⟨fun e hm hx => he e hm ?_, fun d hm hx => hd d hm ?_⟩
          · simp [takesE, liveB, flowEq, hx, hbo]
          · simp [takesD, hx]
  · rename_i hm; rcases may_range (ad := ad) (ln := ln) (ow := ow) (lo := lo) (hi := hi) (nw := nw) (ds := ds) (es := es) (k := k) (a := a) (ap := ap) (b := b) (bp := bp) with h' | h' | h' | h' <;> omega
/-- Behind NatLife ticks the answers to what went out before don't come in. -/
theorem in_over {nw' : Int} {es' : List En} (h : bookB ad ln ow lo hi nw ds es = true) (h' : bookB ad ln ow lo hi nw' ds es' = true) (hs : ∀ e ∈ es', e ∈ es) (hn : nw + 8 ≤ nw') {e : En} (he : e ∈ es) : inCode ad ln ow lo hi nw' ds es' e.k e.pr e.pp ow e.o = 6 := by
  obtain ⟨p1, p2, p3, p4, p5, p6⟩ := book_iff.1 h
  have hk := p4 e he
  simp only [entryB, eokB, Bool.and_eq_true, Bool.not_eq_true', inB, decide_eq_true_eq, beq_eq_false_iff_ne] at hk
  obtain ⟨⟨⟨⟨⟨⟨⟨⟨⟨k1, k2⟩, k3⟩, k4⟩, k5⟩, k6⟩, k7⟩, k8⟩, k9⟩, k10⟩ := hk
  simp only [frameB, Bool.and_eq_true, inB, portsB, decide_eq_true_eq] at p1
  have hm : mayIn ad ln ow lo hi nw' ds es' e.k e.pr e.pp ow e.o = 0 := by
    refine may_of h' ?_ ?_
    · simp only [flowB, inB, Bool.and_eq_true, decide_eq_true_eq]; omega
    · simp [comesB, peerB, k3, k4]
  unfold inCode
  rw [if_pos hm]
  have hr : recvO nw' ow ds es' e.k e.pr e.pp ow e.o = none := by
    unfold recvO
    have h1 : ds.find? (takesD e.k e.o) = none := by
      rw [List.find?_eq_none]
      intro d hd
      have := doors_mem p2 hd
      simp only [doorB, dokB, Bool.and_eq_true, Bool.not_eq_true', inB, Bool.and_eq_false_iff, decide_eq_false_iff_not, decide_eq_true_eq] at this
      simp only [takesD, Bool.and_eq_true, beq_iff_eq, not_and]
      intro _ h2
      omega
    have h2 : es'.find? (takesE nw' ow e.k e.pr e.pp ow e.o) = none := by
      rw [List.find?_eq_none]
      intro d hd
      have := p4 d (hs d hd)
      simp only [entryB, eokB, Bool.and_eq_true, inB, decide_eq_true_eq] at this
      simp only [takesE, Bool.and_eq_true, liveB, decide_eq_true_eq, not_and]
      intro h3
      omega
    simp [h1, h2]
  rw [hr]
  simp
end
section
variable {ad ln ow lo hi nw : Int} {ds : List Dr} {l1 l2 : List En} {e : En}
end
section
variable {B : Bk} {k a ap b bp : Int}
end
theorem zero_book : bookB 0 0 0 0 0 0 [] [] = false := by
  cases h : bookB 0 0 0 0 0 0 [] [] with
  | false => rfl
  | true =>
    have := (book_iff.1 h).1
    simp [frameB, portsB] at this
noncomputable def tickB (B : Bk) : Bk := tickR B.ad B.ln B.ow B.lo B.hi B.nw B.ds B.es
def okB (B : Bk) : Prop := bookB B.ad B.ln B.ow B.lo B.hi B.nw B.ds B.es = true
def zeroB : Bk := ⟨0, 0, 0, 0, 0, 0, [], []⟩
/-- The book behind i ticks. -/
def OverAt (B X : Bk) (i : Nat) : Prop :=
  (okB B → X.ad = B.ad ∧ X.ln = B.ln ∧ X.ow = B.ow ∧ X.lo = B.lo ∧ X.hi = B.hi ∧ X.ds = B.ds ∧ okB X ∧ (∀ e ∈ X.es, e ∈ B.es) ∧ X.nw = min (B.nw + i) 1000000) ∧ (¬ okB B → (i = 0 ∧ X = B) ∨ X = zeroB)
theorem over_start (B : Bk) : OverAt B B 0 := by
  refine ⟨fun h => ⟨rfl, rfl, rfl, rfl, rfl, rfl, h, fun _ h => h, ?_⟩, fun _ => Or.inl ⟨rfl, rfl⟩⟩
  have := (book_iff.1 h).1
  simp only [frameB, inB, Bool.and_eq_true, decide_eq_true_eq] at this
  omega
theorem tick_zero {X : Bk} (h : ¬ okB X) : tickB X = zeroB := by unfold okB at h; unfold tickB tickR; rw [if_neg h]; rfl
theorem over_step {B X : Bk} {i : Nat} (h : OverAt B X i) : OverAt B (tickB X) (i + 1) := by
  refine ⟨fun hb => ?_, fun hb => ?_⟩
  · obtain ⟨h1, h2, h3, h4, h5, h6, h7, h8, h9⟩ := h.1 hb
    have hk : bookB X.ad X.ln X.ow X.lo X.hi X.nw X.ds X.es = true := h7
    unfold tickB tickR
    rw [if_pos hk]
    by_cases hn : X.nw = 1000000
    · rw [if_pos hn]
      exact ⟨h1, h2, h3, h4, h5, h6, hk, h8, by show X.nw = _; omega⟩
    · rw [if_neg hn]
      exact ⟨h1, h2, h3, h4, h5, h6, tick_ok hk hn, fun e he => h8 e (List.mem_filter.1 he).1, by show X.nw + 1 = _; omega⟩
  · right
    rcases h.2 hb with ⟨_, rfl⟩ | rfl
    · exact tick_zero hb
    · exact tick_zero (by simp [okB, zeroB, zero_book])
theorem over_in {B X : Bk} {i : Nat} (h : OverAt B X i) (hc : tickC X.ad X.ln X.ow X.lo X.hi X.nw X.ds X.es = 0) (hi : 8 ≤ i + 1) {e : En} (he : e ∈ B.es) :
    inCode (tickB X).ad (tickB X).ln (tickB X).ow (tickB X).lo (tickB X).hi (tickB X).nw (tickB X).ds (tickB X).es e.k e.pr e.pp B.ow e.o = 6 := by
  have hx : okB X := by
    unfold tickC at hc
    split at hc
    · assumption
    · omega
  have hn : X.nw ≠ 1000000 := by
    intro h2
    unfold tickC at hc
    unfold okB at hx
    rw [if_pos hx, if_pos h2] at hc
    omega
  have hb : okB B := by
    refine Classical.byContradiction fun hb => ?_
    rcases h.2 hb with ⟨rfl, _⟩ | rfl
    · omega
    · exact absurd hx (by simp [okB, zeroB, zero_book])
  obtain ⟨h1, h2, h3, h4, h5, h6, h7, h8, h9⟩ := h.1 hb
  obtain ⟨k1, k2, k3, k4, k5, k6, k7, k8, k9⟩ := (over_step h).1 hb
  have hk : bookB X.ad X.ln X.ow X.lo X.hi X.nw X.ds X.es = true := hx
  have h10 : (tickB X).nw = X.nw + 1 := by unfold tickB tickR; rw [if_pos hk, if_neg hn]
  have hx7 : bookB B.ad B.ln B.ow B.lo B.hi (tickB X).nw B.ds (tickB X).es = true := by
    have := k7
    unfold okB at this
    rwa [k1, k2, k3, k4, k5, k6] at this
  rw [k1, k2, k3, k4, k5, k6]
  exact in_over hb hx7 k8 (by omega) he
theorem over_end {B X : Bk} (h : OverAt B X 12) (hb : okB B) : B.nw + 12 > 1000000 ∨ X.es = [] := by
  obtain ⟨h1, h2, h3, h4, h5, h6, h7, h8, h9⟩ := h.1 hb
  by_cases hn : B.nw + 12 > 1000000
  · exact Or.inl hn
  · right
    rw [List.eq_nil_iff_forall_not_mem]
    intro e he
    have p4 := (book_iff.1 h7).2.2.2.1 e he
    have q4 := (book_iff.1 hb).2.2.2.1 e (h8 e he)
    simp only [entryB, eokB, inB, Bool.and_eq_true, decide_eq_true_eq] at p4 q4
    omega
theorem over_zero {B X : Bk} (h : OverAt B X 12) (hb : ¬ okB B) : X = zeroB := by
  rcases h.2 hb with ⟨h, _⟩ | h
  · cases h
  · exact h
end Go.Proofs.YtcgjpmhjijmplaaGreatDoor
