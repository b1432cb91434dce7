/- Of the models alone: books that are ok stay ok, what comes in, what goes out and comes back; the order of flows that begin in one tick. -/
import Derived.Test.YtcgjpmhjijmplaaGreatDoorOutM
import Derived.Test.YtcgjpmhjijmplaaGreatDoorJoinG
import Derived.Test.YtcgjpmhjijmplaaGreatDoorTick3
namespace Go.Proofs.YtcgjpmhjijmplaaGreatDoor

theorem lessE_iff {e d : En} : lessE e d = true ↔ (e.k < d.k ∨ e.k = d.k ∧ (e.pr < d.pr ∨ e.pr = d.pr ∧ (e.pp < d.pp ∨ e.pp = d.pp ∧ e.o < d.o))) := by
  unfold lessE lessB
  by_cases h1 : e.k = d.k
  · by_cases h2 : e.pr = d.pr
    · by_cases h3 : e.pp = d.pp
      · simp [h1, h2, h3]
      · simp [h1, h2, h3]
    · simp [h1, h2]
  · simp [h1]
theorem lessE_trans {a b c : En} (h1 : lessE a b = true) (h2 : lessE b c = true) : lessE a c = true := by
  rw [lessE_iff] at *; omega
theorem lessE_no {a b : En} (h1 : lessE a b = true) : lessE b a = false := by
  cases h : lessE b a with
  | false => rfl
  | true => rw [lessE_iff] at *; omega
/-- Entries that are as the document asks, said of the list whole. -/
def EsOk (ad ln ow lo hi nw : Int) (es : List En) : Prop := es.length ≤ 16 ∧ (∀ e ∈ es, entryB ad ln ow lo hi nw e = true) ∧ es.Pairwise (fun e d => lessE e d = true) ∧ es.Pairwise (fun e d => twiceB nw e d = false)
open Classical in
theorem entriesB_iff {ad ln ow lo hi nw : Int} {es : List En} : entriesB ad ln ow lo hi nw es = true ↔ EsOk ad ln ow lo hi nw es := by
  unfold entriesB EsOk
  rw [decide_eq_true_eq]
  refine and_congr_right fun _ => ⟨fun h => ?_, fun h => ?_⟩
  · have hadj : ∀ (n i : Nat) (hi : i + n + 1 < es.length), lessE (es[i]'(by omega)) es[i + n + 1] = true := by
      intro n
      induction n with
      | zero => intro i hi; exact (h (i + 1) _ hi (by simp)).2.1 i _ rfl (by simp)
      | succ n ih =>
        intro i hi
        exact lessE_trans (ih i (by omega)) ((h (i + (n + 1) + 1) _ hi (by simp)).2.1 (i + n + 1) _ (by omega) (by simp))
    refine ⟨fun e he => ?_, List.pairwise_iff_getElem.2 fun i j hi hj hij => ?_, List.pairwise_iff_getElem.2 fun i j hi hj hij => ?_⟩
    · obtain ⟨i, hi, rfl⟩ := List.getElem_of_mem he
      exact (h i _ hi (by simp)).1
    · have := hadj (j - i - 1) i (by omega)
      have e1 : i + (j - i - 1) + 1 = j := by omega
      simpa [e1] using this
    · exact (h j _ hj (by simp)).2.2 i _ hij (by simp)
  · obtain ⟨h1, h2, h3⟩ := h
    intro i d hi hd
    have hd' : es[i] = d := by simpa [hi] using hd
    refine ⟨h1 d (List.mem_of_getElem? hd), fun j e hj he => ?_, fun j e hj he => ?_⟩
    · have hj' : j < es.length := by omega
      have he' : es[j] = e := by simpa [hj'] using he
      rw [← hd', ← he']
      exact List.pairwise_iff_getElem.1 h2 j i hj' hi (by omega)
    · have hj' : j < es.length := by omega
      have he' : es[j] = e := by simpa [hj'] using he
      rw [← hd', ← he']
      exact List.pairwise_iff_getElem.1 h3 j i hj' hi hj
theorem book_iff {ad ln ow lo hi nw : Int} {ds : List Dr} {es : List En} : bookB ad ln ow lo hi nw ds es = true ↔ frameB ad ln ow lo hi nw = true ∧ doorsB ad ln lo hi ds = true ∧ EsOk ad ln ow lo hi nw es := by
  unfold bookB
  rw [← entriesB_iff]
  simp [and_assoc]
open Classical in
theorem doors_mem {ad ln lo hi : Int} {ds : List Dr} (h : doorsB ad ln lo hi ds = true) {d : Dr} (hd : d ∈ ds) : doorB ad ln lo hi d = true := by
  unfold doorsB at h
  rw [decide_eq_true_eq] at h
  obtain ⟨i, hi, rfl⟩ := List.getElem_of_mem hd
  exact (h.2 i _ hi (by simp)).1
theorem tick_ok {ad ln ow lo hi nw : Int} {ds : List Dr} {es : List En} (h : bookB ad ln ow lo hi nw ds es = true) (hn : nw ≠ 1000000) : bookB ad ln ow lo hi (nw + 1) ds (tickL nw es) = true := by
  rw [book_iff] at *
  obtain ⟨h1, h2, h3, h4, h5, h6⟩ := h
  refine ⟨?_, h2, ?_, fun e he => ?_, ?_, ?_⟩
  · simp only [frameB, Bool.and_eq_true, inB, decide_eq_true_eq] at h1 ⊢
    obtain ⟨h1, h7, h8⟩ := h1
    exact ⟨h1, by omega, by omega⟩
  · exact Nat.le_trans (List.length_filter_le _ _) h3
  · obtain ⟨he1, he2⟩ := List.mem_filter.1 he
    have := h4 e he1
    simp only [entryB, eokB, Bool.and_eq_true, inB, decide_eq_true_eq] at this ⊢
    simp only [keepB, decide_eq_true_eq] at he2
    obtain ⟨⟨h1, h7, h8⟩, h9⟩ := this
    exact ⟨⟨h1, by omega, by omega⟩, by omega⟩
  · exact h5.filter _
  · refine (h6.filter _).imp fun {e d} hx => ?_
    cases hs : sameE e d with
    | false => simp [twiceB, hs]
    | true =>
      simp only [twiceB, hs, Bool.true_and, liveB, Bool.and_eq_false_iff, decide_eq_false_iff_not] at hx ⊢
      omega
section
variable {ad ln ow lo hi nw : Int} {ds : List Dr} {es : List En} {k a ap b bp : Int}
theorem may_zero (h : mayIn ad ln ow lo hi nw ds es k a ap b bp = 0) : bookB ad ln ow lo hi nw ds es = true ∧ flowB k a ap b bp = true ∧ comesB ad ln ow a b = true := by
  unfold mayIn at h
  split at h
  · split at h
    · split at h
      · exact ⟨by assumption, by assumption, by assumption⟩
      · omega
    · omega
  · omega
theorem may_of (h1 : bookB ad ln ow lo hi nw ds es = true) (h2 : flowB k a ap b bp = true) (h3 : comesB ad ln ow a b = true) : mayIn ad ln ow lo hi nw ds es k a ap b bp = 0 := by
  unfold mayIn; rw [if_pos h1, if_pos h2, if_pos h3]
theorem in_zero (h : inCode ad ln ow lo hi nw ds es k a ap b bp = 0) : bookB ad ln ow lo hi nw ds es = true ∧ insB ad ln (inSeat ad ln ow lo hi nw ds es k a ap b bp).2.1 = true := by
  unfold inCode at h
  split at h
  · rename_i hm
    obtain ⟨h1, h2, h3⟩ := may_zero hm
    refine ⟨h1, ?_⟩
    unfold inSeat
    rw [if_pos hm]
    obtain ⟨p1, p2, p3, p4, p5, p6⟩ := book_iff.1 h1
    split at h
    · rename_i hr
      unfold recvO at hr ⊢
      split at hr
      · rename_i d hd
        have := doors_mem p2 (List.mem_of_find?_eq_some hd)
        simp only [doorB, dokB, Bool.and_eq_true] at this
        simpa [hd] using this.1.2
      · rename_i hd
        cases he : es.find? (takesE nw ow k a ap b bp) with
        | none => simp [he] at hr
        | some e =>
          have := p4 e (List.mem_of_find?_eq_some he)
          simp only [entryB, eokB, Bool.and_eq_true] at this
          simpa [hd] using this.1.1.1.2
    · omega
  · rename_i hm; exact absurd h hm
end
theorem key_eq {es : List En} (h : es.Pairwise (fun e d => lessE e d = true)) {e d : En} (he : e ∈ es) (hd : d ∈ es) (h1 : e.k = d.k) (h2 : e.pr = d.pr) (h3 : e.pp = d.pp) (h4 : e.o = d.o) : e = d := by
  obtain ⟨i, hi, rfl⟩ := List.getElem_of_mem he
  obtain ⟨j, hj, rfl⟩ := List.getElem_of_mem hd
  have hp := List.pairwise_iff_getElem.1 h
  rcases Nat.lt_trichotomy i j with x | x | x
  · have := lessE_iff.1 (hp i j hi hj x); omega
  · subst x; rfl
  · have := lessE_iff.1 (hp j i hj hi x); omega
open Classical in
theorem door_eq {ad ln lo hi : Int} {ds : List Dr} (h : doorsB ad ln lo hi ds = true) {e d : Dr} (he : e ∈ ds) (hd : d ∈ ds) (h1 : e.k = d.k) (h2 : e.o = d.o) : e = d := by
  unfold doorsB at h
  rw [decide_eq_true_eq] at h
  obtain ⟨i, hi, rfl⟩ := List.getElem_of_mem he
  obtain ⟨j, hj, rfl⟩ := List.getElem_of_mem hd
  rcases Nat.lt_trichotomy i j with x | x | x
  · have := (h.2 j ds[j] hj (by simp)).2 i ds[i] x (by simp)
    simp [pairB, h1, h2] at this
  · subst x; rfl
  · have := (h.2 i ds[i] hi (by simp)).2 j ds[j] x (by simp)
    simp [pairB, h1, h2] at this
theorem find_split {α : Type} {p : α → Bool} {xs : List α} {i : Nat} (h : xs.findIdx? p = some i) : ∃ l1 x l2, xs = l1 ++ x :: l2 ∧ l1.length = i ∧ p x = true ∧ ∀ y ∈ l1, p y = false := by
  induction xs generalizing i with
  | nil => simp at h
  | cons z zs ih =>
    rw [List.findIdx?_cons] at h
    split at h
    · rename_i hz
      obtain rfl : 0 = i := by simpa using h
      exact ⟨[], z, zs, rfl, rfl, hz, by simp⟩
    · rename_i hz
      cases hx : zs.findIdx? p with
      | none => simp [hx] at h
      | some j =>
        obtain ⟨l1, x, l2, rfl, h2, h3, h4⟩ := ih hx
        have hi : j + 1 = i := by simpa [hx] using h
        refine ⟨z :: l1, x, l2, rfl, by simp [h2, hi], h3, fun y hy => ?_⟩
        rcases List.mem_cons.1 hy with rfl | hy
        · simpa using hz
        · exact h4 y hy
theorem modify_split {α : Type} (f : α → α) (l1 : List α) (x : α) (l2 : List α) : (l1 ++ x :: l2).modify l1.length f = l1 ++ f x :: l2 := by
  induction l1 with
  | nil => simp
  | cons z zs ih => simpa using ih
theorem get_split {α : Type} (l1 : List α) (x : α) (l2 : List α) : (l1 ++ x :: l2)[l1.length]? = some x := by simp
theorem find_eq_of {α : Type} {p : α → Bool} {xs : List α} {x : α} (hm : x ∈ xs) (hp : p x = true) (hu : ∀ y ∈ xs, p y = true → y = x) : xs.find? p = some x := by
  cases h : xs.find? p with
  | none => rw [List.find?_eq_none] at h; exact absurd hp (h x hm)
  | some y => rw [hu y (List.mem_of_find?_eq_some h) (List.find?_some h)]
theorem free_spec {es : List En} {k b bp lo hi p : Int} (h : freeP es k b bp lo hi = some p) : lo ≤ p ∧ p ≤ hi ∧ ∀ e ∈ es, ¬ (e.k = k ∧ e.pr = b ∧ e.pp = bp ∧ e.o = p) := by
  unfold freeP at h
  cases hf : (List.range (hi + 1 - lo).toNat).find? fun (i : Nat) => !es.any (takenE k b bp (lo + (i : Int))) with
  | none => rw [hf] at h; simp at h
  | some i =>
    rw [hf] at h
    obtain rfl : lo + (i : Int) = p := by simpa using h
    have h1 := List.mem_range.1 (List.mem_of_find?_eq_some hf)
    have h2 := List.find?_some hf
    simp only [Bool.not_eq_true', List.any_eq_false] at h2
    refine ⟨by omega, by omega, fun e he hx => h2 e he ?_⟩
    simp [takenE, hx]
theorem put_split (es : List En) (d : En) : ∃ l1 l2, es = l1 ++ l2 ∧ putE es d = l1 ++ d :: l2 ∧ (∀ e ∈ l1, lessE e d = true) ∧ ∀ e, l2.head? = some e → lessE e d = false := by
  refine ⟨es.takeWhile (lessE · d), es.dropWhile (lessE · d), List.takeWhile_append_dropWhile.symm, by simp [putE], fun e he => ?_, fun e he => ?_⟩
  · have := List.all_takeWhile (p := (lessE · d)) (l := es)
    rw [List.all_eq_true] at this
    exact this e he
  · have := List.head?_dropWhile_not (lessE · d) es
    rw [he] at this
    simpa using this
/-- A new entry, laid in where it belongs: the order stays. -/
theorem put_sorted {es : List En} {d : En} (h : es.Pairwise (fun e d => lessE e d = true)) (hd : ∀ e ∈ es, ¬ (e.k = d.k ∧ e.pr = d.pr ∧ e.pp = d.pp ∧ e.o = d.o)) : ∃ l1 l2, es = l1 ++ l2 ∧ putE es d = l1 ++ d :: l2 ∧ (∀ e ∈ l1, lessE e d = true) ∧ (∀ e ∈ l2, lessE d e = true) := by
  obtain ⟨l1, l2, h1, h2, h3, h4⟩ := put_split es d
  refine ⟨l1, l2, h1, h2, h3, ?_⟩
  subst h1
  cases l2 with
  | nil => simp
  | cons x xs =>
    have hx := h4 x rfl
    have hdx := hd x (by simp)
    have hlt : lessE d x = true := by
      cases hh : lessE d x with
      | true => rfl
      | false =>
        have e1 : ¬ lessE x d = true := by simp [hx]
        have e2 : ¬ lessE d x = true := by simp [hh]
        rw [lessE_iff] at e1 e2
        omega
    intro e he
    rcases List.mem_cons.1 he with rfl | he
    · exact hlt
    · have := (List.pairwise_append.1 h).2.1
      exact lessE_trans hlt ((List.pairwise_cons.1 this).1 e he)
section
variable {ad ln ow lo hi nw : Int} {ds : List Dr} {l1 l2 : List En} {e : En}
theorem again_ok (hn : 0 ≤ nw) (hl : liveB nw e.l = true) (h : EsOk ad ln ow lo hi nw (l1 ++ e :: l2)) : EsOk ad ln ow lo hi nw (l1 ++ again nw e :: l2) := by
  obtain ⟨h1, h2, h3, h4⟩ := h
  refine ⟨by simpa using h1, fun x hx => ?_, ?_, ?_⟩
  · have he := h2 e (by simp)
    rw [List.mem_append, List.mem_cons] at hx
    rcases hx with hx | rfl | hx
    · exact h2 x (by simp [hx])
    · show eokB ad ln ow lo hi nw e.k e.pr e.pp e.o e.i e.ip nw = true
      simp only [entryB, eokB, Bool.and_eq_true, inB, decide_eq_true_eq] at he ⊢
      obtain ⟨⟨k1, k2⟩, k3⟩ := he
      exact ⟨⟨k1, by omega, by omega⟩, by omega⟩
    · exact h2 x (by simp [hx])
  · rw [List.pairwise_append, List.pairwise_cons] at h3 ⊢
    obtain ⟨a1, ⟨a2, a3⟩, a4⟩ := h3
    refine ⟨a1, ⟨fun x hx => a2 x hx, a3⟩, fun x hx y hy => ?_⟩
    rcases List.mem_cons.1 hy with rfl | hy
    · exact a4 x hx e (by simp)
    · exact a4 x hx y (by simp [hy])
  · rw [List.pairwise_append, List.pairwise_cons] at h4 ⊢
    obtain ⟨a1, ⟨a2, a3⟩, a4⟩ := h4
    refine ⟨a1, ⟨fun x hx => ?_, a3⟩, fun x hx y hy => ?_⟩
    · have := a2 x hx
      have e1 : sameE (again nw e) x = sameE e x := rfl
      simp only [twiceB, hl, Bool.and_true, e1] at this ⊢
      simp [this]
    · rcases List.mem_cons.1 hy with rfl | hy
      · have := a4 x hx e (by simp)
        have e1 : sameE x (again nw e) = sameE x e := rfl
        simp only [twiceB, hl, Bool.and_true, e1] at this ⊢
        cases hs : sameE x e <;> simp_all
      · exact a4 x hx y (by simp [hy])
theorem new_ok {d : En} (hd : entryB ad ln ow lo hi nw d = true) (h : EsOk ad ln ow lo hi nw (l1 ++ l2)) (hlen : (l1 ++ l2).length ≠ 16) (h1 : ∀ e ∈ l1, lessE e d = true) (h2 : ∀ e ∈ l2, lessE d e = true) (ht : ∀ e ∈ l1 ++ l2, (sameE e d && liveB nw e.l) = false) : EsOk ad ln ow lo hi nw (l1 ++ d :: l2) := by
  obtain ⟨k1, k2, k3, k4⟩ := h
  have hsym : ∀ e, sameE d e = sameE e d := fun e => by
    rw [Bool.eq_iff_iff]
    simp only [sameE, flowEq, Bool.and_eq_true, beq_iff_eq]
    constructor <;> (rintro ⟨a, b, c, d, e⟩; exact ⟨a.symm, b.symm, c.symm, d.symm, e.symm⟩)
  refine ⟨?_, fun x hx => ?_, ?_, ?_⟩
  · simp at k1 hlen ⊢; omega
  · rw [List.mem_append, List.mem_cons] at hx
    rcases hx with hx | rfl | hx
    · exact k2 x (by simp [hx])
    · exact hd
    · exact k2 x (by simp [hx])
  · rw [List.pairwise_append] at k3
    rw [List.pairwise_append, List.pairwise_cons]
    refine ⟨k3.1, ⟨h2, k3.2.1⟩, fun x hx y hy => ?_⟩
    rcases List.mem_cons.1 hy with rfl | hy
    · exact h1 x hx
    · exact k3.2.2 x hx y hy
  · rw [List.pairwise_append] at k4
    rw [List.pairwise_append, List.pairwise_cons]
    refine ⟨k4.1, ⟨fun x hx => ?_, k4.2.1⟩, fun x hx y hy => ?_⟩
    · have := ht x (by simp [hx])
      simp only [twiceB, hsym]
      cases hs : sameE x d <;> simp_all
    · rcases List.mem_cons.1 hy with rfl | hy
      · have := ht x (by simp [hx])
        simp only [twiceB]
        cases hs : sameE x y <;> simp_all
      · exact k4.2.2 x hx y hy
end
section
variable {B : Bk} {k a ap b bp : Int}
/-- The ways of NatOut that are gone to the end. -/
def Goes (B : Bk) (k a ap b bp : Int) (O : Out) : Prop :=
  (∃ d, B.ds.find? (sendsD k a ap) = some d ∧ O = ⟨B, ⟨k, B.ow, d.o, b, bp⟩, 0⟩) ∨
  (∃ l1 e l2, B.ds.find? (sendsD k a ap) = none ∧ B.es = l1 ++ e :: l2 ∧ sendsE B.nw k a ap b bp e = true ∧ (∀ y ∈ l1, sendsE B.nw k a ap b bp y = false) ∧ O = ⟨⟨B.ad, B.ln, B.ow, B.lo, B.hi, B.nw, B.ds, l1 ++ again B.nw e :: l2⟩, ⟨k, B.ow, e.o, b, bp⟩, 0⟩) ∨
  (B.ds.find? (sendsD k a ap) = none ∧ (∀ y ∈ B.es, sendsE B.nw k a ap b bp y = false) ∧ B.es.length = 16 ∧ O = ⟨B, zeroF, 4⟩) ∨
  (∃ p, B.ds.find? (sendsD k a ap) = none ∧ (∀ y ∈ B.es, sendsE B.nw k a ap b bp y = false) ∧ B.es.length ≠ 16 ∧ freeP B.es k b bp B.lo B.hi = some p ∧ O = ⟨⟨B.ad, B.ln, B.ow, B.lo, B.hi, B.nw, B.ds, putE B.es ⟨k, b, bp, p, a, ap, B.nw⟩⟩, ⟨k, B.ow, p, b, bp⟩, 0⟩) ∨
  (B.ds.find? (sendsD k a ap) = none ∧ (∀ y ∈ B.es, sendsE B.nw k a ap b bp y = false) ∧ B.es.length ≠ 16 ∧ freeP B.es k b bp B.lo B.hi = none ∧ O = ⟨B, zeroF, 5⟩)
theorem out_goes (h1 : bookB B.ad B.ln B.ow B.lo B.hi B.nw B.ds B.es = true) (h2 : flowB k a ap b bp = true) (h3 : goesB B.ad B.ln B.ow a b = true) : Goes B k a ap b bp (outM B k a ap b bp) := by
  unfold outM
  rw [if_pos h1, if_pos h2, if_pos h3]
  cases hd : B.ds.find? (sendsD k a ap) with
  | some d => exact Or.inl ⟨d, hd, rfl⟩
  | none =>
    cases hi : B.es.findIdx? (sendsE B.nw k a ap b bp) with
    | some i =>
      obtain ⟨l1, x, l2, hs, rfl, hx, hl⟩ := find_split hi
      simp only [hs, modify_split, get_split]
      exact Or.inr (Or.inl ⟨l1, x, l2, hd, hs, hx, hl, rfl⟩)
    | none =>
      have he : ∀ y ∈ B.es, sendsE B.nw k a ap b bp y = false := by simpa [List.findIdx?_eq_none_iff] using hi
      by_cases hl : B.es.length = 16
      · simp only [hl, if_true]
        exact Or.inr (Or.inr (Or.inl ⟨hd, he, hl, rfl⟩))
      · simp only [hl, if_false]
        cases hp : freeP B.es k b bp B.lo B.hi with
        | some p => exact Or.inr (Or.inr (Or.inr (Or.inl ⟨p, hd, he, hl, hp, rfl⟩)))
        | none => exact Or.inr (Or.inr (Or.inr (Or.inr ⟨hd, he, hl, hp, rfl⟩)))
theorem out_new_entry {p : Int} (h1 : bookB B.ad B.ln B.ow B.lo B.hi B.nw B.ds B.es = true) (h2 : flowB k a ap b bp = true) (h3 : goesB B.ad B.ln B.ow a b = true) (hp : B.lo ≤ p ∧ p ≤ B.hi) : entryB B.ad B.ln B.ow B.lo B.hi B.nw ⟨k, b, bp, p, a, ap, B.nw⟩ = true := by
  have p1 := (book_iff.1 h1).1
  simp only [goesB, peerB, Bool.and_eq_true, Bool.not_eq_true', beq_eq_false_iff_ne] at h3
  simp only [flowB, inB, Bool.and_eq_true, decide_eq_true_eq] at h2
  simp only [frameB, inB, Bool.and_eq_true, decide_eq_true_eq] at p1
  simp only [entryB, eokB, inB, Bool.and_eq_true, Bool.not_eq_true', beq_eq_false_iff_ne, decide_eq_true_eq]
  refine ⟨⟨⟨⟨⟨⟨⟨⟨⟨?_, ?_⟩, h3.2.1⟩, h3.2.2⟩, ?_⟩, hp⟩, h3.1⟩, ?_⟩, ?_⟩, ?_⟩ <;> omega
theorem goes_ok {O : Out} (h1 : bookB B.ad B.ln B.ow B.lo B.hi B.nw B.ds B.es = true) (h2 : flowB k a ap b bp = true) (h3 : goesB B.ad B.ln B.ow a b = true) (h : Goes B k a ap b bp O) : bookB O.R.ad O.R.ln O.R.ow O.R.lo O.R.hi O.R.nw O.R.ds O.R.es = true := by
  have hb := book_iff.1 h1
  have hn : 0 ≤ B.nw := by
    have p1 := hb.1
    simp only [frameB, inB, Bool.and_eq_true, decide_eq_true_eq] at p1
    omega
  rcases h with ⟨d, hd, rfl⟩ | ⟨l1, e, l2, hd, hs, he, hl, rfl⟩ | ⟨hd, he, hl, rfl⟩ | ⟨p, hd, he, hl, hp, rfl⟩ | ⟨hd, he, hl, hp, rfl⟩
  · exact h1
  · skip
    refine book_iff.2 ⟨hb.1, hb.2.1, ?_⟩
    have h4 := hb.2.2
    rw [hs] at h4
    simp only [sendsE, Bool.and_eq_true] at he
    exact again_ok hn he.2 h4
  · exact h1
  · skip
    refine book_iff.2 ⟨hb.1, hb.2.1, ?_⟩
    obtain ⟨f1, f2, f3⟩ := free_spec hp
    obtain ⟨l1, l2, q1, q2, q3, q4⟩ := put_sorted (d := ⟨k, b, bp, p, a, ap, B.nw⟩) hb.2.2.2.2.1 f3
    have h4 := hb.2.2
    have h5 := out_new_entry (p := p) h1 h2 h3 ⟨f1, f2⟩
    show EsOk _ _ _ _ _ _ (putE B.es ⟨k, b, bp, p, a, ap, B.nw⟩)
    rw [q2]
    rw [q1] at h4 hl he
    exact new_ok h5 h4 hl q3 q4 he
  · exact h1
theorem goes_flow {O : Out} (h : Goes B k a ap b bp O) (hc : O.c = 0) : O.F.k = k ∧ O.F.a = B.ow ∧ O.F.b = b ∧ O.F.bp = bp := by
  rcases h with ⟨d, hd, rfl⟩ | ⟨l1, e, l2, hd, hs, he, hl, rfl⟩ | ⟨hd, he, hl, rfl⟩ | ⟨p, hd, he, hl, hp, rfl⟩ | ⟨hd, he, hl, hp, rfl⟩ <;> first | exact ⟨rfl, rfl, rfl, rfl⟩ | (simp at hc)
theorem goes_port {O : Out} (h1 : bookB B.ad B.ln B.ow B.lo B.hi B.nw B.ds B.es = true) (h : Goes B k a ap b bp O) (hc : O.c = 0) : 1 ≤ O.F.ap ∧ O.F.ap ≤ 65535 := by
  obtain ⟨p1, p2, p3, p4, p5, p6⟩ := book_iff.1 h1
  simp only [frameB, portsB, inB, Bool.and_eq_true, decide_eq_true_eq] at p1
  rcases h with ⟨d, hd, rfl⟩ | ⟨l1, e, l2, hd, hs, he, hl, rfl⟩ | ⟨hd, he, hl, rfl⟩ | ⟨p, hd, he, hl, hp, rfl⟩ | ⟨hd, he, hl, hp, rfl⟩
  · skip
    have := doors_mem p2 (List.mem_of_find?_eq_some hd)
    simp only [doorB, dokB, inB, Bool.and_eq_true, decide_eq_true_eq] at this
    exact this.1.1.1.2
  · skip
    have := p4 e (by rw [hs]; simp)
    simp only [entryB, eokB, inB, Bool.and_eq_true, decide_eq_true_eq] at this
    show 1 ≤ e.o ∧ e.o ≤ 65535
    omega
  · simp at hc
  · skip
    obtain ⟨f1, f2, f3⟩ := free_spec hp
    show 1 ≤ p ∧ p ≤ 65535
    omega
  · simp at hc
theorem takesE_iff {nw ow k a ap bp : Int} {d : En} : takesE nw ow k a ap ow bp d = true ↔ nw - d.l < 8 ∧ d.k = k ∧ d.o = bp ∧ d.pr = a ∧ d.pp = ap := by
  simp [takesE, liveB, flowEq]
theorem in_of_recv {ad ln ow lo hi nw : Int} {ds : List Dr} {es : List En} {k a ap b bp : Int} {r : Int × Int × Int} (h : mayIn ad ln ow lo hi nw ds es k a ap b bp = 0) (hr : recvO nw ow ds es k a ap b bp = some r) : inCode ad ln ow lo hi nw ds es k a ap b bp = 0 ∧ inSeat ad ln ow lo hi nw ds es k a ap b bp = r := by
  unfold inCode inSeat
  simp [h, hr]
end
noncomputable def tickB (B : Bk) : Bk := tickR B.ad B.ln B.ow B.lo B.hi B.nw B.ds B.es
def okB (B : Bk) : Prop := bookB B.ad B.ln B.ow B.lo B.hi B.nw B.ds B.es = true
/-- How a flow is outside that begins in a book without one to its peer. -/
noncomputable def outside (B : Bk) (f : Fl) : Fl :=
  if flowB f.k f.a f.ap f.b f.bp = true then
    if goesB B.ad B.ln B.ow f.a f.b = true then
      match B.ds.find? (sendsD f.k f.a f.ap) with
      | some d => ⟨f.k, B.ow, d.o, f.b, f.bp⟩
      | none => ⟨f.k, B.ow, B.lo, f.b, f.bp⟩
    else zeroF
  else zeroF
/-- A flow that went out: as it was inside, as it was outside, and when. -/
structure Wn where
  inn : Fl
  out : Fl
  at' : Int
def eqF (f g : Fl) : Bool := flowEq f.k f.a f.ap f.b f.bp g.k g.a g.ap g.b g.bp
theorem eqF_iff {f g : Fl} : eqF f g = true ↔ f = g := by
  cases f; cases g
  simp [eqF, flowEq]
/-- The last that went out as g. -/
def lastO (W : List Wn) (g : Fl) : Option Wn := W.reverse.find? fun w => eqF w.out g
theorem last_new (W : List Wn) (w : Wn) (g : Fl) (h : w.out = g) : lastO (W ++ [w]) g = some w := by
  simp [lastO, eqF_iff.2 h]
theorem last_old (W : List Wn) (w : Wn) (g : Fl) (h : w.out ≠ g) : lastO (W ++ [w]) g = lastO W g := by
  have : eqF w.out g = false := by
    cases hx : eqF w.out g with
    | false => rfl
    | true => exact absurd (eqF_iff.1 hx) h
  simp [lastO, this]
def outF (ow : Int) (e : En) : Fl := ⟨e.k, ow, e.o, e.pr, e.pp⟩
def flF (e : En) : Fl := ⟨e.k, e.i, e.ip, e.pr, e.pp⟩
def backF (f : Fl) : Fl := ⟨f.k, f.b, f.bp, f.a, f.ap⟩
/-- What the book and the list of what went out keep. -/
structure TopI (B0 B : Bk) (W : List Wn) : Prop where
  ok : okB B
  ad : B.ad = B0.ad
  ln : B.ln = B0.ln
  ow : B.ow = B0.ow
  lo : B.lo = B0.lo
  hi : B.hi = B0.hi
  ds : B.ds = B0.ds
  ent : ∀ e ∈ B.es, ∃ w, lastO W (outF B.ow e) = some w ∧ w.inn = flF e ∧ w.at' = e.l
  went : ∀ w ∈ W, w.at' ≤ B.nw ∧ (w.out.a = B.ow ∧ flowB w.out.k w.out.b w.out.bp B.ow w.out.ap = true ∧ peerB B.ad B.ln B.ow w.out.b = true) ∧
    (B.nw - w.at' < 12 → (∃ e ∈ B.es, w.out = outF B.ow e ∧ w.inn = flF e ∧ w.at' ≤ e.l) ∨ ∃ d ∈ B.ds, w.out.ap = d.o ∧ w.out.k = d.k ∧ w.inn = ⟨d.k, d.i, d.p, w.out.b, w.out.bp⟩)
theorem top_start {B : Bk} (hb : okB B) (he : B.es = []) : TopI B B [] := ⟨hb, rfl, rfl, rfl, rfl, rfl, rfl, by simp [he], by simp⟩
theorem top_tick {B0 B : Bk} {W : List Wn} (h : TopI B0 B W) (hn : B.nw < 1000000) : TopI B0 (tickB B) W ∧ (tickB B).nw = B.nw + 1 ∧ tickC B.ad B.ln B.ow B.lo B.hi B.nw B.ds B.es = 0 := by
  have hk : bookB B.ad B.ln B.ow B.lo B.hi B.nw B.ds B.es = true := h.ok
  have hn' : B.nw ≠ 1000000 := by omega
  have e1 : tickB B = ⟨B.ad, B.ln, B.ow, B.lo, B.hi, B.nw + 1, B.ds, tickL B.nw B.es⟩ := by unfold tickB tickR; rw [if_pos hk, if_neg hn']
  rw [e1]
  refine ⟨⟨tick_ok hk hn', h.ad, h.ln, h.ow, h.lo, h.hi, h.ds, fun e he => h.ent e (List.mem_filter.1 he).1, fun w hw => ?_⟩, rfl, by unfold tickC; rw [if_pos hk, if_neg hn']⟩
  obtain ⟨h1, h2, h3⟩ := h.went w hw
  refine ⟨by show w.at' ≤ B.nw + 1; omega, h2, fun hx => ?_⟩
  have hx' : B.nw + 1 - w.at' < 12 := hx
  rcases h3 (by omega) with ⟨e, he, x1, x2, x3⟩ | hd
  · exact Or.inl ⟨e, List.mem_filter.2 ⟨he, by simp only [keepB, decide_eq_true_eq]; omega⟩, x1, x2, x3⟩
  · exact Or.inr hd
theorem ent_port {B : Bk} (hb : okB B) {e : En} (he : e ∈ B.es) : B.lo ≤ e.o ∧ e.o ≤ B.hi := by
  have := (book_iff.1 hb).2.2.2.1 e he
  simp only [entryB, eokB, inB, Bool.and_eq_true, decide_eq_true_eq] at this
  omega
theorem door_port {B : Bk} (hb : okB B) {d : Dr} (hd : d ∈ B.ds) : ¬ (B.lo ≤ d.o ∧ d.o ≤ B.hi) := by
  have := doors_mem (book_iff.1 hb).2.1 hd
  simp only [doorB, dokB, Bool.and_eq_true, Bool.not_eq_true', inB, Bool.and_eq_false_iff, decide_eq_false_iff_not, decide_eq_true_eq] at this
  omega
theorem outF_key {ow : Int} {e d : En} (h : outF ow e = outF ow d) : e.k = d.k ∧ e.pr = d.pr ∧ e.pp = d.pp ∧ e.o = d.o := by
  simp only [outF, Fl.mk.injEq] at h
  exact ⟨h.1, h.2.2.2.1, h.2.2.2.2, h.2.2.1⟩
/-- A flow goes out: what is asked of it, and what is kept. -/
theorem top_out {B0 B : Bk} {W : List Wn} {f : Fl} (h : TopI B0 B W) (h2 : flowB f.k f.a f.ap f.b f.bp = true) (h3 : goesB B.ad B.ln B.ow f.a f.b = true) {O : Out} (hO : Goes B f.k f.a f.ap f.b f.bp O) (hc : O.c = 0) :
    (∀ w ∈ W, w.out = O.F → B.nw - w.at' < 12 → w.inn = f) ∧ TopI B0 O.R (W ++ [⟨f, O.F, B.nw⟩]) := by
  have hk : bookB B.ad B.ln B.ow B.lo B.hi B.nw B.ds B.es = true := h.ok
  have hok := goes_ok hk h2 h3 hO
  have hport := goes_port hk hO hc
  obtain ⟨g1, g2, g3, g4⟩ := goes_flow hO hc
  have hb := book_iff.1 hk
  have hnew : O.F.a = B.ow ∧ flowB O.F.k O.F.b O.F.bp B.ow O.F.ap = true ∧ peerB B.ad B.ln B.ow O.F.b = true := by
    have p1 := hb.1
    simp only [frameB, inB, Bool.and_eq_true, decide_eq_true_eq] at p1
    simp only [goesB, Bool.and_eq_true] at h3
    refine ⟨g2, ?_, by rw [g3]; exact h3.2⟩
    rw [g1, g3, g4]
    simp only [flowB, inB, Bool.and_eq_true, decide_eq_true_eq] at h2 ⊢
    omega
  rcases hO with ⟨d, hd, rfl⟩ | ⟨l1, e, l2, hd, hs, he, hl, rfl⟩ | ⟨hd, he, hl, rfl⟩ | ⟨p, hd, he, hl, hp, rfl⟩ | ⟨hd, he, hl, hp, rfl⟩
  · have hm := List.mem_of_find?_eq_some hd
    have hx := List.find?_some hd
    simp only [sendsD, Bool.and_eq_true, beq_iff_eq] at hx
    refine ⟨fun w hw ho hn => ?_, hok, h.ad, h.ln, h.ow, h.lo, h.hi, h.ds, fun e he => ?_, fun w hw => ?_⟩
    · rcases (h.went w hw).2.2 hn with ⟨e, he, x1, x2, x3⟩ | ⟨d', hd', x1, x2, x3⟩
      · rw [ho] at x1
        simp only [outF, Fl.mk.injEq] at x1
        exact absurd (x1.2.2.1 ▸ ent_port h.ok he) (door_port h.ok hm)
      · rw [ho] at x1 x2 x3
        have : d' = d := door_eq hb.2.1 hd' hm (x2.symm.trans hx.1.symm) x1.symm
        subst this
        rw [x3]
        cases f
        simp_all
    · obtain ⟨w, w1, w2⟩ := h.ent e he
      refine ⟨w, ?_, w2⟩
      rw [last_old]
      · exact w1
      · intro hx2
        simp only [outF, Fl.mk.injEq] at hx2
        exact absurd (hx2.2.2.1 ▸ ent_port h.ok he) (door_port h.ok hm)
    · rcases List.mem_append.1 hw with hw | hw
      · exact h.went w hw
      · obtain rfl : w = ⟨f, ⟨f.k, B.ow, d.o, f.b, f.bp⟩, B.nw⟩ := by simpa using hw
        refine ⟨Int.le_refl _, hnew, fun _ => Or.inr ⟨d, hm, rfl, hx.1.symm, ?_⟩⟩
        cases f
        simp_all
  · have hmem : e ∈ B.es := by rw [hs]; simp
    simp only [sendsE, flowEq, Bool.and_eq_true, beq_iff_eq] at he
    obtain ⟨⟨e1, e2, e3, e4, e5⟩, e6⟩ := he
    have hg : (⟨f.k, B.ow, e.o, f.b, f.bp⟩ : Fl) = outF B.ow e := by simp [outF, e1, e4, e5]
    have hf : f = flF e := by cases f; simp_all [flF]
    have hun : ∀ x ∈ l1 ++ l2, outF B.ow x ≠ outF B.ow e := by
      intro x hx hq
      obtain ⟨q1, q2, q3, q4⟩ := outF_key hq
      have hp := hb.2.2.2.2.1
      rw [hs, List.pairwise_append, List.pairwise_cons] at hp
      rcases List.mem_append.1 hx with hx | hx
      · have := lessE_iff.1 (hp.2.2 x hx e (by simp)); omega
      · have := lessE_iff.1 (hp.2.1.1 x hx); omega
    refine ⟨fun w hw ho hn => ?_, hok, h.ad, h.ln, h.ow, h.lo, h.hi, h.ds, fun x hx => ?_, fun w hw => ?_⟩
    · rcases (h.went w hw).2.2 hn with ⟨e', he', x1, x2, x3⟩ | ⟨d', hd', x1, x2, x3⟩
      · have ho' : w.out = outF B.ow e := ho.trans hg
        rw [ho'] at x1
        obtain ⟨q1, q2, q3, q4⟩ := outF_key x1
        have : e = e' := key_eq hb.2.2.2.2.1 hmem he' q1 q2 q3 q4
        rw [x2, ← this, hf]
      · rw [ho] at x1
        have x1' : e.o = d'.o := x1
        exact absurd (x1' ▸ ent_port h.ok hmem) (door_port h.ok hd')
    · have hx' : x ∈ l1 ++ again B.nw e :: l2 := hx
      by_cases hq : x = again B.nw e
      · subst hq
        exact ⟨_, last_new _ _ _ hg, hf, rfl⟩
      · have hx2 : x ∈ l1 ++ l2 := by
          rcases List.mem_append.1 hx' with h' | h'
          · simp [h']
          · rcases List.mem_cons.1 h' with h' | h'
            · exact absurd h' hq
            · simp [h']
        have hx3 : x ∈ B.es := by
          rw [hs]
          rcases List.mem_append.1 hx2 with h' | h' <;> simp [h']
        obtain ⟨w, w1, w2⟩ := h.ent x hx3
        refine ⟨w, ?_, w2⟩
        show lastO (W ++ [_]) (outF B.ow x) = some w
        rw [last_old]
        · exact w1
        · intro hz
          exact hun x hx2 (hz.symm.trans hg)
    · rcases List.mem_append.1 hw with hw | hw
      · obtain ⟨y1, y2, y3⟩ := h.went w hw
        refine ⟨y1, y2, fun hn => ?_⟩
        rcases y3 hn with ⟨e', he', x1, x2, x3⟩ | hd'
        · left
          rw [hs] at he'
          rcases List.mem_append.1 he' with h' | h'
          · exact ⟨e', by show e' ∈ l1 ++ again B.nw e :: l2; simp [h'], x1, x2, x3⟩
          · rcases List.mem_cons.1 h' with rfl | h'
            · exact ⟨again B.nw e', by show _ ∈ l1 ++ again B.nw e' :: l2; simp, x1, x2, y1⟩
            · exact ⟨e', by show e' ∈ l1 ++ again B.nw e :: l2; simp [h'], x1, x2, x3⟩
        · exact Or.inr hd'
      · obtain rfl : w = ⟨f, ⟨f.k, B.ow, e.o, f.b, f.bp⟩, B.nw⟩ := by simpa using hw
        exact ⟨Int.le_refl _, hnew, fun _ => Or.inl ⟨again B.nw e, by show _ ∈ l1 ++ again B.nw e :: l2; simp, hg, hf, Int.le_refl _⟩⟩
  · simp at hc
  · obtain ⟨f1, f2, f3⟩ := free_spec hp
    have hmem : ∀ x, x ∈ putE B.es ⟨f.k, f.b, f.bp, p, f.a, f.ap, B.nw⟩ ↔ x ∈ B.es ∨ x = ⟨f.k, f.b, f.bp, p, f.a, f.ap, B.nw⟩ := by
      intro x
      obtain ⟨l1, l2, q1, q2, _⟩ := put_split B.es ⟨f.k, f.b, f.bp, p, f.a, f.ap, B.nw⟩
      rw [q2]
      conv => rhs; rw [q1]
      simp only [List.mem_append, List.mem_cons]
      constructor
      · rintro (h | h | h)
        · exact Or.inl (Or.inl h)
        · exact Or.inr h
        · exact Or.inl (Or.inr h)
      · rintro ((h | h) | h)
        · exact Or.inl h
        · exact Or.inr (Or.inr h)
        · exact Or.inr (Or.inl h)
    have hno : ∀ x ∈ B.es, outF B.ow x ≠ ⟨f.k, B.ow, p, f.b, f.bp⟩ := by
      intro x hx hq
      simp only [outF, Fl.mk.injEq] at hq
      exact f3 x hx ⟨hq.1, hq.2.2.2.1, hq.2.2.2.2, hq.2.2.1⟩
    refine ⟨fun w hw ho hn => ?_, hok, h.ad, h.ln, h.ow, h.lo, h.hi, h.ds, fun x hx => ?_, fun w hw => ?_⟩
    · rcases (h.went w hw).2.2 hn with ⟨e', he', x1, x2, x3⟩ | ⟨d', hd', x1, x2, x3⟩
      · exact absurd (x1.symm.trans ho) (hno e' he')
      · rw [ho] at x1
        have x1' : p = d'.o := x1
        exact absurd (x1' ▸ ⟨f1, f2⟩) (door_port h.ok hd')
    · rcases (hmem x).1 hx with hx | rfl
      · obtain ⟨w, w1, w2⟩ := h.ent x hx
        refine ⟨w, ?_, w2⟩
        show lastO (W ++ [_]) (outF B.ow x) = some w
        rw [last_old]
        · exact w1
        · intro hz
          exact hno x hx hz.symm
      · exact ⟨_, last_new _ _ _ rfl, rfl, rfl⟩
    · rcases List.mem_append.1 hw with hw | hw
      · obtain ⟨y1, y2, y3⟩ := h.went w hw
        refine ⟨y1, y2, fun hn => ?_⟩
        rcases y3 hn with ⟨e', he', x1⟩ | hd'
        · exact Or.inl ⟨e', (hmem e').2 (Or.inl he'), x1⟩
        · exact Or.inr hd'
      · obtain rfl : w = ⟨f, ⟨f.k, B.ow, p, f.b, f.bp⟩, B.nw⟩ := by simpa using hw
        exact ⟨Int.le_refl _, hnew, fun _ => Or.inl ⟨_, (hmem _).2 (Or.inr rfl), rfl, rfl, Int.le_refl _⟩⟩
  · simp at hc
/-- What comes in, and not to a door, is the answer to what went out within eight ticks, and comes to who asked; all such answers come. -/
theorem top_in {B0 B : Bk} {W : List Wn} {f : Fl} (h : TopI B0 B W) (hd : ∀ d ∈ B.ds, ¬ (d.k = f.k ∧ d.o = f.bp)) :
    (inCode B.ad B.ln B.ow B.lo B.hi B.nw B.ds B.es f.k f.a f.ap f.b f.bp = 0 ↔ ∃ w, lastO W (backF f) = some w ∧ B.nw - w.at' < 8) ∧
    ∀ w, lastO W (backF f) = some w → B.nw - w.at' < 8 → (inSeat B.ad B.ln B.ow B.lo B.hi B.nw B.ds B.es f.k f.a f.ap f.b f.bp).2 = (w.inn.a, w.inn.ap) ∧ w.inn.k = f.k ∧ w.inn.b = f.a ∧ w.inn.bp = f.ap := by
  have hk : bookB B.ad B.ln B.ow B.lo B.hi B.nw B.ds B.es = true := h.ok
  have hb := book_iff.1 hk
  have hdn : B.ds.find? (takesD f.k f.bp) = none := by
    rw [List.find?_eq_none]
    intro d hm hx
    simp only [takesD, Bool.and_eq_true, beq_iff_eq] at hx
    exact hd d hm hx
  have fwd : ∀ w, lastO W (backF f) = some w → B.nw - w.at' < 8 → mayIn B.ad B.ln B.ow B.lo B.hi B.nw B.ds B.es f.k f.a f.ap f.b f.bp = 0 ∧ ∃ e ∈ B.es, recvO B.nw B.ow B.ds B.es f.k f.a f.ap f.b f.bp = some (e.k, e.i, e.ip) ∧ w.inn = flF e ∧ e.k = f.k ∧ e.pr = f.a ∧ e.pp = f.ap := by
    intro w hw hl
    have hm : w ∈ W := by
      have := List.mem_of_find?_eq_some hw
      simpa using this
    have ho : w.out = backF f := eqF_iff.1 (by simpa using List.find?_some hw)
    obtain ⟨y1, ⟨y2, y3, y4⟩, y5⟩ := h.went w hm
    rw [ho] at y2 y3 y4
    have y2' : f.b = B.ow := y2
    have hmay : mayIn B.ad B.ln B.ow B.lo B.hi B.nw B.ds B.es f.k f.a f.ap f.b f.bp = 0 := by
      refine may_of hk ?_ ?_
      · rw [y2']; exact y3
      · simp only [comesB, y2', beq_self_eq_true, Bool.true_and]; exact y4
    refine ⟨hmay, ?_⟩
    rcases y5 (by omega) with ⟨e, he, x1, x2, x3⟩ | ⟨d, hdm, x1, x2, x3⟩
    · rw [ho] at x1
      simp only [backF, outF, Fl.mk.injEq] at x1
      obtain ⟨z1, z2, z3, z4, z5⟩ := x1
      obtain ⟨w', w1, w2, w3⟩ := h.ent e he
      have hoe : outF B.ow e = backF f := by simp [backF, outF, z1, z2, z3, z4, z5]
      rw [hoe, hw] at w1
      obtain rfl : w = w' := by simpa using w1
      refine ⟨e, he, ?_, x2, z1.symm, z4.symm, z5.symm⟩
      have : B.es.find? (takesE B.nw B.ow f.k f.a f.ap f.b f.bp) = some e := by
        rw [y2']
        refine find_eq_of he (takesE_iff.2 ⟨by omega, z1.symm, z3.symm, z4.symm, z5.symm⟩) fun y hy hp => ?_
        obtain ⟨_, q1, q2, q3, q4⟩ := takesE_iff.1 hp
        exact key_eq hb.2.2.2.2.1 hy he (q1.trans z1) (q3.trans z4) (q4.trans z5) (q2.trans z3)
      simp [recvO, hdn, this]
    · rw [ho] at x1 x2
      exact absurd ⟨x2.symm, x1.symm⟩ (hd d hdm)
  refine ⟨⟨fun hc => ?_, fun ⟨w, hw, hl⟩ => ?_⟩, fun w hw hl => ?_⟩
  · unfold inCode at hc
    split at hc
    · rename_i hmay
      have h3 := (may_zero hmay).2.2
      have hbo : f.b = B.ow := by simp only [comesB, Bool.and_eq_true, beq_iff_eq] at h3; exact h3.1
      split at hc
      · rename_i hr
        cases he : B.es.find? (takesE B.nw B.ow f.k f.a f.ap f.b f.bp) with
        | none => simp [recvO, hdn, he] at hr
        | some e =>
          have hm := List.mem_of_find?_eq_some he
          have hx := List.find?_some he
          rw [hbo] at hx
          obtain ⟨q1, q2, q3, q4, q5⟩ := takesE_iff.1 hx
          obtain ⟨w, w1, w2, w3⟩ := h.ent e hm
          have hoe : outF B.ow e = backF f := by simp [backF, outF, q2, q3, q4, q5, hbo]
          exact ⟨w, hoe ▸ w1, by omega⟩
      · omega
    · rename_i hmay; exact absurd hc hmay
  · obtain ⟨hmay, e, he, hr, _⟩ := fwd w hw hl
    exact (in_of_recv hmay hr).1
  · obtain ⟨hmay, e, he, hr, hi, q1, q2, q3⟩ := fwd w hw hl
    rw [(in_of_recv hmay hr).2, hi]
    exact ⟨rfl, q1, q2, q3⟩
end Go.Proofs.YtcgjpmhjijmplaaGreatDoor
