/- Of the models alone: books that are ok stay ok, what comes in, what goes out and comes back; the order of flows that begin in one tick. -/
import Derived.Test.YtcgjpmhjijmplaaGreatDoorOutM
import Derived.Test.YtcgjpmhjijmplaaGreatDoorJoinG
import Derived.Test.YtcgjpmhjijmplaaGreatDoorTick3
namespace Go.Proofs.YtcgjpmhjijmplaaGreatDoor

theorem lessE_iff {e d : En} : lessE e d = true ↔ (e.k < d.k ∨ e.k = d.k ∧ (e.pr < d.pr ∨ e.pr = d.pr ∧ (e.pp < d.pp ∨ e.pp = d.pp ∧ e.o < d.o))) := by
  unfold lessE lessB
  by_cases h1 : e.k = d.k
  · by_cases h2 : e.pr = d.pr
    · by_cases h3 : e.pp = d.pp
      · simp [h1, h2, h3]
      · simp [h1, h2, h3]
    · simp [h1, h2]
  · simp [h1]
theorem lessE_trans {a b c : En} (h1 : lessE a b = true) (h2 : lessE b c = true) : lessE a c = true := by
  rw [lessE_iff] at *; omega
theorem lessE_no {a b : En} (h1 : lessE a b = true) : lessE b a = false := by
  cases h : lessE b a with
  | false => rfl
  | true => rw [lessE_iff] at *; omega
/-- Entries that are as the document asks, said of the list whole. -/
def EsOk (ad ln ow lo hi nw : Int) (es : List En) : Prop := es.length ≤ 16 ∧ (∀ e ∈ es, entryB ad ln ow lo hi nw e = true) ∧ es.Pairwise (fun e d => lessE e d = true) ∧ es.Pairwise (fun e d => twiceB nw e d = false)
open Classical in
theorem entriesB_iff {ad ln ow lo hi nw : Int} {es : List En} : entriesB ad ln ow lo hi nw es = true ↔ EsOk ad ln ow lo hi nw es := by
  unfold entriesB EsOk
  rw [decide_eq_true_eq]
  refine and_congr_right fun _ => ⟨fun h => ?_, fun h => ?_⟩
  · have hadj : ∀ (n i : Nat) (hi : i + n + 1 < es.length), lessE (es[i]'(by omega)) es[i + n + 1] = true := by
      intro n
      induction n with
      | zero => intro i hi; exact (h (i + 1) _ hi (by simp)).2.1 i _ rfl (by simp)
      | succ n ih =>
        intro i hi
        exact lessE_trans (ih i (by omega)) ((h (i + (n + 1) + 1) _ hi (by simp)).2.1 (i + n + 1) _ (by omega) (by simp))
    refine ⟨fun e he => ?_, List.pairwise_iff_getElem.2 fun i j hi hj hij => ?_, List.pairwise_iff_getElem.2 fun i j hi hj hij => ?_⟩
    · obtain ⟨i, hi, rfl⟩ := List.getElem_of_mem he
      exact (h i _ hi (by simp)).1
    · have := hadj (j - i - 1) i (by omega)
      have e1 : i + (j - i - 1) + 1 = j := by omega
      simpa [e1] using this
    · exact (h j _ hj (by simp)).2.2 i _ hij (by simp)
  · obtain ⟨h1, h2, h3⟩ := h
    intro i d hi hd
    have hd' : es[i] = d := by simpa [hi] using hd
    refine ⟨h1 d (List.mem_of_getElem? hd), fun j e hj he => ?_, fun j e hj he => ?_⟩
    · have hj' : j < es.length := by omega
      have he' : es[j] = e := by simpa [hj'] using he
      rw [← hd', ← he']
      exact List.pairwise_iff_getElem.1 h2 j i hj' hi (by omega)
    · have hj' : j < es.length := by omega
      have he' : es[j] = e := by simpa [hj'] using he
      rw [← hd', ← he']
      exact List.pairwise_iff_getElem.1 h3 j i hj' hi hj
theorem book_iff {ad ln ow lo hi nw : Int} {ds : List Dr} {es : List En} : bookB ad ln ow lo hi nw ds es = true ↔ frameB ad ln ow lo hi nw = true ∧ doorsB ad ln lo hi ds = true ∧ EsOk ad ln ow lo hi nw es := by
  unfold bookB
  rw [← entriesB_iff]
  simp [and_assoc]
open Classical in
theorem doors_mem {ad ln lo hi : Int} {ds : List Dr} (h : doorsB ad ln lo hi ds = true) {d : Dr} (hd : d ∈ ds) : doorB ad ln lo hi d = true := by
  unfold doorsB at h
  rw [decide_eq_true_eq] at h
  obtain ⟨i, hi, rfl⟩ := List.getElem_of_mem hd
  exact (h.2 i _ hi (by simp)).1
section
variable {ad ln ow lo hi nw : Int} {ds : List Dr} {es : List En} {k a ap b bp : Int}
theorem may_of (h1 : bookB ad ln ow lo hi nw ds es = true) (h2 : flowB k a ap b bp = true) (h3 : comesB ad ln ow a b = true) : mayIn ad ln ow lo hi nw ds es k a ap b bp = 0 := by
  unfold mayIn; rw [if_pos h1, if_pos h2, if_pos h3]
end
theorem key_eq {es : List En} (h : es.Pairwise (fun e d => lessE e d = true)) {e d : En} (he : e ∈ es) (hd : d ∈ es) (h1 : e.k = d.k) (h2 : e.pr = d.pr) (h3 : e.pp = d.pp) (h4 : e.o = d.o) : e = d := by
  obtain ⟨i, hi, rfl⟩ := List.getElem_of_mem he
  obtain ⟨j, hj, rfl⟩ := List.getElem_of_mem hd
  have hp := List.pairwise_iff_getElem.1 h
  rcases Nat.lt_trichotomy i j with x | x | x
  · have := lessE_iff.1 (hp i j hi hj x); omega
  · subst x; rfl
  · have := lessE_iff.1 (hp j i hj hi x); omega
open Classical in
theorem door_eq {ad ln lo hi : Int} {ds : List Dr} (h : doorsB ad ln lo hi ds = true) {e d : Dr} (he : e ∈ ds) (hd : d ∈ ds) (h1 : e.k = d.k) (h2 : e.o = d.o) : e = d := by
  unfold doorsB at h
  rw [decide_eq_true_eq] at h
  obtain ⟨i, hi, rfl⟩ := List.getElem_of_mem he
  obtain ⟨j, hj, rfl⟩ := List.getElem_of_mem hd
  rcases Nat.lt_trichotomy i j with x | x | x
  · have := (h.2 j ds[j] hj (by simp)).2 i ds[i] x (by simp)
    simp [pairB, h1, h2] at this
  · subst x; rfl
  · have := (h.2 i ds[i] hi (by simp)).2 j ds[j] x (by simp)
    simp [pairB, h1, h2] at this
theorem find_split {α : Type} {p : α → Bool} {xs : List α} {i : Nat} (h : xs.findIdx? p = some i) : ∃ l1 x l2, xs = l1 ++ x :: l2 ∧ l1.length = i ∧ p x = true ∧ ∀ y ∈ l1, p y = false := by
  induction xs generalizing i with
  | nil => simp at h
  | cons z zs ih =>
    rw [List.findIdx?_cons] at h
    split at h
    · rename_i hz
      obtain rfl : 0 = i := by simpa using h
      exact ⟨[], z, zs, rfl, rfl, hz, by simp⟩
    · rename_i hz
      cases hx : zs.findIdx? p with
      | none => simp [hx] at h
      | some j =>
        obtain ⟨l1, x, l2, rfl, h2, h3, h4⟩ := ih hx
        have hi : j + 1 = i := by simpa [hx] using h
        refine ⟨z :: l1, x, l2, rfl, by simp [h2, hi], h3, fun y hy => ?_⟩
        rcases List.mem_cons.1 hy with rfl | hy
        · simpa using hz
        · exact h4 y hy
theorem find_at_split {α : Type} {p : α → Bool} {l1 l2 : List α} {x : α} (hx : p x = true) (h : ∀ y ∈ l1, p y = false) : (l1 ++ x :: l2).findIdx? p = some l1.length := by
  induction l1 with
  | nil => simp [List.findIdx?_cons, hx]
  | cons z zs ih =>
    have hz : p z = false := h z (by simp)
    simp only [List.cons_append, List.findIdx?_cons, hz]
    rw [ih fun y hy => h y (List.mem_cons_of_mem _ hy)]
    simp
theorem modify_split {α : Type} (f : α → α) (l1 : List α) (x : α) (l2 : List α) : (l1 ++ x :: l2).modify l1.length f = l1 ++ f x :: l2 := by
  induction l1 with
  | nil => simp
  | cons z zs ih => simpa using ih
theorem get_split {α : Type} (l1 : List α) (x : α) (l2 : List α) : (l1 ++ x :: l2)[l1.length]? = some x := by simp
theorem find_eq_of {α : Type} {p : α → Bool} {xs : List α} {x : α} (hm : x ∈ xs) (hp : p x = true) (hu : ∀ y ∈ xs, p y = true → y = x) : xs.find? p = some x := by
  cases h : xs.find? p with
  | none => rw [List.find?_eq_none] at h; exact absurd hp (h x hm)
  | some y => rw [hu y (List.mem_of_find?_eq_some h) (List.find?_some h)]
theorem free_spec {es : List En} {k b bp lo hi p : Int} (h : freeP es k b bp lo hi = some p) : lo ≤ p ∧ p ≤ hi ∧ ∀ e ∈ es, ¬ (e.k = k ∧ e.pr = b ∧ e.pp = bp ∧ e.o = p) := by
  unfold freeP at h
  cases hf : (List.range (hi + 1 - lo).toNat).find? fun (i : Nat) => !es.any (takenE k b bp (lo + (i : Int))) with
  | none => rw [hf] at h; simp at h
  | some i =>
    rw [hf] at h
    obtain rfl : lo + (i : Int) = p := by simpa using h
    have h1 := List.mem_range.1 (List.mem_of_find?_eq_some hf)
    have h2 := List.find?_some hf
    simp only [Bool.not_eq_true', List.any_eq_false] at h2
    refine ⟨by omega, by omega, fun e he hx => h2 e he ?_⟩
    simp [takenE, hx]
theorem put_split (es : List En) (d : En) : ∃ l1 l2, es = l1 ++ l2 ∧ putE es d = l1 ++ d :: l2 ∧ (∀ e ∈ l1, lessE e d = true) ∧ ∀ e, l2.head? = some e → lessE e d = false := by
  refine ⟨es.takeWhile (lessE · d), es.dropWhile (lessE · d), List.takeWhile_append_dropWhile.symm, by simp [putE], fun e he => ?_, fun e he => ?_⟩
  · have := List.all_takeWhile (p := (lessE · d)) (l := es)
    rw [List.all_eq_true] at this
    exact this e he
  · have := List.head?_dropWhile_not (lessE · d) es
    rw [he] at this
    simpa using this
/-- A new entry, laid in where it belongs: the order stays. -/
theorem put_sorted {es : List En} {d : En} (h : es.Pairwise (fun e d => lessE e d = true)) (hd : ∀ e ∈ es, ¬ (e.k = d.k ∧ e.pr = d.pr ∧ e.pp = d.pp ∧ e.o = d.o)) : ∃ l1 l2, es = l1 ++ l2 ∧ putE es d = l1 ++ d :: l2 ∧ (∀ e ∈ l1, lessE e d = true) ∧ (∀ e ∈ l2, lessE d e = true) := by
  obtain ⟨l1, l2, h1, h2, h3, h4⟩ := put_split es d
  refine ⟨l1, l2, h1, h2, h3, ?_⟩
  subst h1
  cases l2 with
  | nil => simp
  | cons x xs =>
    have hx := h4 x rfl
    have hdx := hd x (by simp)
    have hlt : lessE d x = true := by
      cases hh : lessE d x with
      | true => rfl
      | false =>
        have e1 : ¬ lessE x d = true := by simp [hx]
        have e2 : ¬ lessE d x = true := by simp [hh]
        rw [lessE_iff] at e1 e2
        omega
    intro e he
    rcases List.mem_cons.1 he with rfl | he
    · exact hlt
    · have := (List.pairwise_append.1 h).2.1
      exact lessE_trans hlt ((List.pairwise_cons.1 this).1 e he)
section
variable {ad ln ow lo hi nw : Int} {ds : List Dr} {l1 l2 : List En} {e : En}
theorem again_ok (hn : 0 ≤ nw) (hl : liveB nw e.l = true) (h : EsOk ad ln ow lo hi nw (l1 ++ e :: l2)) : EsOk ad ln ow lo hi nw (l1 ++ again nw e :: l2) := by
  obtain ⟨h1, h2, h3, h4⟩ := h
  refine ⟨by simpa using h1, fun x hx => ?_, ?_, ?_⟩
  · have he := h2 e (by simp)
    rw [List.mem_append, List.mem_cons] at hx
    rcases hx with hx | rfl | hx
    · exact h2 x (by simp [hx])
    · show eokB ad ln ow lo hi nw e.k e.pr e.pp e.o e.i e.ip nw = true
      simp only [entryB, eokB, Bool.and_eq_true, inB, decide_eq_true_eq] at he ⊢
      obtain ⟨⟨k1, k2⟩, k3⟩ := he
      exact ⟨⟨k1, by omega, by omega⟩, by omega⟩
    · exact h2 x (by simp [hx])
  · rw [List.pairwise_append, List.pairwise_cons] at h3 ⊢
    obtain ⟨a1, ⟨a2, a3⟩, a4⟩ := h3
    refine ⟨a1, ⟨fun x hx => a2 x hx, a3⟩, fun x hx y hy => ?_⟩
    rcases List.mem_cons.1 hy with rfl | hy
    · exact a4 x hx e (by simp)
    · exact a4 x hx y (by simp [hy])
  · rw [List.pairwise_append, List.pairwise_cons] at h4 ⊢
    obtain ⟨a1, ⟨a2, a3⟩, a4⟩ := h4
    refine ⟨a1, ⟨fun x hx => ?_, a3⟩, fun x hx y hy => ?_⟩
    · have := a2 x hx
      have e1 : sameE (again nw e) x = sameE e x := rfl
      simp only [twiceB, hl, Bool.and_true, e1] at this ⊢
      simp [this]
    · rcases List.mem_cons.1 hy with rfl | hy
      · have := a4 x hx e (by simp)
        have e1 : sameE x (again nw e) = sameE x e := rfl
        simp only [twiceB, hl, Bool.and_true, e1] at this ⊢
        cases hs : sameE x e <;> simp_all
      · exact a4 x hx y (by simp [hy])
theorem new_ok {d : En} (hd : entryB ad ln ow lo hi nw d = true) (h : EsOk ad ln ow lo hi nw (l1 ++ l2)) (hlen : (l1 ++ l2).length ≠ 16) (h1 : ∀ e ∈ l1, lessE e d = true) (h2 : ∀ e ∈ l2, lessE d e = true) (ht : ∀ e ∈ l1 ++ l2, (sameE e d && liveB nw e.l) = false) : EsOk ad ln ow lo hi nw (l1 ++ d :: l2) := by
  obtain ⟨k1, k2, k3, k4⟩ := h
  have hsym : ∀ e, sameE d e = sameE e d := fun e => by
    rw [Bool.eq_iff_iff]
    simp only [sameE, flowEq, Bool.and_eq_true, beq_iff_eq]
    constructor <;> (rintro ⟨a, b, c, d, e⟩; exact ⟨a.symm, b.symm, c.symm, d.symm, e.symm⟩)
  refine ⟨?_, fun x hx => ?_, ?_, ?_⟩
  · simp at k1 hlen ⊢; omega
  · rw [List.mem_append, List.mem_cons] at hx
    rcases hx with hx | rfl | hx
    · exact k2 x (by simp [hx])
    · exact hd
    · exact k2 x (by simp [hx])
  · rw [List.pairwise_append] at k3
    rw [List.pairwise_append, List.pairwise_cons]
    refine ⟨k3.1, ⟨h2, k3.2.1⟩, fun x hx y hy => ?_⟩
    rcases List.mem_cons.1 hy with rfl | hy
    · exact h1 x hx
    · exact k3.2.2 x hx y hy
  · rw [List.pairwise_append] at k4
    rw [List.pairwise_append, List.pairwise_cons]
    refine ⟨k4.1, ⟨fun x hx => ?_, k4.2.1⟩, fun x hx y hy => ?_⟩
    · have := ht x (by simp [hx])
      simp only [twiceB, hsym]
      cases hs : sameE x d <;> simp_all
    · rcases List.mem_cons.1 hy with rfl | hy
      · have := ht x (by simp [hx])
        simp only [twiceB]
        cases hs : sameE x y <;> simp_all
      · exact k4.2.2 x hx y hy
end
section
variable {B : Bk} {k a ap b bp : Int}
/-- The ways of NatOut that are gone to the end. -/
def Goes (B : Bk) (k a ap b bp : Int) (O : Out) : Prop :=
  (∃ d, B.ds.find? (sendsD k a ap) = some d ∧ O = ⟨B, ⟨k, B.ow, d.o, b, bp⟩, 0⟩) ∨
  (∃ l1 e l2, B.ds.find? (sendsD k a ap) = none ∧ B.es = l1 ++ e :: l2 ∧ sendsE B.nw k a ap b bp e = true ∧ (∀ y ∈ l1, sendsE B.nw k a ap b bp y = false) ∧ O = ⟨⟨B.ad, B.ln, B.ow, B.lo, B.hi, B.nw, B.ds, l1 ++ again B.nw e :: l2⟩, ⟨k, B.ow, e.o, b, bp⟩, 0⟩) ∨
  (B.ds.find? (sendsD k a ap) = none ∧ (∀ y ∈ B.es, sendsE B.nw k a ap b bp y = false) ∧ B.es.length = 16 ∧ O = ⟨B, zeroF, 4⟩) ∨
  (∃ p, B.ds.find? (sendsD k a ap) = none ∧ (∀ y ∈ B.es, sendsE B.nw k a ap b bp y = false) ∧ B.es.length ≠ 16 ∧ freeP B.es k b bp B.lo B.hi = some p ∧ O = ⟨⟨B.ad, B.ln, B.ow, B.lo, B.hi, B.nw, B.ds, putE B.es ⟨k, b, bp, p, a, ap, B.nw⟩⟩, ⟨k, B.ow, p, b, bp⟩, 0⟩) ∨
  (B.ds.find? (sendsD k a ap) = none ∧ (∀ y ∈ B.es, sendsE B.nw k a ap b bp y = false) ∧ B.es.length ≠ 16 ∧ freeP B.es k b bp B.lo B.hi = none ∧ O = ⟨B, zeroF, 5⟩)
theorem out_goes (h1 : bookB B.ad B.ln B.ow B.lo B.hi B.nw B.ds B.es = true) (h2 : flowB k a ap b bp = true) (h3 : goesB B.ad B.ln B.ow a b = true) : Goes B k a ap b bp (outM B k a ap b bp) := by
  unfold outM
  rw [if_pos h1, if_pos h2, if_pos h3]
  cases hd : B.ds.find? (sendsD k a ap) with
  | some d => exact Or.inl ⟨d, hd, rfl⟩
  | none =>
    cases hi : B.es.findIdx? (sendsE B.nw k a ap b bp) with
    | some i =>
      obtain ⟨l1, x, l2, hs, rfl, hx, hl⟩ := find_split hi
      simp only [hs, modify_split, get_split]
      exact Or.inr (Or.inl ⟨l1, x, l2, hd, hs, hx, hl, rfl⟩)
    | none =>
      have he : ∀ y ∈ B.es, sendsE B.nw k a ap b bp y = false := by simpa [List.findIdx?_eq_none_iff] using hi
      by_cases hl : B.es.length = 16
      · simp only [hl, if_true]
        exact Or.inr (Or.inr (Or.inl ⟨hd, he, hl, rfl⟩))
      · simp only [hl, if_false]
        cases hp : freeP B.es k b bp B.lo B.hi with
        | some p => exact Or.inr (Or.inr (Or.inr (Or.inl ⟨p, hd, he, hl, hp, rfl⟩)))
        | none => exact Or.inr (Or.inr (Or.inr (Or.inr ⟨hd, he, hl, hp, rfl⟩)))
theorem out_new_entry {p : Int} (h1 : bookB B.ad B.ln B.ow B.lo B.hi B.nw B.ds B.es = true) (h2 : flowB k a ap b bp = true) (h3 : goesB B.ad B.ln B.ow a b = true) (hp : B.lo ≤ p ∧ p ≤ B.hi) : entryB B.ad B.ln B.ow B.lo B.hi B.nw ⟨k, b, bp, p, a, ap, B.nw⟩ = true := by
  have p1 := (book_iff.1 h1).1
  simp only [goesB, peerB, Bool.and_eq_true, Bool.not_eq_true', beq_eq_false_iff_ne] at h3
  simp only [flowB, inB, Bool.and_eq_true, decide_eq_true_eq] at h2
  simp only [frameB, inB, Bool.and_eq_true, decide_eq_true_eq] at p1
  simp only [entryB, eokB, inB, Bool.and_eq_true, Bool.not_eq_true', beq_eq_false_iff_ne, decide_eq_true_eq]
  refine ⟨⟨⟨⟨⟨⟨⟨⟨⟨?_, ?_⟩, h3.2.1⟩, h3.2.2⟩, ?_⟩, hp⟩, h3.1⟩, ?_⟩, ?_⟩, ?_⟩ <;> omega
theorem goes_ok {O : Out} (h1 : bookB B.ad B.ln B.ow B.lo B.hi B.nw B.ds B.es = true) (h2 : flowB k a ap b bp = true) (h3 : goesB B.ad B.ln B.ow a b = true) (h : Goes B k a ap b bp O) : bookB O.R.ad O.R.ln O.R.ow O.R.lo O.R.hi O.R.nw O.R.ds O.R.es = true := by
  have hb := book_iff.1 h1
  have hn : 0 ≤ B.nw := by
    have p1 := hb.1
    simp only [frameB, inB, Bool.and_eq_true, decide_eq_true_eq] at p1
    omega
  rcases h with ⟨d, hd, rfl⟩ | ⟨l1, e, l2, hd, hs, he, hl, rfl⟩ | ⟨hd, he, hl, rfl⟩ | ⟨p, hd, he, hl, hp, rfl⟩ | ⟨hd, he, hl, hp, rfl⟩
  · exact h1
  · skip
    refine book_iff.2 ⟨hb.1, hb.2.1, ?_⟩
    have h4 := hb.2.2
    rw [hs] at h4
    simp only [sendsE, Bool.and_eq_true] at he
    exact again_ok hn he.2 h4
  · exact h1
  · skip
    refine book_iff.2 ⟨hb.1, hb.2.1, ?_⟩
    obtain ⟨f1, f2, f3⟩ := free_spec hp
    obtain ⟨l1, l2, q1, q2, q3, q4⟩ := put_sorted (d := ⟨k, b, bp, p, a, ap, B.nw⟩) hb.2.2.2.2.1 f3
    have h4 := hb.2.2
    have h5 := out_new_entry (p := p) h1 h2 h3 ⟨f1, f2⟩
    show EsOk _ _ _ _ _ _ (putE B.es ⟨k, b, bp, p, a, ap, B.nw⟩)
    rw [q2]
    rw [q1] at h4 hl he
    exact new_ok h5 h4 hl q3 q4 he
  · exact h1
theorem goes_frame {O : Out} (h : Goes B k a ap b bp O) : O.R.ad = B.ad ∧ O.R.ln = B.ln ∧ O.R.ow = B.ow ∧ O.R.lo = B.lo ∧ O.R.hi = B.hi ∧ O.R.nw = B.nw ∧ O.R.ds = B.ds := by
  rcases h with ⟨d, hd, rfl⟩ | ⟨l1, e, l2, hd, hs, he, hl, rfl⟩ | ⟨hd, he, hl, rfl⟩ | ⟨p, hd, he, hl, hp, rfl⟩ | ⟨hd, he, hl, hp, rfl⟩ <;> exact ⟨rfl, rfl, rfl, rfl, rfl, rfl, rfl⟩
theorem goes_port {O : Out} (h1 : bookB B.ad B.ln B.ow B.lo B.hi B.nw B.ds B.es = true) (h : Goes B k a ap b bp O) (hc : O.c = 0) : 1 ≤ O.F.ap ∧ O.F.ap ≤ 65535 := by
  obtain ⟨p1, p2, p3, p4, p5, p6⟩ := book_iff.1 h1
  simp only [frameB, portsB, inB, Bool.and_eq_true, decide_eq_true_eq] at p1
  rcases h with ⟨d, hd, rfl⟩ | ⟨l1, e, l2, hd, hs, he, hl, rfl⟩ | ⟨hd, he, hl, rfl⟩ | ⟨p, hd, he, hl, hp, rfl⟩ | ⟨hd, he, hl, hp, rfl⟩
  · skip
    have := doors_mem p2 (List.mem_of_find?_eq_some hd)
    simp only [doorB, dokB, inB, Bool.and_eq_true, decide_eq_true_eq] at this
    exact this.1.1.1.2
  · skip
    have := p4 e (by rw [hs]; simp)
    simp only [entryB, eokB, inB, Bool.and_eq_true, decide_eq_true_eq] at this
    show 1 ≤ e.o ∧ e.o ≤ 65535
    omega
  · simp at hc
  · skip
    obtain ⟨f1, f2, f3⟩ := free_spec hp
    show 1 ≤ p ∧ p ≤ 65535
    omega
  · simp at hc
theorem no_door {ds : List Dr} {ad ln lo hi k o : Int} (h : doorsB ad ln lo hi ds = true) (h1 : lo ≤ o) (h2 : o ≤ hi) : ds.find? (takesD k o) = none := by
  rw [List.find?_eq_none]
  intro d hd
  have := doors_mem h hd
  simp only [doorB, dokB, Bool.and_eq_true, Bool.not_eq_true', inB, Bool.and_eq_false_iff, decide_eq_false_iff_not, decide_eq_true_eq] at this
  simp only [takesD, Bool.and_eq_true, beq_iff_eq, not_and]
  intro _ h3
  omega
theorem takesE_iff {nw ow k a ap bp : Int} {d : En} : takesE nw ow k a ap ow bp d = true ↔ nw - d.l < 8 ∧ d.k = k ∧ d.o = bp ∧ d.pr = a ∧ d.pp = ap := by
  simp [takesE, liveB, flowEq]
/-- What went out: its answer comes to who asked. -/
theorem goes_back {O : Out} (h1 : bookB B.ad B.ln B.ow B.lo B.hi B.nw B.ds B.es = true) (h2 : flowB k a ap b bp = true) (h3 : goesB B.ad B.ln B.ow a b = true) (h : Goes B k a ap b bp O) (hc : O.c = 0) : ∃ x, recvO O.R.nw O.R.ow O.R.ds O.R.es k b bp O.R.ow O.F.ap = some (x, a, ap) := by
  have h5 := goes_ok h1 h2 h3 h
  obtain ⟨p1, p2, p3, p4, p5, p6⟩ := book_iff.1 h1
  obtain ⟨s1, s2, s3, s4, s5, s6⟩ := book_iff.1 h5
  rcases h with ⟨d, hd, rfl⟩ | ⟨l1, e, l2, hd, hs, he, hl, rfl⟩ | ⟨hd, he, hl, rfl⟩ | ⟨p, hd, he, hl, hp, rfl⟩ | ⟨hd, he, hl, hp, rfl⟩
  · skip
    have hm := List.mem_of_find?_eq_some hd
    have hx := List.find?_some hd
    simp only [sendsD, Bool.and_eq_true, beq_iff_eq] at hx
    have : B.ds.find? (takesD k d.o) = some d := find_eq_of hm (by simp [takesD, hx]) fun y hy hp => by
      simp only [takesD, Bool.and_eq_true, beq_iff_eq] at hp
      exact door_eq p2 hy hm (by omega) (by omega)
    refine ⟨d.k, ?_⟩
    simp [recvO, this, hx.2.1, hx.2.2]
  · skip
    have hk := p4 e (by rw [hs]; simp)
    simp only [entryB, eokB, inB, Bool.and_eq_true, decide_eq_true_eq] at hk
    have hk2 : B.lo ≤ e.o ∧ e.o ≤ B.hi := by omega
    simp only [sendsE, flowEq, Bool.and_eq_true, beq_iff_eq] at he
    obtain ⟨⟨e1, e2, e3, e4, e5⟩, e6⟩ := he
    have hm : again B.nw e ∈ l1 ++ again B.nw e :: l2 := by simp
    have : (l1 ++ again B.nw e :: l2).find? (takesE B.nw B.ow k b bp B.ow e.o) = some (again B.nw e) := find_eq_of hm (takesE_iff.2 ⟨by show B.nw - B.nw < 8; omega, e1, rfl, e4, e5⟩) fun y hy hp => by
      obtain ⟨_, y1, y2, y3, y4⟩ := takesE_iff.1 hp
      exact key_eq s5 hy hm (y1.trans e1.symm) (y3.trans e4.symm) (y4.trans e5.symm) y2
    refine ⟨e.k, ?_⟩
    simp only [recvO, no_door p2 hk2.1 hk2.2, this, Option.map_some]
    show some (e.k, e.i, e.ip) = _
    rw [e2, e3]
  · simp at hc
  · skip
    obtain ⟨f1, f2, f3⟩ := free_spec hp
    have hm : (⟨k, b, bp, p, a, ap, B.nw⟩ : En) ∈ putE B.es ⟨k, b, bp, p, a, ap, B.nw⟩ := by simp [putE]
    have : (putE B.es ⟨k, b, bp, p, a, ap, B.nw⟩).find? (takesE B.nw B.ow k b bp B.ow p) = some ⟨k, b, bp, p, a, ap, B.nw⟩ := find_eq_of hm (takesE_iff.2 ⟨by show B.nw - B.nw < 8; omega, rfl, rfl, rfl, rfl⟩) fun y hy hx => by
      obtain ⟨_, y1, y2, y3, y4⟩ := takesE_iff.1 hx
      exact key_eq s5 hy hm y1 y3 y4 y2
    refine ⟨k, ?_⟩
    simp only [recvO, no_door p2 f1 f2, this, Option.map_some]
  · simp at hc
/-- Asked for once more it is the same, and the book as it was behind the first. -/
theorem goes_again {O : Out} (h1 : bookB B.ad B.ln B.ow B.lo B.hi B.nw B.ds B.es = true) (h2 : flowB k a ap b bp = true) (h3 : goesB B.ad B.ln B.ow a b = true) (h : Goes B k a ap b bp O) (hc : O.c = 0) : outM O.R k a ap b bp = O := by
  have h5 := goes_ok h1 h2 h3 h
  rcases h with ⟨d, hd, rfl⟩ | ⟨l1, e, l2, hd, hs, he, hl, rfl⟩ | ⟨hd, he, hl, rfl⟩ | ⟨p, hd, he, hl, hp, rfl⟩ | ⟨hd, he, hl, hp, rfl⟩
  · skip
    simp only [outM, h1, h2, h3, if_true, hd]
  · skip
    have he2 : sendsE B.nw k a ap b bp (again B.nw e) = true := by
      simp only [sendsE, flowEq, Bool.and_eq_true, beq_iff_eq] at he ⊢
      exact ⟨he.1, by simp [liveB, again]⟩
    have hx := find_at_split (l2 := l2) he2 hl
    simp only at h5
    simp only [outM, h5, h2, h3, if_true, hd, hx, modify_split, get_split, Option.map_some, Option.getD_some]
    simp [again]
  · simp at hc
  · skip
    obtain ⟨f1, f2, f3⟩ := free_spec hp
    obtain ⟨l1, l2, q1, q2, q3, q4⟩ := put_sorted (d := ⟨k, b, bp, p, a, ap, B.nw⟩) (book_iff.1 h1).2.2.2.2.1 f3
    have he2 : sendsE B.nw k a ap b bp ⟨k, b, bp, p, a, ap, B.nw⟩ = true := by simp [sendsE, flowEq, liveB]
    have hx := find_at_split (l1 := l1) (l2 := l2) he2 fun y hy => he y (by rw [q1]; simp [hy])
    simp only [q2] at h5 ⊢
    simp only [outM, h5, h2, h3, if_true, hd, hx, modify_split, get_split, Option.map_some, Option.getD_some]
    simp [again]
  · simp at hc
theorem in_of_recv {ad ln ow lo hi nw : Int} {ds : List Dr} {es : List En} {k a ap b bp : Int} {r : Int × Int × Int} (h : mayIn ad ln ow lo hi nw ds es k a ap b bp = 0) (hr : recvO nw ow ds es k a ap b bp = some r) : inCode ad ln ow lo hi nw ds es k a ap b bp = 0 ∧ inSeat ad ln ow lo hi nw ds es k a ap b bp = r := by
  unfold inCode inSeat
  simp [h, hr]
/-- THERE AND BACK, of the model. -/
theorem goes_in {O : Out} (h1 : bookB B.ad B.ln B.ow B.lo B.hi B.nw B.ds B.es = true) (h2 : flowB k a ap b bp = true) (h3 : goesB B.ad B.ln B.ow a b = true) (h : Goes B k a ap b bp O) (hc : O.c = 0) :
    inCode O.R.ad O.R.ln O.R.ow O.R.lo O.R.hi O.R.nw O.R.ds O.R.es k b bp O.R.ow O.F.ap = 0 ∧ (inSeat O.R.ad O.R.ln O.R.ow O.R.lo O.R.hi O.R.nw O.R.ds O.R.es k b bp O.R.ow O.F.ap).2 = (a, ap) := by
  obtain ⟨x, hx⟩ := goes_back h1 h2 h3 h hc
  have h5 := goes_ok h1 h2 h3 h
  have hp := goes_port h1 h hc
  obtain ⟨g1, g2, g3, g4, g5, g6, g7⟩ := goes_frame h
  have p1 := (book_iff.1 h1).1
  simp only [frameB, inB, Bool.and_eq_true, decide_eq_true_eq] at p1
  simp only [goesB, Bool.and_eq_true] at h3
  have hm : mayIn O.R.ad O.R.ln O.R.ow O.R.lo O.R.hi O.R.nw O.R.ds O.R.es k b bp O.R.ow O.F.ap = 0 := by
    refine may_of h5 ?_ ?_
    · simp only [flowB, inB, Bool.and_eq_true, decide_eq_true_eq] at h2 ⊢
      rw [g3]; omega
    · simp only [comesB, g1, g2, g3, h3.2, Bool.and_true, beq_self_eq_true]
  obtain ⟨i1, i2⟩ := in_of_recv hm hx
  exact ⟨i1, by rw [i2]⟩
end
end Go.Proofs.YtcgjpmhjijmplaaGreatDoor
