/- Of the models alone: books that are ok stay ok, what comes in, what goes out and comes back; the order of flows that begin in one tick. -/
import Derived.Test.YtcgjpmhjijmplaaGreatDoorOutM
import Derived.Test.YtcgjpmhjijmplaaGreatDoorJoinG
import Derived.Test.YtcgjpmhjijmplaaGreatDoorTick3
namespace Go.Proofs.YtcgjpmhjijmplaaGreatDoor

theorem lessE_iff {e d : En} : lessE e d = true ↔ (e.k < d.k ∨ e.k = d.k ∧ (e.pr < d.pr ∨ e.pr = d.pr ∧ (e.pp < d.pp ∨ e.pp = d.pp ∧ e.o < d.o))) := by
  unfold lessE lessB
  by_cases h1 : e.k = d.k
  · by_cases h2 : e.pr = d.pr
    · by_cases h3 : e.pp = d.pp
      · simp [h1, h2, h3]
      · simp [h1, h2, h3]
    · simp [h1, h2]
  · simp [h1]
theorem lessE_trans {a b c : En} (h1 : lessE a b = true) (h2 : lessE b c = true) : lessE a c = true := by
  rw [lessE_iff] at *; omega
theorem lessE_no {a b : En} (h1 : lessE a b = true) : lessE b a = false := by
  cases h : lessE b a with
  | false => rfl
  | true => rw [lessE_iff] at *; omega
/-- Entries that are as the document asks, said of the list whole. -/
def EsOk (ad ln ow lo hi nw : Int) (es : List En) : Prop := es.length ≤ 16 ∧ (∀ e ∈ es, entryB ad ln ow lo hi nw e = true) ∧ es.Pairwise (fun e d => lessE e d = true) ∧ es.Pairwise (fun e d => twiceB nw e d = false)
open Classical in
theorem entriesB_iff {ad ln ow lo hi nw : Int} {es : List En} : entriesB ad ln ow lo hi nw es = true ↔ EsOk ad ln ow lo hi nw es := by
  unfold entriesB EsOk
  rw [decide_eq_true_eq]
  refine and_congr_right fun _ => ⟨fun h => ?_, fun h => ?_⟩
  · have hadj : ∀ (n i : Nat) (hi : i + n + 1 < es.length), lessE (es[i]'(by omega)) es[i + n + 1] = true := by
      intro n
      induction n with
      | zero => intro i hi; exact (h (i + 1) _ hi (by simp)).2.1 i _ rfl (by simp)
      | succ n ih =>
        intro i hi
        exact lessE_trans (ih i (by omega)) ((h (i + (n + 1) + 1) _ hi (by simp)).2.1 (i + n + 1) _ (by omega) (by simp))
    refine ⟨fun e he => ?_, List.pairwise_iff_getElem.2 fun i j hi hj hij => ?_, List.pairwise_iff_getElem.2 fun i j hi hj hij => ?_⟩
    · obtain ⟨i, hi, rfl⟩ := List.getElem_of_mem he
      exact (h i _ hi (by simp)).1
    · have := hadj (j - i - 1) i (by omega)
      have e1 : i + (j - i - 1) + 1 = j := by omega
      simpa [e1] using this
    · exact (h j _ hj (by simp)).2.2 i _ hij (by simp)
  · obtain ⟨h1, h2, h3⟩ := h
    intro i d hi hd
    have hd' : es[i] = d := by simpa [hi] using hd
    refine ⟨h1 d (List.mem_of_getElem? hd), fun j e hj he => ?_, fun j e hj he => ?_⟩
    · have hj' : j < es.length := by omega
      have he' : es[j] = e := by simpa [hj'] using he
      rw [← hd', ← he']
      exact List.pairwise_iff_getElem.1 h2 j i hj' hi (by omega)
    · have hj' : j < es.length := by omega
      have he' : es[j] = e := by simpa [hj'] using he
      rw [← hd', ← he']
      exact List.pairwise_iff_getElem.1 h3 j i hj' hi hj
theorem book_iff {ad ln ow lo hi nw : Int} {ds : List Dr} {es : List En} : bookB ad ln ow lo hi nw ds es = true ↔ frameB ad ln ow lo hi nw = true ∧ doorsB ad ln lo hi ds = true ∧ EsOk ad ln ow lo hi nw es := by
  unfold bookB
  rw [← entriesB_iff]
  simp [and_assoc]
open Classical in
theorem doors_mem {ad ln lo hi : Int} {ds : List Dr} (h : doorsB ad ln lo hi ds = true) {d : Dr} (hd : d ∈ ds) : doorB ad ln lo hi d = true := by
  unfold doorsB at h
  rw [decide_eq_true_eq] at h
  obtain ⟨i, hi, rfl⟩ := List.getElem_of_mem hd
  exact (h.2 i _ hi (by simp)).1
theorem tick_ok {ad ln ow lo hi nw : Int} {ds : List Dr} {es : List En} (h : bookB ad ln ow lo hi nw ds es = true) (hn : nw ≠ 1000000) : bookB ad ln ow lo hi (nw + 1) ds (tickL nw es) = true := by
  rw [book_iff] at *
  obtain ⟨h1, h2, h3, h4, h5, h6⟩ := h
  refine ⟨?_, h2, ?_, fun e he => ?_, ?_, ?_⟩
  · simp only [frameB, Bool.and_eq_true, inB, decide_eq_true_eq] at h1 ⊢
    obtain ⟨h1, h7, h8⟩ := h1
    exact ⟨h1, by omega, by omega⟩
  · exact Nat.le_trans (List.length_filter_le _ _) h3
  · obtain ⟨he1, he2⟩ := List.mem_filter.1 he
    have := h4 e he1
    simp only [entryB, eokB, Bool.and_eq_true, inB, decide_eq_true_eq] at this ⊢
    simp only [keepB, decide_eq_true_eq] at he2
    obtain ⟨⟨h1, h7, h8⟩, h9⟩ := this
    exact ⟨⟨h1, by omega, by omega⟩, by omega⟩
  · exact h5.filter _
  · refine (h6.filter _).imp fun {e d} hx => ?_
    cases hs : sameE e d with
    | false => simp [twiceB, hs]
    | true =>
      simp only [twiceB, hs, Bool.true_and, liveB, Bool.and_eq_false_iff, decide_eq_false_iff_not] at hx ⊢
      omega
section
variable {ad ln ow lo hi nw : Int} {ds : List Dr} {es : List En} {k a ap b bp : Int}
end
theorem find_split {α : Type} {p : α → Bool} {xs : List α} {i : Nat} (h : xs.findIdx? p = some i) : ∃ l1 x l2, xs = l1 ++ x :: l2 ∧ l1.length = i ∧ p x = true ∧ ∀ y ∈ l1, p y = false := by
  induction xs generalizing i with
  | nil => simp at h
  | cons z zs ih =>
    rw [List.findIdx?_cons] at h
    split at h
    · rename_i hz
      obtain rfl : 0 = i := by simpa using h
      exact ⟨[], z, zs, rfl, rfl, hz, by simp⟩
    · rename_i hz
      cases hx : zs.findIdx? p with
      | none => simp [hx] at h
      | some j =>
        obtain ⟨l1, x, l2, rfl, h2, h3, h4⟩ := ih hx
        have hi : j + 1 = i := by simpa [hx] using h
        refine ⟨z :: l1, x, l2, rfl, by simp [h2, hi], h3, fun y hy => ?_⟩
        rcases List.mem_cons.1 hy with rfl | hy
        · simpa using hz
        · exact h4 y hy
theorem modify_split {α : Type} (f : α → α) (l1 : List α) (x : α) (l2 : List α) : (l1 ++ x :: l2).modify l1.length f = l1 ++ f x :: l2 := by
  induction l1 with
  | nil => simp
  | cons z zs ih => simpa using ih
theorem get_split {α : Type} (l1 : List α) (x : α) (l2 : List α) : (l1 ++ x :: l2)[l1.length]? = some x := by simp
theorem free_spec {es : List En} {k b bp lo hi p : Int} (h : freeP es k b bp lo hi = some p) : lo ≤ p ∧ p ≤ hi ∧ ∀ e ∈ es, ¬ (e.k = k ∧ e.pr = b ∧ e.pp = bp ∧ e.o = p) := by
  unfold freeP at h
  cases hf : (List.range (hi + 1 - lo).toNat).find? fun (i : Nat) => !es.any (takenE k b bp (lo + (i : Int))) with
  | none => rw [hf] at h; simp at h
  | some i =>
    rw [hf] at h
    obtain rfl : lo + (i : Int) = p := by simpa using h
    have h1 := List.mem_range.1 (List.mem_of_find?_eq_some hf)
    have h2 := List.find?_some hf
    simp only [Bool.not_eq_true', List.any_eq_false] at h2
    refine ⟨by omega, by omega, fun e he hx => h2 e he ?_⟩
    simp [takenE, hx]
theorem put_split (es : List En) (d : En) : ∃ l1 l2, es = l1 ++ l2 ∧ putE es d = l1 ++ d :: l2 ∧ (∀ e ∈ l1, lessE e d = true) ∧ ∀ e, l2.head? = some e → lessE e d = false := by
  refine ⟨es.takeWhile (lessE · d), es.dropWhile (lessE · d), List.takeWhile_append_dropWhile.symm, by simp [putE], fun e he => ?_, fun e he => ?_⟩
  · have := List.all_takeWhile (p := (lessE · d)) (l := es)
    rw [List.all_eq_true] at this
    exact this e he
  · have := List.head?_dropWhile_not (lessE · d) es
    rw [he] at this
    simpa using this
/-- A new entry, laid in where it belongs: the order stays. -/
theorem put_sorted {es : List En} {d : En} (h : es.Pairwise (fun e d => lessE e d = true)) (hd : ∀ e ∈ es, ¬ (e.k = d.k ∧ e.pr = d.pr ∧ e.pp = d.pp ∧ e.o = d.o)) : ∃ l1 l2, es = l1 ++ l2 ∧ putE es d = l1 ++ d :: l2 ∧ (∀ e ∈ l1, lessE e d = true) ∧ (∀ e ∈ l2, lessE d e = true) := by
  obtain ⟨l1, l2, h1, h2, h3, h4⟩ := put_split es d
  refine ⟨l1, l2, h1, h2, h3, ?_⟩
  subst h1
  cases l2 with
  | nil => simp
  | cons x xs =>
    have hx := h4 x rfl
    have hdx := hd x (by simp)
    have hlt : lessE d x = true := by
      cases hh : lessE d x with
      | true => rfl
      | false =>
        have e1 : ¬ lessE x d = true := by simp [hx]
        have e2 : ¬ lessE d x = true := by simp [hh]
        rw [lessE_iff] at e1 e2
        omega
    intro e he
    rcases List.mem_cons.1 he with rfl | he
    · exact hlt
    · have := (List.pairwise_append.1 h).2.1
      exact lessE_trans hlt ((List.pairwise_cons.1 this).1 e he)
section
variable {ad ln ow lo hi nw : Int} {ds : List Dr} {l1 l2 : List En} {e : En}
theorem again_ok (hn : 0 ≤ nw) (hl : liveB nw e.l = true) (h : EsOk ad ln ow lo hi nw (l1 ++ e :: l2)) : EsOk ad ln ow lo hi nw (l1 ++ again nw e :: l2) := by
  obtain ⟨h1, h2, h3, h4⟩ := h
  refine ⟨by simpa using h1, fun x hx => ?_, ?_, ?_⟩
  · have he := h2 e (by simp)
    rw [List.mem_append, List.mem_cons] at hx
    rcases hx with hx | rfl | hx
    · exact h2 x (by simp [hx])
    · show eokB ad ln ow lo hi nw e.k e.pr e.pp e.o e.i e.ip nw = true
      simp only [entryB, eokB, Bool.and_eq_true, inB, decide_eq_true_eq] at he ⊢
      obtain ⟨⟨k1, k2⟩, k3⟩ := he
      exact ⟨⟨k1, by omega, by omega⟩, by omega⟩
    · exact h2 x (by simp [hx])
  · rw [List.pairwise_append, List.pairwise_cons] at h3 ⊢
    obtain ⟨a1, ⟨a2, a3⟩, a4⟩ := h3
    refine ⟨a1, ⟨fun x hx => a2 x hx, a3⟩, fun x hx y hy => ?_⟩
    rcases List.mem_cons.1 hy with rfl | hy
    · exact a4 x hx e (by simp)
    · exact a4 x hx y (by simp [hy])
  · rw [List.pairwise_append, List.pairwise_cons] at h4 ⊢
    obtain ⟨a1, ⟨a2, a3⟩, a4⟩ := h4
    refine ⟨a1, ⟨fun x hx => ?_, a3⟩, fun x hx y hy => ?_⟩
    · have := a2 x hx
      have e1 : sameE (again nw e) x = sameE e x := rfl
      simp only [twiceB, hl, Bool.and_true, e1] at this ⊢
      simp [this]
    · rcases List.mem_cons.1 hy with rfl | hy
      · have := a4 x hx e (by simp)
        have e1 : sameE x (again nw e) = sameE x e := rfl
        simp only [twiceB, hl, Bool.and_true, e1] at this ⊢
        cases hs : sameE x e <;> simp_all
      · exact a4 x hx y (by simp [hy])
theorem new_ok {d : En} (hd : entryB ad ln ow lo hi nw d = true) (h : EsOk ad ln ow lo hi nw (l1 ++ l2)) (hlen : (l1 ++ l2).length ≠ 16) (h1 : ∀ e ∈ l1, lessE e d = true) (h2 : ∀ e ∈ l2, lessE d e = true) (ht : ∀ e ∈ l1 ++ l2, (sameE e d && liveB nw e.l) = false) : EsOk ad ln ow lo hi nw (l1 ++ d :: l2) := by
  obtain ⟨k1, k2, k3, k4⟩ := h
  have hsym : ∀ e, sameE d e = sameE e d := fun e => by
    rw [Bool.eq_iff_iff]
    simp only [sameE, flowEq, Bool.and_eq_true, beq_iff_eq]
    constructor <;> (rintro ⟨a, b, c, d, e⟩; exact ⟨a.symm, b.symm, c.symm, d.symm, e.symm⟩)
  refine ⟨?_, fun x hx => ?_, ?_, ?_⟩
  · simp at k1 hlen ⊢; omega
  · rw [List.mem_append, List.mem_cons] at hx
    rcases hx with hx | rfl | hx
    · exact k2 x (by simp [hx])
    · exact hd
    · exact k2 x (by simp [hx])
  · rw [List.pairwise_append] at k3
    rw [List.pairwise_append, List.pairwise_cons]
    refine ⟨k3.1, ⟨h2, k3.2.1⟩, fun x hx y hy => ?_⟩
    rcases List.mem_cons.1 hy with rfl | hy
    · exact h1 x hx
    · exact k3.2.2 x hx y hy
  · rw [List.pairwise_append] at k4
    rw [List.pairwise_append, List.pairwise_cons]
    refine ⟨k4.1, ⟨fun x hx => ?_, k4.2.1⟩, fun x hx y hy => ?_⟩
    · have := ht x (by simp [hx])
      simp only [twiceB, hsym]
      cases hs : sameE x d <;> simp_all
    · rcases List.mem_cons.1 hy with rfl | hy
      · have := ht x (by simp [hx])
        simp only [twiceB]
        cases hs : sameE x y <;> simp_all
      · exact k4.2.2 x hx y hy
end
section
variable {B : Bk} {k a ap b bp : Int}
/-- The ways of NatOut that are gone to the end. -/
def Goes (B : Bk) (k a ap b bp : Int) (O : Out) : Prop :=
  (∃ d, B.ds.find? (sendsD k a ap) = some d ∧ O = ⟨B, ⟨k, B.ow, d.o, b, bp⟩, 0⟩) ∨
  (∃ l1 e l2, B.ds.find? (sendsD k a ap) = none ∧ B.es = l1 ++ e :: l2 ∧ sendsE B.nw k a ap b bp e = true ∧ (∀ y ∈ l1, sendsE B.nw k a ap b bp y = false) ∧ O = ⟨⟨B.ad, B.ln, B.ow, B.lo, B.hi, B.nw, B.ds, l1 ++ again B.nw e :: l2⟩, ⟨k, B.ow, e.o, b, bp⟩, 0⟩) ∨
  (B.ds.find? (sendsD k a ap) = none ∧ (∀ y ∈ B.es, sendsE B.nw k a ap b bp y = false) ∧ B.es.length = 16 ∧ O = ⟨B, zeroF, 4⟩) ∨
  (∃ p, B.ds.find? (sendsD k a ap) = none ∧ (∀ y ∈ B.es, sendsE B.nw k a ap b bp y = false) ∧ B.es.length ≠ 16 ∧ freeP B.es k b bp B.lo B.hi = some p ∧ O = ⟨⟨B.ad, B.ln, B.ow, B.lo, B.hi, B.nw, B.ds, putE B.es ⟨k, b, bp, p, a, ap, B.nw⟩⟩, ⟨k, B.ow, p, b, bp⟩, 0⟩) ∨
  (B.ds.find? (sendsD k a ap) = none ∧ (∀ y ∈ B.es, sendsE B.nw k a ap b bp y = false) ∧ B.es.length ≠ 16 ∧ freeP B.es k b bp B.lo B.hi = none ∧ O = ⟨B, zeroF, 5⟩)
theorem out_goes (h1 : bookB B.ad B.ln B.ow B.lo B.hi B.nw B.ds B.es = true) (h2 : flowB k a ap b bp = true) (h3 : goesB B.ad B.ln B.ow a b = true) : Goes B k a ap b bp (outM B k a ap b bp) := by
  unfold outM
  rw [if_pos h1, if_pos h2, if_pos h3]
  cases hd : B.ds.find? (sendsD k a ap) with
  | some d => exact Or.inl ⟨d, hd, rfl⟩
  | none =>
    cases hi : B.es.findIdx? (sendsE B.nw k a ap b bp) with
    | some i =>
      obtain ⟨l1, x, l2, hs, rfl, hx, hl⟩ := find_split hi
      simp only [hs, modify_split, get_split]
      exact Or.inr (Or.inl ⟨l1, x, l2, hd, hs, hx, hl, rfl⟩)
    | none =>
      have he : ∀ y ∈ B.es, sendsE B.nw k a ap b bp y = false := by simpa [List.findIdx?_eq_none_iff] using hi
      by_cases hl : B.es.length = 16
      · simp only [hl, if_true]
        exact Or.inr (Or.inr (Or.inl ⟨hd, he, hl, rfl⟩))
      · simp only [hl, if_false]
        cases hp : freeP B.es k b bp B.lo B.hi with
        | some p => exact Or.inr (Or.inr (Or.inr (Or.inl ⟨p, hd, he, hl, hp, rfl⟩)))
        | none => exact Or.inr (Or.inr (Or.inr (Or.inr ⟨hd, he, hl, hp, rfl⟩)))
theorem out_new_entry {p : Int} (h1 : bookB B.ad B.ln B.ow B.lo B.hi B.nw B.ds B.es = true) (h2 : flowB k a ap b bp = true) (h3 : goesB B.ad B.ln B.ow a b = true) (hp : B.lo ≤ p ∧ p ≤ B.hi) : entryB B.ad B.ln B.ow B.lo B.hi B.nw ⟨k, b, bp, p, a, ap, B.nw⟩ = true := by
  have p1 := (book_iff.1 h1).1
  simp only [goesB, peerB, Bool.and_eq_true, Bool.not_eq_true', beq_eq_false_iff_ne] at h3
  simp only [flowB, inB, Bool.and_eq_true, decide_eq_true_eq] at h2
  simp only [frameB, inB, Bool.and_eq_true, decide_eq_true_eq] at p1
  simp only [entryB, eokB, inB, Bool.and_eq_true, Bool.not_eq_true', beq_eq_false_iff_ne, decide_eq_true_eq]
  refine ⟨⟨⟨⟨⟨⟨⟨⟨⟨?_, ?_⟩, h3.2.1⟩, h3.2.2⟩, ?_⟩, hp⟩, h3.1⟩, ?_⟩, ?_⟩, ?_⟩ <;> omega
theorem goes_ok {O : Out} (h1 : bookB B.ad B.ln B.ow B.lo B.hi B.nw B.ds B.es = true) (h2 : flowB k a ap b bp = true) (h3 : goesB B.ad B.ln B.ow a b = true) (h : Goes B k a ap b bp O) : bookB O.R.ad O.R.ln O.R.ow O.R.lo O.R.hi O.R.nw O.R.ds O.R.es = true := by
  have hb := book_iff.1 h1
  have hn : 0 ≤ B.nw := by
    have p1 := hb.1
    simp only [frameB, inB, Bool.and_eq_true, decide_eq_true_eq] at p1
    omega
  rcases h with ⟨d, hd, rfl⟩ | ⟨l1, e, l2, hd, hs, he, hl, rfl⟩ | ⟨hd, he, hl, rfl⟩ | ⟨p, hd, he, hl, hp, rfl⟩ | ⟨hd, he, hl, hp, rfl⟩
  · exact h1
  · skip
    refine book_iff.2 ⟨hb.1, hb.2.1, ?_⟩
    have h4 := hb.2.2
    rw [hs] at h4
    simp only [sendsE, Bool.and_eq_true] at he
    exact again_ok hn he.2 h4
  · exact h1
  · skip
    refine book_iff.2 ⟨hb.1, hb.2.1, ?_⟩
    obtain ⟨f1, f2, f3⟩ := free_spec hp
    obtain ⟨l1, l2, q1, q2, q3, q4⟩ := put_sorted (d := ⟨k, b, bp, p, a, ap, B.nw⟩) hb.2.2.2.2.1 f3
    have h4 := hb.2.2
    have h5 := out_new_entry (p := p) h1 h2 h3 ⟨f1, f2⟩
    show EsOk _ _ _ _ _ _ (putE B.es ⟨k, b, bp, p, a, ap, B.nw⟩)
    rw [q2]
    rw [q1] at h4 hl he
    exact new_ok h5 h4 hl q3 q4 he
  · exact h1
end
def okB (B : Bk) : Prop := bookB B.ad B.ln B.ow B.lo B.hi B.nw B.ds B.es = true
/-- Two lists in order that have the same members are the same. -/
theorem sorted_eq : ∀ {xs ys : List En}, xs.Pairwise (fun e d => lessE e d = true) → ys.Pairwise (fun e d => lessE e d = true) → (∀ e, e ∈ xs ↔ e ∈ ys) → xs = ys
  | [], [], _, _, _ => rfl
  | [], y :: ys, _, _, h => absurd ((h y).2 (by simp)) (by simp)
  | x :: xs, [], _, _, h => absurd ((h x).1 (by simp)) (by simp)
  | x :: xs, y :: ys, hx, hy, h => by
    obtain ⟨x1, x2⟩ := List.pairwise_cons.1 hx
    obtain ⟨y1, y2⟩ := List.pairwise_cons.1 hy
    have hirr : ∀ e : En, ¬ lessE e e = true := fun e h => by have := lessE_iff.1 h; omega
    have hxy : x = y := by
      have h1 : x ∈ y :: ys := (h x).1 (by simp)
      have h2 : y ∈ x :: xs := (h y).2 (by simp)
      rcases List.mem_cons.1 h1 with e | h1
      · exact e
      · rcases List.mem_cons.1 h2 with e | h2
        · exact e.symm
        · exact absurd (lessE_trans (y1 x h1) (x1 y h2)) (hirr y)
    subst hxy
    have ht : ∀ e, e ∈ xs ↔ e ∈ ys := fun e => ⟨fun he => by
      rcases List.mem_cons.1 ((h e).1 (List.mem_cons_of_mem _ he)) with rfl | h3
      · exact absurd (x1 e he) (hirr e)
      · exact h3, fun he => by
      rcases List.mem_cons.1 ((h e).2 (List.mem_cons_of_mem _ he)) with rfl | h3
      · exact absurd (y1 e he) (hirr e)
      · exact h3⟩
    rw [sorted_eq x2 y2 ht]
/-- The flow begins an entry: neither wrong, nor by a door. -/
def Begins (B : Bk) (f : Fl) : Prop := flowB f.k f.a f.ap f.b f.bp = true ∧ goesB B.ad B.ln B.ow f.a f.b = true ∧ B.ds.find? (sendsD f.k f.a f.ap) = none
def entOf (B : Bk) (f : Fl) : En := ⟨f.k, f.b, f.bp, B.lo, f.a, f.ap, B.nw⟩
/-- How a flow is outside that begins in a book without one to its peer. -/
noncomputable def outside (B : Bk) (f : Fl) : Fl :=
  if flowB f.k f.a f.ap f.b f.bp = true then
    if goesB B.ad B.ln B.ow f.a f.b = true then
      match B.ds.find? (sendsD f.k f.a f.ap) with
      | some d => ⟨f.k, B.ow, d.o, f.b, f.bp⟩
      | none => ⟨f.k, B.ow, B.lo, f.b, f.bp⟩
    else zeroF
  else zeroF
def Apk (f g : Fl) : Prop := ¬ (f.k = g.k ∧ f.b = g.b ∧ f.bp = g.bp)
/-- The book behind flows that began in one tick. -/
def Begun (B X : Bk) (fs : List Fl) : Prop := X.ad = B.ad ∧ X.ln = B.ln ∧ X.ow = B.ow ∧ X.lo = B.lo ∧ X.hi = B.hi ∧ X.nw = B.nw ∧ X.ds = B.ds ∧ okB X ∧ X.es.length ≤ fs.length ∧ ∀ e, e ∈ X.es ↔ ∃ f ∈ fs, Begins B f ∧ e = entOf B f
theorem begun_start {B : Bk} (hb : okB B) (he : B.es = []) : Begun B B [] := ⟨rfl, rfl, rfl, rfl, rfl, rfl, rfl, hb, by simp [he], fun e => by simp [he]⟩
theorem free_low {es : List En} {k b bp lo hi : Int} (hl : lo ≤ hi) (h : ∀ e ∈ es, ¬ (e.k = k ∧ e.pr = b ∧ e.pp = bp)) : freeP es k b bp lo hi = some lo := by
  obtain ⟨n, hn⟩ : ∃ n, (hi + 1 - lo).toNat = n + 1 := ⟨(hi - lo).toNat, by omega⟩
  unfold freeP
  rw [hn, List.range_succ_eq_map, List.find?_cons]
  have : (es.any (takenE k b bp lo)) = false := by
    rw [List.any_eq_false]
    intro e he
    have := h e he
    simp only [takenE, Bool.and_eq_true, beq_iff_eq]
    intro hx
    exact this ⟨hx.1, hx.2.1, hx.2.2.1⟩
  have h0 : lo + ((0 : Nat) : Int) = lo := by omega
  simp only [h0, this, Bool.not_false, Option.map_some]
theorem begun_step {B X : Bk} {fs : List Fl} {f : Fl} (h : Begun B X fs) (hl : fs.length ≤ 15) (ha : ∀ g ∈ fs, Apk g f) : (outM X f.k f.a f.ap f.b f.bp).F = outside B f ∧ Begun B (outM X f.k f.a f.ap f.b f.bp).R (fs ++ [f]) := by
  obtain ⟨h1, h2, h3, h4, h5, h6, h7, h8, h9, h10⟩ := h
  have hk : bookB X.ad X.ln X.ow X.lo X.hi X.nw X.ds X.es = true := h8
  have hap : ∀ e ∈ X.es, ¬ (e.k = f.k ∧ e.pr = f.b ∧ e.pp = f.bp) := fun e he hx => by
    obtain ⟨g, hg, _, rfl⟩ := (h10 e).1 he
    exact ha g hg hx
  have stay : ¬ Begins B f → Begun B X (fs ++ [f]) := fun hn => ⟨h1, h2, h3, h4, h5, h6, h7, h8, by simp; omega, fun e => by
    rw [h10]
    constructor
    · rintro ⟨g, hg, hx⟩; exact ⟨g, by simp [hg], hx⟩
    · rintro ⟨g, hg, hx, he⟩
      rcases List.mem_append.1 hg with hg | hg
      · exact ⟨g, hg, hx, he⟩
      · obtain rfl : g = f := by simpa using hg
        exact absurd hx hn⟩
  by_cases hf : flowB f.k f.a f.ap f.b f.bp = true
  · by_cases hg : goesB B.ad B.ln B.ow f.a f.b = true
    · have hg' : goesB X.ad X.ln X.ow f.a f.b = true := by rw [h1, h2, h3]; exact hg
      cases hd : B.ds.find? (sendsD f.k f.a f.ap) with
      | some d =>
        have e1 : outM X f.k f.a f.ap f.b f.bp = ⟨X, ⟨f.k, X.ow, d.o, f.b, f.bp⟩, 0⟩ := by
          unfold outM
          rw [if_pos hk, if_pos hf, if_pos hg', h7, hd]
        rw [e1]
        refine ⟨?_, stay fun hx => by have := hx.2.2; rw [hd] at this; cases this⟩
        simp only [outside, hf, hg, if_true, hd, h3]
      | none =>
        have hB : Begins B f := ⟨hf, hg, hd⟩
        have hd' : X.ds.find? (sendsD f.k f.a f.ap) = none := by rw [h7]; exact hd
        have hs : ∀ y ∈ X.es, sendsE X.nw f.k f.a f.ap f.b f.bp y = false := fun y hy => by
          cases hx : sendsE X.nw f.k f.a f.ap f.b f.bp y with
          | false => rfl
          | true =>
            simp only [sendsE, flowEq, Bool.and_eq_true, beq_iff_eq] at hx
            exact absurd ⟨hx.1.1, hx.1.2.2.2.1, hx.1.2.2.2.2⟩ (hap y hy)
        have hlo : X.lo ≤ X.hi := by
          have := (book_iff.1 hk).1
          simp only [frameB, portsB, inB, Bool.and_eq_true, decide_eq_true_eq] at this
          omega
        have hp : freeP X.es f.k f.b f.bp X.lo X.hi = some X.lo := free_low hlo hap
        have e1 : outM X f.k f.a f.ap f.b f.bp = ⟨⟨X.ad, X.ln, X.ow, X.lo, X.hi, X.nw, X.ds, putE X.es ⟨f.k, f.b, f.bp, X.lo, f.a, f.ap, X.nw⟩⟩, ⟨f.k, X.ow, X.lo, f.b, f.bp⟩, 0⟩ := by
          have hi : X.es.findIdx? (sendsE X.nw f.k f.a f.ap f.b f.bp) = none := by simpa [List.findIdx?_eq_none_iff] using hs
          have hl16 : X.es.length ≠ 16 := by omega
          unfold outM
          rw [if_pos hk, if_pos hf, if_pos hg', hd', hi]
          simp only [if_neg hl16, hp]
        have hok := goes_ok hk hf hg' (out_goes hk hf hg')
        rw [e1] at hok ⊢
        refine ⟨?_, h1, h2, h3, h4, h5, h6, h7, hok, ?_, fun e => ?_⟩
        · simp only [outside, hf, hg, if_true, hd, h3, h4]
        · obtain ⟨l1, l2, q1, q2, _⟩ := put_split X.es ⟨f.k, f.b, f.bp, X.lo, f.a, f.ap, X.nw⟩
          show (putE X.es ⟨f.k, f.b, f.bp, X.lo, f.a, f.ap, X.nw⟩).length ≤ _
          rw [q2]
          rw [q1] at h9
          simp at h9 ⊢
          omega
        · obtain ⟨l1, l2, q1, q2, _⟩ := put_split X.es ⟨f.k, f.b, f.bp, X.lo, f.a, f.ap, X.nw⟩
          show e ∈ putE X.es ⟨f.k, f.b, f.bp, X.lo, f.a, f.ap, X.nw⟩ ↔ _
          have hee : (⟨f.k, f.b, f.bp, X.lo, f.a, f.ap, X.nw⟩ : En) = entOf B f := by rw [h4, h6]; rfl
          have hm : e ∈ putE X.es ⟨f.k, f.b, f.bp, X.lo, f.a, f.ap, X.nw⟩ ↔ e ∈ X.es ∨ e = entOf B f := by
            rw [q2, hee]
            conv => rhs; rw [q1]
            simp only [List.mem_append, List.mem_cons]
            constructor
            · rintro (h | h | h)
              · exact Or.inl (Or.inl h)
              · exact Or.inr h
              · exact Or.inl (Or.inr h)
            · rintro ((h | h) | h)
              · exact Or.inl h
              · exact Or.inr (Or.inr h)
              · exact Or.inr (Or.inl h)
          rw [hm, h10]
          constructor
          · rintro (⟨g, hg, hx⟩ | rfl)
            · exact ⟨g, by simp [hg], hx⟩
            · exact ⟨f, by simp, hB, rfl⟩
          · rintro ⟨g, hg, hx, he⟩
            rcases List.mem_append.1 hg with hg | hg
            · exact Or.inl ⟨g, hg, hx, he⟩
            · obtain rfl : g = f := by simpa using hg
              exact Or.inr he
    · have hg' : ¬ goesB X.ad X.ln X.ow f.a f.b = true := by rw [h1, h2, h3]; exact hg
      have e1 : outM X f.k f.a f.ap f.b f.bp = ⟨X, zeroF, 3⟩ := by unfold outM; rw [if_pos hk, if_pos hf, if_neg hg']
      rw [e1]
      refine ⟨?_, stay fun hx => hg hx.2.1⟩
      unfold outside
      rw [if_pos hf, if_neg hg]
  · have e1 : outM X f.k f.a f.ap f.b f.bp = ⟨X, zeroF, 2⟩ := by unfold outM; rw [if_pos hk, if_neg hf]
    rw [e1]
    refine ⟨?_, stay fun hx => hf hx.1⟩
    unfold outside
    rw [if_neg hf]
/-- THE SAME, of the model: the book does not hang on the order. -/
theorem begun_same {B X Y : Bk} {fs gs : List Fl} (h : Begun B X fs) (h' : Begun B Y gs) (hp : ∀ f, f ∈ fs ↔ f ∈ gs) : X = Y := by
  obtain ⟨h1, h2, h3, h4, h5, h6, h7, h8, h9, h10⟩ := h
  obtain ⟨k1, k2, k3, k4, k5, k6, k7, k8, k9, k10⟩ := h'
  have he : X.es = Y.es := by
    refine sorted_eq (book_iff.1 h8).2.2.2.2.1 (book_iff.1 k8).2.2.2.2.1 fun e => ?_
    rw [h10, k10]
    constructor
    · rintro ⟨f, hf, hx⟩; exact ⟨f, (hp f).1 hf, hx⟩
    · rintro ⟨f, hf, hx⟩; exact ⟨f, (hp f).2 hf, hx⟩
  cases X; cases Y
  simp_all
end Go.Proofs.YtcgjpmhjijmplaaGreatDoor
