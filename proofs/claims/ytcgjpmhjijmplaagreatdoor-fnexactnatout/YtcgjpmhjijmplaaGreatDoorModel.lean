/- Of the models alone: books that are ok stay ok, what comes in, what goes out and comes back; the order of flows that begin in one tick. -/
import Derived.Test.YtcgjpmhjijmplaaGreatDoorOutM
import Derived.Test.YtcgjpmhjijmplaaGreatDoorJoinG
import Derived.Test.YtcgjpmhjijmplaaGreatDoorTick3
namespace Go.Proofs.YtcgjpmhjijmplaaGreatDoor

theorem lessE_iff {e d : En} : lessE e d = true ↔ (e.k < d.k ∨ e.k = d.k ∧ (e.pr < d.pr ∨ e.pr = d.pr ∧ (e.pp < d.pp ∨ e.pp = d.pp ∧ e.o < d.o))) := by
  unfold lessE lessB
  by_cases h1 : e.k = d.k
  · by_cases h2 : e.pr = d.pr
    · by_cases h3 : e.pp = d.pp
      · simp [h1, h2, h3]
      · simp [h1, h2, h3]
    · simp [h1, h2]
  · simp [h1]
theorem lessE_trans {a b c : En} (h1 : lessE a b = true) (h2 : lessE b c = true) : lessE a c = true := by
  rw [lessE_iff] at *; omega
theorem lessE_no {a b : En} (h1 : lessE a b = true) : lessE b a = false := by
  cases h : lessE b a with
  | false => rfl
  | true => rw [lessE_iff] at *; omega
/-- Entries that are as the document asks, said of the list whole. -/
def EsOk (ad ln ow lo hi nw : Int) (es : List En) : Prop := es.length ≤ 16 ∧ (∀ e ∈ es, entryB ad ln ow lo hi nw e = true) ∧ es.Pairwise (fun e d => lessE e d = true) ∧ es.Pairwise (fun e d => twiceB nw e d = false)
open Classical in
theorem entriesB_iff {ad ln ow lo hi nw : Int} {es : List En} : entriesB ad ln ow lo hi nw es = true ↔ EsOk ad ln ow lo hi nw es := by
  unfold entriesB EsOk
  rw [decide_eq_true_eq]
  refine and_congr_right fun _ => ⟨fun h => ?_, fun h => ?_⟩
  · have hadj : ∀ (n i : Nat) (hi : i + n + 1 < es.length), lessE (es[i]'(by omega)) es[i + n + 1] = true := by
      intro n
      induction n with
      | zero => intro i hi; exact (h (i + 1) _ hi (by simp)).2.1 i _ rfl (by simp)
      | succ n ih =>
        intro i hi
        exact lessE_trans (ih i (by omega)) ((h (i + (n + 1) + 1) _ hi (by simp)).2.1 (i + n + 1) _ (by omega) (by simp))
    refine ⟨fun e he => ?_, List.pairwise_iff_getElem.2 fun i j hi hj hij => ?_, List.pairwise_iff_getElem.2 fun i j hi hj hij => ?_⟩
    · obtain ⟨i, hi, rfl⟩ := List.getElem_of_mem he
      exact (h i _ hi (by simp)).1
    · have := hadj (j - i - 1) i (by omega)
      have e1 : i + (j - i - 1) + 1 = j := by omega
      simpa [e1] using this
    · exact (h j _ hj (by simp)).2.2 i _ hij (by simp)
  · obtain ⟨h1, h2, h3⟩ := h
    intro i d hi hd
    have hd' : es[i] = d := by simpa [hi] using hd
    refine ⟨h1 d (List.mem_of_getElem? hd), fun j e hj he => ?_, fun j e hj he => ?_⟩
    · have hj' : j < es.length := by omega
      have he' : es[j] = e := by simpa [hj'] using he
      rw [← hd', ← he']
      exact List.pairwise_iff_getElem.1 h2 j i hj' hi (by omega)
    · have hj' : j < es.length := by omega
      have he' : es[j] = e := by simpa [hj'] using he
      rw [← hd', ← he']
      exact List.pairwise_iff_getElem.1 h3 j i hj' hi hj
theorem book_iff {ad ln ow lo hi nw : Int} {ds : List Dr} {es : List En} : bookB ad ln ow lo hi nw ds es = true ↔ frameB ad ln ow lo hi nw = true ∧ doorsB ad ln lo hi ds = true ∧ EsOk ad ln ow lo hi nw es := by
  unfold bookB
  rw [← entriesB_iff]
  simp [and_assoc]
section
variable {ad ln ow lo hi nw : Int} {ds : List Dr} {es : List En} {k a ap b bp : Int}
end
section
variable {ad ln ow lo hi nw : Int} {ds : List Dr} {l1 l2 : List En} {e : En}
end
section
variable {B : Bk} {k a ap b bp : Int}
end
end Go.Proofs.YtcgjpmhjijmplaaGreatDoor
