/- Plain lists and numbers: what the program asks of a book is what the document asks. -/
import Derived.Test.YtcgjpmhjijmplabGreatDoorImpl7
import Derived.Test.YtcgjpmhjijmplabGreatDoorSpec5
namespace Go.Proofs.YtcgjpmhjijmplabGreatDoor

theorem up_pairwise {α : Type} {R : α → α → Prop} (l : List α) : (∀ i d, i < l.length → l[i]? = some d → ∀ j e, j < i → l[j]? = some e → R e d) ↔ l.Pairwise R := by
  rw [List.pairwise_iff_getElem]
  constructor
  · intro h i j hi hj hij
    exact h j l[j] hj (by simp) i l[i] hij (by simp)
  · intro h i d hi hd j e hj he
    have hj' : j < l.length := by omega
    have e1 : l[i] = d := by simpa [hi] using hd
    have e2 : l[j] = e := by simpa [hj'] using he
    rw [← e1, ← e2]
    exact h j i hj' hi hj

theorem cmpI_cases (a b : Int) : (a < b ∧ cmpI a b = -1) ∨ (b < a ∧ cmpI a b = 1) ∨ (a = b ∧ cmpI a b = 0) := by
  unfold cmpI; split
  · left; omega
  · split
    · right; left; omega
    · right; right; omega
def dLex (e d : Dr) : Prop := e.k < d.k ∨ (e.k = d.k ∧ e.o < d.o)
theorem dAhead_iff (e d : Dr) : dAhead e d = true ↔ dLex e d := by
  unfold dAhead dAheadB dLex
  simp only [orI]
  rcases cmpI_cases e.k d.k with h | h | h <;> rcases cmpI_cases e.o d.o with g | g | g <;> simp only [h.2, g.2] <;> simp <;> omega
theorem dLex_trans {a b c : Dr} (h : dLex a b) (g : dLex b c) : dLex a c := by
  unfold dLex at *; omega
theorem pairB_iff (e d : Dr) : pairB e d = true ↔ dLex e d ∧ ¬ seatSame e d := by
  unfold pairB dLex seatSame
  simp only [Bool.not_eq_true', Bool.or_eq_false_iff, decide_eq_false_iff_not, Bool.and_eq_false_iff, beq_eq_false_iff_ne]
  constructor
  · rintro ⟨h1, h2⟩
    rcases h2 with h2 | ⟨h2, h3⟩
    · exact ⟨by omega, by rintro ⟨a, _⟩; exact h2 a⟩
    · refine ⟨by omega, ?_⟩
      rintro ⟨a, b, c⟩
      rcases h3 with h3 | h3
      · exact h3 b
      · exact h3 c
  · rintro ⟨h1, h2⟩
    refine ⟨by omega, ?_⟩
    by_cases hk : e.k = d.k
    · right
      refine ⟨by omega, ?_⟩
      by_cases hi : e.i = d.i
      · right; intro hp; exact h2 ⟨hk, hi, hp⟩
      · left; exact hi
    · left; exact hk
theorem ord_all {ds : List Dr} (h : DrOrd ds ds.length) : ∀ (i : Nat) d, ds[i]? = some d → ∀ (j : Nat) e, j < i → ds[j]? = some e → dLex e d := by
  intro i
  induction i with
  | zero => intro d hd j e hj; omega
  | succ i ih =>
    intro d hd j e hj he
    have hi : i + 1 < ds.length := get_lt hd
    obtain ⟨f, hf⟩ : ∃ f, ds[i]? = some f := ⟨ds[i], by simp⟩
    have h1 := (dAhead_iff f d).1 (h i f d hi hf hd)
    rcases Nat.lt_or_ge j i with h' | h'
    · exact dLex_trans (ih f hf j e h' he) h1
    · have : j = i := by omega
      subst this
      rw [some_one he hf]; exact h1

theorem doors_eq (ad ln lo hi : Int) (ds : List Dr) : doorsB ad ln lo hi ds = true ↔ drAllB ad ln lo hi ds = true ∧ drOrdB ds = true ∧ seatB ds = true := by
  simp only [doorsB, drAllB, drOrdB, seatB, decide_eq_true_eq]
  constructor
  · rintro ⟨hl, h⟩
    refine ⟨⟨hl, fun i d hi hd => (h i d hi hd).1⟩, ?_, ?_⟩
    · intro i d f hi hd hf
      exact (dAhead_iff d f).2 ((pairB_iff d f).1 ((h (i + 1) f hi hf).2 i d (by omega) hd)).1
    · intro i d hi hd j e hj he
      exact ((pairB_iff e d).1 ((h i d hi hd).2 j e hj he)).2
  · rintro ⟨⟨hl, ha⟩, ho, hs⟩
    refine ⟨hl, fun i d hi hd => ⟨ha i d hi hd, fun j e hj he => ?_⟩⟩
    exact (pairB_iff e d).2 ⟨ord_all ho i d hd j e hj he, hs i d hi hd j e hj he⟩

theorem cmpI_same {a b : Int} (h : a = b) : cmpI a b = 0 := by
  unfold cmpI; subst h; simp
theorem cmpI_ne {a b : Int} (h : ¬ a = b) : cmpI a b ≠ 0 ∧ (cmpI a b < 0 ↔ a < b) := by
  rcases cmpI_cases a b with g | g | g <;> rw [g.2] <;> refine ⟨by omega, ?_⟩ <;> constructor <;> intro _ <;> omega
theorem orI_step {a b : Int} {xs : List Int} : orI (cmpI a b :: xs) < 0 ↔ (if a = b then orI xs < 0 else a < b) := by
  by_cases h : a = b
  · rw [if_pos h, cmpI_same h]; simp [orI]
  · rw [if_neg h, orI, if_neg (cmpI_ne h).1]; exact (cmpI_ne h).2
theorem eAhead_iff (e d : En) : eAhead e d = lessE e d := by
  unfold eAhead eAheadB lessE lessB
  rw [Bool.eq_iff_iff, decide_eq_true_eq, orI_step, orI_step, orI_step, orI_step]
  have h0 : orI [] = 0 := rfl
  rw [h0]
  by_cases h1 : e.k = d.k <;> by_cases h2 : e.pr = d.pr <;> by_cases h3 : e.pp = d.pp <;> by_cases h4 : e.o = d.o <;> simp only [h1, h2, h3, h4, if_true, if_false, decide_eq_true_eq] <;> omega
theorem sameE_iff (e d : En) : sameE e d = true ↔ eflowSame e d := by
  simp [sameE, flowEq, eflowSame]
theorem pow_split (ln : Int) (l0 : 0 ≤ ln) (l1 : ln ≤ 16) : sz ln * ((2 ^ ln.toNat : Nat) : Int) = 65536 := by
  unfold sz
  rw [← Int.natCast_mul, ← Nat.pow_add]
  have : (16 - ln).toNat + ln.toNat = 16 := by omega
  rw [this]; rfl
theorem inside_fits {ad ln : Int} (l0 : 0 ≤ ln) (l1 : ln ≤ 16) (a0 : 0 ≤ ad) (a1 : ad ≤ 65535) (hr : remB ad ln = true) : ad + sz ln ≤ 65536 := by
  have hp := pow_split ln l0 l1
  obtain ⟨hs1, _⟩ := sz_bd ln l0
  have hm : ad % sz ln = 0 := by simpa [remB] using hr
  have hd : ad = sz ln * (ad / sz ln) := by have := Int.mul_ediv_add_emod ad (sz ln); omega
  generalize ad / sz ln = q at hd
  generalize ((2 ^ ln.toNat : Nat) : Int) = t at hp
  generalize sz ln = s at *
  have hq : q < t := by
    rcases Int.lt_or_le q t with h | h
    · exact h
    · have := Int.mul_le_mul_of_nonneg_left h (show 0 ≤ s by omega)
      omega
  have := Int.mul_le_mul_of_nonneg_left (show q + 1 ≤ t by omega) (show 0 ≤ s by omega)
  rw [Int.mul_add, Int.mul_one] at this
  omega
theorem ient_eq {ad ln ow lo hi nw : Int} (l0 : 0 ≤ ln) (l1 : ln ≤ 16) (a0 : 0 ≤ ad) (a1 : ad ≤ 65535) (hr : remB ad ln = true) (d : En) : ientE ad ln ow lo hi nw d = entryB ad ln ow lo hi nw d := by
  have hf := inside_fits l0 l1 a0 a1 hr
  have hi' : insB ad ln d.i = true → inB d.i 0 65535 = true := by
    intro h; simp [insB] at h; exact inB_mk (by omega) (by omega)
  unfold ientE ientB entryB eokB flowB peerB
  cases h1 : insB ad ln d.i
  · simp
  · rw [hi' h1]
    cases inB d.k 1 7 <;> cases inB d.pr 0 65535 <;> cases inB d.ip 1 65535 <;> cases inB d.pp 1 65535 <;> simp
theorem entries_eq {ad ln ow lo hi nw : Int} (l0 : 0 ≤ ln) (l1 : ln ≤ 16) (a0 : 0 ≤ ad) (a1 : ad ≤ 65535) (hr : remB ad ln = true) (es : List En) :
    entriesB ad ln ow lo hi nw es = true ↔ enAllB ad ln ow lo hi nw es = true ∧ enOrdB es = true ∧ eflowB (liveL nw es) = true := by
  have hlive : eflowUp (liveL nw es) (liveL nw es).length ↔ ∀ i d, i < es.length → es[i]? = some d → ∀ j e, j < i → es[j]? = some e → twiceB nw e d = false := by
    have h1 : eflowUp (liveL nw es) (liveL nw es).length ↔ (liveL nw es).Pairwise (fun e d => ¬ eflowSame e d) := up_pairwise (R := fun e d => ¬ eflowSame e d) _
    have h2 : (∀ i d, i < es.length → es[i]? = some d → ∀ j e, j < i → es[j]? = some e → twiceB nw e d = false) ↔ es.Pairwise (fun e d => twiceB nw e d = false) := up_pairwise (R := fun e d => twiceB nw e d = false) _
    rw [h1, h2, liveL, List.pairwise_filter]
    have : ∀ e d : En, (liveB nw e.l = true → liveB nw d.l = true → ¬ eflowSame e d) ↔ twiceB nw e d = false := by
      intro e d
      rw [← sameE_iff]
      unfold twiceB
      cases sameE e d <;> cases liveB nw d.l <;> cases liveB nw e.l <;> simp
    constructor
    · intro h; exact h.imp fun {a b} hab => (this a b).1 hab
    · intro h; exact h.imp fun {a b} hab => (this a b).2 hab
  simp only [entriesB, enAllB, enOrdB, eflowB, decide_eq_true_eq, hlive]
  constructor
  · rintro ⟨hl, h⟩
    refine ⟨⟨hl, fun i d hi hd => by rw [ient_eq l0 l1 a0 a1 hr]; exact (h i d hi hd).1⟩, ?_, fun i d hi hd => (h i d hi hd).2.2⟩
    intro i d f hi hd hf
    rw [eAhead_iff]
    exact (h (i + 1) f hi hf).2.1 i d rfl hd
  · rintro ⟨⟨hl, ha⟩, ho, hs⟩
    refine ⟨hl, fun i d hi hd => ⟨by rw [← ient_eq l0 l1 a0 a1 hr]; exact ha i d hi hd, ?_, hs i d hi hd⟩⟩
    intro j e hj he
    subst hj
    rw [← eAhead_iff]
    exact ho j e d hi he hd

theorem ibook_eq (ad ln ow lo hi nw : Int) (ds : List Dr) (es : List En) : ibookB ad ln ow lo hi nw ds es = bookB ad ln ow lo hi nw ds es := by
  rw [Bool.eq_iff_iff]
  have hf : frameB ad ln ow lo hi nw = true ↔ rangeB ad ln = true ∧ ownB ad ln ow = true ∧ portsB lo hi = true ∧ inB nw 0 1000000 = true := by
    simp [frameB, rangeB, ownB]; constructor
    · rintro ⟨⟨⟨⟨⟨⟨a, b⟩, c⟩, d⟩, e⟩, f⟩, g⟩; exact ⟨⟨⟨a, b⟩, c⟩, ⟨d, e⟩, f, g⟩
    · rintro ⟨⟨⟨a, b⟩, c⟩, ⟨d, e⟩, f, g⟩; exact ⟨⟨⟨⟨⟨⟨a, b⟩, c⟩, d⟩, e⟩, f⟩, g⟩
  have hb : bookB ad ln ow lo hi nw ds es = true ↔ frameB ad ln ow lo hi nw = true ∧ doorsB ad ln lo hi ds = true ∧ entriesB ad ln ow lo hi nw es = true := by
    simp [bookB, and_assoc]
  rw [hb, doors_eq]
  simp only [ibookB, decide_eq_true_eq]
  constructor
  · intro h
    have h0 : rangeB ad ln = true := h 0 (by omega)
    obtain ⟨⟨l0, l1⟩, ⟨a0, a1⟩⟩ := range_true h0
    have hr : remB ad ln = true := by simp [rangeB] at h0; exact h0.2
    exact ⟨hf.2 ⟨h0, h 1 (by omega), h 2 (by omega), h 3 (by omega)⟩, ⟨h 4 (by omega), h 5 (by omega), h 6 (by omega)⟩, (entries_eq l0 l1 a0 a1 hr es).2 ⟨h 7 (by omega), h 8 (by omega), h 9 (by omega)⟩⟩
  · rintro ⟨hfr, ⟨h4, h5, h6⟩, hen⟩
    obtain ⟨h0, h1, h2, h3⟩ := hf.1 hfr
    obtain ⟨⟨l0, l1⟩, ⟨a0, a1⟩⟩ := range_true h0
    have hr : remB ad ln = true := by simp [rangeB] at h0; exact h0.2
    obtain ⟨h7, h8, h9⟩ := (entries_eq l0 l1 a0 a1 hr es).1 hen
    intro j hj
    match j, hj with
    | 0, _ => exact h0
    | 1, _ => exact h1
    | 2, _ => exact h2
    | 3, _ => exact h3
    | 4, _ => exact h4
    | 5, _ => exact h5
    | 6, _ => exact h6
    | 7, _ => exact h7
    | 8, _ => exact h8
    | 9, _ => exact h9
end Go.Proofs.YtcgjpmhjijmplabGreatDoor
