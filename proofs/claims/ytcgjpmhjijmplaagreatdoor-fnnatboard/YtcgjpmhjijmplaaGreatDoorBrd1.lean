/- The board as a text: its lines, and how many new lines it has. -/
import Derived.Test.YtcgjpmhjijmplaaGreatDoorSpec5
import Derived.Lib.ItoaLen
import Derived.Lib.Join
import Derived.Lib.Strings
namespace Go.Proofs.YtcgjpmhjijmplaaGreatDoor

/-- A text by its bytes. -/
abbrev St (l : List UInt8) : ByteArray := ⟨l.toArray⟩
theorem st_app (l m : List UInt8) : St l ++ St m = St (l ++ m) := by
  apply ByteArray.ext
  simp [St]
/-- An address and a port. -/
def atL (a p : Int) : List UInt8 := Lib.itoa (a / 256) ++ (46 :: (Lib.itoa (a % 256) ++ (58 :: Lib.itoa p)))
def nowL (nw : Int) : List UInt8 := 110 :: 111 :: 119 :: 32 :: Lib.itoa nw
def doorL (ow : Int) (d : Dr) : List UInt8 := 100 :: 111 :: 111 :: 114 :: 32 :: (Lib.itoa d.k ++ (32 :: (atL ow d.o ++ (32 :: 116 :: 111 :: 32 :: atL d.i d.p))))
def leftW (nw l : Int) : List UInt8 := if liveB nw l then [108, 101, 102, 116] else [114, 101, 115, 116, 115]
def leftN (nw l : Int) : Int := if liveB nw l then 8 - (nw - l) else 12 - (nw - l)
def flowL (ow nw : Int) (e : En) : List UInt8 := 102 :: 108 :: 111 :: 119 :: 32 :: (Lib.itoa e.k ++ (32 :: (atL e.i e.ip ++ (32 :: 97 :: 115 :: 32 :: (atL ow e.o ++ (32 :: 116 :: 111 :: 32 :: (atL e.pr e.pp ++ (32 :: (leftW nw e.l ++ (32 :: Lib.itoa (leftN nw e.l)))))))))))
/-- The lines of the doors; of the entries. -/
def doorsT (ow : Int) (ds : List Dr) : List UInt8 := ds.flatMap fun d => doorL ow d ++ [10]
def flowsT (ow nw : Int) (es : List En) : List UInt8 := es.flatMap fun e => flowL ow nw e ++ [10]
def boardT (ow nw : Int) (ds : List Dr) (es : List En) : List UInt8 := (nowL nw ++ [10]) ++ (doorsT ow ds ++ flowsT ow nw es)
theorem doorsT_snoc (ow : Int) (ds : List Dr) (d : Dr) : doorsT ow (ds ++ [d]) = doorsT ow ds ++ (doorL ow d ++ [10]) := by simp [doorsT]
theorem flowsT_snoc (ow nw : Int) (es : List En) (e : En) : flowsT ow nw (es ++ [e]) = flowsT ow nw es ++ (flowL ow nw e ++ [10]) := by simp [flowsT]
/-- No new line in a number. -/
theorem dec_count (u : Nat) : (Lib.decDigits u).count 10 = 0 := by
  induction u using Nat.strongRecOn with
  | _ u ih =>
    have h0 : ∀ v : Nat, v < 10 → [UInt8.ofNat (48 + v)].count 10 = 0 := by decide
    rw [Lib.decDigits]
    split
    · exact h0 u (by assumption)
    · rw [List.count_append, ih (u / 10) (by omega), h0 _ (by omega)]
theorem itoa_count (n : Int) : (Lib.itoa n).count 10 = 0 := by
  unfold Lib.itoa
  split
  · rw [List.count_cons, dec_count]
    decide
  · exact dec_count _
theorem atL_count (a p : Int) : (atL a p).count 10 = 0 := by
  simp [atL, List.count_append, itoa_count]
theorem nowL_count (nw : Int) : (nowL nw).count 10 = 0 := by
  simp [nowL, itoa_count]
theorem doorL_count (ow : Int) (d : Dr) : (doorL ow d).count 10 = 0 := by
  simp [doorL, List.count_append, itoa_count, atL_count]
theorem leftW_count (nw l : Int) : (leftW nw l).count 10 = 0 := by
  unfold leftW
  split <;> decide
theorem flowL_count (ow nw : Int) (e : En) : (flowL ow nw e).count 10 = 0 := by
  simp [flowL, List.count_append, itoa_count, atL_count, leftW_count]
theorem doorsT_count (ow : Int) (ds : List Dr) : (doorsT ow ds).count 10 = ds.length := by
  unfold doorsT
  induction ds with
  | nil => rfl
  | cons d ds ih => simp [List.flatMap_cons, List.count_append, ih, doorL_count]
theorem flowsT_count (ow nw : Int) (es : List En) : (flowsT ow nw es).count 10 = es.length := by
  unfold flowsT
  induction es with
  | nil => rfl
  | cons d ds ih => simp [List.flatMap_cons, List.count_append, ih, flowL_count]
theorem boardT_count (ow nw : Int) (ds : List Dr) (es : List En) : (boardT ow nw ds es).count 10 = 1 + ds.length + es.length := by
  simp [boardT, List.count_append, nowL_count, doorsT_count, flowsT_count]; omega
/-- How long a text is at most. -/
theorem itoa_len {n : Int} (h0 : 0 ≤ n) (h1 : n ≤ 100000000) : (Lib.itoa n).length ≤ 21 := Lib.itoa_length_le n (by omega) (by omega)
theorem atL_len {a p : Int} (h0 : 0 ≤ a) (h1 : a ≤ 1000000) (h2 : 0 ≤ p) (h3 : p ≤ 1000000) : (atL a p).length ≤ 70 := by
  have h1 := itoa_len (n := a / 256) (by omega) (by omega)
  have h2 := itoa_len (n := a % 256) (by omega) (by omega)
  have h3 := itoa_len (n := p) (by omega) (by omega)
  simp only [atL, List.length_append, List.length_cons]
  omega
/-- Numbers that the board writes. -/
def DNum (d : Dr) : Prop := (0 ≤ d.k ∧ d.k ≤ 1000000) ∧ (0 ≤ d.o ∧ d.o ≤ 1000000) ∧ (0 ≤ d.i ∧ d.i ≤ 1000000) ∧ (0 ≤ d.p ∧ d.p ≤ 1000000)
def ENum (nw : Int) (e : En) : Prop := ((0 ≤ e.k ∧ e.k ≤ 1000000) ∧ (0 ≤ e.pr ∧ e.pr ≤ 1000000) ∧ (0 ≤ e.pp ∧ e.pp ≤ 1000000)) ∧ ((0 ≤ e.o ∧ e.o ≤ 1000000) ∧ (0 ≤ e.i ∧ e.i ≤ 1000000) ∧ (0 ≤ e.ip ∧ e.ip ≤ 1000000)) ∧ (0 ≤ e.l ∧ e.l ≤ nw) ∧ nw - e.l < 12
theorem sz_le (ln : Int) (h : 0 ≤ ln) : sz ln ≤ 65536 := by
  unfold sz
  have : 2 ^ (16 - ln).toNat ≤ 2 ^ 16 := Nat.pow_le_pow_right (by decide) (by omega)
  omega
theorem book_nums {ad ln ow lo hi nw : Int} {ds : List Dr} {es : List En} (h : bookB ad ln ow lo hi nw ds es = true) : (0 ≤ ow ∧ ow ≤ 65535) ∧ (0 ≤ nw ∧ nw ≤ 1000000) ∧ (ds.length ≤ 6 ∧ es.length ≤ 16) ∧ (∀ (i : Nat) d, ds[i]? = some d → DNum d) ∧ ∀ (i : Nat) d, es[i]? = some d → ENum nw d := by
  simp only [bookB, Bool.and_eq_true] at h
  obtain ⟨⟨hf, hd⟩, he⟩ := h
  obtain ⟨hl, ha, how, hp, hn⟩ := frameB_true hf
  have hs := sz_le ln hl.1
  simp only [doorsB, decide_eq_true_eq] at hd
  simp only [entriesB, decide_eq_true_eq] at he
  refine ⟨how, hn, ⟨hd.1, he.1⟩, fun i d hi => ?_, fun i d hi => ?_⟩
  · have := (hd.2 i d (List.getElem?_eq_some_iff.1 hi).1 hi).1
    simp only [doorB, dokB, insB, inB, Bool.and_eq_true, decide_eq_true_eq] at this
    unfold DNum
    omega
  · have := (he.2 i d (List.getElem?_eq_some_iff.1 hi).1 hi).1
    simp only [entryB, eokB, insB, inB, Bool.and_eq_true, decide_eq_true_eq] at this
    unfold ENum
    omega
theorem doorL_len {ow : Int} {d : Dr} (h0 : 0 ≤ ow) (h1 : ow ≤ 65535) (h : DNum d) : (doorL ow d).length ≤ 200 := by
  obtain ⟨a, b, c, e⟩ := h
  have h1 := itoa_len (n := d.k) (by omega) (by omega)
  have h2 := atL_len (a := ow) (p := d.o) (by omega) (by omega) (by omega) (by omega)
  have h3 := atL_len (a := d.i) (p := d.p) (by omega) (by omega) (by omega) (by omega)
  simp only [doorL, List.length_append, List.length_cons]
  omega
theorem leftN_in {nw l : Int} (h1 : l ≤ nw) (h2 : nw - l < 12) : 0 ≤ leftN nw l ∧ leftN nw l ≤ 12 := by
  unfold leftN liveB
  split
  · rename_i h
    simp only [decide_eq_true_eq] at h
    omega
  · omega
theorem leftW_len (nw l : Int) : (leftW nw l).length ≤ 5 := by
  unfold leftW
  split <;> decide
theorem flowL_len {ow nw : Int} {e : En} (h0 : 0 ≤ ow) (h1 : ow ≤ 65535) (h : ENum nw e) : (flowL ow nw e).length ≤ 300 := by
  obtain ⟨⟨a, b, c⟩, ⟨d, f, g⟩, i, j⟩ := h
  have h1 := itoa_len (n := e.k) (by omega) (by omega)
  have h2 := atL_len (a := ow) (p := e.o) (by omega) (by omega) (by omega) (by omega)
  have h3 := atL_len (a := e.i) (p := e.ip) (by omega) (by omega) (by omega) (by omega)
  have h4 := atL_len (a := e.pr) (p := e.pp) (by omega) (by omega) (by omega) (by omega)
  have h5 := leftW_len nw e.l
  have h7 := leftN_in (l := e.l) i.2 j
  have h6 := itoa_len (n := leftN nw e.l) (by omega) (by omega)
  simp only [flowL, List.length_append, List.length_cons]
  omega
theorem doorsT_len {ow : Int} (h0 : 0 ≤ ow) (h1 : ow ≤ 65535) : ∀ {ds : List Dr}, (∀ d ∈ ds, DNum d) → (doorsT ow ds).length ≤ 201 * ds.length
  | [], _ => by simp [doorsT]
  | d :: ds, h => by
    have h2 := doorsT_len h0 h1 (fun d hd => h d (List.mem_cons_of_mem _ hd)) (ds := ds)
    have h3 := doorL_len h0 h1 (h d List.mem_cons_self)
    simp only [doorsT, List.flatMap_cons, List.length_append, List.length_cons, List.length_nil] at h2 ⊢
    omega
theorem flowsT_len {ow nw : Int} (h0 : 0 ≤ ow) (h1 : ow ≤ 65535) : ∀ {es : List En}, (∀ d ∈ es, ENum nw d) → (flowsT ow nw es).length ≤ 301 * es.length
  | [], _ => by simp [flowsT]
  | d :: ds, h => by
    have h2 := flowsT_len h0 h1 (fun d hd => h d (List.mem_cons_of_mem _ hd)) (es := ds)
    have h3 := flowL_len h0 h1 (h d List.mem_cons_self)
    simp only [flowsT, List.flatMap_cons, List.length_append, List.length_cons, List.length_nil] at h2 ⊢
    omega
theorem boardT_len {ad ln ow lo hi nw : Int} {ds : List Dr} {es : List En} (h : bookB ad ln ow lo hi nw ds es = true) : (boardT ow nw ds es).length ≤ 100000 := by
  obtain ⟨how, hn, ⟨hds, hes⟩, hdn, hen⟩ := book_nums h
  have h1 := doorsT_len how.1 how.2 (ds := ds) (fun d hd => by obtain ⟨i, hi⟩ := List.mem_iff_getElem?.1 hd; exact hdn i d hi)
  have h2 := flowsT_len how.1 how.2 (es := es) (fun d hd => by obtain ⟨i, hi⟩ := List.mem_iff_getElem?.1 hd; exact hen i d hi)
  have h3 := itoa_len (n := nw) (by omega) (by omega)
  simp only [boardT, nowL, List.length_append, List.length_cons, List.length_nil]
  omega
end Go.Proofs.YtcgjpmhjijmplaaGreatDoor
