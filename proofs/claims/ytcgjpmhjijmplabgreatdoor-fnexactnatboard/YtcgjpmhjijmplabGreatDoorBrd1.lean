/- The board as a text: its lines, and how many new lines it has. -/
import Derived.Test.YtcgjpmhjijmplabGreatDoorSpec5
import Derived.Lib.ItoaLen
import Derived.Lib.Join
import Derived.Lib.Strings
namespace Go.Proofs.YtcgjpmhjijmplabGreatDoor

/-- A text by its bytes. -/
abbrev St (l : List UInt8) : ByteArray := ⟨l.toArray⟩
theorem st_app (l m : List UInt8) : St l ++ St m = St (l ++ m) := by
  apply ByteArray.ext
  simp [St]
/-- An address and a port. -/
def atL (a p : Int) : List UInt8 := Lib.itoa (a / 256) ++ (46 :: (Lib.itoa (a % 256) ++ (58 :: Lib.itoa p)))
def nowL (nw : Int) : List UInt8 := 110 :: 111 :: 119 :: 32 :: Lib.itoa nw
def doorL (ow : Int) (d : Dr) : List UInt8 := 100 :: 111 :: 111 :: 114 :: 32 :: (Lib.itoa d.k ++ (32 :: (atL ow d.o ++ (32 :: 116 :: 111 :: 32 :: atL d.i d.p))))
def leftW (nw l : Int) : List UInt8 := if liveB nw l then [108, 101, 102, 116] else [114, 101, 115, 116, 115]
def leftN (nw l : Int) : Int := if liveB nw l then 8 - (nw - l) else 12 - (nw - l)
def flowL (ow nw : Int) (e : En) : List UInt8 := 102 :: 108 :: 111 :: 119 :: 32 :: (Lib.itoa e.k ++ (32 :: (atL e.i e.ip ++ (32 :: 97 :: 115 :: 32 :: (atL ow e.o ++ (32 :: 116 :: 111 :: 32 :: (atL e.pr e.pp ++ (32 :: (leftW nw e.l ++ (32 :: Lib.itoa (leftN nw e.l)))))))))))
/-- The lines of the doors; of the entries. -/
def doorsT (ow : Int) (ds : List Dr) : List UInt8 := ds.flatMap fun d => doorL ow d ++ [10]
def flowsT (ow nw : Int) (es : List En) : List UInt8 := es.flatMap fun e => flowL ow nw e ++ [10]
def boardT (ow nw : Int) (ds : List Dr) (es : List En) : List UInt8 := (nowL nw ++ [10]) ++ (doorsT ow ds ++ flowsT ow nw es)
theorem doorsT_snoc (ow : Int) (ds : List Dr) (d : Dr) : doorsT ow (ds ++ [d]) = doorsT ow ds ++ (doorL ow d ++ [10]) := by simp [doorsT]
theorem flowsT_snoc (ow nw : Int) (es : List En) (e : En) : flowsT ow nw (es ++ [e]) = flowsT ow nw es ++ (flowL ow nw e ++ [10]) := by simp [flowsT]
/-- How long a text is at most. -/
theorem itoa_len {n : Int} (h0 : 0 ≤ n) (h1 : n ≤ 100000000) : (Lib.itoa n).length ≤ 21 := Lib.itoa_length_le n (by omega) (by omega)
theorem atL_len {a p : Int} (h0 : 0 ≤ a) (h1 : a ≤ 1000000) (h2 : 0 ≤ p) (h3 : p ≤ 1000000) : (atL a p).length ≤ 70 := by
  have h1 := itoa_len (n := a / 256) (by omega) (by omega)
  have h2 := itoa_len (n := a % 256) (by omega) (by omega)
  have h3 := itoa_len (n := p) (by omega) (by omega)
  simp only [atL, List.length_append, List.length_cons]
  omega
/-- Numbers that the board writes. -/
def DNum (d : Dr) : Prop := (0 ≤ d.k ∧ d.k ≤ 1000000) ∧ (0 ≤ d.o ∧ d.o ≤ 1000000) ∧ (0 ≤ d.i ∧ d.i ≤ 1000000) ∧ (0 ≤ d.p ∧ d.p ≤ 1000000)
def ENum (nw : Int) (e : En) : Prop := ((0 ≤ e.k ∧ e.k ≤ 1000000) ∧ (0 ≤ e.pr ∧ e.pr ≤ 1000000) ∧ (0 ≤ e.pp ∧ e.pp ≤ 1000000)) ∧ ((0 ≤ e.o ∧ e.o ≤ 1000000) ∧ (0 ≤ e.i ∧ e.i ≤ 1000000) ∧ (0 ≤ e.ip ∧ e.ip ≤ 1000000)) ∧ (0 ≤ e.l ∧ e.l ≤ nw) ∧ nw - e.l < 12
theorem sz_le (ln : Int) (h : 0 ≤ ln) : sz ln ≤ 65536 := by
  unfold sz
  have : 2 ^ (16 - ln).toNat ≤ 2 ^ 16 := Nat.pow_le_pow_right (by decide) (by omega)
  omega
theorem book_nums {ad ln ow lo hi nw : Int} {ds : List Dr} {es : List En} (h : bookB ad ln ow lo hi nw ds es = true) : (0 ≤ ow ∧ ow ≤ 65535) ∧ (0 ≤ nw ∧ nw ≤ 1000000) ∧ (ds.length ≤ 6 ∧ es.length ≤ 16) ∧ (∀ (i : Nat) d, ds[i]? = some d → DNum d) ∧ ∀ (i : Nat) d, es[i]? = some d → ENum nw d := by
  simp only [bookB, Bool.and_eq_true] at h
  obtain ⟨⟨hf, hd⟩, he⟩ := h
  obtain ⟨hl, ha, how, hp, hn⟩ := frameB_true hf
  have hs := sz_le ln hl.1
  simp only [doorsB, decide_eq_true_eq] at hd
  simp only [entriesB, decide_eq_true_eq] at he
  refine ⟨how, hn, ⟨hd.1, he.1⟩, fun i d hi => ?_, fun i d hi => ?_⟩
  · have := (hd.2 i d (List.getElem?_eq_some_iff.1 hi).1 hi).1
    simp only [doorB, dokB, insB, inB, Bool.and_eq_true, decide_eq_true_eq] at this
    unfold DNum
    omega
  · have := (he.2 i d (List.getElem?_eq_some_iff.1 hi).1 hi).1
    simp only [entryB, eokB, insB, inB, Bool.and_eq_true, decide_eq_true_eq] at this
    unfold ENum
    omega
theorem doorL_len {ow : Int} {d : Dr} (h0 : 0 ≤ ow) (h1 : ow ≤ 65535) (h : DNum d) : (doorL ow d).length ≤ 200 := by
  obtain ⟨a, b, c, e⟩ := h
  have h1 := itoa_len (n := d.k) (by omega) (by omega)
  have h2 := atL_len (a := ow) (p := d.o) (by omega) (by omega) (by omega) (by omega)
  have h3 := atL_len (a := d.i) (p := d.p) (by omega) (by omega) (by omega) (by omega)
  simp only [doorL, List.length_append, List.length_cons]
  omega
theorem leftN_in {nw l : Int} (h1 : l ≤ nw) (h2 : nw - l < 12) : 0 ≤ leftN nw l ∧ leftN nw l ≤ 12 := by
  unfold leftN liveB
  split
  · rename_i h
    simp only [decide_eq_true_eq] at h
    omega
  · omega
theorem leftW_len (nw l : Int) : (leftW nw l).length ≤ 5 := by
  unfold leftW
  split <;> decide
theorem flowL_len {ow nw : Int} {e : En} (h0 : 0 ≤ ow) (h1 : ow ≤ 65535) (h : ENum nw e) : (flowL ow nw e).length ≤ 300 := by
  obtain ⟨⟨a, b, c⟩, ⟨d, f, g⟩, i, j⟩ := h
  have h1 := itoa_len (n := e.k) (by omega) (by omega)
  have h2 := atL_len (a := ow) (p := e.o) (by omega) (by omega) (by omega) (by omega)
  have h3 := atL_len (a := e.i) (p := e.ip) (by omega) (by omega) (by omega) (by omega)
  have h4 := atL_len (a := e.pr) (p := e.pp) (by omega) (by omega) (by omega) (by omega)
  have h5 := leftW_len nw e.l
  have h7 := leftN_in (l := e.l) i.2 j
  have h6 := itoa_len (n := leftN nw e.l) (by omega) (by omega)
  simp only [flowL, List.length_append, List.length_cons]
  omega
end Go.Proofs.YtcgjpmhjijmplabGreatDoor
