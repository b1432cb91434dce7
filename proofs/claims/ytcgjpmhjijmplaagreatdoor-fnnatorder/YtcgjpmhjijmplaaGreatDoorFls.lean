/- Lists of flows in memory. -/
import Derived.Test.YtcgjpmhjijmplaaGreatDoorOutM
namespace Go.Proofs.YtcgjpmhjijmplaaGreatDoor
open Go.ChangeShapes Go.WideShapes Go.ChangeAt Go.RowKit Go.Maps

def flV (f : Fl) : List Value := [.int .i64 f.k, .int .i64 f.a, .int .i64 f.ap, .int .i64 f.b, .int .i64 f.bp]
def flatF : List Fl → List Value
  | [] => []
  | d :: L => flV d ++ flatF L
def FlCells (w : World) (g o : Nat) (L : List Fl) : Prop := ∀ (i : Nat) (f : Fl), L[i]? = some f → w.cell? ⟨g, o + i * 5, none⟩ = some (.int .i64 f.k) ∧ w.cell? ⟨g, o + i * 5 + 1, none⟩ = some (.int .i64 f.a) ∧ w.cell? ⟨g, o + i * 5 + 2, none⟩ = some (.int .i64 f.ap) ∧ w.cell? ⟨g, o + i * 5 + 3, none⟩ = some (.int .i64 f.b) ∧ w.cell? ⟨g, o + i * 5 + 4, none⟩ = some (.int .i64 f.bp)
theorem flatF_append (L M : List Fl) : flatF (L ++ M) = flatF L ++ flatF M := by
  induction L with
  | nil => rfl
  | cons d L ih => simp [flatF, ih]
theorem flatF_length (L : List Fl) : (flatF L).length = L.length * 5 := by
  induction L with
  | nil => rfl
  | cons d L ih => simp [flatF, flV, ih]; omega
theorem flatF_at (L : List Fl) (i : Nat) (d : Fl) (h : L[i]? = some d) (j : Nat) (hj : j < 5) : (flatF L)[i * 5 + j]? = (flV d)[j]? := by
  induction L generalizing i with
  | nil => simp at h
  | cons x L ih =>
    have hl : (flV x).length = 5 := rfl
    cases i with
    | zero =>
      simp at h; subst h
      simp only [flatF, Nat.zero_mul, Nat.zero_add]
      rw [List.getElem?_append_left (by omega)]
    | succ i =>
      simp at h
      simp only [flatF]
      rw [List.getElem?_append_right (by omega), hl, show (i + 1) * 5 + j - 5 = i * 5 + j by omega]
      exact ih i h
theorem flatF_one (L : List Fl) : ∀ u ∈ flatF L, u.oneCell' = true := by
  induction L with
  | nil => intro u hu; cases hu
  | cons d L ih =>
    intro u hu
    simp only [flatF, List.mem_append] at hu
    rcases hu with hu | hu
    · simp only [flV, List.mem_cons, List.not_mem_nil, or_false] at hu
      rcases hu with rfl | rfl | rfl | rfl | rfl <;> rfl
    · exact ih u hu
theorem flCells_of_own {w : World} {base g n cap : Nat} {L : List Fl} {e : TypeId} (h : w.ownsRow base e 5 (.slice (some ⟨g, 0, none⟩) n cap) L.length (flatF L)) (hn : n = L.length) : FlCells w g 0 L := by
  subst hn
  rcases h.2 with ⟨h1, _⟩ | ⟨g', cap', cur, hv, _, hb, _, _, _, ht⟩
  · cases h1
  · simp only [Value.slice.injEq, Option.some.injEq, Addr.mk.injEq] at hv
    obtain ⟨⟨rfl, _⟩, _, rfl⟩ := hv
    intro i d hi
    have hil : i < L.length := by
      rcases Nat.lt_or_ge i L.length with h | h
      · exact h
      · rw [List.getElem?_eq_none h] at hi; cases hi
    have key : ∀ j, j < 5 → w.cell? ⟨g, 0 + i * 5 + j, none⟩ = (flV d)[j]? := by
      intro j hj
      have e1 : (cur.toList.take (L.length * 5))[i * 5 + j]? = cur.toList[i * 5 + j]? := List.getElem?_take_of_lt (by omega)
      rw [ht, flatF_at L i d hi j hj] at e1
      simp only [World.cell?, hb]
      rw [e1]; simp
    exact ⟨by simpa [flV] using key 0 (by omega), by simpa [flV] using key 1 (by omega), by simpa [flV] using key 2 (by omega), by simpa [flV] using key 3 (by omega), by simpa [flV] using key 4 (by omega)⟩
theorem FlCells.below {w w' : World} {g o : Nat} {L : List Fl} (h : FlCells w g o L) (hb : Below w.heap.size w w') (hg : g < w.heap.size) : FlCells w' g o L := by
  intro i f hi
  obtain ⟨c0, c1, c2, c3, c4⟩ := h i f hi
  refine ⟨?_, ?_, ?_, ?_, ?_⟩ <;> (rw [hb.cell (by simpa using hg)]; assumption)
theorem infoFl : (Tryz.prog.info? 32).map (fun i => (i.zero, i.size, i.bytes)) = some (some (.agg #[.int .i64 0, .int .i64 0, .int .i64 0, .int .i64 0, .int .i64 0]), 5, 40) := by kernel_rfl
/-- A list of flows as an own row. -/
def OwnF (w : World) (base : Nat) (v : Value) (L : List Fl) : Prop := w.ownsRow base 32 5 v L.length (flatF L)
theorem OwnF.below {w w' : World} {base : Nat} {v : Value} {L : List Fl} (h : OwnF w base v L) (hb : Below w.heap.size w w') : OwnF w' base v L := ownsRow_bl h hb
theorem OwnF.more {w' : World} {base : Nat} {v' : Value} {L : List Fl} {f : Fl} (ho : w'.ownsRow base 32 5 v' (L.length + 1) (flatF L ++ flatF [f])) : OwnF w' base v' (L ++ [f]) := by
  unfold OwnF
  rw [flatF_append, List.length_append]
  exact ho
/-- One flow more. -/
theorem app_flow {w : World} {q2 n : Nat} {v : Value} {fs : List Fl} {f : Fl} (ho : OwnF w q2 v fs) (hb : Box w n #[.int .i64 f.k, .int .i64 f.a, .int .i64 f.ap, .int .i64 f.b, .int .i64 f.bp]) (hl : fs.length ≤ 1000) (hq : q2 ≤ w.heap.size) :
    ∃ v' w', (Builtin.append_ #[27, 27] 27 #[v, .slice (some ⟨n, 0, none⟩) 1 1]).run Tryz.prog w = .ok v' w' ∧ OwnF w' q2 v' (fs ++ [f]) ∧ w.grownBy w' v.ownBlock ∧ (v'.ownBlock = v.ownBlock ∨ v'.ownBlock = some w.heap.size) := by
  obtain ⟨i0, hi0, hz0, hz1, hz2⟩ := info_parts infoFl
  obtain ⟨v', w', hr, h2, h3, _, h5⟩ := run_append_own_at (P := Tryz.prog) w q2 27 27 32 i0 (.agg #[.int .i64 0, .int .i64 0, .int .i64 0, .int .i64 0, .int .i64 0]) 5 40 Tryz.underlying27 hi0 hz0 hz1 hz2 rfl (by decide) v _ _ ho ⟨n, 0, none⟩ 1 1 (flatF [f]) rfl (fun j u hu => by
    rw [addr_addD, Nat.zero_add, hb.2 j]
    simpa [flatF, flV] using hu) (flatF_one _) (by unfold maxLen; omega) (by omega) hq
  exact ⟨v', w', hr, OwnF.more h2, h3, h5⟩
end Go.Proofs.YtcgjpmhjijmplaaGreatDoor
