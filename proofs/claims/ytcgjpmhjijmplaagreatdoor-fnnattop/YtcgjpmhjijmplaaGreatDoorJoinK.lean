/- Joined: Fls, Wns, Asked. -/
import Derived.Test.YtcgjpmhjijmplaaGreatDoorOutM
import Derived.Test.YtcgjpmhjijmplaaGreatDoorModel
import Derived.Test.YtcgjpmhjijmplaaGreatDoorJoinG
/- Lists of flows in memory. -/
namespace Go.Proofs.YtcgjpmhjijmplaaGreatDoor
open Go.ChangeShapes Go.WideShapes Go.ChangeAt Go.RowKit Go.Maps

def flV (f : Fl) : List Value := [.int .i64 f.k, .int .i64 f.a, .int .i64 f.ap, .int .i64 f.b, .int .i64 f.bp]
def flatF : List Fl → List Value
  | [] => []
  | d :: L => flV d ++ flatF L
def FlCells (w : World) (g o : Nat) (L : List Fl) : Prop := ∀ (i : Nat) (f : Fl), L[i]? = some f → w.cell? ⟨g, o + i * 5, none⟩ = some (.int .i64 f.k) ∧ w.cell? ⟨g, o + i * 5 + 1, none⟩ = some (.int .i64 f.a) ∧ w.cell? ⟨g, o + i * 5 + 2, none⟩ = some (.int .i64 f.ap) ∧ w.cell? ⟨g, o + i * 5 + 3, none⟩ = some (.int .i64 f.b) ∧ w.cell? ⟨g, o + i * 5 + 4, none⟩ = some (.int .i64 f.bp)
theorem flatF_append (L M : List Fl) : flatF (L ++ M) = flatF L ++ flatF M := by
  induction L with
  | nil => rfl
  | cons d L ih => simp [flatF, ih]
theorem flatF_at (L : List Fl) (i : Nat) (d : Fl) (h : L[i]? = some d) (j : Nat) (hj : j < 5) : (flatF L)[i * 5 + j]? = (flV d)[j]? := by
  induction L generalizing i with
  | nil => simp at h
  | cons x L ih =>
    have hl : (flV x).length = 5 := rfl
    cases i with
    | zero =>
      simp at h; subst h
      simp only [flatF, Nat.zero_mul, Nat.zero_add]
      rw [List.getElem?_append_left (by omega)]
    | succ i =>
      simp at h
      simp only [flatF]
      rw [List.getElem?_append_right (by omega), hl, show (i + 1) * 5 + j - 5 = i * 5 + j by omega]
      exact ih i h
theorem flatF_one (L : List Fl) : ∀ u ∈ flatF L, u.oneCell' = true := by
  induction L with
  | nil => intro u hu; cases hu
  | cons d L ih =>
    intro u hu
    simp only [flatF, List.mem_append] at hu
    rcases hu with hu | hu
    · simp only [flV, List.mem_cons, List.not_mem_nil, or_false] at hu
      rcases hu with rfl | rfl | rfl | rfl | rfl <;> rfl
    · exact ih u hu
theorem flCells_of_own {w : World} {base g n cap : Nat} {L : List Fl} {e : TypeId} (h : w.ownsRow base e 5 (.slice (some ⟨g, 0, none⟩) n cap) L.length (flatF L)) (hn : n = L.length) : FlCells w g 0 L := by
  subst hn
  rcases h.2 with ⟨h1, _⟩ | ⟨g', cap', cur, hv, _, hb, _, _, _, ht⟩
  · cases h1
  · simp only [Value.slice.injEq, Option.some.injEq, Addr.mk.injEq] at hv
    obtain ⟨⟨rfl, _⟩, _, rfl⟩ := hv
    intro i d hi
    have hil : i < L.length := by
      rcases Nat.lt_or_ge i L.length with h | h
      · exact h
      · rw [List.getElem?_eq_none h] at hi; cases hi
    have key : ∀ j, j < 5 → w.cell? ⟨g, 0 + i * 5 + j, none⟩ = (flV d)[j]? := by
      intro j hj
      have e1 : (cur.toList.take (L.length * 5))[i * 5 + j]? = cur.toList[i * 5 + j]? := List.getElem?_take_of_lt (by omega)
      rw [ht, flatF_at L i d hi j hj] at e1
      simp only [World.cell?, hb]
      rw [e1]; simp
    exact ⟨by simpa [flV] using key 0 (by omega), by simpa [flV] using key 1 (by omega), by simpa [flV] using key 2 (by omega), by simpa [flV] using key 3 (by omega), by simpa [flV] using key 4 (by omega)⟩
theorem FlCells.below {w w' : World} {g o : Nat} {L : List Fl} (h : FlCells w g o L) (hb : Below w.heap.size w w') (hg : g < w.heap.size) : FlCells w' g o L := by
  intro i f hi
  obtain ⟨c0, c1, c2, c3, c4⟩ := h i f hi
  refine ⟨?_, ?_, ?_, ?_, ?_⟩ <;> (rw [hb.cell (by simpa using hg)]; assumption)
theorem infoFl : (Tryz.prog.info? 32).map (fun i => (i.zero, i.size, i.bytes)) = some (some (.agg #[.int .i64 0, .int .i64 0, .int .i64 0, .int .i64 0, .int .i64 0]), 5, 40) := by kernel_rfl
/-- A list of flows as an own row. -/
def OwnF (w : World) (base : Nat) (v : Value) (L : List Fl) : Prop := w.ownsRow base 32 5 v L.length (flatF L)
theorem OwnF.below {w w' : World} {base : Nat} {v : Value} {L : List Fl} (h : OwnF w base v L) (hb : Below w.heap.size w w') : OwnF w' base v L := ownsRow_bl h hb
theorem OwnF.more {w' : World} {base : Nat} {v' : Value} {L : List Fl} {f : Fl} (ho : w'.ownsRow base 32 5 v' (L.length + 1) (flatF L ++ flatF [f])) : OwnF w' base v' (L ++ [f]) := by
  unfold OwnF
  rw [flatF_append, List.length_append]
  exact ho
/-- One flow more. -/
theorem app_flow {w : World} {q2 n : Nat} {v : Value} {fs : List Fl} {f : Fl} (ho : OwnF w q2 v fs) (hb : Box w n #[.int .i64 f.k, .int .i64 f.a, .int .i64 f.ap, .int .i64 f.b, .int .i64 f.bp]) (hl : fs.length ≤ 1000) (hq : q2 ≤ w.heap.size) :
    ∃ v' w', (Builtin.append_ #[27, 27] 27 #[v, .slice (some ⟨n, 0, none⟩) 1 1]).run Tryz.prog w = .ok v' w' ∧ OwnF w' q2 v' (fs ++ [f]) ∧ w.grownBy w' v.ownBlock ∧ (v'.ownBlock = v.ownBlock ∨ v'.ownBlock = some w.heap.size) := by
  obtain ⟨i0, hi0, hz0, hz1, hz2⟩ := info_parts infoFl
  obtain ⟨v', w', hr, h2, h3, _, h5⟩ := run_append_own_at (P := Tryz.prog) w q2 27 27 32 i0 (.agg #[.int .i64 0, .int .i64 0, .int .i64 0, .int .i64 0, .int .i64 0]) 5 40 Tryz.underlying27 hi0 hz0 hz1 hz2 rfl (by decide) v _ _ ho ⟨n, 0, none⟩ 1 1 (flatF [f]) rfl (fun j u hu => by
    rw [addr_addD, Nat.zero_add, hb.2 j]
    simpa [flatF, flV] using hu) (flatF_one _) (by unfold maxLen; omega) (by omega) hq
  exact ⟨v', w', hr, OwnF.more h2, h3, h5⟩
end Go.Proofs.YtcgjpmhjijmplaaGreatDoor

/- Lists of what went out, in memory. -/
namespace Go.Proofs.YtcgjpmhjijmplaaGreatDoor
open Go.ChangeShapes Go.WideShapes Go.ChangeAt Go.RowKit Go.Maps

def wnV (f : Wn) : List Value := [.int .i64 f.inn.k, .int .i64 f.inn.a, .int .i64 f.inn.ap, .int .i64 f.inn.b, .int .i64 f.inn.bp, .int .i64 f.out.k, .int .i64 f.out.a, .int .i64 f.out.ap, .int .i64 f.out.b, .int .i64 f.out.bp, .int .i64 f.at']
def flatW : List Wn → List Value
  | [] => []
  | d :: L => wnV d ++ flatW L
/-- One of them, in memory. -/
def AtW (w : World) (g o : Nat) (f : Wn) : Prop := w.cell? ⟨g, o, none⟩ = some (.int .i64 f.inn.k) ∧ w.cell? ⟨g, o + 1, none⟩ = some (.int .i64 f.inn.a) ∧ w.cell? ⟨g, o + 2, none⟩ = some (.int .i64 f.inn.ap) ∧ w.cell? ⟨g, o + 3, none⟩ = some (.int .i64 f.inn.b) ∧ w.cell? ⟨g, o + 4, none⟩ = some (.int .i64 f.inn.bp) ∧ w.cell? ⟨g, o + 5, none⟩ = some (.int .i64 f.out.k) ∧ w.cell? ⟨g, o + 6, none⟩ = some (.int .i64 f.out.a) ∧ w.cell? ⟨g, o + 7, none⟩ = some (.int .i64 f.out.ap) ∧ w.cell? ⟨g, o + 8, none⟩ = some (.int .i64 f.out.b) ∧ w.cell? ⟨g, o + 9, none⟩ = some (.int .i64 f.out.bp) ∧ w.cell? ⟨g, o + 10, none⟩ = some (.int .i64 f.at')
def WnCells (w : World) (g o : Nat) (L : List Wn) : Prop := ∀ (i : Nat) (f : Wn), L[i]? = some f → AtW w g (o + i * 11) f
theorem flatW_append (L M : List Wn) : flatW (L ++ M) = flatW L ++ flatW M := by
  induction L with
  | nil => rfl
  | cons d L ih => simp [flatW, ih]
theorem flatW_at (L : List Wn) (i : Nat) (d : Wn) (h : L[i]? = some d) (j : Nat) (hj : j < 11) : (flatW L)[i * 11 + j]? = (wnV d)[j]? := by
  induction L generalizing i with
  | nil => simp at h
  | cons x L ih =>
    have hl : (wnV x).length = 11 := rfl
    cases i with
    | zero =>
      simp at h; subst h
      simp only [flatW, Nat.zero_mul, Nat.zero_add]
      rw [List.getElem?_append_left (by omega)]
    | succ i =>
      simp at h
      simp only [flatW]
      rw [List.getElem?_append_right (by omega), hl, show (i + 1) * 11 + j - 11 = i * 11 + j by omega]
      exact ih i h
theorem flatW_one (L : List Wn) : ∀ u ∈ flatW L, u.oneCell' = true := by
  induction L with
  | nil => intro u hu; cases hu
  | cons d L ih =>
    intro u hu
    simp only [flatW, List.mem_append] at hu
    rcases hu with hu | hu
    · simp only [wnV, List.mem_cons, List.not_mem_nil, or_false] at hu
      rcases hu with rfl | rfl | rfl | rfl | rfl | rfl | rfl | rfl | rfl | rfl | rfl <;> rfl
    · exact ih u hu
theorem wnCells_of_own {w : World} {base g n cap : Nat} {L : List Wn} {e : TypeId} (h : w.ownsRow base e 11 (.slice (some ⟨g, 0, none⟩) n cap) L.length (flatW L)) (hn : n = L.length) : WnCells w g 0 L := by
  subst hn
  rcases h.2 with ⟨h1, _⟩ | ⟨g', cap', cur, hv, _, hb, _, _, _, ht⟩
  · cases h1
  · simp only [Value.slice.injEq, Option.some.injEq, Addr.mk.injEq] at hv
    obtain ⟨⟨rfl, _⟩, _, rfl⟩ := hv
    intro i d hi
    have hil : i < L.length := by
      rcases Nat.lt_or_ge i L.length with h | h
      · exact h
      · rw [List.getElem?_eq_none h] at hi; cases hi
    have key : ∀ j, j < 11 → w.cell? ⟨g, 0 + i * 11 + j, none⟩ = (wnV d)[j]? := by
      intro j hj
      have e1 : (cur.toList.take (L.length * 11))[i * 11 + j]? = cur.toList[i * 11 + j]? := List.getElem?_take_of_lt (by omega)
      rw [ht, flatW_at L i d hi j hj] at e1
      simp only [World.cell?, hb]
      rw [e1]; simp
    exact ⟨by simpa [wnV] using key 0 (by omega), by simpa [wnV] using key 1 (by omega), by simpa [wnV] using key 2 (by omega), by simpa [wnV] using key 3 (by omega), by simpa [wnV] using key 4 (by omega), by simpa [wnV] using key 5 (by omega), by simpa [wnV] using key 6 (by omega), by simpa [wnV] using key 7 (by omega), by simpa [wnV] using key 8 (by omega), by simpa [wnV] using key 9 (by omega), by simpa [wnV] using key 10 (by omega)⟩
theorem WnCells.below {w w' : World} {g o : Nat} {L : List Wn} (h : WnCells w g o L) (hb : Below w.heap.size w w') (hg : g < w.heap.size) : WnCells w' g o L := by
  intro i f hi
  obtain ⟨c0, c1, c2, c3, c4, c5, c6, c7, c8, c9, c10⟩ := h i f hi
  refine ⟨?_, ?_, ?_, ?_, ?_, ?_, ?_, ?_, ?_, ?_, ?_⟩ <;> (rw [hb.cell (by simpa using hg)]; assumption)
theorem infoWn : (Tryz.prog.info? 40).map (fun i => (i.zero, i.size, i.bytes)) = some (some (.agg #[.int .i64 0, .int .i64 0, .int .i64 0, .int .i64 0, .int .i64 0, .int .i64 0, .int .i64 0, .int .i64 0, .int .i64 0, .int .i64 0, .int .i64 0]), 11, 88) := by kernel_rfl
/-- The list as an own row. -/
def OwnW (w : World) (base : Nat) (v : Value) (L : List Wn) : Prop := w.ownsRow base 40 11 v L.length (flatW L)
theorem OwnW.below {w w' : World} {base : Nat} {v : Value} {L : List Wn} (h : OwnW w base v L) (hb : Below w.heap.size w w') : OwnW w' base v L := ownsRow_bl h hb
theorem OwnW.more {w' : World} {base : Nat} {v' : Value} {L : List Wn} {f : Wn} (ho : w'.ownsRow base 40 11 v' (L.length + 1) (flatW L ++ flatW [f])) : OwnW w' base v' (L ++ [f]) := by
  unfold OwnW
  rw [flatW_append, List.length_append]
  exact ho
/-- One more. -/
theorem app_went {w : World} {q2 n : Nat} {v : Value} {fs : List Wn} {f : Wn} (ho : OwnW w q2 v fs) (hb : Box w n #[.int .i64 f.inn.k, .int .i64 f.inn.a, .int .i64 f.inn.ap, .int .i64 f.inn.b, .int .i64 f.inn.bp, .int .i64 f.out.k, .int .i64 f.out.a, .int .i64 f.out.ap, .int .i64 f.out.b, .int .i64 f.out.bp, .int .i64 f.at']) (hl : fs.length ≤ 1000) (hq : q2 ≤ w.heap.size) :
    ∃ v' w', (Builtin.append_ #[30, 30] 30 #[v, .slice (some ⟨n, 0, none⟩) 1 1]).run Tryz.prog w = .ok v' w' ∧ OwnW w' q2 v' (fs ++ [f]) ∧ w.grownBy w' v.ownBlock ∧ (v'.ownBlock = v.ownBlock ∨ v'.ownBlock = some w.heap.size) := by
  obtain ⟨i0, hi0, hz0, hz1, hz2⟩ := info_parts infoWn
  obtain ⟨v', w', hr, h2, h3, _, h5⟩ := run_append_own_at (P := Tryz.prog) w q2 30 30 40 i0 (.agg #[.int .i64 0, .int .i64 0, .int .i64 0, .int .i64 0, .int .i64 0, .int .i64 0, .int .i64 0, .int .i64 0, .int .i64 0, .int .i64 0, .int .i64 0]) 11 88 Tryz.underlying30 hi0 hz0 hz1 hz2 rfl (by decide) v _ _ ho ⟨n, 0, none⟩ 1 1 (flatW [f]) rfl (fun j u hu => by
    rw [addr_addD, Nat.zero_add, hb.2 j]
    simpa [flatW, wnV] using hu) (flatW_one _) (by unfold maxLen; omega) (by omega) hq
  exact ⟨v', w', hr, OwnW.more h2, h3, h5⟩
end Go.Proofs.YtcgjpmhjijmplaaGreatDoor

/- The law's wnAsked, walked. -/
namespace Go.Proofs.YtcgjpmhjijmplaaGreatDoor
open Go.ChangeShapes Go.WideShapes Go.ChangeAt Go.RowKit Go.Maps

theorem AtW.below {w w' : World} {g o : Nat} {y : Wn} (h : AtW w g o y) (hb : Below w.heap.size w w') (hg : g < w.heap.size) : AtW w' g o y := by
  obtain ⟨c0, c1, c2, c3, c4, c5, c6, c7, c8, c9, c10⟩ := h
  refine ⟨?_, ?_, ?_, ?_, ?_, ?_, ?_, ?_, ?_, ?_, ?_⟩ <;> (rw [hb.cell (by simpa using hg)]; assumption)
theorem AtW.set5 {w : World} {g o m : Nat} {y : Wn} (h : AtW w g o y) (hm : g ≠ m) (a b c d e : Value) : AtW (World.setCell (World.setCell (World.setCell (World.setCell (World.setCell w ⟨m, 0, none⟩ (a)) ⟨m, 1, none⟩ (b)) ⟨m, 2, none⟩ (c)) ⟨m, 3, none⟩ (d)) ⟨m, 4, none⟩ (e)) g o y := by
  obtain ⟨c0, c1, c2, c3, c4, c5, c6, c7, c8, c9, c10⟩ := h
  have hc : ∀ (W : World) j v p, (W.setCell ⟨m, j, none⟩ v).cell? ⟨g, p, none⟩ = W.cell? ⟨g, p, none⟩ := fun W j v p => World.cell?_setCell_other _ _ _ _ (fun e => hm (by injection e with e1; exact e1.symm))
  refine ⟨?_, ?_, ?_, ?_, ?_, ?_, ?_, ?_, ?_, ?_, ?_⟩ <;> (rw [hc, hc, hc, hc, hc]; assumption)
theorem last_none {W : List Wn} {g : Fl} (h : ∀ (j : Nat) y, W[j]? = some y → eqF y.out g = false) : lastO W g = none := by
  unfold lastO
  rw [List.find?_eq_none]
  intro x hx
  obtain ⟨j, hj⟩ := List.mem_iff_getElem?.1 (List.mem_reverse.1 hx)
  simp [h j x hj]
theorem last_at {W : List Wn} {g : Fl} {m : Nat} {y : Wn} (hy : W[m]? = some y) (he : eqF y.out g = true) (h : ∀ (j : Nat) z, m + 1 ≤ j → W[j]? = some z → eqF z.out g = false) : lastO W g = some y := by
  have hm := get_lt hy
  have hs : W = W.take m ++ y :: W.drop (m + 1) := by
    have e1 : W[m] = y := by simpa [hm] using hy
    rw [← e1, List.getElem_cons_drop hm, List.take_append_drop]
  have hn : (W.drop (m + 1)).reverse.find? (fun w => eqF w.out g) = none := by
    rw [List.find?_eq_none]
    intro x hx
    obtain ⟨j, hj⟩ := List.mem_iff_getElem?.1 (List.mem_reverse.1 hx)
    rw [List.getElem?_drop] at hj
    simp [h _ x (by omega) hj]
  unfold lastO
  rw [hs]
  simp [List.find?_append, hn, he]
/-- What wnAsked tells. -/
def askO (W : List Wn) (f : Fl) (nw : Int) : Fl × Bool := match lastO W (backF f) with | some x => (x.inn, decide (nw - x.at' < 8)) | none => (zeroF, false)
set_option maxRecDepth 20000 in
set_option maxHeartbeats 4000000 in
theorem asked_ret (base : Nat) (v : Value) (W : List Wn) (f : Fl) (nw : Int) (w : World) (hO : OwnW w base v W) (hl : W.length ≤ 1000) (n0 : 0 ≤ nw) (n1 : nw ≤ 1000000) (hA : ∀ x ∈ W, 0 ≤ x.at' ∧ x.at' ≤ nw) :
    Calls Tryz.prog 17 #[v, .agg #[.int .i64 f.k, .int .i64 f.a, .int .i64 f.ap, .int .i64 f.b, .int .i64 f.bp], .int .i64 nw] w fun e w' => e = .returned (.tuple #[.agg #[.int .i64 (askO W f nw).1.k, .int .i64 (askO W f nw).1.a, .int .i64 (askO W f nw).1.ap, .int .i64 (askO W f nw).1.b, .int .i64 (askO W f nw).1.bp], .bool (askO W f nw).2]) ∧ Below w.heap.size w w' := by
  obtain ⟨sa, sc, rfl⟩ := own_slice hO
  have hol : ∀ k, (Value.slice sa W.length sc).ownBlock = some k → k < w.heap.size := fun k hk => (hO.lt k hk).2
  have hB0 := bl_alloc (bl_alloc (bl_refl w) (.cells #[.int .i64 f.k, .int .i64 f.a, .int .i64 f.ap, .int .i64 f.b, .int .i64 f.bp] 32)) (.cells #[.int .i64 0, .int .i64 0, .int .i64 0, .int .i64 0, .int .i64 0] 32)
  have x4 := (Box.new w #[.int .i64 f.k, .int .i64 f.a, .int .i64 f.ap, .int .i64 f.b, .int .i64 f.bp] 32).below (bl_alloc (bl_refl _) (.cells #[.int .i64 0, .int .i64 0, .int .i64 0, .int .i64 0, .int .i64 0] 32))
  have bx := Bx.new (w.alloc (.cells #[.int .i64 f.k, .int .i64 f.a, .int .i64 f.ap, .int .i64 f.b, .int .i64 f.bp] 32)) #[.int .i64 0, .int .i64 0, .int .i64 0, .int .i64 0, .int .i64 0] 32
  simp only [World.size_alloc] at bx
  replace hO := hO.below hB0
  have hfound : Hid (∀ x, lastO W (backF f) = some x → askO W f nw = (x.inn, decide (nw - x.at' < 8))) := fun x hx => by simp [askO, hx]
  have hnone : Hid (lastO W (backF f) = none → askO W f nw = (zeroF, false)) := fun hx => by simp [askO, hx]
  have hA : Hid (∀ x ∈ W, 0 ≤ x.at' ∧ x.at' ≤ nw) := hA
  generalize askO W f nw = A at *
  go_enter Tryz.func17, Tryz.ntmps17
  go_wp2_with fail
  generalize ((w.alloc (.cells #[.int .i64 f.k, .int .i64 f.a, .int .i64 f.ap, .int .i64 f.b, .int .i64 f.bp] 32)).alloc (.cells #[.int .i64 0, .int .i64 0, .int .i64 0, .int .i64 0, .int .i64 0] 32)) = W2 at *
  generalize hn4 : w.heap.size = n4 at x4 bx ⊢
  generalize hn6 : n4 + 1 = n6 at bx ⊢
  go_loopg [8] W.length (fun g iv wr => ∃ n : Nat, g = n ∧ n ≤ W.length ∧ iv = .int .i64 n ∧ (∀ j y, n ≤ j → W[j]? = some y → eqF y.out (backF f) = false) ∧ Below w.heap.size w wr ∧ Below W2.heap.size W2 wr)
  case atStart => exact ⟨W.length, rfl, Nat.le_refl _, rfl, (fun j y hj hy => by have := get_lt hy; omega), hB0, bl_refl _⟩
  case round =>
    obtain ⟨n, hgn, hn, rfl, HN, hB, hC⟩ := hrel
    have HN : Hid (∀ j y, n ≤ j → W[j]? = some y → eqF y.out (backF f) = false) := HN
    replace x4 := x4.below hC
    replace bx := bx.below hC
    replace hO := hO.below hC
    rcases n with _ | m
    · obtain ⟨⟨q1, q2⟩, q3⟩ := id bx
      go_wp2_with fail
      subst hn4
      have hbv := bx.set5 (.int .i64 0) (.int .i64 0) (.int .i64 0) (.int .i64 0) (.int .i64 0)
      obtain ⟨⟨t1, t2⟩, t3⟩ := id hbv
      exact bodyPost_ret (v := .tuple #[.agg #[.int .i64 0, .int .i64 0, .int .i64 0, .int .i64 0, .int .i64 0], .bool false]) (by simp [results, Tryz.results17, go_sem, t2]) rfl ⟨by rw [hnone.out (last_none (fun j y hy => HN.out j y (Nat.zero_le _) hy))]; rfl, bl_set5 hB (n := n6) (by omega) (.int .i64 0) (.int .i64 0) (.int .i64 0) (.int .i64 0) (.int .i64 0)⟩
    · obtain ⟨y, hd⟩ : ∃ y, W[m]? = some y := ⟨W[m], by simp⟩
      obtain ⟨g, cap, hsl, -, hgl, -, -⟩ := own_form hO (by omega)
      simp only [Value.slice.injEq] at hsl
      obtain ⟨rfl, -, rfl⟩ := hsl
      have hy : AtW wr g (m * 11) y := by
        have := wnCells_of_own hO rfl m y hd
        simpa using this
      obtain ⟨l0, l1⟩ := hA.out y (List.mem_of_getElem? hd)
      have hd : Hid (W[m]? = some y) := hd
      have hm' : (m : Int) < (W.length : Int) := by omega
      have hw1 : IntKind.i64.wrap ((m : Int) + 1 - 1) = (m : Int) := by rw [wrap_of _ (by omega) (by omega)]; omega
      have hw2 : IntKind.i64.wrap (m : Int) = (m : Int) := wrap_of _ (by omega) (by omega)
      have hw3 : IntKind.i64.wrap (nw - y.at') = nw - y.at' := wrap_of _ (by omega) (by omega)
      have hgn6 : g ≠ n6 := by have := hol g rfl; omega
      have heq := run_eql_flow
      have hgf := guardFlow
      cases hqe : eqF y.out (backF f) with
      | true =>
        have hqq : flowEq y.out.k y.out.a y.out.ap y.out.b y.out.bp f.k f.b f.bp f.a f.ap = true := hqe
        have hla : Hid (lastO W (backF f) = some y) := last_at hd.out hqe (fun j z hj hz => HN.out j z hj hz)
        clear hqe
        go_upto_region 4 with fail
        refine wp_region_held_drew (S := (fun w' => Box w' n4 #[.int .i64 f.k, .int .i64 f.a, .int .i64 f.ap, .int .i64 f.b, .int .i64 f.bp] ∧ AtW w' g (m * 11) y)) (by kernel_rfl) ?_ (fun hHeld => ?_)
        · exact ⟨x4.below (bl_drew (bl_refl _)), hy.below (bl_drew (bl_refl _)) hgl⟩
        have hq := bl_drew (bl_refl wr)
        replace hB := bl_trans hB hq
        replace hC := bl_trans hC hq
        replace x4 := x4.below hq
        replace bx := bx.below hq
        replace hy := hy.below hq hgl
        replace hgl := Nat.lt_of_lt_of_le hgl hq.size
        clear hq
        generalize wr.drew = W0 at x4 bx hy hgl hB hC hHeld ⊢
        refine takeL 0 15 ?_ ?_ hHeld ?_
        rotate_left
        · (intro w hSw; (try dsimp only at hSw); simp only [Box, AtW] at hSw; go_simp; try with_reducible rfl)
        simp only [Act.put, puA, puB, puC]
        refine takeL 1 16 ?_ ?_ hHeld ?_
        rotate_left
        · (intro w hSw; (try dsimp only at hSw); simp only [Box, AtW] at hSw; go_simp; try with_reducible rfl)
        simp only [Act.put, puA, puB, puC]
        refine takeL 2 17 ?_ ?_ hHeld ?_
        rotate_left
        · (intro w hSw; (try dsimp only at hSw); simp only [Box, AtW] at hSw; go_simp; try with_reducible rfl)
        simp only [Act.put, puA, puB, puC]
        refine takeL 3 18 ?_ ?_ hHeld ?_
        rotate_left
        · (intro w hSw; (try dsimp only at hSw); simp only [Box, AtW] at hSw; go_simp; try with_reducible rfl)
        simp only [Act.put, puA, puB, puC]
        refine takeL 4 19 ?_ ?_ hHeld ?_
        rotate_left
        · (intro w hSw; (try dsimp only at hSw); simp only [Box, AtW] at hSw; go_simp; try with_reducible rfl)
        simp only [Act.put, puA, puB, puC]
        refine takeL 5 20 ?_ ?_ hHeld ?_
        rotate_left
        · (intro w hSw; (try dsimp only at hSw); simp only [Box, AtW] at hSw; go_simp; try with_reducible rfl)
        simp only [Act.put, puA, puB, puC]
        refine takeL 6 21 ?_ ?_ hHeld ?_
        rotate_left
        · (intro w hSw; (try dsimp only at hSw); simp only [Box, AtW] at hSw; go_simp; try with_reducible rfl)
        simp only [Act.put, puA, puB, puC]
        refine wpAnyH_ready (rs := [7]) (by kernel_rfl) (by simp) (AllReadyH.cons rfl (fun K hK => ?_) (AllReadyH.nil))
        refine step_callg 22 20 rfl (by kernel_rfl) (specBack_ret f.k f.a f.ap f.b f.bp _) (by kernel_rfl) ?_
        rintro e W1 ⟨rfl, hb⟩
        refine ⟨_, rfl, ?_⟩
        simp only [Act.put, puA, puB, puC]
        replace hB := bl_trans hB hb
        replace hC := bl_trans hC hb
        replace x4 := x4.below hb
        replace bx := bx.below hb
        replace hy := hy.below hb hgl
        replace hgl := Nat.lt_of_lt_of_le hgl hb.size
        clear hb
        refine hK.out _ _ ?_ (fun hHeld1 => ?_)
        · exact ⟨x4, hy⟩
        clear hK K hHeld
        have hHeld := hHeld1
        clear hHeld1
        refine takeL 8 23 ?_ ?_ hHeld ?_
        rotate_left
        · (intro w hSw; (try dsimp only at hSw); simp only [Box, AtW] at hSw; go_simp; try with_reducible rfl)
        simp only [Act.put, puA, puB, puC]
        refine wpAnyH_done (by kernel_rfl) ?_ _
        clear x4 hHeld
        go_upto_region 5 with fail
        by_cases hlt : nw - y.at' < 8
        · skip
          refine wp_region_held_drew (S := (fun w' => AtW w' g (m * 11) y)) (by kernel_rfl) ?_ (fun hHeld => ?_)
          · exact hy.below (bl_drew (bl_refl _)) hgl
          have hq := bl_drew (bl_refl W1)
          replace hB := bl_trans hB hq
          replace bx := bx.below hq
          replace hy := hy.below hq hgl
          replace hgl := Nat.lt_of_lt_of_le hgl hq.size
          clear hq
          generalize W1.drew = W0 at bx hy hgl hB hHeld ⊢
          refine takeL 0 24 ?_ ?_ hHeld ?_
          rotate_left
          · (intro w hSw; (try dsimp only at hSw); simp only [AtW] at hSw; go_simp; try with_reducible rfl)
          simp only [Act.put, puA, puB, puC]
          refine takeL 1 25 ?_ ?_ hHeld ?_
          rotate_left
          · (intro w hSw; (try dsimp only at hSw); simp only [AtW] at hSw; go_simp; try with_reducible rfl)
          simp only [Act.put, puA, puB, puC]
          refine takeL 2 26 ?_ ?_ hHeld ?_
          rotate_left
          · (intro w hSw; (try dsimp only at hSw); simp only [AtW] at hSw; go_simp; try with_reducible rfl)
          simp only [Act.put, puA, puB, puC]
          refine takeL 3 27 ?_ ?_ hHeld ?_
          rotate_left
          · (intro w hSw; (try dsimp only at hSw); simp only [AtW] at hSw; go_simp; try with_reducible rfl)
          simp only [Act.put, puA, puB, puC]
          refine takeL 4 28 ?_ ?_ hHeld ?_
          rotate_left
          · (intro w hSw; (try dsimp only at hSw); simp only [AtW] at hSw; go_simp; try with_reducible rfl)
          simp only [Act.put, puA, puB, puC]
          refine takeL 5 29 ?_ ?_ hHeld ?_
          rotate_left
          · (intro w hSw; (try dsimp only at hSw); simp only [AtW] at hSw; go_simp; try with_reducible rfl)
          simp only [Act.put, puA, puB, puC]
          refine takeL 6 30 ?_ ?_ hHeld ?_
          rotate_left
          · (intro w hSw; (try dsimp only at hSw); simp only [AtW] at hSw; go_simp; try with_reducible rfl)
          simp only [Act.put, puA, puB, puC]
          refine takeL 7 31 ?_ ?_ hHeld ?_
          rotate_left
          · (intro w hSw; (try dsimp only at hSw); simp only [AtW] at hSw; go_simp; try with_reducible rfl)
          simp only [Act.put, puA, puB, puC]
          refine takeL 8 32 ?_ ?_ hHeld ?_
          rotate_left
          · (intro w hSw; (try dsimp only at hSw); simp only [AtW] at hSw; go_simp; try with_reducible rfl)
          simp only [Act.put, puA, puB, puC]
          refine takeL 9 33 ?_ ?_ hHeld ?_
          rotate_left
          · (intro w hSw; (try dsimp only at hSw); simp only [AtW] at hSw; go_simp; try with_reducible rfl)
          simp only [Act.put, puA, puB, puC]
          refine takeL 10 34 ?_ ?_ hHeld ?_
          rotate_left
          · (intro w hSw; (try dsimp only at hSw); simp only [AtW] at hSw; go_simp; try with_reducible rfl)
          simp only [Act.put, puA, puB, puC]
          refine takeL 11 35 ?_ ?_ hHeld ?_
          rotate_left
          · (intro w hSw; (try dsimp only at hSw); simp only [AtW] at hSw; go_simp; try with_reducible rfl)
          simp only [Act.put, puA, puB, puC]
          refine takeL 12 36 ?_ ?_ hHeld ?_
          rotate_left
          · (intro w hSw; (try dsimp only at hSw); simp only [AtW] at hSw; go_simp; try with_reducible rfl)
          simp only [Act.put, puA, puB, puC]
          refine takeL 13 37 ?_ ?_ hHeld ?_
          rotate_left
          · (intro w hSw; (try dsimp only at hSw); simp only [AtW] at hSw; go_simp; try with_reducible rfl)
          simp only [Act.put, puA, puB, puC]
          refine takeL 14 38 ?_ ?_ hHeld ?_
          rotate_left
          · (intro w hSw; (try dsimp only at hSw); simp only [AtW] at hSw; go_simp; try with_reducible rfl)
          simp only [Act.put, puA, puB, puC]
          refine wpAnyH_ready (rs := [15]) (by kernel_rfl) (by simp) (AllReadyH.cons rfl (fun K hK => ?_) (AllReadyH.nil))
          obtain ⟨⟨q1, q2⟩, q3⟩ := id bx
          go_simp
          clear q1 q2 q3
          replace hB := bl_set5 hB (n := n6) (by omega) (.int .i64 y.inn.k) (.int .i64 y.inn.a) (.int .i64 y.inn.ap) (.int .i64 y.inn.b) (.int .i64 y.inn.bp)
          replace hy := hy.set5 (m := n6) (by omega) (.int .i64 y.inn.k) (.int .i64 y.inn.a) (.int .i64 y.inn.ap) (.int .i64 y.inn.b) (.int .i64 y.inn.bp)
          replace bx := bx.set5 (.int .i64 y.inn.k) (.int .i64 y.inn.a) (.int .i64 y.inn.ap) (.int .i64 y.inn.b) (.int .i64 y.inn.bp)
          refine hK.out _ _ ?_ (fun hHeld1 => ?_)
          · exact hy
          clear hK K hHeld
          have hHeld := hHeld1
          clear hHeld1
          refine takeL 16 7 ?_ ?_ hHeld ?_
          rotate_left
          · (intro w hSw; (try dsimp only at hSw); simp only [AtW] at hSw; go_simp; try with_reducible rfl)
          simp only [Act.put, puA, puB, puC]
          refine wpAnyH_done (by kernel_rfl) ?_ _
          go_wp2_with fail
          subst hn4
          obtain ⟨⟨t1, t2⟩, t3⟩ := id bx
          exact bodyPost_ret (v := .tuple #[.agg #[.int .i64 y.inn.k, .int .i64 y.inn.a, .int .i64 y.inn.ap, .int .i64 y.inn.b, .int .i64 y.inn.bp], .bool true]) (by simp [results, Tryz.results17, go_sem, t2]) rfl ⟨by rw [hfound.out _ hla.out]; simp [hlt], hB⟩
        · skip
          refine wp_region_held_drew (S := (fun w' => AtW w' g (m * 11) y)) (by kernel_rfl) ?_ (fun hHeld => ?_)
          · exact hy.below (bl_drew (bl_refl _)) hgl
          have hq := bl_drew (bl_refl W1)
          replace hB := bl_trans hB hq
          replace bx := bx.below hq
          replace hy := hy.below hq hgl
          replace hgl := Nat.lt_of_lt_of_le hgl hq.size
          clear hq
          generalize W1.drew = W0 at bx hy hgl hB hHeld ⊢
          refine takeL 0 24 ?_ ?_ hHeld ?_
          rotate_left
          · (intro w hSw; (try dsimp only at hSw); simp only [AtW] at hSw; go_simp; try with_reducible rfl)
          simp only [Act.put, puA, puB, puC]
          refine takeL 1 25 ?_ ?_ hHeld ?_
          rotate_left
          · (intro w hSw; (try dsimp only at hSw); simp only [AtW] at hSw; go_simp; try with_reducible rfl)
          simp only [Act.put, puA, puB, puC]
          refine takeL 2 26 ?_ ?_ hHeld ?_
          rotate_left
          · (intro w hSw; (try dsimp only at hSw); simp only [AtW] at hSw; go_simp; try with_reducible rfl)
          simp only [Act.put, puA, puB, puC]
          refine takeL 3 27 ?_ ?_ hHeld ?_
          rotate_left
          · (intro w hSw; (try dsimp only at hSw); simp only [AtW] at hSw; go_simp; try with_reducible rfl)
          simp only [Act.put, puA, puB, puC]
          refine takeL 4 28 ?_ ?_ hHeld ?_
          rotate_left
          · (intro w hSw; (try dsimp only at hSw); simp only [AtW] at hSw; go_simp; try with_reducible rfl)
          simp only [Act.put, puA, puB, puC]
          refine takeL 5 29 ?_ ?_ hHeld ?_
          rotate_left
          · (intro w hSw; (try dsimp only at hSw); simp only [AtW] at hSw; go_simp; try with_reducible rfl)
          simp only [Act.put, puA, puB, puC]
          refine takeL 6 30 ?_ ?_ hHeld ?_
          rotate_left
          · (intro w hSw; (try dsimp only at hSw); simp only [AtW] at hSw; go_simp; try with_reducible rfl)
          simp only [Act.put, puA, puB, puC]
          refine takeL 7 31 ?_ ?_ hHeld ?_
          rotate_left
          · (intro w hSw; (try dsimp only at hSw); simp only [AtW] at hSw; go_simp; try with_reducible rfl)
          simp only [Act.put, puA, puB, puC]
          refine takeL 8 32 ?_ ?_ hHeld ?_
          rotate_left
          · (intro w hSw; (try dsimp only at hSw); simp only [AtW] at hSw; go_simp; try with_reducible rfl)
          simp only [Act.put, puA, puB, puC]
          refine takeL 9 33 ?_ ?_ hHeld ?_
          rotate_left
          · (intro w hSw; (try dsimp only at hSw); simp only [AtW] at hSw; go_simp; try with_reducible rfl)
          simp only [Act.put, puA, puB, puC]
          refine takeL 10 34 ?_ ?_ hHeld ?_
          rotate_left
          · (intro w hSw; (try dsimp only at hSw); simp only [AtW] at hSw; go_simp; try with_reducible rfl)
          simp only [Act.put, puA, puB, puC]
          refine takeL 11 35 ?_ ?_ hHeld ?_
          rotate_left
          · (intro w hSw; (try dsimp only at hSw); simp only [AtW] at hSw; go_simp; try with_reducible rfl)
          simp only [Act.put, puA, puB, puC]
          refine takeL 12 36 ?_ ?_ hHeld ?_
          rotate_left
          · (intro w hSw; (try dsimp only at hSw); simp only [AtW] at hSw; go_simp; try with_reducible rfl)
          simp only [Act.put, puA, puB, puC]
          refine takeL 13 37 ?_ ?_ hHeld ?_
          rotate_left
          · (intro w hSw; (try dsimp only at hSw); simp only [AtW] at hSw; go_simp; try with_reducible rfl)
          simp only [Act.put, puA, puB, puC]
          refine takeL 14 38 ?_ ?_ hHeld ?_
          rotate_left
          · (intro w hSw; (try dsimp only at hSw); simp only [AtW] at hSw; go_simp; try with_reducible rfl)
          simp only [Act.put, puA, puB, puC]
          refine wpAnyH_ready (rs := [15]) (by kernel_rfl) (by simp) (AllReadyH.cons rfl (fun K hK => ?_) (AllReadyH.nil))
          obtain ⟨⟨q1, q2⟩, q3⟩ := id bx
          go_simp
          clear q1 q2 q3
          replace hB := bl_set5 hB (n := n6) (by omega) (.int .i64 y.inn.k) (.int .i64 y.inn.a) (.int .i64 y.inn.ap) (.int .i64 y.inn.b) (.int .i64 y.inn.bp)
          replace hy := hy.set5 (m := n6) (by omega) (.int .i64 y.inn.k) (.int .i64 y.inn.a) (.int .i64 y.inn.ap) (.int .i64 y.inn.b) (.int .i64 y.inn.bp)
          replace bx := bx.set5 (.int .i64 y.inn.k) (.int .i64 y.inn.a) (.int .i64 y.inn.ap) (.int .i64 y.inn.b) (.int .i64 y.inn.bp)
          refine hK.out _ _ ?_ (fun hHeld1 => ?_)
          · exact hy
          clear hK K hHeld
          have hHeld := hHeld1
          clear hHeld1
          refine takeL 16 7 ?_ ?_ hHeld ?_
          rotate_left
          · (intro w hSw; (try dsimp only at hSw); simp only [AtW] at hSw; go_simp; try with_reducible rfl)
          simp only [Act.put, puA, puB, puC]
          refine wpAnyH_done (by kernel_rfl) ?_ _
          go_wp2_with fail
          subst hn4
          obtain ⟨⟨t1, t2⟩, t3⟩ := id bx
          exact bodyPost_ret (v := .tuple #[.agg #[.int .i64 y.inn.k, .int .i64 y.inn.a, .int .i64 y.inn.ap, .int .i64 y.inn.b, .int .i64 y.inn.bp], .bool false]) (by simp [results, Tryz.results17, go_sem, t2]) rfl ⟨by rw [hfound.out _ hla.out]; simp [hlt], hB⟩
      | false =>
        have hqq : flowEq y.out.k y.out.a y.out.ap y.out.b y.out.bp f.k f.b f.bp f.a f.ap = false := hqe
        have hqe : Hid (eqF y.out (backF f) = false) := hqe
        go_upto_region 4 with fail
        refine wp_region_held_drew (S := (fun w' => Box w' n4 #[.int .i64 f.k, .int .i64 f.a, .int .i64 f.ap, .int .i64 f.b, .int .i64 f.bp] ∧ AtW w' g (m * 11) y)) (by kernel_rfl) ?_ (fun hHeld => ?_)
        · exact ⟨x4.below (bl_drew (bl_refl _)), hy.below (bl_drew (bl_refl _)) hgl⟩
        have hq := bl_drew (bl_refl wr)
        replace hB := bl_trans hB hq
        replace hC := bl_trans hC hq
        replace x4 := x4.below hq
        replace bx := bx.below hq
        replace hy := hy.below hq hgl
        replace hgl := Nat.lt_of_lt_of_le hgl hq.size
        clear hq
        generalize wr.drew = W0 at x4 bx hy hgl hB hC hHeld ⊢
        refine takeL 0 15 ?_ ?_ hHeld ?_
        rotate_left
        · (intro w hSw; (try dsimp only at hSw); simp only [Box, AtW] at hSw; go_simp; try with_reducible rfl)
        simp only [Act.put, puA, puB, puC]
        refine takeL 1 16 ?_ ?_ hHeld ?_
        rotate_left
        · (intro w hSw; (try dsimp only at hSw); simp only [Box, AtW] at hSw; go_simp; try with_reducible rfl)
        simp only [Act.put, puA, puB, puC]
        refine takeL 2 17 ?_ ?_ hHeld ?_
        rotate_left
        · (intro w hSw; (try dsimp only at hSw); simp only [Box, AtW] at hSw; go_simp; try with_reducible rfl)
        simp only [Act.put, puA, puB, puC]
        refine takeL 3 18 ?_ ?_ hHeld ?_
        rotate_left
        · (intro w hSw; (try dsimp only at hSw); simp only [Box, AtW] at hSw; go_simp; try with_reducible rfl)
        simp only [Act.put, puA, puB, puC]
        refine takeL 4 19 ?_ ?_ hHeld ?_
        rotate_left
        · (intro w hSw; (try dsimp only at hSw); simp only [Box, AtW] at hSw; go_simp; try with_reducible rfl)
        simp only [Act.put, puA, puB, puC]
        refine takeL 5 20 ?_ ?_ hHeld ?_
        rotate_left
        · (intro w hSw; (try dsimp only at hSw); simp only [Box, AtW] at hSw; go_simp; try with_reducible rfl)
        simp only [Act.put, puA, puB, puC]
        refine takeL 6 21 ?_ ?_ hHeld ?_
        rotate_left
        · (intro w hSw; (try dsimp only at hSw); simp only [Box, AtW] at hSw; go_simp; try with_reducible rfl)
        simp only [Act.put, puA, puB, puC]
        refine wpAnyH_ready (rs := [7]) (by kernel_rfl) (by simp) (AllReadyH.cons rfl (fun K hK => ?_) (AllReadyH.nil))
        refine step_callg 22 20 rfl (by kernel_rfl) (specBack_ret f.k f.a f.ap f.b f.bp _) (by kernel_rfl) ?_
        rintro e W1 ⟨rfl, hb⟩
        refine ⟨_, rfl, ?_⟩
        simp only [Act.put, puA, puB, puC]
        replace hB := bl_trans hB hb
        replace hC := bl_trans hC hb
        replace x4 := x4.below hb
        replace bx := bx.below hb
        replace hy := hy.below hb hgl
        replace hgl := Nat.lt_of_lt_of_le hgl hb.size
        clear hb
        refine hK.out _ _ ?_ (fun hHeld1 => ?_)
        · exact ⟨x4, hy⟩
        clear hK K hHeld
        have hHeld := hHeld1
        clear hHeld1
        refine takeL 8 23 ?_ ?_ hHeld ?_
        rotate_left
        · (intro w hSw; (try dsimp only at hSw); simp only [Box, AtW] at hSw; go_simp; try with_reducible rfl)
        simp only [Act.put, puA, puB, puC]
        refine wpAnyH_done (by kernel_rfl) ?_ _
        go_wp2_with fail
        go_roundg m
        case measure => omega
        case rel => exact ⟨m, rfl, by omega, by go_num, (fun j z hj hz => by rcases Nat.lt_or_ge m j with h | h; exact HN.out j z (by omega) hz; have : j = m := (by omega); subst this; rw [some_one hz hd.out]; exact hqe.out), hB, hC⟩
end Go.Proofs.YtcgjpmhjijmplaaGreatDoor
