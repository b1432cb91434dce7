/- Laws on memory that the walks share: a block with its cells and none frozen; an operation of a region that draws, by its own run; append of anything onto a slice that the call owns. -/
import Derived.Test.YtcgjpmhjijmplaaGreatDoorJoinF
import Derived.Maps.AppendAt
import Derived.Deep.AppendSrc
import Derived.Deep.QuietTactic
import Derived.BigQuiet
namespace Go.Proofs.YtcgjpmhjijmplaaGreatDoor
open Go.ChangeShapes Go.WideShapes Go.ChangeAt Go.RowKit

/-- Block n is there, holds these cells, and none is frozen. -/
def Bx (w : World) (n : Nat) (C : Array Value) : Prop := Box w n C ∧ ∀ j, w.frozen? ⟨n, j, none⟩ = false
theorem Bx.new (w : World) (C : Array Value) (t : TypeId) : Bx (w.alloc (.cells C t)) w.heap.size C := ⟨Box.new w C t, fun j => by simp⟩
theorem Bx.below {W w1 : World} {n : Nat} {C : Array Value} (h : Bx W n C) (hb : Below W.heap.size W w1) : Bx w1 n C :=
  ⟨h.1.below hb, fun j => (hb.frozen (p := ⟨n, j, none⟩) h.1.1).trans (h.2 j)⟩
theorem Bx.set {w : World} {n : Nat} {C : Array Value} (h : Bx w n C) {j : Nat} (hj : j < C.size) (v : Value) : Bx (w.setCell ⟨n, j, none⟩ v) n (C.setIfInBounds j v) := by
  refine ⟨⟨by simpa [World.setCell] using h.1.1, fun i => ?_⟩, fun i => by simp [h.2]⟩
  by_cases hi : i = j
  · subst hi
    rw [World.cell?_setCell_same _ _ _ (show w.cell? ⟨n, i, none⟩ = some C[i] by rw [h.1.2]; simp [hj])]
    simp [hj]
  · rw [World.cell?_setCell_other _ _ _ _ (fun e => hi (by injection e with _ e2; exact e2.symm)), h.1.2 i, Array.getElem?_setIfInBounds_ne (fun e => hi e.symm)]
theorem Bx.other {w : World} {n m : Nat} {C : Array Value} (h : Bx w n C) {j : Nat} (hm : n ≠ m) (v : Value) : Bx (w.setCell ⟨m, j, none⟩ v) n C :=
  ⟨⟨by simpa [World.setCell] using h.1.1, fun i => (World.cell?_setCell_other _ _ _ _ (fun e => hm (by injection e with e1; exact e1.symm))).trans (h.1.2 i)⟩, fun i => by simp [h.2]⟩
theorem Box.other {w : World} {n m : Nat} {C : Array Value} (h : Box w n C) {j : Nat} (hm : n ≠ m) (v : Value) : Box (w.setCell ⟨m, j, none⟩ v) n C :=
  ⟨by simpa [World.setCell] using h.1, fun i => (World.cell?_setCell_other _ _ _ _ (fun e => hm (by injection e with e1; exact e1.symm))).trans (h.2 i)⟩
theorem Box.other4 {w : World} {n m : Nat} {C : Array Value} (h : Box w m C) (hm : m ≠ n) (a b c d : Value) : Box ((((w.setCell ⟨n, 0, none⟩ a).setCell ⟨n, 1, none⟩ b).setCell ⟨n, 2, none⟩ c).setCell ⟨n, 3, none⟩ d) m C :=
  (((h.other hm a).other hm b).other hm c).other hm d
theorem Bx.set4 {w : World} {n : Nat} {x0 x1 x2 x3 : Value} (h : Bx w n #[x0, x1, x2, x3]) (a b c d : Value) : Bx ((((w.setCell ⟨n, 0, none⟩ a).setCell ⟨n, 1, none⟩ b).setCell ⟨n, 2, none⟩ c).setCell ⟨n, 3, none⟩ d) n #[a, b, c, d] :=
  (((h.set (j := 0) (by simp) a).set (j := 1) (by simp) b).set (j := 2) (by simp) c).set (j := 3) (by simp) d
theorem Bx.other8 {w : World} {n m : Nat} {C : Array Value} (h : Bx w m C) (hm : m ≠ n) (a b c d e f g i : Value) : Bx ((((((((w.setCell ⟨n, 0, none⟩ a).setCell ⟨n, 1, none⟩ b).setCell ⟨n, 2, none⟩ c).setCell ⟨n, 3, none⟩ d).setCell ⟨n, 4, none⟩ e).setCell ⟨n, 5, none⟩ f).setCell ⟨n, 6, none⟩ g).setCell ⟨n, 7, none⟩ i) m C :=
  (((((((h.other hm a).other hm b).other hm c).other hm d).other hm e).other hm f).other hm g).other hm i
theorem Bx.set8 {w : World} {n : Nat} {x0 x1 x2 x3 x4 x5 x6 x7 : Value} (h : Bx w n #[x0, x1, x2, x3, x4, x5, x6, x7]) (a b c d e f g i : Value) : Bx ((((((((w.setCell ⟨n, 0, none⟩ a).setCell ⟨n, 1, none⟩ b).setCell ⟨n, 2, none⟩ c).setCell ⟨n, 3, none⟩ d).setCell ⟨n, 4, none⟩ e).setCell ⟨n, 5, none⟩ f).setCell ⟨n, 6, none⟩ g).setCell ⟨n, 7, none⟩ i) n #[a, b, c, d, e, f, g, i] := by
  have h : Bx (w.setCell ⟨n, 0, none⟩ a) n #[a, x1, x2, x3, x4, x5, x6, x7] := h.set (j := 0) (by simp) a
  have h : Bx ((w.setCell ⟨n, 0, none⟩ a).setCell ⟨n, 1, none⟩ b) n #[a, b, x2, x3, x4, x5, x6, x7] := h.set (j := 1) (by simp) b
  have h : Bx (((w.setCell ⟨n, 0, none⟩ a).setCell ⟨n, 1, none⟩ b).setCell ⟨n, 2, none⟩ c) n #[a, b, c, x3, x4, x5, x6, x7] := h.set (j := 2) (by simp) c
  have h : Bx ((((w.setCell ⟨n, 0, none⟩ a).setCell ⟨n, 1, none⟩ b).setCell ⟨n, 2, none⟩ c).setCell ⟨n, 3, none⟩ d) n #[a, b, c, d, x4, x5, x6, x7] := h.set (j := 3) (by simp) d
  have h : Bx (((((w.setCell ⟨n, 0, none⟩ a).setCell ⟨n, 1, none⟩ b).setCell ⟨n, 2, none⟩ c).setCell ⟨n, 3, none⟩ d).setCell ⟨n, 4, none⟩ e) n #[a, b, c, d, e, x5, x6, x7] := h.set (j := 4) (by simp) e
  have h : Bx ((((((w.setCell ⟨n, 0, none⟩ a).setCell ⟨n, 1, none⟩ b).setCell ⟨n, 2, none⟩ c).setCell ⟨n, 3, none⟩ d).setCell ⟨n, 4, none⟩ e).setCell ⟨n, 5, none⟩ f) n #[a, b, c, d, e, f, x6, x7] := h.set (j := 5) (by simp) f
  have h : Bx (((((((w.setCell ⟨n, 0, none⟩ a).setCell ⟨n, 1, none⟩ b).setCell ⟨n, 2, none⟩ c).setCell ⟨n, 3, none⟩ d).setCell ⟨n, 4, none⟩ e).setCell ⟨n, 5, none⟩ f).setCell ⟨n, 6, none⟩ g) n #[a, b, c, d, e, f, g, x7] := h.set (j := 6) (by simp) g
  have h : Bx ((((((((w.setCell ⟨n, 0, none⟩ a).setCell ⟨n, 1, none⟩ b).setCell ⟨n, 2, none⟩ c).setCell ⟨n, 3, none⟩ d).setCell ⟨n, 4, none⟩ e).setCell ⟨n, 5, none⟩ f).setCell ⟨n, 6, none⟩ g).setCell ⟨n, 7, none⟩ i) n #[a, b, c, d, e, f, g, i] := h.set (j := 7) (by simp) i
  exact h
theorem Bx.set5 {w : World} {n : Nat} {x0 x1 x2 x3 x4 : Value} (h : Bx w n #[x0, x1, x2, x3, x4]) (a b c d e : Value) : Bx (((((w.setCell ⟨n, 0, none⟩ a).setCell ⟨n, 1, none⟩ b).setCell ⟨n, 2, none⟩ c).setCell ⟨n, 3, none⟩ d).setCell ⟨n, 4, none⟩ e) n #[a, b, c, d, e] := by
  have h : Bx (w.setCell ⟨n, 0, none⟩ a) n #[a, x1, x2, x3, x4] := h.set (j := 0) (by simp) a
  have h := h.set (j := 1) (by simp) b
  have h := h.set (j := 2) (by simp) c
  have h := h.set (j := 3) (by simp) d
  have h := h.set (j := 4) (by simp) e
  exact h
theorem Box.other5 {w : World} {n m : Nat} {C : Array Value} (h : Box w m C) (hm : m ≠ n) (a b c d e : Value) : Box (((((w.setCell ⟨n, 0, none⟩ a).setCell ⟨n, 1, none⟩ b).setCell ⟨n, 2, none⟩ c).setCell ⟨n, 3, none⟩ d).setCell ⟨n, 4, none⟩ e) m C :=
  ((((h.other hm a).other hm b).other hm c).other hm d).other hm e
theorem wpAnyH_strong {P : Program} {md : Region.Mode} {ops : Array Oper} {Q : Exit → Act → World → Prop} {S S' : World → Prop} (hS : ∀ w, S' w → S w) :
    ∀ {fuel : Nat} {listed : Array Bool} {a : Act} {w : World}, wpAnyH P md ops Q S' fuel listed a w → wpAnyH P md ops Q S fuel listed a w
  | 0, _, _, _, h => h
  | _ + 1, _, _, _, h => ⟨h.1, fun i hi => wpOp_mono (fun _ _ h' => ⟨hS _ h'.1, wpAnyH_strong hS h'.2⟩) (h.2 i hi)⟩
theorem wpAnyH_alloc {P : Program} {md : Region.Mode} {ops : Array Oper} {Q : Exit → Act → World → Prop} {S : World → Prop} {fuel : Nat} {listed : Array Bool} {a : Act} {w : World} {C : Array Value} {t : TypeId} (T : Array Value → Prop) (hT : T C)
    (h : ∀ C' W, T C' → Below w.heap.size w W → Box W w.heap.size C' → wpAnyH P md ops Q (fun w' => S w' ∧ Box w' w.heap.size C') fuel listed a W) : wpAnyH P md ops Q S fuel listed a (w.alloc (.cells C t)) :=
  wpAnyH_strong (fun _ h => h.1) (h C _ hT (bl_alloc (bl_refl _) _) (Box.new _ _ _))

theorem step_callg {P : Program} {w : World} {ops : Array Oper} {o : Oper} {a : Act} {K : Act → World → Prop} {Q : Exit → Act → World → Prop} {E : Prop} (d f : Nat) {vs : Array Value} {post : Ending → World → Prop} (hd : o.dst = some d) (hw : Region.wanted o (yielded ops a.tmps) = true)
    (hc : Calls P f vs w post) (hrun : (execOp a.eval o).run P w = .ok (.enter f vs) w) (h : ∀ e w', post e w' → ∃ v, e = .returned v ∧ K (a.put (some d) v) w') :
    if Region.wanted o (yielded ops a.tmps) = true then Oper.wp P o a w K Q else E := by
  rw [if_pos hw]
  unfold Oper.wp
  rw [hrun, Oper.upon_enter]
  refine hc.mono ?_
  intro e w' he
  obtain ⟨v, rfl, hk⟩ := h e w' he
  show K (a.put o.dst v) w'
  rw [hd]; exact hk
/-- What an append takes: nothing (nil), or m elements behind an address. -/
def Takes (w : World) (size : Nat) (x : Value) (m : Nat) (news : List Value) : Prop :=
  (m = 0 ∧ news = [] ∧ ∃ c, x = .slice none 0 c) ∨ (news.length = m * size ∧ (∀ u ∈ news, u.oneCell' = true) ∧ ∃ a c, x = .slice (some a) m c ∧ ∀ j u, news[j]? = some u → w.cell? (a.add j) = some u)
theorem run_append_any {P : Program} (w : World) (base : Nat) (t ty e : TypeId) (i : TypeInfo) (z : Value) (size bytes : Nat) (ht : P.underlying t = some (.slice e)) (hi : P.info? e = some i) (hz : i.zero = some z)
    (hsize : i.size = size) (hby : i.bytes = bytes) (hzs : z.cells.size = size) (hsz : 0 < size)
    (v : Value) (n : Nat) (xs : List Value) (hown : w.ownsRow base e size v n xs) (x : Value) (m : Nat) (news : List Value) (hx : Takes w size x m news)
    (h63 : n + m ≤ maxLen) (hbytes : (n + m) * bytes ≤ 140737488355328) (hbase : base ≤ w.heap.size) :
    ∃ v' w', (Builtin.append_ #[t, t] ty #[v, x]).run P w = .ok v' w' ∧ w'.ownsRow base e size v' (n + m) (xs ++ news) ∧ w.grownBy w' v.ownBlock := by
  rcases hx with ⟨rfl, rfl, c, rfl⟩ | ⟨hl, h1, a, c, rfl, hnews⟩
  · refine ⟨v, w, ?_, by simpa using hown, ⟨rfl, rfl, rfl, Nat.le_refl _, fun _ _ _ => rfl⟩⟩
    rcases hown.2 with ⟨rfl, rfl⟩ | ⟨g, cap, cur, rfl, hbg, hg, hnc, hcm, hcs, htake⟩
    · simp [Builtin.append_, run_underlying ht, sizeOf, typeInfo, hi, Builtin.lenOf, Builtin.firstCells]
    · have h := run_append_room_src (P := P) w t t ty e i ht hi g 0 n cap (.slice none 0 c) 0 [] (Src.ofNil w ht c) (by omega) (fun j hj => by simp at hj) (fun j hj => by simp at hj)
      simpa [World.setCells] using h
  · obtain ⟨v', w', hr, h2, h3, _, _⟩ := run_append_own_at (P := P) w base t ty e i z size bytes ht hi hz hsize hby hzs hsz v n xs hown a m c news hl hnews h1 h63 hbytes hbase
    exact ⟨v', w', hr, h2, h3⟩
theorem wp_append_any {P : Program} (w : World) {o : Oper} {a : Act} {K : Act → World → Prop} {Q : Exit → Act → World → Prop} (s x : Operand) (t : TypeId)
    (ho : o.op = .call { callee := .builtin .append, args := #[s, x], argTypes := #[t, t] })
    (base : Nat) (e : TypeId) (i : TypeInfo) (z : Value) (size bytes : Nat) (ht : P.underlying t = some (.slice e)) (hi : P.info? e = some i) (hz : i.zero = some z)
    (hsize : i.size = size) (hby : i.bytes = bytes) (hzs : z.cells.size = size) (hsz : 0 < size)
    (v : Value) (n : Nat) (xs : List Value) (hs : a.eval s = v) (hown : w.ownsRow base e size v n xs) (xv : Value) (m : Nat) (news : List Value) (hx : a.eval x = xv) (hT : Takes w size xv m news)
    (h63 : n + m ≤ maxLen) (hbytes : (n + m) * bytes ≤ 140737488355328) (hbase : base ≤ w.heap.size)
    (h : ∀ v' w', w'.ownsRow base e size v' (n + m) (xs ++ news) → w.grownBy w' v.ownBlock → K (a.put o.dst v') w') : o.wp P a w K Q := by
  obtain ⟨v', w', hr, h2, h3⟩ := run_append_any (P := P) w base t o.type e i z size bytes ht hi hz hsize hby hzs hsz v n xs hown xv m news hT h63 hbytes hbase
  unfold Oper.wp execOp
  simp only [ho, resolve, invoke, builtin, Sem.run_bind, Sem.run_pure, Result.andThen_ok, List.map_toArray, List.map_cons, List.map_nil, hs, hx, hr]
  exact h v' w' h2 h3
theorem step_append_any {P : Program} (w : World) {ops : Array Oper} {o : Oper} {a : Act} {K : Act → World → Prop} {Q : Exit → Act → World → Prop} {E : Prop} (d : Nat) (hd : o.dst = some d) (hgd : o.guard = none) (s x : Operand) (t : TypeId)
    (ho : o.op = .call { callee := .builtin .append, args := #[s, x], argTypes := #[t, t] })
    (base : Nat) (e : TypeId) (i : TypeInfo) (z : Value) (size bytes : Nat) (ht : P.underlying t = some (.slice e)) (hi : P.info? e = some i) (hz : i.zero = some z)
    (hsize : i.size = size) (hby : i.bytes = bytes) (hzs : z.cells.size = size) (hsz : 0 < size)
    (v : Value) (n : Nat) (xs : List Value) (hs : a.eval s = v) (hown : w.ownsRow base e size v n xs) (xv : Value) (m : Nat) (news : List Value) (hx : a.eval x = xv) (hT : Takes w size xv m news)
    (h63 : n + m ≤ maxLen) (hbytes : (n + m) * bytes ≤ 140737488355328) (hbase : base ≤ w.heap.size)
    (h : ∀ v' w', w'.ownsRow base e size v' (n + m) (xs ++ news) → w.grownBy w' v.ownBlock → K (a.put (some d) v') w') :
    if Region.wanted o (yielded ops a.tmps) = true then Oper.wp P o a w K Q else E := by
  have hw : Region.wanted o (yielded ops a.tmps) = true := by simp [Region.wanted, hgd]
  rw [if_pos hw]
  exact wp_append_any w s x t ho base e i z size bytes ht hi hz hsize hby hzs hsz v n xs hs hown xv m news hx hT h63 hbytes hbase (by rw [hd]; exact h)

def drV (d : Dr) : List Value := [.int .i64 d.k, .int .i64 d.o, .int .i64 d.i, .int .i64 d.p]
def flatD : List Dr → List Value
  | [] => []
  | d :: L => drV d ++ flatD L
theorem flatD_append (L M : List Dr) : flatD (L ++ M) = flatD L ++ flatD M := by
  induction L with
  | nil => rfl
  | cons d L ih => simp [flatD, ih]
theorem flatD_length (L : List Dr) : (flatD L).length = L.length * 4 := by
  induction L with
  | nil => rfl
  | cons d L ih => simp [flatD, drV, ih]; omega
theorem flatD_at (L : List Dr) (i : Nat) (d : Dr) (h : L[i]? = some d) (j : Nat) (hj : j < 4) : (flatD L)[i * 4 + j]? = (drV d)[j]? := by
  induction L generalizing i with
  | nil => simp at h
  | cons x L ih =>
    have hl : (drV x).length = 4 := rfl
    cases i with
    | zero =>
      simp at h; subst h
      simp only [flatD, Nat.zero_mul, Nat.zero_add]
      rw [List.getElem?_append_left (by omega)]
    | succ i =>
      simp at h
      simp only [flatD]
      rw [List.getElem?_append_right (by omega), hl, show (i + 1) * 4 + j - 4 = i * 4 + j by omega]
      exact ih i h
theorem flatD_one (L : List Dr) : ∀ u ∈ flatD L, u.oneCell' = true := by
  induction L with
  | nil => intro u hu; cases hu
  | cons d L ih =>
    intro u hu
    simp only [flatD, List.mem_append] at hu
    rcases hu with hu | hu
    · simp only [drV, List.mem_cons, List.not_mem_nil, or_false] at hu
      rcases hu with rfl | rfl | rfl | rfl <;> rfl
    · exact ih u hu
theorem drCells_of_own {w : World} {base g n cap : Nat} {L : List Dr} {e : TypeId} (h : w.ownsRow base e 4 (.slice (some ⟨g, 0, none⟩) n cap) L.length (flatD L)) (hn : n = L.length) : DrCells w g 0 L := by
  subst hn
  rcases h.2 with ⟨h1, _⟩ | ⟨g', cap', cur, hv, _, hb, _, _, _, ht⟩
  · cases h1
  · simp only [Value.slice.injEq, Option.some.injEq, Addr.mk.injEq] at hv
    obtain ⟨⟨rfl, _⟩, _, rfl⟩ := hv
    intro i d hi
    have hil : i < L.length := by
      rcases Nat.lt_or_ge i L.length with h | h
      · exact h
      · rw [List.getElem?_eq_none h] at hi; cases hi
    have key : ∀ j, j < 4 → w.cell? ⟨g, 0 + i * 4 + j, none⟩ = (drV d)[j]? := by
      intro j hj
      have e1 : (cur.toList.take (L.length * 4))[i * 4 + j]? = cur.toList[i * 4 + j]? := List.getElem?_take_of_lt (by omega)
      rw [ht, flatD_at L i d hi j hj] at e1
      simp only [World.cell?, hb]
      rw [e1]; simp
    exact ⟨by simpa [drV] using key 0 (by omega), by simpa [drV] using key 1 (by omega), by simpa [drV] using key 2 (by omega), by simpa [drV] using key 3 (by omega)⟩
theorem addr_addD (n k j : Nat) : Addr.add ⟨n, k, none⟩ j = ⟨n, k + j, none⟩ := by
  unfold Addr.add; simp; try omega
/-- The cells of some of the doors in memory, as an append takes them. -/
theorem takes_doors {w : World} {b o : Nat} {ds : List Dr} (hc : DrCells w b o ds) (k m c : Nat) (L : List Dr) (hL : ∀ i, i < m → L[i]? = ds[k + i]?) (hm : L.length = m) : Takes w 4 (.slice (some ⟨b, o + k * 4, none⟩) m c) m (flatD L) := by
  refine Or.inr ⟨by rw [flatD_length, hm], flatD_one L, _, c, rfl, fun j u hu => ?_⟩
  have hj : j < m * 4 := by
    rcases Nat.lt_or_ge j (m * 4) with h | h
    · exact h
    · rw [List.getElem?_eq_none (by rw [flatD_length]; omega)] at hu; cases hu
  obtain ⟨d, hd⟩ : ∃ d, L[j / 4]? = some d := ⟨L[j / 4], by simp⟩
  have hd' : ds[k + j / 4]? = some d := by rw [← hL (j / 4) (by omega)]; exact hd
  have e := flatD_at L (j / 4) d hd (j % 4) (by omega)
  rw [show j / 4 * 4 + j % 4 = j by omega, hu] at e
  obtain ⟨c0, c1, c2, c3⟩ := hc _ d hd'
  rw [addr_addD]
  have hj4 : j = j / 4 * 4 + j % 4 := by omega
  rcases (show j % 4 = 0 ∨ j % 4 = 1 ∨ j % 4 = 2 ∨ j % 4 = 3 by omega) with h | h | h | h <;> rw [h] at e hj4 <;> simp [drV] at e <;> subst e
  · rw [show o + k * 4 + j = o + (k + j / 4) * 4 by omega]; exact c0
  · rw [show o + k * 4 + j = o + (k + j / 4) * 4 + 1 by omega]; exact c1
  · rw [show o + k * 4 + j = o + (k + j / 4) * 4 + 2 by omega]; exact c2
  · rw [show o + k * 4 + j = o + (k + j / 4) * 4 + 3 by omega]; exact c3
theorem infoDr : (Tryz.prog.info? 85).map (fun i => (i.zero, i.size, i.bytes)) = some (some (.agg #[.int .i64 0, .int .i64 0, .int .i64 0, .int .i64 0]), 4, 32) := by kernel_rfl
theorem ownsRow_bl {w w' : World} {base size n : Nat} {e : TypeId} {v : Value} {xs : List Value} (h : w.ownsRow base e size v n xs) (hb : Below w.heap.size w w') : w'.ownsRow base e size v n xs := by
  refine ⟨h.1, ?_⟩
  rcases h.2 with h0 | ⟨g, cap, cur, hv, hg, hh, r⟩
  · exact Or.inl h0
  · have hlt : g < w.heap.size := by
      rcases Nat.lt_or_ge g w.heap.size with h' | h'
      · exact h'
      · rw [Array.getElem?_eq_none h'] at hh; cases hh
    exact Or.inr ⟨g, cap, cur, hv, hg, (hb.block g hlt).trans hh, r⟩
theorem Box.far {w w' : World} {n : Nat} {C : Array Value} {row : Option Nat} (h : Box w n C) (hg : w.grownBy w' row) (hr : ∀ k, row = some k → n ≠ k) : Box w' n C :=
  ⟨Nat.lt_of_lt_of_le h.1 hg.size, fun j => (World.cell?_of_block (w := w) (a := ⟨n, j, none⟩) (hg.block n h.1 (fun e => by have := hr n e.symm; omega))).trans (h.2 j)⟩
theorem takes_box {w : World} {n : Nat} {d : Dr} (h : Box w n #[.int .i64 d.k, .int .i64 d.o, .int .i64 d.i, .int .i64 d.p]) : Takes w 4 (.slice (some ⟨n, 0, none⟩) 1 1) 1 (flatD [d]) := by
  refine Or.inr ⟨rfl, flatD_one _, _, 1, rfl, fun j u hu => ?_⟩
  rw [addr_addD, Nat.zero_add, h.2 j]
  simpa [flatD, drV] using hu
theorem own_form {w : World} {base size n : Nat} {e : TypeId} {v : Value} {xs : List Value} (h : w.ownsRow base e size v n xs) (hn : 0 < n) : ∃ g cap, v = .slice (some ⟨g, 0, none⟩) n cap ∧ base ≤ g ∧ g < w.heap.size ∧ n ≤ cap ∧ cap ≤ maxLen := by
  rcases h.2 with ⟨_, h0⟩ | ⟨g, cap, cur, hv, hb, hg, hc, hm, _⟩
  · omega
  · refine ⟨g, cap, hv, hb, ?_, hc, hm⟩
    rcases Nat.lt_or_ge g w.heap.size with hlt | hge
    · exact hlt
    · rw [Array.getElem?_eq_none hge] at hg; cases hg
theorem wpAnyH_own0 {P : Program} {md : Region.Mode} {ops : Array Oper} {Q : Exit → Act → World → Prop} {S : World → Prop} {fuel : Nat} {listed : Array Bool} {a : Act} {w : World} {t : TypeId} {base : Nat} (size : Nat) (hb : base ≤ w.heap.size)
    (h : ∀ W, Below w.heap.size w W → W.ownsRow base t size (.slice (some ⟨w.heap.size, 0, none⟩) 0 0) 0 [] → wpAnyH P md ops Q S fuel listed a W) : wpAnyH P md ops Q S fuel listed a (w.alloc (.cells #[] t)) :=
  h _ (bl_alloc (bl_refl _) _) (World.ownsRow_made w #[] 0 hb (by decide) (by simp))
theorem wpAnyH_new {P : Program} {md : Region.Mode} {ops : Array Oper} {Q : Exit → Act → World → Prop} {S : World → Prop} {fuel : Nat} {listed : Array Bool} {a : Act} {w : World} {C : Array Value} {t : TypeId}
    (h : ∀ W, Below w.heap.size w W → Box W w.heap.size C → wpAnyH P md ops Q S fuel listed a W) : wpAnyH P md ops Q S fuel listed a (w.alloc (.cells C t)) :=
  h _ (bl_alloc (bl_refl _) _) (Box.new _ _ _)
end Go.Proofs.YtcgjpmhjijmplaaGreatDoor
