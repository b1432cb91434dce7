/- Steps of regions that draw: loads, short. -/
import Derived.Test.YtcgjpmhjijmplaaGreatDoorJoinP
import Derived.Test.YtcgjpmhjijmplaaGreatDoorJoinE
import Derived.Test.YtcgjpmhjijmplaaGreatDoorJoinF
namespace Go.Proofs.YtcgjpmhjijmplaaGreatDoor
open Go.ChangeShapes Go.WideShapes Go.ChangeAt Go.RowKit

/-- What a load does, whatever the world. -/
def ldSem (T : TypeId) (a : Addr) : Sem Next := do pure (.value (← Instr.loadAt T (.pointer (some a))))
theorem ld_int {w : World} {a : Addr} {x : Int} (h : w.cell? a = some (.int .i64 x)) : (ldSem 3 a).run Tryz.prog w = .ok (.value (.int .i64 x)) w := by
  unfold ldSem
  go_simp
theorem ld_doors {w : World} {a : Addr} {p : Option Addr} {n c : Nat} (h : w.cell? a = some (.slice p n c)) : (ldSem 23 a).run Tryz.prog w = .ok (.value (.slice p n c)) w := by
  unfold ldSem
  go_simp
theorem ld_ents {w : World} {a : Addr} {p : Option Addr} {n c : Nat} (h : w.cell? a = some (.slice p n c)) : (ldSem 24 a).run Tryz.prog w = .ok (.value (.slice p n c)) w := by
  unfold ldSem
  go_simp
theorem mid_ld {P : Program} {w : World} {ops : Array Oper} {o : Oper} {t : Array Value} {df : List Deferred} {K : Act → World → Prop} {Q : Exit → Act → World → Prop} {E : Prop} {T : TypeId} {a : Addr} {x : Value} (hw : Region.wanted o (yielded ops t) = true)
    (hx : execOp (Act.eval ⟨t, df⟩) o = ldSem T a) (hrun : (ldSem T a).run P w = .ok (.value x) w) (h : K (Act.put ⟨t, df⟩ o.dst x) w) : Held (if Region.wanted o (yielded ops t) = true then Oper.wp P o ⟨t, df⟩ w K Q else E) :=
  mid_val x w hw (by rw [hx]; exact hrun) h
/-- What is kept through a region: nothing old but the reader turns, the reader has read little, and M. -/
def JS (R : Nat) (W : World) (N : Int) (M : World → Prop) (c : Nat) (w : World) : Prop := Apart R W w ∧ Rb w R (N + 3 * c) ∧ M w
section
variable {R : Nat} {W w w' : World} {N : Int} {M : World → Prop} {c : Nat}
theorem JS.next (h : JS R W N M c w) : JS R W N M (c + 1) w := ⟨h.1, h.2.1.le (by omega), h.2.2⟩
theorem JS.far (h : JS R W N M c w) (hM : ∀ w w', M w → Apart R w w' → M w') (ha : Apart R w w') (hr : Rb w' R (N + 3 * c + 1)) : JS R W N M (c + 1) w' := ⟨ap_trans h.1 ha, hr.le (by omega), hM _ _ h.2.2 ha⟩
theorem JS.more (h : JS R W N M c w) (hM : ∀ w w', M w → Apart R w w' → M w') (o : Obj) : JS R W N M (c + 1) (w.alloc o) := ⟨ap_alloc h.1 _, (h.2.1.below (bl_alloc (bl_refl _) _)).le (by omega), hM _ _ h.2.2 (ap_alloc (ap_refl _ _) _)⟩
theorem JS.zero (hr : Rb w R N) (hm : M w) (hM : ∀ w w', M w → Apart R w w' → M w') : JS R w N M 0 w.drew := ⟨ap_of_bl (bl_drew (bl_refl _)), (hr.below (bl_drew (bl_refl _))).le (by omega), hM _ _ hm (ap_of_bl (bl_drew (bl_refl _)))⟩
end
def bdT : Int → Prop := fun _ => True
def bdS : Int → Prop := fun x => -999999 ≤ x ∧ x ≤ 999999
def bdM : Int → Prop := fun x => -1000000 ≤ x ∧ x ≤ 1000000
def IsInt (bd : Int → Prop) (v : Value) : Prop := ∃ x : Int, v = .int .i64 x ∧ bd x
def IsPick (n : Int) (v : Value) : Prop := ∃ r : Int, v = .int .i64 r ∧ 0 ≤ r ∧ r < n
/-- A slice of integers, made since. -/
def IntsL (R L : Nat) (bd : Int → Prop) (v : Value) (w : World) : Prop := ∃ n, v = .slice (some ⟨n, 0, none⟩) L L ∧ n ≠ R ∧ n < w.heap.size ∧ ∀ j, j < L → ∃ x : Int, w.cell? ⟨n, j, none⟩ = some (.int .i64 x) ∧ bd x
/-- The place of one of them. -/
def IntAt (R : Nat) (bd : Int → Prop) (v : Value) (w : World) : Prop := ∃ n j x, v = .pointer (some ⟨n, j, none⟩) ∧ n ≠ R ∧ n < w.heap.size ∧ w.cell? ⟨n, j, none⟩ = some (.int .i64 x) ∧ bd x
theorem IntsL.apart {R L : Nat} {bd : Int → Prop} {v : Value} {w w' : World} (h : IntsL R L bd v w) (hR : Apart R w w') : IntsL R L bd v w' := by
  obtain ⟨n, h1, h2, h3, h4⟩ := h
  refine ⟨n, h1, h2, Nat.lt_of_lt_of_le h3 hR.size, fun j hj => ?_⟩
  obtain ⟨x, hx, hb⟩ := h4 j hj
  exact ⟨x, (hR.cell h3 h2).trans hx, hb⟩
theorem IntAt.apart {R : Nat} {bd : Int → Prop} {v : Value} {w w' : World} (h : IntAt R bd v w) (hR : Apart R w w') : IntAt R bd v w' := by
  obtain ⟨n, j, x, h1, h2, h3, h4, h5⟩ := h
  exact ⟨n, j, x, h1, h2, Nat.lt_of_lt_of_le h3 hR.size, (hR.cell h3 h2).trans h4, h5⟩
def ofI (xs : List Int) : Array Value := (xs.map (Value.int .i64 ·)).toArray
theorem fn {bd : Int → Prop} : ∀ x ∈ ([] : List Int), bd x := fun x h => by cases h
theorem fa {bd : Int → Prop} {a : Int} {l : List Int} (h : bd a) (hl : ∀ x ∈ l, bd x) : ∀ x ∈ a :: l, bd x := fun x hx => by
  rcases List.mem_cons.1 hx with rfl | hx
  · exact h
  · exact hl x hx
theorem ints_new {R : Nat} {bd : Int → Prop} {w : World} (xs : List Int) (hR : R < w.heap.size) (h : ∀ x ∈ xs, bd x) : IntsL R xs.length bd (.slice (some ⟨w.heap.size, 0, none⟩) xs.length xs.length) (w.alloc (.cells (ofI xs) 3)) := by
  refine ⟨_, rfl, Nat.ne_of_gt hR, by simp, fun j hj => ⟨xs[j], ?_, h _ (List.getElem_mem hj)⟩⟩
  rw [World.cell?_alloc_new]
  simp [ofI, hj]
/-- What an index does, whatever the world. -/
def ixSem (n L : Nat) (r : Int) : Sem Next := do pure (.value (← Instr.indexAt 128 (.slice (some ⟨n, 0, none⟩) L L) (.int .i64 r)))
theorem ix_ok {w : World} {n L : Nat} {r : Int} (h0 : 0 ≤ r) (h1 : r < L) : (ixSem n L r).run Tryz.prog w = .ok (.value (.pointer (some ⟨n, r.toNat, none⟩))) w := by
  obtain ⟨j, rfl⟩ : ∃ j : Nat, r = j := ⟨r.toNat, by omega⟩
  have hj : j < L := by omega
  unfold ixSem
  go_simp
def ixSemT (T : TypeId) (n L c : Nat) (r : Int) : Sem Next := do pure (.value (← Instr.indexAt T (.slice (some ⟨n, 0, none⟩) L c) (.int .i64 r)))
theorem ixd_ok {w : World} {n L c : Nat} {r : Int} (h0 : 0 ≤ r) (h1 : r < L) : (ixSemT 23 n L c r).run Tryz.prog w = .ok (.value (.pointer (some ⟨n, r.toNat * 4, none⟩))) w := by
  obtain ⟨j, rfl⟩ : ∃ j : Nat, r = j := ⟨r.toNat, by omega⟩
  have hj : j < L := by omega
  unfold ixSemT
  go_simp
theorem ixe_ok {w : World} {n L c : Nat} {r : Int} (h0 : 0 ≤ r) (h1 : r < L) : (ixSemT 24 n L c r).run Tryz.prog w = .ok (.value (.pointer (some ⟨n, r.toNat * 7, none⟩))) w := by
  obtain ⟨j, rfl⟩ : ∃ j : Nat, r = j := ⟨r.toNat, by omega⟩
  have hj : j < L := by omega
  unfold ixSemT
  go_simp
section
variable {w : World} {ops : Array Oper} {o : Oper} {t : Array Value} {df : List Deferred} {K : Act → World → Prop} {Q : Exit → Act → World → Prop} {E : Prop}
theorem mid_ix {R L : Nat} {bd : Int → Prop} {n : Nat} {r : Int} (hc : ∀ j, j < L → ∃ x : Int, w.cell? ⟨n, j, none⟩ = some (.int .i64 x) ∧ bd x) (hn : n ≠ R) (hl : n < w.heap.size) (r0 : 0 ≤ r) (r1 : r < L) (hw : Region.wanted o (yielded ops t) = true) (hx : execOp (Act.eval ⟨t, df⟩) o = ixSem n L r) (h : ∀ v, IntAt R bd v w → K (Act.put ⟨t, df⟩ o.dst v) w) :
    Held (if Region.wanted o (yielded ops t) = true then Oper.wp Tryz.prog o ⟨t, df⟩ w K Q else E) := by
  obtain ⟨x, hx1, hx2⟩ := hc r.toNat (by omega)
  exact mid_val _ w hw (by rw [hx]; exact ix_ok r0 r1) (h _ ⟨n, r.toNat, x, rfl, hn, hl, hx1, hx2⟩)
theorem mid_sem {x : Value} (S : Sem Next) (hw : Region.wanted o (yielded ops t) = true) (hx : execOp (Act.eval ⟨t, df⟩) o = S) (hrun : S.run Tryz.prog w = .ok (.value x) w) (h : K (Act.put ⟨t, df⟩ o.dst x) w) : Held (if Region.wanted o (yielded ops t) = true then Oper.wp Tryz.prog o ⟨t, df⟩ w K Q else E) :=
  mid_val x w hw (by rw [hx]; exact hrun) h
theorem mid_pick (R : Nat) (k : Int) {n : Int} (hr : Rb w R n) (hn : n ≤ 1000000000) (hk : 1 ≤ k) (hk1 : k ≤ 1000000) (hw : Region.wanted o (yielded ops t) = true) (hrun : (execOp (Act.eval ⟨t, df⟩) o).run Tryz.prog w = .ok (.enter 42 #[.pointer (some ⟨R, 0, none⟩), .int .i64 k]) w)
    (h : ∀ v w', IsPick k v → Apart R w w' → Rb w' R (n + 1) → K (Act.put ⟨t, df⟩ o.dst v) w') : Held (if Region.wanted o (yielded ops t) = true then Oper.wp Tryz.prog o ⟨t, df⟩ w K Q else E) := by
  refine mid_call 42 hw (pick_rb R _ k w hr hn hk hk1) hrun ?_
  rintro e w' ⟨⟨r, rfl, r0, r1⟩, ha, hr⟩
  exact ⟨_, rfl, h _ _ ⟨r, rfl, r0, r1⟩ ha hr⟩
end
/-- What a store of an integer does. -/
def stSem (a : Addr) (x : Int) : Sem Next := do Instr.storeAt 3 (.pointer (some a)) (.int .i64 x); pure .skip
theorem st_int {w : World} {a : Addr} {x : Int} {u : Value} (h : w.cell? a = some u) (hf : w.frozen? a = false) : (stSem a x).run Tryz.prog w = .ok .skip (w.setCell a (.int .i64 x)) := by
  unfold stSem
  go_simp
theorem mid_st {P : Program} {w W : World} {ops : Array Oper} {o : Oper} {t : Array Value} {df : List Deferred} {K : Act → World → Prop} {Q : Exit → Act → World → Prop} {E : Prop} (S : Sem Next) (hw : Region.wanted o (yielded ops t) = true)
    (hx : execOp (Act.eval ⟨t, df⟩) o = S) (hd : o.dst = none) (hrun : S.run P w = .ok .skip W) (h : K ⟨t, df⟩ W) : Held (if Region.wanted o (yielded ops t) = true then Oper.wp P o ⟨t, df⟩ w K Q else E) :=
  mid_skip W hw (by rw [hx]; exact hrun) (by rw [hd]; exact h)
theorem mid_stc {P : Program} {w W : World} {ops : Array Oper} {o : Oper} {t t' : Array Value} {df : List Deferred} {K : Act → World → Prop} {Q : Exit → Act → World → Prop} {E : Prop} (S : Sem Next) (ht : t = t') (hw : Region.wanted o (yielded ops t) = true)
    (hx : execOp (Act.eval ⟨t, df⟩) o = S) (hd : o.dst = none) (hrun : S.run P w = .ok .skip W) (h : K ⟨t', df⟩ W) : Held (if Region.wanted o (yielded ops t) = true then Oper.wp P o ⟨t, df⟩ w K Q else E) :=
  mid_st S hw hx hd hrun (ht ▸ h)
theorem ld_en {w : World} {g k : Nat} {d : En} (c0 : w.cell? ⟨g, k, none⟩ = some (.int .i64 d.k)) (c1 : w.cell? ⟨g, k + 1, none⟩ = some (.int .i64 d.pr)) (c2 : w.cell? ⟨g, k + 2, none⟩ = some (.int .i64 d.pp)) (c3 : w.cell? ⟨g, k + 3, none⟩ = some (.int .i64 d.o)) (c4 : w.cell? ⟨g, k + 4, none⟩ = some (.int .i64 d.i)) (c5 : w.cell? ⟨g, k + 5, none⟩ = some (.int .i64 d.ip)) (c6 : w.cell? ⟨g, k + 6, none⟩ = some (.int .i64 d.l)) :
    (ldSem 52 ⟨g, k, none⟩).run Tryz.prog w = .ok (.value (.agg #[.int .i64 d.k, .int .i64 d.pr, .int .i64 d.pp, .int .i64 d.o, .int .i64 d.i, .int .i64 d.ip, .int .i64 d.l])) w := by
  unfold ldSem
  go_simp
def stSemE (a : Addr) (v : Value) : Sem Next := do Instr.storeAt 24 (.pointer (some a)) v; pure .skip
theorem st_ents {w : World} {a : Addr} {p : Option Addr} {n c : Nat} {u : Value} (h : w.cell? a = some u) (hf : w.frozen? a = false) : (stSemE a (.slice p n c)).run Tryz.prog w = .ok .skip (w.setCell a (.slice p n c)) := by
  unfold stSemE
  go_simp
/-- What an append of entries does. -/
def apSem (v x : Value) : Sem Next := do let r ← Builtin.append_ #[24, 24] 24 #[v, x]; pure (.value r)
theorem ap_run {P : Program} {w w' : World} {v x v' : Value} (h : (Builtin.append_ #[24, 24] 24 #[v, x]).run P w = .ok v' w') : (apSem v x).run P w = .ok (.value v') w' := by
  unfold apSem
  simp only [Sem.run_bind, h, Result.andThen_ok, Sem.run_pure]
theorem mid_ap {w W : World} {ops : Array Oper} {o : Oper} {t : Array Value} {df : List Deferred} {K : Act → World → Prop} {Q : Exit → Act → World → Prop} {E : Prop} {x : Value} (S : Sem Next) (hw : Region.wanted o (yielded ops t) = true) (hx : execOp (Act.eval ⟨t, df⟩) o = S) (hrun : S.run Tryz.prog w = .ok (.value x) W) (h : K (Act.put ⟨t, df⟩ o.dst x) W) : Held (if Region.wanted o (yielded ops t) = true then Oper.wp Tryz.prog o ⟨t, df⟩ w K Q else E) :=
  mid_val x W hw (by rw [hx]; exact hrun) h
theorem q_eq {Q : Exit → Act → World → Prop} {t t' : Array Value} {d : List Deferred} {w : World} (h : t = t') (hq : Q .normal ⟨t', d⟩ w) : Q .normal ⟨t, d⟩ w := h ▸ hq
end Go.Proofs.YtcgjpmhjijmplaaGreatDoor
