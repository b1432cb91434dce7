/- The laws' own helpers over books: how many there are, a copy, whether two are the same; walked. -/
import Derived.Test.YtcgjpmhjijmplabGreatDoorEqual
import Derived.Laws.MakeOwn
namespace Go.Proofs.YtcgjpmhjijmplabGreatDoor
open Go.ChangeShapes Go.WideShapes Go.ChangeAt Go.RowKit Go.Maps

def subI (x : Int) (n : Nat) : Int := if x - n < 0 then -1 else x - n
theorem szD_q (a : Option Addr) (n c : Nat) (x : Int) (w : World) (hn : n ≤ maxLen) (h0 : 0 ≤ x) (h1 : x ≤ 1048576) : Calls Tryz.prog 19 #[.slice a n c, .int .i64 x] w fun e w' => e = .returned (.int .i64 (subI x n)) ∧ w' = w := by
  unfold maxLen at hn
  go_enter Tryz.func19, Tryz.ntmps19
  go_wp2
  all_goals go_ret
  all_goals exact ⟨ret_int (by unfold subI; split <;> omega), rfl⟩
theorem szE_q (a : Option Addr) (n c : Nat) (x : Int) (w : World) (hn : n ≤ maxLen) (h0 : 0 ≤ x) (h1 : x ≤ 1048576) : Calls Tryz.prog 20 #[.slice a n c, .int .i64 x] w fun e w' => e = .returned (.int .i64 (subI x n)) ∧ w' = w := by
  unfold maxLen at hn
  go_enter Tryz.func20, Tryz.ntmps20
  go_wp2
  all_goals go_ret
  all_goals exact ⟨ret_int (by unfold subI; split <;> omega), rfl⟩
def szI (dn en : Nat) : Int := if subI 1048576 dn < 0 then -1 else subI (subI 1048576 dn) en
theorem szB_ret (ad ln ow lo hi nw : Int) (da : Option Addr) (dn dc : Nat) (ea : Option Addr) (en ec : Nat) (w : World) (hd : dn ≤ maxLen) (he : en ≤ maxLen) : Calls Tryz.prog 6 #[.agg #[.int .i64 ad, .int .i64 ln, .int .i64 ow, .int .i64 lo, .int .i64 hi, .slice da dn dc, .int .i64 nw, .slice ea en ec], .int .i64 1048576] w fun e w' => e = .returned (.int .i64 (szI dn en)) ∧ Below w.heap.size w w' := by
  have hb : subI 1048576 dn ≤ 1048576 := by unfold subI; split <;> omega
  have hq := fun w => szD_q da dn dc 1048576 w hd (by omega) (by omega)
  have hez : szI dn en = if subI 1048576 dn < 0 then -1 else subI (subI 1048576 dn) en := rfl
  generalize subI 1048576 dn = x at hb hq hez
  by_cases h1 : x < 0
  · rw [hez, if_pos h1]
    clear hez
    go_enter Tryz.func6, Tryz.ntmps6
    go_wp2_with fail
    refine (hq _).mono ?_
    rintro e w1 ⟨rfl, rfl⟩
    go_wp2
    go_ret
    exact ⟨rfl, bl_alloc (bl_refl _) _⟩
  · rw [hez, if_neg h1]
    clear hez
    have hq2 := fun w => szE_q ea en ec x w he (by omega) hb
    have hb2 : subI x en = -1 ∨ 0 ≤ subI x en := by unfold subI; split <;> omega
    generalize subI x en = y at hq2 hb2
    by_cases h2 : y < 0
    · have hy : y = -1 := by omega
      subst hy
      go_enter Tryz.func6, Tryz.ntmps6
      go_wp2_with fail
      refine (hq _).mono ?_
      rintro e w1 ⟨rfl, rfl⟩
      go_wp2_with fail
      refine (hq2 _).mono ?_
      rintro e w1 ⟨rfl, rfl⟩
      go_wp2
      go_ret
      exact ⟨rfl, bl_alloc (bl_refl _) _⟩
    · go_enter Tryz.func6, Tryz.ntmps6
      go_wp2_with fail
      refine (hq _).mono ?_
      rintro e w1 ⟨rfl, rfl⟩
      go_wp2_with fail
      refine (hq2 _).mono ?_
      rintro e w1 ⟨rfl, rfl⟩
      go_wp2
      go_ret
      exact ⟨rfl, bl_alloc (bl_refl _) _⟩
theorem toDoor_ret (d : Dr) (w : World) : Calls Tryz.prog 53 #[.agg #[.int .i64 d.k, .int .i64 d.o, .int .i64 d.i, .int .i64 d.p]] w fun e w' => e = .returned (.agg #[.int .i64 d.k, .int .i64 d.o, .int .i64 d.i, .int .i64 d.p]) ∧ Below w.heap.size w w' := by
  go_enter Tryz.func53, Tryz.ntmps53
  go_wp2
  exact bodyPost_ret (v := .agg #[.int .i64 d.k, .int .i64 d.o, .int .i64 d.i, .int .i64 d.p]) (by simp [results, Tryz.results53, go_sem]) rfl ⟨rfl, bl_alloc (bl_alloc (bl_alloc (bl_refl _) _) _) _⟩
theorem toEntry_ret (d : En) (w : World) : Calls Tryz.prog 54 #[.agg #[.int .i64 d.k, .int .i64 d.pr, .int .i64 d.pp, .int .i64 d.o, .int .i64 d.i, .int .i64 d.ip, .int .i64 d.l]] w fun e w' => e = .returned (.agg #[.int .i64 d.k, .int .i64 d.pr, .int .i64 d.pp, .int .i64 d.o, .int .i64 d.i, .int .i64 d.ip, .int .i64 d.l]) ∧ Below w.heap.size w w' := by
  go_enter Tryz.func54, Tryz.ntmps54
  go_wp2
  exact bodyPost_ret (v := .agg #[.int .i64 d.k, .int .i64 d.pr, .int .i64 d.pp, .int .i64 d.o, .int .i64 d.i, .int .i64 d.ip, .int .i64 d.l]) (by simp [results, Tryz.results54, go_sem]) rfl ⟨rfl, bl_alloc (bl_alloc (bl_alloc (bl_refl _) _) _) _⟩
theorem eqDoor_same (d : Dr) (w : World) : Calls Tryz.prog 59 #[.agg #[.int .i64 d.k, .int .i64 d.o, .int .i64 d.i, .int .i64 d.p], .agg #[.int .i64 d.k, .int .i64 d.o, .int .i64 d.i, .int .i64 d.p]] w fun e w' => e = .returned (.bool true) ∧ Below w.heap.size w w' := by
  go_enter Tryz.func59, Tryz.ntmps59
  go_wp2
  go_ret
  exact ⟨rfl, bl_alloc (bl_alloc (bl_refl _) _) _⟩
theorem eqEntry_same (d : En) (w : World) : Calls Tryz.prog 60 #[.agg #[.int .i64 d.k, .int .i64 d.pr, .int .i64 d.pp, .int .i64 d.o, .int .i64 d.i, .int .i64 d.ip, .int .i64 d.l], .agg #[.int .i64 d.k, .int .i64 d.pr, .int .i64 d.pp, .int .i64 d.o, .int .i64 d.i, .int .i64 d.ip, .int .i64 d.l]] w fun e w' => e = .returned (.bool true) ∧ Below w.heap.size w w' := by
  go_enter Tryz.func60, Tryz.ntmps60
  go_wp2
  go_ret
  exact ⟨rfl, bl_alloc (bl_alloc (bl_refl _) _) _⟩
end Go.Proofs.YtcgjpmhjijmplabGreatDoor
