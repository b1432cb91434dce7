/- The functions of chapter 1 (flows), the specification's and the program's, walked: what each answers at every flow. -/
import Derived.Test.YtcgjpmhjijmplabGreatDoorBase
import Derived.Laws.StructEq
import Derived.Deep.RegionHeld3
namespace Go.Proofs.YtcgjpmhjijmplabGreatDoor
open Go.ChangeShapes Go.WideShapes Go.ChangeAt Go.RowKit

def inB (n lo hi : Int) : Bool := decide (lo ≤ n) && decide (n ≤ hi)
def flowB (k a ap b bp : Int) : Bool := inB k 1 7 && inB a 0 65535 && inB b 0 65535 && inB ap 1 65535 && inB bp 1 65535

theorem l1In_ret (n lo hi : Int) (w : World) : Calls Tryz.prog 51 #[.int .i64 n, .int .i64 lo, .int .i64 hi] w fun e w' => e = .returned (.bool (inB n lo hi)) ∧ w = w' := by
  go_enter Tryz.func51, Tryz.ntmps51
  go_wp2
  all_goals go_ret
  · exact ⟨ret_bool (by simp [inB, *]), rfl⟩
  · exact ⟨ret_bool (by simp [inB]; omega), rfl⟩

def mx (x y : Int) : Int := if y > x then y else x
def mn (x y : Int) : Int := if y < x then y else x
theorem run_mx (w : World) (ts : Array TypeId) (t : TypeId) (x y : Int) : (Builtin.max_ ts t #[.int .i64 x, .int .i64 y]).run Tryz.prog w = .ok (.int .i64 (mx x y)) w := by
  rw [run_max_int2]; rfl
theorem run_mn (w : World) (ts : Array TypeId) (t : TypeId) (x y : Int) : (Builtin.min_ ts t #[.int .i64 x, .int .i64 y]).run Tryz.prog w = .ok (.int .i64 (mn x y)) w := by
  rw [run_min_int2]; rfl
theorem nearest_ret (k a ap b bp : Int) (w : World) : Calls Tryz.prog 99 #[.agg #[.int .i64 k, .int .i64 a, .int .i64 ap, .int .i64 b, .int .i64 bp]] w fun e w' => e = .returned (.agg #[.int .i64 (mn (mx k 1) 7), .int .i64 (mn (mx a 0) 65535), .int .i64 (mn (mx ap 1) 65535), .int .i64 (mn (mx b 0) 65535), .int .i64 (mn (mx bp 1) 65535)]) ∧ Below w.heap.size w w' := by
  have hmx := run_mx
  have hmn := run_mn
  go_enter Tryz.func99, Tryz.ntmps99
  go_wp2_with fail
  exact bodyPost_ret (v := .agg #[.int .i64 (mn (mx k 1) 7), .int .i64 (mn (mx a 0) 65535), .int .i64 (mn (mx ap 1) 65535), .int .i64 (mn (mx b 0) 65535), .int .i64 (mn (mx bp 1) 65535)]) (by simp [results, Tryz.results99, go_sem]) rfl ⟨rfl, bl_alloc (bl_alloc (bl_refl _) _) _⟩

def nk (k : Int) : Int := mn (mx k 1) 7
def na (a : Int) : Int := mn (mx a 0) 65535
def np (a : Int) : Int := mn (mx a 1) 65535
theorem nearest_ret2 (k a ap b bp : Int) (w : World) : Calls Tryz.prog 99 #[.agg #[.int .i64 k, .int .i64 a, .int .i64 ap, .int .i64 b, .int .i64 bp]] w fun e w' => e = .returned (.agg #[.int .i64 (nk k), .int .i64 (na a), .int .i64 (np ap), .int .i64 (na b), .int .i64 (np bp)]) ∧ Below w.heap.size w w' := nearest_ret k a ap b bp w

def flowEq (k a ap b bp k' a' ap' b' bp' : Int) : Bool := k == k' && (a == a' && (ap == ap' && (b == b' && bp == bp')))
theorem fieldsFlow : Tryz.prog.underlying 29 = some (.struct (Tryz.prog.fieldsOf 29)) := by kernel_rfl
theorem stoodFlow : Tryz.prog.stoodInHeld 29 = false := by kernel_rfl
theorem guardFlow : Tryz.prog.eqGuardType Tryz.prog.depth 29 = false := by kernel_rfl
theorem run_eql_flow (w : World) (k a ap b bp k' a' ap' b' bp' : Int) : (binOp .eql 29 (.agg #[.int .i64 k, .int .i64 a, .int .i64 ap, .int .i64 b, .int .i64 bp]) (.agg #[.int .i64 k', .int .i64 a', .int .i64 ap', .int .i64 b', .int .i64 bp'])).run Tryz.prog w = .ok (.bool (flowEq k a ap b bp k' a' ap' b' bp')) w := by
  rw [run_eql_struct]
  rw [show (10000:Nat) = 9999 + 1 from rfl, run_equalIn_agg _ _ _ _ _ fieldsFlow stoodFlow]
  have h3 := Tryz.underlying3
  simp only [Program.fieldsOf, Tryz.underlying29, Op.eqFields]
  simp [go_sem, h3, flowEq]
  by_cases h1 : k = k' <;> by_cases h2 : a = a' <;> by_cases h3 : ap = ap' <;> by_cases h4 : b = b' <;> by_cases h5 : bp = bp' <;> simp [*]

theorem nk_eq (k : Int) : (k == nk k) = inB k 1 7 := by
  rw [Bool.eq_iff_iff]; simp only [nk, mn, mx, inB, beq_iff_eq, Bool.and_eq_true, decide_eq_true_eq]; split <;> split <;> omega
theorem na_eq (k : Int) : (k == na k) = inB k 0 65535 := by
  rw [Bool.eq_iff_iff]; simp only [na, mn, mx, inB, beq_iff_eq, Bool.and_eq_true, decide_eq_true_eq]; split <;> split <;> omega
theorem np_eq (k : Int) : (k == np k) = inB k 1 65535 := by
  rw [Bool.eq_iff_iff]; simp only [np, mn, mx, inB, beq_iff_eq, Bool.and_eq_true, decide_eq_true_eq]; split <;> split <;> omega
theorem flowEq_nearest (k a ap b bp : Int) : flowEq k a ap b bp (nk k) (na a) (np ap) (na b) (np bp) = flowB k a ap b bp := by
  unfold flowEq flowB
  rw [nk_eq, na_eq, na_eq, np_eq, np_eq]
  cases inB k 1 7 <;> cases inB a 0 65535 <;> cases inB b 0 65535 <;> cases inB ap 1 65535 <;> cases inB bp 1 65535 <;> rfl

theorem implFlowOk_ret (k a ap b bp : Int) (w : World) : Calls Tryz.prog 75 #[.agg #[.int .i64 k, .int .i64 a, .int .i64 ap, .int .i64 b, .int .i64 bp]] w fun e w' => e = .returned (.bool (flowB k a ap b bp)) ∧ Below w.heap.size w w' := by
  rw [← flowEq_nearest]
  have heq := run_eql_flow
  have hg := guardFlow
  go_enter Tryz.func75, Tryz.ntmps75
  go_wp2_with fail
  go_region_held3 (fun w' => w'.cell? ⟨w.heap.size, 0, none⟩ = some (.int .i64 k) ∧ w'.cell? ⟨w.heap.size, 1, none⟩ = some (.int .i64 a) ∧ w'.cell? ⟨w.heap.size, 2, none⟩ = some (.int .i64 ap) ∧ w'.cell? ⟨w.heap.size, 3, none⟩ = some (.int .i64 b) ∧ w'.cell? ⟨w.heap.size, 4, none⟩ = some (.int .i64 bp)) (go_keep)
    (first | (go_at_call 99; refine (nearest_ret2 _ _ _ _ _ _).mono ?_; rintro e w' ⟨rfl, hb⟩; obtain ⟨hc, hf⟩ := bl_cells hb))
  go_wp2
  go_ret
  exact ⟨rfl, bl_trans (bl_drew (bl_alloc (bl_refl _) _)) hb⟩

end Go.Proofs.YtcgjpmhjijmplabGreatDoor
