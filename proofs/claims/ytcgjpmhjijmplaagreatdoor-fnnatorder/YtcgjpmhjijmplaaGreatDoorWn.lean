/- What the laws call beside: wnDoor, wnBook at equal books; comparisons of structs. -/
import Derived.Test.YtcgjpmhjijmplaaGreatDoorModel
import Derived.Test.YtcgjpmhjijmplaaGreatDoorJoinG
import Derived.Test.YtcgjpmhjijmplaaGreatDoorSpecIn
import Derived.Deep.DeepCutAuto
namespace Go.Proofs.YtcgjpmhjijmplaaGreatDoor
open Go.ChangeShapes Go.WideShapes Go.ChangeAt Go.RowKit Go.Maps

theorem run_neq_flow (w : World) (k a ap b bp k' a' ap' b' bp' : Int) : (binOp .neq 32 (.agg #[.int .i64 k, .int .i64 a, .int .i64 ap, .int .i64 b, .int .i64 bp]) (.agg #[.int .i64 k', .int .i64 a', .int .i64 ap', .int .i64 b', .int .i64 bp'])).run Tryz.prog w = .ok (.bool (!flowEq k a ap b bp k' a' ap' b' bp')) w := by
  have h := run_eql_flow w k a ap b bp k' a' ap' b' bp'
  rw [run_eql_struct] at h
  rw [run_neq_struct]
  cases hx : (Op.equalIn 10000 32 (.agg #[.int .i64 k, .int .i64 a, .int .i64 ap, .int .i64 b, .int .i64 bp]) (.agg #[.int .i64 k', .int .i64 a', .int .i64 ap', .int .i64 b', .int .i64 bp'])).run Tryz.prog w with
  | ok r w' =>
    rw [hx] at h
    simp only [Result.andThen_ok, Result.ok.injEq, Value.bool.injEq] at h ⊢
    exact ⟨by rw [h.1], h.2⟩
  | _ => rw [hx] at h; simp [Result.andThen] at h
theorem run_neq_same (w : World) (k a ap b bp : Int) : (binOp .neq 32 (.agg #[.int .i64 k, .int .i64 a, .int .i64 ap, .int .i64 b, .int .i64 bp]) (.agg #[.int .i64 k, .int .i64 a, .int .i64 ap, .int .i64 b, .int .i64 bp])).run Tryz.prog w = .ok (.bool false) w := by
  rw [run_neq_flow, flowEq_self]; rfl
theorem fieldsDr : Tryz.prog.underlying 85 = some (.struct (Tryz.prog.fieldsOf 85)) := by kernel_rfl
theorem stoodDr : Tryz.prog.stoodInHeld 85 = false := by kernel_rfl
theorem guardDr : Tryz.prog.eqGuardType Tryz.prog.depth 85 = false := by kernel_rfl
theorem run_neq_door (w : World) (d : Dr) : (binOp .neq 85 (.agg #[.int .i64 d.k, .int .i64 d.o, .int .i64 d.i, .int .i64 d.p]) (.agg #[.int .i64 d.k, .int .i64 d.o, .int .i64 d.i, .int .i64 d.p])).run Tryz.prog w = .ok (.bool false) w := by
  rw [run_neq_struct]
  rw [show (10000:Nat) = 9999 + 1 from rfl, run_equalIn_agg _ _ _ _ _ fieldsDr stoodDr]
  have h3 := Tryz.underlying3
  simp only [Program.fieldsOf, Tryz.underlying85, Op.eqFields]
  simp [go_sem, h3]
theorem fieldsEn : Tryz.prog.underlying 52 = some (.struct (Tryz.prog.fieldsOf 52)) := by kernel_rfl
theorem stoodEn : Tryz.prog.stoodInHeld 52 = false := by kernel_rfl
theorem guardEn : Tryz.prog.eqGuardType Tryz.prog.depth 52 = false := by kernel_rfl
theorem run_neq_entry (w : World) (d : En) : (binOp .neq 52 (.agg #[.int .i64 d.k, .int .i64 d.pr, .int .i64 d.pp, .int .i64 d.o, .int .i64 d.i, .int .i64 d.ip, .int .i64 d.l]) (.agg #[.int .i64 d.k, .int .i64 d.pr, .int .i64 d.pp, .int .i64 d.o, .int .i64 d.i, .int .i64 d.ip, .int .i64 d.l])).run Tryz.prog w = .ok (.bool false) w := by
  rw [run_neq_struct]
  rw [show (10000:Nat) = 9999 + 1 from rfl, run_equalIn_agg _ _ _ _ _ fieldsEn stoodEn]
  have h3 := Tryz.underlying3
  simp only [Program.fieldsOf, Tryz.underlying52, Op.eqFields]
  simp [go_sem, h3]
set_option maxRecDepth 20000 in
set_option maxHeartbeats 4000000 in
theorem wnBook_same (B : Bk) (va : Option Addr) (vc : Nat) (ua : Option Addr) (uc : Nat) (pa : Option Addr) (pc : Nat) (ra : Option Addr) (rc : Nat) (w : World) (hD : DoorsAt w va B.ds.length B.ds) (hE : EntriesAt w ua B.es.length B.es) (hD' : DoorsAt w pa B.ds.length B.ds) (hE' : EntriesAt w ra B.es.length B.es) (hd : B.ds.length ≤ 1000) (he : B.es.length ≤ 1000) :
    Calls Tryz.prog 15 #[.agg #[.int .i64 B.ad, .int .i64 B.ln, .int .i64 B.ow, .int .i64 B.lo, .int .i64 B.hi, .slice va B.ds.length vc, .int .i64 B.nw, .slice ua B.es.length uc], .agg #[.int .i64 B.ad, .int .i64 B.ln, .int .i64 B.ow, .int .i64 B.lo, .int .i64 B.hi, .slice pa B.ds.length pc, .int .i64 B.nw, .slice ra B.es.length rc]] w fun e w' => e = .returned (.bool true) ∧ Below w.heap.size w w' := by
  have hb0 := bl_alloc (bl_alloc (bl_refl w) (.cells #[.int .i64 B.ad, .int .i64 B.ln, .int .i64 B.ow, .int .i64 B.lo, .int .i64 B.hi, .slice va B.ds.length vc, .int .i64 B.nw, .slice ua B.es.length uc] 26)) (.cells #[.int .i64 B.ad, .int .i64 B.ln, .int .i64 B.ow, .int .i64 B.lo, .int .i64 B.hi, .slice pa B.ds.length pc, .int .i64 B.nw, .slice ra B.es.length rc] 26)
  have x1 := (Box.new w #[.int .i64 B.ad, .int .i64 B.ln, .int .i64 B.ow, .int .i64 B.lo, .int .i64 B.hi, .slice va B.ds.length vc, .int .i64 B.nw, .slice ua B.es.length uc] 26).below (bl_alloc (bl_refl _) (.cells #[.int .i64 B.ad, .int .i64 B.ln, .int .i64 B.ow, .int .i64 B.lo, .int .i64 B.hi, .slice pa B.ds.length pc, .int .i64 B.nw, .slice ra B.es.length rc] 26))
  have x2 := Box.new (w.alloc (.cells #[.int .i64 B.ad, .int .i64 B.ln, .int .i64 B.ow, .int .i64 B.lo, .int .i64 B.hi, .slice va B.ds.length vc, .int .i64 B.nw, .slice ua B.es.length uc] 26)) #[.int .i64 B.ad, .int .i64 B.ln, .int .i64 B.ow, .int .i64 B.lo, .int .i64 B.hi, .slice pa B.ds.length pc, .int .i64 B.nw, .slice ra B.es.length rc] 26
  simp only [World.size_alloc] at x2
  have n0 : ∀ x : Int, (x != x) = false := fun x => by simp
  have hqd := run_neq_door
  have hqe := run_neq_entry
  have hgd := guardDr
  have hge := guardEn
  have y1 := x1.2
  have y2 := x2.2
  go_enter Tryz.func15, Tryz.ntmps15
  go_wp2_with fail
  generalize hW0 : ((w.alloc (.cells #[.int .i64 B.ad, .int .i64 B.ln, .int .i64 B.ow, .int .i64 B.lo, .int .i64 B.hi, .slice va B.ds.length vc, .int .i64 B.nw, .slice ua B.es.length uc] 26)).alloc (.cells #[.int .i64 B.ad, .int .i64 B.ln, .int .i64 B.ow, .int .i64 B.lo, .int .i64 B.hi, .slice pa B.ds.length pc, .int .i64 B.nw, .slice ra B.es.length rc] 26)) = W0 at *
  clear y1 y2
  go_loopg [5] B.ds.length (fun g i wr => ∃ n : Nat, g = B.ds.length - n ∧ n ≤ B.ds.length ∧ i = .int .i64 n ∧ Below w.heap.size w wr ∧ Below W0.heap.size W0 wr)
  case atStart => exact ⟨0, by omega, by omega, rfl, hb0, bl_refl _⟩
  case round =>
    obtain ⟨n, hgn, hn, rfl, hB, hC⟩ := hrel
    have y1 := (x1.below hC).2
    have y2 := (x2.below hC).2
    have hn16 : n ≤ 1000 := by omega
    by_cases hlt : n < B.ds.length
    · obtain ⟨-, hD⟩ := hD
      obtain ⟨-, hD'⟩ := hD'
      rcases hD with hD | ⟨g, o, rfl, hgl, hcs⟩
      · rw [hD] at hlt; simp at hlt
      · rcases hD' with hD' | ⟨g', o', rfl, hgl', hcs'⟩
        · rw [hD'] at hlt; simp at hlt
        · obtain ⟨d, hd'⟩ : ∃ d, B.ds[n]? = some d := ⟨B.ds[n], by simp [hlt]⟩
          have hcs := hcs.below hB hgl
          have hcs' := hcs'.below hB hgl'
          obtain ⟨c0, c1, c2, c3⟩ := hcs n d hd'
          obtain ⟨d0, d1, d2, d3⟩ := hcs' n d hd'
          have hd' : Hid (B.ds[n]? = some d) := hd'
          have hlt' : (n : Int) < (B.ds.length : Int) := by omega
          go_wp2_with fail
          go_quiet (fail)
          go_wp2_with fail
          go_roundg (B.ds.length - (n + 1))
          case measure => omega
          case rel => exact ⟨n + 1, rfl, by omega, by go_num, bl_draws hB _, bl_draws hC _⟩
    · have hlt' : ¬ (n : Int) < (B.ds.length : Int) := by omega
      go_wp2_with fail
      clear y1 y2
      go_loopg [6] B.es.length (fun g i wq => ∃ n : Nat, g = B.es.length - n ∧ n ≤ B.es.length ∧ i = .int .i64 n ∧ Below w.heap.size w wq ∧ Below W0.heap.size W0 wq)
      case atStart => exact ⟨0, by omega, by omega, rfl, hB, hC⟩
      case round =>
        clear hB hC
        obtain ⟨m, hgm, hm, rfl, hB, hC⟩ := hrel
        have y1 := (x1.below hC).2
        have y2 := (x2.below hC).2
        have hm16 : m ≤ 1000 := by omega
        by_cases hmt : m < B.es.length
        · obtain ⟨-, hE⟩ := hE
          obtain ⟨-, hE'⟩ := hE'
          rcases hE with hE | ⟨g, o, rfl, hgl, hcs⟩
          · rw [hE] at hmt; simp at hmt
          · rcases hE' with hE' | ⟨g', o', rfl, hgl', hcs'⟩
            · rw [hE'] at hmt; simp at hmt
            · obtain ⟨d, hd'⟩ : ∃ d, B.es[m]? = some d := ⟨B.es[m], by simp [hmt]⟩
              have hcs := hcs.below hB hgl
              have hcs' := hcs'.below hB hgl'
              obtain ⟨c0, c1, c2, c3, c4, c5, c6⟩ := hcs m d hd'
              obtain ⟨d0, d1, d2, d3, d4, d5, d6⟩ := hcs' m d hd'
              have hd' : Hid (B.es[m]? = some d) := hd'
              have hmt' : (m : Int) < (B.es.length : Int) := by omega
              go_wp2_with fail
              go_quiet (fail)
              go_wp2_with fail
              go_roundg (B.es.length - (m + 1))
              case measure => omega
              case rel => exact ⟨m + 1, rfl, by omega, by go_num, bl_draws hB _, bl_draws hC _⟩
        · have hmt' : ¬ (m : Int) < (B.es.length : Int) := by omega
          go_wp2_with fail
          go_ret
          exact ⟨rfl, hB⟩
end Go.Proofs.YtcgjpmhjijmplaaGreatDoor
