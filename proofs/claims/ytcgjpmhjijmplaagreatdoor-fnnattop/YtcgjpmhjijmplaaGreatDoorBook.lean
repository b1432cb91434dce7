/- The program's NatBookOk and NatInside answer as the models. -/
import Derived.Test.YtcgjpmhjijmplaaGreatDoorEqual
namespace Go.Proofs.YtcgjpmhjijmplaaGreatDoor
open Go.ChangeShapes Go.WideShapes Go.ChangeAt Go.RowKit

theorem implBook_ret (ad ln ow lo hi nw : Int) (da : Option Addr) (dn dc : Nat) (ea : Option Addr) (en ec : Nat) (ds : List Dr) (es : List En) (w : World) (hD : DoorsAt w da dn ds) (hE : EntriesAt w ea en es) :
    Calls Tryz.prog 21 #[.agg #[.int .i64 ad, .int .i64 ln, .int .i64 ow, .int .i64 lo, .int .i64 hi, .slice da dn dc, .int .i64 nw, .slice ea en ec]] w fun e w' => e = .returned (.bool (bookB ad ln ow lo hi nw ds es)) ∧ Below w.heap.size w w' := by
  rw [← ibook_eq]
  exact implBookOk_ret ad ln ow lo hi nw da dn dc ea en ec ds es w hD hE
theorem implInside_ret (ad ln ow lo hi nw : Int) (da : Option Addr) (dn dc : Nat) (ea : Option Addr) (en ec : Nat) (x : Int) (ds : List Dr) (es : List En) (w : World) (hD : DoorsAt w da dn ds) (hE : EntriesAt w ea en es) :
    Calls Tryz.prog 19 #[.agg #[.int .i64 ad, .int .i64 ln, .int .i64 ow, .int .i64 lo, .int .i64 hi, .slice da dn dc, .int .i64 nw, .slice ea en ec], .int .i64 x] w fun e w' => e = .returned (.bool (bookB ad ln ow lo hi nw ds es && insB ad ln x)) ∧ Below w.heap.size w w' := by
  have hb := bl_alloc (bl_refl w) (.cells #[.int .i64 ad, .int .i64 ln, .int .i64 ow, .int .i64 lo, .int .i64 hi, .slice da dn dc, .int .i64 nw, .slice ea en ec] 26)
  have hX := Box.new w #[.int .i64 ad, .int .i64 ln, .int .i64 ow, .int .i64 lo, .int .i64 hi, .slice da dn dc, .int .i64 nw, .slice ea en ec] 26
  have hD1 : Hid (DoorsAt (w.alloc (.cells #[.int .i64 ad, .int .i64 ln, .int .i64 ow, .int .i64 lo, .int .i64 hi, .slice da dn dc, .int .i64 nw, .slice ea en ec] 26)) da dn ds) := hD.below hb
  have hE1 : Hid (EntriesAt (w.alloc (.cells #[.int .i64 ad, .int .i64 ln, .int .i64 ow, .int .i64 lo, .int .i64 hi, .slice da dn dc, .int .i64 nw, .slice ea en ec] 26)) ea en es) := hE.below hb
  by_cases hk : bookB ad ln ow lo hi nw ds es = true
  · have hf : frameB ad ln ow lo hi nw = true := by simp [bookB] at hk; exact hk.1.1
    obtain ⟨⟨l0, l1⟩, ⟨a0, a1⟩, _, _, _⟩ := frameB_true hf
    go_enter Tryz.func19, Tryz.ntmps19
    go_wp2_with fail
    refine (implBook_ret _ _ _ _ _ _ _ _ _ _ _ _ ds es _ hD1.out hE1.out).mono ?_
    rintro e w1 ⟨rfl, hb1⟩
    have hB1 := bl_trans hb hb1
    have hX1 := hX.below hb1
    have hx1 := hX1.2
    go_wp2_with fail
    refine (isInside_ret _ _ _ _ _ _ _ _ _ _ _ _ _ _ l0 l1 a0 a1).mono ?_
    rintro e w2 ⟨rfl, hb2⟩
    have hB2 := bl_trans hB1 hb2
    go_wp2
    go_ret
    exact ⟨ret_bool (by simp [hk]), hB2⟩
  · have hk' : bookB ad ln ow lo hi nw ds es = false := by simpa using hk
    go_enter Tryz.func19, Tryz.ntmps19
    go_wp2_with fail
    refine (implBook_ret _ _ _ _ _ _ _ _ _ _ _ _ ds es _ hD1.out hE1.out).mono ?_
    rintro e w1 ⟨rfl, hb1⟩
    have hB1 := bl_trans hb hb1
    go_wp2
    go_ret
    exact ⟨ret_bool (by simp [hk']), hB1⟩

end Go.Proofs.YtcgjpmhjijmplaaGreatDoor
