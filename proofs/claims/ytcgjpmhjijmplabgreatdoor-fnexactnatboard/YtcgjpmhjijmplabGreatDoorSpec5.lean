/- The specification's NatBookOk and NatInside at every book, walked. -/
import Derived.Test.YtcgjpmhjijmplabGreatDoorSpec4
namespace Go.Proofs.YtcgjpmhjijmplabGreatDoor
open Go.ChangeShapes Go.WideShapes Go.ChangeAt Go.RowKit

theorem l2Entries_many (ad ln ow lo hi nw : Int) (da : Option Addr) (dn dc : Nat) (ea : Option Addr) (en ec : Nat) (w : World) (hl : 16 < en) :
    Calls Tryz.prog 50 #[.agg #[.int .i64 ad, .int .i64 ln, .int .i64 ow, .int .i64 lo, .int .i64 hi, .slice da dn dc, .int .i64 nw, .slice ea en ec]] w fun e w' => e = .returned (.bool false) ∧ Below w.heap.size w w' := by
  have hl' : (16 : Int) < (en : Int) := by omega
  go_enter Tryz.func50, Tryz.ntmps50
  go_wp2
  go_ret
  exact ⟨rfl, bl_alloc (bl_refl _) _⟩

theorem l2Entries_nil (ad ln ow lo hi nw : Int) (da : Option Addr) (dn dc : Nat) (ea : Option Addr) (ec : Nat) (w : World) :
    Calls Tryz.prog 50 #[.agg #[.int .i64 ad, .int .i64 ln, .int .i64 ow, .int .i64 lo, .int .i64 hi, .slice da dn dc, .int .i64 nw, .slice ea 0 ec]] w fun e w' => e = .returned (.bool true) ∧ Below w.heap.size w w' := by
  go_enter Tryz.func50, Tryz.ntmps50
  go_wp2_with fail
  go_loopg [3] 0 (fun _ i wr => i = .int .i64 0 ∧ Below w.heap.size w wr ∧ Box wr w.heap.size #[.int .i64 ad, .int .i64 ln, .int .i64 ow, .int .i64 lo, .int .i64 hi, .slice da dn dc, .int .i64 nw, .slice ea 0 ec])
  case atStart => exact ⟨rfl, bl_alloc (bl_refl _) _, Box.new _ _ _⟩
  case round =>
    obtain ⟨rfl, hB, hX⟩ := hrel
    obtain ⟨hsz, hbox⟩ := id hX
    go_wp2_with fail
    go_ret
    exact ⟨rfl, hB⟩

theorem l2Entries_ret (ad ln ow lo hi nw : Int) (da : Option Addr) (dn dc : Nat) (ea : Option Addr) (en ec : Nat) (es : List En) (w : World) (l0 : 0 ≤ ln) (l1 : ln ≤ 16) (a0 : 0 ≤ ad) (a1 : ad ≤ 65535) (n0 : 0 ≤ nw) (n1 : nw ≤ 1000000) (h : EntriesAt w ea en es) :
    Calls Tryz.prog 50 #[.agg #[.int .i64 ad, .int .i64 ln, .int .i64 ow, .int .i64 lo, .int .i64 hi, .slice da dn dc, .int .i64 nw, .slice ea en ec]] w fun e w' => e = .returned (.bool (entriesB ad ln ow lo hi nw es)) ∧ Below w.heap.size w w' := by
  obtain ⟨rfl, h⟩ := h
  by_cases hl : es.length ≤ 16
  · rcases h with rfl | ⟨b, o, rfl, hlt, hc⟩
    · have e : entriesB ad ln ow lo hi nw [] = true := by simp [entriesB, EntriesUp]
      rw [e]
      exact l2Entries_nil ad ln ow lo hi nw da dn dc ea ec w
    · exact l2Entries_some ad ln ow lo hi nw da dn dc b o es ec w l0 l1 a0 a1 n0 n1 hlt hc hl
  · have e : entriesB ad ln ow lo hi nw es = false := by simp [entriesB, hl]
    rw [e]
    exact l2Entries_many ad ln ow lo hi nw da dn dc ea es.length ec w (by omega)

/-- Whether a book is ok: the frame, the doors, the entries. -/
noncomputable def bookB (ad ln ow lo hi nw : Int) (ds : List Dr) (es : List En) : Bool := frameB ad ln ow lo hi nw && doorsB ad ln lo hi ds && entriesB ad ln ow lo hi nw es

theorem specBookOk_ret (ad ln ow lo hi nw : Int) (da : Option Addr) (dn dc : Nat) (ea : Option Addr) (en ec : Nat) (ds : List Dr) (es : List En) (w : World) (hD : DoorsAt w da dn ds) (hE : EntriesAt w ea en es) :
    Calls Tryz.prog 21 #[.agg #[.int .i64 ad, .int .i64 ln, .int .i64 ow, .int .i64 lo, .int .i64 hi, .slice da dn dc, .int .i64 nw, .slice ea en ec]] w fun e w' => e = .returned (.bool (bookB ad ln ow lo hi nw ds es)) ∧ Below w.heap.size w w' := by
  by_cases hf : frameB ad ln ow lo hi nw = true
  · obtain ⟨⟨l0, l1⟩, ⟨a0, a1⟩, _, _, ⟨n0, n1⟩⟩ := frameB_true hf
    have hb := bl_alloc (bl_refl w) (.cells #[.int .i64 ad, .int .i64 ln, .int .i64 ow, .int .i64 lo, .int .i64 hi, .slice da dn dc, .int .i64 nw, .slice ea en ec] 35)
    have hX := Box.new w #[.int .i64 ad, .int .i64 ln, .int .i64 ow, .int .i64 lo, .int .i64 hi, .slice da dn dc, .int .i64 nw, .slice ea en ec] 35
    go_enter Tryz.func21, Tryz.ntmps21
    go_wp2_with fail
    refine (l2Frame_ret _ _ _ _ _ _ _ _ _ _ _ _ _).mono ?_
    rintro e w1 ⟨rfl, hb1⟩
    have hB1 := bl_trans hb hb1
    have hX1 := hX.below hb1
    have hx1 := hX1.2
    have hD1 : Hid (DoorsAt w1 da dn ds) := hD.below hB1
    by_cases hd : doorsB ad ln lo hi ds = true
    · go_wp2_with fail
      refine (l2Doors_ret _ _ _ _ _ _ _ _ _ _ _ _ ds _ l0 l1 a0 a1 hD1.out).mono ?_
      rintro e w2 ⟨rfl, hb2⟩
      have hB2 := bl_trans hB1 hb2
      have hX2 := hX1.below hb2
      have hx2 := hX2.2
      have hE2 : Hid (EntriesAt w2 ea en es) := hE.below hB2
      go_wp2_with fail
      refine (l2Entries_ret _ _ _ _ _ _ _ _ _ _ _ _ es _ l0 l1 a0 a1 n0 n1 hE2.out).mono ?_
      rintro e w3 ⟨rfl, hb3⟩
      have hB3 := bl_trans hB2 hb3
      go_wp2
      go_ret
      exact ⟨ret_bool (by simp [bookB, hf, hd]), hB3⟩
    · have hd' : doorsB ad ln lo hi ds = false := by simpa using hd
      go_wp2_with fail
      refine (l2Doors_ret _ _ _ _ _ _ _ _ _ _ _ _ ds _ l0 l1 a0 a1 hD1.out).mono ?_
      rintro e w2 ⟨rfl, hb2⟩
      have hB2 := bl_trans hB1 hb2
      go_wp2
      go_ret
      exact ⟨ret_bool (by simp [bookB, hd']), hB2⟩
  · have hf' : frameB ad ln ow lo hi nw = false := by simpa using hf
    go_enter Tryz.func21, Tryz.ntmps21
    go_wp2_with fail
    refine (l2Frame_ret _ _ _ _ _ _ _ _ _ _ _ _ _).mono ?_
    rintro e w1 ⟨rfl, hb1⟩
    go_wp2
    go_ret
    exact ⟨ret_bool (by simp [bookB, hf']), bl_trans (bl_alloc (bl_refl _) _) hb1⟩

end Go.Proofs.YtcgjpmhjijmplabGreatDoor
