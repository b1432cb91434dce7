/- The specification's DrawNatBack, walked: some flow, whatever the bytes. -/
import Derived.Test.YtcgjpmhjijmplaaDraw8
namespace Go.Proofs.Ytcgjpmhjijmplaa
open Go.ChangeShapes Go.WideShapes Go.ChangeAt Go.RowKit

theorem bl_of_ap {R : Nat} {w w1 w2 : World} (h : Below w.heap.size w w1) (ha : Apart R w1 w2) (hR : w.heap.size ≤ R) : Below w.heap.size w w2 :=
  ⟨ha.os.trans h.os, ha.tape.trans h.tape, ha.output.trans h.output, Nat.le_trans h.size ha.size, fun k hk => (ha.block k (Nat.lt_of_lt_of_le hk h.size) (by omega)).trans (h.block k hk)⟩
theorem BytesIn.below {w w' : World} {a : Option Addr} {n : Nat} (h : BytesIn w a n) (hb : Below w.heap.size w w') : BytesIn w' a n := by
  rcases h with h | ⟨b, o, h1, h2, h3⟩
  · exact Or.inl h
  · refine Or.inr ⟨b, o, h1, Nat.lt_of_lt_of_le h2 hb.size, fun i hi => ?_⟩
    obtain ⟨u, u0, u1, hu⟩ := h3 i hi
    exact ⟨u, u0, u1, (hb.cell (p := ⟨b, o + i, none⟩) h2).trans hu⟩
theorem bl_set5 {w0 w : World} (h : Below w0.heap.size w0 w) {n : Nat} (hn : w0.heap.size ≤ n) (a b c d e : Value) : Below w0.heap.size w0 (((((w.setCell ⟨n, 0, none⟩ a).setCell ⟨n, 1, none⟩ b).setCell ⟨n, 2, none⟩ c).setCell ⟨n, 3, none⟩ d).setCell ⟨n, 4, none⟩ e) :=
  bl_set (bl_set (bl_set (bl_set (bl_set h hn a) hn b) hn c) hn d) hn e

set_option maxHeartbeats 4000000 in
theorem drawBack_ret (ca : Option Addr) (cn cc : Nat) (w : World) (hn : cn ≤ cc) (hc : cc ≤ maxLen) (hb : BytesIn w ca cn) :
    Calls Try.prog 8 #[.slice ca cn cc] w fun e w' => (∃ k a ap b bp : Int, e = .returned (.agg #[.int .i64 k, .int .i64 a, .int .i64 ap, .int .i64 b, .int .i64 bp])) ∧ Below w.heap.size w w' := by
  have hB0 := bl_alloc (bl_refl w) (.cells #[.int .i64 0, .int .i64 0, .int .i64 0, .int .i64 0, .int .i64 0] 24)
  have bx := Bx.new w #[.int .i64 0, .int .i64 0, .int .i64 0, .int .i64 0, .int .i64 0] 24
  have H1 : Hid (Calls Try.prog _ _ _ _) := open_ret ca cn cc _ hn hc (hb.below hB0)
  clear hn hc hb
  go_enter Try.func8, Try.ntmps8
  go_wp2_with fail
  refine H1.out.mono ?_
  rintro e w1 ⟨rfl, hb1, hrd⟩
  have hB1 := bl_trans hB0 hb1
  have bx := bx.below hb1
  simp only [World.size_alloc] at hrd
  have HR : Rb w1 (w.heap.size + 1) 0 := ⟨0, by omega, by omega, hrd⟩
  generalize hRR : w.heap.size + 1 = R at *
  clear H1 hb1 hrd hB0
  go_wp2_with fail
  refine (frame_ret R _ _ HR (by omega)).mono ?_
  rintro e w2 ⟨⟨ad, ln, hi, da, dn, dc, ds, rfl, hF, hbk, HD, hdn⟩, ha, hr⟩
  have hB2 := bl_of_ap hB1 ha (by omega)
  have bx := bx.apart ha (by omega)
  have hRl := HR.lt
  clear HR ha hB1 hF hbk
  have HR := hr
  clear hr
  have H2 : Hid (Calls Try.prog _ _ _ _) := inflow0_ret R _ ad ln 51201 40 hi 0 da dn dc none 0 ds _ _ HR (by omega) HD (by omega) (by omega)
  go_wp2_with fail
  refine H2.out.mono ?_
  rintro e w3 ⟨⟨k, a, ap, b, bp, rfl⟩, ha, hr⟩
  have hB3 := bl_of_ap hB2 ha (by omega)
  have bx := bx.apart ha (by omega)
  clear HR ha hB2 H2 HD
  have HR := hr
  clear hr
  have hBl := bl_alloc (bl_refl w3) (.cells #[.int .i64 k, .int .i64 a, .int .i64 ap, .int .i64 b, .int .i64 bp] 24)
  have bf := Bx.new w3 #[.int .i64 k, .int .i64 a, .int .i64 ap, .int .i64 b, .int .i64 bp] 24
  have hz3 := bx.1.1
  go_wp2_with fail
  refine (pick_rb R _ 4 _ (HR.below hBl) (by omega) (by omega) (by omega)).mono ?_
  rintro e w4 ⟨⟨y, rfl, y0, y1⟩, ha, hr⟩
  have hB4 := bl_of_ap (bl_trans hB3 hBl) ha (by omega)
  have bx := (bx.below hBl).apart ha (by omega)
  have bf := bf.apart ha (by have := HR.lt; omega)
  have hR3 := HR.lt
  clear HR ha hB3 hBl
  have HR := hr
  clear hr
  by_cases hy : y = 0
  · subst hy
    have H3 : Hid (Calls Try.prog _ _ _ _) := spoil_ret R _ k a ap b bp _ HR (by omega)
    obtain ⟨⟨p1, p2⟩, p3⟩ := id bf
    go_wp2_with fail
    refine H3.out.mono ?_
    clear p1 p2 p3 H3 bf
    rintro e w5 ⟨⟨k, a, ap, b, bp, rfl⟩, ha, hr⟩
    have hB5 := bl_of_ap hB4 ha (by omega)
    have bx := bx.apart ha (by omega)
    obtain ⟨⟨q1, q2⟩, q3⟩ := id bx
    go_wp2_with fail
    have hbv := bx.set5 (.int .i64 k) (.int .i64 a) (.int .i64 ap) (.int .i64 b) (.int .i64 bp)
    obtain ⟨⟨t1, t2⟩, t3⟩ := id hbv
    exact bodyPost_ret (v := .agg #[.int .i64 k, .int .i64 a, .int .i64 ap, .int .i64 b, .int .i64 bp]) (by simp [results, Try.results8, go_sem, t2]) rfl ⟨⟨k, a, ap, b, bp, rfl⟩, bl_set5 hB5 (Nat.le_refl _) (.int .i64 k) (.int .i64 a) (.int .i64 ap) (.int .i64 b) (.int .i64 bp)⟩
  · have hy' : (y == 0) = false := by simpa using hy
    obtain ⟨⟨p1, p2⟩, p3⟩ := id bf
    obtain ⟨⟨q1, q2⟩, q3⟩ := id bx
    go_wp2_with fail
    have hbv := bx.set5 (.int .i64 k) (.int .i64 a) (.int .i64 ap) (.int .i64 b) (.int .i64 bp)
    obtain ⟨⟨t1, t2⟩, t3⟩ := id hbv
    exact bodyPost_ret (v := .agg #[.int .i64 k, .int .i64 a, .int .i64 ap, .int .i64 b, .int .i64 bp]) (by simp [results, Try.results8, go_sem, t2]) rfl ⟨⟨k, a, ap, b, bp, rfl⟩, bl_set5 hB4 (Nat.le_refl _) (.int .i64 k) (.int .i64 a) (.int .i64 ap) (.int .i64 b) (.int .i64 bp)⟩
end Go.Proofs.Ytcgjpmhjijmplaa
