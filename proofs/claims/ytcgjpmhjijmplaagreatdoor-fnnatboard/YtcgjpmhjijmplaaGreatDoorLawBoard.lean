/- The law FnNatBoard, walked: true, whatever the bytes. -/
import Derived.Test.YtcgjpmhjijmplaaGreatDoorDraw15
import Derived.Test.YtcgjpmhjijmplaaGreatDoorBrd6
import Derived.Deep.DeepCutAuto
namespace Go.Proofs.YtcgjpmhjijmplaaGreatDoor
open Go.ChangeShapes Go.WideShapes Go.ChangeAt Go.RowKit Go.Maps

set_option maxRecDepth 20000 in
set_option maxHeartbeats 8000000 in
theorem lawBoard_ret (ca : Option Addr) (cn cc : Nat) (w : World) (ht : Tb w) (hn : cn ≤ cc) (hc : cc ≤ maxLen) (hb : BytesIn w ca cn) :
    Calls Tryz.prog 8 #[.slice ca cn cc] w fun e w' => e = .returned (.bool true) ∧ Below w.heap.size w w' := by
  have H1 : Hid (Calls Tryz.prog _ _ _ _) := drawBoard_ret ca cn cc w hn hc hb
  have hm : (cn : Int) ≤ 9223372036854775807 := by unfold maxLen at hc; omega
  clear hc hb
  by_cases hl : (cn : Int) ≤ 1048576
  · go_enter Tryz.func8, Tryz.ntmps8
    go_wp2_with fail
    refine H1.out.mono ?_
    rintro e w1 ⟨⟨B, va, vc, ua, uc, rfl, hD, hE, hl1, hl2, -, -⟩, hb1⟩
    replace hD := hD.at
    replace hE := hE.at
    have hBl := bl_alloc (bl_refl w1) (.cells #[.int .i64 B.ad, .int .i64 B.ln, .int .i64 B.ow, .int .i64 B.lo, .int .i64 B.hi, .slice va B.ds.length vc, .int .i64 B.nw, .slice ua B.es.length uc] 26)
    have x3 := Box.new w1 #[.int .i64 B.ad, .int .i64 B.ln, .int .i64 B.ow, .int .i64 B.lo, .int .i64 B.hi, .slice va B.ds.length vc, .int .i64 B.nw, .slice ua B.es.length uc] 26
    replace hD := hD.below hBl
    replace hE := hE.below hBl
    replace ht := (ht.below hb1).below hBl
    have hB := bl_trans hb1 hBl
    clear H1 hb1 hBl
    obtain ⟨S, hS⟩ : ∃ S, boardS B.ad B.ln B.ow B.lo B.hi B.nw B.ds B.es = S := ⟨_, rfl⟩
    have HI : Hid (∀ W, Tb W → DoorsAt W va B.ds.length B.ds → EntriesAt W ua B.es.length B.es → Calls Tryz.prog 31 #[.agg #[.int .i64 B.ad, .int .i64 B.ln, .int .i64 B.ow, .int .i64 B.lo, .int .i64 B.hi, .slice va B.ds.length vc, .int .i64 B.nw, .slice ua B.es.length uc]] W fun e w' => e = .returned (.string (St S)) ∧ Below W.heap.size W w') := fun W h1 h2 h3 => by rw [← hS]; exact implBoard_ret B.ad B.ln B.ow B.lo B.hi B.nw va B.ds.length vc ua B.es.length uc B.ds B.es W h1 h2 h3
    have HS : Hid (∀ W, DoorsAt W va B.ds.length B.ds → EntriesAt W ua B.es.length B.es → Calls Tryz.prog 32 #[.agg #[.int .i64 B.ad, .int .i64 B.ln, .int .i64 B.ow, .int .i64 B.lo, .int .i64 B.hi, .slice va B.ds.length vc, .int .i64 B.nw, .slice ua B.es.length uc]] W fun e w' => e = .returned (.string (St S)) ∧ Below W.heap.size W w') := fun W h2 h3 => by rw [← hS]; exact specBoard_ret B.ad B.ln B.ow B.lo B.hi B.nw va B.ds.length vc ua B.es.length uc B.ds B.es W h2 h3
    have HK : Hid (∀ W, DoorsAt W va B.ds.length B.ds → EntriesAt W ua B.es.length B.es → Calls Tryz.prog 26 #[.agg #[.int .i64 B.ad, .int .i64 B.ln, .int .i64 B.ow, .int .i64 B.lo, .int .i64 B.hi, .slice va B.ds.length vc, .int .i64 B.nw, .slice ua B.es.length uc]] W fun e w' => e = .returned (.bool (bookB B.ad B.ln B.ow B.lo B.hi B.nw B.ds B.es)) ∧ Below W.heap.size W w') := fun W h2 h3 => specBookOk_ret B.ad B.ln B.ow B.lo B.hi B.nw va B.ds.length vc ua B.es.length uc B.ds B.es W h2 h3
    have hlen : S.length ≤ 100000 := by
      rw [← hS, boardS]
      split
      · rename_i hok
        exact boardT_len hok
      · simp
    have hcnt : Hid ((bookB B.ad B.ln B.ow B.lo B.hi B.nw B.ds B.es = true ∧ S.count 10 = 1 + B.ds.length + B.es.length) ∨ (bookB B.ad B.ln B.ow B.lo B.hi B.nw B.ds B.es = false ∧ S.count 10 = 0)) := by
      rw [← hS, boardS]
      by_cases hok : bookB B.ad B.ln B.ow B.lo B.hi B.nw B.ds B.es = true
      · exact Or.inl ⟨hok, by rw [if_pos hok, boardT_count]⟩
      · exact Or.inr ⟨by simpa using hok, by rw [if_neg hok]; rfl⟩
    clear hS
    go_wp2_with fail
    generalize (w1.alloc (.cells #[.int .i64 B.ad, .int .i64 B.ln, .int .i64 B.ow, .int .i64 B.lo, .int .i64 B.hi, .slice va B.ds.length vc, .int .i64 B.nw, .slice ua B.es.length uc] 26)) = W0 at *
    generalize w1.heap.size = n3 at *
    have y3 := x3.2
    go_wp2_with fail
    refine (HI.out _ ht hD hE).mono ?_
    rintro e w2 ⟨rfl, hb⟩
    replace x3 := x3.below hb
    replace hD := hD.below hb
    replace hE := hE.below hb
    replace hB := bl_trans hB hb
    clear hb y3 HI ht
    have y3 := x3.2
    go_wp2_with fail
    refine (HS.out _ hD hE).mono ?_
    rintro e w3 ⟨rfl, hb⟩
    replace x3 := x3.below hb
    replace hD := hD.below hb
    replace hE := hE.below hb
    replace hB := bl_trans hB hb
    clear hb y3 HS
    go_wp2_with fail
    obtain ⟨W6, hW6⟩ : ∃ u, u = w3 := ⟨_, rfl⟩
    subst hW6
    go_loopg [5, 6] S.length (fun g nv iv wr => ∃ i : Nat, g = S.length - i ∧ i ≤ S.length ∧ iv = .int .i64 i ∧ nv = .int .i64 ((S.take i).count 10 : Nat) ∧ wr = W6)
    case atStart => exact ⟨0, by omega, by omega, rfl, rfl, rfl⟩
    case round =>
      obtain ⟨i, hgi, hi9, rfl, rfl, rfl⟩ := hrel
      obtain ⟨N, hN⟩ : ∃ N, (S.take i).count 10 = N := ⟨_, rfl⟩
      rw [hN]
      by_cases hlt : i < S.length
      · have hlt' : (i : Int) < (S.length : Int) := by omega
        obtain ⟨c, hc⟩ : ∃ c, S[i]? = some c := ⟨S[i], by simp [hlt]⟩
        have hx : (St S)[i]'(show i < (St S).size from hlt) = c := by
          have : S[i] = c := by simpa [hlt] using hc
          rw [← this]
          rfl
        have hNl : (N : Int) ≤ 100000 := by
          have := List.count_le_length (a := (10 : UInt8)) (l := S.take i)
          rw [hN, List.length_take] at this
          omega
        have htk : S.take (i + 1) = S.take i ++ [c] := by rw [List.take_add_one, hc]; rfl
        replace hN : Hid ((S.take i).count 10 = N) := hN
        by_cases h10 : c = 10
        · subst h10
          have hnew : Hid ((S.take (i + 1)).count 10 = N + 1) := by
            show _ = _
            rw [htk, List.count_append, hN.out]
            rfl
          clear htk hc
          go_wp2_with fail
          go_roundg (S.length - (i + 1))
          case measure => omega
          case rel => exact ⟨i + 1, rfl, by omega, by go_num, by rw [hnew.out]; go_num, rfl⟩
        · have hnew : Hid ((S.take (i + 1)).count 10 = N) := by
            show _ = _
            rw [htk, List.count_append, hN.out, List.count_singleton]
            simp [h10]
          have h10' : ¬ ((c.toNat : Int) = 10) := fun e => h10 (by
            have : c.toNat = (10 : UInt8).toNat := by simpa using (by omega : c.toNat = 10)
            exact UInt8.toNat_inj.1 this)
          clear htk hc
          go_wp2_with fail
          go_roundg (S.length - (i + 1))
          case measure => omega
          case rel => exact ⟨i + 1, rfl, by omega, by go_num, by rw [hnew.out], rfl⟩
      · obtain rfl : i = S.length := by omega
        rw [List.take_length] at hN
        have hlt' : ¬ ((S.length : Int) < (S.length : Int)) := by omega
        rcases hcnt.out with ⟨hok, hc⟩ | ⟨hok, hc⟩
        · have hN1 : (N : Int) = 1 + B.ds.length + B.es.length := by omega
          have hN0 : ¬ ((N : Int) = 0) := by omega
          have y3 := x3.2
          replace hN : Hid (S.count 10 = N) := hN
          replace hcnt := Hid.out hcnt
          clear hcnt hc HK hok hD hE
          go_wp2_with fail
          go_ret
          exact ⟨rfl, hB⟩
        · obtain rfl : N = 0 := by omega
          have HK2 : Hid (∀ W, DoorsAt W va B.ds.length B.ds → EntriesAt W ua B.es.length B.es → Calls Tryz.prog 26 #[.agg #[.int .i64 B.ad, .int .i64 B.ln, .int .i64 B.ow, .int .i64 B.lo, .int .i64 B.hi, .slice va B.ds.length vc, .int .i64 B.nw, .slice ua B.es.length uc]] W fun e w' => e = .returned (.bool false) ∧ Below W.heap.size W w') := by rw [← hok]; exact HK
          have y3 := x3.2
          clear hcnt hc HK hok hN
          go_wp2_with fail
          refine (HK2.out _ hD hE).mono ?_
          rintro e w4 ⟨rfl, hb⟩
          go_wp2_with fail
          go_ret
          exact ⟨rfl, bl_trans hB hb⟩
  · have hl2 : (1048576 : Int) < (cn : Int) := by omega
    go_enter Tryz.func8, Tryz.ntmps8
    go_wp2
    go_ret
    exact ⟨rfl, bl_refl _⟩
end Go.Proofs.YtcgjpmhjijmplaaGreatDoor
