/- The program's NatBookOk and NatInside at every book, walked. -/
import Derived.Test.YtcgjpmhjijmplabGreatDoorImpl6
namespace Go.Proofs.YtcgjpmhjijmplabGreatDoor
open Go.ChangeShapes Go.WideShapes Go.ChangeAt Go.RowKit Go.Maps

theorem wf_small (a : Int) (h0 : -1000000000 ≤ a) (h1 : a ≤ 1000000000) : (Lit.int .i64 a).wf = true := by
  simp [Lit.wf, IntKind.min, IntKind.max, IntKind.signed, IntKind.bits]; omega
theorem range_true {ad ln : Int} (h : rangeB ad ln = true) : (0 ≤ ln ∧ ln ≤ 16) ∧ (0 ≤ ad ∧ ad ≤ 65535) := by
  simp [rangeB, inB] at h; omega
theorem drAll_len {ad ln lo hi : Int} {ds : List Dr} (h : drAllB ad ln lo hi ds = true) : ds.length ≤ 6 := by
  simp only [drAllB, decide_eq_true_eq] at h; exact h.1
theorem get_lt {α : Type} {l : List α} {i : Nat} {a : α} (h : l[i]? = some a) : i < l.length := by
  rcases Nat.lt_or_ge i l.length with h' | h'
  · exact h'
  · rw [List.getElem?_eq_none h'] at h; cases h
theorem drAll_wf {ad ln lo hi : Int} {ds : List Dr} (l0 : 0 ≤ ln) (ha : 0 ≤ ad ∧ ad ≤ 65535) (h : drAllB ad ln lo hi ds = true) : ∀ (i : Nat) d, ds[i]? = some d → seatWf d := by
  simp only [drAllB, decide_eq_true_eq] at h
  intro i d hd
  have hb := h.2 i d (get_lt hd) hd
  have hs := sz_bd ln l0
  simp [doorB, dokB, inB, insB] at hb
  exact ⟨wf_small _ (by omega) (by omega), wf_small _ (by omega) (by omega), wf_small _ (by omega) (by omega)⟩
theorem enAll_len {ad ln ow lo hi nw : Int} {es : List En} (h : enAllB ad ln ow lo hi nw es = true) : es.length ≤ 16 := by
  simp only [enAllB, decide_eq_true_eq] at h; exact h.1
theorem enAll_la {ad ln ow lo hi nw : Int} {es : List En} (h : enAllB ad ln ow lo hi nw es = true) : ∀ (i : Nat) d, es[i]? = some d → 0 ≤ d.l ∧ d.l ≤ nw := by
  simp only [enAllB, decide_eq_true_eq] at h
  intro i d hd
  have hb := h.2 i d (get_lt hd) hd
  simp [ientE, ientB, inB] at hb
  omega
theorem enAll_wf {ad ln ow lo hi nw : Int} {es : List En} (h : enAllB ad ln ow lo hi nw es = true) : ∀ (i : Nat) d, (liveL nw es)[i]? = some d → eflowWf d := by
  simp only [enAllB, decide_eq_true_eq] at h
  intro i d hd
  have hm : d ∈ es := (List.mem_filter.1 (List.mem_of_getElem? hd)).1
  obtain ⟨j, hj⟩ := List.mem_iff_getElem?.1 hm
  have hb := h.2 j d (get_lt hj) hj
  simp [ientE, ientB, flowB, inB] at hb
  exact ⟨wf_small _ (by omega) (by omega), wf_small _ (by omega) (by omega), wf_small _ (by omega) (by omega), wf_small _ (by omega) (by omega), wf_small _ (by omega) (by omega)⟩

noncomputable def chk (ad ln ow lo hi nw : Int) (ds : List Dr) (es : List En) : Nat → Bool
  | 0 => rangeB ad ln
  | 1 => ownB ad ln ow
  | 2 => portsB lo hi
  | 3 => inB nw 0 1000000
  | 4 => drAllB ad ln lo hi ds
  | 5 => drOrdB ds
  | 6 => seatB ds
  | 7 => enAllB ad ln ow lo hi nw es
  | 8 => enOrdB es
  | _ => eflowB (liveL nw es)
open Classical in
noncomputable def ibookB (ad ln ow lo hi nw : Int) (ds : List Dr) (es : List En) : Bool := decide (∀ j, j < 10 → chk ad ln ow lo hi nw ds es j = true)
theorem ibook_no {ad ln ow lo hi nw : Int} {ds : List Dr} {es : List En} {n : Nat} (hn : n < 10) (h : chk ad ln ow lo hi nw ds es n = false) : false = ibookB ad ln ow lo hi nw ds es := by
  symm
  simp only [ibookB, decide_eq_false_iff_not]
  intro hall
  rw [hall n hn] at h; cases h
theorem ibook_up {ad ln ow lo hi nw : Int} {ds : List Dr} {es : List En} {n : Nat} (hall : ∀ j, j < n → chk ad ln ow lo hi nw ds es j = true) (h : chk ad ln ow lo hi nw ds es n = true) : ∀ j, j < n + 1 → chk ad ln ow lo hi nw ds es j = true := by
  intro j hj
  rcases Nat.lt_or_ge j n with h' | h'
  · exact hall j h'
  · have : j = n := by omega
    subst this; exact h

theorem checks_ret (w : World) : Calls Tryz.prog 64 #[] w fun e w' => e = .returned (.slice (some ⟨w.heap.size, 0, none⟩) 10 10) ∧ w.alloc (.cells #[.func (.func 84) #[] #[], .func (.func 85) #[] #[], .func (.func 86) #[] #[], .func (.func 87) #[] #[], .func (.func 88) #[] #[], .func (.func 89) #[] #[], .func (.func 90) #[] #[], .func (.func 91) #[] #[], .func (.func 92) #[] #[], .func (.func 93) #[] #[]] 116) = w' := by
  go_enter Tryz.func64, Tryz.ntmps64
  go_wp2
  go_ret
  exact ⟨rfl, rfl⟩

set_option maxHeartbeats 8000000 in
theorem implBookOk_ret (ad ln ow lo hi nw : Int) (da : Option Addr) (dn dc : Nat) (ea : Option Addr) (en ec : Nat) (ds : List Dr) (es : List En) (w : World) (hD : DoorsAt w da dn ds) (hE : EntriesAt w ea en es) :
    Calls Tryz.prog 42 #[.agg #[.int .i64 ad, .int .i64 ln, .int .i64 ow, .int .i64 lo, .int .i64 hi, .slice da dn dc, .int .i64 nw, .slice ea en ec]] w fun e w' => e = .returned (.bool (ibookB ad ln ow lo hi nw ds es)) ∧ Below w.heap.size w w' := by
  have hX0 := (Box.new w #[.int .i64 ad, .int .i64 ln, .int .i64 ow, .int .i64 lo, .int .i64 hi, .slice da dn dc, .int .i64 nw, .slice ea en ec] 35).below (bl_alloc (bl_refl _) (.cells #[.func (.func 84) #[] #[], .func (.func 85) #[] #[], .func (.func 86) #[] #[], .func (.func 87) #[] #[], .func (.func 88) #[] #[], .func (.func 89) #[] #[], .func (.func 90) #[] #[], .func (.func 91) #[] #[], .func (.func 92) #[] #[], .func (.func 93) #[] #[]] 116))
  have hF0 := Box.new (w.alloc (.cells #[.int .i64 ad, .int .i64 ln, .int .i64 ow, .int .i64 lo, .int .i64 hi, .slice da dn dc, .int .i64 nw, .slice ea en ec] 35)) #[.func (.func 84) #[] #[], .func (.func 85) #[] #[], .func (.func 86) #[] #[], .func (.func 87) #[] #[], .func (.func 88) #[] #[], .func (.func 89) #[] #[], .func (.func 90) #[] #[], .func (.func 91) #[] #[], .func (.func 92) #[] #[], .func (.func 93) #[] #[]] 116
  simp only [World.size_alloc] at hF0
  go_enter Tryz.func42, Tryz.ntmps42
  go_wp2_with fail
  refine (checks_ret _).mono ?_
  rintro e w0 ⟨rfl, rfl⟩
  go_wp2_with fail
  go_loopg [7] 10 (fun g i wr => ∃ n : Nat, g = 10 - n ∧ n ≤ 10 ∧ i = .int .i64 n ∧ (∀ j, j < n → chk ad ln ow lo hi nw ds es j = true) ∧ Below w.heap.size w wr ∧ Box wr w.heap.size #[.int .i64 ad, .int .i64 ln, .int .i64 ow, .int .i64 lo, .int .i64 hi, .slice da dn dc, .int .i64 nw, .slice ea en ec] ∧ Box wr (w.heap.size + 1) #[.func (.func 84) #[] #[], .func (.func 85) #[] #[], .func (.func 86) #[] #[], .func (.func 87) #[] #[], .func (.func 88) #[] #[], .func (.func 89) #[] #[], .func (.func 90) #[] #[], .func (.func 91) #[] #[], .func (.func 92) #[] #[], .func (.func 93) #[] #[]])
  case atStart => exact ⟨0, by omega, by omega, rfl, fun _ h => absurd h (by omega), bl_alloc (bl_alloc (bl_refl _) _) _, hX0, hF0⟩
  case round =>
    clear hX0 hF0
    obtain ⟨n, hg, hn, rfl, hall', hB, hX, hF⟩ := hrel
    have hAll : Hid (∀ j, j < n → chk ad ln ow lo hi nw ds es j = true) := hall'
    clear hall'
    have hbox := hX.2
    have hfun := hF.2
    by_cases hlt2 : n < 10
    · rcases (show n = 0 ∨ n = 1 ∨ n = 2 ∨ n = 3 ∨ n = 4 ∨ n = 5 ∨ n = 6 ∨ n = 7 ∨ n = 8 ∨ n = 9 by omega) with rfl | rfl | rfl | rfl | rfl | rfl | rfl | rfl | rfl | rfl
      · have H : Hid (Calls Tryz.prog 84 #[.agg #[.int .i64 ad, .int .i64 ln, .int .i64 ow, .int .i64 lo, .int .i64 hi, .slice da dn dc, .int .i64 nw, .slice ea en ec]] wr fun e w' => e = .returned (.bool (rangeB ad ln)) ∧ Below wr.heap.size wr w') := rangeOk_ret ad ln ow lo hi nw da dn dc ea en ec wr
        clear hD hE
        by_cases hk : rangeB ad ln = true
        · go_wp2_with fail
          refine H.out.mono ?_
          rintro e w1 ⟨rfl, hb1⟩
          go_wp2_with fail
          go_roundg (10 - (0 + 1))
          case measure => omega
          case rel => exact ⟨0 + 1, rfl, by omega, by go_num, ibook_up hAll.out hk, bl_trans hB hb1, hX.below hb1, hF.below hb1⟩
        · have hk' : (rangeB ad ln) = false := by simpa using hk
          go_wp2_with fail
          refine H.out.mono ?_
          rintro e w1 ⟨rfl, hb1⟩
          go_wp2_with fail
          go_ret
          exact ⟨ret_bool (ibook_no hlt2 hk'), bl_trans hB hb1⟩
      · obtain ⟨⟨l0, l1⟩, ⟨a0, a1⟩⟩ := range_true (hAll.out 0 (by omega))
        have H : Hid (Calls Tryz.prog 85 #[.agg #[.int .i64 ad, .int .i64 ln, .int .i64 ow, .int .i64 lo, .int .i64 hi, .slice da dn dc, .int .i64 nw, .slice ea en ec]] wr fun e w' => e = .returned (.bool (ownB ad ln ow)) ∧ Below wr.heap.size wr w') := ownOk_ret ad ln ow lo hi nw da dn dc ea en ec wr l0 l1 a0 a1
        clear hD hE
        by_cases hk : ownB ad ln ow = true
        · go_wp2_with fail
          refine H.out.mono ?_
          rintro e w1 ⟨rfl, hb1⟩
          go_wp2_with fail
          go_roundg (10 - (1 + 1))
          case measure => omega
          case rel => exact ⟨1 + 1, rfl, by omega, by go_num, ibook_up hAll.out hk, bl_trans hB hb1, hX.below hb1, hF.below hb1⟩
        · have hk' : (ownB ad ln ow) = false := by simpa using hk
          go_wp2_with fail
          refine H.out.mono ?_
          rintro e w1 ⟨rfl, hb1⟩
          go_wp2_with fail
          go_ret
          exact ⟨ret_bool (ibook_no hlt2 hk'), bl_trans hB hb1⟩
      · have H : Hid (Calls Tryz.prog 86 #[.agg #[.int .i64 ad, .int .i64 ln, .int .i64 ow, .int .i64 lo, .int .i64 hi, .slice da dn dc, .int .i64 nw, .slice ea en ec]] wr fun e w' => e = .returned (.bool (portsB lo hi)) ∧ Below wr.heap.size wr w') := portsOk_ret ad ln ow lo hi nw da dn dc ea en ec wr
        clear hD hE
        by_cases hk : portsB lo hi = true
        · go_wp2_with fail
          refine H.out.mono ?_
          rintro e w1 ⟨rfl, hb1⟩
          go_wp2_with fail
          go_roundg (10 - (2 + 1))
          case measure => omega
          case rel => exact ⟨2 + 1, rfl, by omega, by go_num, ibook_up hAll.out hk, bl_trans hB hb1, hX.below hb1, hF.below hb1⟩
        · have hk' : (portsB lo hi) = false := by simpa using hk
          go_wp2_with fail
          refine H.out.mono ?_
          rintro e w1 ⟨rfl, hb1⟩
          go_wp2_with fail
          go_ret
          exact ⟨ret_bool (ibook_no hlt2 hk'), bl_trans hB hb1⟩
      · have H : Hid (Calls Tryz.prog 87 #[.agg #[.int .i64 ad, .int .i64 ln, .int .i64 ow, .int .i64 lo, .int .i64 hi, .slice da dn dc, .int .i64 nw, .slice ea en ec]] wr fun e w' => e = .returned (.bool (inB nw 0 1000000)) ∧ Below wr.heap.size wr w') := nowOk_ret ad ln ow lo hi nw da dn dc ea en ec wr
        clear hD hE
        by_cases hk : inB nw 0 1000000 = true
        · go_wp2_with fail
          refine H.out.mono ?_
          rintro e w1 ⟨rfl, hb1⟩
          go_wp2_with fail
          go_roundg (10 - (3 + 1))
          case measure => omega
          case rel => exact ⟨3 + 1, rfl, by omega, by go_num, ibook_up hAll.out hk, bl_trans hB hb1, hX.below hb1, hF.below hb1⟩
        · have hk' : (inB nw 0 1000000) = false := by simpa using hk
          go_wp2_with fail
          refine H.out.mono ?_
          rintro e w1 ⟨rfl, hb1⟩
          go_wp2_with fail
          go_ret
          exact ⟨ret_bool (ibook_no hlt2 hk'), bl_trans hB hb1⟩
      · obtain ⟨⟨l0, l1⟩, ⟨a0, a1⟩⟩ := range_true (hAll.out 0 (by omega))
        have H : Hid (Calls Tryz.prog 88 #[.agg #[.int .i64 ad, .int .i64 ln, .int .i64 ow, .int .i64 lo, .int .i64 hi, .slice da dn dc, .int .i64 nw, .slice ea en ec]] wr fun e w' => e = .returned (.bool (drAllB ad ln lo hi ds)) ∧ Below wr.heap.size wr w') := doorsOk_ret ad ln ow lo hi nw da dn dc ea en ec ds wr l0 l1 a0 a1 (hD.below hB)
        clear hD hE
        by_cases hk : drAllB ad ln lo hi ds = true
        · go_wp2_with fail
          refine H.out.mono ?_
          rintro e w1 ⟨rfl, hb1⟩
          go_wp2_with fail
          go_roundg (10 - (4 + 1))
          case measure => omega
          case rel => exact ⟨4 + 1, rfl, by omega, by go_num, ibook_up hAll.out hk, bl_trans hB hb1, hX.below hb1, hF.below hb1⟩
        · have hk' : (drAllB ad ln lo hi ds) = false := by simpa using hk
          go_wp2_with fail
          refine H.out.mono ?_
          rintro e w1 ⟨rfl, hb1⟩
          go_wp2_with fail
          go_ret
          exact ⟨ret_bool (ibook_no hlt2 hk'), bl_trans hB hb1⟩
      · have h4 : drAllB ad ln lo hi ds = true := hAll.out 4 (by omega)
        have H : Hid (Calls Tryz.prog 89 #[.agg #[.int .i64 ad, .int .i64 ln, .int .i64 ow, .int .i64 lo, .int .i64 hi, .slice da dn dc, .int .i64 nw, .slice ea en ec]] wr fun e w' => e = .returned (.bool (drOrdB ds)) ∧ Below wr.heap.size wr w') := doorsOrdered_ret ad ln ow lo hi nw da dn dc ea en ec ds wr (hD.below hB) (drAll_len h4)
        clear h4 hD hE
        by_cases hk : drOrdB ds = true
        · go_wp2_with fail
          refine H.out.mono ?_
          rintro e w1 ⟨rfl, hb1⟩
          go_wp2_with fail
          go_roundg (10 - (5 + 1))
          case measure => omega
          case rel => exact ⟨5 + 1, rfl, by omega, by go_num, ibook_up hAll.out hk, bl_trans hB hb1, hX.below hb1, hF.below hb1⟩
        · have hk' : (drOrdB ds) = false := by simpa using hk
          go_wp2_with fail
          refine H.out.mono ?_
          rintro e w1 ⟨rfl, hb1⟩
          go_wp2_with fail
          go_ret
          exact ⟨ret_bool (ibook_no hlt2 hk'), bl_trans hB hb1⟩
      · obtain ⟨⟨l0, l1⟩, ⟨a0, a1⟩⟩ := range_true (hAll.out 0 (by omega))
        have h4 : drAllB ad ln lo hi ds = true := hAll.out 4 (by omega)
        have H : Hid (Calls Tryz.prog 90 #[.agg #[.int .i64 ad, .int .i64 ln, .int .i64 ow, .int .i64 lo, .int .i64 hi, .slice da dn dc, .int .i64 nw, .slice ea en ec]] wr fun e w' => e = .returned (.bool (seatB ds)) ∧ Below wr.heap.size wr w') := doorsApart_ret ad ln ow lo hi nw da dn dc ea en ec ds wr (hD.below hB) (drAll_len h4) (drAll_wf l0 (And.intro a0 a1) h4)
        clear h4 hD hE
        by_cases hk : seatB ds = true
        · go_wp2_with fail
          refine H.out.mono ?_
          rintro e w1 ⟨rfl, hb1⟩
          go_wp2_with fail
          go_roundg (10 - (6 + 1))
          case measure => omega
          case rel => exact ⟨6 + 1, rfl, by omega, by go_num, ibook_up hAll.out hk, bl_trans hB hb1, hX.below hb1, hF.below hb1⟩
        · have hk' : (seatB ds) = false := by simpa using hk
          go_wp2_with fail
          refine H.out.mono ?_
          rintro e w1 ⟨rfl, hb1⟩
          go_wp2_with fail
          go_ret
          exact ⟨ret_bool (ibook_no hlt2 hk'), bl_trans hB hb1⟩
      · obtain ⟨⟨l0, l1⟩, ⟨a0, a1⟩⟩ := range_true (hAll.out 0 (by omega))
        obtain ⟨n0, n1⟩ := inB_true (hAll.out 3 (by omega))
        have H : Hid (Calls Tryz.prog 91 #[.agg #[.int .i64 ad, .int .i64 ln, .int .i64 ow, .int .i64 lo, .int .i64 hi, .slice da dn dc, .int .i64 nw, .slice ea en ec]] wr fun e w' => e = .returned (.bool (enAllB ad ln ow lo hi nw es)) ∧ Below wr.heap.size wr w') := entriesOk_ret ad ln ow lo hi nw da dn dc ea en ec es wr l0 l1 a0 a1 n0 n1 (hE.below hB)
        clear hD hE
        by_cases hk : enAllB ad ln ow lo hi nw es = true
        · go_wp2_with fail
          refine H.out.mono ?_
          rintro e w1 ⟨rfl, hb1⟩
          go_wp2_with fail
          go_roundg (10 - (7 + 1))
          case measure => omega
          case rel => exact ⟨7 + 1, rfl, by omega, by go_num, ibook_up hAll.out hk, bl_trans hB hb1, hX.below hb1, hF.below hb1⟩
        · have hk' : (enAllB ad ln ow lo hi nw es) = false := by simpa using hk
          go_wp2_with fail
          refine H.out.mono ?_
          rintro e w1 ⟨rfl, hb1⟩
          go_wp2_with fail
          go_ret
          exact ⟨ret_bool (ibook_no hlt2 hk'), bl_trans hB hb1⟩
      · have h7 : enAllB ad ln ow lo hi nw es = true := hAll.out 7 (by omega)
        have H : Hid (Calls Tryz.prog 92 #[.agg #[.int .i64 ad, .int .i64 ln, .int .i64 ow, .int .i64 lo, .int .i64 hi, .slice da dn dc, .int .i64 nw, .slice ea en ec]] wr fun e w' => e = .returned (.bool (enOrdB es)) ∧ Below wr.heap.size wr w') := entriesOrdered_ret ad ln ow lo hi nw da dn dc ea en ec es wr (hE.below hB) (enAll_len h7)
        clear h7 hD hE
        by_cases hk : enOrdB es = true
        · go_wp2_with fail
          refine H.out.mono ?_
          rintro e w1 ⟨rfl, hb1⟩
          go_wp2_with fail
          go_roundg (10 - (8 + 1))
          case measure => omega
          case rel => exact ⟨8 + 1, rfl, by omega, by go_num, ibook_up hAll.out hk, bl_trans hB hb1, hX.below hb1, hF.below hb1⟩
        · have hk' : (enOrdB es) = false := by simpa using hk
          go_wp2_with fail
          refine H.out.mono ?_
          rintro e w1 ⟨rfl, hb1⟩
          go_wp2_with fail
          go_ret
          exact ⟨ret_bool (ibook_no hlt2 hk'), bl_trans hB hb1⟩
      · obtain ⟨n0, n1⟩ := inB_true (hAll.out 3 (by omega))
        have h7 : enAllB ad ln ow lo hi nw es = true := hAll.out 7 (by omega)
        have H : Hid (Calls Tryz.prog 93 #[.agg #[.int .i64 ad, .int .i64 ln, .int .i64 ow, .int .i64 lo, .int .i64 hi, .slice da dn dc, .int .i64 nw, .slice ea en ec]] wr fun e w' => e = .returned (.bool (eflowB (liveL nw es))) ∧ Below wr.heap.size wr w') := livingApart_ret ad ln ow lo hi nw da dn dc ea en ec es wr n0 n1 (hE.below hB) (enAll_len h7) (enAll_la h7) (enAll_wf h7)
        clear h7 hD hE
        by_cases hk : eflowB (liveL nw es) = true
        · go_wp2_with fail
          refine H.out.mono ?_
          rintro e w1 ⟨rfl, hb1⟩
          go_wp2_with fail
          go_roundg (10 - (9 + 1))
          case measure => omega
          case rel => exact ⟨9 + 1, rfl, by omega, by go_num, ibook_up hAll.out hk, bl_trans hB hb1, hX.below hb1, hF.below hb1⟩
        · have hk' : (eflowB (liveL nw es)) = false := by simpa using hk
          go_wp2_with fail
          refine H.out.mono ?_
          rintro e w1 ⟨rfl, hb1⟩
          go_wp2_with fail
          go_ret
          exact ⟨ret_bool (ibook_no hlt2 hk'), bl_trans hB hb1⟩
    · have hne : n = 10 := by omega
      subst hne
      go_wp2_with fail
      go_ret
      refine ⟨ret_bool ?_, hB⟩
      symm
      simp only [ibookB, decide_eq_true_eq]
      exact hAll.out
end Go.Proofs.YtcgjpmhjijmplabGreatDoor
