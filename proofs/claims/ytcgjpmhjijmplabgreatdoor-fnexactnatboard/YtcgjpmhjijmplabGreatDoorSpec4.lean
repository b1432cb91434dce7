/- The specification's l2Entries and NatBookOk, NatInside, walked. -/
import Derived.Test.YtcgjpmhjijmplabGreatDoorJoinF
import Derived.Deep.RegionWith
namespace Go.Proofs.YtcgjpmhjijmplabGreatDoor
open Go.ChangeShapes Go.WideShapes Go.ChangeAt Go.RowKit

def entryB (ad ln ow lo hi nw : Int) (d : En) : Bool := eokB ad ln ow lo hi nw d.k d.pr d.pp d.o d.i d.ip d.l
def lessE (e d : En) : Bool := lessB e.k e.pr e.pp e.o d.k d.pr d.pp d.o
def sameE (e d : En) : Bool := flowEq e.k e.i e.ip e.pr e.pp d.k d.i d.ip d.pr d.pp
def twiceB (nw : Int) (e d : En) : Bool := sameE e d && liveB nw d.l && liveB nw e.l
def EntriesUp (ad ln ow lo hi nw : Int) (es : List En) (n : Nat) : Prop := ∀ i d, i < n → es[i]? = some d → entryB ad ln ow lo hi nw d = true ∧ (∀ j e, j + 1 = i → es[j]? = some e → lessE e d = true) ∧ ∀ j e, j < i → es[j]? = some e → twiceB nw e d = false
open Classical in
noncomputable def entriesB (ad ln ow lo hi nw : Int) (es : List En) : Bool := decide (es.length ≤ 16 ∧ EntriesUp ad ln ow lo hi nw es es.length)
theorem entryB_last {ad ln ow lo hi nw : Int} {d : En} (h : entryB ad ln ow lo hi nw d = true) : 0 ≤ d.l ∧ d.l ≤ nw := by
  simp [entryB, eokB, inB] at h; omega
theorem entries_no1 {ad ln ow lo hi nw : Int} {es : List En} {n : Nat} {d : En} (hn : n < es.length) (hd : es[n]? = some d) (h : entryB ad ln ow lo hi nw d = false) : false = entriesB ad ln ow lo hi nw es := by
  symm
  simp only [entriesB, decide_eq_false_iff_not]
  rintro ⟨_, hall⟩
  have := (hall n d hn hd).1
  rw [h] at this; cases this
theorem entries_no2 {ad ln ow lo hi nw : Int} {es : List En} {n m : Nat} {d e : En} (hn : n < es.length) (hd : es[n]? = some d) (hm : m + 1 = n) (he : es[m]? = some e) (h : lessE e d = false) : false = entriesB ad ln ow lo hi nw es := by
  symm
  simp only [entriesB, decide_eq_false_iff_not]
  rintro ⟨_, hall⟩
  have := (hall n d hn hd).2.1 m e hm he
  rw [h] at this; cases this
theorem entries_no3 {ad ln ow lo hi nw : Int} {es : List En} {n m : Nat} {d e : En} (hn : n < es.length) (hd : es[n]? = some d) (hm : m < n) (he : es[m]? = some e) (h : twiceB nw e d = true) : false = entriesB ad ln ow lo hi nw es := by
  symm
  simp only [entriesB, decide_eq_false_iff_not]
  rintro ⟨_, hall⟩
  have := (hall n d hn hd).2.2 m e hm he
  rw [h] at this; cases this
theorem twice_up {nw : Int} {es : List En} {m : Nat} {d e : En} (hp : ∀ j e, j < m → es[j]? = some e → twiceB nw e d = false) (he : es[m]? = some e) (h : twiceB nw e d = false) : ∀ j e, j < m + 1 → es[j]? = some e → twiceB nw e d = false := by
  intro j e' hj he'
  by_cases hjm : j < m
  · exact hp j e' hjm he'
  · have hjm' : j = m := by omega
    subst hjm'
    rw [some_one he' he]; exact h
theorem entries_up {ad ln ow lo hi nw : Int} {es : List En} {n m : Nat} {d : En} (hu : EntriesUp ad ln ow lo hi nw es n) (hd : es[n]? = some d) (hok : entryB ad ln ow lo hi nw d = true) (hls : ∀ j e, j + 1 = n → es[j]? = some e → lessE e d = true) (hm : ¬ m < n) (hp : ∀ j e, j < m → es[j]? = some e → twiceB nw e d = false) : EntriesUp ad ln ow lo hi nw es (n + 1) := by
  intro j e' hj he'
  by_cases hjm : j < n
  · exact hu j e' hjm he'
  · have hjm' : j = n := by omega
    subst hjm'
    rw [some_one he' hd]
    exact ⟨hok, hls, fun i f hi hf => hp i f (by omega) hf⟩
theorem l2EntryOk_b (ad ln ow lo hi nw : Int) (da : Option Addr) (dn dc : Nat) (ea : Option Addr) (en ec : Nat) (d : En) (w : World) (l0 : 0 ≤ ln) (l1 : ln ≤ 16) (a0 : 0 ≤ ad) (a1 : ad ≤ 65535) (n0 : 0 ≤ nw) (n1 : nw ≤ 1000000) (r : Bool) (hr : entryB ad ln ow lo hi nw d = r) :
    Calls Tryz.prog 71 #[.agg #[.int .i64 ad, .int .i64 ln, .int .i64 ow, .int .i64 lo, .int .i64 hi, .slice da dn dc, .int .i64 nw, .slice ea en ec], .agg #[.int .i64 d.k, .int .i64 d.pr, .int .i64 d.pp, .int .i64 d.o, .int .i64 d.i, .int .i64 d.ip, .int .i64 d.l]] w fun e w' => e = .returned (.bool r) ∧ Below w.heap.size w w' := by
  subst hr
  exact l2EntryOk_ret ad ln ow lo hi nw da dn dc ea en ec _ _ _ _ _ _ _ w l0 l1 a0 a1 n0 n1

theorem l2Is_b (e d : En) (w : World) (r : Bool) (hr : sameE e d = r) :
    Calls Tryz.prog 73 #[.agg #[.int .i64 e.k, .int .i64 e.pr, .int .i64 e.pp, .int .i64 e.o, .int .i64 e.i, .int .i64 e.ip, .int .i64 e.l], .agg #[.int .i64 d.k, .int .i64 d.i, .int .i64 d.ip, .int .i64 d.pr, .int .i64 d.pp]] w fun e w' => e = .returned (.bool r) ∧ Below w.heap.size w w' := by
  subst hr
  exact l2Is_ret _ _ _ _ _ _ _ _ _ _ _ _ w
theorem l2Less_b (e d : En) (w : World) (r : Bool) (hr : lessE e d = r) :
    Calls Tryz.prog 72 #[.agg #[.int .i64 e.k, .int .i64 e.pr, .int .i64 e.pp, .int .i64 e.o, .int .i64 e.i, .int .i64 e.ip, .int .i64 e.l], .agg #[.int .i64 d.k, .int .i64 d.pr, .int .i64 d.pp, .int .i64 d.o, .int .i64 d.i, .int .i64 d.ip, .int .i64 d.l]] w fun e w' => e = .returned (.bool r) ∧ Below w.heap.size w w' := by
  subst hr
  exact l2Less_ret _ _ _ _ _ _ _ _ _ _ _ _ _ _ w
theorem l2Live_b (ad ln ow lo hi nw : Int) (da : Option Addr) (dn dc : Nat) (ea : Option Addr) (en ec : Nat) (d : En) (w : World) (n0 : 0 ≤ nw) (n1 : nw ≤ 1000000) (q0 : 0 ≤ d.l) (q1 : d.l ≤ nw) (r : Bool) (hr : liveB nw d.l = r) :
    Calls Tryz.prog 25 #[.agg #[.int .i64 ad, .int .i64 ln, .int .i64 ow, .int .i64 lo, .int .i64 hi, .slice da dn dc, .int .i64 nw, .slice ea en ec], .agg #[.int .i64 d.k, .int .i64 d.pr, .int .i64 d.pp, .int .i64 d.o, .int .i64 d.i, .int .i64 d.ip, .int .i64 d.l]] w fun e w' => e = .returned (.bool r) ∧ Below w.heap.size w w' := by
  subst hr
  exact l2Live_ret ad ln ow lo hi nw da dn dc ea en ec _ _ _ _ _ _ _ w n0 n1 q0 q1

set_option maxHeartbeats 16000000 in
theorem l2Entries_some (ad ln ow lo hi nw : Int) (da : Option Addr) (dn dc : Nat) (b o : Nat) (es : List En) (ec : Nat) (w : World) (l0 : 0 ≤ ln) (l1 : ln ≤ 16) (a0 : 0 ≤ ad) (a1 : ad ≤ 65535) (n0 : 0 ≤ nw) (n1 : nw ≤ 1000000) (hlt : b < w.heap.size) (hc : EnCells w b o es) (hl : es.length ≤ 16) :
    Calls Tryz.prog 50 #[.agg #[.int .i64 ad, .int .i64 ln, .int .i64 ow, .int .i64 lo, .int .i64 hi, .slice da dn dc, .int .i64 nw, .slice (some ⟨b, o, none⟩) es.length ec]] w fun e w' => e = .returned (.bool (entriesB ad ln ow lo hi nw es)) ∧ Below w.heap.size w w' := by
  go_enter Tryz.func50, Tryz.ntmps50
  go_wp2_with fail
  go_loopg [3] es.length (fun g i wr => ∃ n : Nat, g = es.length - n ∧ n ≤ es.length ∧ i = .int .i64 n ∧ EntriesUp ad ln ow lo hi nw es n ∧ Below w.heap.size w wr ∧ Box wr w.heap.size #[.int .i64 ad, .int .i64 ln, .int .i64 ow, .int .i64 lo, .int .i64 hi, .slice da dn dc, .int .i64 nw, .slice (some ⟨b, o, none⟩) es.length ec])
  case atStart => exact ⟨0, by omega, by omega, rfl, fun _ _ h => absurd h (by omega), bl_alloc (bl_refl _) _, Box.new _ _ _⟩
  case round =>
    obtain ⟨n, hg, hn, rfl, hup, hB, hX⟩ := hrel
    obtain ⟨hsz, hbox⟩ := id hX
    by_cases hlt2 : n < es.length
    · obtain ⟨d, hd⟩ : ∃ d, es[n]? = some d := ⟨es[n], by simp [hlt2]⟩
      obtain ⟨c0, c1, c2, c3, c4, c5, c6⟩ := hc.below hB hlt n d hd
      have hUp : Hid (EntriesUp ad ln ow lo hi nw es n) := hup
      have hD : Hid (es[n]? = some d) := hd
      clear hup hd
      have hb2 : b < wr.heap.size := by have := hB.size; omega
      have hsz' : w.heap.size ≤ wr.heap.size := Nat.le_of_lt hsz
      have hb2' : b ≤ wr.heap.size := Nat.le_of_lt hb2
      obtain ⟨wo, hwo⟩ : ∃ x, x = wr := ⟨_, rfl⟩
      subst hwo
      have hY := Box.new wo #[.int .i64 d.k, .int .i64 d.pr, .int .i64 d.pp, .int .i64 d.o, .int .i64 d.i, .int .i64 d.ip, .int .i64 d.l] 55
      by_cases hok : entryB ad ln ow lo hi nw d = true
      · obtain ⟨hd0, hd1⟩ := entryB_last hok
        rcases Nat.eq_zero_or_pos n with h0 | h0
        · subst h0
          simp only [Nat.zero_mul, Nat.add_zero] at c0 c1 c2 c3 c4 c5 c6
          go_wp2_with fail
          refine wp_region_held_drew (S := (fun w' => w'.cell? ⟨w.heap.size, 0, none⟩ = some (.int .i64 ad) ∧ w'.cell? ⟨w.heap.size, 1, none⟩ = some (.int .i64 ln) ∧ w'.cell? ⟨w.heap.size, 2, none⟩ = some (.int .i64 ow) ∧ w'.cell? ⟨w.heap.size, 3, none⟩ = some (.int .i64 lo) ∧ w'.cell? ⟨w.heap.size, 4, none⟩ = some (.int .i64 hi) ∧ w'.cell? ⟨w.heap.size, 5, none⟩ = some (.slice da dn dc) ∧ w'.cell? ⟨w.heap.size, 6, none⟩ = some (.int .i64 nw) ∧ w'.cell? ⟨w.heap.size, 7, none⟩ = some (.slice (some ⟨b, o, none⟩) es.length ec) ∧ w'.cell? ⟨wo.heap.size, 0, none⟩ = some (.int .i64 d.k) ∧ w'.cell? ⟨wo.heap.size, 1, none⟩ = some (.int .i64 d.pr) ∧ w'.cell? ⟨wo.heap.size, 2, none⟩ = some (.int .i64 d.pp) ∧ w'.cell? ⟨wo.heap.size, 3, none⟩ = some (.int .i64 d.o) ∧ w'.cell? ⟨wo.heap.size, 4, none⟩ = some (.int .i64 d.i) ∧ w'.cell? ⟨wo.heap.size, 5, none⟩ = some (.int .i64 d.ip) ∧ w'.cell? ⟨wo.heap.size, 6, none⟩ = some (.int .i64 d.l))) (by kernel_rfl) ?_ (fun hHeld => ?_)
          · go_keep
          refine takeL 0 22 ?_ ?_ hHeld ?_
          rotate_left
          · (intro w hSw; (try dsimp only at hSw); go_simp; try with_reducible rfl)
          simp only [Act.put, puA, puB, puC]
          refine takeL 1 23 ?_ ?_ hHeld ?_
          rotate_left
          · (intro w hSw; (try dsimp only at hSw); go_simp; try with_reducible rfl)
          simp only [Act.put, puA, puB, puC]
          refine wpAnyH_ready (rs := [2]) (by kernel_rfl) (by simp) (AllReadyH.cons rfl (fun K hK => ?_) AllReadyH.nil)
          go_simp
          go_wp2_with ((go_at_call 71; refine (l2EntryOk_b _ _ _ _ _ _ _ _ _ _ _ _ d _ l0 l1 a0 a1 n0 n1 true hok).mono ?_; rintro e' w1 ⟨rfl, hb1⟩; have hB1 := bl_trans (bl_drew (bl_alloc hB _)) hb1; have hX1 := (hX.below (bl_drew (bl_alloc (bl_refl _) _))).below hb1; have hY1 := (hY.below (bl_drew (bl_refl _))).below hb1; have hx1 := hX1.2; have hy1 := hY1.2))
          refine hK.out _ _ ?_ (fun hHeld1 => ?_)
          · go_keep
          clear hK K hHeld
          have hHeld := hHeld1
          clear hHeld1
          refine takeL 3 25 ?_ ?_ hHeld ?_
          rotate_left
          · (intro w hSw; (try dsimp only at hSw); go_simp; try with_reducible rfl)
          simp only [Act.put, puA, puB, puC]
          refine takeL 4 26 ?_ ?_ hHeld ?_
          rotate_left
          · (intro w hSw; (try dsimp only at hSw); go_simp; try with_reducible rfl)
          simp only [Act.put, puA, puB, puC]
          refine takeL 5 27 ?_ ?_ hHeld ?_
          rotate_left
          · (intro w hSw; (try dsimp only at hSw); go_simp; try with_reducible rfl)
          simp only [Act.put, puA, puB, puC]
          refine takeL 6 28 ?_ ?_ hHeld ?_
          rotate_left
          · (intro w hSw; (try dsimp only at hSw); go_simp; try with_reducible rfl)
          simp only [Act.put, puA, puB, puC]
          refine takeL 7 29 ?_ ?_ hHeld ?_
          rotate_left
          · (intro w hSw; (try dsimp only at hSw); go_simp; try with_reducible rfl)
          simp only [Act.put, puA, puB, puC]
          refine takeN 8 30 hHeld ?_
          simp only [Act.put, puA, puB, puC]
          refine takeN 9 31 hHeld ?_
          simp only [Act.put, puA, puB, puC]
          refine takeN 10 32 hHeld ?_
          simp only [Act.put, puA, puB, puC]
          refine takeN 11 33 hHeld ?_
          simp only [Act.put, puA, puB, puC]
          refine takeN 12 34 hHeld ?_
          simp only [Act.put, puA, puB, puC]
          refine takeN 13 35 hHeld ?_
          simp only [Act.put, puA, puB, puC]
          refine takeN 14 36 hHeld ?_
          simp only [Act.put, puA, puB, puC]
          refine takeN 15 37 hHeld ?_
          simp only [Act.put, puA, puB, puC]
          refine takeN 16 38 hHeld ?_
          simp only [Act.put, puA, puB, puC]
          refine takeL 17 39 ?_ ?_ hHeld ?_
          rotate_left
          · (intro w hSw; (try dsimp only at hSw); go_simp; try with_reducible rfl)
          simp only [Act.put, puA, puB, puC]
          refine takeL 18 40 ?_ ?_ hHeld ?_
          rotate_left
          · (intro w hSw; (try dsimp only at hSw); go_simp; try with_reducible rfl)
          simp only [Act.put, puA, puB, puC]
          refine wpAnyH_done (by kernel_rfl) ?_ _
          go_wp2_with fail
          clear hbox hx1 hy1 c0 c1 c2 c3 c4 c5 c6
          go_loopg [5] 0 (fun g k wq => ∃ m : Nat, g = 0 - m ∧ m ≤ 0 ∧ k = .int .i64 m ∧ (∀ j e, j < m → es[j]? = some e → twiceB nw e d = false) ∧ Below w.heap.size w wq ∧ Box wq w.heap.size #[.int .i64 ad, .int .i64 ln, .int .i64 ow, .int .i64 lo, .int .i64 hi, .slice da dn dc, .int .i64 nw, .slice (some ⟨b, o, none⟩) es.length ec] ∧ Box wq wo.heap.size #[.int .i64 d.k, .int .i64 d.pr, .int .i64 d.pp, .int .i64 d.o, .int .i64 d.i, .int .i64 d.ip, .int .i64 d.l])
          case atStart => exact ⟨0, by omega, by omega, rfl, fun _ _ h => absurd h (by omega), hB1, hX1, hY1⟩
          case round =>
            obtain ⟨m, hgm, hm, rfl, hpr, hBq, hXq, hYq⟩ := hrel
            have HP : Hid (∀ j e, j < m → es[j]? = some e → twiceB nw e d = false) := hpr
            obtain ⟨hsx, hbx⟩ := id hXq
            obtain ⟨hsy, hby⟩ := id hYq
            clear hpr
            have hlm : ¬ m < 0 := by omega
            obtain rfl : m = 0 := by omega
            go_wp2_with fail
            go_roundg (es.length - 1)
            case measure => omega
            case rel => exact ⟨1, rfl, by omega, by go_num, entries_up hUp.out hD.out hok (fun j e h => absurd h (by omega)) hlm HP.out, hBq, hXq⟩
        · obtain ⟨m, hnm⟩ : ∃ m, n = m + 1 := ⟨n - 1, by omega⟩
          obtain ⟨e, he⟩ : ∃ e, es[m]? = some e := ⟨es[m], by simp⟩
          obtain ⟨k0, k1, k2, k3, k4, k5, k6⟩ := hc.below hB hlt m e he
          have hE : Hid (es[m]? = some e) := he
          have hmd : (m : Int) < (es.length : Int) := by omega
          have hpos : (0 : Int) < (n : Int) := by omega
          have hm0 : (0 : Int) ≤ (m : Int) := by omega
          have hwm : IntKind.i64.wrap ((n : Int) - 1) = (m : Int) := by rw [wrap_of _ (by omega) (by omega)]; omega
          have HN : Hid (n = m + 1) := hnm
          clear he hnm
          by_cases hls : lessE e d = true
          · go_wp2_with fail
            refine wp_region_held_drew (S := (fun w' => w'.cell? ⟨w.heap.size, 0, none⟩ = some (.int .i64 ad) ∧ w'.cell? ⟨w.heap.size, 1, none⟩ = some (.int .i64 ln) ∧ w'.cell? ⟨w.heap.size, 2, none⟩ = some (.int .i64 ow) ∧ w'.cell? ⟨w.heap.size, 3, none⟩ = some (.int .i64 lo) ∧ w'.cell? ⟨w.heap.size, 4, none⟩ = some (.int .i64 hi) ∧ w'.cell? ⟨w.heap.size, 5, none⟩ = some (.slice da dn dc) ∧ w'.cell? ⟨w.heap.size, 6, none⟩ = some (.int .i64 nw) ∧ w'.cell? ⟨w.heap.size, 7, none⟩ = some (.slice (some ⟨b, o, none⟩) es.length ec) ∧ w'.cell? ⟨wo.heap.size, 0, none⟩ = some (.int .i64 d.k) ∧ w'.cell? ⟨wo.heap.size, 1, none⟩ = some (.int .i64 d.pr) ∧ w'.cell? ⟨wo.heap.size, 2, none⟩ = some (.int .i64 d.pp) ∧ w'.cell? ⟨wo.heap.size, 3, none⟩ = some (.int .i64 d.o) ∧ w'.cell? ⟨wo.heap.size, 4, none⟩ = some (.int .i64 d.i) ∧ w'.cell? ⟨wo.heap.size, 5, none⟩ = some (.int .i64 d.ip) ∧ w'.cell? ⟨wo.heap.size, 6, none⟩ = some (.int .i64 d.l) ∧ w'.cell? ⟨b, o + m * 7, none⟩ = some (.int .i64 e.k) ∧ w'.cell? ⟨b, o + m * 7 + 1, none⟩ = some (.int .i64 e.pr) ∧ w'.cell? ⟨b, o + m * 7 + 2, none⟩ = some (.int .i64 e.pp) ∧ w'.cell? ⟨b, o + m * 7 + 3, none⟩ = some (.int .i64 e.o) ∧ w'.cell? ⟨b, o + m * 7 + 4, none⟩ = some (.int .i64 e.i) ∧ w'.cell? ⟨b, o + m * 7 + 5, none⟩ = some (.int .i64 e.ip) ∧ w'.cell? ⟨b, o + m * 7 + 6, none⟩ = some (.int .i64 e.l))) (by kernel_rfl) ?_ (fun hHeld => ?_)
            · go_keep
            refine takeL 0 22 ?_ ?_ hHeld ?_
            rotate_left
            · (intro w hSw; (try dsimp only at hSw); go_simp; try with_reducible rfl)
            simp only [Act.put, puA, puB, puC]
            refine takeL 1 23 ?_ ?_ hHeld ?_
            rotate_left
            · (intro w hSw; (try dsimp only at hSw); go_simp; try with_reducible rfl)
            simp only [Act.put, puA, puB, puC]
            refine wpAnyH_ready (rs := [2]) (by kernel_rfl) (by simp) (AllReadyH.cons rfl (fun K hK => ?_) AllReadyH.nil)
            go_simp
            go_wp2_with ((go_at_call 71; refine (l2EntryOk_b _ _ _ _ _ _ _ _ _ _ _ _ d _ l0 l1 a0 a1 n0 n1 true hok).mono ?_; rintro e' w1 ⟨rfl, hb1⟩; have hB1 := bl_trans (bl_drew (bl_alloc hB _)) hb1; have hX1 := (hX.below (bl_drew (bl_alloc (bl_refl _) _))).below hb1; have hY1 := (hY.below (bl_drew (bl_refl _))).below hb1; have hx1 := hX1.2; have hy1 := hY1.2; obtain ⟨p0, p1, p2, p3, p4, p5, p6⟩ := hc.below hB1 hlt m e hE.out))
            refine hK.out _ _ ?_ (fun hHeld1 => ?_)
            · go_keep
            clear hK K hHeld
            have hHeld := hHeld1
            clear hHeld1
            refine takeL 3 25 ?_ ?_ hHeld ?_
            rotate_left
            · (intro w hSw; (try dsimp only at hSw); go_simp; try with_reducible rfl)
            simp only [Act.put, puA, puB, puC]
            refine takeL 4 26 ?_ ?_ hHeld ?_
            rotate_left
            · (intro w hSw; (try dsimp only at hSw); go_simp; try with_reducible rfl)
            simp only [Act.put, puA, puB, puC]
            refine takeL 5 27 ?_ ?_ hHeld ?_
            rotate_left
            · (intro w hSw; (try dsimp only at hSw); go_simp; try with_reducible rfl)
            simp only [Act.put, puA, puB, puC]
            refine takeL 6 28 ?_ ?_ hHeld ?_
            rotate_left
            · (intro w hSw; (try dsimp only at hSw); go_simp; try with_reducible rfl)
            simp only [Act.put, puA, puB, puC]
            refine takeL 7 29 ?_ ?_ hHeld ?_
            rotate_left
            · (intro w hSw; (try dsimp only at hSw); go_simp; try with_reducible rfl)
            simp only [Act.put, puA, puB, puC]
            refine takeL 8 30 ?_ ?_ hHeld ?_
            rotate_left
            · (intro w hSw; (try dsimp only at hSw); go_simp; try with_reducible rfl)
            simp only [Act.put, puA, puB, puC]
            refine takeL 9 31 ?_ ?_ hHeld ?_
            rotate_left
            · (intro w hSw; (try dsimp only at hSw); go_simp; try with_reducible rfl)
            simp only [Act.put, puA, puB, puC]
            refine takeL 10 32 ?_ ?_ hHeld ?_
            rotate_left
            · (intro w hSw; (try dsimp only at hSw); go_simp; try with_reducible rfl)
            simp only [Act.put, puA, puB, puC]
            refine takeL 11 33 ?_ ?_ hHeld ?_
            rotate_left
            · (intro w hSw; (try dsimp only at hSw); go_simp; try with_reducible rfl)
            simp only [Act.put, puA, puB, puC]
            refine takeL 12 34 ?_ ?_ hHeld ?_
            rotate_left
            · (intro w hSw; (try dsimp only at hSw); go_simp; try with_reducible rfl)
            simp only [Act.put, puA, puB, puC]
            refine takeL 13 35 ?_ ?_ hHeld ?_
            rotate_left
            · (intro w hSw; (try dsimp only at hSw); go_simp; try with_reducible rfl)
            simp only [Act.put, puA, puB, puC]
            refine takeL 14 36 ?_ ?_ hHeld ?_
            rotate_left
            · (intro w hSw; (try dsimp only at hSw); go_simp; try with_reducible rfl)
            simp only [Act.put, puA, puB, puC]
            refine wpAnyH_ready (rs := [15]) (by kernel_rfl) (by simp) (AllReadyH.cons rfl (fun K hK => ?_) AllReadyH.nil)
            go_simp
            go_wp2_with ((go_at_call 72; refine (l2Less_b e d _ true hls).mono ?_; rintro e' w2 ⟨rfl, hb2⟩; have hB2 := bl_trans hB1 hb2; have hX2 := hX1.below hb2; have hY2 := hY1.below hb2; have hx2 := hX2.2; have hy2 := hY2.2; obtain ⟨r0, r1, r2, r3, r4, r5, r6⟩ := hc.below hB2 hlt m e hE.out))
            refine hK.out _ _ ?_ (fun hHeld1 => ?_)
            · go_keep
            clear hK K hHeld
            have hHeld := hHeld1
            clear hHeld1
            refine takeL 16 38 ?_ ?_ hHeld ?_
            rotate_left
            · (intro w hSw; (try dsimp only at hSw); go_simp; try with_reducible rfl)
            simp only [Act.put, puA, puB, puC]
            refine takeL 17 39 ?_ ?_ hHeld ?_
            rotate_left
            · (intro w hSw; (try dsimp only at hSw); go_simp; try with_reducible rfl)
            simp only [Act.put, puA, puB, puC]
            refine takeL 18 40 ?_ ?_ hHeld ?_
            rotate_left
            · (intro w hSw; (try dsimp only at hSw); go_simp; try with_reducible rfl)
            simp only [Act.put, puA, puB, puC]
            refine wpAnyH_done (by kernel_rfl) ?_ _
            have HL : Hid (∀ j e, j + 1 = n → es[j]? = some e → lessE e d = true) := by
              intro j e' hj he'
              have hj' : j = m := by have := HN.out; omega
              subst hj'
              rw [some_one he' hE.out]; exact hls
            clear hbox hx1 hy1 hx2 hy2 c0 c1 c2 c3 c4 c5 c6 k0 k1 k2 k3 k4 k5 k6 p0 p1 p2 p3 p4 p5 p6 r0 r1 r2 r3 r4 r5 r6 hwm hmd hm0 hE hls HN hHeld
            go_wp2_with fail
            go_loopg [5] n (fun g k wq => ∃ m : Nat, g = n - m ∧ m ≤ n ∧ k = .int .i64 m ∧ (∀ j e, j < m → es[j]? = some e → twiceB nw e d = false) ∧ Below w.heap.size w wq ∧ Box wq w.heap.size #[.int .i64 ad, .int .i64 ln, .int .i64 ow, .int .i64 lo, .int .i64 hi, .slice da dn dc, .int .i64 nw, .slice (some ⟨b, o, none⟩) es.length ec] ∧ Box wq wo.heap.size #[.int .i64 d.k, .int .i64 d.pr, .int .i64 d.pp, .int .i64 d.o, .int .i64 d.i, .int .i64 d.ip, .int .i64 d.l])
            case atStart => exact ⟨0, by omega, by omega, rfl, fun _ _ h => absurd h (by omega), hB2, hX2, hY2⟩
            case round =>
              obtain ⟨m, hgm, hm, rfl, hpr, hBq, hXq, hYq⟩ := hrel
              have HP : Hid (∀ j e, j < m → es[j]? = some e → twiceB nw e d = false) := hpr
              obtain ⟨hsx, hbx⟩ := id hXq
              obtain ⟨hsy, hby⟩ := id hYq
              clear hpr
              by_cases hlm : m < n
              · obtain ⟨e, he⟩ : ∃ e, es[m]? = some e := ⟨es[m], by simp⟩
                obtain ⟨he0, he1⟩ := entryB_last (hUp.out m e hlm he).1
                obtain ⟨k0, k1, k2, k3, k4, k5, k6⟩ := hc.below hBq hlt m e he
                have hE : Hid (es[m]? = some e) := he
                clear he
                have hb3 : b < wr.heap.size := by have := hBq.size; omega
                have hmd : (m : Int) < (es.length : Int) := by omega
                by_cases hsm : sameE e d = true
                · by_cases hvd : liveB nw d.l = true
                  · by_cases hve : liveB nw e.l = true
                    · go_wp2_with fail
                      refine wp_region_held_drew (S := (fun w' => w'.cell? ⟨w.heap.size, 0, none⟩ = some (.int .i64 ad) ∧ w'.cell? ⟨w.heap.size, 1, none⟩ = some (.int .i64 ln) ∧ w'.cell? ⟨w.heap.size, 2, none⟩ = some (.int .i64 ow) ∧ w'.cell? ⟨w.heap.size, 3, none⟩ = some (.int .i64 lo) ∧ w'.cell? ⟨w.heap.size, 4, none⟩ = some (.int .i64 hi) ∧ w'.cell? ⟨w.heap.size, 5, none⟩ = some (.slice da dn dc) ∧ w'.cell? ⟨w.heap.size, 6, none⟩ = some (.int .i64 nw) ∧ w'.cell? ⟨w.heap.size, 7, none⟩ = some (.slice (some ⟨b, o, none⟩) es.length ec) ∧ w'.cell? ⟨wo.heap.size, 0, none⟩ = some (.int .i64 d.k) ∧ w'.cell? ⟨wo.heap.size, 1, none⟩ = some (.int .i64 d.pr) ∧ w'.cell? ⟨wo.heap.size, 2, none⟩ = some (.int .i64 d.pp) ∧ w'.cell? ⟨wo.heap.size, 3, none⟩ = some (.int .i64 d.o) ∧ w'.cell? ⟨wo.heap.size, 4, none⟩ = some (.int .i64 d.i) ∧ w'.cell? ⟨wo.heap.size, 5, none⟩ = some (.int .i64 d.ip) ∧ w'.cell? ⟨wo.heap.size, 6, none⟩ = some (.int .i64 d.l) ∧ w'.cell? ⟨b, o + m * 7, none⟩ = some (.int .i64 e.k) ∧ w'.cell? ⟨b, o + m * 7 + 1, none⟩ = some (.int .i64 e.pr) ∧ w'.cell? ⟨b, o + m * 7 + 2, none⟩ = some (.int .i64 e.pp) ∧ w'.cell? ⟨b, o + m * 7 + 3, none⟩ = some (.int .i64 e.o) ∧ w'.cell? ⟨b, o + m * 7 + 4, none⟩ = some (.int .i64 e.i) ∧ w'.cell? ⟨b, o + m * 7 + 5, none⟩ = some (.int .i64 e.ip) ∧ w'.cell? ⟨b, o + m * 7 + 6, none⟩ = some (.int .i64 e.l))) (by kernel_rfl) ?_ (fun hHeld => ?_)
                      · go_keep
                      refine takeL 0 46 ?_ ?_ hHeld ?_
                      rotate_left
                      · (intro w hSw; (try dsimp only at hSw); go_simp; try with_reducible rfl)
                      simp only [Act.put, puA, puB, puC]
                      refine takeL 1 47 ?_ ?_ hHeld ?_
                      rotate_left
                      · (intro w hSw; (try dsimp only at hSw); go_simp; try with_reducible rfl)
                      simp only [Act.put, puA, puB, puC]
                      refine takeL 2 48 ?_ ?_ hHeld ?_
                      rotate_left
                      · (intro w hSw; (try dsimp only at hSw); go_simp; try with_reducible rfl)
                      simp only [Act.put, puA, puB, puC]
                      refine takeL 3 49 ?_ ?_ hHeld ?_
                      rotate_left
                      · (intro w hSw; (try dsimp only at hSw); go_simp; try with_reducible rfl)
                      simp only [Act.put, puA, puB, puC]
                      refine takeL 4 50 ?_ ?_ hHeld ?_
                      rotate_left
                      · (intro w hSw; (try dsimp only at hSw); go_simp; try with_reducible rfl)
                      simp only [Act.put, puA, puB, puC]
                      refine takeL 5 51 ?_ ?_ hHeld ?_
                      rotate_left
                      · (intro w hSw; (try dsimp only at hSw); go_simp; try with_reducible rfl)
                      simp only [Act.put, puA, puB, puC]
                      refine wpAnyH_ready (rs := [6]) (by kernel_rfl) (by simp) (AllReadyH.cons rfl (fun K hK => ?_) AllReadyH.nil)
                      go_simp
                      go_wp2_with ((go_at_call 74; refine (l2Flow_ret _ _ _ _ _ _ _ _).mono ?_; rintro e' v11 ⟨rfl, hb11⟩; have hB11 := bl_trans (bl_drew hBq) hb11; have hX11 := (hXq.below (bl_drew (bl_refl _))).below hb11; have hY11 := (hYq.below (bl_drew (bl_refl _))).below hb11; have hx11 := hX11.2; have hy11 := hY11.2; obtain ⟨q110, q111, q112, q113, q114, q115, q116⟩ := hc.below hB11 hlt m e hE.out))
                      refine hK.out _ _ ?_ (fun hHeld1 => ?_)
                      · go_keep
                      clear hK K hHeld
                      have hHeld := hHeld1
                      clear hHeld1
                      refine wpAnyH_ready (rs := [7]) (by kernel_rfl) (by simp) (AllReadyH.cons rfl (fun K hK => ?_) AllReadyH.nil)
                      go_simp
                      go_wp2_with ((go_at_call 73; refine (l2Is_b e d _ true hsm).mono ?_; rintro e' v12 ⟨rfl, hb12⟩; have hB12 := bl_trans hB11 hb12; have hX12 := hX11.below hb12; have hY12 := hY11.below hb12; have hx12 := hX12.2; have hy12 := hY12.2; obtain ⟨q120, q121, q122, q123, q124, q125, q126⟩ := hc.below hB12 hlt m e hE.out))
                      refine hK.out _ _ ?_ (fun hHeld1 => ?_)
                      · go_keep
                      clear hK K hHeld
                      have hHeld := hHeld1
                      clear hHeld1
                      refine takeL 8 54 ?_ ?_ hHeld ?_
                      rotate_left
                      · (intro w hSw; (try dsimp only at hSw); go_simp; try with_reducible rfl)
                      simp only [Act.put, puA, puB, puC]
                      refine takeL 9 55 ?_ ?_ hHeld ?_
                      rotate_left
                      · (intro w hSw; (try dsimp only at hSw); go_simp; try with_reducible rfl)
                      simp only [Act.put, puA, puB, puC]
                      refine takeL 10 56 ?_ ?_ hHeld ?_
                      rotate_left
                      · (intro w hSw; (try dsimp only at hSw); go_simp; try with_reducible rfl)
                      simp only [Act.put, puA, puB, puC]
                      refine wpAnyH_ready (rs := [11]) (by kernel_rfl) (by simp) (AllReadyH.cons rfl (fun K hK => ?_) AllReadyH.nil)
                      go_simp
                      go_wp2_with ((go_at_call 25; refine (l2Live_b _ _ _ _ _ _ _ _ _ _ _ _ d _ n0 n1 hd0 hd1 true hvd).mono ?_; rintro e' v13 ⟨rfl, hb13⟩; have hB13 := bl_trans hB12 hb13; have hX13 := hX12.below hb13; have hY13 := hY12.below hb13; have hx13 := hX13.2; have hy13 := hY13.2; obtain ⟨q130, q131, q132, q133, q134, q135, q136⟩ := hc.below hB13 hlt m e hE.out))
                      refine hK.out _ _ ?_ (fun hHeld1 => ?_)
                      · go_keep
                      clear hK K hHeld
                      have hHeld := hHeld1
                      clear hHeld1
                      refine takeL 12 58 ?_ ?_ hHeld ?_
                      rotate_left
                      · (intro w hSw; (try dsimp only at hSw); go_simp; try with_reducible rfl)
                      simp only [Act.put, puA, puB, puC]
                      refine takeL 13 59 ?_ ?_ hHeld ?_
                      rotate_left
                      · (intro w hSw; (try dsimp only at hSw); go_simp; try with_reducible rfl)
                      simp only [Act.put, puA, puB, puC]
                      refine takeL 14 60 ?_ ?_ hHeld ?_
                      rotate_left
                      · (intro w hSw; (try dsimp only at hSw); go_simp; try with_reducible rfl)
                      simp only [Act.put, puA, puB, puC]
                      refine takeL 15 61 ?_ ?_ hHeld ?_
                      rotate_left
                      · (intro w hSw; (try dsimp only at hSw); go_simp; try with_reducible rfl)
                      simp only [Act.put, puA, puB, puC]
                      refine takeL 16 62 ?_ ?_ hHeld ?_
                      rotate_left
                      · (intro w hSw; (try dsimp only at hSw); go_simp; try with_reducible rfl)
                      simp only [Act.put, puA, puB, puC]
                      refine takeL 17 63 ?_ ?_ hHeld ?_
                      rotate_left
                      · (intro w hSw; (try dsimp only at hSw); go_simp; try with_reducible rfl)
                      simp only [Act.put, puA, puB, puC]
                      refine takeL 18 64 ?_ ?_ hHeld ?_
                      rotate_left
                      · (intro w hSw; (try dsimp only at hSw); go_simp; try with_reducible rfl)
                      simp only [Act.put, puA, puB, puC]
                      refine takeL 19 65 ?_ ?_ hHeld ?_
                      rotate_left
                      · (intro w hSw; (try dsimp only at hSw); go_simp; try with_reducible rfl)
                      simp only [Act.put, puA, puB, puC]
                      refine wpAnyH_ready (rs := [20]) (by kernel_rfl) (by simp) (AllReadyH.cons rfl (fun K hK => ?_) AllReadyH.nil)
                      go_simp
                      go_wp2_with ((go_at_call 25; refine (l2Live_b _ _ _ _ _ _ _ _ _ _ _ _ e _ n0 n1 he0 he1 true hve).mono ?_; rintro e' v14 ⟨rfl, hb14⟩; have hB14 := bl_trans hB13 hb14; have hX14 := hX13.below hb14; have hY14 := hY13.below hb14; have hx14 := hX14.2; have hy14 := hY14.2; obtain ⟨q140, q141, q142, q143, q144, q145, q146⟩ := hc.below hB14 hlt m e hE.out))
                      refine hK.out _ _ ?_ (fun hHeld1 => ?_)
                      · go_keep
                      clear hK K hHeld
                      have hHeld := hHeld1
                      clear hHeld1
                      refine takeL 21 67 ?_ ?_ hHeld ?_
                      rotate_left
                      · (intro w hSw; (try dsimp only at hSw); go_simp; try with_reducible rfl)
                      simp only [Act.put, puA, puB, puC]
                      refine wpAnyH_done (by kernel_rfl) ?_ _
                      go_wp2_with fail
                      go_ret
                      exact ⟨ret_bool (entries_no3 hlt2 hD.out hlm hE.out (by simp [twiceB, hsm, hvd, hve])), hB14⟩
                    · have hve' : liveB nw e.l = false := by simpa using hve
                      go_wp2_with fail
                      refine wp_region_held_drew (S := (fun w' => w'.cell? ⟨w.heap.size, 0, none⟩ = some (.int .i64 ad) ∧ w'.cell? ⟨w.heap.size, 1, none⟩ = some (.int .i64 ln) ∧ w'.cell? ⟨w.heap.size, 2, none⟩ = some (.int .i64 ow) ∧ w'.cell? ⟨w.heap.size, 3, none⟩ = some (.int .i64 lo) ∧ w'.cell? ⟨w.heap.size, 4, none⟩ = some (.int .i64 hi) ∧ w'.cell? ⟨w.heap.size, 5, none⟩ = some (.slice da dn dc) ∧ w'.cell? ⟨w.heap.size, 6, none⟩ = some (.int .i64 nw) ∧ w'.cell? ⟨w.heap.size, 7, none⟩ = some (.slice (some ⟨b, o, none⟩) es.length ec) ∧ w'.cell? ⟨wo.heap.size, 0, none⟩ = some (.int .i64 d.k) ∧ w'.cell? ⟨wo.heap.size, 1, none⟩ = some (.int .i64 d.pr) ∧ w'.cell? ⟨wo.heap.size, 2, none⟩ = some (.int .i64 d.pp) ∧ w'.cell? ⟨wo.heap.size, 3, none⟩ = some (.int .i64 d.o) ∧ w'.cell? ⟨wo.heap.size, 4, none⟩ = some (.int .i64 d.i) ∧ w'.cell? ⟨wo.heap.size, 5, none⟩ = some (.int .i64 d.ip) ∧ w'.cell? ⟨wo.heap.size, 6, none⟩ = some (.int .i64 d.l) ∧ w'.cell? ⟨b, o + m * 7, none⟩ = some (.int .i64 e.k) ∧ w'.cell? ⟨b, o + m * 7 + 1, none⟩ = some (.int .i64 e.pr) ∧ w'.cell? ⟨b, o + m * 7 + 2, none⟩ = some (.int .i64 e.pp) ∧ w'.cell? ⟨b, o + m * 7 + 3, none⟩ = some (.int .i64 e.o) ∧ w'.cell? ⟨b, o + m * 7 + 4, none⟩ = some (.int .i64 e.i) ∧ w'.cell? ⟨b, o + m * 7 + 5, none⟩ = some (.int .i64 e.ip) ∧ w'.cell? ⟨b, o + m * 7 + 6, none⟩ = some (.int .i64 e.l))) (by kernel_rfl) ?_ (fun hHeld => ?_)
                      · go_keep
                      refine takeL 0 46 ?_ ?_ hHeld ?_
                      rotate_left
                      · (intro w hSw; (try dsimp only at hSw); go_simp; try with_reducible rfl)
                      simp only [Act.put, puA, puB, puC]
                      refine takeL 1 47 ?_ ?_ hHeld ?_
                      rotate_left
                      · (intro w hSw; (try dsimp only at hSw); go_simp; try with_reducible rfl)
                      simp only [Act.put, puA, puB, puC]
                      refine takeL 2 48 ?_ ?_ hHeld ?_
                      rotate_left
                      · (intro w hSw; (try dsimp only at hSw); go_simp; try with_reducible rfl)
                      simp only [Act.put, puA, puB, puC]
                      refine takeL 3 49 ?_ ?_ hHeld ?_
                      rotate_left
                      · (intro w hSw; (try dsimp only at hSw); go_simp; try with_reducible rfl)
                      simp only [Act.put, puA, puB, puC]
                      refine takeL 4 50 ?_ ?_ hHeld ?_
                      rotate_left
                      · (intro w hSw; (try dsimp only at hSw); go_simp; try with_reducible rfl)
                      simp only [Act.put, puA, puB, puC]
                      refine takeL 5 51 ?_ ?_ hHeld ?_
                      rotate_left
                      · (intro w hSw; (try dsimp only at hSw); go_simp; try with_reducible rfl)
                      simp only [Act.put, puA, puB, puC]
                      refine wpAnyH_ready (rs := [6]) (by kernel_rfl) (by simp) (AllReadyH.cons rfl (fun K hK => ?_) AllReadyH.nil)
                      go_simp
                      go_wp2_with ((go_at_call 74; refine (l2Flow_ret _ _ _ _ _ _ _ _).mono ?_; rintro e' v11 ⟨rfl, hb11⟩; have hB11 := bl_trans (bl_drew hBq) hb11; have hX11 := (hXq.below (bl_drew (bl_refl _))).below hb11; have hY11 := (hYq.below (bl_drew (bl_refl _))).below hb11; have hx11 := hX11.2; have hy11 := hY11.2; obtain ⟨q110, q111, q112, q113, q114, q115, q116⟩ := hc.below hB11 hlt m e hE.out))
                      refine hK.out _ _ ?_ (fun hHeld1 => ?_)
                      · go_keep
                      clear hK K hHeld
                      have hHeld := hHeld1
                      clear hHeld1
                      refine wpAnyH_ready (rs := [7]) (by kernel_rfl) (by simp) (AllReadyH.cons rfl (fun K hK => ?_) AllReadyH.nil)
                      go_simp
                      go_wp2_with ((go_at_call 73; refine (l2Is_b e d _ true hsm).mono ?_; rintro e' v12 ⟨rfl, hb12⟩; have hB12 := bl_trans hB11 hb12; have hX12 := hX11.below hb12; have hY12 := hY11.below hb12; have hx12 := hX12.2; have hy12 := hY12.2; obtain ⟨q120, q121, q122, q123, q124, q125, q126⟩ := hc.below hB12 hlt m e hE.out))
                      refine hK.out _ _ ?_ (fun hHeld1 => ?_)
                      · go_keep
                      clear hK K hHeld
                      have hHeld := hHeld1
                      clear hHeld1
                      refine takeL 8 54 ?_ ?_ hHeld ?_
                      rotate_left
                      · (intro w hSw; (try dsimp only at hSw); go_simp; try with_reducible rfl)
                      simp only [Act.put, puA, puB, puC]
                      refine takeL 9 55 ?_ ?_ hHeld ?_
                      rotate_left
                      · (intro w hSw; (try dsimp only at hSw); go_simp; try with_reducible rfl)
                      simp only [Act.put, puA, puB, puC]
                      refine takeL 10 56 ?_ ?_ hHeld ?_
                      rotate_left
                      · (intro w hSw; (try dsimp only at hSw); go_simp; try with_reducible rfl)
                      simp only [Act.put, puA, puB, puC]
                      refine wpAnyH_ready (rs := [11]) (by kernel_rfl) (by simp) (AllReadyH.cons rfl (fun K hK => ?_) AllReadyH.nil)
                      go_simp
                      go_wp2_with ((go_at_call 25; refine (l2Live_b _ _ _ _ _ _ _ _ _ _ _ _ d _ n0 n1 hd0 hd1 true hvd).mono ?_; rintro e' v13 ⟨rfl, hb13⟩; have hB13 := bl_trans hB12 hb13; have hX13 := hX12.below hb13; have hY13 := hY12.below hb13; have hx13 := hX13.2; have hy13 := hY13.2; obtain ⟨q130, q131, q132, q133, q134, q135, q136⟩ := hc.below hB13 hlt m e hE.out))
                      refine hK.out _ _ ?_ (fun hHeld1 => ?_)
                      · go_keep
                      clear hK K hHeld
                      have hHeld := hHeld1
                      clear hHeld1
                      refine takeL 12 58 ?_ ?_ hHeld ?_
                      rotate_left
                      · (intro w hSw; (try dsimp only at hSw); go_simp; try with_reducible rfl)
                      simp only [Act.put, puA, puB, puC]
                      refine takeL 13 59 ?_ ?_ hHeld ?_
                      rotate_left
                      · (intro w hSw; (try dsimp only at hSw); go_simp; try with_reducible rfl)
                      simp only [Act.put, puA, puB, puC]
                      refine takeL 14 60 ?_ ?_ hHeld ?_
                      rotate_left
                      · (intro w hSw; (try dsimp only at hSw); go_simp; try with_reducible rfl)
                      simp only [Act.put, puA, puB, puC]
                      refine takeL 15 61 ?_ ?_ hHeld ?_
                      rotate_left
                      · (intro w hSw; (try dsimp only at hSw); go_simp; try with_reducible rfl)
                      simp only [Act.put, puA, puB, puC]
                      refine takeL 16 62 ?_ ?_ hHeld ?_
                      rotate_left
                      · (intro w hSw; (try dsimp only at hSw); go_simp; try with_reducible rfl)
                      simp only [Act.put, puA, puB, puC]
                      refine takeL 17 63 ?_ ?_ hHeld ?_
                      rotate_left
                      · (intro w hSw; (try dsimp only at hSw); go_simp; try with_reducible rfl)
                      simp only [Act.put, puA, puB, puC]
                      refine takeL 18 64 ?_ ?_ hHeld ?_
                      rotate_left
                      · (intro w hSw; (try dsimp only at hSw); go_simp; try with_reducible rfl)
                      simp only [Act.put, puA, puB, puC]
                      refine takeL 19 65 ?_ ?_ hHeld ?_
                      rotate_left
                      · (intro w hSw; (try dsimp only at hSw); go_simp; try with_reducible rfl)
                      simp only [Act.put, puA, puB, puC]
                      refine wpAnyH_ready (rs := [20]) (by kernel_rfl) (by simp) (AllReadyH.cons rfl (fun K hK => ?_) AllReadyH.nil)
                      go_simp
                      go_wp2_with ((go_at_call 25; refine (l2Live_b _ _ _ _ _ _ _ _ _ _ _ _ e _ n0 n1 he0 he1 false hve').mono ?_; rintro e' v14 ⟨rfl, hb14⟩; have hB14 := bl_trans hB13 hb14; have hX14 := hX13.below hb14; have hY14 := hY13.below hb14; have hx14 := hX14.2; have hy14 := hY14.2; obtain ⟨q140, q141, q142, q143, q144, q145, q146⟩ := hc.below hB14 hlt m e hE.out))
                      refine hK.out _ _ ?_ (fun hHeld1 => ?_)
                      · go_keep
                      clear hK K hHeld
                      have hHeld := hHeld1
                      clear hHeld1
                      refine takeL 21 67 ?_ ?_ hHeld ?_
                      rotate_left
                      · (intro w hSw; (try dsimp only at hSw); go_simp; try with_reducible rfl)
                      simp only [Act.put, puA, puB, puC]
                      refine wpAnyH_done (by kernel_rfl) ?_ _
                      go_wp2_with fail
                      go_roundg (n - (m + 1))
                      case measure => omega
                      case rel => exact ⟨m + 1, rfl, by omega, by go_num, twice_up HP.out hE.out (by simp [twiceB, hve']), hB14, hX14, hY14⟩
                  · have hvd' : liveB nw d.l = false := by simpa using hvd
                    go_wp2_with fail
                    refine wp_region_held_drew (S := (fun w' => w'.cell? ⟨w.heap.size, 0, none⟩ = some (.int .i64 ad) ∧ w'.cell? ⟨w.heap.size, 1, none⟩ = some (.int .i64 ln) ∧ w'.cell? ⟨w.heap.size, 2, none⟩ = some (.int .i64 ow) ∧ w'.cell? ⟨w.heap.size, 3, none⟩ = some (.int .i64 lo) ∧ w'.cell? ⟨w.heap.size, 4, none⟩ = some (.int .i64 hi) ∧ w'.cell? ⟨w.heap.size, 5, none⟩ = some (.slice da dn dc) ∧ w'.cell? ⟨w.heap.size, 6, none⟩ = some (.int .i64 nw) ∧ w'.cell? ⟨w.heap.size, 7, none⟩ = some (.slice (some ⟨b, o, none⟩) es.length ec) ∧ w'.cell? ⟨wo.heap.size, 0, none⟩ = some (.int .i64 d.k) ∧ w'.cell? ⟨wo.heap.size, 1, none⟩ = some (.int .i64 d.pr) ∧ w'.cell? ⟨wo.heap.size, 2, none⟩ = some (.int .i64 d.pp) ∧ w'.cell? ⟨wo.heap.size, 3, none⟩ = some (.int .i64 d.o) ∧ w'.cell? ⟨wo.heap.size, 4, none⟩ = some (.int .i64 d.i) ∧ w'.cell? ⟨wo.heap.size, 5, none⟩ = some (.int .i64 d.ip) ∧ w'.cell? ⟨wo.heap.size, 6, none⟩ = some (.int .i64 d.l) ∧ w'.cell? ⟨b, o + m * 7, none⟩ = some (.int .i64 e.k) ∧ w'.cell? ⟨b, o + m * 7 + 1, none⟩ = some (.int .i64 e.pr) ∧ w'.cell? ⟨b, o + m * 7 + 2, none⟩ = some (.int .i64 e.pp) ∧ w'.cell? ⟨b, o + m * 7 + 3, none⟩ = some (.int .i64 e.o) ∧ w'.cell? ⟨b, o + m * 7 + 4, none⟩ = some (.int .i64 e.i) ∧ w'.cell? ⟨b, o + m * 7 + 5, none⟩ = some (.int .i64 e.ip) ∧ w'.cell? ⟨b, o + m * 7 + 6, none⟩ = some (.int .i64 e.l))) (by kernel_rfl) ?_ (fun hHeld => ?_)
                    · go_keep
                    refine takeL 0 46 ?_ ?_ hHeld ?_
                    rotate_left
                    · (intro w hSw; (try dsimp only at hSw); go_simp; try with_reducible rfl)
                    simp only [Act.put, puA, puB, puC]
                    refine takeL 1 47 ?_ ?_ hHeld ?_
                    rotate_left
                    · (intro w hSw; (try dsimp only at hSw); go_simp; try with_reducible rfl)
                    simp only [Act.put, puA, puB, puC]
                    refine takeL 2 48 ?_ ?_ hHeld ?_
                    rotate_left
                    · (intro w hSw; (try dsimp only at hSw); go_simp; try with_reducible rfl)
                    simp only [Act.put, puA, puB, puC]
                    refine takeL 3 49 ?_ ?_ hHeld ?_
                    rotate_left
                    · (intro w hSw; (try dsimp only at hSw); go_simp; try with_reducible rfl)
                    simp only [Act.put, puA, puB, puC]
                    refine takeL 4 50 ?_ ?_ hHeld ?_
                    rotate_left
                    · (intro w hSw; (try dsimp only at hSw); go_simp; try with_reducible rfl)
                    simp only [Act.put, puA, puB, puC]
                    refine takeL 5 51 ?_ ?_ hHeld ?_
                    rotate_left
                    · (intro w hSw; (try dsimp only at hSw); go_simp; try with_reducible rfl)
                    simp only [Act.put, puA, puB, puC]
                    refine wpAnyH_ready (rs := [6]) (by kernel_rfl) (by simp) (AllReadyH.cons rfl (fun K hK => ?_) AllReadyH.nil)
                    go_simp
                    go_wp2_with ((go_at_call 74; refine (l2Flow_ret _ _ _ _ _ _ _ _).mono ?_; rintro e' v11 ⟨rfl, hb11⟩; have hB11 := bl_trans (bl_drew hBq) hb11; have hX11 := (hXq.below (bl_drew (bl_refl _))).below hb11; have hY11 := (hYq.below (bl_drew (bl_refl _))).below hb11; have hx11 := hX11.2; have hy11 := hY11.2; obtain ⟨q110, q111, q112, q113, q114, q115, q116⟩ := hc.below hB11 hlt m e hE.out))
                    refine hK.out _ _ ?_ (fun hHeld1 => ?_)
                    · go_keep
                    clear hK K hHeld
                    have hHeld := hHeld1
                    clear hHeld1
                    refine wpAnyH_ready (rs := [7]) (by kernel_rfl) (by simp) (AllReadyH.cons rfl (fun K hK => ?_) AllReadyH.nil)
                    go_simp
                    go_wp2_with ((go_at_call 73; refine (l2Is_b e d _ true hsm).mono ?_; rintro e' v12 ⟨rfl, hb12⟩; have hB12 := bl_trans hB11 hb12; have hX12 := hX11.below hb12; have hY12 := hY11.below hb12; have hx12 := hX12.2; have hy12 := hY12.2; obtain ⟨q120, q121, q122, q123, q124, q125, q126⟩ := hc.below hB12 hlt m e hE.out))
                    refine hK.out _ _ ?_ (fun hHeld1 => ?_)
                    · go_keep
                    clear hK K hHeld
                    have hHeld := hHeld1
                    clear hHeld1
                    refine takeL 8 54 ?_ ?_ hHeld ?_
                    rotate_left
                    · (intro w hSw; (try dsimp only at hSw); go_simp; try with_reducible rfl)
                    simp only [Act.put, puA, puB, puC]
                    refine takeL 9 55 ?_ ?_ hHeld ?_
                    rotate_left
                    · (intro w hSw; (try dsimp only at hSw); go_simp; try with_reducible rfl)
                    simp only [Act.put, puA, puB, puC]
                    refine takeL 10 56 ?_ ?_ hHeld ?_
                    rotate_left
                    · (intro w hSw; (try dsimp only at hSw); go_simp; try with_reducible rfl)
                    simp only [Act.put, puA, puB, puC]
                    refine wpAnyH_ready (rs := [11]) (by kernel_rfl) (by simp) (AllReadyH.cons rfl (fun K hK => ?_) AllReadyH.nil)
                    go_simp
                    go_wp2_with ((go_at_call 25; refine (l2Live_b _ _ _ _ _ _ _ _ _ _ _ _ d _ n0 n1 hd0 hd1 false hvd').mono ?_; rintro e' v13 ⟨rfl, hb13⟩; have hB13 := bl_trans hB12 hb13; have hX13 := hX12.below hb13; have hY13 := hY12.below hb13; have hx13 := hX13.2; have hy13 := hY13.2; obtain ⟨q130, q131, q132, q133, q134, q135, q136⟩ := hc.below hB13 hlt m e hE.out))
                    refine hK.out _ _ ?_ (fun hHeld1 => ?_)
                    · go_keep
                    clear hK K hHeld
                    have hHeld := hHeld1
                    clear hHeld1
                    refine takeL 12 58 ?_ ?_ hHeld ?_
                    rotate_left
                    · (intro w hSw; (try dsimp only at hSw); go_simp; try with_reducible rfl)
                    simp only [Act.put, puA, puB, puC]
                    refine takeL 13 59 ?_ ?_ hHeld ?_
                    rotate_left
                    · (intro w hSw; (try dsimp only at hSw); go_simp; try with_reducible rfl)
                    simp only [Act.put, puA, puB, puC]
                    refine takeN 14 60 hHeld ?_
                    simp only [Act.put, puA, puB, puC]
                    refine takeN 15 61 hHeld ?_
                    simp only [Act.put, puA, puB, puC]
                    refine takeN 16 62 hHeld ?_
                    simp only [Act.put, puA, puB, puC]
                    refine takeN 17 63 hHeld ?_
                    simp only [Act.put, puA, puB, puC]
                    refine takeN 18 64 hHeld ?_
                    simp only [Act.put, puA, puB, puC]
                    refine takeN 19 65 hHeld ?_
                    simp only [Act.put, puA, puB, puC]
                    refine takeN 20 66 hHeld ?_
                    simp only [Act.put, puA, puB, puC]
                    refine takeL 21 67 ?_ ?_ hHeld ?_
                    rotate_left
                    · (intro w hSw; (try dsimp only at hSw); go_simp; try with_reducible rfl)
                    simp only [Act.put, puA, puB, puC]
                    refine wpAnyH_done (by kernel_rfl) ?_ _
                    go_wp2_with fail
                    go_roundg (n - (m + 1))
                    case measure => omega
                    case rel => exact ⟨m + 1, rfl, by omega, by go_num, twice_up HP.out hE.out (by simp [twiceB, hvd']), hB13, hX13, hY13⟩
                · have hsm' : sameE e d = false := by simpa using hsm
                  go_wp2_with fail
                  refine wp_region_held_drew (S := (fun w' => w'.cell? ⟨w.heap.size, 0, none⟩ = some (.int .i64 ad) ∧ w'.cell? ⟨w.heap.size, 1, none⟩ = some (.int .i64 ln) ∧ w'.cell? ⟨w.heap.size, 2, none⟩ = some (.int .i64 ow) ∧ w'.cell? ⟨w.heap.size, 3, none⟩ = some (.int .i64 lo) ∧ w'.cell? ⟨w.heap.size, 4, none⟩ = some (.int .i64 hi) ∧ w'.cell? ⟨w.heap.size, 5, none⟩ = some (.slice da dn dc) ∧ w'.cell? ⟨w.heap.size, 6, none⟩ = some (.int .i64 nw) ∧ w'.cell? ⟨w.heap.size, 7, none⟩ = some (.slice (some ⟨b, o, none⟩) es.length ec) ∧ w'.cell? ⟨wo.heap.size, 0, none⟩ = some (.int .i64 d.k) ∧ w'.cell? ⟨wo.heap.size, 1, none⟩ = some (.int .i64 d.pr) ∧ w'.cell? ⟨wo.heap.size, 2, none⟩ = some (.int .i64 d.pp) ∧ w'.cell? ⟨wo.heap.size, 3, none⟩ = some (.int .i64 d.o) ∧ w'.cell? ⟨wo.heap.size, 4, none⟩ = some (.int .i64 d.i) ∧ w'.cell? ⟨wo.heap.size, 5, none⟩ = some (.int .i64 d.ip) ∧ w'.cell? ⟨wo.heap.size, 6, none⟩ = some (.int .i64 d.l) ∧ w'.cell? ⟨b, o + m * 7, none⟩ = some (.int .i64 e.k) ∧ w'.cell? ⟨b, o + m * 7 + 1, none⟩ = some (.int .i64 e.pr) ∧ w'.cell? ⟨b, o + m * 7 + 2, none⟩ = some (.int .i64 e.pp) ∧ w'.cell? ⟨b, o + m * 7 + 3, none⟩ = some (.int .i64 e.o) ∧ w'.cell? ⟨b, o + m * 7 + 4, none⟩ = some (.int .i64 e.i) ∧ w'.cell? ⟨b, o + m * 7 + 5, none⟩ = some (.int .i64 e.ip) ∧ w'.cell? ⟨b, o + m * 7 + 6, none⟩ = some (.int .i64 e.l))) (by kernel_rfl) ?_ (fun hHeld => ?_)
                  · go_keep
                  refine takeL 0 46 ?_ ?_ hHeld ?_
                  rotate_left
                  · (intro w hSw; (try dsimp only at hSw); go_simp; try with_reducible rfl)
                  simp only [Act.put, puA, puB, puC]
                  refine takeL 1 47 ?_ ?_ hHeld ?_
                  rotate_left
                  · (intro w hSw; (try dsimp only at hSw); go_simp; try with_reducible rfl)
                  simp only [Act.put, puA, puB, puC]
                  refine takeL 2 48 ?_ ?_ hHeld ?_
                  rotate_left
                  · (intro w hSw; (try dsimp only at hSw); go_simp; try with_reducible rfl)
                  simp only [Act.put, puA, puB, puC]
                  refine takeL 3 49 ?_ ?_ hHeld ?_
                  rotate_left
                  · (intro w hSw; (try dsimp only at hSw); go_simp; try with_reducible rfl)
                  simp only [Act.put, puA, puB, puC]
                  refine takeL 4 50 ?_ ?_ hHeld ?_
                  rotate_left
                  · (intro w hSw; (try dsimp only at hSw); go_simp; try with_reducible rfl)
                  simp only [Act.put, puA, puB, puC]
                  refine takeL 5 51 ?_ ?_ hHeld ?_
                  rotate_left
                  · (intro w hSw; (try dsimp only at hSw); go_simp; try with_reducible rfl)
                  simp only [Act.put, puA, puB, puC]
                  refine wpAnyH_ready (rs := [6]) (by kernel_rfl) (by simp) (AllReadyH.cons rfl (fun K hK => ?_) AllReadyH.nil)
                  go_simp
                  go_wp2_with ((go_at_call 74; refine (l2Flow_ret _ _ _ _ _ _ _ _).mono ?_; rintro e' v11 ⟨rfl, hb11⟩; have hB11 := bl_trans (bl_drew hBq) hb11; have hX11 := (hXq.below (bl_drew (bl_refl _))).below hb11; have hY11 := (hYq.below (bl_drew (bl_refl _))).below hb11; have hx11 := hX11.2; have hy11 := hY11.2; obtain ⟨q110, q111, q112, q113, q114, q115, q116⟩ := hc.below hB11 hlt m e hE.out))
                  refine hK.out _ _ ?_ (fun hHeld1 => ?_)
                  · go_keep
                  clear hK K hHeld
                  have hHeld := hHeld1
                  clear hHeld1
                  refine wpAnyH_ready (rs := [7]) (by kernel_rfl) (by simp) (AllReadyH.cons rfl (fun K hK => ?_) AllReadyH.nil)
                  go_simp
                  go_wp2_with ((go_at_call 73; refine (l2Is_b e d _ false hsm').mono ?_; rintro e' v12 ⟨rfl, hb12⟩; have hB12 := bl_trans hB11 hb12; have hX12 := hX11.below hb12; have hY12 := hY11.below hb12; have hx12 := hX12.2; have hy12 := hY12.2; obtain ⟨q120, q121, q122, q123, q124, q125, q126⟩ := hc.below hB12 hlt m e hE.out))
                  refine hK.out _ _ ?_ (fun hHeld1 => ?_)
                  · go_keep
                  clear hK K hHeld
                  have hHeld := hHeld1
                  clear hHeld1
                  refine takeL 8 54 ?_ ?_ hHeld ?_
                  rotate_left
                  · (intro w hSw; (try dsimp only at hSw); go_simp; try with_reducible rfl)
                  simp only [Act.put, puA, puB, puC]
                  refine takeN 9 55 hHeld ?_
                  simp only [Act.put, puA, puB, puC]
                  refine takeN 10 56 hHeld ?_
                  simp only [Act.put, puA, puB, puC]
                  refine takeN 11 57 hHeld ?_
                  simp only [Act.put, puA, puB, puC]
                  refine takeL 12 58 ?_ ?_ hHeld ?_
                  rotate_left
                  · (intro w hSw; (try dsimp only at hSw); go_simp; try with_reducible rfl)
                  simp only [Act.put, puA, puB, puC]
                  refine takeL 13 59 ?_ ?_ hHeld ?_
                  rotate_left
                  · (intro w hSw; (try dsimp only at hSw); go_simp; try with_reducible rfl)
                  simp only [Act.put, puA, puB, puC]
                  refine takeN 14 60 hHeld ?_
                  simp only [Act.put, puA, puB, puC]
                  refine takeN 15 61 hHeld ?_
                  simp only [Act.put, puA, puB, puC]
                  refine takeN 16 62 hHeld ?_
                  simp only [Act.put, puA, puB, puC]
                  refine takeN 17 63 hHeld ?_
                  simp only [Act.put, puA, puB, puC]
                  refine takeN 18 64 hHeld ?_
                  simp only [Act.put, puA, puB, puC]
                  refine takeN 19 65 hHeld ?_
                  simp only [Act.put, puA, puB, puC]
                  refine takeN 20 66 hHeld ?_
                  simp only [Act.put, puA, puB, puC]
                  refine takeL 21 67 ?_ ?_ hHeld ?_
                  rotate_left
                  · (intro w hSw; (try dsimp only at hSw); go_simp; try with_reducible rfl)
                  simp only [Act.put, puA, puB, puC]
                  refine wpAnyH_done (by kernel_rfl) ?_ _
                  go_wp2_with fail
                  go_roundg (n - (m + 1))
                  case measure => omega
                  case rel => exact ⟨m + 1, rfl, by omega, by go_num, twice_up HP.out hE.out (by simp [twiceB, hsm']), hB12, hX12, hY12⟩
              · go_wp2_with fail
                go_roundg (es.length - (n + 1))
                case measure => omega
                case rel => exact ⟨n + 1, rfl, by omega, by go_num, entries_up hUp.out hD.out hok HL.out hlm HP.out, hBq, hXq⟩
          · have hls' : lessE e d = false := by simpa using hls
            go_wp2_with fail
            refine wp_region_held_drew (S := (fun w' => w'.cell? ⟨w.heap.size, 0, none⟩ = some (.int .i64 ad) ∧ w'.cell? ⟨w.heap.size, 1, none⟩ = some (.int .i64 ln) ∧ w'.cell? ⟨w.heap.size, 2, none⟩ = some (.int .i64 ow) ∧ w'.cell? ⟨w.heap.size, 3, none⟩ = some (.int .i64 lo) ∧ w'.cell? ⟨w.heap.size, 4, none⟩ = some (.int .i64 hi) ∧ w'.cell? ⟨w.heap.size, 5, none⟩ = some (.slice da dn dc) ∧ w'.cell? ⟨w.heap.size, 6, none⟩ = some (.int .i64 nw) ∧ w'.cell? ⟨w.heap.size, 7, none⟩ = some (.slice (some ⟨b, o, none⟩) es.length ec) ∧ w'.cell? ⟨wo.heap.size, 0, none⟩ = some (.int .i64 d.k) ∧ w'.cell? ⟨wo.heap.size, 1, none⟩ = some (.int .i64 d.pr) ∧ w'.cell? ⟨wo.heap.size, 2, none⟩ = some (.int .i64 d.pp) ∧ w'.cell? ⟨wo.heap.size, 3, none⟩ = some (.int .i64 d.o) ∧ w'.cell? ⟨wo.heap.size, 4, none⟩ = some (.int .i64 d.i) ∧ w'.cell? ⟨wo.heap.size, 5, none⟩ = some (.int .i64 d.ip) ∧ w'.cell? ⟨wo.heap.size, 6, none⟩ = some (.int .i64 d.l) ∧ w'.cell? ⟨b, o + m * 7, none⟩ = some (.int .i64 e.k) ∧ w'.cell? ⟨b, o + m * 7 + 1, none⟩ = some (.int .i64 e.pr) ∧ w'.cell? ⟨b, o + m * 7 + 2, none⟩ = some (.int .i64 e.pp) ∧ w'.cell? ⟨b, o + m * 7 + 3, none⟩ = some (.int .i64 e.o) ∧ w'.cell? ⟨b, o + m * 7 + 4, none⟩ = some (.int .i64 e.i) ∧ w'.cell? ⟨b, o + m * 7 + 5, none⟩ = some (.int .i64 e.ip) ∧ w'.cell? ⟨b, o + m * 7 + 6, none⟩ = some (.int .i64 e.l))) (by kernel_rfl) ?_ (fun hHeld => ?_)
            · go_keep
            refine takeL 0 22 ?_ ?_ hHeld ?_
            rotate_left
            · (intro w hSw; (try dsimp only at hSw); go_simp; try with_reducible rfl)
            simp only [Act.put, puA, puB, puC]
            refine takeL 1 23 ?_ ?_ hHeld ?_
            rotate_left
            · (intro w hSw; (try dsimp only at hSw); go_simp; try with_reducible rfl)
            simp only [Act.put, puA, puB, puC]
            refine wpAnyH_ready (rs := [2]) (by kernel_rfl) (by simp) (AllReadyH.cons rfl (fun K hK => ?_) AllReadyH.nil)
            go_simp
            go_wp2_with ((go_at_call 71; refine (l2EntryOk_b _ _ _ _ _ _ _ _ _ _ _ _ d _ l0 l1 a0 a1 n0 n1 true hok).mono ?_; rintro e' w1 ⟨rfl, hb1⟩; have hB1 := bl_trans (bl_drew (bl_alloc hB _)) hb1; have hX1 := (hX.below (bl_drew (bl_alloc (bl_refl _) _))).below hb1; have hY1 := (hY.below (bl_drew (bl_refl _))).below hb1; have hx1 := hX1.2; have hy1 := hY1.2; obtain ⟨p0, p1, p2, p3, p4, p5, p6⟩ := hc.below hB1 hlt m e hE.out))
            refine hK.out _ _ ?_ (fun hHeld1 => ?_)
            · go_keep
            clear hK K hHeld
            have hHeld := hHeld1
            clear hHeld1
            refine takeL 3 25 ?_ ?_ hHeld ?_
            rotate_left
            · (intro w hSw; (try dsimp only at hSw); go_simp; try with_reducible rfl)
            simp only [Act.put, puA, puB, puC]
            refine takeL 4 26 ?_ ?_ hHeld ?_
            rotate_left
            · (intro w hSw; (try dsimp only at hSw); go_simp; try with_reducible rfl)
            simp only [Act.put, puA, puB, puC]
            refine takeL 5 27 ?_ ?_ hHeld ?_
            rotate_left
            · (intro w hSw; (try dsimp only at hSw); go_simp; try with_reducible rfl)
            simp only [Act.put, puA, puB, puC]
            refine takeL 6 28 ?_ ?_ hHeld ?_
            rotate_left
            · (intro w hSw; (try dsimp only at hSw); go_simp; try with_reducible rfl)
            simp only [Act.put, puA, puB, puC]
            refine takeL 7 29 ?_ ?_ hHeld ?_
            rotate_left
            · (intro w hSw; (try dsimp only at hSw); go_simp; try with_reducible rfl)
            simp only [Act.put, puA, puB, puC]
            refine takeL 8 30 ?_ ?_ hHeld ?_
            rotate_left
            · (intro w hSw; (try dsimp only at hSw); go_simp; try with_reducible rfl)
            simp only [Act.put, puA, puB, puC]
            refine takeL 9 31 ?_ ?_ hHeld ?_
            rotate_left
            · (intro w hSw; (try dsimp only at hSw); go_simp; try with_reducible rfl)
            simp only [Act.put, puA, puB, puC]
            refine takeL 10 32 ?_ ?_ hHeld ?_
            rotate_left
            · (intro w hSw; (try dsimp only at hSw); go_simp; try with_reducible rfl)
            simp only [Act.put, puA, puB, puC]
            refine takeL 11 33 ?_ ?_ hHeld ?_
            rotate_left
            · (intro w hSw; (try dsimp only at hSw); go_simp; try with_reducible rfl)
            simp only [Act.put, puA, puB, puC]
            refine takeL 12 34 ?_ ?_ hHeld ?_
            rotate_left
            · (intro w hSw; (try dsimp only at hSw); go_simp; try with_reducible rfl)
            simp only [Act.put, puA, puB, puC]
            refine takeL 13 35 ?_ ?_ hHeld ?_
            rotate_left
            · (intro w hSw; (try dsimp only at hSw); go_simp; try with_reducible rfl)
            simp only [Act.put, puA, puB, puC]
            refine takeL 14 36 ?_ ?_ hHeld ?_
            rotate_left
            · (intro w hSw; (try dsimp only at hSw); go_simp; try with_reducible rfl)
            simp only [Act.put, puA, puB, puC]
            refine wpAnyH_ready (rs := [15]) (by kernel_rfl) (by simp) (AllReadyH.cons rfl (fun K hK => ?_) AllReadyH.nil)
            go_simp
            go_wp2_with ((go_at_call 72; refine (l2Less_b e d _ false hls').mono ?_; rintro e' w2 ⟨rfl, hb2⟩; have hB2 := bl_trans hB1 hb2; have hX2 := hX1.below hb2; have hY2 := hY1.below hb2; have hx2 := hX2.2; have hy2 := hY2.2; obtain ⟨r0, r1, r2, r3, r4, r5, r6⟩ := hc.below hB2 hlt m e hE.out))
            refine hK.out _ _ ?_ (fun hHeld1 => ?_)
            · go_keep
            clear hK K hHeld
            have hHeld := hHeld1
            clear hHeld1
            refine takeL 16 38 ?_ ?_ hHeld ?_
            rotate_left
            · (intro w hSw; (try dsimp only at hSw); go_simp; try with_reducible rfl)
            simp only [Act.put, puA, puB, puC]
            refine takeL 17 39 ?_ ?_ hHeld ?_
            rotate_left
            · (intro w hSw; (try dsimp only at hSw); go_simp; try with_reducible rfl)
            simp only [Act.put, puA, puB, puC]
            refine takeL 18 40 ?_ ?_ hHeld ?_
            rotate_left
            · (intro w hSw; (try dsimp only at hSw); go_simp; try with_reducible rfl)
            simp only [Act.put, puA, puB, puC]
            refine wpAnyH_done (by kernel_rfl) ?_ _
            go_wp2
            go_ret
            exact ⟨ret_bool (entries_no2 hlt2 hD.out HN.out.symm hE.out hls'), hB2⟩
      · have hok' : entryB ad ln ow lo hi nw d = false := by simpa using hok
        go_wp2_with fail
        refine wp_region_held_drew (S := (fun w' => w'.cell? ⟨w.heap.size, 0, none⟩ = some (.int .i64 ad) ∧ w'.cell? ⟨w.heap.size, 1, none⟩ = some (.int .i64 ln) ∧ w'.cell? ⟨w.heap.size, 2, none⟩ = some (.int .i64 ow) ∧ w'.cell? ⟨w.heap.size, 3, none⟩ = some (.int .i64 lo) ∧ w'.cell? ⟨w.heap.size, 4, none⟩ = some (.int .i64 hi) ∧ w'.cell? ⟨w.heap.size, 5, none⟩ = some (.slice da dn dc) ∧ w'.cell? ⟨w.heap.size, 6, none⟩ = some (.int .i64 nw) ∧ w'.cell? ⟨w.heap.size, 7, none⟩ = some (.slice (some ⟨b, o, none⟩) es.length ec) ∧ w'.cell? ⟨wo.heap.size, 0, none⟩ = some (.int .i64 d.k) ∧ w'.cell? ⟨wo.heap.size, 1, none⟩ = some (.int .i64 d.pr) ∧ w'.cell? ⟨wo.heap.size, 2, none⟩ = some (.int .i64 d.pp) ∧ w'.cell? ⟨wo.heap.size, 3, none⟩ = some (.int .i64 d.o) ∧ w'.cell? ⟨wo.heap.size, 4, none⟩ = some (.int .i64 d.i) ∧ w'.cell? ⟨wo.heap.size, 5, none⟩ = some (.int .i64 d.ip) ∧ w'.cell? ⟨wo.heap.size, 6, none⟩ = some (.int .i64 d.l))) (by kernel_rfl) ?_ (fun hHeld => ?_)
        · go_keep
        refine takeL 0 22 ?_ ?_ hHeld ?_
        rotate_left
        · (intro w hSw; (try dsimp only at hSw); go_simp; try with_reducible rfl)
        simp only [Act.put, puA, puB, puC]
        refine takeL 1 23 ?_ ?_ hHeld ?_
        rotate_left
        · (intro w hSw; (try dsimp only at hSw); go_simp; try with_reducible rfl)
        simp only [Act.put, puA, puB, puC]
        refine wpAnyH_ready (rs := [2]) (by kernel_rfl) (by simp) (AllReadyH.cons rfl (fun K hK => ?_) AllReadyH.nil)
        go_simp
        go_wp2_with ((go_at_call 71; refine (l2EntryOk_b _ _ _ _ _ _ _ _ _ _ _ _ d _ l0 l1 a0 a1 n0 n1 false hok').mono ?_; rintro e' w1 ⟨rfl, hb1⟩; have hB1 := bl_trans (bl_drew (bl_alloc hB _)) hb1; have hX1 := (hX.below (bl_drew (bl_alloc (bl_refl _) _))).below hb1; have hY1 := (hY.below (bl_drew (bl_refl _))).below hb1; have hx1 := hX1.2; have hy1 := hY1.2))
        refine hK.out _ _ ?_ (fun hHeld1 => ?_)
        · go_keep
        clear hK K hHeld
        have hHeld := hHeld1
        clear hHeld1
        refine takeL 3 25 ?_ ?_ hHeld ?_
        rotate_left
        · (intro w hSw; (try dsimp only at hSw); go_simp; try with_reducible rfl)
        simp only [Act.put, puA, puB, puC]
        refine takeL 4 26 ?_ ?_ hHeld ?_
        rotate_left
        · (intro w hSw; (try dsimp only at hSw); go_simp; try with_reducible rfl)
        simp only [Act.put, puA, puB, puC]
        refine takeN 5 27 hHeld ?_
        simp only [Act.put, puA, puB, puC]
        refine takeN 6 28 hHeld ?_
        simp only [Act.put, puA, puB, puC]
        refine takeN 7 29 hHeld ?_
        simp only [Act.put, puA, puB, puC]
        refine takeN 8 30 hHeld ?_
        simp only [Act.put, puA, puB, puC]
        refine takeN 9 31 hHeld ?_
        simp only [Act.put, puA, puB, puC]
        refine takeN 10 32 hHeld ?_
        simp only [Act.put, puA, puB, puC]
        refine takeN 11 33 hHeld ?_
        simp only [Act.put, puA, puB, puC]
        refine takeN 12 34 hHeld ?_
        simp only [Act.put, puA, puB, puC]
        refine takeN 13 35 hHeld ?_
        simp only [Act.put, puA, puB, puC]
        refine takeN 14 36 hHeld ?_
        simp only [Act.put, puA, puB, puC]
        refine takeN 15 37 hHeld ?_
        simp only [Act.put, puA, puB, puC]
        refine takeN 16 38 hHeld ?_
        simp only [Act.put, puA, puB, puC]
        refine takeN 17 39 hHeld ?_
        simp only [Act.put, puA, puB, puC]
        refine takeL 18 40 ?_ ?_ hHeld ?_
        rotate_left
        · (intro w hSw; (try dsimp only at hSw); go_simp; try with_reducible rfl)
        simp only [Act.put, puA, puB, puC]
        refine wpAnyH_done (by kernel_rfl) ?_ _
        go_wp2
        go_ret
        exact ⟨ret_bool (entries_no1 hlt2 hD.out hok'), hB1⟩
    · go_wp2_with fail
      go_ret
      refine ⟨ret_bool ?_, hB⟩
      symm
      simp only [entriesB, decide_eq_true_eq]
      have : n = es.length := by omega
      exact ⟨hl, this ▸ hup⟩
end Go.Proofs.YtcgjpmhjijmplabGreatDoor
