/- The program's natMayPass and natHolders, walked. -/
import Derived.Test.YtcgjpmhjijmplabGreatDoorPass1
import Derived.Test.YtcgjpmhjijmplabGreatDoorLaws6
namespace Go.Proofs.YtcgjpmhjijmplabGreatDoor
open Go.ChangeShapes Go.WideShapes Go.ChangeAt Go.RowKit Go.Maps

noncomputable def mayIn (ad ln ow lo hi nw : Int) (ds : List Dr) (es : List En) (k a ap b bp : Int) : Int :=
  if bookB ad ln ow lo hi nw ds es = true then (if flowB k a ap b bp = true then (if comesB ad ln ow a b = true then 0 else 3) else 2) else 1
def errV (c : Int) : Value := if c = 0 then .nilIface else .iface 107 (.int .i64 c)

set_option maxHeartbeats 2000000 in
theorem mayIn_ret (ad ln ow lo hi nw : Int) (da : Option Addr) (dn dc : Nat) (ea : Option Addr) (en ec : Nat) (k a ap b bp : Int) (ds : List Dr) (es : List En) (w : World) (hD : DoorsAt w da dn ds) (hE : EntriesAt w ea en es) :
    Calls Tryz.prog 55 #[.agg #[.int .i64 ad, .int .i64 ln, .int .i64 ow, .int .i64 lo, .int .i64 hi, .slice da dn dc, .int .i64 nw, .slice ea en ec], .agg #[.int .i64 k, .int .i64 a, .int .i64 ap, .int .i64 b, .int .i64 bp], .func (.func 56) #[] #[]] w fun e w' => e = .returned (errV (mayIn ad ln ow lo hi nw ds es k a ap b bp)) ∧ Below w.heap.size w w' := by
  have hb0 := bl_alloc (bl_alloc (bl_refl w) (.cells #[.int .i64 ad, .int .i64 ln, .int .i64 ow, .int .i64 lo, .int .i64 hi, .slice da dn dc, .int .i64 nw, .slice ea en ec] 35)) (.cells #[.int .i64 k, .int .i64 a, .int .i64 ap, .int .i64 b, .int .i64 bp] 29)
  have x1 := (Box.new w #[.int .i64 ad, .int .i64 ln, .int .i64 ow, .int .i64 lo, .int .i64 hi, .slice da dn dc, .int .i64 nw, .slice ea en ec] 35).below (bl_alloc (bl_refl _) (.cells #[.int .i64 k, .int .i64 a, .int .i64 ap, .int .i64 b, .int .i64 bp] 29))
  have x2 := Box.new (w.alloc (.cells #[.int .i64 ad, .int .i64 ln, .int .i64 ow, .int .i64 lo, .int .i64 hi, .slice da dn dc, .int .i64 nw, .slice ea en ec] 35)) #[.int .i64 k, .int .i64 a, .int .i64 ap, .int .i64 b, .int .i64 bp] 29
  simp only [World.size_alloc] at x2
  have H1 : Hid (Calls Tryz.prog _ _ _ _) := implBook_ret ad ln ow lo hi nw da dn dc ea en ec ds es _ (hD.below hb0) (hE.below hb0)
  by_cases hk : bookB ad ln ow lo hi nw ds es = true
  · have hfr : frameB ad ln ow lo hi nw = true := by simp [bookB] at hk; exact hk.1.1
    obtain ⟨⟨l0, l1⟩, ⟨a0, a1⟩, _, _, _⟩ := frameB_true hfr
    go_enter Tryz.func55, Tryz.ntmps55
    go_wp2_with fail
    refine H1.out.mono ?_
    rintro e w1 ⟨rfl, hb1⟩
    have hB1 := bl_trans hb0 hb1
    have x1 := x1.below hb1
    have x2 := x2.below hb1
    have y1 := x1.2
    have y2 := x2.2
    clear hb0 hb1 H1
    by_cases hf : flowB k a ap b bp = true
    · go_wp2_with fail
      refine (implFlowOk_ret _ _ _ _ _ _).mono ?_
      rintro e w2 ⟨rfl, hb2⟩
      have hB2 := bl_trans hB1 hb2
      have x1 := x1.below hb2
      have x2 := x2.below hb2
      clear y1 y2
      have y1 := x1.2
      have y2 := x2.2
      go_wp2_with fail
      refine (comesIn_ret _ _ _ _ _ _ _ _ _ _ _ _ _ _ _ _ _ _ l0 l1 a0 a1).mono ?_
      rintro e w3 ⟨rfl, hb3⟩
      have hB3 := bl_trans hB2 hb3
      by_cases hc : comesB ad ln ow a b = true
      · go_wp2
        go_ret
        exact ⟨by simp [mayIn, errV, hk, hf, hc], hB3⟩
      · have hc' : comesB ad ln ow a b = false := by simpa using hc
        go_wp2
        go_ret
        exact ⟨by simp [mayIn, errV, hk, hf, hc'], hB3⟩
    · have hf' : flowB k a ap b bp = false := by simpa using hf
      go_wp2_with fail
      refine (implFlowOk_ret _ _ _ _ _ _).mono ?_
      rintro e w2 ⟨rfl, hb2⟩
      have hB2 := bl_trans hB1 hb2
      go_wp2
      go_ret
      exact ⟨by simp [mayIn, errV, hk, hf'], hB2⟩
  · have hk' : bookB ad ln ow lo hi nw ds es = false := by simpa using hk
    go_enter Tryz.func55, Tryz.ntmps55
    go_wp2_with fail
    refine H1.out.mono ?_
    rintro e w1 ⟨rfl, hb1⟩
    have hB1 := bl_trans hb0 hb1
    go_wp2
    go_ret
    exact ⟨by simp [mayIn, errV, hk'], hB1⟩

def holdD (d : Dr) : Value := .iface 52 (.agg #[.int .i64 d.k, .int .i64 d.o, .int .i64 d.i, .int .i64 d.p])
def holdE (d : En) : Value := .iface 55 (.agg #[.int .i64 d.k, .int .i64 d.pr, .int .i64 d.pp, .int .i64 d.o, .int .i64 d.i, .int .i64 d.ip, .int .i64 d.l])
theorem infoHo : (Tryz.prog.info? 105).map (fun i => (i.zero, i.size, i.bytes)) = some (some .nilIface, 1, 16) := by kernel_rfl
theorem take_mapD {ds : List Dr} {n : Nat} {d : Dr} (hd : ds[n]? = some d) : (ds.take (n + 1)).map holdD = (ds.take n).map holdD ++ [holdD d] := by
  rw [List.take_add_one, hd]; simp
theorem take_mapE {es : List En} {n : Nat} {d : En} (hd : es[n]? = some d) : (es.take (n + 1)).map holdE = (es.take n).map holdE ++ [holdE d] := by
  rw [List.take_add_one, hd]; simp
theorem cells1 (W : World) (n : Nat) (hn : W.heap.size = n) (u : Value) (t : TypeId) (j : Nat) (x : Value) (h : [u][j]? = some x) : (W.alloc (.cells #[u] t)).cell? (Addr.add ⟨n, 0, none⟩ j) = some x := by
  subst hn
  rw [show Addr.add ⟨W.heap.size, 0, none⟩ j = ⟨W.heap.size, j, none⟩ from addr_add0 _ _, World.cell?_alloc_new]
  simpa using h

set_option maxHeartbeats 4000000 in
theorem holders_ret (ad ln ow lo hi nw : Int) (da : Option Addr) (dn dc : Nat) (ea : Option Addr) (en ec : Nat) (ds : List Dr) (es : List En) (w : World) (hD : DoorsAt w da dn ds) (hE : EntriesAt w ea en es) (hd6 : ds.length ≤ 6) (he16 : es.length ≤ 16) :
    Calls Tryz.prog 57 #[.agg #[.int .i64 ad, .int .i64 ln, .int .i64 ow, .int .i64 lo, .int .i64 hi, .slice da dn dc, .int .i64 nw, .slice ea en ec]] w fun e w' => (∃ v, e = .returned v ∧ w'.ownsRow (w.heap.size + 1) 105 1 v (ds.length + es.length) (ds.map holdD ++ es.map holdE)) ∧ Below w.heap.size w w' := by
  obtain ⟨i0, hi0, hz0, hz1, hz2⟩ := info_parts infoHo
  obtain ⟨rfl, hD⟩ := hD
  obtain ⟨rfl, hE⟩ := hE
  go_enter Tryz.func57, Tryz.ntmps57
  go_wp2_with fail
  go_loopg [3, 11] ds.length (fun g v i wr => ∃ n : Nat, g = ds.length - n ∧ n ≤ ds.length ∧ i = .int .i64 n ∧ wr.ownsRow (w.heap.size + 1) 105 1 v n ((ds.take n).map holdD) ∧ Below w.heap.size w wr ∧ Box wr w.heap.size #[.int .i64 ad, .int .i64 ln, .int .i64 ow, .int .i64 lo, .int .i64 hi, .slice da ds.length dc, .int .i64 nw, .slice ea es.length ec])
  case atStart => exact ⟨0, by omega, by omega, rfl, World.ownsRow_nil _ _ _ _, bl_alloc (bl_refl _) _, Box.new _ _ _⟩
  case round =>
    obtain ⟨n, hg, hn, rfl, hown, hB, hX⟩ := hrel
    obtain ⟨hsz, hbox⟩ := id hX
    by_cases hlt2 : n < ds.length
    · rcases hD with rfl | ⟨b, o, rfl, hlt, hc⟩
      · simp at hlt2
      · obtain ⟨d, hd⟩ : ∃ d, ds[n]? = some d := ⟨ds[n], by simp [hlt2]⟩
        obtain ⟨c0, c1, c2, c3⟩ := hc.below hB hlt n d hd
        have hDd : Hid (ds[n]? = some d) := hd
        clear hd
        have hb2 : b < wr.heap.size := by have := hB.size; omega
        have hownA := ownsRow_bl hown (bl_alloc (bl_refl wr) (.cells #[.int .i64 d.k, .int .i64 d.o, .int .i64 d.i, .int .i64 d.p] 52))
        clear hE
        go_wp2_with (at_builtin; refine wpList_append_own _ rfl _ _ 102 rfl (w.heap.size + 1) 105 i0 .nilIface 1 16 Tryz.underlying102 hi0 hz0 hz1 hz2 rfl (by decide) _ _ _ rfl (ownsRow_bl hownA (bl_alloc (bl_refl _) (.cells #[holdD d] 105))) ⟨wr.heap.size + 1, 0, none⟩ 1 1 [holdD d] rfl rfl (fun j u h => cells1 (wr.alloc (.cells #[.int .i64 d.k, .int .i64 d.o, .int .i64 d.i, .int .i64 d.p] 52)) _ (by simp) (holdD d) 105 j u h) (by intro u hu; simp at hu; subst hu; rfl) (by unfold maxLen; omega) (by omega) (by simp; omega) ?_; intro v' w2 hown2 hgrow2 hnil2)
        have hz3 := hgrow2.size
        simp only [World.size_alloc] at hz3
        go_roundg (ds.length - (n + 1))
        case measure => omega
        case rel =>
          refine ⟨n + 1, rfl, by omega, by go_num, ?_, (bl_alloc (bl_alloc hB _) _).grown hgrow2 (by have := hB.size; simp; omega) (fun k hk => by have := (hownA.lt _ hk).1; omega), ((hX.below (bl_alloc (bl_refl _) _)).below (bl_alloc (bl_refl _) _)).grown hgrow2 (fun k hk => by have := (hownA.lt _ hk).1; omega)⟩
          rw [take_mapD hDd.out]
          exact hown2
    · have hne : n = ds.length := by omega
      subst hne
      rw [List.take_length] at hown
      go_wp2_with fail
      go_loopg [3, 24] es.length (fun g v i wr => ∃ m : Nat, g = es.length - m ∧ m ≤ es.length ∧ i = .int .i64 m ∧ wr.ownsRow (w.heap.size + 1) 105 1 v (ds.length + m) (ds.map holdD ++ (es.take m).map holdE) ∧ Below w.heap.size w wr ∧ Box wr w.heap.size #[.int .i64 ad, .int .i64 ln, .int .i64 ow, .int .i64 lo, .int .i64 hi, .slice da ds.length dc, .int .i64 nw, .slice ea es.length ec])
      case atStart => exact ⟨0, by omega, by omega, rfl, by simpa using hown, hB, hX⟩
      case round =>
        clear hown hB hX hsz hbox hD
        obtain ⟨m, hgm, hm, rfl, hown, hB, hX⟩ := hrel
        obtain ⟨hsz, hbox⟩ := id hX
        by_cases hlm : m < es.length
        · rcases hE with rfl | ⟨b, o, rfl, hlt, hc⟩
          · simp at hlm
          · obtain ⟨d, hd⟩ : ∃ d, es[m]? = some d := ⟨es[m], by simp [hlm]⟩
            obtain ⟨c0, c1, c2, c3, c4, c5, c6⟩ := hc.below hB hlt m d hd
            have hDd : Hid (es[m]? = some d) := hd
            clear hd
            have hb2 : b < wr.heap.size := by have := hB.size; omega
            have hownA := ownsRow_bl hown (bl_alloc (bl_refl wr) (.cells #[.int .i64 d.k, .int .i64 d.pr, .int .i64 d.pp, .int .i64 d.o, .int .i64 d.i, .int .i64 d.ip, .int .i64 d.l] 55))
            go_wp2_with (at_builtin; refine wpList_append_own _ rfl _ _ 102 rfl (w.heap.size + 1) 105 i0 .nilIface 1 16 Tryz.underlying102 hi0 hz0 hz1 hz2 rfl (by decide) _ _ _ rfl (ownsRow_bl hownA (bl_alloc (bl_refl _) (.cells #[holdE d] 105))) ⟨wr.heap.size + 1, 0, none⟩ 1 1 [holdE d] rfl rfl (fun j u h => cells1 (wr.alloc (.cells #[.int .i64 d.k, .int .i64 d.pr, .int .i64 d.pp, .int .i64 d.o, .int .i64 d.i, .int .i64 d.ip, .int .i64 d.l] 55)) _ (by simp) (holdE d) 105 j u h) (by intro u hu; simp at hu; subst hu; rfl) (by unfold maxLen; omega) (by omega) (by simp; omega) ?_; intro v' w2 hown2 hgrow2 hnil2)
            have hz3 := hgrow2.size
            simp only [World.size_alloc] at hz3
            go_roundg (es.length - (m + 1))
            case measure => omega
            case rel =>
              refine ⟨m + 1, rfl, by omega, by go_num, ?_, (bl_alloc (bl_alloc hB _) _).grown hgrow2 (by have := hB.size; simp; omega) (fun k hk => by have := (hownA.lt _ hk).1; omega), ((hX.below (bl_alloc (bl_refl _) _)).below (bl_alloc (bl_refl _) _)).grown hgrow2 (fun k hk => by have := (hownA.lt _ hk).1; omega)⟩
              rw [take_mapE hDd.out, ← List.append_assoc]
              exact hown2
        · have hne : m = es.length := by omega
          subst hne
          rw [List.take_length] at hown
          go_wp2_with fail
          go_ret
          exact ⟨⟨_, rfl, hown⟩, hB⟩
end Go.Proofs.YtcgjpmhjijmplabGreatDoor
