/- Joined: Pass2, Pass3, Pass4. -/
import Derived.Test.YtcgjpmhjijmplaaGreatDoorPass1
import Derived.Test.YtcgjpmhjijmplaaGreatDoorBook
/- The program's natMayPass and natHolders, walked. -/
namespace Go.Proofs.YtcgjpmhjijmplaaGreatDoor
open Go.ChangeShapes Go.WideShapes Go.ChangeAt Go.RowKit Go.Maps

noncomputable def mayIn (ad ln ow lo hi nw : Int) (ds : List Dr) (es : List En) (k a ap b bp : Int) : Int :=
  if bookB ad ln ow lo hi nw ds es = true then (if flowB k a ap b bp = true then (if comesB ad ln ow a b = true then 0 else 3) else 2) else 1
def errV (c : Int) : Value := if c = 0 then .nilIface else .iface 133 (.int .i64 c)

set_option maxHeartbeats 2000000 in
theorem mayIn_ret (ad ln ow lo hi nw : Int) (da : Option Addr) (dn dc : Nat) (ea : Option Addr) (en ec : Nat) (k a ap b bp : Int) (ds : List Dr) (es : List En) (w : World) (hD : DoorsAt w da dn ds) (hE : EntriesAt w ea en es) :
    Calls Tryz.prog 96 #[.agg #[.int .i64 ad, .int .i64 ln, .int .i64 ow, .int .i64 lo, .int .i64 hi, .slice da dn dc, .int .i64 nw, .slice ea en ec], .agg #[.int .i64 k, .int .i64 a, .int .i64 ap, .int .i64 b, .int .i64 bp], .func (.func 106) #[] #[]] w fun e w' => e = .returned (errV (mayIn ad ln ow lo hi nw ds es k a ap b bp)) ∧ Below w.heap.size w w' := by
  have hb0 := bl_alloc (bl_alloc (bl_refl w) (.cells #[.int .i64 ad, .int .i64 ln, .int .i64 ow, .int .i64 lo, .int .i64 hi, .slice da dn dc, .int .i64 nw, .slice ea en ec] 26)) (.cells #[.int .i64 k, .int .i64 a, .int .i64 ap, .int .i64 b, .int .i64 bp] 32)
  have x1 := (Box.new w #[.int .i64 ad, .int .i64 ln, .int .i64 ow, .int .i64 lo, .int .i64 hi, .slice da dn dc, .int .i64 nw, .slice ea en ec] 26).below (bl_alloc (bl_refl _) (.cells #[.int .i64 k, .int .i64 a, .int .i64 ap, .int .i64 b, .int .i64 bp] 32))
  have x2 := Box.new (w.alloc (.cells #[.int .i64 ad, .int .i64 ln, .int .i64 ow, .int .i64 lo, .int .i64 hi, .slice da dn dc, .int .i64 nw, .slice ea en ec] 26)) #[.int .i64 k, .int .i64 a, .int .i64 ap, .int .i64 b, .int .i64 bp] 32
  simp only [World.size_alloc] at x2
  have H1 : Hid (Calls Tryz.prog _ _ _ _) := implBook_ret ad ln ow lo hi nw da dn dc ea en ec ds es _ (hD.below hb0) (hE.below hb0)
  by_cases hk : bookB ad ln ow lo hi nw ds es = true
  · have hfr : frameB ad ln ow lo hi nw = true := by simp [bookB] at hk; exact hk.1.1
    obtain ⟨⟨l0, l1⟩, ⟨a0, a1⟩, _, _, _⟩ := frameB_true hfr
    go_enter Tryz.func96, Tryz.ntmps96
    go_wp2_with fail
    refine H1.out.mono ?_
    rintro e w1 ⟨rfl, hb1⟩
    have hB1 := bl_trans hb0 hb1
    have x1 := x1.below hb1
    have x2 := x2.below hb1
    have y1 := x1.2
    have y2 := x2.2
    clear hb0 hb1 H1
    by_cases hf : flowB k a ap b bp = true
    · go_wp2_with fail
      refine (implFlowOk_ret _ _ _ _ _ _).mono ?_
      rintro e w2 ⟨rfl, hb2⟩
      have hB2 := bl_trans hB1 hb2
      have x1 := x1.below hb2
      have x2 := x2.below hb2
      clear y1 y2
      have y1 := x1.2
      have y2 := x2.2
      go_wp2_with fail
      refine (comesIn_ret _ _ _ _ _ _ _ _ _ _ _ _ _ _ _ _ _ _ l0 l1 a0 a1).mono ?_
      rintro e w3 ⟨rfl, hb3⟩
      have hB3 := bl_trans hB2 hb3
      by_cases hc : comesB ad ln ow a b = true
      · go_wp2
        go_ret
        exact ⟨by simp [mayIn, errV, hk, hf, hc], hB3⟩
      · have hc' : comesB ad ln ow a b = false := by simpa using hc
        go_wp2
        go_ret
        exact ⟨by simp [mayIn, errV, hk, hf, hc'], hB3⟩
    · have hf' : flowB k a ap b bp = false := by simpa using hf
      go_wp2_with fail
      refine (implFlowOk_ret _ _ _ _ _ _).mono ?_
      rintro e w2 ⟨rfl, hb2⟩
      have hB2 := bl_trans hB1 hb2
      go_wp2
      go_ret
      exact ⟨by simp [mayIn, errV, hk, hf'], hB2⟩
  · have hk' : bookB ad ln ow lo hi nw ds es = false := by simpa using hk
    go_enter Tryz.func96, Tryz.ntmps96
    go_wp2_with fail
    refine H1.out.mono ?_
    rintro e w1 ⟨rfl, hb1⟩
    have hB1 := bl_trans hb0 hb1
    go_wp2
    go_ret
    exact ⟨by simp [mayIn, errV, hk'], hB1⟩

def holdD (d : Dr) : Value := .iface 85 (.agg #[.int .i64 d.k, .int .i64 d.o, .int .i64 d.i, .int .i64 d.p])
def holdE (d : En) : Value := .iface 52 (.agg #[.int .i64 d.k, .int .i64 d.pr, .int .i64 d.pp, .int .i64 d.o, .int .i64 d.i, .int .i64 d.ip, .int .i64 d.l])
theorem infoHo : (Tryz.prog.info? 140).map (fun i => (i.zero, i.size, i.bytes)) = some (some .nilIface, 1, 16) := by kernel_rfl
theorem take_mapD {ds : List Dr} {n : Nat} {d : Dr} (hd : ds[n]? = some d) : (ds.take (n + 1)).map holdD = (ds.take n).map holdD ++ [holdD d] := by
  rw [List.take_add_one, hd]; simp
theorem take_mapE {es : List En} {n : Nat} {d : En} (hd : es[n]? = some d) : (es.take (n + 1)).map holdE = (es.take n).map holdE ++ [holdE d] := by
  rw [List.take_add_one, hd]; simp
theorem cells1 (W : World) (n : Nat) (hn : W.heap.size = n) (u : Value) (t : TypeId) (j : Nat) (x : Value) (h : [u][j]? = some x) : (W.alloc (.cells #[u] t)).cell? (Addr.add ⟨n, 0, none⟩ j) = some x := by
  subst hn
  rw [show Addr.add ⟨W.heap.size, 0, none⟩ j = ⟨W.heap.size, j, none⟩ from addr_add0 _ _, World.cell?_alloc_new]
  simpa using h

set_option maxHeartbeats 4000000 in
theorem holders_ret (ad ln ow lo hi nw : Int) (da : Option Addr) (dn dc : Nat) (ea : Option Addr) (en ec : Nat) (ds : List Dr) (es : List En) (w : World) (hD : DoorsAt w da dn ds) (hE : EntriesAt w ea en es) (hd6 : ds.length ≤ 6) (he16 : es.length ≤ 16) :
    Calls Tryz.prog 98 #[.agg #[.int .i64 ad, .int .i64 ln, .int .i64 ow, .int .i64 lo, .int .i64 hi, .slice da dn dc, .int .i64 nw, .slice ea en ec]] w fun e w' => (∃ v, e = .returned v ∧ w'.ownsRow (w.heap.size + 1) 140 1 v (ds.length + es.length) (ds.map holdD ++ es.map holdE)) ∧ Below w.heap.size w w' := by
  obtain ⟨i0, hi0, hz0, hz1, hz2⟩ := info_parts infoHo
  obtain ⟨rfl, hD⟩ := hD
  obtain ⟨rfl, hE⟩ := hE
  go_enter Tryz.func98, Tryz.ntmps98
  go_wp2_with fail
  go_loopg [3, 11] ds.length (fun g v i wr => ∃ n : Nat, g = ds.length - n ∧ n ≤ ds.length ∧ i = .int .i64 n ∧ wr.ownsRow (w.heap.size + 1) 140 1 v n ((ds.take n).map holdD) ∧ Below w.heap.size w wr ∧ Box wr w.heap.size #[.int .i64 ad, .int .i64 ln, .int .i64 ow, .int .i64 lo, .int .i64 hi, .slice da ds.length dc, .int .i64 nw, .slice ea es.length ec])
  case atStart => exact ⟨0, by omega, by omega, rfl, World.ownsRow_nil _ _ _ _, bl_alloc (bl_refl _) _, Box.new _ _ _⟩
  case round =>
    obtain ⟨n, hg, hn, rfl, hown, hB, hX⟩ := hrel
    obtain ⟨hsz, hbox⟩ := id hX
    by_cases hlt2 : n < ds.length
    · rcases hD with rfl | ⟨b, o, rfl, hlt, hc⟩
      · simp at hlt2
      · obtain ⟨d, hd⟩ : ∃ d, ds[n]? = some d := ⟨ds[n], by simp [hlt2]⟩
        obtain ⟨c0, c1, c2, c3⟩ := hc.below hB hlt n d hd
        have hDd : Hid (ds[n]? = some d) := hd
        clear hd
        have hb2 : b < wr.heap.size := by have := hB.size; omega
        have hownA := ownsRow_bl hown (bl_alloc (bl_refl wr) (.cells #[.int .i64 d.k, .int .i64 d.o, .int .i64 d.i, .int .i64 d.p] 85))
        clear hE
        go_wp2_with (at_builtin; refine wpList_append_own _ rfl _ _ 137 rfl (w.heap.size + 1) 140 i0 .nilIface 1 16 Tryz.underlying137 hi0 hz0 hz1 hz2 rfl (by decide) _ _ _ rfl (ownsRow_bl hownA (bl_alloc (bl_refl _) (.cells #[holdD d] 140))) ⟨wr.heap.size + 1, 0, none⟩ 1 1 [holdD d] rfl rfl (fun j u h => cells1 (wr.alloc (.cells #[.int .i64 d.k, .int .i64 d.o, .int .i64 d.i, .int .i64 d.p] 85)) _ (by simp) (holdD d) 140 j u h) (by intro u hu; simp at hu; subst hu; rfl) (by unfold maxLen; omega) (by omega) (by simp; omega) ?_; intro v' w2 hown2 hgrow2 hnil2)
        have hz3 := hgrow2.size
        simp only [World.size_alloc] at hz3
        go_roundg (ds.length - (n + 1))
        case measure => omega
        case rel =>
          refine ⟨n + 1, rfl, by omega, by go_num, ?_, (bl_alloc (bl_alloc hB _) _).grown hgrow2 (by have := hB.size; simp; omega) (fun k hk => by have := (hownA.lt _ hk).1; omega), ((hX.below (bl_alloc (bl_refl _) _)).below (bl_alloc (bl_refl _) _)).grown hgrow2 (fun k hk => by have := (hownA.lt _ hk).1; omega)⟩
          rw [take_mapD hDd.out]
          exact hown2
    · have hne : n = ds.length := by omega
      subst hne
      rw [List.take_length] at hown
      go_wp2_with fail
      go_loopg [3, 24] es.length (fun g v i wr => ∃ m : Nat, g = es.length - m ∧ m ≤ es.length ∧ i = .int .i64 m ∧ wr.ownsRow (w.heap.size + 1) 140 1 v (ds.length + m) (ds.map holdD ++ (es.take m).map holdE) ∧ Below w.heap.size w wr ∧ Box wr w.heap.size #[.int .i64 ad, .int .i64 ln, .int .i64 ow, .int .i64 lo, .int .i64 hi, .slice da ds.length dc, .int .i64 nw, .slice ea es.length ec])
      case atStart => exact ⟨0, by omega, by omega, rfl, by simpa using hown, hB, hX⟩
      case round =>
        clear hown hB hX hsz hbox hD
        obtain ⟨m, hgm, hm, rfl, hown, hB, hX⟩ := hrel
        obtain ⟨hsz, hbox⟩ := id hX
        by_cases hlm : m < es.length
        · rcases hE with rfl | ⟨b, o, rfl, hlt, hc⟩
          · simp at hlm
          · obtain ⟨d, hd⟩ : ∃ d, es[m]? = some d := ⟨es[m], by simp [hlm]⟩
            obtain ⟨c0, c1, c2, c3, c4, c5, c6⟩ := hc.below hB hlt m d hd
            have hDd : Hid (es[m]? = some d) := hd
            clear hd
            have hb2 : b < wr.heap.size := by have := hB.size; omega
            have hownA := ownsRow_bl hown (bl_alloc (bl_refl wr) (.cells #[.int .i64 d.k, .int .i64 d.pr, .int .i64 d.pp, .int .i64 d.o, .int .i64 d.i, .int .i64 d.ip, .int .i64 d.l] 52))
            go_wp2_with (at_builtin; refine wpList_append_own _ rfl _ _ 137 rfl (w.heap.size + 1) 140 i0 .nilIface 1 16 Tryz.underlying137 hi0 hz0 hz1 hz2 rfl (by decide) _ _ _ rfl (ownsRow_bl hownA (bl_alloc (bl_refl _) (.cells #[holdE d] 140))) ⟨wr.heap.size + 1, 0, none⟩ 1 1 [holdE d] rfl rfl (fun j u h => cells1 (wr.alloc (.cells #[.int .i64 d.k, .int .i64 d.pr, .int .i64 d.pp, .int .i64 d.o, .int .i64 d.i, .int .i64 d.ip, .int .i64 d.l] 52)) _ (by simp) (holdE d) 140 j u h) (by intro u hu; simp at hu; subst hu; rfl) (by unfold maxLen; omega) (by omega) (by simp; omega) ?_; intro v' w2 hown2 hgrow2 hnil2)
            have hz3 := hgrow2.size
            simp only [World.size_alloc] at hz3
            go_roundg (es.length - (m + 1))
            case measure => omega
            case rel =>
              refine ⟨m + 1, rfl, by omega, by go_num, ?_, (bl_alloc (bl_alloc hB _) _).grown hgrow2 (by have := hB.size; simp; omega) (fun k hk => by have := (hownA.lt _ hk).1; omega), ((hX.below (bl_alloc (bl_refl _) _)).below (bl_alloc (bl_refl _) _)).grown hgrow2 (fun k hk => by have := (hownA.lt _ hk).1; omega)⟩
              rw [take_mapE hDd.out, ← List.append_assoc]
              exact hown2
        · have hne : m = es.length := by omega
          subst hne
          rw [List.take_length] at hown
          go_wp2_with fail
          go_ret
          exact ⟨⟨_, rfl, hown⟩, hB⟩
end Go.Proofs.YtcgjpmhjijmplaaGreatDoor

/- The program's natReceive and NatIn, walked. -/
namespace Go.Proofs.YtcgjpmhjijmplaaGreatDoor
open Go.ChangeShapes Go.WideShapes Go.ChangeAt Go.RowKit Go.Maps

def takesD (k bp : Int) (d : Dr) : Bool := d.k == k && d.o == bp
def recvO (nw ow : Int) (ds : List Dr) (es : List En) (k a ap b bp : Int) : Option (Int × Int × Int) :=
  match ds.find? (takesD k bp) with
  | some d => some (d.k, d.i, d.p)
  | none => (es.find? (takesE nw ow k a ap b bp)).map fun d => (d.k, d.i, d.ip)
noncomputable def inCode (ad ln ow lo hi nw : Int) (ds : List Dr) (es : List En) (k a ap b bp : Int) : Int :=
  if mayIn ad ln ow lo hi nw ds es k a ap b bp = 0 then (if (recvO nw ow ds es k a ap b bp).isSome = true then 0 else 6) else mayIn ad ln ow lo hi nw ds es k a ap b bp
noncomputable def inSeat (ad ln ow lo hi nw : Int) (ds : List Dr) (es : List En) (k a ap b bp : Int) : Int × Int × Int :=
  if mayIn ad ln ow lo hi nw ds es k a ap b bp = 0 then (recvO nw ow ds es k a ap b bp).getD (0, 0, 0) else (0, 0, 0)
theorem find_at {α : Type} {p : α → Bool} {xs : List α} {n : Nat} {x : α} (hx : xs[n]? = some x) (hp : p x = true) (hb : ∀ j y, j < n → xs[j]? = some y → p y = false) : xs.find? p = some x := by
  induction xs generalizing n with
  | nil => simp at hx
  | cons z zs ih =>
    cases n with
    | zero => simp at hx; subst hx; simp [hp]
    | succ n =>
      have h0 := hb 0 z (by omega) (by simp)
      simp only [List.find?_cons, h0]
      exact ih (by simpa using hx) (fun j y hj hy => hb (j + 1) y (by omega) (by simpa using hy))
theorem find_no {α : Type} {p : α → Bool} {xs : List α} (hb : ∀ (j : Nat) y, xs[j]? = some y → p y = false) : xs.find? p = none := by
  rw [List.find?_eq_none]
  intro x hx
  obtain ⟨j, hj⟩ := List.mem_iff_getElem?.1 hx
  rw [hb j x hj]; simp
theorem mayIn_book {ad ln ow lo hi nw : Int} {ds : List Dr} {es : List En} {k a ap b bp : Int} (h : mayIn ad ln ow lo hi nw ds es k a ap b bp = 0) : bookB ad ln ow lo hi nw ds es = true ∧ flowB k a ap b bp = true ∧ comesB ad ln ow a b = true := by
  unfold mayIn at h
  by_cases h1 : bookB ad ln ow lo hi nw ds es = true
  · by_cases h2 : flowB k a ap b bp = true
    · by_cases h3 : comesB ad ln ow a b = true
      · exact ⟨h1, h2, h3⟩
      · simp [h1, h2, h3] at h
    · simp [h1, h2] at h
  · simp [h1] at h
theorem book_parts {ad ln ow lo hi nw : Int} {ds : List Dr} {es : List En} (h : bookB ad ln ow lo hi nw ds es = true) : (0 ≤ nw ∧ nw ≤ 1000000) ∧ ds.length ≤ 6 ∧ es.length ≤ 16 ∧ ∀ (i : Nat) d, es[i]? = some d → 0 ≤ d.l ∧ d.l ≤ nw := by
  simp only [bookB, Bool.and_eq_true] at h
  obtain ⟨⟨hf, hd⟩, he⟩ := h
  obtain ⟨_, _, _, _, hn⟩ := frameB_true hf
  simp only [doorsB, decide_eq_true_eq] at hd
  simp only [entriesB, decide_eq_true_eq] at he
  refine ⟨hn, hd.1, he.1, fun i d hi => ?_⟩
  have := (he.2 i d (get_lt hi) hi).1
  simp only [entryB, eokB, Bool.and_eq_true] at this
  exact inB_true this.1.2
theorem doorTakes_v (ad ln ow lo hi nw : Int) (da : Option Addr) (dn dc : Nat) (ea : Option Addr) (en ec : Nat) (d : Dr) (k a ap b bp : Int) (r : Bool) (w : World) (hr : takesD k bp d = r) : Calls Tryz.prog 218 #[.agg #[.int .i64 d.k, .int .i64 d.o, .int .i64 d.i, .int .i64 d.p], .agg #[.int .i64 ad, .int .i64 ln, .int .i64 ow, .int .i64 lo, .int .i64 hi, .slice da dn dc, .int .i64 nw, .slice ea en ec], .agg #[.int .i64 k, .int .i64 a, .int .i64 ap, .int .i64 b, .int .i64 bp]] w fun e w' => e = .returned (.bool r) ∧ Below w.heap.size w w' := by
  subst hr; exact doorTakes_ret ad ln ow lo hi nw da dn dc ea en ec d k a ap b bp w
theorem entryTakes_v (ad ln ow lo hi nw : Int) (da : Option Addr) (dn dc : Nat) (ea : Option Addr) (en ec : Nat) (d : En) (k a ap b bp : Int) (r : Bool) (w : World) (n0 : 0 ≤ nw) (n1 : nw ≤ 1000000) (q0 : 0 ≤ d.l) (q1 : d.l ≤ nw) (hr : takesE nw ow k a ap b bp d = r) : Calls Tryz.prog 215 #[.agg #[.int .i64 d.k, .int .i64 d.pr, .int .i64 d.pp, .int .i64 d.o, .int .i64 d.i, .int .i64 d.ip, .int .i64 d.l], .agg #[.int .i64 ad, .int .i64 ln, .int .i64 ow, .int .i64 lo, .int .i64 hi, .slice da dn dc, .int .i64 nw, .slice ea en ec], .agg #[.int .i64 k, .int .i64 a, .int .i64 ap, .int .i64 b, .int .i64 bp]] w fun e w' => e = .returned (.bool r) ∧ Below w.heap.size w w' := by
  subst hr; exact entryTakes_ret ad ln ow lo hi nw da dn dc ea en ec d k a ap b bp w n0 n1 q0 q1
theorem recv_door {nw ow : Int} {ds : List Dr} {es : List En} {k a ap b bp : Int} {d : Dr} (h : ds.find? (takesD k bp) = some d) : recvO nw ow ds es k a ap b bp = some (d.k, d.i, d.p) := by simp [recvO, h]
theorem recv_entry {nw ow : Int} {ds : List Dr} {es : List En} {k a ap b bp : Int} {d : En} (h0 : ds.find? (takesD k bp) = none) (h : es.find? (takesE nw ow k a ap b bp) = some d) : recvO nw ow ds es k a ap b bp = some (d.k, d.i, d.ip) := by simp [recvO, h0, h]
theorem recv_none {nw ow : Int} {ds : List Dr} {es : List En} {k a ap b bp : Int} (h0 : ds.find? (takesD k bp) = none) (h : es.find? (takesE nw ow k a ap b bp) = none) : recvO nw ow ds es k a ap b bp = none := by simp [recvO, h0, h]
theorem methTakesD (v : Value) (w : World) : (Go.method 363 85 v "loop.example/ternnat/impl.takes").run Tryz.prog w = .ok (218, v) w := by kernel_rfl
theorem methTakesE (v : Value) (w : World) : (Go.method 363 52 v "loop.example/ternnat/impl.takes").run Tryz.prog w = .ok (215, v) w := by kernel_rfl
theorem methSeatD (v : Value) (w : World) : (Go.method 363 85 v "loop.example/ternnat/impl.seat").run Tryz.prog w = .ok (151, v) w := by kernel_rfl
theorem methSeatE (v : Value) (w : World) : (Go.method 363 52 v "loop.example/ternnat/impl.seat").run Tryz.prog w = .ok (213, v) w := by kernel_rfl
theorem own_cell {w : World} {base g n cap : Nat} {e : TypeId} {xs : List Value} (h : w.ownsRow base e 1 (.slice (some ⟨g, 0, none⟩) n cap) n xs) (j : Nat) (x : Value) (hx : xs[j]? = some x) : w.cell? ⟨g, j, none⟩ = some x := by
  have := h.cells (g := g) rfl j x hx
  rwa [addr_add0] at this

theorem Bx.set3 {w : World} {n : Nat} {x0 x1 x2 : Value} (h : Bx w n #[x0, x1, x2]) (a b c : Value) : Bx (((w.setCell ⟨n, 0, none⟩ a).setCell ⟨n, 1, none⟩ b).setCell ⟨n, 2, none⟩ c) n #[a, b, c] := by
  have h : Bx (w.setCell ⟨n, 0, none⟩ a) n #[a, x1, x2] := h.set (j := 0) (by simp) a
  have h := h.set (j := 1) (by simp) b
  have h := h.set (j := 2) (by simp) c
  exact h
theorem bl_set3 {w0 w : World} (h : Below w0.heap.size w0 w) {n : Nat} (hn : w0.heap.size ≤ n) (a b c : Value) : Below w0.heap.size w0 (((w.setCell ⟨n, 0, none⟩ a).setCell ⟨n, 1, none⟩ b).setCell ⟨n, 2, none⟩ c) :=
  bl_set (bl_set (bl_set h hn a) hn b) hn c

set_option maxRecDepth 20000 in
set_option maxHeartbeats 4000000 in
theorem receive_ret (ad ln ow lo hi nw : Int) (da : Option Addr) (dn dc : Nat) (ea : Option Addr) (en ec : Nat) (k a ap b bp : Int) (ds : List Dr) (es : List En) (w : World) (hD : DoorsAt w da dn ds) (hE : EntriesAt w ea en es) :
    Calls Tryz.prog 57 #[.agg #[.int .i64 ad, .int .i64 ln, .int .i64 ow, .int .i64 lo, .int .i64 hi, .slice da dn dc, .int .i64 nw, .slice ea en ec], .agg #[.int .i64 k, .int .i64 a, .int .i64 ap, .int .i64 b, .int .i64 bp]] w fun e w' => e = .returned (.tuple #[.agg #[.int .i64 (inSeat ad ln ow lo hi nw ds es k a ap b bp).1, .int .i64 (inSeat ad ln ow lo hi nw ds es k a ap b bp).2.1, .int .i64 (inSeat ad ln ow lo hi nw ds es k a ap b bp).2.2], errV (inCode ad ln ow lo hi nw ds es k a ap b bp)]) ∧ Below w.heap.size w w' := by
  have hb0 := bl_alloc (bl_alloc (bl_alloc (bl_refl w) (.cells #[.int .i64 ad, .int .i64 ln, .int .i64 ow, .int .i64 lo, .int .i64 hi, .slice da dn dc, .int .i64 nw, .slice ea en ec] 26)) (.cells #[.int .i64 k, .int .i64 a, .int .i64 ap, .int .i64 b, .int .i64 bp] 32)) (.cells #[.int .i64 0, .int .i64 0, .int .i64 0] 88)
  have x1 := ((Box.new w #[.int .i64 ad, .int .i64 ln, .int .i64 ow, .int .i64 lo, .int .i64 hi, .slice da dn dc, .int .i64 nw, .slice ea en ec] 26).below (bl_alloc (bl_refl _) (.cells #[.int .i64 k, .int .i64 a, .int .i64 ap, .int .i64 b, .int .i64 bp] 32))).below (bl_alloc (bl_refl _) (.cells #[.int .i64 0, .int .i64 0, .int .i64 0] 88))
  have x2 := (Box.new (w.alloc (.cells #[.int .i64 ad, .int .i64 ln, .int .i64 ow, .int .i64 lo, .int .i64 hi, .slice da dn dc, .int .i64 nw, .slice ea en ec] 26)) #[.int .i64 k, .int .i64 a, .int .i64 ap, .int .i64 b, .int .i64 bp] 32).below (bl_alloc (bl_refl _) (.cells #[.int .i64 0, .int .i64 0, .int .i64 0] 88))
  have bx := Bx.new ((w.alloc (.cells #[.int .i64 ad, .int .i64 ln, .int .i64 ow, .int .i64 lo, .int .i64 hi, .slice da dn dc, .int .i64 nw, .slice ea en ec] 26)).alloc (.cells #[.int .i64 k, .int .i64 a, .int .i64 ap, .int .i64 b, .int .i64 bp] 32)) #[.int .i64 0, .int .i64 0, .int .i64 0] 88
  simp only [World.size_alloc] at x2 bx
  have H1 : Hid (Calls Tryz.prog _ _ _ _) := mayIn_ret ad ln ow lo hi nw da dn dc ea en ec k a ap b bp ds es _ (hD.below hb0) (hE.below hb0)
  by_cases hm : mayIn ad ln ow lo hi nw ds es k a ap b bp = 0
  · obtain ⟨hbk, _, _⟩ := mayIn_book hm
    obtain ⟨⟨n0, n1⟩, hd6, he16, hla⟩ := book_parts hbk
    have hC0 : inCode ad ln ow lo hi nw ds es k a ap b bp = if (recvO nw ow ds es k a ap b bp).isSome = true then 0 else 6 := by simp [inCode, hm]
    have hS0 : inSeat ad ln ow lo hi nw ds es k a ap b bp = (recvO nw ow ds es k a ap b bp).getD (0, 0, 0) := by simp [inSeat, hm]
    have hCC : Hid (inCode ad ln ow lo hi nw ds es k a ap b bp = if (recvO nw ow ds es k a ap b bp).isSome = true then 0 else 6) := hC0
    have hSS : Hid (inSeat ad ln ow lo hi nw ds es k a ap b bp = (recvO nw ow ds es k a ap b bp).getD (0, 0, 0)) := hS0
    clear hC0 hS0
    rw [hm] at H1
    have H1 : Hid (Calls Tryz.prog _ _ _ fun e w' => e = .returned .nilIface ∧ _) := H1
    clear hbk
    go_enter Tryz.func57, Tryz.ntmps57
    go_wp2_with fail
    refine H1.out.mono ?_
    rintro e w1 ⟨rfl, hb1⟩
    have hB1 := bl_trans hb0 hb1
    have x1 := x1.below hb1
    have x2 := x2.below hb1
    have bx := bx.below hb1
    have y1 := x1.2
    have H2 : Hid (Calls Tryz.prog _ _ _ _) := holders_ret ad ln ow lo hi nw da dn dc ea en ec ds es w1 (hD.below hB1) (hE.below hB1) hd6 he16
    clear H1 hb0 hb1
    go_wp2_with fail
    refine H2.out.mono ?_
    rintro e w2 ⟨⟨v, rfl, hown⟩, hb2⟩
    have hB2 := bl_trans hB1 hb2
    have x1 := x1.below hb2
    have x2 := x2.below hb2
    have bx := bx.below hb2
    clear H2 y1 hB1
    have hl2 : w.heap.size + 1 + 1 < w2.heap.size := bx.1.1
    generalize hT : ds.length + es.length = T at hown
    have hT : Hid (ds.length + es.length = T) := hT
    have hTs : T ≤ 22 := by have := hT.out; omega
    rcases hown.2 with ⟨rfl, h0⟩ | ⟨g, cap, cur, rfl, hg0, hg1, hrest⟩
    · subst h0
      have hd0 : ds = [] := List.eq_nil_of_length_eq_zero (by have := hT.out; omega)
      have he0 : es = [] := List.eq_nil_of_length_eq_zero (by have := hT.out; omega)
      subst hd0
      subst he0
      go_wp2_with fail
      go_loopg [19] 0 (fun _ i wr => i = .int .i64 0 ∧ Below w.heap.size w wr ∧ Below w2.heap.size w2 wr)
      case atStart => exact ⟨rfl, hB2, bl_refl _⟩
      case round =>
        obtain ⟨rfl, hB, hC⟩ := hrel
        have bx := bx.below hC
        obtain ⟨⟨q1, q2⟩, q3⟩ := id bx
        go_wp2_with fail
        have hbv := bx.set3 (.int .i64 0) (.int .i64 0) (.int .i64 0)
        obtain ⟨⟨t1, t2⟩, t3⟩ := id hbv
        exact bodyPost_ret (v := .tuple #[.agg #[.int .i64 0, .int .i64 0, .int .i64 0], .iface 133 (.int .i64 6)]) (by simp [results, Tryz.results57, go_sem, t2]) rfl ⟨(by rw [hCC.out, hSS.out]; simp [recvO, errV]), bl_set3 hB (by omega) (.int .i64 0) (.int .i64 0) (.int .i64 0)⟩
    · clear hg1 hrest
      go_wp2_with fail
      go_loopg [19] T (fun g i wr => ∃ n : Nat, g = T - n ∧ n ≤ T ∧ i = .int .i64 n ∧ (∀ j d, j < n → ds[j]? = some d → takesD k bp d = false) ∧ (∀ j d, ds.length + j < n → es[j]? = some d → takesE nw ow k a ap b bp d = false) ∧ Below w.heap.size w wr ∧ Below w2.heap.size w2 wr)
      case atStart => exact ⟨0, by omega, by omega, rfl, fun _ _ h => absurd h (by omega), fun _ _ h => absurd h (by omega), hB2, bl_refl _⟩
      case round =>
        obtain ⟨n, hgn, hn, rfl, HD, HE, hB, hC⟩ := hrel
        have HD : Hid (∀ j d, j < n → ds[j]? = some d → takesD k bp d = false) := HD
        have HE : Hid (∀ j d, ds.length + j < n → es[j]? = some d → takesE nw ow k a ap b bp d = false) := HE
        by_cases hlt : n < T
        · have hlt' : (n : Int) < (T : Int) := by omega
          have y1 := (x1.below hC).2
          have y2 := (x2.below hC).2
          have hgl : g < wr.heap.size := by
            have h1 := (hown.lt g rfl).2
            have := hC.size
            omega
          by_cases hnd : n < ds.length
          · obtain ⟨d, hd⟩ : ∃ d, ds[n]? = some d := ⟨ds[n], by simp [hnd]⟩
            have hx : (ds.map holdD ++ es.map holdE)[n]? = some (holdD d) := by
              rw [List.getElem?_append_left (by simpa using hnd), List.getElem?_map, hd]; rfl
            have c0 : wr.cell? ⟨g, n, none⟩ = some (.iface 85 (.agg #[.int .i64 d.k, .int .i64 d.o, .int .i64 d.i, .int .i64 d.p])) := own_cell (ownsRow_bl hown hC) n _ hx
            have hd : Hid (ds[n]? = some d) := hd
            clear hx
            have mT := methTakesD
            have mS := methSeatD
            by_cases ht : (takesD k bp d) = true
            · skip
              go_wp2_with fail
              refine (doorTakes_v ad ln ow lo hi nw da dn dc ea en ec d k a ap b bp true _ ht).mono ?_
              rintro e w3 ⟨rfl, hb3⟩
              have hB3 := bl_trans hB hb3
              have hC3 := bl_trans hC hb3
              go_wp2_with fail
              refine (seat_ret d _).mono ?_
              rintro e w4 ⟨rfl, hb4⟩
              have hB4 := bl_trans hB3 hb4
              have bx := bx.below (bl_trans hC3 hb4)
              obtain ⟨⟨q1, q2⟩, q3⟩ := id bx
              go_wp2_with fail
              have hbv := bx.set3 (.int .i64 d.k) (.int .i64 d.i) (.int .i64 d.p)
              obtain ⟨⟨t1, t2⟩, t3⟩ := id hbv
              exact bodyPost_ret (v := .tuple #[.agg #[.int .i64 d.k, .int .i64 d.i, .int .i64 d.p], .nilIface]) (by simp [results, Tryz.results57, go_sem, t2]) rfl ⟨(by rw [hCC.out, hSS.out, recv_door (find_at hd.out ht (fun j y hj hy => HD.out j y hj hy))]; rfl), bl_set3 hB4 (by omega) (.int .i64 d.k) (.int .i64 d.i) (.int .i64 d.p)⟩
            · have ht : (takesD k bp d) = false := by simpa using ht
              go_wp2_with fail
              refine (doorTakes_v ad ln ow lo hi nw da dn dc ea en ec d k a ap b bp false _ ht).mono ?_
              rintro e w3 ⟨rfl, hb3⟩
              have hB3 := bl_trans hB hb3
              have hC3 := bl_trans hC hb3
              go_wp2_with fail
              go_roundg (T - (n + 1))
              case measure => omega
              case rel => exact ⟨n + 1, rfl, by omega, by go_num, fun j y hj hy => (by rcases Nat.lt_or_ge j n with h | h; exact HD.out j y h hy; have : j = n := (by omega); subst this; rw [some_one hy hd.out]; exact ht), fun j y hj hy => HE.out j y (by omega) hy, hB3, hC3⟩
          · obtain ⟨d, hd⟩ : ∃ d, es[n - ds.length]? = some d := ⟨es[n - ds.length]'(by have := hT.out; omega), by simp⟩
            have hx : (ds.map holdD ++ es.map holdE)[n]? = some (holdE d) := by
              rw [List.getElem?_append_right (by simp; omega), List.getElem?_map]; simp [hd]
            have c0 : wr.cell? ⟨g, n, none⟩ = some (.iface 52 (.agg #[.int .i64 d.k, .int .i64 d.pr, .int .i64 d.pp, .int .i64 d.o, .int .i64 d.i, .int .i64 d.ip, .int .i64 d.l])) := own_cell (ownsRow_bl hown hC) n _ hx
            obtain ⟨q0, q1⟩ := hla _ d hd
            have hd : Hid (es[n - ds.length]? = some d) := hd
            clear hx
            have mT := methTakesE
            have mS := methSeatE
            by_cases ht : (takesE nw ow k a ap b bp d) = true
            · skip
              go_wp2_with fail
              refine (entryTakes_v ad ln ow lo hi nw da dn dc ea en ec d k a ap b bp true _ n0 n1 q0 q1 ht).mono ?_
              rintro e w3 ⟨rfl, hb3⟩
              have hB3 := bl_trans hB hb3
              have hC3 := bl_trans hC hb3
              go_wp2_with fail
              refine (entrySeat_ret d _).mono ?_
              rintro e w4 ⟨rfl, hb4⟩
              have hB4 := bl_trans hB3 hb4
              have bx := bx.below (bl_trans hC3 hb4)
              obtain ⟨⟨q1, q2⟩, q3⟩ := id bx
              go_wp2_with fail
              have hbv := bx.set3 (.int .i64 d.k) (.int .i64 d.i) (.int .i64 d.ip)
              obtain ⟨⟨t1, t2⟩, t3⟩ := id hbv
              exact bodyPost_ret (v := .tuple #[.agg #[.int .i64 d.k, .int .i64 d.i, .int .i64 d.ip], .nilIface]) (by simp [results, Tryz.results57, go_sem, t2]) rfl ⟨(by rw [hCC.out, hSS.out, recv_entry (find_no (fun j y hy => HD.out j y (by have := get_lt hy; omega) hy)) (find_at hd.out ht (fun j y hj hy => HE.out j y (by omega) hy))]; rfl), bl_set3 hB4 (by omega) (.int .i64 d.k) (.int .i64 d.i) (.int .i64 d.ip)⟩
            · have ht : (takesE nw ow k a ap b bp d) = false := by simpa using ht
              go_wp2_with fail
              refine (entryTakes_v ad ln ow lo hi nw da dn dc ea en ec d k a ap b bp false _ n0 n1 q0 q1 ht).mono ?_
              rintro e w3 ⟨rfl, hb3⟩
              have hB3 := bl_trans hB hb3
              have hC3 := bl_trans hC hb3
              go_wp2_with fail
              go_roundg (T - (n + 1))
              case measure => omega
              case rel => exact ⟨n + 1, rfl, by omega, by go_num, fun j y hj hy => HD.out j y (by have := get_lt hy; omega) hy, fun j y hj hy => (by rcases Nat.lt_or_ge (ds.length + j) n with h | h; exact HE.out j y h hy; have : j = n - ds.length := (by omega); subst this; rw [some_one hy hd.out]; exact ht), hB3, hC3⟩
        · have hne : n = T := by omega
          have bx := bx.below hC
          obtain ⟨⟨q1, q2⟩, q3⟩ := id bx
          go_wp2_with fail
          have hbv := bx.set3 (.int .i64 0) (.int .i64 0) (.int .i64 0)
          obtain ⟨⟨t1, t2⟩, t3⟩ := id hbv
          exact bodyPost_ret (v := .tuple #[.agg #[.int .i64 0, .int .i64 0, .int .i64 0], .iface 133 (.int .i64 6)]) (by simp [results, Tryz.results57, go_sem, t2]) rfl ⟨(by rw [hCC.out, hSS.out, recv_none (find_no (fun j y hy => HD.out j y (by have := get_lt hy; have := hT.out; omega) hy)) (find_no (fun j y hy => HE.out j y (by have := get_lt hy; have := hT.out; omega) hy))]; rfl), bl_set3 hB (by omega) (.int .i64 0) (.int .i64 0) (.int .i64 0)⟩
  · have hC : inCode ad ln ow lo hi nw ds es k a ap b bp = mayIn ad ln ow lo hi nw ds es k a ap b bp := by simp [inCode, hm]
    have hS : inSeat ad ln ow lo hi nw ds es k a ap b bp = (0, 0, 0) := by simp [inSeat, hm]
    rw [hC, hS]
    generalize mayIn ad ln ow lo hi nw ds es k a ap b bp = c at *
    have hcv : errV c = .iface 133 (.int .i64 c) := by simp [errV, hm]
    rw [hcv] at H1 ⊢
    go_enter Tryz.func57, Tryz.ntmps57
    go_wp2_with fail
    refine H1.out.mono ?_
    rintro e w1 ⟨rfl, hb1⟩
    have hB1 := bl_trans hb0 hb1
    have bx := bx.below hb1
    clear H1 hb0 hb1
    obtain ⟨⟨q1, q2⟩, q3⟩ := id bx
    go_wp2_with fail
    have hbv := bx.set3 (.int .i64 0) (.int .i64 0) (.int .i64 0)
    obtain ⟨⟨t1, t2⟩, t3⟩ := id hbv
    exact bodyPost_ret (v := .tuple #[.agg #[.int .i64 0, .int .i64 0, .int .i64 0], .iface 133 (.int .i64 c)]) (by simp [results, Tryz.results57, go_sem, t2]) rfl ⟨rfl, bl_set3 hB1 (by omega) (.int .i64 0) (.int .i64 0) (.int .i64 0)⟩
end Go.Proofs.YtcgjpmhjijmplaaGreatDoor

/- The program's NatIn at every book and flow, walked. -/
namespace Go.Proofs.YtcgjpmhjijmplaaGreatDoor
open Go.ChangeShapes Go.WideShapes Go.ChangeAt Go.RowKit Go.Maps

theorem bl_set5 {w0 w : World} (h : Below w0.heap.size w0 w) {n : Nat} (hn : w0.heap.size ≤ n) (a b c d e : Value) : Below w0.heap.size w0 (((((w.setCell ⟨n, 0, none⟩ a).setCell ⟨n, 1, none⟩ b).setCell ⟨n, 2, none⟩ c).setCell ⟨n, 3, none⟩ d).setCell ⟨n, 4, none⟩ e) :=
  bl_set (bl_set (bl_set (bl_set (bl_set h hn a) hn b) hn c) hn d) hn e
/-- What NatIn tells: the flow inside beside 0, nothing beside another code. -/
noncomputable def inTold (ad ln ow lo hi nw : Int) (ds : List Dr) (es : List En) (k a ap b bp : Int) : Value :=
  if inCode ad ln ow lo hi nw ds es k a ap b bp = 0 then .agg #[.int .i64 k, .int .i64 a, .int .i64 ap, .int .i64 (inSeat ad ln ow lo hi nw ds es k a ap b bp).2.1, .int .i64 (inSeat ad ln ow lo hi nw ds es k a ap b bp).2.2] else .agg #[.int .i64 0, .int .i64 0, .int .i64 0, .int .i64 0, .int .i64 0]
set_option maxRecDepth 20000 in
set_option maxHeartbeats 4000000 in
theorem implIn_ret (ad ln ow lo hi nw : Int) (da : Option Addr) (dn dc : Nat) (ea : Option Addr) (en ec : Nat) (k a ap b bp : Int) (ds : List Dr) (es : List En) (w : World) (hg : Gl w) (hD : DoorsAt w da dn ds) (hE : EntriesAt w ea en es) :
    Calls Tryz.prog 16 #[.agg #[.int .i64 ad, .int .i64 ln, .int .i64 ow, .int .i64 lo, .int .i64 hi, .slice da dn dc, .int .i64 nw, .slice ea en ec], .agg #[.int .i64 k, .int .i64 a, .int .i64 ap, .int .i64 b, .int .i64 bp]] w fun e w' => e = .returned (.tuple #[inTold ad ln ow lo hi nw ds es k a ap b bp, .int .i64 (inCode ad ln ow lo hi nw ds es k a ap b bp)]) ∧ Below w.heap.size w w' := by
  have hb0 := bl_alloc (bl_alloc (bl_alloc (bl_refl w) (.cells #[.int .i64 ad, .int .i64 ln, .int .i64 ow, .int .i64 lo, .int .i64 hi, .slice da dn dc, .int .i64 nw, .slice ea en ec] 26)) (.cells #[.int .i64 k, .int .i64 a, .int .i64 ap, .int .i64 b, .int .i64 bp] 32)) (.cells #[.int .i64 0, .int .i64 0, .int .i64 0, .int .i64 0, .int .i64 0] 32)
  have x2 := (Bx.new (w.alloc (.cells #[.int .i64 ad, .int .i64 ln, .int .i64 ow, .int .i64 lo, .int .i64 hi, .slice da dn dc, .int .i64 nw, .slice ea en ec] 26)) #[.int .i64 k, .int .i64 a, .int .i64 ap, .int .i64 b, .int .i64 bp] 32).below (bl_alloc (bl_refl _) (.cells #[.int .i64 0, .int .i64 0, .int .i64 0, .int .i64 0, .int .i64 0] 32))
  have bx := Bx.new ((w.alloc (.cells #[.int .i64 ad, .int .i64 ln, .int .i64 ow, .int .i64 lo, .int .i64 hi, .slice da dn dc, .int .i64 nw, .slice ea en ec] 26)).alloc (.cells #[.int .i64 k, .int .i64 a, .int .i64 ap, .int .i64 b, .int .i64 bp] 32)) #[.int .i64 0, .int .i64 0, .int .i64 0, .int .i64 0, .int .i64 0] 32
  simp only [World.size_alloc] at x2 bx
  have H1 : Hid (Calls Tryz.prog _ _ _ _) := receive_ret ad ln ow lo hi nw da dn dc ea en ec k a ap b bp ds es _ (hD.below hb0) (hE.below hb0)
  have hF : Hid (inTold ad ln ow lo hi nw ds es k a ap b bp = if inCode ad ln ow lo hi nw ds es k a ap b bp = 0 then .agg #[.int .i64 k, .int .i64 a, .int .i64 ap, .int .i64 (inSeat ad ln ow lo hi nw ds es k a ap b bp).2.1, .int .i64 (inSeat ad ln ow lo hi nw ds es k a ap b bp).2.2] else .agg #[.int .i64 0, .int .i64 0, .int .i64 0, .int .i64 0, .int .i64 0]) := rfl
  generalize inTold ad ln ow lo hi nw ds es k a ap b bp = F at *
  generalize inCode ad ln ow lo hi nw ds es k a ap b bp = c at *
  generalize inSeat ad ln ow lo hi nw ds es k a ap b bp = s at *
  obtain ⟨s1, s2, s3⟩ := s
  clear hD hE
  by_cases hc : c = 0
  · subst hc
    have hF : Hid (F = .agg #[.int .i64 k, .int .i64 a, .int .i64 ap, .int .i64 s2, .int .i64 s3]) := hF.out
    have H1 : Hid (Calls Tryz.prog _ _ _ fun e w' => e = .returned (.tuple #[.agg #[.int .i64 s1, .int .i64 s2, .int .i64 s3], .nilIface]) ∧ _) := H1
    go_enter Tryz.func16, Tryz.ntmps16
    go_wp2_with fail
    refine H1.out.mono ?_
    rintro e w1 ⟨rfl, hb1⟩
    have hl1 := (bx.below hb1).1.1
    have hBl := bl_alloc (bl_refl w1) (.cells #[.int .i64 s1, .int .i64 s2, .int .i64 s3] 88)
    have x3 := Bx.new w1 #[.int .i64 s1, .int .i64 s2, .int .i64 s3] 88
    have hB := bl_trans (bl_trans hb0 hb1) hBl
    have x2 := (x2.below hb1).below hBl
    have bx := (bx.below hb1).below hBl
    clear H1 hb0 hb1 hBl
    go_wp2_with fail
    generalize hns : w1.heap.size = ns at *
    generalize (w1.alloc (.cells #[.int .i64 s1, .int .i64 s2, .int .i64 s3] 88)) = W9 at x2 x3 bx hB ⊢
    refine wp_region_held_drew (S := (fun w' => Box w' ns #[.int .i64 s1, .int .i64 s2, .int .i64 s3])) (by kernel_rfl) ?_ (fun hHeld => ?_)
    · exact x3.1.below (bl_drew (bl_refl _))
    have hB := bl_drew hB
    have x2 := x2.below (bl_drew (bl_refl _))
    have x3 := x3.below (bl_drew (bl_refl _))
    have bx := bx.below (bl_drew (bl_refl _))
    generalize W9.drew = W0 at x2 x3 bx hB hHeld ⊢
    refine takeL 0 19 ?_ ?_ hHeld ?_
    rotate_left
    · (intro w hSw; (try dsimp only at hSw); simp only [Box] at hSw; go_simp; try with_reducible rfl)
    simp only [Act.put, puA, puB, puC]
    refine takeL 1 20 ?_ ?_ hHeld ?_
    rotate_left
    · (intro w hSw; (try dsimp only at hSw); simp only [Box] at hSw; go_simp; try with_reducible rfl)
    simp only [Act.put, puA, puB, puC]
    refine takeL 2 21 ?_ ?_ hHeld ?_
    rotate_left
    · (intro w hSw; (try dsimp only at hSw); simp only [Box] at hSw; go_simp; try with_reducible rfl)
    simp only [Act.put, puA, puB, puC]
    refine takeL 3 22 ?_ ?_ hHeld ?_
    rotate_left
    · (intro w hSw; (try dsimp only at hSw); simp only [Box] at hSw; go_simp; try with_reducible rfl)
    simp only [Act.put, puA, puB, puC]
    refine takeL 4 23 ?_ ?_ hHeld ?_
    rotate_left
    · (intro w hSw; (try dsimp only at hSw); simp only [Box] at hSw; go_simp; try with_reducible rfl)
    simp only [Act.put, puA, puB, puC]
    refine wpAnyH_ready (rs := [5]) (by kernel_rfl) (by simp) (AllReadyH.cons rfl (fun K hK => ?_) (AllReadyH.nil))
    obtain ⟨⟨q1, q2⟩, q3⟩ := id x2
    go_simp
    have x2 := x2.set (j := 3) (by simp) (.int .i64 s2)
    have hB := bl_set (p := ⟨w.heap.size + 1, 3, none⟩) hB (by simp) (.int .i64 s2)
    have x3 := x3.other (m := w.heap.size + 1) (j := 3) (by omega) (.int .i64 s2)
    have bx := bx.other (m := w.heap.size + 1) (j := 3) (by omega) (.int .i64 s2)
    refine hK.out _ _ ?_ (fun hHeld1 => ?_)
    · exact x3.1
    clear hK K hHeld
    have hHeld := hHeld1
    clear hHeld1
    refine takeL 6 24 ?_ ?_ hHeld ?_
    rotate_left
    · (intro w hSw; (try dsimp only at hSw); simp only [Box] at hSw; go_simp; try with_reducible rfl)
    simp only [Act.put, puA, puB, puC]
    refine wpAnyH_ready (rs := [7]) (by kernel_rfl) (by simp) (AllReadyH.cons rfl (fun K hK => ?_) (AllReadyH.nil))
    obtain ⟨⟨q1, q2⟩, q3⟩ := id x2
    go_simp
    have x2 := x2.set (j := 4) (by simp) (.int .i64 s3)
    have hB := bl_set (p := ⟨w.heap.size + 1, 4, none⟩) hB (by simp) (.int .i64 s3)
    have x3 := x3.other (m := w.heap.size + 1) (j := 4) (by omega) (.int .i64 s3)
    have bx := bx.other (m := w.heap.size + 1) (j := 4) (by omega) (.int .i64 s3)
    refine hK.out _ _ ?_ (fun hHeld1 => ?_)
    · exact x3.1
    clear hK K hHeld
    have hHeld := hHeld1
    clear hHeld1
    refine wpAnyH_done (by kernel_rfl) ?_ _
    have x2 : Bx _ (w.heap.size + 1) #[.int .i64 k, .int .i64 a, .int .i64 ap, .int .i64 s2, .int .i64 s3] := x2
    obtain ⟨⟨q1, q2⟩, q3⟩ := id x2
    obtain ⟨⟨p1, p2⟩, p3⟩ := id bx
    generalize ((W0.setCell ⟨w.heap.size + 1, 3, none⟩ (.int .i64 s2)).setCell ⟨w.heap.size + 1, 4, none⟩ (.int .i64 s3)) = W5 at *
    go_wp2_with fail
    have hbv := bx.set5 (.int .i64 k) (.int .i64 a) (.int .i64 ap) (.int .i64 s2) (.int .i64 s3)
    obtain ⟨⟨t1, t2⟩, t3⟩ := id hbv
    exact bodyPost_ret (v := .tuple #[.agg #[.int .i64 k, .int .i64 a, .int .i64 ap, .int .i64 s2, .int .i64 s3], .int .i64 0]) (by simp [results, Tryz.results16, go_sem, t2]) rfl ⟨by have h := hF.out; simp_all, bl_set5 hB (by omega) (.int .i64 k) (.int .i64 a) (.int .i64 ap) (.int .i64 s2) (.int .i64 s3)⟩
  · have hF : Hid (F = .agg #[.int .i64 0, .int .i64 0, .int .i64 0, .int .i64 0, .int .i64 0]) := by have := hF.out; rw [if_neg hc] at this; exact this
    have hcv : errV c = .iface 133 (.int .i64 c) := by simp [errV, hc]
    rw [hcv] at H1
    go_enter Tryz.func16, Tryz.ntmps16
    go_wp2_with fail
    refine H1.out.mono ?_
    rintro e w1 ⟨rfl, hb1⟩
    have hBl := bl_alloc (bl_refl w1) (.cells #[.int .i64 s1, .int .i64 s2, .int .i64 s3] 88)
    have hB := bl_trans (bl_trans hb0 hb1) hBl
    have bx := (bx.below hb1).below hBl
    have H2 : Hid (Calls Tryz.prog _ _ _ _) := natCode_ret c _ (hg.below hB)
    clear H1 hb0 hb1 hBl
    go_wp2_with fail
    refine H2.out.mono ?_
    rintro e w2 ⟨rfl, hb2⟩
    have hB2 := bl_trans hB hb2
    have bx := bx.below hb2
    clear H2
    obtain ⟨⟨q1, q2⟩, q3⟩ := id bx
    go_wp2_with fail
    have hbv := bx.set5 (.int .i64 0) (.int .i64 0) (.int .i64 0) (.int .i64 0) (.int .i64 0)
    obtain ⟨⟨t1, t2⟩, t3⟩ := id hbv
    exact bodyPost_ret (v := .tuple #[.agg #[.int .i64 0, .int .i64 0, .int .i64 0, .int .i64 0, .int .i64 0], .int .i64 c]) (by simp [results, Tryz.results16, go_sem, t2]) rfl ⟨by have h := hF.out; simp_all, bl_set5 hB2 (by omega) (.int .i64 0) (.int .i64 0) (.int .i64 0) (.int .i64 0) (.int .i64 0)⟩
end Go.Proofs.YtcgjpmhjijmplaaGreatDoor
