/- The program's natReceive and NatIn, walked. -/
import Derived.Test.YtcgjpmhjijmplabGreatDoorPass2
namespace Go.Proofs.YtcgjpmhjijmplabGreatDoor
open Go.ChangeShapes Go.WideShapes Go.ChangeAt Go.RowKit Go.Maps

def takesD (k bp : Int) (d : Dr) : Bool := d.k == k && d.o == bp
def recvO (nw ow : Int) (ds : List Dr) (es : List En) (k a ap b bp : Int) : Option (Int × Int × Int) :=
  match ds.find? (takesD k bp) with
  | some d => some (d.k, d.i, d.p)
  | none => (es.find? (takesE nw ow k a ap b bp)).map fun d => (d.k, d.i, d.ip)
noncomputable def inCode (ad ln ow lo hi nw : Int) (ds : List Dr) (es : List En) (k a ap b bp : Int) : Int :=
  if mayIn ad ln ow lo hi nw ds es k a ap b bp = 0 then (if (recvO nw ow ds es k a ap b bp).isSome = true then 0 else 6) else mayIn ad ln ow lo hi nw ds es k a ap b bp
noncomputable def inSeat (ad ln ow lo hi nw : Int) (ds : List Dr) (es : List En) (k a ap b bp : Int) : Int × Int × Int :=
  if mayIn ad ln ow lo hi nw ds es k a ap b bp = 0 then (recvO nw ow ds es k a ap b bp).getD (0, 0, 0) else (0, 0, 0)
theorem find_at {α : Type} {p : α → Bool} {xs : List α} {n : Nat} {x : α} (hx : xs[n]? = some x) (hp : p x = true) (hb : ∀ j y, j < n → xs[j]? = some y → p y = false) : xs.find? p = some x := by
  induction xs generalizing n with
  | nil => simp at hx
  | cons z zs ih =>
    cases n with
    | zero => simp at hx; subst hx; simp [hp]
    | succ n =>
      have h0 := hb 0 z (by omega) (by simp)
      simp only [List.find?_cons, h0]
      exact ih (by simpa using hx) (fun j y hj hy => hb (j + 1) y (by omega) (by simpa using hy))
theorem find_no {α : Type} {p : α → Bool} {xs : List α} (hb : ∀ (j : Nat) y, xs[j]? = some y → p y = false) : xs.find? p = none := by
  rw [List.find?_eq_none]
  intro x hx
  obtain ⟨j, hj⟩ := List.mem_iff_getElem?.1 hx
  rw [hb j x hj]; simp
theorem mayIn_book {ad ln ow lo hi nw : Int} {ds : List Dr} {es : List En} {k a ap b bp : Int} (h : mayIn ad ln ow lo hi nw ds es k a ap b bp = 0) : bookB ad ln ow lo hi nw ds es = true ∧ flowB k a ap b bp = true ∧ comesB ad ln ow a b = true := by
  unfold mayIn at h
  by_cases h1 : bookB ad ln ow lo hi nw ds es = true
  · by_cases h2 : flowB k a ap b bp = true
    · by_cases h3 : comesB ad ln ow a b = true
      · exact ⟨h1, h2, h3⟩
      · simp [h1, h2, h3] at h
    · simp [h1, h2] at h
  · simp [h1] at h
theorem book_parts {ad ln ow lo hi nw : Int} {ds : List Dr} {es : List En} (h : bookB ad ln ow lo hi nw ds es = true) : (0 ≤ nw ∧ nw ≤ 1000000) ∧ ds.length ≤ 6 ∧ es.length ≤ 16 ∧ ∀ (i : Nat) d, es[i]? = some d → 0 ≤ d.l ∧ d.l ≤ nw := by
  simp only [bookB, Bool.and_eq_true] at h
  obtain ⟨⟨hf, hd⟩, he⟩ := h
  obtain ⟨_, _, _, _, hn⟩ := frameB_true hf
  simp only [doorsB, decide_eq_true_eq] at hd
  simp only [entriesB, decide_eq_true_eq] at he
  refine ⟨hn, hd.1, he.1, fun i d hi => ?_⟩
  have := (he.2 i d (get_lt hi) hi).1
  simp only [entryB, eokB, Bool.and_eq_true] at this
  exact inB_true this.1.2
theorem doorTakes_v (ad ln ow lo hi nw : Int) (da : Option Addr) (dn dc : Nat) (ea : Option Addr) (en ec : Nat) (d : Dr) (k a ap b bp : Int) (r : Bool) (w : World) (hr : takesD k bp d = r) : Calls Tryz.prog 159 #[.agg #[.int .i64 d.k, .int .i64 d.o, .int .i64 d.i, .int .i64 d.p], .agg #[.int .i64 ad, .int .i64 ln, .int .i64 ow, .int .i64 lo, .int .i64 hi, .slice da dn dc, .int .i64 nw, .slice ea en ec], .agg #[.int .i64 k, .int .i64 a, .int .i64 ap, .int .i64 b, .int .i64 bp]] w fun e w' => e = .returned (.bool r) ∧ Below w.heap.size w w' := by
  subst hr; exact doorTakes_ret ad ln ow lo hi nw da dn dc ea en ec d k a ap b bp w
theorem entryTakes_v (ad ln ow lo hi nw : Int) (da : Option Addr) (dn dc : Nat) (ea : Option Addr) (en ec : Nat) (d : En) (k a ap b bp : Int) (r : Bool) (w : World) (n0 : 0 ≤ nw) (n1 : nw ≤ 1000000) (q0 : 0 ≤ d.l) (q1 : d.l ≤ nw) (hr : takesE nw ow k a ap b bp d = r) : Calls Tryz.prog 162 #[.agg #[.int .i64 d.k, .int .i64 d.pr, .int .i64 d.pp, .int .i64 d.o, .int .i64 d.i, .int .i64 d.ip, .int .i64 d.l], .agg #[.int .i64 ad, .int .i64 ln, .int .i64 ow, .int .i64 lo, .int .i64 hi, .slice da dn dc, .int .i64 nw, .slice ea en ec], .agg #[.int .i64 k, .int .i64 a, .int .i64 ap, .int .i64 b, .int .i64 bp]] w fun e w' => e = .returned (.bool r) ∧ Below w.heap.size w w' := by
  subst hr; exact entryTakes_ret ad ln ow lo hi nw da dn dc ea en ec d k a ap b bp w n0 n1 q0 q1
theorem recv_door {nw ow : Int} {ds : List Dr} {es : List En} {k a ap b bp : Int} {d : Dr} (h : ds.find? (takesD k bp) = some d) : recvO nw ow ds es k a ap b bp = some (d.k, d.i, d.p) := by simp [recvO, h]
theorem recv_entry {nw ow : Int} {ds : List Dr} {es : List En} {k a ap b bp : Int} {d : En} (h0 : ds.find? (takesD k bp) = none) (h : es.find? (takesE nw ow k a ap b bp) = some d) : recvO nw ow ds es k a ap b bp = some (d.k, d.i, d.ip) := by simp [recvO, h0, h]
theorem recv_none {nw ow : Int} {ds : List Dr} {es : List En} {k a ap b bp : Int} (h0 : ds.find? (takesD k bp) = none) (h : es.find? (takesE nw ow k a ap b bp) = none) : recvO nw ow ds es k a ap b bp = none := by simp [recvO, h0, h]
theorem methTakesD (v : Value) (w : World) : (Go.method 321 52 v "loop.example/ternnat/impl.takes").run Tryz.prog w = .ok (159, v) w := by kernel_rfl
theorem methTakesE (v : Value) (w : World) : (Go.method 321 55 v "loop.example/ternnat/impl.takes").run Tryz.prog w = .ok (162, v) w := by kernel_rfl
theorem methSeatD (v : Value) (w : World) : (Go.method 321 52 v "loop.example/ternnat/impl.seat").run Tryz.prog w = .ok (111, v) w := by kernel_rfl
theorem methSeatE (v : Value) (w : World) : (Go.method 321 55 v "loop.example/ternnat/impl.seat").run Tryz.prog w = .ok (161, v) w := by kernel_rfl
theorem own_cell {w : World} {base g n cap : Nat} {e : TypeId} {xs : List Value} (h : w.ownsRow base e 1 (.slice (some ⟨g, 0, none⟩) n cap) n xs) (j : Nat) (x : Value) (hx : xs[j]? = some x) : w.cell? ⟨g, j, none⟩ = some x := by
  have := h.cells (g := g) rfl j x hx
  rwa [addr_add0] at this

theorem Bx.set3 {w : World} {n : Nat} {x0 x1 x2 : Value} (h : Bx w n #[x0, x1, x2]) (a b c : Value) : Bx (((w.setCell ⟨n, 0, none⟩ a).setCell ⟨n, 1, none⟩ b).setCell ⟨n, 2, none⟩ c) n #[a, b, c] := by
  have h : Bx (w.setCell ⟨n, 0, none⟩ a) n #[a, x1, x2] := h.set (j := 0) (by simp) a
  have h := h.set (j := 1) (by simp) b
  have h := h.set (j := 2) (by simp) c
  exact h
theorem bl_set3 {w0 w : World} (h : Below w0.heap.size w0 w) {n : Nat} (hn : w0.heap.size ≤ n) (a b c : Value) : Below w0.heap.size w0 (((w.setCell ⟨n, 0, none⟩ a).setCell ⟨n, 1, none⟩ b).setCell ⟨n, 2, none⟩ c) :=
  bl_set (bl_set (bl_set h hn a) hn b) hn c

set_option maxRecDepth 20000 in
set_option maxHeartbeats 4000000 in
theorem receive_ret (ad ln ow lo hi nw : Int) (da : Option Addr) (dn dc : Nat) (ea : Option Addr) (en ec : Nat) (k a ap b bp : Int) (ds : List Dr) (es : List En) (w : World) (hD : DoorsAt w da dn ds) (hE : EntriesAt w ea en es) :
    Calls Tryz.prog 28 #[.agg #[.int .i64 ad, .int .i64 ln, .int .i64 ow, .int .i64 lo, .int .i64 hi, .slice da dn dc, .int .i64 nw, .slice ea en ec], .agg #[.int .i64 k, .int .i64 a, .int .i64 ap, .int .i64 b, .int .i64 bp]] w fun e w' => e = .returned (.tuple #[.agg #[.int .i64 (inSeat ad ln ow lo hi nw ds es k a ap b bp).1, .int .i64 (inSeat ad ln ow lo hi nw ds es k a ap b bp).2.1, .int .i64 (inSeat ad ln ow lo hi nw ds es k a ap b bp).2.2], errV (inCode ad ln ow lo hi nw ds es k a ap b bp)]) ∧ Below w.heap.size w w' := by
  have hb0 := bl_alloc (bl_alloc (bl_alloc (bl_refl w) (.cells #[.int .i64 ad, .int .i64 ln, .int .i64 ow, .int .i64 lo, .int .i64 hi, .slice da dn dc, .int .i64 nw, .slice ea en ec] 35)) (.cells #[.int .i64 k, .int .i64 a, .int .i64 ap, .int .i64 b, .int .i64 bp] 29)) (.cells #[.int .i64 0, .int .i64 0, .int .i64 0] 60)
  have x1 := ((Box.new w #[.int .i64 ad, .int .i64 ln, .int .i64 ow, .int .i64 lo, .int .i64 hi, .slice da dn dc, .int .i64 nw, .slice ea en ec] 35).below (bl_alloc (bl_refl _) (.cells #[.int .i64 k, .int .i64 a, .int .i64 ap, .int .i64 b, .int .i64 bp] 29))).below (bl_alloc (bl_refl _) (.cells #[.int .i64 0, .int .i64 0, .int .i64 0] 60))
  have x2 := (Box.new (w.alloc (.cells #[.int .i64 ad, .int .i64 ln, .int .i64 ow, .int .i64 lo, .int .i64 hi, .slice da dn dc, .int .i64 nw, .slice ea en ec] 35)) #[.int .i64 k, .int .i64 a, .int .i64 ap, .int .i64 b, .int .i64 bp] 29).below (bl_alloc (bl_refl _) (.cells #[.int .i64 0, .int .i64 0, .int .i64 0] 60))
  have bx := Bx.new ((w.alloc (.cells #[.int .i64 ad, .int .i64 ln, .int .i64 ow, .int .i64 lo, .int .i64 hi, .slice da dn dc, .int .i64 nw, .slice ea en ec] 35)).alloc (.cells #[.int .i64 k, .int .i64 a, .int .i64 ap, .int .i64 b, .int .i64 bp] 29)) #[.int .i64 0, .int .i64 0, .int .i64 0] 60
  simp only [World.size_alloc] at x2 bx
  have H1 : Hid (Calls Tryz.prog _ _ _ _) := mayIn_ret ad ln ow lo hi nw da dn dc ea en ec k a ap b bp ds es _ (hD.below hb0) (hE.below hb0)
  by_cases hm : mayIn ad ln ow lo hi nw ds es k a ap b bp = 0
  · obtain ⟨hbk, _, _⟩ := mayIn_book hm
    obtain ⟨⟨n0, n1⟩, hd6, he16, hla⟩ := book_parts hbk
    have hC0 : inCode ad ln ow lo hi nw ds es k a ap b bp = if (recvO nw ow ds es k a ap b bp).isSome = true then 0 else 6 := by simp [inCode, hm]
    have hS0 : inSeat ad ln ow lo hi nw ds es k a ap b bp = (recvO nw ow ds es k a ap b bp).getD (0, 0, 0) := by simp [inSeat, hm]
    have hCC : Hid (inCode ad ln ow lo hi nw ds es k a ap b bp = if (recvO nw ow ds es k a ap b bp).isSome = true then 0 else 6) := hC0
    have hSS : Hid (inSeat ad ln ow lo hi nw ds es k a ap b bp = (recvO nw ow ds es k a ap b bp).getD (0, 0, 0)) := hS0
    clear hC0 hS0
    rw [hm] at H1
    have H1 : Hid (Calls Tryz.prog _ _ _ fun e w' => e = .returned .nilIface ∧ _) := H1
    clear hbk
    go_enter Tryz.func28, Tryz.ntmps28
    go_wp2_with fail
    refine H1.out.mono ?_
    rintro e w1 ⟨rfl, hb1⟩
    have hB1 := bl_trans hb0 hb1
    have x1 := x1.below hb1
    have x2 := x2.below hb1
    have bx := bx.below hb1
    have y1 := x1.2
    have H2 : Hid (Calls Tryz.prog _ _ _ _) := holders_ret ad ln ow lo hi nw da dn dc ea en ec ds es w1 (hD.below hB1) (hE.below hB1) hd6 he16
    clear H1 hb0 hb1
    go_wp2_with fail
    refine H2.out.mono ?_
    rintro e w2 ⟨⟨v, rfl, hown⟩, hb2⟩
    have hB2 := bl_trans hB1 hb2
    have x1 := x1.below hb2
    have x2 := x2.below hb2
    have bx := bx.below hb2
    clear H2 y1 hB1
    have hl2 : w.heap.size + 1 + 1 < w2.heap.size := bx.1.1
    generalize hT : ds.length + es.length = T at hown
    have hT : Hid (ds.length + es.length = T) := hT
    have hTs : T ≤ 22 := by have := hT.out; omega
    rcases hown.2 with ⟨rfl, h0⟩ | ⟨g, cap, cur, rfl, hg0, hg1, hrest⟩
    · subst h0
      have hd0 : ds = [] := List.eq_nil_of_length_eq_zero (by have := hT.out; omega)
      have he0 : es = [] := List.eq_nil_of_length_eq_zero (by have := hT.out; omega)
      subst hd0
      subst he0
      go_wp2_with fail
      go_loopg [19] 0 (fun _ i wr => i = .int .i64 0 ∧ Below w.heap.size w wr ∧ Below w2.heap.size w2 wr)
      case atStart => exact ⟨rfl, hB2, bl_refl _⟩
      case round =>
        obtain ⟨rfl, hB, hC⟩ := hrel
        have bx := bx.below hC
        obtain ⟨⟨q1, q2⟩, q3⟩ := id bx
        go_wp2_with fail
        have hbv := bx.set3 (.int .i64 0) (.int .i64 0) (.int .i64 0)
        obtain ⟨⟨t1, t2⟩, t3⟩ := id hbv
        exact bodyPost_ret (v := .tuple #[.agg #[.int .i64 0, .int .i64 0, .int .i64 0], .iface 107 (.int .i64 6)]) (by simp [results, Tryz.results28, go_sem, t2]) rfl ⟨(by rw [hCC.out, hSS.out]; simp [recvO, errV]), bl_set3 hB (by omega) (.int .i64 0) (.int .i64 0) (.int .i64 0)⟩
    · clear hg1 hrest
      go_wp2_with fail
      go_loopg [19] T (fun g i wr => ∃ n : Nat, g = T - n ∧ n ≤ T ∧ i = .int .i64 n ∧ (∀ j d, j < n → ds[j]? = some d → takesD k bp d = false) ∧ (∀ j d, ds.length + j < n → es[j]? = some d → takesE nw ow k a ap b bp d = false) ∧ Below w.heap.size w wr ∧ Below w2.heap.size w2 wr)
      case atStart => exact ⟨0, by omega, by omega, rfl, fun _ _ h => absurd h (by omega), fun _ _ h => absurd h (by omega), hB2, bl_refl _⟩
      case round =>
        obtain ⟨n, hgn, hn, rfl, HD, HE, hB, hC⟩ := hrel
        have HD : Hid (∀ j d, j < n → ds[j]? = some d → takesD k bp d = false) := HD
        have HE : Hid (∀ j d, ds.length + j < n → es[j]? = some d → takesE nw ow k a ap b bp d = false) := HE
        by_cases hlt : n < T
        · have hlt' : (n : Int) < (T : Int) := by omega
          have y1 := (x1.below hC).2
          have y2 := (x2.below hC).2
          have hgl : g < wr.heap.size := by
            have h1 := (hown.lt g rfl).2
            have := hC.size
            omega
          by_cases hnd : n < ds.length
          · obtain ⟨d, hd⟩ : ∃ d, ds[n]? = some d := ⟨ds[n], by simp [hnd]⟩
            have hx : (ds.map holdD ++ es.map holdE)[n]? = some (holdD d) := by
              rw [List.getElem?_append_left (by simpa using hnd), List.getElem?_map, hd]; rfl
            have c0 : wr.cell? ⟨g, n, none⟩ = some (.iface 52 (.agg #[.int .i64 d.k, .int .i64 d.o, .int .i64 d.i, .int .i64 d.p])) := own_cell (ownsRow_bl hown hC) n _ hx
            have hd : Hid (ds[n]? = some d) := hd
            clear hx
            have mT := methTakesD
            have mS := methSeatD
            by_cases ht : (takesD k bp d) = true
            · skip
              go_wp2_with fail
              refine (doorTakes_v ad ln ow lo hi nw da dn dc ea en ec d k a ap b bp true _ ht).mono ?_
              rintro e w3 ⟨rfl, hb3⟩
              have hB3 := bl_trans hB hb3
              have hC3 := bl_trans hC hb3
              go_wp2_with fail
              refine (seat_ret d _).mono ?_
              rintro e w4 ⟨rfl, hb4⟩
              have hB4 := bl_trans hB3 hb4
              have bx := bx.below (bl_trans hC3 hb4)
              obtain ⟨⟨q1, q2⟩, q3⟩ := id bx
              go_wp2_with fail
              have hbv := bx.set3 (.int .i64 d.k) (.int .i64 d.i) (.int .i64 d.p)
              obtain ⟨⟨t1, t2⟩, t3⟩ := id hbv
              exact bodyPost_ret (v := .tuple #[.agg #[.int .i64 d.k, .int .i64 d.i, .int .i64 d.p], .nilIface]) (by simp [results, Tryz.results28, go_sem, t2]) rfl ⟨(by rw [hCC.out, hSS.out, recv_door (find_at hd.out ht (fun j y hj hy => HD.out j y hj hy))]; rfl), bl_set3 hB4 (by omega) (.int .i64 d.k) (.int .i64 d.i) (.int .i64 d.p)⟩
            · have ht : (takesD k bp d) = false := by simpa using ht
              go_wp2_with fail
              refine (doorTakes_v ad ln ow lo hi nw da dn dc ea en ec d k a ap b bp false _ ht).mono ?_
              rintro e w3 ⟨rfl, hb3⟩
              have hB3 := bl_trans hB hb3
              have hC3 := bl_trans hC hb3
              go_wp2_with fail
              go_roundg (T - (n + 1))
              case measure => omega
              case rel => exact ⟨n + 1, rfl, by omega, by go_num, fun j y hj hy => (by rcases Nat.lt_or_ge j n with h | h; exact HD.out j y h hy; have : j = n := (by omega); subst this; rw [some_one hy hd.out]; exact ht), fun j y hj hy => HE.out j y (by omega) hy, hB3, hC3⟩
          · obtain ⟨d, hd⟩ : ∃ d, es[n - ds.length]? = some d := ⟨es[n - ds.length]'(by have := hT.out; omega), by simp⟩
            have hx : (ds.map holdD ++ es.map holdE)[n]? = some (holdE d) := by
              rw [List.getElem?_append_right (by simp; omega), List.getElem?_map]; simp [hd]
            have c0 : wr.cell? ⟨g, n, none⟩ = some (.iface 55 (.agg #[.int .i64 d.k, .int .i64 d.pr, .int .i64 d.pp, .int .i64 d.o, .int .i64 d.i, .int .i64 d.ip, .int .i64 d.l])) := own_cell (ownsRow_bl hown hC) n _ hx
            obtain ⟨q0, q1⟩ := hla _ d hd
            have hd : Hid (es[n - ds.length]? = some d) := hd
            clear hx
            have mT := methTakesE
            have mS := methSeatE
            by_cases ht : (takesE nw ow k a ap b bp d) = true
            · skip
              go_wp2_with fail
              refine (entryTakes_v ad ln ow lo hi nw da dn dc ea en ec d k a ap b bp true _ n0 n1 q0 q1 ht).mono ?_
              rintro e w3 ⟨rfl, hb3⟩
              have hB3 := bl_trans hB hb3
              have hC3 := bl_trans hC hb3
              go_wp2_with fail
              refine (entrySeat_ret d _).mono ?_
              rintro e w4 ⟨rfl, hb4⟩
              have hB4 := bl_trans hB3 hb4
              have bx := bx.below (bl_trans hC3 hb4)
              obtain ⟨⟨q1, q2⟩, q3⟩ := id bx
              go_wp2_with fail
              have hbv := bx.set3 (.int .i64 d.k) (.int .i64 d.i) (.int .i64 d.ip)
              obtain ⟨⟨t1, t2⟩, t3⟩ := id hbv
              exact bodyPost_ret (v := .tuple #[.agg #[.int .i64 d.k, .int .i64 d.i, .int .i64 d.ip], .nilIface]) (by simp [results, Tryz.results28, go_sem, t2]) rfl ⟨(by rw [hCC.out, hSS.out, recv_entry (find_no (fun j y hy => HD.out j y (by have := get_lt hy; omega) hy)) (find_at hd.out ht (fun j y hj hy => HE.out j y (by omega) hy))]; rfl), bl_set3 hB4 (by omega) (.int .i64 d.k) (.int .i64 d.i) (.int .i64 d.ip)⟩
            · have ht : (takesE nw ow k a ap b bp d) = false := by simpa using ht
              go_wp2_with fail
              refine (entryTakes_v ad ln ow lo hi nw da dn dc ea en ec d k a ap b bp false _ n0 n1 q0 q1 ht).mono ?_
              rintro e w3 ⟨rfl, hb3⟩
              have hB3 := bl_trans hB hb3
              have hC3 := bl_trans hC hb3
              go_wp2_with fail
              go_roundg (T - (n + 1))
              case measure => omega
              case rel => exact ⟨n + 1, rfl, by omega, by go_num, fun j y hj hy => HD.out j y (by have := get_lt hy; omega) hy, fun j y hj hy => (by rcases Nat.lt_or_ge (ds.length + j) n with h | h; exact HE.out j y h hy; have : j = n - ds.length := (by omega); subst this; rw [some_one hy hd.out]; exact ht), hB3, hC3⟩
        · have hne : n = T := by omega
          have bx := bx.below hC
          obtain ⟨⟨q1, q2⟩, q3⟩ := id bx
          go_wp2_with fail
          have hbv := bx.set3 (.int .i64 0) (.int .i64 0) (.int .i64 0)
          obtain ⟨⟨t1, t2⟩, t3⟩ := id hbv
          exact bodyPost_ret (v := .tuple #[.agg #[.int .i64 0, .int .i64 0, .int .i64 0], .iface 107 (.int .i64 6)]) (by simp [results, Tryz.results28, go_sem, t2]) rfl ⟨(by rw [hCC.out, hSS.out, recv_none (find_no (fun j y hy => HD.out j y (by have := get_lt hy; have := hT.out; omega) hy)) (find_no (fun j y hy => HE.out j y (by have := get_lt hy; have := hT.out; omega) hy))]; rfl), bl_set3 hB (by omega) (.int .i64 0) (.int .i64 0) (.int .i64 0)⟩
  · have hC : inCode ad ln ow lo hi nw ds es k a ap b bp = mayIn ad ln ow lo hi nw ds es k a ap b bp := by simp [inCode, hm]
    have hS : inSeat ad ln ow lo hi nw ds es k a ap b bp = (0, 0, 0) := by simp [inSeat, hm]
    rw [hC, hS]
    generalize mayIn ad ln ow lo hi nw ds es k a ap b bp = c at *
    have hcv : errV c = .iface 107 (.int .i64 c) := by simp [errV, hm]
    rw [hcv] at H1 ⊢
    go_enter Tryz.func28, Tryz.ntmps28
    go_wp2_with fail
    refine H1.out.mono ?_
    rintro e w1 ⟨rfl, hb1⟩
    have hB1 := bl_trans hb0 hb1
    have bx := bx.below hb1
    clear H1 hb0 hb1
    obtain ⟨⟨q1, q2⟩, q3⟩ := id bx
    go_wp2_with fail
    have hbv := bx.set3 (.int .i64 0) (.int .i64 0) (.int .i64 0)
    obtain ⟨⟨t1, t2⟩, t3⟩ := id hbv
    exact bodyPost_ret (v := .tuple #[.agg #[.int .i64 0, .int .i64 0, .int .i64 0], .iface 107 (.int .i64 c)]) (by simp [results, Tryz.results28, go_sem, t2]) rfl ⟨rfl, bl_set3 hB1 (by omega) (.int .i64 0) (.int .i64 0) (.int .i64 0)⟩
end Go.Proofs.YtcgjpmhjijmplabGreatDoor
