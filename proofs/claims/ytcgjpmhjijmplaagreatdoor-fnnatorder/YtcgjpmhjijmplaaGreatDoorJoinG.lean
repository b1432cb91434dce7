/- Joined: Pass2, Pass3, Pass4. -/
import Derived.Test.YtcgjpmhjijmplaaGreatDoorPass1
import Derived.Test.YtcgjpmhjijmplaaGreatDoorBook
/- The program's natMayPass and natHolders, walked. -/
namespace Go.Proofs.YtcgjpmhjijmplaaGreatDoor
open Go.ChangeShapes Go.WideShapes Go.ChangeAt Go.RowKit Go.Maps

def errV (c : Int) : Value := if c = 0 then .nilIface else .iface 133 (.int .i64 c)

def holdD (d : Dr) : Value := .iface 85 (.agg #[.int .i64 d.k, .int .i64 d.o, .int .i64 d.i, .int .i64 d.p])
def holdE (d : En) : Value := .iface 52 (.agg #[.int .i64 d.k, .int .i64 d.pr, .int .i64 d.pp, .int .i64 d.o, .int .i64 d.i, .int .i64 d.ip, .int .i64 d.l])
theorem infoHo : (Tryz.prog.info? 140).map (fun i => (i.zero, i.size, i.bytes)) = some (some .nilIface, 1, 16) := by kernel_rfl
theorem take_mapD {ds : List Dr} {n : Nat} {d : Dr} (hd : ds[n]? = some d) : (ds.take (n + 1)).map holdD = (ds.take n).map holdD ++ [holdD d] := by
  rw [List.take_add_one, hd]; simp
theorem take_mapE {es : List En} {n : Nat} {d : En} (hd : es[n]? = some d) : (es.take (n + 1)).map holdE = (es.take n).map holdE ++ [holdE d] := by
  rw [List.take_add_one, hd]; simp
theorem cells1 (W : World) (n : Nat) (hn : W.heap.size = n) (u : Value) (t : TypeId) (j : Nat) (x : Value) (h : [u][j]? = some x) : (W.alloc (.cells #[u] t)).cell? (Addr.add ⟨n, 0, none⟩ j) = some x := by
  subst hn
  rw [show Addr.add ⟨W.heap.size, 0, none⟩ j = ⟨W.heap.size, j, none⟩ from addr_add0 _ _, World.cell?_alloc_new]
  simpa using h

set_option maxHeartbeats 4000000 in
theorem holders_ret (ad ln ow lo hi nw : Int) (da : Option Addr) (dn dc : Nat) (ea : Option Addr) (en ec : Nat) (ds : List Dr) (es : List En) (w : World) (hD : DoorsAt w da dn ds) (hE : EntriesAt w ea en es) (hd6 : ds.length ≤ 6) (he16 : es.length ≤ 16) :
    Calls Tryz.prog 98 #[.agg #[.int .i64 ad, .int .i64 ln, .int .i64 ow, .int .i64 lo, .int .i64 hi, .slice da dn dc, .int .i64 nw, .slice ea en ec]] w fun e w' => (∃ v, e = .returned v ∧ w'.ownsRow (w.heap.size + 1) 140 1 v (ds.length + es.length) (ds.map holdD ++ es.map holdE)) ∧ Below w.heap.size w w' := by
  obtain ⟨i0, hi0, hz0, hz1, hz2⟩ := info_parts infoHo
  obtain ⟨rfl, hD⟩ := hD
  obtain ⟨rfl, hE⟩ := hE
  go_enter Tryz.func98, Tryz.ntmps98
  go_wp2_with fail
  go_loopg [3, 11] ds.length (fun g v i wr => ∃ n : Nat, g = ds.length - n ∧ n ≤ ds.length ∧ i = .int .i64 n ∧ wr.ownsRow (w.heap.size + 1) 140 1 v n ((ds.take n).map holdD) ∧ Below w.heap.size w wr ∧ Box wr w.heap.size #[.int .i64 ad, .int .i64 ln, .int .i64 ow, .int .i64 lo, .int .i64 hi, .slice da ds.length dc, .int .i64 nw, .slice ea es.length ec])
  case atStart => exact ⟨0, by omega, by omega, rfl, World.ownsRow_nil _ _ _ _, bl_alloc (bl_refl _) _, Box.new _ _ _⟩
  case round =>
    obtain ⟨n, hg, hn, rfl, hown, hB, hX⟩ := hrel
    obtain ⟨hsz, hbox⟩ := id hX
    by_cases hlt2 : n < ds.length
    · rcases hD with rfl | ⟨b, o, rfl, hlt, hc⟩
      · simp at hlt2
      · obtain ⟨d, hd⟩ : ∃ d, ds[n]? = some d := ⟨ds[n], by simp [hlt2]⟩
        obtain ⟨c0, c1, c2, c3⟩ := hc.below hB hlt n d hd
        have hDd : Hid (ds[n]? = some d) := hd
        clear hd
        have hb2 : b < wr.heap.size := by have := hB.size; omega
        have hownA := ownsRow_bl hown (bl_alloc (bl_refl wr) (.cells #[.int .i64 d.k, .int .i64 d.o, .int .i64 d.i, .int .i64 d.p] 85))
        clear hE
        go_wp2_with (at_builtin; refine wpList_append_own _ rfl _ _ 137 rfl (w.heap.size + 1) 140 i0 .nilIface 1 16 Tryz.underlying137 hi0 hz0 hz1 hz2 rfl (by decide) _ _ _ rfl (ownsRow_bl hownA (bl_alloc (bl_refl _) (.cells #[holdD d] 140))) ⟨wr.heap.size + 1, 0, none⟩ 1 1 [holdD d] rfl rfl (fun j u h => cells1 (wr.alloc (.cells #[.int .i64 d.k, .int .i64 d.o, .int .i64 d.i, .int .i64 d.p] 85)) _ (by simp) (holdD d) 140 j u h) (by intro u hu; simp at hu; subst hu; rfl) (by unfold maxLen; omega) (by omega) (by simp; omega) ?_; intro v' w2 hown2 hgrow2 hnil2)
        have hz3 := hgrow2.size
        simp only [World.size_alloc] at hz3
        go_roundg (ds.length - (n + 1))
        case measure => omega
        case rel =>
          refine ⟨n + 1, rfl, by omega, by go_num, ?_, (bl_alloc (bl_alloc hB _) _).grown hgrow2 (by have := hB.size; simp; omega) (fun k hk => by have := (hownA.lt _ hk).1; omega), ((hX.below (bl_alloc (bl_refl _) _)).below (bl_alloc (bl_refl _) _)).grown hgrow2 (fun k hk => by have := (hownA.lt _ hk).1; omega)⟩
          rw [take_mapD hDd.out]
          exact hown2
    · have hne : n = ds.length := by omega
      subst hne
      rw [List.take_length] at hown
      go_wp2_with fail
      go_loopg [3, 24] es.length (fun g v i wr => ∃ m : Nat, g = es.length - m ∧ m ≤ es.length ∧ i = .int .i64 m ∧ wr.ownsRow (w.heap.size + 1) 140 1 v (ds.length + m) (ds.map holdD ++ (es.take m).map holdE) ∧ Below w.heap.size w wr ∧ Box wr w.heap.size #[.int .i64 ad, .int .i64 ln, .int .i64 ow, .int .i64 lo, .int .i64 hi, .slice da ds.length dc, .int .i64 nw, .slice ea es.length ec])
      case atStart => exact ⟨0, by omega, by omega, rfl, by simpa using hown, hB, hX⟩
      case round =>
        clear hown hB hX hsz hbox hD
        obtain ⟨m, hgm, hm, rfl, hown, hB, hX⟩ := hrel
        obtain ⟨hsz, hbox⟩ := id hX
        by_cases hlm : m < es.length
        · rcases hE with rfl | ⟨b, o, rfl, hlt, hc⟩
          · simp at hlm
          · obtain ⟨d, hd⟩ : ∃ d, es[m]? = some d := ⟨es[m], by simp [hlm]⟩
            obtain ⟨c0, c1, c2, c3, c4, c5, c6⟩ := hc.below hB hlt m d hd
            have hDd : Hid (es[m]? = some d) := hd
            clear hd
            have hb2 : b < wr.heap.size := by have := hB.size; omega
            have hownA := ownsRow_bl hown (bl_alloc (bl_refl wr) (.cells #[.int .i64 d.k, .int .i64 d.pr, .int .i64 d.pp, .int .i64 d.o, .int .i64 d.i, .int .i64 d.ip, .int .i64 d.l] 52))
            go_wp2_with (at_builtin; refine wpList_append_own _ rfl _ _ 137 rfl (w.heap.size + 1) 140 i0 .nilIface 1 16 Tryz.underlying137 hi0 hz0 hz1 hz2 rfl (by decide) _ _ _ rfl (ownsRow_bl hownA (bl_alloc (bl_refl _) (.cells #[holdE d] 140))) ⟨wr.heap.size + 1, 0, none⟩ 1 1 [holdE d] rfl rfl (fun j u h => cells1 (wr.alloc (.cells #[.int .i64 d.k, .int .i64 d.pr, .int .i64 d.pp, .int .i64 d.o, .int .i64 d.i, .int .i64 d.ip, .int .i64 d.l] 52)) _ (by simp) (holdE d) 140 j u h) (by intro u hu; simp at hu; subst hu; rfl) (by unfold maxLen; omega) (by omega) (by simp; omega) ?_; intro v' w2 hown2 hgrow2 hnil2)
            have hz3 := hgrow2.size
            simp only [World.size_alloc] at hz3
            go_roundg (es.length - (m + 1))
            case measure => omega
            case rel =>
              refine ⟨m + 1, rfl, by omega, by go_num, ?_, (bl_alloc (bl_alloc hB _) _).grown hgrow2 (by have := hB.size; simp; omega) (fun k hk => by have := (hownA.lt _ hk).1; omega), ((hX.below (bl_alloc (bl_refl _) _)).below (bl_alloc (bl_refl _) _)).grown hgrow2 (fun k hk => by have := (hownA.lt _ hk).1; omega)⟩
              rw [take_mapE hDd.out, ← List.append_assoc]
              exact hown2
        · have hne : m = es.length := by omega
          subst hne
          rw [List.take_length] at hown
          go_wp2_with fail
          go_ret
          exact ⟨⟨_, rfl, hown⟩, hB⟩
end Go.Proofs.YtcgjpmhjijmplaaGreatDoor

/- The program's natReceive and NatIn, walked. -/
namespace Go.Proofs.YtcgjpmhjijmplaaGreatDoor
open Go.ChangeShapes Go.WideShapes Go.ChangeAt Go.RowKit Go.Maps

theorem find_at {α : Type} {p : α → Bool} {xs : List α} {n : Nat} {x : α} (hx : xs[n]? = some x) (hp : p x = true) (hb : ∀ j y, j < n → xs[j]? = some y → p y = false) : xs.find? p = some x := by
  induction xs generalizing n with
  | nil => simp at hx
  | cons z zs ih =>
    cases n with
    | zero => simp at hx; subst hx; simp [hp]
    | succ n =>
      have h0 := hb 0 z (by omega) (by simp)
      simp only [List.find?_cons, h0]
      exact ih (by simpa using hx) (fun j y hj hy => hb (j + 1) y (by omega) (by simpa using hy))
theorem find_no {α : Type} {p : α → Bool} {xs : List α} (hb : ∀ (j : Nat) y, xs[j]? = some y → p y = false) : xs.find? p = none := by
  rw [List.find?_eq_none]
  intro x hx
  obtain ⟨j, hj⟩ := List.mem_iff_getElem?.1 hx
  rw [hb j x hj]; simp
theorem book_parts {ad ln ow lo hi nw : Int} {ds : List Dr} {es : List En} (h : bookB ad ln ow lo hi nw ds es = true) : (0 ≤ nw ∧ nw ≤ 1000000) ∧ ds.length ≤ 6 ∧ es.length ≤ 16 ∧ ∀ (i : Nat) d, es[i]? = some d → 0 ≤ d.l ∧ d.l ≤ nw := by
  simp only [bookB, Bool.and_eq_true] at h
  obtain ⟨⟨hf, hd⟩, he⟩ := h
  obtain ⟨_, _, _, _, hn⟩ := frameB_true hf
  simp only [doorsB, decide_eq_true_eq] at hd
  simp only [entriesB, decide_eq_true_eq] at he
  refine ⟨hn, hd.1, he.1, fun i d hi => ?_⟩
  have := (he.2 i d (get_lt hi) hi).1
  simp only [entryB, eokB, Bool.and_eq_true] at this
  exact inB_true this.1.2
theorem own_cell {w : World} {base g n cap : Nat} {e : TypeId} {xs : List Value} (h : w.ownsRow base e 1 (.slice (some ⟨g, 0, none⟩) n cap) n xs) (j : Nat) (x : Value) (hx : xs[j]? = some x) : w.cell? ⟨g, j, none⟩ = some x := by
  have := h.cells (g := g) rfl j x hx
  rwa [addr_add0] at this

end Go.Proofs.YtcgjpmhjijmplaaGreatDoor

/- The program's NatIn at every book and flow, walked. -/
namespace Go.Proofs.YtcgjpmhjijmplaaGreatDoor
open Go.ChangeShapes Go.WideShapes Go.ChangeAt Go.RowKit Go.Maps

theorem bl_set5 {w0 w : World} (h : Below w0.heap.size w0 w) {n : Nat} (hn : w0.heap.size ≤ n) (a b c d e : Value) : Below w0.heap.size w0 (((((w.setCell ⟨n, 0, none⟩ a).setCell ⟨n, 1, none⟩ b).setCell ⟨n, 2, none⟩ c).setCell ⟨n, 3, none⟩ d).setCell ⟨n, 4, none⟩ e) :=
  bl_set (bl_set (bl_set (bl_set (bl_set h hn a) hn b) hn c) hn d) hn e
end Go.Proofs.YtcgjpmhjijmplaaGreatDoor
