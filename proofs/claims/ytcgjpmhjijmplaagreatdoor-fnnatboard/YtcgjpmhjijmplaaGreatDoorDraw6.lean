/- The doors of a book that is being drawn; l5PutDoor at every such list; the specification's l5Frame, walked. -/
import Derived.Test.YtcgjpmhjijmplaaGreatDoorDraw5
import Derived.Test.YtcgjpmhjijmplaaGreatDoorStep
import Derived.Test.YtcgjpmhjijmplaaGreatDoorSpec5
import Derived.Deep.DeepCutAuto
import Derived.Deep.CutBlock
namespace Go.Proofs.YtcgjpmhjijmplaaGreatDoor
open Go.ChangeShapes Go.WideShapes Go.ChangeAt Go.RowKit

/-- A list of doors that was made since block lo: nil, or a row of its own. -/
def DoorsS (w : World) (lo : Nat) (da : Option Addr) (dn dc : Nat) (ds : List Dr) : Prop :=
  dn = ds.length ∧ ((da = none ∧ dc = 0 ∧ ds = []) ∨ ∃ g, da = some ⟨g, 0, none⟩ ∧ lo ≤ g ∧ g < w.heap.size ∧ dn ≤ dc ∧ DrCells w g 0 ds)
theorem DoorsS.at {w : World} {lo : Nat} {da : Option Addr} {dn dc : Nat} {ds : List Dr} (h : DoorsS w lo da dn dc ds) : DoorsAt w da dn ds := by
  refine ⟨h.1, ?_⟩
  rcases h.2 with ⟨_, _, h⟩ | ⟨g, h1, _, h3, _, h5⟩
  · exact Or.inl h
  · exact Or.inr ⟨g, 0, h1, h3, h5⟩
theorem DoorsS.below {w w' : World} {lo : Nat} {da : Option Addr} {dn dc : Nat} {ds : List Dr} (h : DoorsS w lo da dn dc ds) (hb : Below w.heap.size w w') : DoorsS w' lo da dn dc ds := by
  refine ⟨h.1, ?_⟩
  rcases h.2 with h | ⟨g, h1, h2, h3, h4, h5⟩
  · exact Or.inl h
  · exact Or.inr ⟨g, h1, h2, Nat.lt_of_lt_of_le h3 hb.size, h4, h5.below hb h3⟩
theorem DrCells.apart {R : Nat} {w w' : World} {b o : Nat} {ds : List Dr} (h : DrCells w b o ds) (ha : Apart R w w') (hlt : b < w.heap.size) (hn : b ≠ R) : DrCells w' b o ds := by
  intro i d hi
  obtain ⟨h0, h1, h2, h3⟩ := h i d hi
  refine ⟨?_, ?_, ?_, ?_⟩ <;> (rw [ha.cell hlt hn]; assumption)
theorem DoorsS.apart {R : Nat} {w w' : World} {lo : Nat} {da : Option Addr} {dn dc : Nat} {ds : List Dr} (h : DoorsS w lo da dn dc ds) (ha : Apart R w w') (hR : R < lo) : DoorsS w' lo da dn dc ds := by
  refine ⟨h.1, ?_⟩
  rcases h.2 with h | ⟨g, h1, h2, h3, h4, h5⟩
  · exact Or.inl h
  · exact Or.inr ⟨g, h1, h2, Nat.lt_of_lt_of_le h3 ha.size, h4, h5.apart ha h3 (by omega)⟩
theorem DoorsS.other {w : World} {lo : Nat} {da : Option Addr} {dn dc : Nat} {ds : List Dr} (h : DoorsS w lo da dn dc ds) {n j : Nat} (hn : n < lo) (v : Value) : DoorsS (w.setCell ⟨n, j, none⟩ v) lo da dn dc ds := by
  refine ⟨h.1, ?_⟩
  rcases h.2 with h | ⟨g, h1, h2, h3, h4, h5⟩
  · exact Or.inl h
  · refine Or.inr ⟨g, h1, h2, by simpa [World.setCell] using h3, h4, fun i d hi => ?_⟩
    have hc : ∀ o, (w.setCell ⟨n, j, none⟩ v).cell? ⟨g, o, none⟩ = w.cell? ⟨g, o, none⟩ := fun o => World.cell?_setCell_other _ _ _ _ (fun e => by injection e with e1; omega)
    obtain ⟨c0, c1, c2, c3⟩ := h5 i d hi
    exact ⟨(hc _).trans c0, (hc _).trans c1, (hc _).trans c2, (hc _).trans c3⟩
theorem DoorsS.mono {w : World} {lo lo' : Nat} {da : Option Addr} {dn dc : Nat} {ds : List Dr} (h : DoorsS w lo da dn dc ds) (hl : lo' ≤ lo) : DoorsS w lo' da dn dc ds := by
  refine ⟨h.1, ?_⟩
  rcases h.2 with h | ⟨g, h1, h2, h3⟩
  · exact Or.inl h
  · exact Or.inr ⟨g, h1, by omega, h3⟩
theorem DoorsS.other8 {w : World} {lo : Nat} {da : Option Addr} {dn dc : Nat} {ds : List Dr} (h : DoorsS w lo da dn dc ds) {n : Nat} (hn : n < lo) (a b c d e f g i : Value) : DoorsS ((((((((w.setCell ⟨n, 0, none⟩ a).setCell ⟨n, 1, none⟩ b).setCell ⟨n, 2, none⟩ c).setCell ⟨n, 3, none⟩ d).setCell ⟨n, 4, none⟩ e).setCell ⟨n, 5, none⟩ f).setCell ⟨n, 6, none⟩ g).setCell ⟨n, 7, none⟩ i) lo da dn dc ds :=
  (((((((h.other hn a).other hn b).other hn c).other hn d).other hn e).other hn f).other hn g).other hn i
theorem put_ret (lo : Nat) (da : Option Addr) (dn dc : Nat) (ds : List Dr) (d : Dr) (w : World) (h : DoorsS w lo da dn dc ds) (hl : ds.length ≤ 100) :
    Calls Tryz.prog 89 #[.slice da dn dc, .agg #[.int .i64 d.k, .int .i64 d.o, .int .i64 d.i, .int .i64 d.p]] w fun e w' => ∃ da' dc' ds', e = .returned (.slice da' (dn + 1) dc') ∧ DoorsS w' w.heap.size da' (dn + 1) dc' ds' ∧ Below w.heap.size w w' := by
  obtain ⟨rfl, h⟩ := h
  rcases h with ⟨rfl, rfl, rfl⟩ | ⟨g, rfl, h2, h3, h4, h5⟩
  · refine (putDoor_nil d w).mono ?_
    rintro e w' ⟨g, cap, rfl, q0, q1, q2, _, q4, q5⟩
    exact ⟨_, cap, putD 0 [] d, rfl, ⟨rfl, Or.inr ⟨g, rfl, by omega, q1, q2, q4⟩⟩, q5⟩
  · refine (putDoor_some g 0 ds dc d w h3 h5 hl h4).mono ?_
    rintro e w' ⟨g', cap, k, rfl, q0, q1, q2, _, q4, q5⟩
    exact ⟨_, cap, putD k ds d, rfl, ⟨by simp [putD]; omega, Or.inr ⟨g', rfl, by omega, q1, q2, q4⟩⟩, q5⟩

theorem port_rb (R : Nat) (n : Int) (w : World) (h : Rb w R n) (hn : n ≤ 1000000000) :
    Calls Tryz.prog 88 #[.pointer (some ⟨R, 0, none⟩)] w fun e w' => (∃ r, e = .returned (.int .i64 r) ∧ 1 ≤ r ∧ r ≤ 65535) ∧ Apart R w w' ∧ Rb w' R (n + 1) := by
  obtain ⟨p, h0, h1, h2⟩ := h
  refine (port_ret R p w h2 h0 (by omega)).mono ?_
  rintro e w' ⟨hr, ha, hd⟩
  exact ⟨hr, ha, p + 1, by omega, by omega, hd⟩
theorem peer_rb (R : Nat) (n : Int) (w : World) (h : Rb w R n) (hn : n ≤ 1000000000) :
    Calls Tryz.prog 90 #[.pointer (some ⟨R, 0, none⟩)] w fun e w' => (∃ r, e = .returned (.int .i64 r) ∧ (r = 51202 ∨ r = 51203 ∨ r = 65535 ∨ r = 61440)) ∧ Apart R w w' ∧ Rb w' R (n + 1) := by
  obtain ⟨p, h0, h1, h2⟩ := h
  refine (peer_ret R p w h2 h0 (by omega)).mono ?_
  rintro e w' ⟨hr, ha, hd⟩
  exact ⟨hr, ha, p + 1, by omega, by omega, hd⟩
def FFr (R q : Nat) (ad ln hi : Int) (da : Option Addr) (dn dc : Nat) : Nat → Value → World → Prop
  | 0, v, _ => v = .pointer (some ⟨R, 0, none⟩)
  | 1, v, _ => IsPick 2 v
  | 2, v, _ => IsInt bdT v
  | 3, v, w => IntsL R 5 bdT v w
  | 4, v, _ => v = .pointer (some ⟨R, 0, none⟩)
  | 5, v, _ => IsPick 5 v
  | 6, v, w => IntAt R bdT v w
  | 7, v, _ => IsInt bdT v
  | 8, v, _ => v = .pointer (some ⟨R, 0, none⟩)
  | 9, v, _ => v = .agg #[.int .i64 ad, .int .i64 ln, .int .i64 51201, .int .i64 40, .int .i64 hi, .slice da dn dc, .int .i64 0, .slice none 0 0]
  | 10, v, _ => IsInt bdT v
  | 11, v, _ => v = .pointer (some ⟨R, 0, none⟩)
  | 12, v, _ => IsInt bdT v
  | 13, v, _ => ∃ d : Dr, v = .agg #[.int .i64 d.k, .int .i64 d.o, .int .i64 d.i, .int .i64 d.p]
  | 14, v, w => ∃ m, v = .pointer (some ⟨m, 0, none⟩) ∧ q ≤ m ∧ m ≠ R ∧ Bx w m #[.int .i64 0, .int .i64 0, .int .i64 0, .int .i64 0]
  | _, _, _ => True
def FrameIs (ad ln hi : Int) : Prop := ((ad = 2560 ∧ ln = 8) ∨ (ad = 0 ∧ ln = 1) ∨ (ad = 2562 ∧ (ln = 15 ∨ ln = 16))) ∧ 40 ≤ hi ∧ hi ≤ 60
theorem frameIs_ok {ad ln hi : Int} (h : FrameIs ad ln hi) : frameB ad ln 51201 40 hi 0 = true := by
  obtain ⟨h, h1, h2⟩ := h
  rcases h with ⟨rfl, rfl⟩ | ⟨rfl, rfl⟩ | ⟨rfl, rfl | rfl⟩ <;> simp [frameB, inB, remB, insB, portsB, sz] <;> omega
theorem frameIs_book {ad ln hi : Int} (h : FrameIs ad ln hi) : bookB ad ln 51201 40 hi 0 [] [] = true := by
  simp [bookB, frameIs_ok h, doorsB, DoorsUp, entriesB, EntriesUp]

set_option maxRecDepth 20000 in
set_option maxHeartbeats 4000000 in
theorem frame_ret (R : Nat) (n : Int) (w : World) (h : Rb w R n) (hn : n ≤ 800000000) :
    Calls Tryz.prog 41 #[.pointer (some ⟨R, 0, none⟩)] w fun e w' => (∃ ad ln hi da dn dc ds, e = .returned (.agg #[.int .i64 ad, .int .i64 ln, .int .i64 51201, .int .i64 40, .int .i64 hi, .slice da dn dc, .int .i64 0, .slice none 0 0]) ∧ FrameIs ad ln hi ∧ bookB ad ln 51201 40 hi 0 ds [] = true ∧ DoorsS w' w.heap.size da dn dc ds ∧ dn ≤ 3) ∧ Apart R w w' ∧ Rb w' R (n + 200) := by
  have hR := h.lt
  have HA : Apart R w (w.alloc (.cells #[.int .i64 0, .int .i64 0, .int .i64 0, .int .i64 0, .int .i64 0, .slice none 0 0, .int .i64 0, .slice none 0 0] 26)) := ap_alloc (ap_refl R w) _
  have HR := h.below (bl_alloc (bl_refl w) (.cells #[.int .i64 0, .int .i64 0, .int .i64 0, .int .i64 0, .int .i64 0, .slice none 0 0, .int .i64 0, .slice none 0 0] 26))
  have bx := Bx.new w #[.int .i64 0, .int .i64 0, .int .i64 0, .int .i64 0, .int .i64 0, .slice none 0 0, .int .i64 0, .slice none 0 0] 26
  go_enter Tryz.func41, Tryz.ntmps41
  go_wp2_with fail
  refine (pick_rb R _ 4 _ HR (by omega) (by omega) (by omega)).mono ?_
  rintro e w1 ⟨⟨x, rfl, x0, x1⟩, ha, hr⟩
  have bx := bx.apart ha (by omega)
  have HA := ap_trans HA ha
  clear HR ha h
  have hs := HA.size
  have hnb := bx.1.1
  have HA := ap_alloc HA (.cells #[.int .i64 2560, .int .i64 8, .int .i64 51201, .int .i64 40, .int .i64 (40 + x), .slice none 0 0, .int .i64 0, .slice none 0 0] 26)
  have HR := hr.below (bl_alloc (bl_refl _) (.cells #[.int .i64 2560, .int .i64 8, .int .i64 51201, .int .i64 40, .int .i64 (40 + x), .slice none 0 0, .int .i64 0, .slice none 0 0] 26))
  have bb := Bx.new w1 #[.int .i64 2560, .int .i64 8, .int .i64 51201, .int .i64 40, .int .i64 (40 + x), .slice none 0 0, .int .i64 0, .slice none 0 0] 26
  have bx := bx.below (bl_alloc (bl_refl _) (.cells #[.int .i64 2560, .int .i64 8, .int .i64 51201, .int .i64 40, .int .i64 (40 + x), .slice none 0 0, .int .i64 0, .slice none 0 0] 26))
  go_wp2_with fail
  refine (pick_rb R _ 6 _ HR (by omega) (by omega) (by omega)).mono ?_
  rintro e w2 ⟨⟨y, rfl, y0, y1⟩, ha, hr2⟩
  have bx := bx.apart ha (by omega)
  have bb := bb.apart ha (by omega)
  have HA := ap_trans HA ha
  clear HR ha hr
  have HR := hr2
  have hs := HA.size
  generalize w1.heap.size = nb at *
  clear hr2
  go_upto_block 0 with fail
  go_cut [] (fun wc => ∃ ad ln hi, FrameIs ad ln hi ∧ Bx wc nb #[.int .i64 ad, .int .i64 ln, .int .i64 51201, .int .i64 40, .int .i64 hi, .slice none 0 0, .int .i64 0, .slice none 0 0] ∧ Bx wc w.heap.size #[.int .i64 0, .int .i64 0, .int .i64 0, .int .i64 0, .int .i64 0, .slice none 0 0, .int .i64 0, .slice none 0 0] ∧ Apart R w wc ∧ Rb wc R (n + 3))
  case first =>
    obtain ⟨bb1, bb2⟩ := id bb
    obtain ⟨hb1, hb2⟩ := bb1
    rcases (show y = 0 ∨ y = 1 ∨ y = 2 ∨ 3 ≤ y by omega) with rfl | rfl | rfl | hy3
    · go_wp2_with fail
      go_meet
      refine ⟨0, 1, 40 + x, ⟨by omega, by omega, by omega⟩, ?_, (bx.other (by omega) _).other (by omega) _, ap_new (ap_new HA (by omega) _) (by omega) _, ((HR.set (by omega) _).set (by omega) _).le (by omega)⟩
      exact (bb.set (by simp) _).set (by simp) _
    · go_wp2_with fail
      refine (pick_rb R _ 2 _ (HR.set (by omega) _) (by omega) (by omega) (by omega)).mono ?_
      rintro e w3 ⟨⟨z, rfl, z0, z1⟩, ha, hr3⟩
      have bb3 := (bb.set (j := 0) (by simp) (.int .i64 2562)).apart ha (by omega)
      have bx3 := (bx.other (j := 0) (m := nb) (by omega) (.int .i64 2562)).apart ha (by omega)
      have HA3 := ap_trans (ap_new HA (by omega) _) ha
      clear bb bx HA HR ha hb1 hb2 bb2
      obtain ⟨⟨hb1, hb2⟩, bb2⟩ := id bb3
      go_wp2_with fail
      go_meet
      refine ⟨2562, 15 + z, 40 + x, ⟨by omega, by omega, by omega⟩, ?_, bx3.other (by omega) _, ap_new HA3 (by omega) _, (hr3.set (by omega) _).le (by omega)⟩
      exact bb3.set (by simp) _
    · go_wp2_with fail
      go_meet
      refine ⟨2560, 8, 60, ⟨by omega, by omega, by omega⟩, ?_, bx.other (by omega) _, ap_new HA (by omega) _, (HR.set (by omega) _).le (by omega)⟩
      exact bb.set (by simp) _
    · go_wp2_with fail
      go_meet
      exact ⟨2560, 8, 40 + x, ⟨by omega, by omega, by omega⟩, bb, bx, HA, HR.le (by omega)⟩
  case rest =>
    clear bb bx HA HR hs y0 y1 x0 x1
    obtain ⟨ad, ln, hi, hF, bb, bx, HA, HR⟩ := hcut
    have hs := HA.size
    go_wp2_with fail
    refine (pick_rb R _ 4 _ HR (by omega) (by omega) (by omega)).mono ?_
    rintro e w3 ⟨⟨m, rfl, m0, m1⟩, ha, hr3⟩
    have bx := bx.apart ha (by omega)
    have bb := bb.apart ha (by omega)
    have HA := ap_trans HA ha
    clear HR ha
    have HR := hr3
    clear hr3
    go_wp2_with fail
    have hR1 : R < w.heap.size := hR
    go_loopg [4] m.toNat (fun g s4 wr => ∃ (k : Int) (da : Option Addr) (dn dc : Nat) (ds : List Dr), g = k.toNat ∧ 0 ≤ k ∧ k ≤ 3 ∧ s4 = .int .i64 k ∧ (dn : Int) + k ≤ 3 ∧ Bx wr nb #[.int .i64 ad, .int .i64 ln, .int .i64 51201, .int .i64 40, .int .i64 hi, .slice da dn dc, .int .i64 0, .slice none 0 0] ∧ Bx wr w.heap.size #[.int .i64 0, .int .i64 0, .int .i64 0, .int .i64 0, .int .i64 0, .slice none 0 0, .int .i64 0, .slice none 0 0] ∧ Apart R w wr ∧ Rb wr R (n + 4 + (3 - k) * 60) ∧ DoorsS wr (w.heap.size + 1) da dn dc ds ∧ bookB ad ln 51201 40 hi 0 ds [] = true)
    case atStart => exact ⟨m, none, 0, 0, [], rfl, m0, by omega, rfl, by omega, bb, bx, HA, HR.le (by omega), ⟨rfl, Or.inl ⟨rfl, rfl, rfl⟩⟩, frameIs_book hF⟩
    case round =>
      clear bb bx HA HR hs
      obtain ⟨k, da, dn, dc, ds, hg, k0, k3, rfl, hdn, bb, bx, HA, HR, HD, hbk⟩ := hrel
      have hs := HA.size
      have hbk : Hid (bookB ad ln 51201 40 hi 0 ds [] = true) := hbk
      have had : 0 ≤ ad ∧ ad ≤ 65535 := by
        rcases hF.1 with h | h | h <;> omega
      by_cases hk : 0 < k
      · go_upto_region 14 with fail
        go_cut [5] (fun s5 wc => ∃ (h : Nat) (d : Dr), s5 = .pointer (some ⟨h, 0, none⟩) ∧ w.heap.size ≤ h ∧ h ≠ nb ∧ Bx wc h #[.int .i64 d.k, .int .i64 d.o, .int .i64 d.i, .int .i64 d.p] ∧ Bx wc nb #[.int .i64 ad, .int .i64 ln, .int .i64 51201, .int .i64 40, .int .i64 hi, .slice da dn dc, .int .i64 0, .slice none 0 0] ∧ Bx wc w.heap.size #[.int .i64 0, .int .i64 0, .int .i64 0, .int .i64 0, .int .i64 0, .slice none 0 0, .int .i64 0, .slice none 0 0] ∧ Apart R w wc ∧ Rb wc R (n + 4 + (3 - k) * 60 + 50) ∧ DoorsS wc (w.heap.size + 1) da dn dc ds)
        case first =>
          clear hbk hdn hg
          have hM : ∀ w w', Box w nb #[.int .i64 ad, .int .i64 ln, .int .i64 51201, .int .i64 40, .int .i64 hi, .slice da dn dc, .int .i64 0, .slice none 0 0] → Apart R w w' → Box w' nb #[.int .i64 ad, .int .i64 ln, .int .i64 51201, .int .i64 40, .int .i64 hi, .slice da dn dc, .int .i64 0, .slice none 0 0] := fun w w' h ha => h.apart ha (by omega)
          have hnw := bb.1.1
          refine region_last [33, 34, 35, 36, 37, 38, 39, 40, 41, 42, 43, 44, 45, 46, 5, 100015] 15 (FFr R wr.heap.size ad ln hi da dn dc) (JS R wr (n + 4 + (3 - k) * 60) (fun w => Box w nb #[.int .i64 ad, .int .i64 ln, .int .i64 51201, .int .i64 40, .int .i64 hi, .slice da dn dc, .int .i64 0, .slice none 0 0])) (Apart R) (by kernel_rfl) (by kernel_rfl) (by decide) (by kernel_rfl) (by kernel_rfl) _ rfl ?_ (JS.zero HR bb.1 hM) ?_ ?_
          · intro i v w w' hR h
            rcases i with _ | _ | _ | _ | _ | _ | _ | _ | _ | _ | _ | _ | _ | _ | _ | _ | i
            all_goals first
              | exact h
              | exact IntsL.apart h hR
              | exact IntAt.apart h hR
              | (obtain ⟨m, h1, h2, h3, h4⟩ := h; exact ⟨m, h1, h2, h3, h4.apart hR h3⟩)
          · refine all_lt_succ (all_lt_succ (all_lt_succ (all_lt_succ (all_lt_succ (all_lt_succ (all_lt_succ (all_lt_succ (all_lt_succ (all_lt_succ (all_lt_succ (all_lt_succ (all_lt_succ (all_lt_succ (all_lt_succ (all_lt_zero _) ?_) ?_) ?_) ?_) ?_) ?_) ?_) ?_) ?_) ?_) ?_) ?_) ?_) ?_) ?_
            all_goals (refine stepOk_at _ rfl ?_; intro vs w c hv hc hJ hdep K hK; have hc : c < 16 := hc; obtain ⟨v0, v1, v2, v3, v4, v5, v6, v7, v8, v9, v10, v11, v12, v13, v14, v15, rfl⟩ := len16 hv; have dr := fun v h => hK.out v w (ap_refl _ _) hJ.next h)
            · exact mid_val _ w (by kernel_rfl) (by kernel_rfl) (dr _ rfl)
            · obtain rfl := dep hdep 0 (by kernel_rfl)
              exact mid_pick R 2 hJ.2.1 (by omega) (by omega) (by omega) (by kernel_rfl) (by kernel_rfl) fun v w' h ha hr => hK.out v w' ha (hJ.far hM ha hr) h
            · obtain ⟨x, rfl, x0, x1⟩ := dep hdep 1 (by kernel_rfl)
              exact mid_val (.int .i64 (IntKind.i64.wrap (1 + x))) w (by kernel_rfl) (by kernel_rfl) (dr _ ⟨_, rfl, trivial⟩)
            · exact mid_val (.slice (some ⟨w.heap.size, 0, none⟩) 5 5) (w.alloc (.cells (ofI [1, 22, 39, 61, 65535]) 3)) (by kernel_rfl) (by kernel_rfl) (hK.out _ _ (ap_alloc (ap_refl _ _) _) (hJ.more hM _) (ints_new [1, 22, 39, 61, 65535] hJ.2.1.lt (fun _ _ => trivial)))
            · exact mid_val _ w (by kernel_rfl) (by kernel_rfl) (dr _ rfl)
            · obtain rfl := dep hdep 4 (by kernel_rfl)
              exact mid_pick R 5 hJ.2.1 (by omega) (by omega) (by omega) (by kernel_rfl) (by kernel_rfl) fun v w' h ha hr => hK.out v w' ha (hJ.far hM ha hr) h
            · obtain ⟨n, rfl, hn, hl, hc⟩ := dep hdep 3 (by kernel_rfl)
              obtain ⟨r, rfl, r0, r1⟩ := dep hdep 5 (by kernel_rfl)
              exact mid_ix hc hn hl r0 (by omega) (by kernel_rfl) (by kernel_rfl) fun v h => dr v h
            · obtain ⟨n, j, x, rfl, hn, hl, hc, hx⟩ := dep hdep 6 (by kernel_rfl)
              exact mid_ld (by kernel_rfl) (by kernel_rfl) (ld_int hc) (dr _ ⟨x, rfl, hx⟩)
            · exact mid_val _ w (by kernel_rfl) (by kernel_rfl) (dr _ rfl)
            · have hbx := hJ.2.2.2
              refine mid_val (.agg #[.int .i64 ad, .int .i64 ln, .int .i64 51201, .int .i64 40, .int .i64 hi, .slice da dn dc, .int .i64 0, .slice none 0 0]) w (by kernel_rfl) ?_ (dr _ rfl)
              simp only [setAll, List.setIfInBounds_toArray, List.set_cons_zero, List.set_cons_succ, List.set_nil]
              go_simp
            · obtain rfl := dep hdep 8 (by kernel_rfl)
              obtain rfl := dep hdep 9 (by kernel_rfl)
              refine mid_call 87 (by kernel_rfl) (inner_ret R _ ad ln 51201 40 hi 0 da dn dc none 0 0 w hJ.2.1 (by omega) (by omega) (by omega)) (by kernel_rfl) ?_
              rintro e w' ⟨⟨i, rfl, -⟩, ha, hr⟩
              exact ⟨_, rfl, hK.out _ _ ha ⟨ap_trans hJ.1 ha, hr.le (by omega), hM _ _ hJ.2.2 ha⟩ ⟨i, rfl, trivial⟩⟩
            · exact mid_val _ w (by kernel_rfl) (by kernel_rfl) (dr _ rfl)
            · obtain rfl := dep hdep 11 (by kernel_rfl)
              refine mid_call 88 (by kernel_rfl) (port_rb R _ w hJ.2.1 (by omega)) (by kernel_rfl) ?_
              rintro e w' ⟨⟨i, rfl, -⟩, ha, hr⟩
              exact ⟨_, rfl, hK.out _ _ ha ⟨ap_trans hJ.1 ha, hr.le (by omega), hM _ _ hJ.2.2 ha⟩ ⟨i, rfl, trivial⟩⟩
            · obtain ⟨x0, rfl, -⟩ := dep hdep 2 (by kernel_rfl)
              obtain ⟨x1, rfl, -⟩ := dep hdep 7 (by kernel_rfl)
              obtain ⟨x2, rfl, -⟩ := dep hdep 10 (by kernel_rfl)
              obtain ⟨x3, rfl, -⟩ := dep hdep 12 (by kernel_rfl)
              exact mid_val (.agg #[.int .i64 x0, .int .i64 x1, .int .i64 x2, .int .i64 x3]) w (by kernel_rfl) (by kernel_rfl) (dr _ ⟨⟨x0, x1, x2, x3⟩, rfl⟩)
            · exact mid_val (.pointer (some ⟨w.heap.size, 0, none⟩)) (w.alloc (.cells #[.int .i64 0, .int .i64 0, .int .i64 0, .int .i64 0] 85)) (by kernel_rfl) (by kernel_rfl) (hK.out _ _ (ap_alloc (ap_refl _ _) _) (hJ.more hM _) ⟨w.heap.size, rfl, hJ.1.size, Nat.ne_of_gt hJ.2.1.lt, Bx.new _ _ _⟩)
          · intro vs w hv hJ hall
            obtain ⟨v0, v1, v2, v3, v4, v5, v6, v7, v8, v9, v10, v11, v12, v13, v14, v15, rfl⟩ := len16 hv
            obtain ⟨d, rfl⟩ := hall 13 (by decide)
            obtain ⟨m, rfl, hm1, hm2, bh⟩ := hall 14 (by decide)
            obtain ⟨HB, HRw, -⟩ := hJ
            clear hall hv
            obtain ⟨⟨bh1, bh2⟩, bh3⟩ := id bh
            refine ⟨?_⟩
            simp only [setAll, List.setIfInBounds_toArray, List.set_cons_zero, List.set_cons_succ, List.set_nil]
            go_simp
            have bh := bh.set4 (.int .i64 d.k) (.int .i64 d.o) (.int .i64 d.i) (.int .i64 d.p)
            have HB := ap_new4 HB hm1 (.int .i64 d.k) (.int .i64 d.o) (.int .i64 d.i) (.int .i64 d.p)
            have HR := HRw.set4 (n := m) (Nat.lt_of_lt_of_le (show R < wr.heap.size by omega) hm1) (.int .i64 d.k) (.int .i64 d.o) (.int .i64 d.i) (.int .i64 d.p)
            go_wp2_with fail
            go_meet
            exact ⟨_, d, rfl, by omega, by omega, bh, bb.apart HB (by omega), bx.apart HB (by omega), ap_trans HA HB, HR.le (by omega), HD.apart HB (by omega)⟩
        case rest =>
          clear bb bx HA HR HD hs
          obtain ⟨h, d, rfl, hh1, hh2, bh, bb, bx, HA, HR, HD⟩ := hcut
          have hs := HA.size
          have hln : ds.length ≤ 100 := by have := HD.1; omega
          have hBl := bl_alloc (bl_refl wc) (.cells #[.int .i64 ad, .int .i64 ln, .int .i64 51201, .int .i64 40, .int .i64 hi, .slice da dn dc, .int .i64 0, .slice none 0 0] 26)
          have bn := Bx.new wc #[.int .i64 ad, .int .i64 ln, .int .i64 51201, .int .i64 40, .int .i64 hi, .slice da dn dc, .int .i64 0, .slice none 0 0] 26
          have HP : Hid (Calls Tryz.prog _ _ _ _) := put_ret (w.heap.size + 1) da dn dc ds d _ (HD.below hBl) hln
          obtain ⟨⟨hb1, hb2⟩, hb3⟩ := id bb
          obtain ⟨⟨hh3, hh4⟩, hh5⟩ := id bh
          go_wp2_with fail
          refine HP.out.mono ?_
          rintro e w4 ⟨da', dc', ds', rfl, HD4, hb4⟩
          clear HP hb1 hb2 hb3 hh3 hh4 hh5
          have HA4 := ap_trans (ap_trans HA (ap_of_bl hBl)) (ap_of_bl hb4)
          have HR4 := (HR.below hBl).below hb4
          have bb4 := (bb.below hBl).below hb4
          have bx4 := (bx.below hBl).below hb4
          have bn4 := bn.below hb4
          have HO4 := (HD.below hBl).below hb4
          simp only [World.size_alloc] at HD4
          have hnx := bb.1.1
          have hBl0 := hBl
          have hb40 := hb4
          clear hBl hb4 bn bb bx HA HR bh
          have bn5 := bn4.set (j := 5) (by simp) (.slice da' (dn + 1) dc')
          have HD5 := HD4.other (n := wc.heap.size) (j := 5) (by omega) (.slice da' (dn + 1) dc')
          have HB5 : Hid (Calls Tryz.prog _ _ _ _) := specBookOk_ret ad ln 51201 40 hi 0 da' (dn + 1) dc' none 0 0 ds' [] _ HD5.at ⟨rfl, Or.inl rfl⟩
          obtain ⟨⟨q1, q2⟩, q3⟩ := id bn4
          go_wp2_with fail
          refine HB5.out.mono ?_
          rintro e w5 ⟨rfl, hb5⟩
          clear HB5 q1 q2 q3
          have hx4 : w.heap.size ≤ wc.heap.size := hs
          have HA5 := ap_trans (ap_new HA4 hx4 (j := 5) (.slice da' (dn + 1) dc')) (ap_of_bl hb5)
          have HR5 := (HR4.set (m := wc.heap.size) (j := 5) (by omega) (.slice da' (dn + 1) dc')).below hb5
          have bb5 := (bb4.other (m := wc.heap.size) (j := 5) (by omega) (.slice da' (dn + 1) dc')).below hb5
          have bx5 := (bx4.other (m := wc.heap.size) (j := 5) (by omega) (.slice da' (dn + 1) dc')).below hb5
          have bn6 : Bx w5 wc.heap.size #[.int .i64 ad, .int .i64 ln, .int .i64 51201, .int .i64 40, .int .i64 hi, .slice da' (dn + 1) dc', .int .i64 0, .slice none 0 0] := bn5.below hb5
          have HD6 := HD5.below hb5
          have HO6 := HD.apart (R := R) (ap_trans (ap_new (ap_trans (ap_of_bl hBl0) (ap_of_bl hb40)) (Nat.le_refl _) (j := 5) (.slice da' (dn + 1) dc')) (ap_of_bl hb5)) (by omega)
          clear hb5 bn4 bn5 HA4 HR4 bb4 bx4 HD4 HD5 hBl0 hb40 HD HO4
          by_cases hok : bookB ad ln 51201 40 hi 0 ds' [] = true
          · obtain ⟨⟨q1, q2⟩, q3⟩ := id bn6
            obtain ⟨⟨p1, p2⟩, p3⟩ := id bb5
            have hok' : Hid (bookB ad ln 51201 40 hi 0 ds' [] = true) := hok
            go_wp2_with fail
            go_roundg (k - 1).toNat
            case measure => omega
            case rel => exact ⟨k - 1, da', dn + 1, dc', ds', rfl, by omega, by omega, by go_num, by omega, bb5.set8 (.int .i64 ad) (.int .i64 ln) (.int .i64 51201) (.int .i64 40) (.int .i64 hi) (.slice da' (dn + 1) dc') (.int .i64 0) (.slice none 0 0), bx5.other8 (by omega) (.int .i64 ad) (.int .i64 ln) (.int .i64 51201) (.int .i64 40) (.int .i64 hi) (.slice da' (dn + 1) dc') (.int .i64 0) (.slice none 0 0), ap_new8 HA5 (by omega) (.int .i64 ad) (.int .i64 ln) (.int .i64 51201) (.int .i64 40) (.int .i64 hi) (.slice da' (dn + 1) dc') (.int .i64 0) (.slice none 0 0), (HR5.set8 (by omega) (.int .i64 ad) (.int .i64 ln) (.int .i64 51201) (.int .i64 40) (.int .i64 hi) (.slice da' (dn + 1) dc') (.int .i64 0) (.slice none 0 0)).le (by omega), (HD6.other8 (by omega) (.int .i64 ad) (.int .i64 ln) (.int .i64 51201) (.int .i64 40) (.int .i64 hi) (.slice da' (dn + 1) dc') (.int .i64 0) (.slice none 0 0)).mono (by omega), hok'.out⟩
          · have hok2 : bookB ad ln 51201 40 hi 0 ds' [] = false := by simpa using hok
            go_wp2_with fail
            go_roundg (k - 1).toNat
            case measure => omega
            case rel => exact ⟨k - 1, da, dn, dc, ds, rfl, by omega, by omega, by go_num, by omega, bb5, bx5, HA5, HR5.le (by omega), HO6, hbk.out⟩
      · obtain ⟨⟨q1, q2⟩, q3⟩ := id bx
        obtain ⟨⟨p1, p2⟩, p3⟩ := id bb
        go_wp2_with fail
        have hbv := bx.set8 (.int .i64 ad) (.int .i64 ln) (.int .i64 51201) (.int .i64 40) (.int .i64 hi) (.slice da dn dc) (.int .i64 0) (.slice none 0 0)
        obtain ⟨⟨r1, r2⟩, r3⟩ := id hbv
        refine bodyPost_ret (v := .agg #[.int .i64 ad, .int .i64 ln, .int .i64 51201, .int .i64 40, .int .i64 hi, .slice da dn dc, .int .i64 0, .slice none 0 0]) (by simp [results, Tryz.results41, go_sem, r2]) rfl ⟨⟨ad, ln, hi, da, dn, dc, rfl, hF, ds, hbk.out, ?_, by omega⟩, ?_, ?_⟩
        · exact (HD.other8 (n := w.heap.size) (by omega) (.int .i64 ad) (.int .i64 ln) (.int .i64 51201) (.int .i64 40) (.int .i64 hi) (.slice da dn dc) (.int .i64 0) (.slice none 0 0)).mono (by omega)
        · exact ap_new8 HA (Nat.le_refl _) (.int .i64 ad) (.int .i64 ln) (.int .i64 51201) (.int .i64 40) (.int .i64 hi) (.slice da dn dc) (.int .i64 0) (.slice none 0 0)
        · exact (HR.set8 hR (.int .i64 ad) (.int .i64 ln) (.int .i64 51201) (.int .i64 40) (.int .i64 hi) (.slice da dn dc) (.int .i64 0) (.slice none 0 0)).le (by omega)
end Go.Proofs.YtcgjpmhjijmplaaGreatDoor
