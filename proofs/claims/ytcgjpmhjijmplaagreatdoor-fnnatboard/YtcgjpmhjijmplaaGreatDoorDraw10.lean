/- Draws: the specification's l5OutFlow at every book, walked. -/
import Derived.Test.YtcgjpmhjijmplaaGreatDoorJoinP
import Derived.Test.YtcgjpmhjijmplaaGreatDoorDraw6
import Derived.Test.YtcgjpmhjijmplaaGreatDoorSpec4
namespace Go.Proofs.YtcgjpmhjijmplaaGreatDoor
open Go.ChangeShapes Go.WideShapes Go.ChangeAt Go.RowKit

/-- Doors in memory from block lo on. -/
def DoorsL (w : World) (lo : Nat) (da : Option Addr) (dn : Nat) (ds : List Dr) : Prop := dn = ds.length ∧ (ds = [] ∨ ∃ b o, da = some ⟨b, o, none⟩ ∧ lo ≤ b ∧ b < w.heap.size ∧ DrCells w b o ds)
def EntriesL (w : World) (lo : Nat) (ea : Option Addr) (en : Nat) (es : List En) : Prop := en = es.length ∧ (es = [] ∨ ∃ b o, ea = some ⟨b, o, none⟩ ∧ lo ≤ b ∧ b < w.heap.size ∧ EnCells w b o es)
theorem EnCells.apart {R : Nat} {w w' : World} {b o : Nat} {es : List En} (h : EnCells w b o es) (ha : Apart R w w') (hlt : b < w.heap.size) (hn : b ≠ R) : EnCells w' b o es := by
  intro i d hi
  obtain ⟨h0, h1, h2, h3, h4, h5, h6⟩ := h i d hi
  refine ⟨?_, ?_, ?_, ?_, ?_, ?_, ?_⟩ <;> (rw [ha.cell hlt hn]; assumption)
theorem DoorsL.apart {R : Nat} {w w' : World} {lo : Nat} {da : Option Addr} {dn : Nat} {ds : List Dr} (h : DoorsL w lo da dn ds) (ha : Apart R w w') (hR : R < lo) : DoorsL w' lo da dn ds := by
  refine ⟨h.1, ?_⟩
  rcases h.2 with h | ⟨g, o, h1, h2, h3, h4⟩
  · exact Or.inl h
  · exact Or.inr ⟨g, o, h1, h2, Nat.lt_of_lt_of_le h3 ha.size, h4.apart ha h3 (by omega)⟩
theorem EntriesL.apart {R : Nat} {w w' : World} {lo : Nat} {da : Option Addr} {dn : Nat} {ds : List En} (h : EntriesL w lo da dn ds) (ha : Apart R w w') (hR : R < lo) : EntriesL w' lo da dn ds := by
  refine ⟨h.1, ?_⟩
  rcases h.2 with h | ⟨g, o, h1, h2, h3, h4⟩
  · exact Or.inl h
  · exact Or.inr ⟨g, o, h1, h2, Nat.lt_of_lt_of_le h3 ha.size, h4.apart ha h3 (by omega)⟩
theorem DoorsL.at {w : World} {lo : Nat} {da : Option Addr} {dn : Nat} {ds : List Dr} (h : DoorsL w lo da dn ds) : DoorsAt w da dn ds := by
  refine ⟨h.1, ?_⟩
  rcases h.2 with h | ⟨g, o, h1, h2, h3, h4⟩
  · exact Or.inl h
  · exact Or.inr ⟨g, o, h1, h3, h4⟩
theorem EntriesL.at {w : World} {lo : Nat} {da : Option Addr} {dn : Nat} {ds : List En} (h : EntriesL w lo da dn ds) : EntriesAt w da dn ds := by
  refine ⟨h.1, ?_⟩
  rcases h.2 with h | ⟨g, o, h1, h2, h3, h4⟩
  · exact Or.inl h
  · exact Or.inr ⟨g, o, h1, h3, h4⟩
/-- A block with its cells, and doors (entries) in another one. -/
def MemD (w : World) (nb : Nat) (C : Array Value) (g o : Nat) (ds : List Dr) : Prop := Box w nb C ∧ g < w.heap.size ∧ DrCells w g o ds
def MemE (w : World) (nb : Nat) (C : Array Value) (g o : Nat) (es : List En) : Prop := Box w nb C ∧ g < w.heap.size ∧ EnCells w g o es
theorem MemD.below {w w' : World} {nb g o : Nat} {C : Array Value} {ds : List Dr} (h : MemD w nb C g o ds) (hb : Below w.heap.size w w') : MemD w' nb C g o ds := ⟨h.1.below hb, Nat.lt_of_lt_of_le h.2.1 hb.size, h.2.2.below hb h.2.1⟩
theorem MemE.below {w w' : World} {nb g o : Nat} {C : Array Value} {es : List En} (h : MemE w nb C g o es) (hb : Below w.heap.size w w') : MemE w' nb C g o es := ⟨h.1.below hb, Nat.lt_of_lt_of_le h.2.1 hb.size, h.2.2.below hb h.2.1⟩
theorem MemD.apart {R : Nat} {w w' : World} {nb g o : Nat} {C : Array Value} {ds : List Dr} (h : MemD w nb C g o ds) (ha : Apart R w w') (h1 : nb ≠ R) (h2 : g ≠ R) : MemD w' nb C g o ds := ⟨h.1.apart ha h1, Nat.lt_of_lt_of_le h.2.1 ha.size, h.2.2.apart ha h.2.1 h2⟩
theorem MemE.apart {R : Nat} {w w' : World} {nb g o : Nat} {C : Array Value} {es : List En} (h : MemE w nb C g o es) (ha : Apart R w w') (h1 : nb ≠ R) (h2 : g ≠ R) : MemE w' nb C g o es := ⟨h.1.apart ha h1, Nat.lt_of_lt_of_le h.2.1 ha.size, h.2.2.apart ha h.2.1 h2⟩
theorem ap_set5 {R : Nat} {w0 w : World} (h : Apart R w0 w) {n : Nat} (hn : w0.heap.size ≤ n) (a b c d e : Value) : Apart R w0 (World.setCell (World.setCell (World.setCell (World.setCell (World.setCell w ⟨n, 0, none⟩ (a)) ⟨n, 1, none⟩ (b)) ⟨n, 2, none⟩ (c)) ⟨n, 3, none⟩ (d)) ⟨n, 4, none⟩ (e)) :=
  ap_new (ap_new (ap_new (ap_new (ap_new h hn a) hn b) hn c) hn d) hn e
theorem ap_set4 {R : Nat} {w0 w : World} (h : Apart R w0 w) {n : Nat} (hn : w0.heap.size ≤ n) (a b c d : Value) : Apart R w0 (World.setCell (World.setCell (World.setCell (World.setCell w ⟨n, 0, none⟩ (a)) ⟨n, 1, none⟩ (b)) ⟨n, 2, none⟩ (c)) ⟨n, 3, none⟩ (d)) :=
  ap_new (ap_new (ap_new (ap_new h hn a) hn b) hn c) hn d
theorem rb_set4 {w : World} {R : Nat} {k : Int} (h : Rb w R k) {n : Nat} (hn : R < n) (a b c d : Value) : Rb (World.setCell (World.setCell (World.setCell (World.setCell w ⟨n, 0, none⟩ (a)) ⟨n, 1, none⟩ (b)) ⟨n, 2, none⟩ (c)) ⟨n, 3, none⟩ (d)) R k :=
  (((h.set hn a).set hn b).set hn c).set hn d
theorem Bx.other4 {w : World} {n m : Nat} {C : Array Value} (h : Bx w m C) (hm : m ≠ n) (a b c d : Value) : Bx (World.setCell (World.setCell (World.setCell (World.setCell w ⟨n, 0, none⟩ (a)) ⟨n, 1, none⟩ (b)) ⟨n, 2, none⟩ (c)) ⟨n, 3, none⟩ (d)) m C :=
  (((h.other hm a).other hm b).other hm c).other hm d
theorem rb_set5 {w : World} {R : Nat} {k : Int} (h : Rb w R k) {n : Nat} (hn : R < n) (a b c d e : Value) : Rb (World.setCell (World.setCell (World.setCell (World.setCell (World.setCell w ⟨n, 0, none⟩ (a)) ⟨n, 1, none⟩ (b)) ⟨n, 2, none⟩ (c)) ⟨n, 3, none⟩ (d)) ⟨n, 4, none⟩ (e)) R k :=
  ((((h.set hn a).set hn b).set hn c).set hn d).set hn e
/-- What is known of a flow that was drawn to go out, not by a door or an entry. -/
def OutIs (ad ln k a ap b bp : Int) : Prop := (1 ≤ k ∧ k ≤ 7) ∧ (inB ln 0 16 = true → insB ad ln a = true) ∧ (1 ≤ ap ∧ ap ≤ 65535) ∧ (b = 51202 ∨ b = 51203 ∨ b = 65535 ∨ b = 61440) ∧ (bp = 80 ∨ bp = 443)
/-- .. or by a door or an entry. -/
def OutBy (ad ln : Int) (ds : List Dr) (es : List En) (k a ap b bp : Int) : Prop := (OutIs ad ln k a ap b bp) ∨ (∃ d ∈ ds, k = d.k ∧ a = d.i ∧ ap = d.p ∧ (b = 51202 ∨ b = 51203 ∨ b = 65535 ∨ b = 61440) ∧ (bp = 80 ∨ bp = 443)) ∨ ∃ e ∈ es, k = e.k ∧ a = e.i ∧ ap = e.ip ∧ b = e.pr ∧ bp = e.pp
def FOut1 (R : Nat) (W0 : World) (ad ln ow lo hi nw : Int) (da : Option Addr) (dc : Nat) (ea : Option Addr) (ec : Nat) (ds : List Dr) (es : List En) : Nat → Value → World → Prop
  | 0, v, _ => v = .pointer (some ⟨R, 0, none⟩)
  | 1, v, _ => ∃ r : Int, v = .int .i64 r ∧ 0 ≤ r ∧ r < 2
  | 2, v, _ => ∃ x : Int, v = .int .i64 x ∧ 1 ≤ x ∧ x ≤ 2
  | 3, v, _ => v = .pointer (some ⟨R, 0, none⟩)
  | 4, v, _ => v = .agg #[.int .i64 ad, .int .i64 ln, .int .i64 ow, .int .i64 lo, .int .i64 hi, .slice da ds.length dc, .int .i64 nw, .slice ea es.length ec]
  | 5, v, _ => ∃ x : Int, v = .int .i64 x ∧ (inB ln 0 16 = true → insB ad ln x = true) ∧ -1000000 ≤ x ∧ x ≤ 2000000
  | 6, v, _ => v = .pointer (some ⟨R, 0, none⟩)
  | 7, v, _ => ∃ x : Int, v = .int .i64 x ∧ 1 ≤ x ∧ x ≤ 65535
  | 8, v, _ => v = .pointer (some ⟨R, 0, none⟩)
  | 9, v, _ => ∃ x : Int, v = .int .i64 x ∧ (x = 51202 ∨ x = 51203 ∨ x = 65535 ∨ x = 61440)
  | 10, v, w => ∃ n, v = .slice (some ⟨n, 0, none⟩) 2 2 ∧ n ≠ R ∧ Box w n #[.int .i64 80, .int .i64 443]
  | 11, v, _ => v = .pointer (some ⟨R, 0, none⟩)
  | 12, v, _ => ∃ r : Int, v = .int .i64 r ∧ 0 ≤ r ∧ r < 2
  | 13, v, w => ∃ n j x, v = .pointer (some ⟨n, j, none⟩) ∧ n ≠ R ∧ n < w.heap.size ∧ w.cell? ⟨n, j, none⟩ = some (.int .i64 x) ∧ (x = 80 ∨ x = 443)
  | 14, v, _ => ∃ x : Int, v = .int .i64 x ∧ (x = 80 ∨ x = 443)
  | 15, v, _ => ∃ k a ap b bp : Int, v = .agg #[.int .i64 k, .int .i64 a, .int .i64 ap, .int .i64 b, .int .i64 bp] ∧ OutIs ad ln k a ap b bp
  | 16, v, w => ∃ m, v = .pointer (some ⟨m, 0, none⟩) ∧ W0.heap.size ≤ m ∧ m ≠ R ∧ Bx w m #[.int .i64 0, .int .i64 0, .int .i64 0, .int .i64 0, .int .i64 0]
  | _, _, _ => True
def FOut8 (R nb g o ec : Nat) (es : List En) : Nat → Value → World → Prop
  | 0, v, _ => v = .pointer (some ⟨nb, 7, none⟩)
  | 1, v, _ => v = .slice (some ⟨g, o, none⟩) es.length ec
  | 2, v, _ => v = .pointer (some ⟨R, 0, none⟩)
  | 3, v, _ => v = .pointer (some ⟨nb, 7, none⟩)
  | 4, v, _ => v = .slice (some ⟨g, o, none⟩) es.length ec
  | 5, v, _ => v = .int .i64 (es.length : Nat)
  | 6, v, _ => ∃ r : Int, v = .int .i64 r ∧ 0 ≤ r ∧ r < (es.length : Int)
  | 7, v, _ => ∃ (i : Nat) (d : En), es[i]? = some d ∧ v = .pointer (some ⟨g, o + i * 7, none⟩)
  | 8, v, _ => ∃ (i : Nat) (d : En), es[i]? = some d ∧ v = .agg #[.int .i64 d.k, .int .i64 d.pr, .int .i64 d.pp, .int .i64 d.o, .int .i64 d.i, .int .i64 d.ip, .int .i64 d.l]
  | 9, v, _ => ∃ (i : Nat) (d : En), es[i]? = some d ∧ v = .agg #[.int .i64 d.k, .int .i64 d.i, .int .i64 d.ip, .int .i64 d.pr, .int .i64 d.pp]
  | _, _, _ => True
def FOut3 (R nb g o dc : Nat) (W1 : World) (ds : List Dr) : Nat → Value → World → Prop
  | 0, v, _ => v = .pointer (some ⟨nb, 5, none⟩)
  | 1, v, _ => v = .slice (some ⟨g, o, none⟩) ds.length dc
  | 2, v, _ => v = .pointer (some ⟨R, 0, none⟩)
  | 3, v, _ => v = .pointer (some ⟨nb, 5, none⟩)
  | 4, v, _ => v = .slice (some ⟨g, o, none⟩) ds.length dc
  | 5, v, _ => v = .int .i64 (ds.length : Nat)
  | 6, v, _ => ∃ r : Int, v = .int .i64 r ∧ 0 ≤ r ∧ r < (ds.length : Int)
  | 7, v, _ => ∃ (i : Nat) (d : Dr), ds[i]? = some d ∧ v = .pointer (some ⟨g, o + i * 4, none⟩)
  | 8, v, _ => ∃ (i : Nat) (d : Dr), ds[i]? = some d ∧ v = .agg #[.int .i64 d.k, .int .i64 d.o, .int .i64 d.i, .int .i64 d.p]
  | 9, v, w => ∃ m, v = .pointer (some ⟨m, 0, none⟩) ∧ W1.heap.size ≤ m ∧ m ≠ R ∧ Bx w m #[.int .i64 0, .int .i64 0, .int .i64 0, .int .i64 0]
  | _, _, _ => True

set_option maxRecDepth 20000 in
set_option maxHeartbeats 4000000 in
theorem outflow_ret (R : Nat) (n : Int) (ad ln ow lo hi nw : Int) (da : Option Addr) (dn dc : Nat) (ea : Option Addr) (en ec : Nat) (ds : List Dr) (es : List En) (q : Nat) (w : World) (h : Rb w R n) (hn : n ≤ 800000000) (a0 : -1000000 ≤ ad) (a1 : ad ≤ 1000000) (HD : DoorsL w q da dn ds) (HE : EntriesL w q ea en es) (hq : R < q) (hdn : dn ≤ 100) (hen : en ≤ 200) :
    Calls Tryz.prog 43 #[.pointer (some ⟨R, 0, none⟩), .agg #[.int .i64 ad, .int .i64 ln, .int .i64 ow, .int .i64 lo, .int .i64 hi, .slice da dn dc, .int .i64 nw, .slice ea en ec]] w fun e w' => (∃ k a ap b bp : Int, e = .returned (.agg #[.int .i64 k, .int .i64 a, .int .i64 ap, .int .i64 b, .int .i64 bp]) ∧ OutBy ad ln ds es k a ap b bp) ∧ Apart R w w' ∧ Rb w' R (n + 200) := by
  obtain ⟨rfl, HD⟩ := HD
  obtain ⟨rfl, HE⟩ := HE
  have hR := h.lt
  have hB0 := bl_alloc (bl_alloc (bl_refl w) (.cells #[.int .i64 ad, .int .i64 ln, .int .i64 ow, .int .i64 lo, .int .i64 hi, .slice da ds.length dc, .int .i64 nw, .slice ea es.length ec] 26)) (.cells #[.int .i64 0, .int .i64 0, .int .i64 0, .int .i64 0, .int .i64 0] 32)
  have hBl := bl_alloc (bl_refl (w.alloc (.cells #[.int .i64 ad, .int .i64 ln, .int .i64 ow, .int .i64 lo, .int .i64 hi, .slice da ds.length dc, .int .i64 nw, .slice ea es.length ec] 26))) (.cells #[.int .i64 0, .int .i64 0, .int .i64 0, .int .i64 0, .int .i64 0] 32)
  have HA : Apart R w _ := ap_of_bl hB0
  have HR := h.below hB0
  have xb := ((Bx.new w #[.int .i64 ad, .int .i64 ln, .int .i64 ow, .int .i64 lo, .int .i64 hi, .slice da ds.length dc, .int .i64 nw, .slice ea es.length ec] 26).below hBl).1
  have bx := Bx.new (w.alloc (.cells #[.int .i64 ad, .int .i64 ln, .int .i64 ow, .int .i64 lo, .int .i64 hi, .slice da ds.length dc, .int .i64 nw, .slice ea es.length ec] 26)) #[.int .i64 0, .int .i64 0, .int .i64 0, .int .i64 0, .int .i64 0] 32
  simp only [World.size_alloc] at bx
  go_enter Tryz.func43, Tryz.ntmps43
  go_upto_region 1 with fail
  clear hB0 hBl h
  generalize (w.alloc (.cells #[.int .i64 ad, .int .i64 ln, .int .i64 ow, .int .i64 lo, .int .i64 hi, .slice da ds.length dc, .int .i64 nw, .slice ea es.length ec] 26)).alloc (.cells #[.int .i64 0, .int .i64 0, .int .i64 0, .int .i64 0, .int .i64 0] 32) = W0 at *
  have hs := HA.size
  have hx1 := bx.1.1
  replace HD := (DoorsL.apart (⟨rfl, HD⟩ : DoorsL w q da ds.length ds) HA hq).2
  replace HE := (EntriesL.apart (⟨rfl, HE⟩ : EntriesL w q ea es.length es) HA hq).2
  generalize hnb : w.heap.size = nb at *
  refine region_last [7, 8, 9, 10, 11, 12, 13, 14, 15, 16, 17, 18, 19, 20, 21, 22, 5, 100017] 17 (FOut1 R W0 ad ln ow lo hi nw da dc ea ec ds es) (fun c w' => Apart R W0 w' ∧ Rb w' R (n + 3 * c) ∧ Box w' nb #[.int .i64 ad, .int .i64 ln, .int .i64 ow, .int .i64 lo, .int .i64 hi, .slice da ds.length dc, .int .i64 nw, .slice ea es.length ec]) (Apart R) (by kernel_rfl) (by kernel_rfl) (by decide) (by kernel_rfl) (by kernel_rfl) _ rfl ?_ ?_ ?_ ?_
  · intro i v w w' hR h
    rcases i with _ | _ | _ | _ | _ | _ | _ | _ | _ | _ | _ | _ | _ | _ | _ | _ | _ | _ | i
    · exact h
    · exact h
    · exact h
    · exact h
    · exact h
    · exact h
    · exact h
    · exact h
    · exact h
    · exact h
    · obtain ⟨n, h1, h2, h3⟩ := h
      exact ⟨n, h1, h2, h3.apart hR h2⟩
    · exact h
    · exact h
    · obtain ⟨n, j, x, h1, h2, h3, h4, h5⟩ := h
      exact ⟨n, j, x, h1, h2, Nat.lt_of_lt_of_le h3 hR.size, (hR.cell h3 h2).trans h4, h5⟩
    · exact h
    · exact h
    · obtain ⟨m, h1, h2, h3, h4⟩ := h
      exact ⟨m, h1, h2, h3, h4.apart hR h3⟩
    · exact h
    · exact h
  · exact ⟨ap_of_bl (bl_drew (bl_refl _)), (HR.below (bl_drew (bl_refl _))).le (by omega), xb.below (bl_drew (bl_refl _))⟩
  · refine all_lt_succ (all_lt_succ (all_lt_succ (all_lt_succ (all_lt_succ (all_lt_succ (all_lt_succ (all_lt_succ (all_lt_succ (all_lt_succ (all_lt_succ (all_lt_succ (all_lt_succ (all_lt_succ (all_lt_succ (all_lt_succ (all_lt_succ (all_lt_zero _) ?_) ?_) ?_) ?_) ?_) ?_) ?_) ?_) ?_) ?_) ?_) ?_) ?_) ?_) ?_) ?_) ?_
    · refine stepOk_at _ rfl ?_
      intro vs w c hv hc hJ hdep K hK
      have hc : c < 18 := hc
      obtain ⟨v0, v1, v2, v3, v4, v5, v6, v7, v8, v9, v10, v11, v12, v13, v14, v15, v16, v17, rfl⟩ := len18 hv
      clear hdep hv
      exact mid_val (.pointer (some ⟨R, 0, none⟩)) w (by kernel_rfl) (by kernel_rfl) (hK.out _ _ (ap_refl _ _) ⟨hJ.1, hJ.2.1.le (by omega), hJ.2.2⟩ rfl)
    · refine stepOk_at _ rfl ?_
      intro vs w c hv hc hJ hdep K hK
      have hc : c < 18 := hc
      obtain ⟨v0, v1, v2, v3, v4, v5, v6, v7, v8, v9, v10, v11, v12, v13, v14, v15, v16, v17, rfl⟩ := len18 hv
      have f0 : v0 = .pointer (some ⟨R, 0, none⟩) := (by have h := dep hdep 0 (by kernel_rfl); exact h)
      clear hdep hv
      subst f0
      refine mid_call 42 (by kernel_rfl) (pick_rb R _ 2 w hJ.2.1 (by omega) (by omega) (by omega)) (by kernel_rfl) ?_
      rintro e w' ⟨⟨r, rfl, r0, r1⟩, ha, hr⟩
      exact ⟨_, rfl, hK.out _ _ ha ⟨ap_trans hJ.1 ha, hr.le (by omega), hJ.2.2.apart ha (by omega)⟩ ⟨r, rfl, r0, r1⟩⟩
    · refine stepOk_at _ rfl ?_
      intro vs w c hv hc hJ hdep K hK
      have hc : c < 18 := hc
      obtain ⟨v0, v1, v2, v3, v4, v5, v6, v7, v8, v9, v10, v11, v12, v13, v14, v15, v16, v17, rfl⟩ := len18 hv
      have f1 : ∃ r : Int, v1 = .int .i64 r ∧ 0 ≤ r ∧ r < 2 := (by have h := dep hdep 1 (by kernel_rfl); exact h)
      clear hdep hv
      obtain ⟨r, rfl, r0, r1⟩ := f1
      exact mid_val (.int .i64 (IntKind.i64.wrap (1 + r))) w (by kernel_rfl) (by kernel_rfl) (hK.out _ _ (ap_refl _ _) ⟨hJ.1, hJ.2.1.le (by omega), hJ.2.2⟩ ⟨_, rfl, by rw [wrap_of _ (by omega) (by omega)]; omega, by rw [wrap_of _ (by omega) (by omega)]; omega⟩)
    · refine stepOk_at _ rfl ?_
      intro vs w c hv hc hJ hdep K hK
      have hc : c < 18 := hc
      obtain ⟨v0, v1, v2, v3, v4, v5, v6, v7, v8, v9, v10, v11, v12, v13, v14, v15, v16, v17, rfl⟩ := len18 hv
      clear hdep hv
      exact mid_val (.pointer (some ⟨R, 0, none⟩)) w (by kernel_rfl) (by kernel_rfl) (hK.out _ _ (ap_refl _ _) ⟨hJ.1, hJ.2.1.le (by omega), hJ.2.2⟩ rfl)
    · refine stepOk_at _ rfl ?_
      intro vs w c hv hc hJ hdep K hK
      have hc : c < 18 := hc
      obtain ⟨v0, v1, v2, v3, v4, v5, v6, v7, v8, v9, v10, v11, v12, v13, v14, v15, v16, v17, rfl⟩ := len18 hv
      clear hdep hv
      have hbx := hJ.2.2.2
      refine mid_val (.agg #[.int .i64 ad, .int .i64 ln, .int .i64 ow, .int .i64 lo, .int .i64 hi, .slice da ds.length dc, .int .i64 nw, .slice ea es.length ec]) w (by kernel_rfl) ?_ (hK.out _ _ (ap_refl _ _) ⟨hJ.1, hJ.2.1.le (by omega), hJ.2.2⟩ rfl)
      simp only [setAll, List.setIfInBounds_toArray, List.set_cons_zero, List.set_cons_succ, List.set_nil]
      go_simp
    · refine stepOk_at _ rfl ?_
      intro vs w c hv hc hJ hdep K hK
      have hc : c < 18 := hc
      obtain ⟨v0, v1, v2, v3, v4, v5, v6, v7, v8, v9, v10, v11, v12, v13, v14, v15, v16, v17, rfl⟩ := len18 hv
      have f1 : ∃ r : Int, v1 = .int .i64 r ∧ 0 ≤ r ∧ r < 2 := (by have h := dep hdep 1 (by kernel_rfl); exact h)
      have f3 : v3 = .pointer (some ⟨R, 0, none⟩) := (by have h := dep hdep 3 (by kernel_rfl); exact h)
      have f4 : v4 = .agg #[.int .i64 ad, .int .i64 ln, .int .i64 ow, .int .i64 lo, .int .i64 hi, .slice da ds.length dc, .int .i64 nw, .slice ea es.length ec] := (by have h := dep hdep 4 (by kernel_rfl); exact h)
      clear hdep hv
      subst f3
      subst f4
      refine mid_call 87 (by kernel_rfl) (inner_ret R _ ad ln ow lo hi nw da ds.length dc ea es.length ec w hJ.2.1 (by omega) a0 a1) (by kernel_rfl) ?_
      rintro e w' ⟨⟨r, rfl, r0, r1, r2⟩, ha, hr⟩
      exact ⟨_, rfl, hK.out _ _ ha ⟨ap_trans hJ.1 ha, hr.le (by omega), hJ.2.2.apart ha (by omega)⟩ ⟨r, rfl, r0, r1, r2⟩⟩
    · refine stepOk_at _ rfl ?_
      intro vs w c hv hc hJ hdep K hK
      have hc : c < 18 := hc
      obtain ⟨v0, v1, v2, v3, v4, v5, v6, v7, v8, v9, v10, v11, v12, v13, v14, v15, v16, v17, rfl⟩ := len18 hv
      clear hdep hv
      exact mid_val (.pointer (some ⟨R, 0, none⟩)) w (by kernel_rfl) (by kernel_rfl) (hK.out _ _ (ap_refl _ _) ⟨hJ.1, hJ.2.1.le (by omega), hJ.2.2⟩ rfl)
    · refine stepOk_at _ rfl ?_
      intro vs w c hv hc hJ hdep K hK
      have hc : c < 18 := hc
      obtain ⟨v0, v1, v2, v3, v4, v5, v6, v7, v8, v9, v10, v11, v12, v13, v14, v15, v16, v17, rfl⟩ := len18 hv
      have f5 : ∃ x : Int, v5 = .int .i64 x ∧ (inB ln 0 16 = true → insB ad ln x = true) ∧ -1000000 ≤ x ∧ x ≤ 2000000 := (by have h := dep hdep 5 (by kernel_rfl); exact h)
      have f6 : v6 = .pointer (some ⟨R, 0, none⟩) := (by have h := dep hdep 6 (by kernel_rfl); exact h)
      clear hdep hv
      subst f6
      refine mid_call 88 (by kernel_rfl) (port_rb R _ w hJ.2.1 (by omega)) (by kernel_rfl) ?_
      rintro e w' ⟨⟨r, rfl, r0, r1⟩, ha, hr⟩
      exact ⟨_, rfl, hK.out _ _ ha ⟨ap_trans hJ.1 ha, hr.le (by omega), hJ.2.2.apart ha (by omega)⟩ ⟨r, rfl, r0, r1⟩⟩
    · refine stepOk_at _ rfl ?_
      intro vs w c hv hc hJ hdep K hK
      have hc : c < 18 := hc
      obtain ⟨v0, v1, v2, v3, v4, v5, v6, v7, v8, v9, v10, v11, v12, v13, v14, v15, v16, v17, rfl⟩ := len18 hv
      clear hdep hv
      exact mid_val (.pointer (some ⟨R, 0, none⟩)) w (by kernel_rfl) (by kernel_rfl) (hK.out _ _ (ap_refl _ _) ⟨hJ.1, hJ.2.1.le (by omega), hJ.2.2⟩ rfl)
    · refine stepOk_at _ rfl ?_
      intro vs w c hv hc hJ hdep K hK
      have hc : c < 18 := hc
      obtain ⟨v0, v1, v2, v3, v4, v5, v6, v7, v8, v9, v10, v11, v12, v13, v14, v15, v16, v17, rfl⟩ := len18 hv
      have f7 : ∃ x : Int, v7 = .int .i64 x ∧ 1 ≤ x ∧ x ≤ 65535 := (by have h := dep hdep 7 (by kernel_rfl); exact h)
      have f8 : v8 = .pointer (some ⟨R, 0, none⟩) := (by have h := dep hdep 8 (by kernel_rfl); exact h)
      clear hdep hv
      subst f8
      refine mid_call 90 (by kernel_rfl) (peer_rb R _ w hJ.2.1 (by omega)) (by kernel_rfl) ?_
      rintro e w' ⟨⟨r, rfl, r0⟩, ha, hr⟩
      exact ⟨_, rfl, hK.out _ _ ha ⟨ap_trans hJ.1 ha, hr.le (by omega), hJ.2.2.apart ha (by omega)⟩ ⟨r, rfl, r0⟩⟩
    · refine stepOk_at _ rfl ?_
      intro vs w c hv hc hJ hdep K hK
      have hc : c < 18 := hc
      obtain ⟨v0, v1, v2, v3, v4, v5, v6, v7, v8, v9, v10, v11, v12, v13, v14, v15, v16, v17, rfl⟩ := len18 hv
      clear hdep hv
      refine mid_val (.slice (some ⟨w.heap.size, 0, none⟩) 2 2) (w.alloc (.cells #[.int .i64 80, .int .i64 443] 3)) (by kernel_rfl) (by kernel_rfl) ?_
      exact hK.out _ _ (ap_alloc (ap_refl _ _) _) ⟨ap_alloc hJ.1 _, (hJ.2.1.below (bl_alloc (bl_refl _) _)).le (by omega), hJ.2.2.below (bl_alloc (bl_refl _) _)⟩ ⟨w.heap.size, rfl, Nat.ne_of_gt hJ.2.1.lt, Box.new _ _ _⟩
    · refine stepOk_at _ rfl ?_
      intro vs w c hv hc hJ hdep K hK
      have hc : c < 18 := hc
      obtain ⟨v0, v1, v2, v3, v4, v5, v6, v7, v8, v9, v10, v11, v12, v13, v14, v15, v16, v17, rfl⟩ := len18 hv
      clear hdep hv
      exact mid_val (.pointer (some ⟨R, 0, none⟩)) w (by kernel_rfl) (by kernel_rfl) (hK.out _ _ (ap_refl _ _) ⟨hJ.1, hJ.2.1.le (by omega), hJ.2.2⟩ rfl)
    · refine stepOk_at _ rfl ?_
      intro vs w c hv hc hJ hdep K hK
      have hc : c < 18 := hc
      obtain ⟨v0, v1, v2, v3, v4, v5, v6, v7, v8, v9, v10, v11, v12, v13, v14, v15, v16, v17, rfl⟩ := len18 hv
      have f9 : ∃ x : Int, v9 = .int .i64 x ∧ (x = 51202 ∨ x = 51203 ∨ x = 65535 ∨ x = 61440) := (by have h := dep hdep 9 (by kernel_rfl); exact h)
      have f11 : v11 = .pointer (some ⟨R, 0, none⟩) := (by have h := dep hdep 11 (by kernel_rfl); exact h)
      clear hdep hv
      subst f11
      refine mid_call 42 (by kernel_rfl) (pick_rb R _ 2 w hJ.2.1 (by omega) (by omega) (by omega)) (by kernel_rfl) ?_
      rintro e w' ⟨⟨r, rfl, r0, r1⟩, ha, hr⟩
      exact ⟨_, rfl, hK.out _ _ ha ⟨ap_trans hJ.1 ha, hr.le (by omega), hJ.2.2.apart ha (by omega)⟩ ⟨r, rfl, r0, r1⟩⟩
    · refine stepOk_at _ rfl ?_
      intro vs w c hv hc hJ hdep K hK
      have hc : c < 18 := hc
      obtain ⟨v0, v1, v2, v3, v4, v5, v6, v7, v8, v9, v10, v11, v12, v13, v14, v15, v16, v17, rfl⟩ := len18 hv
      have f10 : ∃ n, v10 = .slice (some ⟨n, 0, none⟩) 2 2 ∧ n ≠ R ∧ Box w n #[.int .i64 80, .int .i64 443] := (by have h := dep hdep 10 (by kernel_rfl); exact h)
      have f12 : ∃ r : Int, v12 = .int .i64 r ∧ 0 ≤ r ∧ r < 2 := (by have h := dep hdep 12 (by kernel_rfl); exact h)
      clear hdep hv
      obtain ⟨n, rfl, hn, hbx⟩ := f10
      obtain ⟨r, rfl, r0, r1⟩ := f12
      have hbc := hbx.2
      rcases (show r = 0 ∨ r = 1 by omega) with rfl | rfl
      · exact mid_val (.pointer (some ⟨n, 0, none⟩)) w (by kernel_rfl) (by kernel_rfl) (hK.out _ _ (ap_refl _ _) ⟨hJ.1, hJ.2.1.le (by omega), hJ.2.2⟩ ⟨n, 0, _, rfl, hn, hbx.1, hbc 0, Or.inl rfl⟩)
      · exact mid_val (.pointer (some ⟨n, 1, none⟩)) w (by kernel_rfl) (by kernel_rfl) (hK.out _ _ (ap_refl _ _) ⟨hJ.1, hJ.2.1.le (by omega), hJ.2.2⟩ ⟨n, 1, _, rfl, hn, hbx.1, hbc 1, Or.inr rfl⟩)
    · refine stepOk_at _ rfl ?_
      intro vs w c hv hc hJ hdep K hK
      have hc : c < 18 := hc
      obtain ⟨v0, v1, v2, v3, v4, v5, v6, v7, v8, v9, v10, v11, v12, v13, v14, v15, v16, v17, rfl⟩ := len18 hv
      have f13 : ∃ n j x, v13 = .pointer (some ⟨n, j, none⟩) ∧ n ≠ R ∧ n < w.heap.size ∧ w.cell? ⟨n, j, none⟩ = some (.int .i64 x) ∧ (x = 80 ∨ x = 443) := (by have h := dep hdep 13 (by kernel_rfl); exact h)
      clear hdep hv
      obtain ⟨n, j, x, rfl, hn, hlt, hc, x1⟩ := f13
      refine mid_val (.int .i64 x) w (by kernel_rfl) ?_ (hK.out _ _ (ap_refl _ _) ⟨hJ.1, hJ.2.1.le (by omega), hJ.2.2⟩ ⟨x, rfl, x1⟩)
      simp only [setAll, List.setIfInBounds_toArray, List.set_cons_zero, List.set_cons_succ, List.set_nil]
      go_simp
    · refine stepOk_at _ rfl ?_
      intro vs w c hv hc hJ hdep K hK
      have hc : c < 18 := hc
      obtain ⟨v0, v1, v2, v3, v4, v5, v6, v7, v8, v9, v10, v11, v12, v13, v14, v15, v16, v17, rfl⟩ := len18 hv
      have f2 : ∃ x : Int, v2 = .int .i64 x ∧ 1 ≤ x ∧ x ≤ 2 := (by have h := dep hdep 2 (by kernel_rfl); exact h)
      have f5 : ∃ x : Int, v5 = .int .i64 x ∧ (inB ln 0 16 = true → insB ad ln x = true) ∧ -1000000 ≤ x ∧ x ≤ 2000000 := (by have h := dep hdep 5 (by kernel_rfl); exact h)
      have f7 : ∃ x : Int, v7 = .int .i64 x ∧ 1 ≤ x ∧ x ≤ 65535 := (by have h := dep hdep 7 (by kernel_rfl); exact h)
      have f9 : ∃ x : Int, v9 = .int .i64 x ∧ (x = 51202 ∨ x = 51203 ∨ x = 65535 ∨ x = 61440) := (by have h := dep hdep 9 (by kernel_rfl); exact h)
      have f14 : ∃ x : Int, v14 = .int .i64 x ∧ (x = 80 ∨ x = 443) := (by have h := dep hdep 14 (by kernel_rfl); exact h)
      clear hdep hv
      obtain ⟨x1, rfl, p1, p2⟩ := f2
      obtain ⟨x2, rfl, p3, p4, p5⟩ := f5
      obtain ⟨x3, rfl, p6, p7⟩ := f7
      obtain ⟨x4, rfl, p8⟩ := f9
      obtain ⟨x5, rfl, p9⟩ := f14
      exact mid_val (.agg #[.int .i64 x1, .int .i64 x2, .int .i64 x3, .int .i64 x4, .int .i64 x5]) w (by kernel_rfl) (by kernel_rfl) (hK.out _ _ (ap_refl _ _) ⟨hJ.1, hJ.2.1.le (by omega), hJ.2.2⟩ ⟨x1, x2, x3, x4, x5, rfl, ⟨p1, by omega⟩, p3, ⟨p6, p7⟩, p8, p9⟩)
    · refine stepOk_at _ rfl ?_
      intro vs w c hv hc hJ hdep K hK
      have hc : c < 18 := hc
      obtain ⟨v0, v1, v2, v3, v4, v5, v6, v7, v8, v9, v10, v11, v12, v13, v14, v15, v16, v17, rfl⟩ := len18 hv
      clear hdep hv
      refine mid_val (.pointer (some ⟨w.heap.size, 0, none⟩)) (w.alloc (.cells #[.int .i64 0, .int .i64 0, .int .i64 0, .int .i64 0, .int .i64 0] 32)) (by kernel_rfl) (by kernel_rfl) ?_
      exact hK.out _ _ (ap_alloc (ap_refl _ _) _) ⟨ap_alloc hJ.1 _, (hJ.2.1.below (bl_alloc (bl_refl _) _)).le (by omega), hJ.2.2.below (bl_alloc (bl_refl _) _)⟩ ⟨w.heap.size, rfl, hJ.1.size, Nat.ne_of_gt hJ.2.1.lt, Bx.new _ _ _⟩
  · intro vs w hv hJ hall
    obtain ⟨v0, v1, v2, v3, v4, v5, v6, v7, v8, v9, v10, v11, v12, v13, v14, v15, v16, v17, rfl⟩ := len18 hv
    have f0 : v0 = .pointer (some ⟨R, 0, none⟩) := (by have h := hall 0 (by decide); exact h)
    have f1 : ∃ r : Int, v1 = .int .i64 r ∧ 0 ≤ r ∧ r < 2 := (by have h := hall 1 (by decide); exact h)
    have f2 : ∃ x : Int, v2 = .int .i64 x ∧ 1 ≤ x ∧ x ≤ 2 := (by have h := hall 2 (by decide); exact h)
    have f3 : v3 = .pointer (some ⟨R, 0, none⟩) := (by have h := hall 3 (by decide); exact h)
    have f4 : v4 = .agg #[.int .i64 ad, .int .i64 ln, .int .i64 ow, .int .i64 lo, .int .i64 hi, .slice da ds.length dc, .int .i64 nw, .slice ea es.length ec] := (by have h := hall 4 (by decide); exact h)
    have f5 : ∃ x : Int, v5 = .int .i64 x ∧ (inB ln 0 16 = true → insB ad ln x = true) ∧ -1000000 ≤ x ∧ x ≤ 2000000 := (by have h := hall 5 (by decide); exact h)
    have f6 : v6 = .pointer (some ⟨R, 0, none⟩) := (by have h := hall 6 (by decide); exact h)
    have f7 : ∃ x : Int, v7 = .int .i64 x ∧ 1 ≤ x ∧ x ≤ 65535 := (by have h := hall 7 (by decide); exact h)
    have f8 : v8 = .pointer (some ⟨R, 0, none⟩) := (by have h := hall 8 (by decide); exact h)
    have f9 : ∃ x : Int, v9 = .int .i64 x ∧ (x = 51202 ∨ x = 51203 ∨ x = 65535 ∨ x = 61440) := (by have h := hall 9 (by decide); exact h)
    have f10 : ∃ n, v10 = .slice (some ⟨n, 0, none⟩) 2 2 ∧ n ≠ R ∧ Box w n #[.int .i64 80, .int .i64 443] := (by have h := hall 10 (by decide); exact h)
    have f11 : v11 = .pointer (some ⟨R, 0, none⟩) := (by have h := hall 11 (by decide); exact h)
    have f12 : ∃ r : Int, v12 = .int .i64 r ∧ 0 ≤ r ∧ r < 2 := (by have h := hall 12 (by decide); exact h)
    have f13 : ∃ n j x, v13 = .pointer (some ⟨n, j, none⟩) ∧ n ≠ R ∧ n < w.heap.size ∧ w.cell? ⟨n, j, none⟩ = some (.int .i64 x) ∧ (x = 80 ∨ x = 443) := (by have h := hall 13 (by decide); exact h)
    have f14 : ∃ x : Int, v14 = .int .i64 x ∧ (x = 80 ∨ x = 443) := (by have h := hall 14 (by decide); exact h)
    have f15 : ∃ k a ap b bp : Int, v15 = .agg #[.int .i64 k, .int .i64 a, .int .i64 ap, .int .i64 b, .int .i64 bp] ∧ OutIs ad ln k a ap b bp := (by have h := hall 15 (by decide); exact h)
    have f16 : ∃ m, v16 = .pointer (some ⟨m, 0, none⟩) ∧ W0.heap.size ≤ m ∧ m ≠ R ∧ Bx w m #[.int .i64 0, .int .i64 0, .int .i64 0, .int .i64 0, .int .i64 0] := (by have h := hall 16 (by decide); exact h)
    clear hall hv
    obtain ⟨k, a, ap, b, bp, rfl, hfl⟩ := f15
    obtain ⟨m, rfl, hm0, hmR, bh⟩ := f16
    have hfl : Hid (OutIs ad ln k a ap b bp) := hfl
    obtain ⟨HC, HRc, xb⟩ := hJ
    clear f0 f1 f2 f3 f4 f5 f6 f7 f8 f9 f10 f11 f12 f13 f14
    obtain ⟨⟨q1, q2⟩, q3⟩ := id bh
    refine ⟨?_⟩
    simp only [setAll, List.setIfInBounds_toArray, List.set_cons_zero, List.set_cons_succ, List.set_nil]
    go_simp
    replace bh := bh.set5 (.int .i64 k) (.int .i64 a) (.int .i64 ap) (.int .i64 b) (.int .i64 bp)
    replace HC := ap_set5 HC hm0 (.int .i64 k) (.int .i64 a) (.int .i64 ap) (.int .i64 b) (.int .i64 bp)
    replace HRc := (rb_set5 HRc (n := m) (by omega) (.int .i64 k) (.int .i64 a) (.int .i64 ap) (.int .i64 b) (.int .i64 bp)).le (show _ ≤ n + 60 by omega)
    replace xb := xb.other5 (n := m) (by omega) (.int .i64 k) (.int .i64 a) (.int .i64 ap) (.int .i64 b) (.int .i64 bp)
    replace bx := (bx.apart HC (by omega))
    clear q1 q2 q3 HR
    have hsc := HC.size
    generalize (World.setCell (World.setCell (World.setCell (World.setCell (World.setCell w ⟨m, 0, none⟩ (.int .i64 k)) ⟨m, 1, none⟩ (.int .i64 a)) ⟨m, 2, none⟩ (.int .i64 ap)) ⟨m, 3, none⟩ (.int .i64 b)) ⟨m, 4, none⟩ (.int .i64 bp)) = W1 at *
    go_upto_region 2 with fail
    have hf0 : Hid (OutBy ad ln ds es k a ap b bp) := Or.inl hfl.out
    have hdest : Hid ((b = 51202 ∨ b = 51203 ∨ b = 65535 ∨ b = 61440) ∧ (bp = 80 ∨ bp = 443)) := ⟨hfl.out.2.2.2.1, hfl.out.2.2.2.2⟩
    clear hfl
    go_cut [31] (fun s wc => ∃ bb : Bool, s = .bool bb ∧ (bb = true → 0 < ds.length) ∧ Bx wc m #[.int .i64 k, .int .i64 a, .int .i64 ap, .int .i64 b, .int .i64 bp] ∧ Box wc nb #[.int .i64 ad, .int .i64 ln, .int .i64 ow, .int .i64 lo, .int .i64 hi, .slice da ds.length dc, .int .i64 nw, .slice ea es.length ec] ∧ Bx wc (nb + 1) #[.int .i64 0, .int .i64 0, .int .i64 0, .int .i64 0, .int .i64 0] ∧ Apart R W0 wc ∧ Rb wc R (n + 61))
    case first =>
      have y1 := xb.2
      have z1 := xb.1
      by_cases hd0 : 0 < ds.length
      · have hd1 : (0 : Int) < (ds.length : Int) := by omega
        go_wp2_with fail
        refine (pick_rb R _ 5 _ HRc (by omega) (by omega) (by omega)).mono ?_
        rintro e w1 ⟨⟨r, rfl, r0, r1⟩, ha, hr⟩
        replace bh := bh.apart ha (by omega)
        replace xb := xb.apart ha (by omega)
        replace bx := bx.apart ha (by omega)
        replace HC := ap_trans HC ha
        clear y1 ha
        by_cases hr0 : r = 0
        · have hq : (r == 0) = true := by simpa using hr0
          clear hr0
          go_wp2_with fail
          go_meet
          exact ⟨true, rfl, fun _ => by omega, bh, xb, bx, HC, hr.le (by omega)⟩
        · have hq : (r == 0) = false := by simpa using hr0
          clear hr0
          go_wp2_with fail
          go_meet
          exact ⟨false, rfl, fun h => absurd h (by simp), bh, xb, bx, HC, hr.le (by omega)⟩
      · have hd1 : ¬ (0 : Int) < (ds.length : Int) := by omega
        go_wp2_with fail
        go_meet
        exact ⟨false, rfl, fun h => absurd h (by simp), bh, xb, bx, HC, HRc.le (by omega)⟩
    case rest =>
      clear HC HRc xb bh bx hsc
      obtain ⟨bb, rfl, hbb, bh, xb, bx, HC, HRc⟩ := hcut
      have hsc := HC.size
      go_upto_if 31 with fail
      go_cut [] (fun wc => ∃ k a ap b bp : Int, Bx wc m #[.int .i64 k, .int .i64 a, .int .i64 ap, .int .i64 b, .int .i64 bp] ∧ OutBy ad ln ds es k a ap b bp ∧ Box wc nb #[.int .i64 ad, .int .i64 ln, .int .i64 ow, .int .i64 lo, .int .i64 hi, .slice da ds.length dc, .int .i64 nw, .slice ea es.length ec] ∧ Bx wc (nb + 1) #[.int .i64 0, .int .i64 0, .int .i64 0, .int .i64 0, .int .i64 0] ∧ Apart R W0 wc ∧ Rb wc R (n + 100))
      case first =>
        cases bb with
        | false =>
          go_wp2_with fail
          go_meet
          exact ⟨k, a, ap, b, bp, bh, hf0.out, xb, bx, HC, HRc.le (by omega)⟩
        | true =>
          have hd0 := hbb rfl
          clear hbb
          go_upto_region 3 with fail
          rcases HD with rfl | ⟨g, o, rfl, hgq, hgl, hcs⟩
          · simp at hd0
          · have hcs := hcs.apart HC hgl (by omega)
            have hgl : g < wc.heap.size := by omega
            have hmw := bh.1.1
            have hM : MemD wc nb #[.int .i64 ad, .int .i64 ln, .int .i64 ow, .int .i64 lo, .int .i64 hi, .slice (some ⟨g, o, none⟩) ds.length dc, .int .i64 nw, .slice ea es.length ec] g o ds := ⟨xb, hgl, hcs⟩
            refine region_last [32, 33, 34, 35, 36, 37, 38, 39, 40, 6, 100010] 10 (FOut3 R nb g o dc wc ds) (fun c w' => Apart R wc w' ∧ Rb w' R (n + 61 + 3 * c) ∧ MemD w' nb #[.int .i64 ad, .int .i64 ln, .int .i64 ow, .int .i64 lo, .int .i64 hi, .slice (some ⟨g, o, none⟩) ds.length dc, .int .i64 nw, .slice ea es.length ec] g o ds) (Apart R) (by kernel_rfl) (by kernel_rfl) (by decide) (by kernel_rfl) (by kernel_rfl) _ rfl ?_ ?_ ?_ ?_
            · intro i v w w' hR h
              rcases i with _ | _ | _ | _ | _ | _ | _ | _ | _ | _ | _ | i
              · exact h
              · exact h
              · exact h
              · exact h
              · exact h
              · exact h
              · exact h
              · exact h
              · exact h
              · obtain ⟨m, h1, h2, h3, h4⟩ := h
                exact ⟨m, h1, h2, h3, h4.apart hR h3⟩
              · exact h
              · exact h
            · exact ⟨ap_of_bl (bl_drew (bl_refl _)), (HRc.below (bl_drew (bl_refl _))).le (by omega), hM.below (bl_drew (bl_refl _))⟩
            · refine all_lt_succ (all_lt_succ (all_lt_succ (all_lt_succ (all_lt_succ (all_lt_succ (all_lt_succ (all_lt_succ (all_lt_succ (all_lt_succ (all_lt_zero _) ?_) ?_) ?_) ?_) ?_) ?_) ?_) ?_) ?_) ?_
              · refine stepOk_at _ rfl ?_
                intro vs w c hv hc hJ hdep K hK
                have hc : c < 11 := hc
                obtain ⟨v0, v1, v2, v3, v4, v5, v6, v7, v8, v9, v10, rfl⟩ := len11 hv
                clear hdep hv
                exact mid_val (.pointer (some ⟨nb, 5, none⟩)) w (by kernel_rfl) (by kernel_rfl) (hK.out _ _ (ap_refl _ _) ⟨hJ.1, hJ.2.1.le (by omega), hJ.2.2⟩ rfl)
              · refine stepOk_at _ rfl ?_
                intro vs w c hv hc hJ hdep K hK
                have hc : c < 11 := hc
                obtain ⟨v0, v1, v2, v3, v4, v5, v6, v7, v8, v9, v10, rfl⟩ := len11 hv
                have f0 : v0 = .pointer (some ⟨nb, 5, none⟩) := (by have h := dep hdep 0 (by kernel_rfl); exact h)
                clear hdep hv
                subst f0
                have hbx := hJ.2.2.1.2
                refine mid_val (.slice (some ⟨g, o, none⟩) ds.length dc) w (by kernel_rfl) ?_ (hK.out _ _ (ap_refl _ _) ⟨hJ.1, hJ.2.1.le (by omega), hJ.2.2⟩ rfl)
                simp only [setAll, List.setIfInBounds_toArray, List.set_cons_zero, List.set_cons_succ, List.set_nil]
                go_simp
              · refine stepOk_at _ rfl ?_
                intro vs w c hv hc hJ hdep K hK
                have hc : c < 11 := hc
                obtain ⟨v0, v1, v2, v3, v4, v5, v6, v7, v8, v9, v10, rfl⟩ := len11 hv
                clear hdep hv
                exact mid_val (.pointer (some ⟨R, 0, none⟩)) w (by kernel_rfl) (by kernel_rfl) (hK.out _ _ (ap_refl _ _) ⟨hJ.1, hJ.2.1.le (by omega), hJ.2.2⟩ rfl)
              · refine stepOk_at _ rfl ?_
                intro vs w c hv hc hJ hdep K hK
                have hc : c < 11 := hc
                obtain ⟨v0, v1, v2, v3, v4, v5, v6, v7, v8, v9, v10, rfl⟩ := len11 hv
                clear hdep hv
                exact mid_val (.pointer (some ⟨nb, 5, none⟩)) w (by kernel_rfl) (by kernel_rfl) (hK.out _ _ (ap_refl _ _) ⟨hJ.1, hJ.2.1.le (by omega), hJ.2.2⟩ rfl)
              · refine stepOk_at _ rfl ?_
                intro vs w c hv hc hJ hdep K hK
                have hc : c < 11 := hc
                obtain ⟨v0, v1, v2, v3, v4, v5, v6, v7, v8, v9, v10, rfl⟩ := len11 hv
                have f3 : v3 = .pointer (some ⟨nb, 5, none⟩) := (by have h := dep hdep 3 (by kernel_rfl); exact h)
                clear hdep hv
                subst f3
                have hbx := hJ.2.2.1.2
                refine mid_val (.slice (some ⟨g, o, none⟩) ds.length dc) w (by kernel_rfl) ?_ (hK.out _ _ (ap_refl _ _) ⟨hJ.1, hJ.2.1.le (by omega), hJ.2.2⟩ rfl)
                simp only [setAll, List.setIfInBounds_toArray, List.set_cons_zero, List.set_cons_succ, List.set_nil]
                go_simp
              · refine stepOk_at _ rfl ?_
                intro vs w c hv hc hJ hdep K hK
                have hc : c < 11 := hc
                obtain ⟨v0, v1, v2, v3, v4, v5, v6, v7, v8, v9, v10, rfl⟩ := len11 hv
                have f4 : v4 = .slice (some ⟨g, o, none⟩) ds.length dc := (by have h := dep hdep 4 (by kernel_rfl); exact h)
                clear hdep hv
                subst f4
                exact mid_val (.int .i64 (ds.length : Nat)) w (by kernel_rfl) (by kernel_rfl) (hK.out _ _ (ap_refl _ _) ⟨hJ.1, hJ.2.1.le (by omega), hJ.2.2⟩ rfl)
              · refine stepOk_at _ rfl ?_
                intro vs w c hv hc hJ hdep K hK
                have hc : c < 11 := hc
                obtain ⟨v0, v1, v2, v3, v4, v5, v6, v7, v8, v9, v10, rfl⟩ := len11 hv
                have f2 : v2 = .pointer (some ⟨R, 0, none⟩) := (by have h := dep hdep 2 (by kernel_rfl); exact h)
                have f5 : v5 = .int .i64 (ds.length : Nat) := (by have h := dep hdep 5 (by kernel_rfl); exact h)
                clear hdep hv
                subst f5
                subst f2
                refine mid_call 42 (by kernel_rfl) (pick_rb R _ (ds.length : Int) w hJ.2.1 (by omega) (by omega) (by omega)) (by kernel_rfl) ?_
                rintro e w' ⟨⟨r, rfl, r0, r1⟩, ha, hr⟩
                exact ⟨_, rfl, hK.out _ _ ha ⟨ap_trans hJ.1 ha, hr.le (by omega), hJ.2.2.apart ha (by omega) (by omega)⟩ ⟨r, rfl, r0, r1⟩⟩
              · refine stepOk_at _ rfl ?_
                intro vs w c hv hc hJ hdep K hK
                have hc : c < 11 := hc
                obtain ⟨v0, v1, v2, v3, v4, v5, v6, v7, v8, v9, v10, rfl⟩ := len11 hv
                have f1 : v1 = .slice (some ⟨g, o, none⟩) ds.length dc := (by have h := dep hdep 1 (by kernel_rfl); exact h)
                have f6 : ∃ r : Int, v6 = .int .i64 r ∧ 0 ≤ r ∧ r < (ds.length : Int) := (by have h := dep hdep 6 (by kernel_rfl); exact h)
                clear hdep hv
                subst f1
                obtain ⟨r, rfl, r0, r1⟩ := f6
                obtain ⟨dd, hdd⟩ : ∃ dd, ds[r.toNat]? = some dd := ⟨ds[r.toNat]'(by omega), by simp⟩
                have r2 : (r.toNat : Int) = r := by omega
                refine mid_val (.pointer (some ⟨g, o + r.toNat * 4, none⟩)) w (by kernel_rfl) ?_ (hK.out _ _ (ap_refl _ _) ⟨hJ.1, hJ.2.1.le (by omega), hJ.2.2⟩ ⟨r.toNat, dd, hdd, rfl⟩)
                simp only [setAll, List.setIfInBounds_toArray, List.set_cons_zero, List.set_cons_succ, List.set_nil]
                go_simp
              · refine stepOk_at _ rfl ?_
                intro vs w c hv hc hJ hdep K hK
                have hc : c < 11 := hc
                obtain ⟨v0, v1, v2, v3, v4, v5, v6, v7, v8, v9, v10, rfl⟩ := len11 hv
                have f7 : ∃ (i : Nat) (d : Dr), ds[i]? = some d ∧ v7 = .pointer (some ⟨g, o + i * 4, none⟩) := (by have h := dep hdep 7 (by kernel_rfl); exact h)
                clear hdep hv
                obtain ⟨i, dd, hdd, rfl⟩ := f7
                obtain ⟨c0, c1, c2, c3⟩ := hJ.2.2.2.2 i dd hdd
                refine mid_val (.agg #[.int .i64 dd.k, .int .i64 dd.o, .int .i64 dd.i, .int .i64 dd.p]) w (by kernel_rfl) ?_ (hK.out _ _ (ap_refl _ _) ⟨hJ.1, hJ.2.1.le (by omega), hJ.2.2⟩ ⟨i, dd, hdd, rfl⟩)
                simp only [setAll, List.setIfInBounds_toArray, List.set_cons_zero, List.set_cons_succ, List.set_nil]
                go_simp
              · refine stepOk_at _ rfl ?_
                intro vs w c hv hc hJ hdep K hK
                have hc : c < 11 := hc
                obtain ⟨v0, v1, v2, v3, v4, v5, v6, v7, v8, v9, v10, rfl⟩ := len11 hv
                clear hdep hv
                refine mid_val (.pointer (some ⟨w.heap.size, 0, none⟩)) (w.alloc (.cells #[.int .i64 0, .int .i64 0, .int .i64 0, .int .i64 0] 85)) (by kernel_rfl) (by kernel_rfl) ?_
                exact hK.out _ _ (ap_alloc (ap_refl _ _) _) ⟨ap_alloc hJ.1 _, (hJ.2.1.below (bl_alloc (bl_refl _) _)).le (by omega), hJ.2.2.below (bl_alloc (bl_refl _) _)⟩ ⟨w.heap.size, rfl, hJ.1.size, Nat.ne_of_gt hJ.2.1.lt, Bx.new _ _ _⟩
            · intro vs w hv hJ hall
              obtain ⟨v0, v1, v2, v3, v4, v5, v6, v7, v8, v9, v10, rfl⟩ := len11 hv
              have f0 : v0 = .pointer (some ⟨nb, 5, none⟩) := (by have h := hall 0 (by decide); exact h)
              have f1 : v1 = .slice (some ⟨g, o, none⟩) ds.length dc := (by have h := hall 1 (by decide); exact h)
              have f2 : v2 = .pointer (some ⟨R, 0, none⟩) := (by have h := hall 2 (by decide); exact h)
              have f3 : v3 = .pointer (some ⟨nb, 5, none⟩) := (by have h := hall 3 (by decide); exact h)
              have f4 : v4 = .slice (some ⟨g, o, none⟩) ds.length dc := (by have h := hall 4 (by decide); exact h)
              have f5 : v5 = .int .i64 (ds.length : Nat) := (by have h := hall 5 (by decide); exact h)
              have f6 : ∃ r : Int, v6 = .int .i64 r ∧ 0 ≤ r ∧ r < (ds.length : Int) := (by have h := hall 6 (by decide); exact h)
              have f7 : ∃ (i : Nat) (d : Dr), ds[i]? = some d ∧ v7 = .pointer (some ⟨g, o + i * 4, none⟩) := (by have h := hall 7 (by decide); exact h)
              have f8 : ∃ (i : Nat) (d : Dr), ds[i]? = some d ∧ v8 = .agg #[.int .i64 d.k, .int .i64 d.o, .int .i64 d.i, .int .i64 d.p] := (by have h := hall 8 (by decide); exact h)
              have f9 : ∃ m, v9 = .pointer (some ⟨m, 0, none⟩) ∧ wc.heap.size ≤ m ∧ m ≠ R ∧ Bx w m #[.int .i64 0, .int .i64 0, .int .i64 0, .int .i64 0] := (by have h := hall 9 (by decide); exact h)
              clear hall hv
              obtain ⟨i, d, hdd, rfl⟩ := f8
              obtain ⟨m2, rfl, hm20, hm2R, bd⟩ := f9
              obtain ⟨HC3, HR3, hM3⟩ := hJ
              have hdd : Hid (ds[i]? = some d) := hdd
              clear f0 f1 f2 f3 f4 f5 f6 f7
              replace bh := bh.apart HC3 (by omega)
              replace bx := bx.apart HC3 (by omega)
              replace HC := ap_trans HC HC3
              obtain ⟨⟨q1, q2⟩, q3⟩ := id bd
              refine ⟨?_⟩
              simp only [setAll, List.setIfInBounds_toArray, List.set_cons_zero, List.set_cons_succ, List.set_nil]
              go_simp
              replace bd := bd.set4 (.int .i64 d.k) (.int .i64 d.o) (.int .i64 d.i) (.int .i64 d.p)
              replace bh := bh.other4 (n := m2) (by omega) (.int .i64 d.k) (.int .i64 d.o) (.int .i64 d.i) (.int .i64 d.p)
              replace bx := bx.other4 (n := m2) (by omega) (.int .i64 d.k) (.int .i64 d.o) (.int .i64 d.i) (.int .i64 d.p)
              replace HC := ap_set4 HC (n := m2) (by omega) (.int .i64 d.k) (.int .i64 d.o) (.int .i64 d.i) (.int .i64 d.p)
              replace HR3 := (rb_set4 HR3 (n := m2) (by omega) (.int .i64 d.k) (.int .i64 d.o) (.int .i64 d.i) (.int .i64 d.p)).le (show _ ≤ n + 99 by omega)
              replace xb := hM3.1.other4 (n := m2) (by omega) (.int .i64 d.k) (.int .i64 d.o) (.int .i64 d.i) (.int .i64 d.p)
              clear q1 q2 q3 HRc hM3 hM
              have hsd := HC.size
              have hmd := bd.1.1
              have hmh := bh.1.1
              generalize (World.setCell (World.setCell (World.setCell (World.setCell w ⟨m2, 0, none⟩ (.int .i64 d.k)) ⟨m2, 1, none⟩ (.int .i64 d.o)) ⟨m2, 2, none⟩ (.int .i64 d.i)) ⟨m2, 3, none⟩ (.int .i64 d.p)) = W3 at *
              obtain ⟨⟨q1, q2⟩, q3⟩ := id bd
              obtain ⟨⟨p1, p2⟩, p3⟩ := id bh
              go_wp2_with fail
              go_meet
              refine ⟨d.k, d.i, d.p, b, bp, ?_, Or.inr (Or.inl ⟨d, List.mem_of_getElem? hdd.out, rfl, rfl, rfl, ?_⟩), ?_, ?_, ?_, ?_⟩
              · exact ((bh.set (j := 0) (by simp) (.int .i64 d.k)).set (j := 1) (by simp) (.int .i64 d.i)).set (j := 2) (by simp) (.int .i64 d.p)
              · exact hdest.out
              · exact ((xb.other (m := m) (j := 0) (by omega) (.int .i64 d.k)).other (m := m) (j := 1) (by omega) (.int .i64 d.i)).other (m := m) (j := 2) (by omega) (.int .i64 d.p)
              · exact ((bx.other (m := m) (j := 0) (by omega) (.int .i64 d.k)).other (m := m) (j := 1) (by omega) (.int .i64 d.i)).other (m := m) (j := 2) (by omega) (.int .i64 d.p)
              · exact ap_new (ap_new (ap_new HC (by omega) _) (by omega) _) (by omega) _
              · exact (((HR3.set (m := m) (j := 0) (by omega) _).set (m := m) (j := 1) (by omega) _).set (m := m) (j := 2) (by omega) _).le (by omega)
      case rest =>
        clear HC HRc xb bh bx hsc hf0 hdest hbb
        obtain ⟨k1, c1, cp1, e1, ep1, bh, hby, xb, bx, HC, HRc⟩ := hcut
        have hby : Hid (OutBy ad ln ds es k1 c1 cp1 e1 ep1) := hby
        have hsc := HC.size
        go_upto_region 7 with fail
        have y1 := xb.2
        have z1 := xb.1
        by_cases he0 : 0 < es.length
        · have he1 : (0 : Int) < (es.length : Int) := by omega
          go_wp2_with fail
          refine (pick_rb R _ 3 _ HRc (by omega) (by omega) (by omega)).mono ?_
          rintro e w1 ⟨⟨r, rfl, r0, r1⟩, ha, hr⟩
          replace bh := bh.apart ha (by omega)
          replace xb := xb.apart ha (by omega)
          replace bx := bx.apart ha (by omega)
          replace HC := ap_trans HC ha
          clear y1 ha HRc z1 hsc
          have hsc := HC.size
          by_cases hr0 : r = 0
          · have hq : (r == 0) = true := by simpa using hr0
            clear hr0
            go_upto_region 8 with fail
            rcases HE with rfl | ⟨g, o, rfl, hgq, hgl, hcs⟩
            · simp at he0
            · have hcs := hcs.apart HC hgl (by omega)
              have hgl : g < w1.heap.size := by omega
              have hM : MemE w1 nb #[.int .i64 ad, .int .i64 ln, .int .i64 ow, .int .i64 lo, .int .i64 hi, .slice da ds.length dc, .int .i64 nw, .slice (some ⟨g, o, none⟩) es.length ec] g o es := ⟨xb, hgl, hcs⟩
              refine region_last [59, 60, 61, 62, 63, 64, 65, 66, 67, 68, 100010] 10 (FOut8 R nb g o ec es) (fun c w' => Apart R w1 w' ∧ Rb w' R (n + 101 + 3 * c) ∧ MemE w' nb #[.int .i64 ad, .int .i64 ln, .int .i64 ow, .int .i64 lo, .int .i64 hi, .slice da ds.length dc, .int .i64 nw, .slice (some ⟨g, o, none⟩) es.length ec] g o es) (Apart R) (by kernel_rfl) (by kernel_rfl) (by decide) (by kernel_rfl) (by kernel_rfl) _ rfl ?_ ?_ ?_ ?_
              · intro i v w w' hR h
                rcases i with _ | _ | _ | _ | _ | _ | _ | _ | _ | _ | _ | i
                · exact h
                · exact h
                · exact h
                · exact h
                · exact h
                · exact h
                · exact h
                · exact h
                · exact h
                · exact h
                · exact h
                · exact h
              · exact ⟨ap_of_bl (bl_drew (bl_refl _)), (hr.below (bl_drew (bl_refl _))).le (by omega), hM.below (bl_drew (bl_refl _))⟩
              · refine all_lt_succ (all_lt_succ (all_lt_succ (all_lt_succ (all_lt_succ (all_lt_succ (all_lt_succ (all_lt_succ (all_lt_succ (all_lt_succ (all_lt_zero _) ?_) ?_) ?_) ?_) ?_) ?_) ?_) ?_) ?_) ?_
                · refine stepOk_at _ rfl ?_
                  intro vs w c hv hc hJ hdep K hK
                  have hc : c < 11 := hc
                  obtain ⟨v0, v1, v2, v3, v4, v5, v6, v7, v8, v9, v10, rfl⟩ := len11 hv
                  clear hdep hv
                  exact mid_val (.pointer (some ⟨nb, 7, none⟩)) w (by kernel_rfl) (by kernel_rfl) (hK.out _ _ (ap_refl _ _) ⟨hJ.1, hJ.2.1.le (by omega), hJ.2.2⟩ rfl)
                · refine stepOk_at _ rfl ?_
                  intro vs w c hv hc hJ hdep K hK
                  have hc : c < 11 := hc
                  obtain ⟨v0, v1, v2, v3, v4, v5, v6, v7, v8, v9, v10, rfl⟩ := len11 hv
                  have f0 : v0 = .pointer (some ⟨nb, 7, none⟩) := (by have h := dep hdep 0 (by kernel_rfl); exact h)
                  clear hdep hv
                  subst f0
                  have hbx := hJ.2.2.1.2
                  refine mid_val (.slice (some ⟨g, o, none⟩) es.length ec) w (by kernel_rfl) ?_ (hK.out _ _ (ap_refl _ _) ⟨hJ.1, hJ.2.1.le (by omega), hJ.2.2⟩ rfl)
                  simp only [setAll, List.setIfInBounds_toArray, List.set_cons_zero, List.set_cons_succ, List.set_nil]
                  go_simp
                · refine stepOk_at _ rfl ?_
                  intro vs w c hv hc hJ hdep K hK
                  have hc : c < 11 := hc
                  obtain ⟨v0, v1, v2, v3, v4, v5, v6, v7, v8, v9, v10, rfl⟩ := len11 hv
                  clear hdep hv
                  exact mid_val (.pointer (some ⟨R, 0, none⟩)) w (by kernel_rfl) (by kernel_rfl) (hK.out _ _ (ap_refl _ _) ⟨hJ.1, hJ.2.1.le (by omega), hJ.2.2⟩ rfl)
                · refine stepOk_at _ rfl ?_
                  intro vs w c hv hc hJ hdep K hK
                  have hc : c < 11 := hc
                  obtain ⟨v0, v1, v2, v3, v4, v5, v6, v7, v8, v9, v10, rfl⟩ := len11 hv
                  clear hdep hv
                  exact mid_val (.pointer (some ⟨nb, 7, none⟩)) w (by kernel_rfl) (by kernel_rfl) (hK.out _ _ (ap_refl _ _) ⟨hJ.1, hJ.2.1.le (by omega), hJ.2.2⟩ rfl)
                · refine stepOk_at _ rfl ?_
                  intro vs w c hv hc hJ hdep K hK
                  have hc : c < 11 := hc
                  obtain ⟨v0, v1, v2, v3, v4, v5, v6, v7, v8, v9, v10, rfl⟩ := len11 hv
                  have f3 : v3 = .pointer (some ⟨nb, 7, none⟩) := (by have h := dep hdep 3 (by kernel_rfl); exact h)
                  clear hdep hv
                  subst f3
                  have hbx := hJ.2.2.1.2
                  refine mid_val (.slice (some ⟨g, o, none⟩) es.length ec) w (by kernel_rfl) ?_ (hK.out _ _ (ap_refl _ _) ⟨hJ.1, hJ.2.1.le (by omega), hJ.2.2⟩ rfl)
                  simp only [setAll, List.setIfInBounds_toArray, List.set_cons_zero, List.set_cons_succ, List.set_nil]
                  go_simp
                · refine stepOk_at _ rfl ?_
                  intro vs w c hv hc hJ hdep K hK
                  have hc : c < 11 := hc
                  obtain ⟨v0, v1, v2, v3, v4, v5, v6, v7, v8, v9, v10, rfl⟩ := len11 hv
                  have f4 : v4 = .slice (some ⟨g, o, none⟩) es.length ec := (by have h := dep hdep 4 (by kernel_rfl); exact h)
                  clear hdep hv
                  subst f4
                  exact mid_val (.int .i64 (es.length : Nat)) w (by kernel_rfl) (by kernel_rfl) (hK.out _ _ (ap_refl _ _) ⟨hJ.1, hJ.2.1.le (by omega), hJ.2.2⟩ rfl)
                · refine stepOk_at _ rfl ?_
                  intro vs w c hv hc hJ hdep K hK
                  have hc : c < 11 := hc
                  obtain ⟨v0, v1, v2, v3, v4, v5, v6, v7, v8, v9, v10, rfl⟩ := len11 hv
                  have f2 : v2 = .pointer (some ⟨R, 0, none⟩) := (by have h := dep hdep 2 (by kernel_rfl); exact h)
                  have f5 : v5 = .int .i64 (es.length : Nat) := (by have h := dep hdep 5 (by kernel_rfl); exact h)
                  clear hdep hv
                  subst f5
                  subst f2
                  refine mid_call 42 (by kernel_rfl) (pick_rb R _ (es.length : Int) w hJ.2.1 (by omega) (by omega) (by omega)) (by kernel_rfl) ?_
                  rintro e w' ⟨⟨r, rfl, r0, r1⟩, ha, hr⟩
                  exact ⟨_, rfl, hK.out _ _ ha ⟨ap_trans hJ.1 ha, hr.le (by omega), hJ.2.2.apart ha (by omega) (by omega)⟩ ⟨r, rfl, r0, r1⟩⟩
                · refine stepOk_at _ rfl ?_
                  intro vs w c hv hc hJ hdep K hK
                  have hc : c < 11 := hc
                  obtain ⟨v0, v1, v2, v3, v4, v5, v6, v7, v8, v9, v10, rfl⟩ := len11 hv
                  have f1 : v1 = .slice (some ⟨g, o, none⟩) es.length ec := (by have h := dep hdep 1 (by kernel_rfl); exact h)
                  have f6 : ∃ r : Int, v6 = .int .i64 r ∧ 0 ≤ r ∧ r < (es.length : Int) := (by have h := dep hdep 6 (by kernel_rfl); exact h)
                  clear hdep hv
                  subst f1
                  obtain ⟨r, rfl, r0, r1⟩ := f6
                  obtain ⟨dd, hdd⟩ : ∃ dd, es[r.toNat]? = some dd := ⟨es[r.toNat]'(by omega), by simp⟩
                  have r2 : (r.toNat : Int) = r := by omega
                  refine mid_val (.pointer (some ⟨g, o + r.toNat * 7, none⟩)) w (by kernel_rfl) ?_ (hK.out _ _ (ap_refl _ _) ⟨hJ.1, hJ.2.1.le (by omega), hJ.2.2⟩ ⟨r.toNat, dd, hdd, rfl⟩)
                  simp only [setAll, List.setIfInBounds_toArray, List.set_cons_zero, List.set_cons_succ, List.set_nil]
                  go_simp
                · refine stepOk_at _ rfl ?_
                  intro vs w c hv hc hJ hdep K hK
                  have hc : c < 11 := hc
                  obtain ⟨v0, v1, v2, v3, v4, v5, v6, v7, v8, v9, v10, rfl⟩ := len11 hv
                  have f7 : ∃ (i : Nat) (d : En), es[i]? = some d ∧ v7 = .pointer (some ⟨g, o + i * 7, none⟩) := (by have h := dep hdep 7 (by kernel_rfl); exact h)
                  clear hdep hv
                  obtain ⟨i, dd, hdd, rfl⟩ := f7
                  obtain ⟨c0, c1, c2, c3, c4, c5, c6⟩ := hJ.2.2.2.2 i dd hdd
                  refine mid_val (.agg #[.int .i64 dd.k, .int .i64 dd.pr, .int .i64 dd.pp, .int .i64 dd.o, .int .i64 dd.i, .int .i64 dd.ip, .int .i64 dd.l]) w (by kernel_rfl) ?_ (hK.out _ _ (ap_refl _ _) ⟨hJ.1, hJ.2.1.le (by omega), hJ.2.2⟩ ⟨i, dd, hdd, rfl⟩)
                  simp only [setAll, List.setIfInBounds_toArray, List.set_cons_zero, List.set_cons_succ, List.set_nil]
                  go_simp
                · refine stepOk_at _ rfl ?_
                  intro vs w c hv hc hJ hdep K hK
                  have hc : c < 11 := hc
                  obtain ⟨v0, v1, v2, v3, v4, v5, v6, v7, v8, v9, v10, rfl⟩ := len11 hv
                  have f6 : ∃ r : Int, v6 = .int .i64 r ∧ 0 ≤ r ∧ r < (es.length : Int) := (by have h := dep hdep 6 (by kernel_rfl); exact h)
                  have f8 : ∃ (i : Nat) (d : En), es[i]? = some d ∧ v8 = .agg #[.int .i64 d.k, .int .i64 d.pr, .int .i64 d.pp, .int .i64 d.o, .int .i64 d.i, .int .i64 d.ip, .int .i64 d.l] := (by have h := dep hdep 8 (by kernel_rfl); exact h)
                  clear hdep hv
                  obtain ⟨i, d, hdd, rfl⟩ := f8
                  refine mid_call 91 (by kernel_rfl) (l2Flow_ret d.k d.pr d.pp d.o d.i d.ip d.l w) (by kernel_rfl) ?_
                  rintro e w' ⟨rfl, hb⟩
                  exact ⟨_, rfl, hK.out _ _ (ap_of_bl hb) ⟨ap_trans hJ.1 (ap_of_bl hb), (hJ.2.1.below hb).le (by omega), hJ.2.2.below hb⟩ ⟨i, d, hdd, rfl⟩⟩
              · intro vs w hv hJ hall
                obtain ⟨v0, v1, v2, v3, v4, v5, v6, v7, v8, v9, v10, rfl⟩ := len11 hv
                have f0 : v0 = .pointer (some ⟨nb, 7, none⟩) := (by have h := hall 0 (by decide); exact h)
                have f1 : v1 = .slice (some ⟨g, o, none⟩) es.length ec := (by have h := hall 1 (by decide); exact h)
                have f2 : v2 = .pointer (some ⟨R, 0, none⟩) := (by have h := hall 2 (by decide); exact h)
                have f3 : v3 = .pointer (some ⟨nb, 7, none⟩) := (by have h := hall 3 (by decide); exact h)
                have f4 : v4 = .slice (some ⟨g, o, none⟩) es.length ec := (by have h := hall 4 (by decide); exact h)
                have f5 : v5 = .int .i64 (es.length : Nat) := (by have h := hall 5 (by decide); exact h)
                have f6 : ∃ r : Int, v6 = .int .i64 r ∧ 0 ≤ r ∧ r < (es.length : Int) := (by have h := hall 6 (by decide); exact h)
                have f7 : ∃ (i : Nat) (d : En), es[i]? = some d ∧ v7 = .pointer (some ⟨g, o + i * 7, none⟩) := (by have h := hall 7 (by decide); exact h)
                have f8 : ∃ (i : Nat) (d : En), es[i]? = some d ∧ v8 = .agg #[.int .i64 d.k, .int .i64 d.pr, .int .i64 d.pp, .int .i64 d.o, .int .i64 d.i, .int .i64 d.ip, .int .i64 d.l] := (by have h := hall 8 (by decide); exact h)
                have f9 : ∃ (i : Nat) (d : En), es[i]? = some d ∧ v9 = .agg #[.int .i64 d.k, .int .i64 d.i, .int .i64 d.ip, .int .i64 d.pr, .int .i64 d.pp] := (by have h := hall 9 (by decide); exact h)
                clear hall hv
                obtain ⟨i, d, hdd, rfl⟩ := f9
                obtain ⟨HC3, HR3, hM3⟩ := hJ
                have hdd : Hid (es[i]? = some d) := hdd
                clear f0 f1 f2 f3 f4 f5 f6 f7 f8
                replace bx := bx.apart HC3 (by omega)
                replace HC := ap_trans HC HC3
                obtain ⟨⟨q1, q2⟩, q3⟩ := id bx
                refine ⟨?_⟩
                simp only [setAll, List.setIfInBounds_toArray, List.set_cons_zero, List.set_cons_succ, List.set_nil]
                go_simp
                go_wp2_with fail
                have hbv := bx.set5 (.int .i64 d.k) (.int .i64 d.i) (.int .i64 d.ip) (.int .i64 d.pr) (.int .i64 d.pp)
                obtain ⟨⟨t1, t2⟩, t3⟩ := id hbv
                exact bodyPost_ret (v := .agg #[.int .i64 d.k, .int .i64 d.i, .int .i64 d.ip, .int .i64 d.pr, .int .i64 d.pp]) (by simp [results, Tryz.results43, go_sem, t2]) rfl ⟨⟨_, _, _, _, _, rfl, Or.inr (Or.inr ⟨d, List.mem_of_getElem? hdd.out, rfl, rfl, rfl, rfl, rfl⟩)⟩, ap_set5 (ap_trans HA HC) (n := nb + 1) (by omega) (.int .i64 d.k) (.int .i64 d.i) (.int .i64 d.ip) (.int .i64 d.pr) (.int .i64 d.pp), (rb_set5 HR3 (n := nb + 1) (by omega) (.int .i64 d.k) (.int .i64 d.i) (.int .i64 d.ip) (.int .i64 d.pr) (.int .i64 d.pp)).le (by omega)⟩
          · have hq : (r == 0) = false := by simpa using hr0
            clear hr0
            obtain ⟨⟨q1, q2⟩, q3⟩ := id bx
            have p2 := bh.1.2
            go_wp2_with fail
            have hbv := bx.set5 (.int .i64 k1) (.int .i64 c1) (.int .i64 cp1) (.int .i64 e1) (.int .i64 ep1)
            obtain ⟨⟨t1, t2⟩, t3⟩ := id hbv
            exact bodyPost_ret (v := .agg #[.int .i64 k1, .int .i64 c1, .int .i64 cp1, .int .i64 e1, .int .i64 ep1]) (by simp [results, Tryz.results43, go_sem, t2]) rfl ⟨⟨_, _, _, _, _, rfl, hby.out⟩, ap_set5 (ap_trans HA HC) (n := nb + 1) (by omega) (.int .i64 k1) (.int .i64 c1) (.int .i64 cp1) (.int .i64 e1) (.int .i64 ep1), (rb_set5 hr (n := nb + 1) (by omega) (.int .i64 k1) (.int .i64 c1) (.int .i64 cp1) (.int .i64 e1) (.int .i64 ep1)).le (by omega)⟩
        · have he1 : ¬ (0 : Int) < (es.length : Int) := by omega
          obtain ⟨⟨q1, q2⟩, q3⟩ := id bx
          have p2 := bh.1.2
          have hr := HRc
          go_wp2_with fail
          have hbv := bx.set5 (.int .i64 k1) (.int .i64 c1) (.int .i64 cp1) (.int .i64 e1) (.int .i64 ep1)
          obtain ⟨⟨t1, t2⟩, t3⟩ := id hbv
          exact bodyPost_ret (v := .agg #[.int .i64 k1, .int .i64 c1, .int .i64 cp1, .int .i64 e1, .int .i64 ep1]) (by simp [results, Tryz.results43, go_sem, t2]) rfl ⟨⟨_, _, _, _, _, rfl, hby.out⟩, ap_set5 (ap_trans HA HC) (n := nb + 1) (by omega) (.int .i64 k1) (.int .i64 c1) (.int .i64 cp1) (.int .i64 e1) (.int .i64 ep1), (rb_set5 hr (n := nb + 1) (by omega) (.int .i64 k1) (.int .i64 c1) (.int .i64 cp1) (.int .i64 e1) (.int .i64 ep1)).le (by omega)⟩

end Go.Proofs.YtcgjpmhjijmplaaGreatDoor
