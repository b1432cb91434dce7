/- Joined: Come1, Come2, Come3. -/
import Derived.Test.YtcgjpmhjijmplaaGreatDoorDraw11
import Derived.Test.YtcgjpmhjijmplaaGreatDoorModel
import Derived.Test.YtcgjpmhjijmplaaGreatDoorFls
import Derived.Test.YtcgjpmhjijmplaaGreatDoorDraw15
import Derived.Deep.DeepCutAuto
import Derived.Deep.CutBlock
import Derived.Test.YtcgjpmhjijmplaaGreatDoorJoinI
/- Of the flows that DrawNatCome draws: those that go out are from inside, those that come in are ok and may come in. -/
namespace Go.Proofs.YtcgjpmhjijmplaaGreatDoor
open Go.ChangeShapes Go.WideShapes Go.ChangeAt Go.RowKit

/-- What is known of a drawn flow: a tick, or from inside, or one that may come in. -/
def ComeF (ad ln ow : Int) (f : Fl) : Prop := f.k = 0 ∨ insB ad ln f.a = true ∨ (flowB f.k f.a f.ap f.b f.bp = true ∧ comesB ad ln ow f.a f.b = true)
theorem out_inside {X : Bk} (h : okB X) {k a ap b bp : Int} (ho : OutBy X.ad X.ln X.ds X.es k a ap b bp) : insB X.ad X.ln a = true := by
  obtain ⟨p1, p2, p3, p4, p5, p6⟩ := book_iff.1 h
  rcases ho with h1 | ⟨d, hd, _, rfl, _⟩ | ⟨e, he, _, rfl, _⟩
  · have hl : inB X.ln 0 16 = true := by
      simp only [frameB, Bool.and_eq_true] at p1
      exact p1.1.1.1.1.1.1
    exact h1.2.1 hl
  · have := doors_mem p2 hd
    simp only [doorB, dokB, Bool.and_eq_true] at this
    exact this.1.2
  · have := p4 e he
    simp only [entryB, eokB, Bool.and_eq_true] at this
    exact this.1.1.1.2
theorem peer_is {ad ln hi a : Int} (hF : FrameIs ad ln hi) (h : PeerIs a) : peerB ad ln 51201 a = true ∧ 0 ≤ a ∧ a ≤ 65535 := by
  obtain ⟨hf, _, _⟩ := hF
  rcases hf with ⟨rfl, rfl⟩ | ⟨rfl, rfl⟩ | ⟨rfl, rfl | rfl⟩ <;> rcases h with rfl | rfl | rfl | rfl <;> simp [peerB, insB, sz]
theorem kind_is {k : Int} (h1 : 1 ≤ k) (h2 : k ≤ 7) : 1 ≤ wrap64 (3 - k.tmod 3) ∧ wrap64 (3 - k.tmod 3) ≤ 7 := by
  have h3 : 0 ≤ k.tmod 3 := Int.tmod_nonneg _ (by omega)
  have h4 : k.tmod 3 < 3 := Int.tmod_lt_of_pos _ (by omega)
  have h5 : wrap64 (3 - k.tmod 3) = 3 - k.tmod 3 := by unfold wrap64; omega
  rw [h5]
  omega
theorem port_is {p : Int} (h1 : 1 ≤ p) (h2 : p ≤ 65535) : 1 ≤ wrap64 (p.tmod 100 + 1) ∧ wrap64 (p.tmod 100 + 1) ≤ 65535 := by
  have h3 : 0 ≤ p.tmod 100 := Int.tmod_nonneg _ (by omega)
  have h4 : p.tmod 100 < 100 := Int.tmod_lt_of_pos _ (by omega)
  have h5 : wrap64 (p.tmod 100 + 1) = p.tmod 100 + 1 := by unfold wrap64; omega
  rw [h5]
  omega
/-- A flow that was drawn as one that comes in: it is ok, and may. -/
theorem in_comes {X : Bk} {hi0 : Int} (h : okB X) (hF : FrameIs X.ad X.ln hi0) (how : X.ow = 51201) {k a ap bp : Int} (hi : InBy X.ds X.es k a ap bp) : flowB k a ap X.ow bp = true ∧ comesB X.ad X.ln X.ow a X.ow = true := by
  obtain ⟨p1, p2, p3, p4, p5, p6⟩ := book_iff.1 h
  simp only [frameB, portsB, inB, Bool.and_eq_true, decide_eq_true_eq] at p1
  have fin : ∀ {k a ap bp : Int}, (1 ≤ k ∧ k ≤ 7) → (peerB X.ad X.ln X.ow a = true ∧ 0 ≤ a ∧ a ≤ 65535) → (1 ≤ ap ∧ ap ≤ 65535) → (1 ≤ bp ∧ bp ≤ 65535) → flowB k a ap X.ow bp = true ∧ comesB X.ad X.ln X.ow a X.ow = true := by
    intro k a ap bp hk ha hap hbp
    refine ⟨?_, by simp [comesB, ha.1]⟩
    simp only [flowB, inB, Bool.and_eq_true, decide_eq_true_eq]
    omega
  have hp : ∀ {a : Int}, PeerIs a → peerB X.ad X.ln X.ow a = true ∧ 0 ≤ a ∧ a ≤ 65535 := fun h => by rw [how]; exact peer_is hF h
  rcases hi with ⟨hk, ha, hap, hb1, hb2⟩ | ⟨d, hd, rfl, rfl, ha, hap⟩ | ⟨e, he, rfl, hk, ha, hap⟩
  · exact fin (by omega) (hp ha) (by omega) (by omega)
  · have hdd := doors_mem p2 hd
    simp only [doorB, dokB, inB, Bool.and_eq_true, decide_eq_true_eq] at hdd
    exact fin hdd.1.1.1.1 (hp ha) (by omega) hdd.1.1.1.2
  · have hee := p4 e he
    simp only [entryB, eokB, inB, Bool.and_eq_true, Bool.not_eq_true', beq_eq_false_iff_ne, decide_eq_true_eq] at hee
    obtain ⟨⟨⟨⟨⟨⟨⟨⟨⟨k1, k2⟩, k3⟩, k4⟩, k5⟩, k6⟩, k7⟩, k8⟩, k9⟩, k10⟩ := hee
    refine fin ?_ ?_ ?_ (by omega)
    · rcases hk with rfl | rfl
      · exact k1
      · exact kind_is k1.1 k1.2
    · rcases ha with rfl | ha
      · exact ⟨by simp [peerB, k3, k4], k2⟩
      · exact hp ha
    · rcases hap with rfl | rfl
      · exact k5
      · exact port_is k5.1 k5.2
end Go.Proofs.YtcgjpmhjijmplaaGreatDoor

/- DrawNatCome, walked. -/
namespace Go.Proofs.YtcgjpmhjijmplaaGreatDoor
open Go.ChangeShapes Go.WideShapes Go.ChangeAt Go.RowKit Go.Maps

/-- A block of a list: from q on, not x's own; older than q2, or of its type. -/
def AtX (w : World) (q n6 q2 b : Nat) (e : TypeId) : Prop := q ≤ b ∧ b < w.heap.size ∧ b ≠ n6 ∧ (b < q2 ∨ ∃ C, w.heap[b]? = some (.cells C e))
def ListX (w : World) (q n6 q2 : Nat) (va ua : Option Addr) (ds : List Dr) (es : List En) : Prop :=
  (ds = [] ∨ ∃ b o, va = some ⟨b, o, none⟩ ∧ AtX w q n6 q2 b 85 ∧ DrCells w b o ds) ∧ (es = [] ∨ ∃ b o, ua = some ⟨b, o, none⟩ ∧ AtX w q n6 q2 b 52 ∧ EnCells w b o es)
section
variable {w w' : World} {q n6 q2 : Nat} {va ua : Option Addr} {ds : List Dr} {es : List En}
theorem AtX.keep {b : Nat} {e : TypeId} (h : AtX w q n6 q2 b e) (hs : w.heap.size ≤ w'.heap.size) (hk : w'.heap[b]? = w.heap[b]?) : AtX w' q n6 q2 b e := ⟨h.1, Nat.lt_of_lt_of_le h.2.1 hs, h.2.2.1, h.2.2.2.imp id fun ⟨C, hC⟩ => ⟨C, hk.trans hC⟩⟩
theorem ListX.keep (h : ListX w q n6 q2 va ua ds es) (hs : w.heap.size ≤ w'.heap.size) (hk : ∀ b e, AtX w q n6 q2 b e → (e = 85 ∨ e = 52) → w'.heap[b]? = w.heap[b]?) : ListX w' q n6 q2 va ua ds es := by
  refine ⟨h.1.imp id fun ⟨b, o, h1, h2, h3⟩ => ?_, h.2.imp id fun ⟨b, o, h1, h2, h3⟩ => ?_⟩
  · have hb := hk b _ h2 (Or.inl rfl)
    refine ⟨b, o, h1, h2.keep hs hb, fun i d hi => ?_⟩
    obtain ⟨c0, c1, c2, c3⟩ := h3 i d hi
    refine ⟨?_, ?_, ?_, ?_⟩ <;> (rw [World.cell?_of_block (w := w) (by simpa using hb)]; assumption)
  · have hb := hk b _ h2 (Or.inr rfl)
    refine ⟨b, o, h1, h2.keep hs hb, fun i d hi => ?_⟩
    obtain ⟨c0, c1, c2, c3, c4, c5, c6⟩ := h3 i d hi
    refine ⟨?_, ?_, ?_, ?_, ?_, ?_, ?_⟩ <;> (rw [World.cell?_of_block (w := w) (by simpa using hb)]; assumption)
theorem ListX.below (h : ListX w q n6 q2 va ua ds es) (hb : Below w.heap.size w w') : ListX w' q n6 q2 va ua ds es := h.keep hb.size fun b _ hx _ => hb.block b hx.2.1
theorem ListX.apart {R : Nat} (h : ListX w q n6 q2 va ua ds es) (ha : Apart R w w') (hR : R < q) : ListX w' q n6 q2 va ua ds es := h.keep ha.size fun b _ hx _ => ha.block b hx.2.1 (by have := hx.1; omega)
theorem ListX.set (h : ListX w q n6 q2 va ua ds es) {m : Nat} (hm : ∀ b e, AtX w q n6 q2 b e → b ≠ m) (j : Nat) (v : Value) : ListX (w.setCell ⟨m, j, none⟩ v) q n6 q2 va ua ds es := h.keep (by simp [World.setCell]) fun b e hx _ => Below.heap_setCell _ _ _ _ (by simpa using hm b e hx)
theorem ListX.set8 (h : ListX w q n6 q2 va ua ds es) (a b c d e f g i : Value) : ListX (World.setCell (World.setCell (World.setCell (World.setCell (World.setCell (World.setCell (World.setCell (World.setCell w ⟨n6, 0, none⟩ (a)) ⟨n6, 1, none⟩ (b)) ⟨n6, 2, none⟩ (c)) ⟨n6, 3, none⟩ (d)) ⟨n6, 4, none⟩ (e)) ⟨n6, 5, none⟩ (f)) ⟨n6, 6, none⟩ (g)) ⟨n6, 7, none⟩ (i)) q n6 q2 va ua ds es := by
  have h1 : ∀ (W : World) (j : Nat) (v : Value), ListX W q n6 q2 va ua ds es → ListX (W.setCell ⟨n6, j, none⟩ v) q n6 q2 va ua ds es := fun W j v h => h.set (fun b e hx => hx.2.2.1) j v
  exact h1 _ _ _ (h1 _ _ _ (h1 _ _ _ (h1 _ _ _ (h1 _ _ _ (h1 _ _ _ (h1 _ _ _ (h1 _ _ _ h)))))))
theorem ListX.set5 {m : Nat} (h : ListX w q n6 q2 va ua ds es) (hm : q2 ≤ m) (ht : IsRow w m 32 5) (a b c d e : Value) : ListX (World.setCell (World.setCell (World.setCell (World.setCell (World.setCell w ⟨m, 0, none⟩ (a)) ⟨m, 1, none⟩ (b)) ⟨m, 2, none⟩ (c)) ⟨m, 3, none⟩ (d)) ⟨m, 4, none⟩ (e)) q n6 q2 va ua ds es := by
  refine h.keep (by simp [World.setCell]) fun x y hx hy => ?_
  have hne : x ≠ m := by
    rintro rfl
    rcases hx.2.2.2 with hlt | ⟨C, hC⟩
    · omega
    · obtain ⟨D, hD, _⟩ := ht
      rw [hD] at hC
      have h4 := Option.some.inj hC
      injection h4 with _ h5
      rcases hy with rfl | rfl <;> exact absurd h5 (by decide)
  have h1 : ∀ (W : World) (j : Nat) (v : Value), (W.setCell ⟨m, j, none⟩ v).heap[x]? = W.heap[x]? := fun W j v => Below.heap_setCell _ _ _ _ (by simpa using hne)
  rw [h1, h1, h1, h1, h1]
theorem ListX.grown {n : Nat} {v : Value} {xs : List Value} (h : ListX w q n6 q2 va ua ds es) (ho : w.ownsRow q2 32 5 v n xs) (hg : w.grownBy w' v.ownBlock) : ListX w' q n6 q2 va ua ds es := by
  refine h.keep hg.size fun b e hx he => hg.block b hx.2.1 fun hb => ?_
  rcases ho.2 with ⟨h1, _⟩ | ⟨g, cap, cur, h1, h2, h3, _⟩
  · rw [h1] at hb; cases hb
  · rw [h1] at hb
    have hbg : b = g := Option.some.inj hb
    subst hbg
    rcases hx.2.2.2 with hlt | ⟨C, hC⟩
    · omega
    · rw [h3] at hC
      have h4 := Option.some.inj hC
      injection h4 with _ h5
      rcases he with rfl | rfl <;> exact absurd h5 (by decide)
theorem ListX.doors (h : ListX w q n6 q2 va ua ds es) : DoorsL w q va ds.length ds := ⟨rfl, h.1.imp id fun ⟨b, o, h1, h2, h3⟩ => ⟨b, o, h1, h2.1, h2.2.1, h3⟩⟩
theorem ListX.ents (h : ListX w q n6 q2 va ua ds es) : EntriesL w q ua es.length es := ⟨rfl, h.2.imp id fun ⟨b, o, h1, h2, h3⟩ => ⟨b, o, h1, h2.1, h2.2.1, h3⟩⟩
theorem ListX.own {base vc uc : Nat} (h : OwnB w base (.slice va ds.length vc) ds (.slice ua es.length uc) es) (hq : q ≤ base) (hn : n6 < base) : ListX w q n6 q2 va ua ds es := by
  refine ⟨?_, ?_⟩
  · rcases h.1.2 with ⟨_, h2⟩ | ⟨g, cap, cur, h1, h2, h3, _⟩
    · exact Or.inl (List.eq_nil_of_length_eq_zero h2)
    · have hl := (h.1.lt g (by rw [h1]; rfl)).2
      have ho := h.1
      simp only [Value.slice.injEq] at h1
      obtain ⟨rfl, -, rfl⟩ := h1
      exact Or.inr ⟨g, 0, rfl, ⟨by omega, hl, by omega, Or.inr ⟨_, h3⟩⟩, drCells_of_own ho rfl⟩
  · rcases h.2.1.2 with ⟨_, h2⟩ | ⟨g, cap, cur, h1, h2, h3, _⟩
    · exact Or.inl (List.eq_nil_of_length_eq_zero h2)
    · have hl := (h.2.1.lt g (by rw [h1]; rfl)).2
      have ho := h.2.1
      simp only [Value.slice.injEq] at h1
      obtain ⟨rfl, -, rfl⟩ := h1
      exact Or.inr ⟨g, 0, rfl, ⟨by omega, hl, by omega, Or.inr ⟨_, h3⟩⟩, enCells_of_own ho rfl⟩
end
/-- The frame of a book is that of the drawn one. -/
def SameB (ad ln hi : Int) (ds : List Dr) (X : Bk) : Prop := okB X ∧ X.ad = ad ∧ X.ln = ln ∧ X.ow = 51201 ∧ X.lo = 40 ∧ X.hi = hi ∧ X.ds = ds
theorem same_tick {ad ln hi : Int} {ds : List Dr} {X : Bk} (h : SameB ad ln hi ds X) : SameB ad ln hi ds (tickR X.ad X.ln X.ow X.lo X.hi X.nw X.ds X.es) := by
  obtain ⟨h0, h1, h2, h3, h4, h5, h6⟩ := h
  have h0' : bookB X.ad X.ln X.ow X.lo X.hi X.nw X.ds X.es = true := h0
  unfold tickR
  rw [if_pos h0']
  split
  · exact ⟨h0, h1, h2, h3, h4, h5, h6⟩
  · rename_i hn
    exact ⟨tick_ok h0' hn, h1, h2, h3, h4, h5, h6⟩
theorem same_goes {X : Bk} {k a ap b bp : Int} {O : Out} (h : Goes X k a ap b bp O) : O.R.ad = X.ad ∧ O.R.ln = X.ln ∧ O.R.ow = X.ow ∧ O.R.lo = X.lo ∧ O.R.hi = X.hi ∧ O.R.ds = X.ds := by
  rcases h with ⟨d, hd, rfl⟩ | ⟨l1, e, l2, hd, hs, he, hl, rfl⟩ | ⟨hd, he, hl, rfl⟩ | ⟨p, hd, he, hl, hp, rfl⟩ | ⟨hd, he, hl, hp, rfl⟩ <;> exact ⟨rfl, rfl, rfl, rfl, rfl, rfl⟩
theorem same_out {ad ln hi : Int} {ds : List Dr} {X : Bk} (h : SameB ad ln hi ds X) (k a ap b bp : Int) : SameB ad ln hi ds (outM ⟨X.ad, X.ln, X.ow, X.lo, X.hi, X.nw, X.ds, X.es⟩ k a ap b bp).R := by
  obtain ⟨h0, h1, h2, h3, h4, h5, h6⟩ := id h
  have h0' : bookB X.ad X.ln X.ow X.lo X.hi X.nw X.ds X.es = true := h0
  by_cases hf : flowB k a ap b bp = true
  · by_cases hg : goesB X.ad X.ln X.ow a b = true
    · have hG : Goes X k a ap b bp (outM ⟨X.ad, X.ln, X.ow, X.lo, X.hi, X.nw, X.ds, X.es⟩ k a ap b bp) := out_goes (B := X) h0' hf hg
      obtain ⟨e1, e2, e3, e4, e5, e6⟩ := same_goes hG
      exact ⟨goes_ok h0' hf hg hG, e1.trans h1, e2.trans h2, e3.trans h3, e4.trans h4, e5.trans h5, e6.trans h6⟩
    · rw [out_three h0' hf (by simpa using hg)]; exact h
  · rw [out_two h0' (by simpa using hf)]; exact h
theorem same_len {ad ln hi : Int} {ds : List Dr} {X : Bk} (h : SameB ad ln hi ds X) : X.ds.length ≤ 6 ∧ X.es.length ≤ 16 := by
  obtain ⟨_, hd, he, _⟩ := book_parts (show bookB X.ad X.ln X.ow X.lo X.hi X.nw X.ds X.es = true from h.1)
  exact ⟨hd, he⟩
/-- What is kept: the book x, the flows, the drawn book, the reader. -/
def CS (w w' : World) (R n2 n5 n6 q q2 : Nat) (ad ln hi : Int) (da : Option Addr) (dc : Nat) (ds : List Dr) (v : Value) (fs : List Fl) (N : Int) : Prop :=
  (∃ (X : Bk) (va : Option Addr) (vc : Nat) (ua : Option Addr) (uc : Nat), SameB ad ln hi ds X ∧ Bx w' n6 #[.int .i64 X.ad, .int .i64 X.ln, .int .i64 X.ow, .int .i64 X.lo, .int .i64 X.hi, .slice va X.ds.length vc, .int .i64 X.nw, .slice ua X.es.length uc] ∧ ListX w' q n6 q2 va ua X.ds X.es) ∧ OwnF w' q2 v fs ∧ (∀ f ∈ fs, ComeF ad ln 51201 f) ∧ Box w' n5 #[.int .i64 ad, .int .i64 ln, .int .i64 51201, .int .i64 40, .int .i64 hi, .slice da ds.length dc, .int .i64 0, .slice none 0 0] ∧ ListX w' q n6 q2 da none ds [] ∧ Bx w' n2 #[.int .i64 0, .int .i64 0, .int .i64 0, .int .i64 0, .int .i64 0, .slice none 0 0, .int .i64 0, .slice none 0 0] ∧ Below w.heap.size w w' ∧ Rb w' R N
section
variable {w w' w9 : World} {R n2 n5 n6 q q2 : Nat} {ad ln hi : Int} {da : Option Addr} {dc : Nat} {ds : List Dr} {v : Value} {fs : List Fl} {N : Int}
theorem own_ap {base size n : Nat} {e : TypeId} {xs : List Value} (h : w'.ownsRow base e size v n xs) (ha : Apart R w' w9) (hR : R < base) : w9.ownsRow base e size v n xs := own_apart h ha hR
theorem CS.apart (h : CS w w' R n2 n5 n6 q q2 ad ln hi da dc ds v fs N) (ha : Apart R w' w9) {N' : Int} (hr : Rb w9 R N') (h1 : R < q) (h2 : R < q2) (h3 : n6 ≠ R) (h4 : n5 ≠ R) (h5 : n2 ≠ R) (h6 : w.heap.size ≤ R) : CS w w9 R n2 n5 n6 q q2 ad ln hi da dc ds v fs N' := by
  obtain ⟨⟨X, va, vc, ua, uc, x1, x2, x3⟩, y1, y2, y3, y4, y5, y6, y7⟩ := h
  exact ⟨⟨X, va, vc, ua, uc, x1, x2.apart ha h3, x3.apart ha h1⟩, own_ap y1 ha h2, y2, y3.apart ha h4, y4.apart ha h1, y5.apart ha h5, bl_of_ap y6 ha h6, hr⟩
theorem CS.below (h : CS w w' R n2 n5 n6 q q2 ad ln hi da dc ds v fs N) (hb : Below w'.heap.size w' w9) : CS w w9 R n2 n5 n6 q q2 ad ln hi da dc ds v fs N := by
  obtain ⟨⟨X, va, vc, ua, uc, x1, x2, x3⟩, y1, y2, y3, y4, y5, y6, y7⟩ := h
  exact ⟨⟨X, va, vc, ua, uc, x1, x2.below hb, x3.below hb⟩, y1.below hb, y2, y3.below hb, y4.below hb, y5.below hb, bl_trans y6 hb, y7.below hb⟩
theorem CS.lt (h : CS w w' R n2 n5 n6 q q2 ad ln hi da dc ds v fs N) : n6 < w'.heap.size := by obtain ⟨⟨X, va, vc, ua, uc, x1, x2, x3⟩, -⟩ := h; exact x2.1.1
theorem CS.le {N' : Int} (h : CS w w' R n2 n5 n6 q q2 ad ln hi da dc ds v fs N) (hN : N ≤ N') : CS w w' R n2 n5 n6 q q2 ad ln hi da dc ds v fs N' := ⟨h.1, h.2.1, h.2.2.1, h.2.2.2.1, h.2.2.2.2.1, h.2.2.2.2.2.1, h.2.2.2.2.2.2.1, h.2.2.2.2.2.2.2.le hN⟩
theorem CS.grown {v' : Value} {f : Fl} (h : CS w w' R n2 n5 n6 q q2 ad ln hi da dc ds v fs N) (hf : ComeF ad ln 51201 f) (ho : OwnF w9 q2 v' (fs ++ [f])) (hg : w'.grownBy w9 v.ownBlock) (h3 : n6 < q2) (h4 : n5 < q2) (h5 : n2 < q2) (h6 : R < q2) (h7 : w.heap.size ≤ q2) : CS w w9 R n2 n5 n6 q q2 ad ln hi da dc ds v' (fs ++ [f]) N := by
  obtain ⟨⟨X, va, vc, ua, uc, x1, x2, x3⟩, y1, y2, y3, y4, y5, y6, y7⟩ := h
  have hr : ∀ k, v.ownBlock = some k → q2 ≤ k := fun k hk => (y1.lt k hk).1
  have hn : ∀ {m : Nat}, m < q2 → ∀ k, v.ownBlock = some k → m ≠ k := fun hm k hk => by have := hr k hk; omega
  refine ⟨⟨X, va, vc, ua, uc, x1, x2.far hg (hn h3), x3.grown y1 hg⟩, ho, fun g hgm => ?_, y3.far hg (hn h4), y4.grown y1 hg, y5.far hg (hn h5), ⟨hg.os.trans y6.os, hg.tape.trans y6.tape, hg.output.trans y6.output, Nat.le_trans y6.size hg.size, fun k hk => (hg.block k (Nat.lt_of_lt_of_le hk y6.size) (fun e => by have := hr k e.symm; omega)).trans (y6.block k hk)⟩, y7.grown hg (fun k hk => by have := hr k hk; omega)⟩
  rcases List.mem_append.1 hgm with h | h
  · exact y2 g h
  · rw [List.mem_singleton.1 h]; exact hf
theorem own_ne5 {base size n m : Nat} {e : TypeId} {xs : List Value} (h : w'.ownsRow base e size v n xs) (hm : ∀ k, v.ownBlock = some k → k ≠ m) (a b c d i : Value) : (World.setCell (World.setCell (World.setCell (World.setCell (World.setCell w' ⟨m, 0, none⟩ (a)) ⟨m, 1, none⟩ (b)) ⟨m, 2, none⟩ (c)) ⟨m, 3, none⟩ (d)) ⟨m, 4, none⟩ (i)).ownsRow base e size v n xs := own_ne (own_ne (own_ne (own_ne (own_ne h hm a) hm b) hm c) hm d) hm i
/-- The flow f is stored. -/
theorem CS.flow {n9 : Nat} (h : CS w w' R n2 n5 n6 q q2 ad ln hi da dc ds v fs N) (h1 : q2 ≤ n9) (ht : IsRow w' n9 32 5) (hk : ∀ k, v.ownBlock = some k → k ≠ n9) (h3 : n6 ≠ n9) (h4 : n5 ≠ n9) (h5 : n2 ≠ n9) (h6 : R < n9) (h7 : w.heap.size ≤ n9) (a b c d e : Value) : CS w (World.setCell (World.setCell (World.setCell (World.setCell (World.setCell w' ⟨n9, 0, none⟩ (a)) ⟨n9, 1, none⟩ (b)) ⟨n9, 2, none⟩ (c)) ⟨n9, 3, none⟩ (d)) ⟨n9, 4, none⟩ (e)) R n2 n5 n6 q q2 ad ln hi da dc ds v fs N := by
  obtain ⟨⟨X, va, vc, ua, uc, x1, x2, x3⟩, y1, y2, y3, y4, y5, y6, y7⟩ := h
  exact ⟨⟨X, va, vc, ua, uc, x1, x2.other5 h3 a b c d e, x3.set5 h1 ht a b c d e⟩, own_ne5 y1 hk a b c d e, y2, y3.other5 h4 a b c d e, y4.set5 h1 ht a b c d e, y5.other5 h5 a b c d e, bl_set5 y6 h7 a b c d e, y7.set5 h6 a b c d e⟩
theorem ListX.low8 {m : Nat} {va ua : Option Addr} {es : List En} (h : ListX w' q n6 q2 va ua ds es) (hm : m < q) (a b c d e f g i : Value) : ListX (World.setCell (World.setCell (World.setCell (World.setCell (World.setCell (World.setCell (World.setCell (World.setCell w' ⟨m, 0, none⟩ (a)) ⟨m, 1, none⟩ (b)) ⟨m, 2, none⟩ (c)) ⟨m, 3, none⟩ (d)) ⟨m, 4, none⟩ (e)) ⟨m, 5, none⟩ (f)) ⟨m, 6, none⟩ (g)) ⟨m, 7, none⟩ (i)) q n6 q2 va ua ds es := by
  refine h.keep (by simp [World.setCell]) fun x y hx _ => ?_
  have hne : x ≠ m := by have := hx.1; omega
  have h1 : ∀ (W : World) (j : Nat) (v : Value), (W.setCell ⟨m, j, none⟩ v).heap[x]? = W.heap[x]? := fun W j v => Below.heap_setCell _ _ _ _ (by simpa using hne)
  rw [h1, h1, h1, h1, h1, h1, h1, h1]
/-- The book x turns. -/
theorem CS.turn {Y : Bk} {pa : Option Addr} {pc : Nat} {ra : Option Addr} {rc : Nat} {Z : Array Value} (hY : SameB ad ln hi ds Y) (hb : Bx w' n6 Z) (hZ : Z.size = 8) (hL : ListX w' q n6 q2 pa ra Y.ds Y.es) (y1 : OwnF w' q2 v fs) (y2 : ∀ f ∈ fs, ComeF ad ln 51201 f) (y3 : Box w' n5 #[.int .i64 ad, .int .i64 ln, .int .i64 51201, .int .i64 40, .int .i64 hi, .slice da ds.length dc, .int .i64 0, .slice none 0 0]) (y4 : ListX w' q n6 q2 da none ds []) (y5 : Bx w' n2 #[.int .i64 0, .int .i64 0, .int .i64 0, .int .i64 0, .int .i64 0, .slice none 0 0, .int .i64 0, .slice none 0 0]) (y6 : Below w.heap.size w w') (y7 : Rb w' R N) (h3 : n6 < q2) (h4 : n5 ≠ n6) (h5 : n2 ≠ n6) (h6 : R < n6) (h7 : w.heap.size ≤ n6) : CS w (World.setCell (World.setCell (World.setCell (World.setCell (World.setCell (World.setCell (World.setCell (World.setCell w' ⟨n6, 0, none⟩ (.int .i64 Y.ad)) ⟨n6, 1, none⟩ (.int .i64 Y.ln)) ⟨n6, 2, none⟩ (.int .i64 Y.ow)) ⟨n6, 3, none⟩ (.int .i64 Y.lo)) ⟨n6, 4, none⟩ (.int .i64 Y.hi)) ⟨n6, 5, none⟩ (.slice pa Y.ds.length pc)) ⟨n6, 6, none⟩ (.int .i64 Y.nw)) ⟨n6, 7, none⟩ (.slice ra Y.es.length rc)) R n2 n5 n6 q q2 ad ln hi da dc ds v fs N := by
  have hz : ∃ z0 z1 z2 z3 z4 z5 z6 z7, Z = #[z0, z1, z2, z3, z4, z5, z6, z7] := by
    obtain ⟨l⟩ := Z
    match l, hZ with
    | [z0, z1, z2, z3, z4, z5, z6, z7], _ => exact ⟨z0, z1, z2, z3, z4, z5, z6, z7, rfl⟩
  obtain ⟨z0, z1, z2, z3, z4, z5, z6, z7, rfl⟩ := hz
  exact ⟨⟨Y, pa, pc, ra, rc, hY, hb.set8 (.int .i64 Y.ad) (.int .i64 Y.ln) (.int .i64 Y.ow) (.int .i64 Y.lo) (.int .i64 Y.hi) (.slice pa Y.ds.length pc) (.int .i64 Y.nw) (.slice ra Y.es.length rc), hL.set8 (.int .i64 Y.ad) (.int .i64 Y.ln) (.int .i64 Y.ow) (.int .i64 Y.lo) (.int .i64 Y.hi) (.slice pa Y.ds.length pc) (.int .i64 Y.nw) (.slice ra Y.es.length rc)⟩, own_other8 y1 h3 (.int .i64 Y.ad) (.int .i64 Y.ln) (.int .i64 Y.ow) (.int .i64 Y.lo) (.int .i64 Y.hi) (.slice pa Y.ds.length pc) (.int .i64 Y.nw) (.slice ra Y.es.length rc), y2, y3.other8 h4 (.int .i64 Y.ad) (.int .i64 Y.ln) (.int .i64 Y.ow) (.int .i64 Y.lo) (.int .i64 Y.hi) (.slice pa Y.ds.length pc) (.int .i64 Y.nw) (.slice ra Y.es.length rc), y4.set8 (.int .i64 Y.ad) (.int .i64 Y.ln) (.int .i64 Y.ow) (.int .i64 Y.lo) (.int .i64 Y.hi) (.slice pa Y.ds.length pc) (.int .i64 Y.nw) (.slice ra Y.es.length rc), y5.other8 h5 (.int .i64 Y.ad) (.int .i64 Y.ln) (.int .i64 Y.ow) (.int .i64 Y.lo) (.int .i64 Y.hi) (.slice pa Y.ds.length pc) (.int .i64 Y.nw) (.slice ra Y.es.length rc), bl_set8 y6 h7 (.int .i64 Y.ad) (.int .i64 Y.ln) (.int .i64 Y.ow) (.int .i64 Y.lo) (.int .i64 Y.hi) (.slice pa Y.ds.length pc) (.int .i64 Y.nw) (.slice ra Y.es.length rc), rb_set8 y7 h6 (.int .i64 Y.ad) (.int .i64 Y.ln) (.int .i64 Y.ow) (.int .i64 Y.lo) (.int .i64 Y.hi) (.slice pa Y.ds.length pc) (.int .i64 Y.nw) (.slice ra Y.es.length rc)⟩
end
end Go.Proofs.YtcgjpmhjijmplaaGreatDoor

/- DrawNatCome, walked. -/
namespace Go.Proofs.YtcgjpmhjijmplaaGreatDoor
open Go.ChangeShapes Go.WideShapes Go.ChangeAt Go.RowKit Go.Maps

/-- What DrawNatCome draws: a book without entries, at tick 0, that is ok; flows that are ticks, go out or may come in. -/
def DrawnC (w' : World) (q : Nat) (e : Ending) : Prop := ∃ (ad ln hi : Int) (da : Option Addr) (dc : Nat) (ds : List Dr) (v : Value) (fs : List Fl), e = .returned (.tuple #[.agg #[.int .i64 ad, .int .i64 ln, .int .i64 51201, .int .i64 40, .int .i64 hi, .slice da ds.length dc, .int .i64 0, .slice none 0 0], v]) ∧ SameB ad ln hi ds ⟨ad, ln, 51201, 40, hi, 0, ds, []⟩ ∧ (∀ f ∈ fs, ComeF ad ln 51201 f) ∧ fs.length ≤ 100 ∧ DoorsL w' q da ds.length ds ∧ OwnF w' q v fs
theorem same_frame {ad ln hi : Int} {ds : List Dr} {X : Bk} (h : SameB ad ln hi ds X) (hfi : FrameIs ad ln hi) : FrameIs X.ad X.ln X.hi ∧ -1000000 ≤ X.ad ∧ X.ad ≤ 1000000 := by
  obtain ⟨_, h1, h2, _, _, h5, _⟩ := h
  rw [h1, h2, h5]
  refine ⟨hfi, ?_⟩
  rcases hfi.1 with ⟨rfl, _⟩ | ⟨rfl, _⟩ | ⟨rfl, _⟩ <;> omega
theorem come_zero {ad ln : Int} : ComeF ad ln 51201 ⟨0, 0, 0, 0, 0⟩ := Or.inl rfl
theorem come_out {ad ln hi : Int} {ds : List Dr} {X : Bk} {k a ap b bp : Int} (h : SameB ad ln hi ds X) (ho : OutBy X.ad X.ln X.ds X.es k a ap b bp) : ComeF ad ln 51201 ⟨k, a, ap, b, bp⟩ := by
  have := out_inside h.1 ho
  rw [h.2.1, h.2.2.1] at this
  exact Or.inr (Or.inl this)
theorem come_in {ad ln hi : Int} {ds : List Dr} {X : Bk} {k a ap bp : Int} (h : SameB ad ln hi ds X) (hfi : FrameIs ad ln hi) (ho : InBy X.ds X.es k a ap bp) : ComeF ad ln 51201 ⟨k, a, ap, X.ow, bp⟩ := by
  have := in_comes h.1 (same_frame h hfi).1 h.2.2.2.1 ho
  rw [h.2.1, h.2.2.1, h.2.2.2.1] at this
  refine Or.inr (Or.inr ?_)
  rw [h.2.2.2.1]
  exact this
theorem IsRow.apart {R : Nat} {w w' : World} {g m : Nat} {e : TypeId} (h : IsRow w g e m) (ha : Apart R w w') (hg : g ≠ R) : IsRow w' g e m := by
  have hl := h.lt
  obtain ⟨C, h1, h2⟩ := h
  exact ⟨C, (ha.block g hl hg).trans h1, h2⟩
set_option maxRecDepth 20000 in
set_option maxHeartbeats 8000000 in
theorem drawCome_ret (ca : Option Addr) (cn cc : Nat) (w : World) (hn : cn ≤ cc) (hc : cc ≤ maxLen) (hb : BytesIn w ca cn) :
    Calls Tryz.prog 10 #[.slice ca cn cc] w fun e w' => DrawnC w' w.heap.size e ∧ Below w.heap.size w w' := by
  have hB0 := bl_alloc (bl_refl w) (.cells #[.int .i64 0, .int .i64 0, .int .i64 0, .int .i64 0, .int .i64 0, .slice none 0 0, .int .i64 0, .slice none 0 0] 26)
  have bx := Bx.new w #[.int .i64 0, .int .i64 0, .int .i64 0, .int .i64 0, .int .i64 0, .slice none 0 0, .int .i64 0, .slice none 0 0] 26
  have H1 : Hid (Calls Tryz.prog _ _ _ _) := open_ret ca cn cc _ hn hc (hb.below hB0)
  clear hn hc hb
  go_enter Tryz.func10, Tryz.ntmps10
  go_wp2_with fail
  refine H1.out.mono ?_
  rintro e w1 ⟨rfl, hb1, hrd⟩
  have hB1 := bl_trans hB0 hb1
  replace bx := bx.below hb1
  simp only [World.size_alloc] at hrd
  have HR : Rb w1 (w.heap.size + 1) 0 := ⟨0, by omega, by omega, hrd⟩
  generalize hRR : w.heap.size + 1 = R at *
  clear H1 hb1 hrd hB0
  have hRl := HR.lt
  have HF : Hid (Calls Tryz.prog _ _ _ _) := frame_ret R 0 w1 HR (by omega)
  go_wp2_with fail
  refine HF.out.mono ?_
  rintro e w2 ⟨⟨ad, ln, hi, da, dn, dc, ds, rfl, hfi, hbk, hDS, hdn⟩, ha, hr⟩
  have hdl := hDS.1
  subst hdl
  replace hB1 := bl_of_ap hB1 ha (by omega)
  replace bx := bx.apart ha (by omega)
  have hs2 := ha.size
  clear ha HF HR
  have hBa := bl_alloc (bl_alloc (bl_alloc (bl_refl w2) (.cells #[.int .i64 ad, .int .i64 ln, .int .i64 51201, .int .i64 40, .int .i64 hi, .slice da ds.length dc, .int .i64 0, .slice none 0 0] 26)) (.cells #[.int .i64 ad, .int .i64 ln, .int .i64 51201, .int .i64 40, .int .i64 hi, .slice da ds.length dc, .int .i64 0, .slice none 0 0] 26)) (.cells #[] 32)
  have x5 := ((Box.new w2 #[.int .i64 ad, .int .i64 ln, .int .i64 51201, .int .i64 40, .int .i64 hi, .slice da ds.length dc, .int .i64 0, .slice none 0 0] 26).below (bl_alloc (bl_refl _) (.cells #[.int .i64 ad, .int .i64 ln, .int .i64 51201, .int .i64 40, .int .i64 hi, .slice da ds.length dc, .int .i64 0, .slice none 0 0] 26))).below (bl_alloc (bl_refl _) (.cells #[] 32))
  have x6 := (Bx.new (w2.alloc (.cells #[.int .i64 ad, .int .i64 ln, .int .i64 51201, .int .i64 40, .int .i64 hi, .slice da ds.length dc, .int .i64 0, .slice none 0 0] 26)) #[.int .i64 ad, .int .i64 ln, .int .i64 51201, .int .i64 40, .int .i64 hi, .slice da ds.length dc, .int .i64 0, .slice none 0 0] 26).below (bl_alloc (bl_refl _) (.cells #[] 32))
  have ho := own_empty ((w2.alloc (.cells #[.int .i64 ad, .int .i64 ln, .int .i64 51201, .int .i64 40, .int .i64 hi, .slice da ds.length dc, .int .i64 0, .slice none 0 0] 26)).alloc (.cells #[.int .i64 ad, .int .i64 ln, .int .i64 51201, .int .i64 40, .int .i64 hi, .slice da ds.length dc, .int .i64 0, .slice none 0 0] 26)) 32 5
  have z5 := (Box.new w2 #[.int .i64 ad, .int .i64 ln, .int .i64 51201, .int .i64 40, .int .i64 hi, .slice da ds.length dc, .int .i64 0, .slice none 0 0] 26).2
  simp only [World.size_alloc] at x6 ho
  have hsame : SameB ad ln hi ds ⟨ad, ln, 51201, 40, hi, 0, ds, []⟩ := ⟨hbk, rfl, rfl, rfl, rfl, rfl, rfl⟩
  have hLX : ListX w2 (R + 1) (w2.heap.size + 1) (w2.heap.size + 1 + 1) da none ds [] := ⟨by
    rcases hDS.2 with ⟨_, _, h⟩ | ⟨g, h1, h2, h3, h4, h5⟩
    · exact Or.inl h
    · exact Or.inr ⟨g, 0, h1, ⟨by omega, h3, by omega, Or.inl (by omega)⟩, h5⟩, Or.inl rfl⟩
  have hCS : CS w (((w2.alloc (.cells #[.int .i64 ad, .int .i64 ln, .int .i64 51201, .int .i64 40, .int .i64 hi, .slice da ds.length dc, .int .i64 0, .slice none 0 0] 26)).alloc (.cells #[.int .i64 ad, .int .i64 ln, .int .i64 51201, .int .i64 40, .int .i64 hi, .slice da ds.length dc, .int .i64 0, .slice none 0 0] 26)).alloc (.cells #[] 32)) R w.heap.size w2.heap.size (w2.heap.size + 1) (R + 1) (w2.heap.size + 1 + 1) ad ln hi da dc ds (.slice (some ⟨w2.heap.size + 1 + 1, 0, none⟩) 0 0) [] 200 :=
    ⟨⟨⟨ad, ln, 51201, 40, hi, 0, ds, []⟩, da, dc, none, 0, hsame, x6, hLX.below hBa⟩, ho, (fun f hf => by cases hf), x5, hLX.below hBa, bx.below hBa, bl_trans hB1 hBa, hr.below hBa⟩
  have hsz : R < w2.heap.size := by omega
  clear hLX x5 x6 ho hBa hr bx hB1 hDS
  go_upto_region 5 with fail
  clear z5
  generalize (((w2.alloc (.cells #[.int .i64 ad, .int .i64 ln, .int .i64 51201, .int .i64 40, .int .i64 hi, .slice da ds.length dc, .int .i64 0, .slice none 0 0] 26)).alloc (.cells #[.int .i64 ad, .int .i64 ln, .int .i64 51201, .int .i64 40, .int .i64 hi, .slice da ds.length dc, .int .i64 0, .slice none 0 0] 26)).alloc (.cells #[] 32)) = W3 at *
  generalize hn5 : w2.heap.size = n5 at *
  generalize hn6 : n5 + 1 = n6 at *
  generalize hq2 : n6 + 1 = q2 at *
  generalize hq : R + 1 = q at *
  have hCS := hCS
  generalize hn2 : w.heap.size = n2 at hRR hCS ⊢
  go_wp2_with fail
  refine (pick_rb R _ 24 _ hCS.2.2.2.2.2.2.2 (by omega) (by omega) (by omega)).mono ?_
  rintro e w3 ⟨⟨r, rfl, r0, r1⟩, ha, hr⟩
  replace hCS := hCS.apart ha hr (by omega) (by omega) (by omega) (by omega) (by omega) (by omega)
  clear ha hr
  have hw3r : IntKind.i64.wrap (3 + r) = 3 + r := wrap_of _ (by omega) (by omega)
  go_wp2_with fail
  go_loopg [7, 8] (3 + r).toNat (fun g sv nv wr => ∃ (j : Int) (fs : List Fl) (s7 : Value), s7 = sv ∧ g = j.toNat ∧ 0 ≤ j ∧ j ≤ 26 ∧ nv = .int .i64 j ∧ (fs.length : Int) ≤ 60 + (26 - j) ∧ CS w wr R n2 n5 n6 q q2 ad ln hi da dc ds s7 fs (201 + (26 - j) * 300))
  case atStart => exact ⟨3 + r, [], _, rfl, rfl, by omega, by omega, rfl, by simp; omega, hCS.le (by omega)⟩
  case round =>
    clear hCS hw3r r0 r1
    obtain ⟨j, fs, s7, rfl, hgj, hj00, hj26, rfl, hfl, hCS⟩ := hrel
    have hA : 201 + (26 - j) * 300 ≤ 10000 := by omega
    generalize hAe : 201 + (26 - j) * 300 = A at hCS hA
    by_cases hj0 : 0 < j
    · have hBl := bl_alloc (bl_refl wr) (.cells #[.int .i64 0, .int .i64 0, .int .i64 0, .int .i64 0, .int .i64 0] 32)
      have x9 := Bx.new wr #[.int .i64 0, .int .i64 0, .int .i64 0, .int .i64 0, .int .i64 0] 32
      have t9 := IsRow.made wr #[.int .i64 0, .int .i64 0, .int .i64 0, .int .i64 0, .int .i64 0] 32
      have hk9 : ∀ k, Value.ownBlock _ = some k → k ≠ wr.heap.size := fun k hk => Nat.ne_of_lt (hCS.2.1.lt k hk).2
      have hq9 : q2 ≤ wr.heap.size := by have := hCS.lt; omega
      replace hCS := hCS.below hBl
      clear hBl
      have hrb := hCS.2.2.2.2.2.2.2
      have H6 : Hid (Calls Tryz.prog _ _ _ _) := pick_rb R _ 6 _ hrb (by omega) (by omega) (by omega)
      clear hrb
      go_wp2_with fail
      generalize wr.alloc (.cells #[.int .i64 0, .int .i64 0, .int .i64 0, .int .i64 0, .int .i64 0] 32) = W4 at *
      generalize wr.heap.size = n9 at *
      refine H6.out.mono ?_
      rintro e w4 ⟨⟨y, rfl, y0, y1⟩, ha, hr⟩
      replace hCS := hCS.apart ha hr (by omega) (by omega) (by omega) (by omega) (by omega) (by omega)
      replace x9 := x9.apart ha (by omega)
      replace t9 := t9.apart ha (by omega)
      clear ha hr H6
      go_upto_block 2 with fail
      go_cut [] (fun wc => ∃ f : Fl, ComeF ad ln 51201 f ∧ Box wc n9 #[.int .i64 f.k, .int .i64 f.a, .int .i64 f.ap, .int .i64 f.b, .int .i64 f.bp] ∧ CS w wc R n2 n5 n6 q q2 ad ln hi da dc ds s7 fs (A + 202))
      case first =>
        rcases (show y = 0 ∨ y = 1 ∨ y = 2 ∨ y = 3 ∨ y = 4 ∨ y = 5 by omega) with rfl | rfl | rfl | rfl | rfl | rfl
        · skip
          obtain ⟨⟨X, va, vc, ua, uc, x1, x2, x3⟩, y1, y2, y3, y4, y5, y6, y7⟩ := hCS
          have hlen := same_len x1
          have H2 : Hid (Calls Tryz.prog _ _ _ _) := specTick_ret X.ad X.ln X.ow X.lo X.hi X.nw va X.ds.length vc ua X.es.length uc X.ds X.es _ x3.doors.at x3.ents.at
          have hsY := same_tick x1
          generalize tickR X.ad X.ln X.ow X.lo X.hi X.nw X.ds X.es = Y at *
          generalize tickC X.ad X.ln X.ow X.lo X.hi X.nw X.ds X.es = c2 at *
          have z6 := x2.1.2
          go_wp2_with fail
          refine H2.out.mono ?_
          rintro e w4 ⟨⟨pa, pc, ra, rc, rfl, hOw⟩, hb⟩
          have hl6 := x2.1.1
          have hL : ListX w4 q n6 q2 pa ra Y.ds Y.es := ListX.own hOw (by omega) (by omega)
          replace x2 := x2.below hb
          replace y1 := y1.below hb
          replace y3 := y3.below hb
          replace y4 := y4.below hb
          replace y5 := y5.below hb
          replace y6 := bl_trans y6 hb
          replace y7 := y7.below hb
          replace x9 := x9.below hb
          clear z6 H2 hOw x3 x1
          obtain ⟨⟨p1, p2⟩, p3⟩ := id x2
          go_wp2_with fail
          go_meet
          exact ⟨⟨0, 0, 0, 0, 0⟩, come_zero, x9.1.other8 (n := n6) (by omega) (.int .i64 Y.ad) (.int .i64 Y.ln) (.int .i64 Y.ow) (.int .i64 Y.lo) (.int .i64 Y.hi) (.slice pa Y.ds.length pc) (.int .i64 Y.nw) (.slice ra Y.es.length rc), CS.turn hsY x2 rfl hL y1 y2 y3 y4 y5 y6 (y7.le (by omega)) (by omega) (by omega) (by omega) (by omega) (by omega)⟩
        · skip
          obtain ⟨⟨X, va, vc, ua, uc, x1, x2, x3⟩, -⟩ := id hCS
          have hlen := same_len x1
          obtain ⟨hfr, ha0, ha1⟩ := same_frame x1 hfi
          have z6 := x2.1.2
          have H7 : Hid (Calls Tryz.prog _ _ _ _) := outflow_ret R _ X.ad X.ln X.ow X.lo X.hi X.nw va X.ds.length vc ua X.es.length uc X.ds X.es q w4 hCS.2.2.2.2.2.2.2 (by omega) ha0 ha1 x3.doors x3.ents (by omega) (by omega) (by omega)
          go_wp2_with fail
          refine H7.out.mono ?_
          rintro e w5 ⟨⟨k, a, ap, b, bp, rfl, hob⟩, ha, hr⟩
          have hcf := come_out x1 hob
          replace hCS := hCS.apart ha hr (by omega) (by omega) (by omega) (by omega) (by omega) (by omega)
          replace x9 := x9.apart ha (by omega)
          replace t9 := t9.apart ha (by omega)
          clear ha hr H7 z6 x1 x2 x3 hob hfr ha0 ha1 hlen
          obtain ⟨⟨p1, p2⟩, p3⟩ := id x9
          go_upto_region 17 with fail
          clear p1 p2 p3
          replace hCS := hCS.flow hq9 t9 hk9 (by omega) (by omega) (by omega) (by omega) (by omega) (.int .i64 k) (.int .i64 a) (.int .i64 ap) (.int .i64 b) (.int .i64 bp)
          replace x9 := x9.set5 (.int .i64 k) (.int .i64 a) (.int .i64 ap) (.int .i64 b) (.int .i64 bp)
          generalize (World.setCell (World.setCell (World.setCell (World.setCell (World.setCell w5 ⟨n9, 0, none⟩ (.int .i64 k)) ⟨n9, 1, none⟩ (.int .i64 a)) ⟨n9, 2, none⟩ (.int .i64 ap)) ⟨n9, 3, none⟩ (.int .i64 b)) ⟨n9, 4, none⟩ (.int .i64 bp)) = W6 at *
          clear t9
          obtain ⟨⟨X, va, vc, ua, uc, x1, x2, x3⟩, y1, y2, y3, y4, y5, y6, y7⟩ := hCS
          have H8 : Hid (Calls Tryz.prog _ _ _ _) := specOut_ret X.ad X.ln X.ow X.lo X.hi X.nw va X.ds.length vc ua X.es.length uc k a ap b bp X.ds X.es W6 x3.doors.at x3.ents.at
          have hsY := same_out x1 k a ap b bp
          generalize outM ⟨X.ad, X.ln, X.ow, X.lo, X.hi, X.nw, X.ds, X.es⟩ k a ap b bp = O at *
          obtain ⟨Y, G, c2⟩ := O
          have z6 := x2.1.2
          have z9 := x9.1.2
          go_wp2_with fail
          refine H8.out.mono ?_
          rintro e w7 ⟨⟨pa, pc, ra, rc, rfl, hOw⟩, hb⟩
          have hl6 := x2.1.1
          have hL : ListX w7 q n6 q2 pa ra Y.ds Y.es := ListX.own hOw (by omega) (by omega)
          replace x2 := x2.below hb
          replace y1 := y1.below hb
          replace y3 := y3.below hb
          replace y4 := y4.below hb
          replace y5 := y5.below hb
          replace y6 := bl_trans y6 hb
          replace y7 := y7.below hb
          replace x9 := x9.below hb
          clear z6 z9 H8 hOw x3 x1 hb
          obtain ⟨⟨p1, p2⟩, p3⟩ := id x2
          go_wp2_with fail
          go_meet
          exact ⟨⟨k, a, ap, b, bp⟩, hcf, x9.1.other8 (n := n6) (by omega) (.int .i64 Y.ad) (.int .i64 Y.ln) (.int .i64 Y.ow) (.int .i64 Y.lo) (.int .i64 Y.hi) (.slice pa Y.ds.length pc) (.int .i64 Y.nw) (.slice ra Y.es.length rc), CS.turn hsY x2 rfl hL y1 y2 y3 y4 y5 y6 (y7.le (by omega)) (by omega) (by omega) (by omega) (by omega) (by omega)⟩
        · skip
          obtain ⟨⟨X, va, vc, ua, uc, x1, x2, x3⟩, -⟩ := id hCS
          have hlen := same_len x1
          obtain ⟨hfr, ha0, ha1⟩ := same_frame x1 hfi
          have z6 := x2.1.2
          have H7 : Hid (Calls Tryz.prog _ _ _ _) := outflow_ret R _ X.ad X.ln X.ow X.lo X.hi X.nw va X.ds.length vc ua X.es.length uc X.ds X.es q w4 hCS.2.2.2.2.2.2.2 (by omega) ha0 ha1 x3.doors x3.ents (by omega) (by omega) (by omega)
          go_wp2_with fail
          refine H7.out.mono ?_
          rintro e w5 ⟨⟨k, a, ap, b, bp, rfl, hob⟩, ha, hr⟩
          have hcf := come_out x1 hob
          replace hCS := hCS.apart ha hr (by omega) (by omega) (by omega) (by omega) (by omega) (by omega)
          replace x9 := x9.apart ha (by omega)
          replace t9 := t9.apart ha (by omega)
          clear ha hr H7 z6 x1 x2 x3 hob hfr ha0 ha1 hlen
          obtain ⟨⟨p1, p2⟩, p3⟩ := id x9
          go_upto_region 17 with fail
          clear p1 p2 p3
          replace hCS := hCS.flow hq9 t9 hk9 (by omega) (by omega) (by omega) (by omega) (by omega) (.int .i64 k) (.int .i64 a) (.int .i64 ap) (.int .i64 b) (.int .i64 bp)
          replace x9 := x9.set5 (.int .i64 k) (.int .i64 a) (.int .i64 ap) (.int .i64 b) (.int .i64 bp)
          generalize (World.setCell (World.setCell (World.setCell (World.setCell (World.setCell w5 ⟨n9, 0, none⟩ (.int .i64 k)) ⟨n9, 1, none⟩ (.int .i64 a)) ⟨n9, 2, none⟩ (.int .i64 ap)) ⟨n9, 3, none⟩ (.int .i64 b)) ⟨n9, 4, none⟩ (.int .i64 bp)) = W6 at *
          clear t9
          obtain ⟨⟨X, va, vc, ua, uc, x1, x2, x3⟩, y1, y2, y3, y4, y5, y6, y7⟩ := hCS
          have H8 : Hid (Calls Tryz.prog _ _ _ _) := specOut_ret X.ad X.ln X.ow X.lo X.hi X.nw va X.ds.length vc ua X.es.length uc k a ap b bp X.ds X.es W6 x3.doors.at x3.ents.at
          have hsY := same_out x1 k a ap b bp
          generalize outM ⟨X.ad, X.ln, X.ow, X.lo, X.hi, X.nw, X.ds, X.es⟩ k a ap b bp = O at *
          obtain ⟨Y, G, c2⟩ := O
          have z6 := x2.1.2
          have z9 := x9.1.2
          go_wp2_with fail
          refine H8.out.mono ?_
          rintro e w7 ⟨⟨pa, pc, ra, rc, rfl, hOw⟩, hb⟩
          have hl6 := x2.1.1
          have hL : ListX w7 q n6 q2 pa ra Y.ds Y.es := ListX.own hOw (by omega) (by omega)
          replace x2 := x2.below hb
          replace y1 := y1.below hb
          replace y3 := y3.below hb
          replace y4 := y4.below hb
          replace y5 := y5.below hb
          replace y6 := bl_trans y6 hb
          replace y7 := y7.below hb
          replace x9 := x9.below hb
          clear z6 z9 H8 hOw x3 x1 hb
          obtain ⟨⟨p1, p2⟩, p3⟩ := id x2
          go_wp2_with fail
          go_meet
          exact ⟨⟨k, a, ap, b, bp⟩, hcf, x9.1.other8 (n := n6) (by omega) (.int .i64 Y.ad) (.int .i64 Y.ln) (.int .i64 Y.ow) (.int .i64 Y.lo) (.int .i64 Y.hi) (.slice pa Y.ds.length pc) (.int .i64 Y.nw) (.slice ra Y.es.length rc), CS.turn hsY x2 rfl hL y1 y2 y3 y4 y5 y6 (y7.le (by omega)) (by omega) (by omega) (by omega) (by omega) (by omega)⟩
        · skip
          obtain ⟨⟨X, va, vc, ua, uc, x1, x2, x3⟩, -⟩ := id hCS
          have hlen := same_len x1
          obtain ⟨hfr, ha0, ha1⟩ := same_frame x1 hfi
          have z6 := x2.1.2
          have H7 : Hid (Calls Tryz.prog _ _ _ _) := outflow_ret R _ X.ad X.ln X.ow X.lo X.hi X.nw va X.ds.length vc ua X.es.length uc X.ds X.es q w4 hCS.2.2.2.2.2.2.2 (by omega) ha0 ha1 x3.doors x3.ents (by omega) (by omega) (by omega)
          go_wp2_with fail
          refine H7.out.mono ?_
          rintro e w5 ⟨⟨k, a, ap, b, bp, rfl, hob⟩, ha, hr⟩
          have hcf := come_out x1 hob
          replace hCS := hCS.apart ha hr (by omega) (by omega) (by omega) (by omega) (by omega) (by omega)
          replace x9 := x9.apart ha (by omega)
          replace t9 := t9.apart ha (by omega)
          clear ha hr H7 z6 x1 x2 x3 hob hfr ha0 ha1 hlen
          obtain ⟨⟨p1, p2⟩, p3⟩ := id x9
          go_upto_region 17 with fail
          clear p1 p2 p3
          replace hCS := hCS.flow hq9 t9 hk9 (by omega) (by omega) (by omega) (by omega) (by omega) (.int .i64 k) (.int .i64 a) (.int .i64 ap) (.int .i64 b) (.int .i64 bp)
          replace x9 := x9.set5 (.int .i64 k) (.int .i64 a) (.int .i64 ap) (.int .i64 b) (.int .i64 bp)
          generalize (World.setCell (World.setCell (World.setCell (World.setCell (World.setCell w5 ⟨n9, 0, none⟩ (.int .i64 k)) ⟨n9, 1, none⟩ (.int .i64 a)) ⟨n9, 2, none⟩ (.int .i64 ap)) ⟨n9, 3, none⟩ (.int .i64 b)) ⟨n9, 4, none⟩ (.int .i64 bp)) = W6 at *
          clear t9
          obtain ⟨⟨X, va, vc, ua, uc, x1, x2, x3⟩, y1, y2, y3, y4, y5, y6, y7⟩ := hCS
          have H8 : Hid (Calls Tryz.prog _ _ _ _) := specOut_ret X.ad X.ln X.ow X.lo X.hi X.nw va X.ds.length vc ua X.es.length uc k a ap b bp X.ds X.es W6 x3.doors.at x3.ents.at
          have hsY := same_out x1 k a ap b bp
          generalize outM ⟨X.ad, X.ln, X.ow, X.lo, X.hi, X.nw, X.ds, X.es⟩ k a ap b bp = O at *
          obtain ⟨Y, G, c2⟩ := O
          have z6 := x2.1.2
          have z9 := x9.1.2
          go_wp2_with fail
          refine H8.out.mono ?_
          rintro e w7 ⟨⟨pa, pc, ra, rc, rfl, hOw⟩, hb⟩
          have hl6 := x2.1.1
          have hL : ListX w7 q n6 q2 pa ra Y.ds Y.es := ListX.own hOw (by omega) (by omega)
          replace x2 := x2.below hb
          replace y1 := y1.below hb
          replace y3 := y3.below hb
          replace y4 := y4.below hb
          replace y5 := y5.below hb
          replace y6 := bl_trans y6 hb
          replace y7 := y7.below hb
          replace x9 := x9.below hb
          clear z6 z9 H8 hOw x3 x1 hb
          obtain ⟨⟨p1, p2⟩, p3⟩ := id x2
          go_wp2_with fail
          go_meet
          exact ⟨⟨k, a, ap, b, bp⟩, hcf, x9.1.other8 (n := n6) (by omega) (.int .i64 Y.ad) (.int .i64 Y.ln) (.int .i64 Y.ow) (.int .i64 Y.lo) (.int .i64 Y.hi) (.slice pa Y.ds.length pc) (.int .i64 Y.nw) (.slice ra Y.es.length rc), CS.turn hsY x2 rfl hL y1 y2 y3 y4 y5 y6 (y7.le (by omega)) (by omega) (by omega) (by omega) (by omega) (by omega)⟩
        · skip
          obtain ⟨⟨X, va, vc, ua, uc, x1, x2, x3⟩, -⟩ := id hCS
          have hlen := same_len x1
          obtain ⟨hfr, ha0, ha1⟩ := same_frame x1 hfi
          have z6 := x2.1.2
          have H7 : Hid (Calls Tryz.prog _ _ _ _) := inflow_ret R _ X.ad X.ln X.ow X.lo X.hi X.nw va X.ds.length vc ua X.es.length uc X.ds X.es q w4 hCS.2.2.2.2.2.2.2 (by omega) x3.doors x3.ents (by omega) (by omega) (by omega)
          go_wp2_with fail
          refine H7.out.mono ?_
          rintro e w5 ⟨⟨k, a, ap, bp, rfl, hob⟩, ha, hr⟩
          have hcf := come_in x1 hfi hob
          replace hCS := hCS.apart ha hr (by omega) (by omega) (by omega) (by omega) (by omega) (by omega)
          replace x9 := x9.apart ha (by omega)
          replace t9 := t9.apart ha (by omega)
          generalize X.ow = b at *
          clear ha hr H7 z6 x1 x2 x3 hob hfr ha0 ha1 hlen
          obtain ⟨⟨p1, p2⟩, p3⟩ := id x9
          go_wp2_with fail
          go_meet
          exact ⟨⟨k, a, ap, b, bp⟩, hcf, (x9.set5 (.int .i64 k) (.int .i64 a) (.int .i64 ap) (.int .i64 b) (.int .i64 bp)).1, CS.le (N' := A + 202) (hCS.flow hq9 t9 hk9 (by omega) (by omega) (by omega) (by omega) (by omega) (.int .i64 k) (.int .i64 a) (.int .i64 ap) (.int .i64 b) (.int .i64 bp)) (by omega)⟩
        · skip
          obtain ⟨⟨X, va, vc, ua, uc, x1, x2, x3⟩, -⟩ := id hCS
          have hlen := same_len x1
          obtain ⟨hfr, ha0, ha1⟩ := same_frame x1 hfi
          have z6 := x2.1.2
          have H7 : Hid (Calls Tryz.prog _ _ _ _) := inflow_ret R _ X.ad X.ln X.ow X.lo X.hi X.nw va X.ds.length vc ua X.es.length uc X.ds X.es q w4 hCS.2.2.2.2.2.2.2 (by omega) x3.doors x3.ents (by omega) (by omega) (by omega)
          go_wp2_with fail
          refine H7.out.mono ?_
          rintro e w5 ⟨⟨k, a, ap, bp, rfl, hob⟩, ha, hr⟩
          have hcf := come_in x1 hfi hob
          replace hCS := hCS.apart ha hr (by omega) (by omega) (by omega) (by omega) (by omega) (by omega)
          replace x9 := x9.apart ha (by omega)
          replace t9 := t9.apart ha (by omega)
          generalize X.ow = b at *
          clear ha hr H7 z6 x1 x2 x3 hob hfr ha0 ha1 hlen
          obtain ⟨⟨p1, p2⟩, p3⟩ := id x9
          go_wp2_with fail
          go_meet
          exact ⟨⟨k, a, ap, b, bp⟩, hcf, (x9.set5 (.int .i64 k) (.int .i64 a) (.int .i64 ap) (.int .i64 b) (.int .i64 bp)).1, CS.le (N' := A + 202) (hCS.flow hq9 t9 hk9 (by omega) (by omega) (by omega) (by omega) (by omega) (.int .i64 k) (.int .i64 a) (.int .i64 ap) (.int .i64 b) (.int .i64 bp)) (by omega)⟩
      case rest =>
        clear hCS x9 t9 y0 y1
        obtain ⟨f, hcf, x9, hCS⟩ := hcut
        have hBl := bl_alloc (bl_refl wc) (.cells #[.int .i64 f.k, .int .i64 f.a, .int .i64 f.ap, .int .i64 f.b, .int .i64 f.bp] 32)
        have xs := Box.new wc #[.int .i64 f.k, .int .i64 f.a, .int .i64 f.ap, .int .i64 f.b, .int .i64 f.bp] 32
        have z9 := x9.2
        have hl9 := x9.1
        replace hCS := hCS.below hBl
        replace x9 := x9.below hBl
        obtain ⟨v', w9, hrun, hOf, hg9, hvb⟩ := app_flow (f := f) hCS.2.1 xs (by omega) (by have := hCS.lt; omega)
        replace hCS := hCS.grown hcf hOf hg9 (by omega) (by omega) (by omega) (by omega) (by omega)
        replace x9 := x9.far hg9 (fun k hk => fun e => hk9 k hk e.symm)
        have hk9' : ∀ k, v'.ownBlock = some k → k ≠ n9 := fun k hk => by
          rcases hvb with h | h
          · exact hk9 k (h ▸ hk)
          · rw [h] at hk; have := Option.some.inj hk; simp only [World.size_alloc] at this; omega
        clear hk9 hOf hg9 hvb hBl xs
        go_wp2_with (first | (at_builtin; refine Lib.wpList_append_run _ rfl _ _ _ _ rfl _ _ rfl rfl _ _ hrun ?_))
        clear hrun z9
        have hfl2 : ((fs ++ [f]).length : Int) ≤ 60 + (26 - (j - 1)) := by simp only [List.length_append, List.length_cons, List.length_nil]; omega
        generalize fs ++ [f] = fs1 at *
        have hl19 : n9 < w9.heap.size := x9.1
        go_loopg [7] (60 - fs1.length) (fun g sv wq => ∃ (fs2 : List Fl) (s7 : Value), s7 = sv ∧ g = 60 - fs2.length ∧ (fs2.length : Int) ≤ 60 + (26 - (j - 1)) ∧ Box wq n9 #[.int .i64 f.k, .int .i64 f.a, .int .i64 f.ap, .int .i64 f.b, .int .i64 f.bp] ∧ (∀ k, s7.ownBlock = some k → k ≠ n9) ∧ CS w wq R n2 n5 n6 q q2 ad ln hi da dc ds s7 fs2 (A + 202 + fs2.length))
        case atStart => exact ⟨fs1, _, rfl, rfl, hfl2, x9, hk9', hCS.le (by omega)⟩
        case round =>
          clear hCS x9 hk9' hfl2 hl19
          obtain ⟨fs2, s7, rfl, hg2, hfl2, x9, hk9, hCS⟩ := hrel
          have hrb := hCS.2.2.2.2.2.2.2
          have H6 : Hid (Calls Tryz.prog _ _ _ _) := pick_rb R _ 4 _ hrb (by omega) (by omega) (by omega)
          clear hrb
          go_wp2_with fail
          refine H6.out.mono ?_
          rintro e w4 ⟨⟨p, rfl, p0, p1⟩, ha, hr⟩
          replace hCS := hCS.apart ha hr (by omega) (by omega) (by omega) (by omega) (by omega) (by omega)
          replace x9 := x9.apart ha (by omega)
          clear ha hr H6
          have z9 := x9.2
          obtain ⟨sa, sc, rfl⟩ := own_slice hCS.2.1
          have hsm : (fs2.length : Int) ≤ 9223372036854775807 := by omega
          by_cases hp0 : p = 0
          · have hpq : (p == 0) = true := by simpa using hp0
            clear hp0
            by_cases hk0 : f.k = 0
            · have hkq : (f.k == 0) = true := by simpa using hk0
              clear hk0
              by_cases hlt : (fs2.length : Int) < 60
              · skip
                obtain ⟨⟨X, va, vc, ua, uc, x1, x2, x3⟩, y1, y2, y3, y4, y5, y6, y7⟩ := hCS
                have hlen := same_len x1
                have H2 : Hid (Calls Tryz.prog _ _ _ _) := specTick_ret X.ad X.ln X.ow X.lo X.hi X.nw va X.ds.length vc ua X.es.length uc X.ds X.es _ x3.doors.at x3.ents.at
                have hsY := same_tick x1
                generalize tickR X.ad X.ln X.ow X.lo X.hi X.nw X.ds X.es = Y at *
                generalize tickC X.ad X.ln X.ow X.lo X.hi X.nw X.ds X.es = c2 at *
                have z6 := x2.1.2
                go_wp2_with fail
                refine H2.out.mono ?_
                rintro e w4 ⟨⟨pa, pc, ra, rc, rfl, hOw⟩, hb⟩
                have hl6 := x2.1.1
                have hL : ListX w4 q n6 q2 pa ra Y.ds Y.es := ListX.own hOw (by omega) (by omega)
                replace x2 := x2.below hb
                replace y1 := y1.below hb
                replace y3 := y3.below hb
                replace y4 := y4.below hb
                replace y5 := y5.below hb
                replace y6 := bl_trans y6 hb
                replace y7 := y7.below hb
                replace x9 := x9.below hb
                clear z6 H2 hOw x3 x1
                obtain ⟨⟨p1, p2⟩, p3⟩ := id x2
                go_upto_region 21 with fail
                have hCS : CS w (World.setCell (World.setCell (World.setCell (World.setCell (World.setCell (World.setCell (World.setCell (World.setCell w4 ⟨n6, 0, none⟩ (.int .i64 Y.ad)) ⟨n6, 1, none⟩ (.int .i64 Y.ln)) ⟨n6, 2, none⟩ (.int .i64 Y.ow)) ⟨n6, 3, none⟩ (.int .i64 Y.lo)) ⟨n6, 4, none⟩ (.int .i64 Y.hi)) ⟨n6, 5, none⟩ (.slice pa Y.ds.length pc)) ⟨n6, 6, none⟩ (.int .i64 Y.nw)) ⟨n6, 7, none⟩ (.slice ra Y.es.length rc)) R n2 n5 n6 q q2 ad ln hi da dc ds (.slice sa fs2.length sc) fs2 (A + 203 + fs2.length) := CS.turn hsY x2 rfl hL y1 y2 y3 y4 y5 y6 (y7.le (by omega)) (by omega) (by omega) (by omega) (by omega) (by omega)
                replace x9 := x9.other8 (n := n6) (by omega) (.int .i64 Y.ad) (.int .i64 Y.ln) (.int .i64 Y.ow) (.int .i64 Y.lo) (.int .i64 Y.hi) (.slice pa Y.ds.length pc) (.int .i64 Y.nw) (.slice ra Y.es.length rc)
                generalize (World.setCell (World.setCell (World.setCell (World.setCell (World.setCell (World.setCell (World.setCell (World.setCell w4 ⟨n6, 0, none⟩ (.int .i64 Y.ad)) ⟨n6, 1, none⟩ (.int .i64 Y.ln)) ⟨n6, 2, none⟩ (.int .i64 Y.ow)) ⟨n6, 3, none⟩ (.int .i64 Y.lo)) ⟨n6, 4, none⟩ (.int .i64 Y.hi)) ⟨n6, 5, none⟩ (.slice pa Y.ds.length pc)) ⟨n6, 6, none⟩ (.int .i64 Y.nw)) ⟨n6, 7, none⟩ (.slice ra Y.es.length rc)) = W8 at *
                clear p1 p2 p3 x2 hL y1 y2 y3 y4 y5 y6 y7 hsY
                have hBl := bl_alloc (bl_refl W8) (.cells #[.int .i64 f.k, .int .i64 f.a, .int .i64 f.ap, .int .i64 f.b, .int .i64 f.bp] 32)
                have xs := Box.new W8 #[.int .i64 f.k, .int .i64 f.a, .int .i64 f.ap, .int .i64 f.b, .int .i64 f.bp] 32
                have z9 := x9.2
                have hl9 := x9.1
                replace hCS := hCS.below hBl
                replace x9 := x9.below hBl
                obtain ⟨v', w9, hrun, hOf, hg9, hvb⟩ := app_flow (f := f) hCS.2.1 xs (by omega) (by have := hCS.lt; omega)
                replace hCS := hCS.grown hcf hOf hg9 (by omega) (by omega) (by omega) (by omega) (by omega)
                replace x9 := x9.far hg9 (fun k hk => fun e => hk9 k hk e.symm)
                have hk9' : ∀ k, v'.ownBlock = some k → k ≠ n9 := fun k hk => by
                  rcases hvb with h | h
                  · exact hk9 k (h ▸ hk)
                  · rw [h] at hk; have := Option.some.inj hk; simp only [World.size_alloc] at this; omega
                clear hk9 hOf hg9 hvb hBl xs
                go_wp2_with (first | (at_builtin; refine Lib.wpList_append_run _ rfl _ _ _ _ rfl _ _ rfl rfl _ _ hrun ?_))
                have hlen2 : (fs2 ++ [f]).length = fs2.length + 1 := by simp
                go_roundg (60 - (fs2.length + 1))
                case measure => omega
                case rel => exact ⟨fs2 ++ [f], _, rfl, by rw [hlen2], by rw [hlen2]; omega, x9, hk9', hCS.le (by rw [hlen2]; omega)⟩
              · skip
                go_wp2_with fail
                go_roundg (j - 1).toNat
                case measure => omega
                case rel => exact ⟨j - 1, fs2, _, rfl, rfl, by omega, by omega, rfl, hfl2, hCS.le (by omega)⟩
            · have hkq : (f.k == 0) = false := by simpa using hk0
              clear hk0
              go_wp2_with fail
              go_roundg (j - 1).toNat
              case measure => omega
              case rel => exact ⟨j - 1, fs2, _, rfl, rfl, by omega, by omega, rfl, hfl2, hCS.le (by omega)⟩
          · have hpq : (p == 0) = false := by simpa using hp0
            clear hp0
            go_wp2_with fail
            go_roundg (j - 1).toNat
            case measure => omega
            case rel => exact ⟨j - 1, fs2, _, rfl, rfl, by omega, by omega, rfl, hfl2, hCS.le (by omega)⟩
    · obtain ⟨-, y1, y2, y3, y4, y5, y6, y7⟩ := hCS
      have z5 := y3.2
      obtain ⟨⟨q1, q2'⟩, q3⟩ := id y5
      go_wp2_with fail
      have hbv := y5.set8 (.int .i64 ad) (.int .i64 ln) (.int .i64 51201) (.int .i64 40) (.int .i64 hi) (.slice da ds.length dc) (.int .i64 0) (.slice none 0 0)
      obtain ⟨⟨t1, t2⟩, t3⟩ := id hbv
      subst hn2
      exact bodyPost_ret (v := .tuple #[.agg #[.int .i64 ad, .int .i64 ln, .int .i64 51201, .int .i64 40, .int .i64 hi, .slice da ds.length dc, .int .i64 0, .slice none 0 0], s7]) (by simp [results, Tryz.results10, go_sem, t2]) rfl ⟨⟨ad, ln, hi, da, dc, ds, s7, fs, rfl, hsame, y2, by omega, (y4.low8 (m := w.heap.size) (by omega) (.int .i64 ad) (.int .i64 ln) (.int .i64 51201) (.int .i64 40) (.int .i64 hi) (.slice da ds.length dc) (.int .i64 0) (.slice none 0 0)).doors.mono (by omega), own_mono (own_other8 y1 (m := w.heap.size) (by omega) (.int .i64 ad) (.int .i64 ln) (.int .i64 51201) (.int .i64 40) (.int .i64 hi) (.slice da ds.length dc) (.int .i64 0) (.slice none 0 0)) (by omega)⟩, bl_set8 y6 (n := w.heap.size) (by omega) (.int .i64 ad) (.int .i64 ln) (.int .i64 51201) (.int .i64 40) (.int .i64 hi) (.slice da ds.length dc) (.int .i64 0) (.slice none 0 0)⟩
end Go.Proofs.YtcgjpmhjijmplaaGreatDoor
