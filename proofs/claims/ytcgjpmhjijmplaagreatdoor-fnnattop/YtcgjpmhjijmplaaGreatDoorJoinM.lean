/- Joined: Top1, Top2. -/
import Derived.Test.YtcgjpmhjijmplaaGreatDoorJoinL
import Derived.Test.YtcgjpmhjijmplaaGreatDoorJoinK
import Derived.Test.YtcgjpmhjijmplaaGreatDoorGo8
import Derived.Test.YtcgjpmhjijmplaaGreatDoorJoinD
import Derived.Test.YtcgjpmhjijmplaaGreatDoorJoinP
import Derived.Test.YtcgjpmhjijmplaaGreatDoorWn
import Derived.Deep.DeepCutAuto
import Derived.Deep.CutBlock
/- For the law FnNatTop: what its loop keeps. -/
namespace Go.Proofs.YtcgjpmhjijmplaaGreatDoor
open Go.ChangeShapes Go.WideShapes Go.ChangeAt Go.RowKit Go.Maps

theorem takeL2 {P : Program} {md : Region.Mode} {ops : Array Oper} {Q : Exit → Act → World → Prop} {S : World → Prop} (i d : Nat) (v : Value) {oi : Oper} {fuel : Nat} {listed : Array Bool} {a : Act} {w : World} (hv : ∀ w, S w → (execOp a.eval oi).run P w = .ok (.value v) w) (hS : S w)
    (h : wpAnyH P md ops Q S fuel (listed.setIfInBounds i true) (a.put (some d) v) w) (hi : ops[i]? = some oi := by rfl) (hd : oi.dst = some d := by as_aux_lemma => kernel_rfl) (hs : Region.noSelect ops = true := by as_aux_lemma => kernel_rfl) (hf : Region.free md ops listed i = true := by as_aux_lemma => kernel_rfl) (hr : (Region.ready md ops listed).contains i = true := by as_aux_lemma => kernel_rfl)
    (hQ : ∀ c a w, Q (.panic c) (a.put (some d) v) w → Q (.panic c) a w := by exact fun _ _ _ h => h) (hw : Region.wanted oi (yielded ops a.tmps) = true := by as_aux_lemma => kernel_rfl) : wpAnyH P md ops Q S (fuel + 1) listed a w := takeAt hi hd hs hf hr hQ (Or.inl ⟨hw, hv⟩) hS h
theorem takeN2 {P : Program} {md : Region.Mode} {ops : Array Oper} {Q : Exit → Act → World → Prop} {S : World → Prop} (i d : Nat) {oi : Oper} {fuel : Nat} {listed : Array Bool} {a : Act} {w : World} (hS : S w)
    (h : wpAnyH P md ops Q S fuel (listed.setIfInBounds i true) (a.put (some d) undef) w) (hi : ops[i]? = some oi := by rfl) (hd : oi.dst = some d := by as_aux_lemma => kernel_rfl) (hs : Region.noSelect ops = true := by as_aux_lemma => kernel_rfl) (hf : Region.free md ops listed i = true := by as_aux_lemma => kernel_rfl) (hr : (Region.ready md ops listed).contains i = true := by as_aux_lemma => kernel_rfl)
    (hQ : ∀ c a w, Q (.panic c) (a.put (some d) undef) w → Q (.panic c) a w := by exact fun _ _ _ h => h) (hw : Region.wanted oi (yielded ops a.tmps) = false := by as_aux_lemma => kernel_rfl) : wpAnyH P md ops Q S (fuel + 1) listed a w := takeAt hi hd hs hf hr hQ (Or.inr ⟨hw, rfl⟩) hS h
theorem out_zero0 {B : Bk} {k a ap b bp : Int} (h : (outM B k a ap b bp).c = 0) : bookB B.ad B.ln B.ow B.lo B.hi B.nw B.ds B.es = true ∧ flowB k a ap b bp = true ∧ goesB B.ad B.ln B.ow a b = true := by
  unfold outM at h
  by_cases h1 : bookB B.ad B.ln B.ow B.lo B.hi B.nw B.ds B.es = true
  · by_cases h2 : flowB k a ap b bp = true
    · by_cases h3 : goesB B.ad B.ln B.ow a b = true
      · exact ⟨h1, h2, h3⟩
      · simp [h1, h2, h3] at h
    · simp [h1, h2] at h
  · simp [h1] at h
theorem OwnF.grownW {w w' : World} {q q2 : Nat} {v v5 : Value} {fs : List Fl} {W : List Wn} (h : OwnF w q v fs) (ho : OwnW w q2 v5 W) (hg : w.grownBy w' v5.ownBlock) : OwnF w' q v fs := by
  have hk := own_types h ho (by decide)
  refine ⟨h.1, h.2.imp id fun ⟨g, cap, cur, a, b, c, d⟩ => ⟨g, cap, cur, a, b, ?_, d⟩⟩
  have e : v.ownBlock = some g := by rw [a]; rfl
  exact (hg.block g (h.lt g e).2 (fun e2 => hk g e e2.symm)).trans c
theorem ListX.grownW {w w' : World} {q n6 q2 : Nat} {va ua : Option Addr} {ds : List Dr} {es : List En} {v : Value} {W : List Wn} (h : ListX w q n6 q2 va ua ds es) (ho : OwnW w q2 v W) (hg : w.grownBy w' v.ownBlock) : ListX w' q n6 q2 va ua ds es := by
  refine h.keep hg.size fun b e hx he => hg.block b hx.2.1 fun hb => ?_
  rcases ho.2 with ⟨h1, _⟩ | ⟨g, cap, cur, h1, h2, h3, _⟩
  · rw [h1] at hb; cases hb
  · rw [h1] at hb
    have hbg : b = g := Option.some.inj hb
    subst hbg
    rcases hx.2.2.2 with hlt | ⟨C, hC⟩
    · omega
    · rw [h3] at hC
      have h4 := Option.some.inj hC
      injection h4 with _ h5
      rcases he with rfl | rfl <;> exact absurd h5 (by decide)
theorem bl_grown {w0 w w' : World} {q2 : Nat} {v : Value} {W : List Wn} (h : Below w0.heap.size w0 w) (ho : OwnW w q2 v W) (hg : w.grownBy w' v.ownBlock) (hq : w0.heap.size ≤ q2) : Below w0.heap.size w0 w' :=
  ⟨hg.os.trans h.os, hg.tape.trans h.tape, hg.output.trans h.output, Nat.le_trans h.size hg.size, fun k hk => (hg.block k (Nat.lt_of_lt_of_le hk h.size) (fun e => by have := (ho.lt k e.symm).1; omega)).trans (h.block k hk)⟩
/-- What the loop of FnNatTop keeps. -/
def TS (w w' : World) (n3 q q2 : Nat) (B : Bk) (v4 : Value) (fs : List Fl) (v5 : Value) (W : List Wn) (i : Nat) : Prop :=
  (∃ (X : Bk) (va : Option Addr) (vc : Nat) (ua : Option Addr) (uc : Nat), TopI B X W ∧ (0 ≤ X.nw ∧ X.nw ≤ i) ∧ Bx w' n3 #[.int .i64 X.ad, .int .i64 X.ln, .int .i64 X.ow, .int .i64 X.lo, .int .i64 X.hi, .slice va X.ds.length vc, .int .i64 X.nw, .slice ua X.es.length uc] ∧ ListX w' q n3 q2 va ua X.ds X.es) ∧ OwnW w' q2 v5 W ∧ (W.length ≤ i ∧ ∀ x ∈ W, 0 ≤ x.at') ∧ OwnF w' q v4 fs ∧ Below w.heap.size w w'
section
variable {w w' w9 : World} {n3 q q2 : Nat} {B : Bk} {v4 : Value} {fs : List Fl} {v5 : Value} {W : List Wn} {i : Nat}
theorem TS.below (h : TS w w' n3 q q2 B v4 fs v5 W i) (hb : Below w'.heap.size w' w9) : TS w w9 n3 q q2 B v4 fs v5 W i := by
  obtain ⟨⟨X, va, vc, ua, uc, x1, x2, x3, x4⟩, y1, y2, y3, y4⟩ := h
  exact ⟨⟨X, va, vc, ua, uc, x1, x2, x3.below hb, x4.below hb⟩, y1.below hb, y2, y3.below hb, bl_trans y4 hb⟩
theorem TS.up {j : Nat} (h : TS w w' n3 q q2 B v4 fs v5 W i) (hj : i ≤ j) : TS w w' n3 q q2 B v4 fs v5 W j := by
  obtain ⟨⟨X, va, vc, ua, uc, x1, x2, x3, x4⟩, y1, y2, y3, y4⟩ := h
  exact ⟨⟨X, va, vc, ua, uc, x1, ⟨x2.1, by omega⟩, x3, x4⟩, y1, ⟨by omega, y2.2⟩, y3, y4⟩
theorem TS.turn {Y : Bk} {pa : Option Addr} {pc : Nat} {ra : Option Addr} {rc : Nat} {z0 z1 z2 z3 z4 z5 z6 z7 : Value} (hT : TopI B Y W) (hn : 0 ≤ Y.nw ∧ Y.nw ≤ i) (hb : Bx w' n3 #[z0, z1, z2, z3, z4, z5, z6, z7]) (hL : ListX w' q n3 q2 pa ra Y.ds Y.es) (y1 : OwnW w' q2 v5 W) (y2 : W.length ≤ i ∧ ∀ x ∈ W, 0 ≤ x.at') (y3 : OwnF w' q v4 fs) (y4 : Below w.heap.size w w') (hk : ∀ k, v4.ownBlock = some k → k ≠ n3) (h3 : n3 < q2) (h7 : w.heap.size ≤ n3) : TS w (World.setCell (World.setCell (World.setCell (World.setCell (World.setCell (World.setCell (World.setCell (World.setCell w' ⟨n3, 0, none⟩ (.int .i64 Y.ad)) ⟨n3, 1, none⟩ (.int .i64 Y.ln)) ⟨n3, 2, none⟩ (.int .i64 Y.ow)) ⟨n3, 3, none⟩ (.int .i64 Y.lo)) ⟨n3, 4, none⟩ (.int .i64 Y.hi)) ⟨n3, 5, none⟩ (.slice pa Y.ds.length pc)) ⟨n3, 6, none⟩ (.int .i64 Y.nw)) ⟨n3, 7, none⟩ (.slice ra Y.es.length rc)) n3 q q2 B v4 fs v5 W i :=
  ⟨⟨Y, pa, pc, ra, rc, hT, hn, hb.set8 (.int .i64 Y.ad) (.int .i64 Y.ln) (.int .i64 Y.ow) (.int .i64 Y.lo) (.int .i64 Y.hi) (.slice pa Y.ds.length pc) (.int .i64 Y.nw) (.slice ra Y.es.length rc), hL.set8 (.int .i64 Y.ad) (.int .i64 Y.ln) (.int .i64 Y.ow) (.int .i64 Y.lo) (.int .i64 Y.hi) (.slice pa Y.ds.length pc) (.int .i64 Y.nw) (.slice ra Y.es.length rc)⟩, own_other8 y1 h3 (.int .i64 Y.ad) (.int .i64 Y.ln) (.int .i64 Y.ow) (.int .i64 Y.lo) (.int .i64 Y.hi) (.slice pa Y.ds.length pc) (.int .i64 Y.nw) (.slice ra Y.es.length rc), y2, own_ne (own_ne (own_ne (own_ne (own_ne (own_ne (own_ne (own_ne y3 hk _) hk _) hk _) hk _) hk _) hk _) hk _) hk _, bl_set8 y4 h7 (.int .i64 Y.ad) (.int .i64 Y.ln) (.int .i64 Y.ow) (.int .i64 Y.lo) (.int .i64 Y.hi) (.slice pa Y.ds.length pc) (.int .i64 Y.nw) (.slice ra Y.es.length rc)⟩
end
theorem top_case_out {B X Y : Bk} {W : List Wn} {f G : Fl} {c : Int} (h : TopI B X W) (hO : outM ⟨X.ad, X.ln, X.ow, X.lo, X.hi, X.nw, X.ds, X.es⟩ f.k f.a f.ap f.b f.bp = ⟨Y, G, c⟩) :
    Y.nw = X.nw ∧ (((c == 0) = true ∧ (∀ x ∈ W, x.out = G → X.nw - x.at' < 12 → x.inn = f) ∧ TopI B Y (W ++ [⟨f, G, X.nw⟩])) ∨ ((c == 0) = false ∧ TopI B Y W)) := by
  have hk : bookB X.ad X.ln X.ow X.lo X.hi X.nw X.ds X.es = true := h.ok
  have hf := out_forms X f.k f.a f.ap f.b f.bp
  have hO' : outM X f.k f.a f.ap f.b f.bp = ⟨Y, G, c⟩ := hO
  by_cases hz : c = 0
  · have hz' : (outM X f.k f.a f.ap f.b f.bp).c = 0 := by rw [hO']; exact hz
    obtain ⟨z1, z2, z3⟩ := out_zero0 hz'
    have hG := out_goes z1 z2 z3
    have ht := top_out h z2 z3 hG hz'
    have hnw : (outM X f.k f.a f.ap f.b f.bp).R.nw = X.nw := by
      rcases hG with ⟨d, hd, e⟩ | ⟨l1, e', l2, hd, hs, he, hl, e⟩ | ⟨hd, he, hl, e⟩ | ⟨p, hd, he, hl, hp, e⟩ | ⟨hd, he, hl, hp, e⟩ <;> rw [e]
    rw [hO'] at ht hnw
    exact ⟨hnw, Or.inl ⟨by simpa using hz, ht.1, ht.2⟩⟩
  · rw [hO'] at hf
    rcases hf with ⟨h0, _⟩ | ⟨h0, h1⟩ | ⟨h0, h1, h2, _⟩
    · exact absurd h0 hz
    · have : outM X f.k f.a f.ap f.b f.bp = ⟨⟨0, 0, 0, 0, 0, 0, [], []⟩, zeroF, 1⟩ := hO'.trans h1
      exfalso
      unfold outM at this
      rw [if_pos hk] at this
      have hc := congrArg Out.c this
      revert hc
      repeat' split
      all_goals simp
    · simp only [Out.mk.injEq] at h2
      obtain ⟨rfl, -, -⟩ := h2
      exact ⟨rfl, Or.inr ⟨by simpa using hz, h⟩⟩
theorem top_door {X : Bk} {f : Fl} (hk : okB X) (hf : flowB f.k f.a f.ap f.b f.bp = true) (hc : comesB X.ad X.ln X.ow f.a f.b = true) (hd : X.ds.any (takesD f.k f.bp) = true) : inCode X.ad X.ln X.ow X.lo X.hi X.nw X.ds X.es f.k f.a f.ap f.b f.bp = 0 := by
  have hm := may_of hk hf hc
  have hs : (X.ds.find? (takesD f.k f.bp)).isSome = true := by simpa [List.find?_isSome] using hd
  obtain ⟨d, hd'⟩ := Option.isSome_iff_exists.1 hs
  simp [inCode, hm, recv_door hd']
theorem top_case_in {B X : Bk} {W : List Wn} {f : Fl} {tk ta tap tb tbp : Int} (h : TopI B X W) (hd : X.ds.any (takesD f.k f.bp) = false) (hT : inTold X.ad X.ln X.ow X.lo X.hi X.nw X.ds X.es f.k f.a f.ap f.b f.bp = .agg #[.int .i64 tk, .int .i64 ta, .int .i64 tap, .int .i64 tb, .int .i64 tbp]) :
    ((askO W f X.nw).2 = true ∧ (inCode X.ad X.ln X.ow X.lo X.hi X.nw X.ds X.es f.k f.a f.ap f.b f.bp == 0) = true ∧ tk = (askO W f X.nw).1.k ∧ ta = (askO W f X.nw).1.b ∧ tap = (askO W f X.nw).1.bp ∧ tb = (askO W f X.nw).1.a ∧ tbp = (askO W f X.nw).1.ap) ∨ ((askO W f X.nw).2 = false ∧ (inCode X.ad X.ln X.ow X.lo X.hi X.nw X.ds X.es f.k f.a f.ap f.b f.bp == 0) = false) := by
  have hdn : ∀ d ∈ X.ds, ¬ (d.k = f.k ∧ d.o = f.bp) := by
    intro d hm hx
    rw [List.any_eq_false] at hd
    refine hd d hm ?_
    simp [takesD, hx.1, hx.2]
  obtain ⟨t1, t2⟩ := top_in h hdn
  by_cases hc : inCode X.ad X.ln X.ow X.lo X.hi X.nw X.ds X.es f.k f.a f.ap f.b f.bp = 0
  · obtain ⟨x, hx, hl⟩ := t1.1 hc
    obtain ⟨e1, e2, e3, e4⟩ := t2 x hx hl
    have ha : askO W f X.nw = (x.inn, true) := by simp [askO, hx, hl]
    unfold inTold at hT
    rw [if_pos hc, e1] at hT
    simp only [Value.agg.injEq, Array.mk.injEq, List.cons.injEq, Value.int.injEq, true_and, and_true] at hT
    rw [ha]
    obtain ⟨r1, r2, r3, r4, r5⟩ := hT
    exact Or.inl ⟨rfl, by simpa using hc, by rw [e2, r1], by rw [e3, r2], by rw [e4, r3], r4.symm, r5.symm⟩
  · refine Or.inr ⟨?_, by simpa using hc⟩
    unfold askO
    cases hx : lastO W (backF f) with
    | none => rfl
    | some x =>
      have : ¬ (X.nw - x.at' < 8) := fun hl => hc (t1.2 ⟨x, hx, hl⟩)
      simp [this]
end Go.Proofs.YtcgjpmhjijmplaaGreatDoor

/- For the law FnNatTop: the arm of what goes out. -/
namespace Go.Proofs.YtcgjpmhjijmplaaGreatDoor
open Go.ChangeShapes Go.WideShapes Go.ChangeAt Go.RowKit Go.Maps

def loopOf : Code → Code
  | .loop c => c
  | c => c
/-- The switch of FnNatTop. -/
noncomputable def topZ : Code := inOf (fstOf (sndOf (inOf (fstOf (sndOf (loopOf (inOf (sndOf (fstOf (sndOf (sndOf (sndOf (sndOf (Tryz.f3.body.getD .skip))))))))))))))
set_option maxRecDepth 20000 in
set_option maxHeartbeats 8000000 in
theorem top_out_arm {Q : Exit → Act → World → Prop} {s0 s1 s2 s4 s6 s8 s9 s10 s11 s12 s13 s14 s15 s16 s17 s18 s19 s20 s21 s22 s23 s24 s25 s26 s27 s28 s29 s30 s31 s32 s33 s34 s35 s36 s37 s38 s39 s40 s41 s42 s43 s44 s45 s46 s47 s48 s49 s50 s51 s52 s53 s54 s55 s56 s57 s58 s59 s60 s61 s62 s63 s64 s65 s66 s67 s68 s69 s70 s71 s72 s73 s74 s75 s76 s77 s78 s79 s80 s81 s82 s83 s84 s85 s86 s87 s88 s89 s90 s91 s92 s93 s94 s95 s96 s97 s98 s99 s100 s101 s102 s103 s104 s105 s106 s107 s108 s109 s110 s111 s112 s114 s115 s116 s117 s118 s119 s120 s121 s122 s123 s124 s125 s126 s127 s128 s129 s130 s131 s132 s133 s134 s135 s136 s137 s138 s139 s140 s141 s142 s143 s144 s145 s146 s147 s148 s149 s150 s151 s152 s153 s154 s155 s156 s157 s158 s159 s160 s161 s162 s163 s164 s165 s166 s167 s168 s169 s170 s171 s172 s173 s174 s175 s176 s177 s178 s179 s180 s181 s182 s183 s184 s185 s186 s187 s188 s189 s190 s191 s192 s193 s194 s195 s196 : Value} (w W4 : World) (n3 q2 n7 n : Nat) (B : Bk) (v4 v5 : Value) (fs : List Fl) (W : List Wn) (f : Fl) (X : Bk) (va : Option Addr) (vc : Nat) (ua : Option Addr) (uc : Nat) (hg : Hid (∀ W', Below w.heap.size w W' → Gl W')) (hk4 : ∀ k, v4.ownBlock = some k → k ≠ n3) (hq2 : n3 + 1 = q2) (hs1 : w.heap.size ≤ n3) (hn100 : n ≤ 100) (hT : TopI B X W) (hn0 : 0 ≤ X.nw) (hn1 : X.nw ≤ n) (x3 : Bx W4 n3 #[.int .i64 X.ad, .int .i64 X.ln, .int .i64 X.ow, .int .i64 X.lo, .int .i64 X.hi, .slice va X.ds.length vc, .int .i64 X.nw, .slice ua X.es.length uc]) (hL : ListX W4 w.heap.size n3 q2 va ua X.ds X.es) (hOW : OwnW W4 q2 v5 W) (hWl : W.length ≤ n) (hWa : ∀ x ∈ W, 0 ≤ x.at') (hOF : OwnF W4 w.heap.size v4 fs) (hB : Below w.heap.size w W4) (x7 : Box W4 n7 #[.int .i64 f.k, .int .i64 f.a, .int .i64 f.ap, .int .i64 f.b, .int .i64 f.bp])
    (hP : Hid (∀ c (a : Act) d v w, Q (.panic c) (a.put (some d) v) w → Q (.panic c) a w)) (hQ : Hid (∀ (t2 t10 t11 t12 t13 t14 t15 t16 t118 t119 t120 t121 t122 t123 t124 t125 t126 t127 t128 t129 t130 t131 t132 t133 t134 t135 t136 t137 t138 t139 t140 t141 t142 t143 t144 t145 t146 t147 t148 t149 t150 t151 t152 t153 t154 t155 t156 t157 t158 t159 t160 t161 t162 t163 t164 t165 t166 t167 t168 t169 t170 t171 t172 t173 t174 t175 t176 t177 t178 t179 t180 t181 t182 t183 t184 t185 t186 t187 t188 t189 t190 t191 t192 t193 v' : Value) (W' : List Wn) (w' : World), TS w w' n3 w.heap.size q2 B v4 fs v' W' (n + 1) → Q .normal ⟨List.toArray (s0 :: s1 :: t2 :: .pointer (some ⟨n3, 0, none⟩) :: s4 :: v' :: s6 :: .pointer (some ⟨n7, 0, none⟩) :: s8 :: s9 :: t10 :: t11 :: t12 :: t13 :: t14 :: t15 :: t16 :: s17 :: s18 :: s19 :: s20 :: s21 :: s22 :: s23 :: s24 :: s25 :: s26 :: s27 :: s28 :: s29 :: s30 :: s31 :: s32 :: s33 :: s34 :: s35 :: s36 :: s37 :: s38 :: s39 :: s40 :: s41 :: s42 :: s43 :: s44 :: s45 :: s46 :: s47 :: s48 :: s49 :: s50 :: s51 :: s52 :: s53 :: s54 :: s55 :: s56 :: s57 :: s58 :: s59 :: s60 :: s61 :: s62 :: s63 :: s64 :: s65 :: s66 :: s67 :: s68 :: s69 :: s70 :: s71 :: s72 :: s73 :: s74 :: s75 :: s76 :: s77 :: s78 :: s79 :: s80 :: s81 :: s82 :: s83 :: s84 :: s85 :: s86 :: s87 :: s88 :: s89 :: s90 :: s91 :: s92 :: s93 :: s94 :: s95 :: s96 :: s97 :: s98 :: s99 :: s100 :: s101 :: s102 :: s103 :: s104 :: s105 :: s106 :: s107 :: s108 :: s109 :: s110 :: s111 :: s112 :: .bool true :: s114 :: s115 :: s116 :: s117 :: t118 :: t119 :: t120 :: t121 :: t122 :: t123 :: t124 :: t125 :: t126 :: t127 :: t128 :: t129 :: t130 :: t131 :: t132 :: t133 :: t134 :: t135 :: t136 :: t137 :: t138 :: t139 :: t140 :: t141 :: t142 :: t143 :: t144 :: t145 :: t146 :: t147 :: t148 :: t149 :: t150 :: t151 :: t152 :: t153 :: t154 :: t155 :: t156 :: t157 :: t158 :: t159 :: t160 :: t161 :: t162 :: t163 :: t164 :: t165 :: t166 :: t167 :: t168 :: t169 :: t170 :: t171 :: t172 :: t173 :: t174 :: t175 :: t176 :: t177 :: t178 :: t179 :: t180 :: t181 :: t182 :: t183 :: t184 :: t185 :: t186 :: t187 :: t188 :: t189 :: t190 :: t191 :: t192 :: t193 :: s194 :: s195 :: s196 :: []), []⟩ w')) : Code.wp Tryz.prog (sndOf (elseOf topZ)) Q ⟨List.toArray (s0 :: s1 :: s2 :: .pointer (some ⟨n3, 0, none⟩) :: s4 :: v5 :: s6 :: .pointer (some ⟨n7, 0, none⟩) :: s8 :: s9 :: s10 :: s11 :: s12 :: s13 :: s14 :: s15 :: s16 :: s17 :: s18 :: s19 :: s20 :: s21 :: s22 :: s23 :: s24 :: s25 :: s26 :: s27 :: s28 :: s29 :: s30 :: s31 :: s32 :: s33 :: s34 :: s35 :: s36 :: s37 :: s38 :: s39 :: s40 :: s41 :: s42 :: s43 :: s44 :: s45 :: s46 :: s47 :: s48 :: s49 :: s50 :: s51 :: s52 :: s53 :: s54 :: s55 :: s56 :: s57 :: s58 :: s59 :: s60 :: s61 :: s62 :: s63 :: s64 :: s65 :: s66 :: s67 :: s68 :: s69 :: s70 :: s71 :: s72 :: s73 :: s74 :: s75 :: s76 :: s77 :: s78 :: s79 :: s80 :: s81 :: s82 :: s83 :: s84 :: s85 :: s86 :: s87 :: s88 :: s89 :: s90 :: s91 :: s92 :: s93 :: s94 :: s95 :: s96 :: s97 :: s98 :: s99 :: s100 :: s101 :: s102 :: s103 :: s104 :: s105 :: s106 :: s107 :: s108 :: s109 :: s110 :: s111 :: s112 :: .bool true :: s114 :: s115 :: s116 :: s117 :: s118 :: s119 :: s120 :: s121 :: s122 :: s123 :: s124 :: s125 :: s126 :: s127 :: s128 :: s129 :: s130 :: s131 :: s132 :: s133 :: s134 :: s135 :: s136 :: s137 :: s138 :: s139 :: s140 :: s141 :: s142 :: s143 :: s144 :: s145 :: s146 :: s147 :: s148 :: s149 :: s150 :: s151 :: s152 :: s153 :: s154 :: s155 :: s156 :: s157 :: s158 :: s159 :: s160 :: s161 :: s162 :: s163 :: s164 :: s165 :: s166 :: s167 :: s168 :: s169 :: s170 :: s171 :: s172 :: s173 :: s174 :: s175 :: s176 :: s177 :: s178 :: s179 :: s180 :: s181 :: s182 :: s183 :: s184 :: s185 :: s186 :: s187 :: s188 :: s189 :: s190 :: s191 :: s192 :: s193 :: s194 :: s195 :: s196 :: []), []⟩ W4 := by
  conv => arg 2; whnf
  obtain ⟨⟨Y, G, c⟩, hO⟩ : ∃ O, outM ⟨X.ad, X.ln, X.ow, X.lo, X.hi, X.nw, X.ds, X.es⟩ f.k f.a f.ap f.b f.bp = O := ⟨_, rfl⟩
  have HI : Hid (∀ W', Gl W' → ListX W' w.heap.size n3 q2 va ua X.ds X.es → Calls Tryz.prog 13 #[.agg #[.int .i64 X.ad, .int .i64 X.ln, .int .i64 X.ow, .int .i64 X.lo, .int .i64 X.hi, .slice va X.ds.length vc, .int .i64 X.nw, .slice ua X.es.length uc], .agg #[.int .i64 f.k, .int .i64 f.a, .int .i64 f.ap, .int .i64 f.b, .int .i64 f.bp]] W' fun e w' => ToldO w' W'.heap.size e ⟨Y, G, c⟩ ∧ Below W'.heap.size W' w') := fun W' h0 h1 => by rw [← hO]; exact implOut_ret X.ad X.ln X.ow X.lo X.hi X.nw va X.ds.length vc ua X.es.length uc f.k f.a f.ap f.b f.bp X.ds X.es W' h0 h1.doors.at h1.ents.at
  have HS : Hid (∀ W', ListX W' w.heap.size n3 q2 va ua X.ds X.es → Calls Tryz.prog 14 #[.agg #[.int .i64 X.ad, .int .i64 X.ln, .int .i64 X.ow, .int .i64 X.lo, .int .i64 X.hi, .slice va X.ds.length vc, .int .i64 X.nw, .slice ua X.es.length uc], .agg #[.int .i64 f.k, .int .i64 f.a, .int .i64 f.ap, .int .i64 f.b, .int .i64 f.bp]] W' fun e w' => ToldO w' W'.heap.size e ⟨Y, G, c⟩ ∧ Below W'.heap.size W' w') := fun W' h1 => by rw [← hO]; exact specOut_ret X.ad X.ln X.ow X.lo X.hi X.nw va X.ds.length vc ua X.es.length uc f.k f.a f.ap f.b f.bp X.ds X.es W' h1.doors.at h1.ents.at
  obtain ⟨hnwY, hcase⟩ := top_case_out hT hO
  replace hnwY : Hid (Y.nw = X.nw) := hnwY
  have hYl : Y.ds.length ≤ 100 ∧ Y.es.length ≤ 100 := by
    have hYo : okB Y := by rcases hcase with ⟨_, _, h⟩ | ⟨_, h⟩ <;> exact h.ok
    obtain ⟨_, h1, h2, _⟩ := book_parts (show bookB Y.ad Y.ln Y.ow Y.lo Y.hi Y.nw Y.ds Y.es = true from hYo)
    omega
  obtain ⟨hYl1, hYl2⟩ := hYl
  have hcase : Hid _ := hcase
  clear hO
  have hne := run_neq_same
  have hgf := guardFlow
  have hl3 := x3.1.1
  have y3 := x3.1.2
  have y7 := x7.2
  have hl5 := x3.1.1
  go_wp2_with fail
  refine (HI.out _ (hg.out _ hB) hL).mono ?_
  rintro e w6 ⟨⟨pa, pc, ra, rc, rfl, hOw⟩, hb⟩
  have hsW := hB.size
  have hLY : ListX w6 w.heap.size n3 q2 pa ra Y.ds Y.es := ListX.own hOw (by omega) hl5
  have hk10 : ∀ k, v5.ownBlock = some k → k < w6.heap.size := fun k hk => Nat.lt_of_lt_of_le (hOW.lt k hk).2 hb.size
  have hBl := bl_alloc (bl_alloc (bl_refl w6) (.cells #[.int .i64 Y.ad, .int .i64 Y.ln, .int .i64 Y.ow, .int .i64 Y.lo, .int .i64 Y.hi, .slice pa Y.ds.length pc, .int .i64 Y.nw, .slice ra Y.es.length rc] 26)) (.cells #[.int .i64 G.k, .int .i64 G.a, .int .i64 G.ap, .int .i64 G.b, .int .i64 G.bp] 32)
  have x10 := (Box.new w6 #[.int .i64 Y.ad, .int .i64 Y.ln, .int .i64 Y.ow, .int .i64 Y.lo, .int .i64 Y.hi, .slice pa Y.ds.length pc, .int .i64 Y.nw, .slice ra Y.es.length rc] 26).below (bl_alloc (bl_refl _) (.cells #[.int .i64 G.k, .int .i64 G.a, .int .i64 G.ap, .int .i64 G.b, .int .i64 G.bp] 32))
  have x11 := Box.new (w6.alloc (.cells #[.int .i64 Y.ad, .int .i64 Y.ln, .int .i64 Y.ow, .int .i64 Y.lo, .int .i64 Y.hi, .slice pa Y.ds.length pc, .int .i64 Y.nw, .slice ra Y.es.length rc] 26)) #[.int .i64 G.k, .int .i64 G.a, .int .i64 G.ap, .int .i64 G.b, .int .i64 G.bp] 32
  simp only [World.size_alloc] at x11
  have hb2 := bl_trans hb hBl
  replace hLY := hLY.below hBl
  replace x3 := x3.below hb2
  replace hL := hL.below hb2
  replace hOW := hOW.below hb2
  replace hOF := hOF.below hb2
  replace x7 := x7.below hb2
  replace hB := bl_trans hB hb2
  clear y3 y7 HI hOw hb hBl hb2
  go_upto_region 23 with fail
  generalize ((w6.alloc (.cells #[.int .i64 Y.ad, .int .i64 Y.ln, .int .i64 Y.ow, .int .i64 Y.lo, .int .i64 Y.hi, .slice pa Y.ds.length pc, .int .i64 Y.nw, .slice ra Y.es.length rc] 26)).alloc (.cells #[.int .i64 G.k, .int .i64 G.a, .int .i64 G.ap, .int .i64 G.b, .int .i64 G.bp] 32)) = W7 at *
  generalize w6.heap.size = n10 at *
  generalize hn11 : n10 + 1 = n11 at *
  have y3 := x3.1.2
  have y7 := x7.2
  go_wp2_with fail
  clear y3 y7
  refine (HS.out _ hL).mono ?_
  rintro e w8 ⟨⟨qa, qc, sa2, sc2, rfl, hOw⟩, hb⟩
  have hBl := bl_alloc (bl_alloc (bl_refl w8) (.cells #[.int .i64 Y.ad, .int .i64 Y.ln, .int .i64 Y.ow, .int .i64 Y.lo, .int .i64 Y.hi, .slice qa Y.ds.length qc, .int .i64 Y.nw, .slice sa2 Y.es.length sc2] 26)) (.cells #[.int .i64 G.k, .int .i64 G.a, .int .i64 G.ap, .int .i64 G.b, .int .i64 G.bp] 32)
  have x13 := (Box.new w8 #[.int .i64 Y.ad, .int .i64 Y.ln, .int .i64 Y.ow, .int .i64 Y.lo, .int .i64 Y.hi, .slice qa Y.ds.length qc, .int .i64 Y.nw, .slice sa2 Y.es.length sc2] 26).below (bl_alloc (bl_refl _) (.cells #[.int .i64 G.k, .int .i64 G.a, .int .i64 G.ap, .int .i64 G.b, .int .i64 G.bp] 32))
  have x14 := Box.new (w8.alloc (.cells #[.int .i64 Y.ad, .int .i64 Y.ln, .int .i64 Y.ow, .int .i64 Y.lo, .int .i64 Y.hi, .slice qa Y.ds.length qc, .int .i64 Y.nw, .slice sa2 Y.es.length sc2] 26)) #[.int .i64 G.k, .int .i64 G.a, .int .i64 G.ap, .int .i64 G.b, .int .i64 G.bp] 32
  simp only [World.size_alloc] at x14
  have hDz := (doorsL_own hOw.1 (Nat.le_refl _)).at.below hBl
  have hEz := (entriesL_own hOw.2.1 (Nat.le_refl _)).at.below hBl
  have hb2 := bl_trans hb hBl
  replace x3 := x3.below hb2
  replace hL := hL.below hb2
  replace hOW := hOW.below hb2
  replace hOF := hOF.below hb2
  replace x7 := x7.below hb2
  replace hLY := hLY.below hb2
  replace x10 := x10.below hb2
  replace x11 := x11.below hb2
  replace hB := bl_trans hB hb2
  clear HS hOw hb hBl hb2
  go_upto_region 24 with fail
  generalize ((w8.alloc (.cells #[.int .i64 Y.ad, .int .i64 Y.ln, .int .i64 Y.ow, .int .i64 Y.lo, .int .i64 Y.hi, .slice qa Y.ds.length qc, .int .i64 Y.nw, .slice sa2 Y.es.length sc2] 26)).alloc (.cells #[.int .i64 G.k, .int .i64 G.a, .int .i64 G.ap, .int .i64 G.b, .int .i64 G.bp] 32)) = W9 at *
  generalize w8.heap.size = n13 at *
  have HW : Hid (Calls Tryz.prog _ _ _ _) := wnBook_same Y pa pc ra rc qa qc sa2 sc2 W9 hLY.doors.at hLY.ents.at hDz hEz (by omega) (by omega)
  have hcc : (c != c) = false := by simp
  have y10 := x10.2
  have y11 := x11.2
  have y13 := x13.2
  have y14 := x14.2
  go_wp2_with fail
  refine HW.out.mono ?_
  rintro e v6 ⟨rfl, hb⟩
  clear HW hcc y10 y11 y13 y14 x13 x14 hDz hEz
  replace x3 := x3.below hb
  replace hL := hL.below hb
  replace hOW := hOW.below hb
  replace hOF := hOF.below hb
  replace x7 := x7.below hb
  replace hLY := hLY.below hb
  replace x10 := x10.below hb
  replace x11 := x11.below hb
  replace hB := bl_trans hB hb
  clear hb
  obtain ⟨s5, s6, rfl⟩ := own_slice hOW
  have hWs : (W.length : Int) ≤ 1000 := by omega
  rcases hcase.out with ⟨hcq, htop, hT2⟩ | ⟨hcq, hT2⟩
  · clear hcase
    have htop : Hid (∀ x ∈ W, x.out = G → X.nw - x.at' < 12 → x.inn = f) := htop
    have hT2 : Hid (TopI B Y (W ++ [⟨f, G, X.nw⟩])) := hT2
    go_wp2_with fail
    go_loopg [16] W.length (fun g iv wq => ∃ m : Nat, g = W.length - m ∧ m ≤ W.length ∧ iv = .int .i64 m ∧ Below w.heap.size w wq ∧ Below v6.heap.size v6 wq)
    case atStart => exact ⟨0, by omega, by omega, rfl, hB, bl_refl _⟩
    case round =>
      obtain ⟨m, hgm, hm9, rfl, hB, hE⟩ := hrel
      replace x3 := x3.below hE
      replace x7 := x7.below hE
      replace x11 := x11.below hE
      replace hOW := hOW.below hE
      by_cases hmt : m < W.length
      · have hmt' : (m : Int) < (W.length : Int) := by omega
        obtain ⟨y, hd⟩ : ∃ y, W[m]? = some y := ⟨W[m], by simp [hmt]⟩
        obtain ⟨g5, cap5, hsl, -, hgl5, -, -⟩ := own_form hOW (by omega)
        simp only [Value.slice.injEq] at hsl
        obtain ⟨rfl, -, rfl⟩ := hsl
        have hy : AtW wr g5 (m * 11) y := by
          have := wnCells_of_own hOW rfl m y hd
          simpa using this
        have hyW := List.mem_of_getElem? hd
        have hy0 := hWa y hyW
        have hy1 := (hT.went y hyW).1
        have hw3 : IntKind.i64.wrap (X.nw - y.at') = X.nw - y.at' := wrap_of _ (by omega) (by omega)
        have htop2 := htop.out y hyW
        have heq := run_eql_flow
        have hnq := run_neq_flow
        clear hd hyW hOW
        go_upto_region 29 with fail
        cases hqe : eqF y.out G with
        | false =>
          have hqq : flowEq y.out.k y.out.a y.out.ap y.out.b y.out.bp G.k G.a G.ap G.b G.bp = false := hqe
          clear hqe htop2
          refine wp_region_held_drew (S := (fun w' => Box w' n7 #[.int .i64 f.k, .int .i64 f.a, .int .i64 f.ap, .int .i64 f.b, .int .i64 f.bp] ∧ Box w' n11 #[.int .i64 G.k, .int .i64 G.a, .int .i64 G.ap, .int .i64 G.b, .int .i64 G.bp] ∧ Box w' n3 #[.int .i64 X.ad, .int .i64 X.ln, .int .i64 X.ow, .int .i64 X.lo, .int .i64 X.hi, .slice va X.ds.length vc, .int .i64 X.nw, .slice ua X.es.length uc] ∧ AtW w' g5 (m * 11) y)) (by as_aux_lemma => kernel_rfl) ?_ (fun hHeld => ?_)
          · exact ⟨x7.below (bl_drew (bl_refl _)), x11.below (bl_drew (bl_refl _)), x3.1.below (bl_drew (bl_refl _)), hy.below (bl_drew (bl_refl _)) hgl5⟩
          have hq := bl_drew (bl_refl wr)
          replace hB := bl_trans hB hq
          replace hE := bl_trans hE hq
          clear hq x7 x11 hy hgl5
          generalize wr.drew = W9 at hB hE hHeld ⊢
          refine takeL2 0 156 ?_ ?_ hHeld ?_ (hQ := fun _ _ _ h => hP.out _ _ _ _ _ h)
          rotate_left
          · (intro w hSw; (try dsimp only at hSw); simp only [Box, AtW] at hSw; go_simp; try with_reducible rfl)
          simp only [Act.put, puA, puB, puC]
          refine takeL2 1 157 ?_ ?_ hHeld ?_ (hQ := fun _ _ _ h => hP.out _ _ _ _ _ h)
          rotate_left
          · (intro w hSw; (try dsimp only at hSw); simp only [Box, AtW] at hSw; go_simp; try with_reducible rfl)
          simp only [Act.put, puA, puB, puC]
          refine takeL2 2 158 ?_ ?_ hHeld ?_ (hQ := fun _ _ _ h => hP.out _ _ _ _ _ h)
          rotate_left
          · (intro w hSw; (try dsimp only at hSw); simp only [Box, AtW] at hSw; go_simp; try with_reducible rfl)
          simp only [Act.put, puA, puB, puC]
          refine takeL2 3 159 ?_ ?_ hHeld ?_ (hQ := fun _ _ _ h => hP.out _ _ _ _ _ h)
          rotate_left
          · (intro w hSw; (try dsimp only at hSw); simp only [Box, AtW] at hSw; go_simp; try with_reducible rfl)
          simp only [Act.put, puA, puB, puC]
          refine takeL2 4 160 ?_ ?_ hHeld ?_ (hQ := fun _ _ _ h => hP.out _ _ _ _ _ h)
          rotate_left
          · (intro w hSw; (try dsimp only at hSw); simp only [Box, AtW] at hSw; go_simp; try with_reducible rfl)
          simp only [Act.put, puA, puB, puC]
          refine takeL2 5 161 ?_ ?_ hHeld ?_ (hQ := fun _ _ _ h => hP.out _ _ _ _ _ h)
          rotate_left
          · (intro w hSw; (try dsimp only at hSw); simp only [Box, AtW] at hSw; go_simp; try with_reducible rfl)
          simp only [Act.put, puA, puB, puC]
          refine takeL2 6 162 ?_ ?_ hHeld ?_ (hQ := fun _ _ _ h => hP.out _ _ _ _ _ h)
          rotate_left
          · (intro w hSw; (try dsimp only at hSw); simp only [Box, AtW] at hSw; go_simp; try with_reducible rfl)
          simp only [Act.put, puA, puB, puC]
          refine takeL2 7 163 ?_ ?_ hHeld ?_ (hQ := fun _ _ _ h => hP.out _ _ _ _ _ h)
          rotate_left
          · (intro w hSw; (try dsimp only at hSw); simp only [Box, AtW] at hSw; go_simp; try with_reducible rfl)
          simp only [Act.put, puA, puB, puC]
          refine takeN2 8 164 hHeld ?_ (hQ := fun _ _ _ h => hP.out _ _ _ _ _ h)
          simp only [Act.put, puA, puB, puC]
          refine takeN2 9 165 hHeld ?_ (hQ := fun _ _ _ h => hP.out _ _ _ _ _ h)
          simp only [Act.put, puA, puB, puC]
          refine takeN2 10 166 hHeld ?_ (hQ := fun _ _ _ h => hP.out _ _ _ _ _ h)
          simp only [Act.put, puA, puB, puC]
          refine takeN2 11 167 hHeld ?_ (hQ := fun _ _ _ h => hP.out _ _ _ _ _ h)
          simp only [Act.put, puA, puB, puC]
          refine takeN2 12 168 hHeld ?_ (hQ := fun _ _ _ h => hP.out _ _ _ _ _ h)
          simp only [Act.put, puA, puB, puC]
          refine takeN2 13 169 hHeld ?_ (hQ := fun _ _ _ h => hP.out _ _ _ _ _ h)
          simp only [Act.put, puA, puB, puC]
          refine takeN2 14 170 hHeld ?_ (hQ := fun _ _ _ h => hP.out _ _ _ _ _ h)
          simp only [Act.put, puA, puB, puC]
          refine takeL2 15 171 ?_ ?_ hHeld ?_ (hQ := fun _ _ _ h => hP.out _ _ _ _ _ h)
          rotate_left
          · (intro w hSw; (try dsimp only at hSw); simp only [Box, AtW] at hSw; go_simp; try with_reducible rfl)
          simp only [Act.put, puA, puB, puC]
          refine takeL2 16 172 ?_ ?_ hHeld ?_ (hQ := fun _ _ _ h => hP.out _ _ _ _ _ h)
          rotate_left
          · (intro w hSw; (try dsimp only at hSw); simp only [Box, AtW] at hSw; go_simp; try with_reducible rfl)
          simp only [Act.put, puA, puB, puC]
          refine takeN2 17 173 hHeld ?_ (hQ := fun _ _ _ h => hP.out _ _ _ _ _ h)
          simp only [Act.put, puA, puB, puC]
          refine takeN2 18 174 hHeld ?_ (hQ := fun _ _ _ h => hP.out _ _ _ _ _ h)
          simp only [Act.put, puA, puB, puC]
          refine takeN2 19 175 hHeld ?_ (hQ := fun _ _ _ h => hP.out _ _ _ _ _ h)
          simp only [Act.put, puA, puB, puC]
          refine takeN2 20 176 hHeld ?_ (hQ := fun _ _ _ h => hP.out _ _ _ _ _ h)
          simp only [Act.put, puA, puB, puC]
          refine takeN2 21 177 hHeld ?_ (hQ := fun _ _ _ h => hP.out _ _ _ _ _ h)
          simp only [Act.put, puA, puB, puC]
          refine takeN2 22 178 hHeld ?_ (hQ := fun _ _ _ h => hP.out _ _ _ _ _ h)
          simp only [Act.put, puA, puB, puC]
          refine takeN2 23 179 hHeld ?_ (hQ := fun _ _ _ h => hP.out _ _ _ _ _ h)
          simp only [Act.put, puA, puB, puC]
          refine takeN2 24 180 hHeld ?_ (hQ := fun _ _ _ h => hP.out _ _ _ _ _ h)
          simp only [Act.put, puA, puB, puC]
          refine takeN2 25 181 hHeld ?_ (hQ := fun _ _ _ h => hP.out _ _ _ _ _ h)
          simp only [Act.put, puA, puB, puC]
          refine takeL2 26 182 ?_ ?_ hHeld ?_ (hQ := fun _ _ _ h => hP.out _ _ _ _ _ h)
          rotate_left
          · (intro w hSw; (try dsimp only at hSw); simp only [Box, AtW] at hSw; go_simp; try with_reducible rfl)
          simp only [Act.put, puA, puB, puC]
          refine wpAnyH_done (by as_aux_lemma => kernel_rfl) ?_ _
          clear hHeld
          go_wp2_with fail
          go_roundg (W.length - (m + 1))
          case measure => omega
          case rel => exact ⟨m + 1, rfl, by omega, by go_num, hB, hE⟩
        | true =>
          have hqq : flowEq y.out.k y.out.a y.out.ap y.out.b y.out.bp G.k G.a G.ap G.b G.bp = true := hqe
          cases hqf : eqF y.inn f with
          | true =>
            have hqg : flowEq y.inn.k y.inn.a y.inn.ap y.inn.b y.inn.bp f.k f.a f.ap f.b f.bp = true := hqf
            clear hqe hqf htop2
            refine wp_region_held_drew (S := (fun w' => Box w' n7 #[.int .i64 f.k, .int .i64 f.a, .int .i64 f.ap, .int .i64 f.b, .int .i64 f.bp] ∧ Box w' n11 #[.int .i64 G.k, .int .i64 G.a, .int .i64 G.ap, .int .i64 G.b, .int .i64 G.bp] ∧ Box w' n3 #[.int .i64 X.ad, .int .i64 X.ln, .int .i64 X.ow, .int .i64 X.lo, .int .i64 X.hi, .slice va X.ds.length vc, .int .i64 X.nw, .slice ua X.es.length uc] ∧ AtW w' g5 (m * 11) y)) (by as_aux_lemma => kernel_rfl) ?_ (fun hHeld => ?_)
            · exact ⟨x7.below (bl_drew (bl_refl _)), x11.below (bl_drew (bl_refl _)), x3.1.below (bl_drew (bl_refl _)), hy.below (bl_drew (bl_refl _)) hgl5⟩
            have hq := bl_drew (bl_refl wr)
            replace hB := bl_trans hB hq
            replace hE := bl_trans hE hq
            clear hq x7 x11 hy hgl5
            generalize wr.drew = W9 at hB hE hHeld ⊢
            refine takeL2 0 156 ?_ ?_ hHeld ?_ (hQ := fun _ _ _ h => hP.out _ _ _ _ _ h)
            rotate_left
            · (intro w hSw; (try dsimp only at hSw); simp only [Box, AtW] at hSw; go_simp; try with_reducible rfl)
            simp only [Act.put, puA, puB, puC]
            refine takeL2 1 157 ?_ ?_ hHeld ?_ (hQ := fun _ _ _ h => hP.out _ _ _ _ _ h)
            rotate_left
            · (intro w hSw; (try dsimp only at hSw); simp only [Box, AtW] at hSw; go_simp; try with_reducible rfl)
            simp only [Act.put, puA, puB, puC]
            refine takeL2 2 158 ?_ ?_ hHeld ?_ (hQ := fun _ _ _ h => hP.out _ _ _ _ _ h)
            rotate_left
            · (intro w hSw; (try dsimp only at hSw); simp only [Box, AtW] at hSw; go_simp; try with_reducible rfl)
            simp only [Act.put, puA, puB, puC]
            refine takeL2 3 159 ?_ ?_ hHeld ?_ (hQ := fun _ _ _ h => hP.out _ _ _ _ _ h)
            rotate_left
            · (intro w hSw; (try dsimp only at hSw); simp only [Box, AtW] at hSw; go_simp; try with_reducible rfl)
            simp only [Act.put, puA, puB, puC]
            refine takeL2 4 160 ?_ ?_ hHeld ?_ (hQ := fun _ _ _ h => hP.out _ _ _ _ _ h)
            rotate_left
            · (intro w hSw; (try dsimp only at hSw); simp only [Box, AtW] at hSw; go_simp; try with_reducible rfl)
            simp only [Act.put, puA, puB, puC]
            refine takeL2 5 161 ?_ ?_ hHeld ?_ (hQ := fun _ _ _ h => hP.out _ _ _ _ _ h)
            rotate_left
            · (intro w hSw; (try dsimp only at hSw); simp only [Box, AtW] at hSw; go_simp; try with_reducible rfl)
            simp only [Act.put, puA, puB, puC]
            refine takeL2 6 162 ?_ ?_ hHeld ?_ (hQ := fun _ _ _ h => hP.out _ _ _ _ _ h)
            rotate_left
            · (intro w hSw; (try dsimp only at hSw); simp only [Box, AtW] at hSw; go_simp; try with_reducible rfl)
            simp only [Act.put, puA, puB, puC]
            refine takeL2 7 163 ?_ ?_ hHeld ?_ (hQ := fun _ _ _ h => hP.out _ _ _ _ _ h)
            rotate_left
            · (intro w hSw; (try dsimp only at hSw); simp only [Box, AtW] at hSw; go_simp; try with_reducible rfl)
            simp only [Act.put, puA, puB, puC]
            refine takeL2 8 164 ?_ ?_ hHeld ?_ (hQ := fun _ _ _ h => hP.out _ _ _ _ _ h)
            rotate_left
            · (intro w hSw; (try dsimp only at hSw); simp only [Box, AtW] at hSw; go_simp; try with_reducible rfl)
            simp only [Act.put, puA, puB, puC]
            refine takeL2 9 165 ?_ ?_ hHeld ?_ (hQ := fun _ _ _ h => hP.out _ _ _ _ _ h)
            rotate_left
            · (intro w hSw; (try dsimp only at hSw); simp only [Box, AtW] at hSw; go_simp; try with_reducible rfl)
            simp only [Act.put, puA, puB, puC]
            refine takeL2 10 166 ?_ ?_ hHeld ?_ (hQ := fun _ _ _ h => hP.out _ _ _ _ _ h)
            rotate_left
            · (intro w hSw; (try dsimp only at hSw); simp only [Box, AtW] at hSw; go_simp; try with_reducible rfl)
            simp only [Act.put, puA, puB, puC]
            refine takeL2 11 167 ?_ ?_ hHeld ?_ (hQ := fun _ _ _ h => hP.out _ _ _ _ _ h)
            rotate_left
            · (intro w hSw; (try dsimp only at hSw); simp only [Box, AtW] at hSw; go_simp; try with_reducible rfl)
            simp only [Act.put, puA, puB, puC]
            refine takeL2 12 168 ?_ ?_ hHeld ?_ (hQ := fun _ _ _ h => hP.out _ _ _ _ _ h)
            rotate_left
            · (intro w hSw; (try dsimp only at hSw); simp only [Box, AtW] at hSw; go_simp; try with_reducible rfl)
            simp only [Act.put, puA, puB, puC]
            refine takeL2 13 169 ?_ ?_ hHeld ?_ (hQ := fun _ _ _ h => hP.out _ _ _ _ _ h)
            rotate_left
            · (intro w hSw; (try dsimp only at hSw); simp only [Box, AtW] at hSw; go_simp; try with_reducible rfl)
            simp only [Act.put, puA, puB, puC]
            refine takeL2 14 170 ?_ ?_ hHeld ?_ (hQ := fun _ _ _ h => hP.out _ _ _ _ _ h)
            rotate_left
            · (intro w hSw; (try dsimp only at hSw); simp only [Box, AtW] at hSw; go_simp; try with_reducible rfl)
            simp only [Act.put, puA, puB, puC]
            refine takeL2 15 171 ?_ ?_ hHeld ?_ (hQ := fun _ _ _ h => hP.out _ _ _ _ _ h)
            rotate_left
            · (intro w hSw; (try dsimp only at hSw); simp only [Box, AtW] at hSw; go_simp; try with_reducible rfl)
            simp only [Act.put, puA, puB, puC]
            refine takeL2 16 172 ?_ ?_ hHeld ?_ (hQ := fun _ _ _ h => hP.out _ _ _ _ _ h)
            rotate_left
            · (intro w hSw; (try dsimp only at hSw); simp only [Box, AtW] at hSw; go_simp; try with_reducible rfl)
            simp only [Act.put, puA, puB, puC]
            refine takeN2 17 173 hHeld ?_ (hQ := fun _ _ _ h => hP.out _ _ _ _ _ h)
            simp only [Act.put, puA, puB, puC]
            refine takeN2 18 174 hHeld ?_ (hQ := fun _ _ _ h => hP.out _ _ _ _ _ h)
            simp only [Act.put, puA, puB, puC]
            refine takeN2 19 175 hHeld ?_ (hQ := fun _ _ _ h => hP.out _ _ _ _ _ h)
            simp only [Act.put, puA, puB, puC]
            refine takeN2 20 176 hHeld ?_ (hQ := fun _ _ _ h => hP.out _ _ _ _ _ h)
            simp only [Act.put, puA, puB, puC]
            refine takeN2 21 177 hHeld ?_ (hQ := fun _ _ _ h => hP.out _ _ _ _ _ h)
            simp only [Act.put, puA, puB, puC]
            refine takeN2 22 178 hHeld ?_ (hQ := fun _ _ _ h => hP.out _ _ _ _ _ h)
            simp only [Act.put, puA, puB, puC]
            refine takeN2 23 179 hHeld ?_ (hQ := fun _ _ _ h => hP.out _ _ _ _ _ h)
            simp only [Act.put, puA, puB, puC]
            refine takeN2 24 180 hHeld ?_ (hQ := fun _ _ _ h => hP.out _ _ _ _ _ h)
            simp only [Act.put, puA, puB, puC]
            refine takeN2 25 181 hHeld ?_ (hQ := fun _ _ _ h => hP.out _ _ _ _ _ h)
            simp only [Act.put, puA, puB, puC]
            refine takeL2 26 182 ?_ ?_ hHeld ?_ (hQ := fun _ _ _ h => hP.out _ _ _ _ _ h)
            rotate_left
            · (intro w hSw; (try dsimp only at hSw); simp only [Box, AtW] at hSw; go_simp; try with_reducible rfl)
            simp only [Act.put, puA, puB, puC]
            refine wpAnyH_done (by as_aux_lemma => kernel_rfl) ?_ _
            clear hHeld
            go_wp2_with fail
            go_roundg (W.length - (m + 1))
            case measure => omega
            case rel => exact ⟨m + 1, rfl, by omega, by go_num, hB, hE⟩
          | false =>
            have hqg : flowEq y.inn.k y.inn.a y.inn.ap y.inn.b y.inn.bp f.k f.a f.ap f.b f.bp = false := hqf
            have hlt : ¬ (X.nw - y.at' < 12) := fun hlt => by
              have := htop2 (eqF_iff.1 hqe) hlt
              rw [eqF_iff.2 this] at hqf
              cases hqf
            clear hqe hqf htop2
            refine wp_region_held_drew (S := (fun w' => Box w' n7 #[.int .i64 f.k, .int .i64 f.a, .int .i64 f.ap, .int .i64 f.b, .int .i64 f.bp] ∧ Box w' n11 #[.int .i64 G.k, .int .i64 G.a, .int .i64 G.ap, .int .i64 G.b, .int .i64 G.bp] ∧ Box w' n3 #[.int .i64 X.ad, .int .i64 X.ln, .int .i64 X.ow, .int .i64 X.lo, .int .i64 X.hi, .slice va X.ds.length vc, .int .i64 X.nw, .slice ua X.es.length uc] ∧ AtW w' g5 (m * 11) y)) (by as_aux_lemma => kernel_rfl) ?_ (fun hHeld => ?_)
            · exact ⟨x7.below (bl_drew (bl_refl _)), x11.below (bl_drew (bl_refl _)), x3.1.below (bl_drew (bl_refl _)), hy.below (bl_drew (bl_refl _)) hgl5⟩
            have hq := bl_drew (bl_refl wr)
            replace hB := bl_trans hB hq
            replace hE := bl_trans hE hq
            clear hq x7 x11 hy hgl5
            generalize wr.drew = W9 at hB hE hHeld ⊢
            refine takeL2 0 156 ?_ ?_ hHeld ?_ (hQ := fun _ _ _ h => hP.out _ _ _ _ _ h)
            rotate_left
            · (intro w hSw; (try dsimp only at hSw); simp only [Box, AtW] at hSw; go_simp; try with_reducible rfl)
            simp only [Act.put, puA, puB, puC]
            refine takeL2 1 157 ?_ ?_ hHeld ?_ (hQ := fun _ _ _ h => hP.out _ _ _ _ _ h)
            rotate_left
            · (intro w hSw; (try dsimp only at hSw); simp only [Box, AtW] at hSw; go_simp; try with_reducible rfl)
            simp only [Act.put, puA, puB, puC]
            refine takeL2 2 158 ?_ ?_ hHeld ?_ (hQ := fun _ _ _ h => hP.out _ _ _ _ _ h)
            rotate_left
            · (intro w hSw; (try dsimp only at hSw); simp only [Box, AtW] at hSw; go_simp; try with_reducible rfl)
            simp only [Act.put, puA, puB, puC]
            refine takeL2 3 159 ?_ ?_ hHeld ?_ (hQ := fun _ _ _ h => hP.out _ _ _ _ _ h)
            rotate_left
            · (intro w hSw; (try dsimp only at hSw); simp only [Box, AtW] at hSw; go_simp; try with_reducible rfl)
            simp only [Act.put, puA, puB, puC]
            refine takeL2 4 160 ?_ ?_ hHeld ?_ (hQ := fun _ _ _ h => hP.out _ _ _ _ _ h)
            rotate_left
            · (intro w hSw; (try dsimp only at hSw); simp only [Box, AtW] at hSw; go_simp; try with_reducible rfl)
            simp only [Act.put, puA, puB, puC]
            refine takeL2 5 161 ?_ ?_ hHeld ?_ (hQ := fun _ _ _ h => hP.out _ _ _ _ _ h)
            rotate_left
            · (intro w hSw; (try dsimp only at hSw); simp only [Box, AtW] at hSw; go_simp; try with_reducible rfl)
            simp only [Act.put, puA, puB, puC]
            refine takeL2 6 162 ?_ ?_ hHeld ?_ (hQ := fun _ _ _ h => hP.out _ _ _ _ _ h)
            rotate_left
            · (intro w hSw; (try dsimp only at hSw); simp only [Box, AtW] at hSw; go_simp; try with_reducible rfl)
            simp only [Act.put, puA, puB, puC]
            refine takeL2 7 163 ?_ ?_ hHeld ?_ (hQ := fun _ _ _ h => hP.out _ _ _ _ _ h)
            rotate_left
            · (intro w hSw; (try dsimp only at hSw); simp only [Box, AtW] at hSw; go_simp; try with_reducible rfl)
            simp only [Act.put, puA, puB, puC]
            refine takeL2 8 164 ?_ ?_ hHeld ?_ (hQ := fun _ _ _ h => hP.out _ _ _ _ _ h)
            rotate_left
            · (intro w hSw; (try dsimp only at hSw); simp only [Box, AtW] at hSw; go_simp; try with_reducible rfl)
            simp only [Act.put, puA, puB, puC]
            refine takeL2 9 165 ?_ ?_ hHeld ?_ (hQ := fun _ _ _ h => hP.out _ _ _ _ _ h)
            rotate_left
            · (intro w hSw; (try dsimp only at hSw); simp only [Box, AtW] at hSw; go_simp; try with_reducible rfl)
            simp only [Act.put, puA, puB, puC]
            refine takeL2 10 166 ?_ ?_ hHeld ?_ (hQ := fun _ _ _ h => hP.out _ _ _ _ _ h)
            rotate_left
            · (intro w hSw; (try dsimp only at hSw); simp only [Box, AtW] at hSw; go_simp; try with_reducible rfl)
            simp only [Act.put, puA, puB, puC]
            refine takeL2 11 167 ?_ ?_ hHeld ?_ (hQ := fun _ _ _ h => hP.out _ _ _ _ _ h)
            rotate_left
            · (intro w hSw; (try dsimp only at hSw); simp only [Box, AtW] at hSw; go_simp; try with_reducible rfl)
            simp only [Act.put, puA, puB, puC]
            refine takeL2 12 168 ?_ ?_ hHeld ?_ (hQ := fun _ _ _ h => hP.out _ _ _ _ _ h)
            rotate_left
            · (intro w hSw; (try dsimp only at hSw); simp only [Box, AtW] at hSw; go_simp; try with_reducible rfl)
            simp only [Act.put, puA, puB, puC]
            refine takeL2 13 169 ?_ ?_ hHeld ?_ (hQ := fun _ _ _ h => hP.out _ _ _ _ _ h)
            rotate_left
            · (intro w hSw; (try dsimp only at hSw); simp only [Box, AtW] at hSw; go_simp; try with_reducible rfl)
            simp only [Act.put, puA, puB, puC]
            refine takeL2 14 170 ?_ ?_ hHeld ?_ (hQ := fun _ _ _ h => hP.out _ _ _ _ _ h)
            rotate_left
            · (intro w hSw; (try dsimp only at hSw); simp only [Box, AtW] at hSw; go_simp; try with_reducible rfl)
            simp only [Act.put, puA, puB, puC]
            refine takeL2 15 171 ?_ ?_ hHeld ?_ (hQ := fun _ _ _ h => hP.out _ _ _ _ _ h)
            rotate_left
            · (intro w hSw; (try dsimp only at hSw); simp only [Box, AtW] at hSw; go_simp; try with_reducible rfl)
            simp only [Act.put, puA, puB, puC]
            refine takeL2 16 172 ?_ ?_ hHeld ?_ (hQ := fun _ _ _ h => hP.out _ _ _ _ _ h)
            rotate_left
            · (intro w hSw; (try dsimp only at hSw); simp only [Box, AtW] at hSw; go_simp; try with_reducible rfl)
            simp only [Act.put, puA, puB, puC]
            refine takeL2 17 173 ?_ ?_ hHeld ?_ (hQ := fun _ _ _ h => hP.out _ _ _ _ _ h)
            rotate_left
            · (intro w hSw; (try dsimp only at hSw); simp only [Box, AtW] at hSw; go_simp; try with_reducible rfl)
            simp only [Act.put, puA, puB, puC]
            refine takeL2 18 174 ?_ ?_ hHeld ?_ (hQ := fun _ _ _ h => hP.out _ _ _ _ _ h)
            rotate_left
            · (intro w hSw; (try dsimp only at hSw); simp only [Box, AtW] at hSw; go_simp; try with_reducible rfl)
            simp only [Act.put, puA, puB, puC]
            refine takeL2 19 175 ?_ ?_ hHeld ?_ (hQ := fun _ _ _ h => hP.out _ _ _ _ _ h)
            rotate_left
            · (intro w hSw; (try dsimp only at hSw); simp only [Box, AtW] at hSw; go_simp; try with_reducible rfl)
            simp only [Act.put, puA, puB, puC]
            refine takeL2 20 176 ?_ ?_ hHeld ?_ (hQ := fun _ _ _ h => hP.out _ _ _ _ _ h)
            rotate_left
            · (intro w hSw; (try dsimp only at hSw); simp only [Box, AtW] at hSw; go_simp; try with_reducible rfl)
            simp only [Act.put, puA, puB, puC]
            refine takeL2 21 177 ?_ ?_ hHeld ?_ (hQ := fun _ _ _ h => hP.out _ _ _ _ _ h)
            rotate_left
            · (intro w hSw; (try dsimp only at hSw); simp only [Box, AtW] at hSw; go_simp; try with_reducible rfl)
            simp only [Act.put, puA, puB, puC]
            refine takeL2 22 178 ?_ ?_ hHeld ?_ (hQ := fun _ _ _ h => hP.out _ _ _ _ _ h)
            rotate_left
            · (intro w hSw; (try dsimp only at hSw); simp only [Box, AtW] at hSw; go_simp; try with_reducible rfl)
            simp only [Act.put, puA, puB, puC]
            refine takeL2 23 179 ?_ ?_ hHeld ?_ (hQ := fun _ _ _ h => hP.out _ _ _ _ _ h)
            rotate_left
            · (intro w hSw; (try dsimp only at hSw); simp only [Box, AtW] at hSw; go_simp; try with_reducible rfl)
            simp only [Act.put, puA, puB, puC]
            refine takeL2 24 180 ?_ ?_ hHeld ?_ (hQ := fun _ _ _ h => hP.out _ _ _ _ _ h)
            rotate_left
            · (intro w hSw; (try dsimp only at hSw); simp only [Box, AtW] at hSw; go_simp; try with_reducible rfl)
            simp only [Act.put, puA, puB, puC]
            refine takeL2 25 181 ?_ ?_ hHeld ?_ (hQ := fun _ _ _ h => hP.out _ _ _ _ _ h)
            rotate_left
            · (intro w hSw; (try dsimp only at hSw); simp only [Box, AtW] at hSw; go_simp; try with_reducible rfl)
            simp only [Act.put, puA, puB, puC]
            refine takeL2 26 182 ?_ ?_ hHeld ?_ (hQ := fun _ _ _ h => hP.out _ _ _ _ _ h)
            rotate_left
            · (intro w hSw; (try dsimp only at hSw); simp only [Box, AtW] at hSw; go_simp; try with_reducible rfl)
            simp only [Act.put, puA, puB, puC]
            refine wpAnyH_done (by as_aux_lemma => kernel_rfl) ?_ _
            clear hHeld
            go_wp2_with fail
            go_roundg (W.length - (m + 1))
            case measure => omega
            case rel => exact ⟨m + 1, rfl, by omega, by go_num, hB, hE⟩
      · have hmt' : ¬ ((m : Int) < (W.length : Int)) := by omega
        replace hL := hL.below hE
        replace hLY := hLY.below hE
        replace hOF := hOF.below hE
        replace x10 := x10.below hE
        have hBl := bl_alloc (bl_refl wr) (.cells #[.int .i64 f.k, .int .i64 f.a, .int .i64 f.ap, .int .i64 f.b, .int .i64 f.bp, .int .i64 G.k, .int .i64 G.a, .int .i64 G.ap, .int .i64 G.b, .int .i64 G.bp, .int .i64 X.nw] 40)
        have xs := Box.new wr #[.int .i64 f.k, .int .i64 f.a, .int .i64 f.ap, .int .i64 f.b, .int .i64 f.bp, .int .i64 G.k, .int .i64 G.a, .int .i64 G.ap, .int .i64 G.b, .int .i64 G.bp, .int .i64 X.nw] 40
        have y7 := x7.2
        have y11 := x11.2
        have y3 := x3.1.2
        replace x3 := x3.below hBl
        replace hLY := hLY.below hBl
        replace hOF := hOF.below hBl
        replace x10 := x10.below hBl
        replace hOW := hOW.below hBl
        replace hB := bl_trans hB hBl
        obtain ⟨v', w9, hrun, hOW2, hg9, -⟩ := app_went (f := ⟨f, G, X.nw⟩) hOW xs (by omega) (by have := x3.1.1; omega)
        have hrow : ∀ k, (Value.slice s5 W.length s6).ownBlock = some k → q2 ≤ k := fun k hk => (hOW.lt k hk).1
        replace x3 := x3.far hg9 (fun k hk => by have := hrow k hk; omega)
        replace x10 := x10.far hg9 (fun k hk => by have := hk10 k hk; omega)
        replace hLY := hLY.grownW hOW hg9
        replace hOF := hOF.grownW hOW hg9
        replace hB := bl_grown hB hOW hg9 (by omega)
        clear hg9 hOW hrow hBl xs
        go_upto_region 33 with (first | (at_builtin; refine Lib.wpList_append_run _ rfl _ _ _ _ rfl _ _ rfl rfl _ _ hrun ?_))
        clear hrun y3 y7 y11
        have y10 := x10.2
        obtain ⟨⟨p1, p2⟩, p3⟩ := id x3
        go_wp2_with fail
        exact hQ.out _ _ _ _ _ _ _ _ _ _ _ _ _ _ _ _ _ _ _ _ _ _ _ _ _ _ _ _ _ _ _ _ _ _ _ _ _ _ _ _ _ _ _ _ _ _ _ _ _ _ _ _ _ _ _ _ _ _ _ _ _ _ _ _ _ _ _ _ _ _ _ _ _ _ _ _ _ _ _ _ _ _ _ _ v' (W ++ [⟨f, G, X.nw⟩]) _ (TS.turn hT2.out (by rw [hnwY.out]; omega) x3 hLY hOW2 ⟨by simp; omega, fun x hx => by rcases List.mem_append.1 hx with h | h; exact hWa x h; rw [List.mem_singleton.1 h]; exact hn0⟩ hOF hB hk4 (by omega) (by omega))
  · clear hcase
    go_wp2_with fail
    go_loopg [16] 0 (fun _ iv wq => iv = .int .i64 0 ∧ Below w.heap.size w wq ∧ Below v6.heap.size v6 wq)
    case atStart => exact ⟨rfl, hB, bl_refl _⟩
    case round =>
      obtain ⟨rfl, hB, hE⟩ := hrel
      replace x3 := x3.below hE
      replace x10 := x10.below hE
      replace hOW := hOW.below hE
      replace hLY := hLY.below hE
      replace hOF := hOF.below hE
      have y10 := x10.2
      obtain ⟨⟨p1, p2⟩, p3⟩ := id x3
      by_cases hmt : (0 : Int) < (W.length : Int)
      · go_wp2_with fail
        exact hQ.out _ _ _ _ _ _ _ _ _ _ _ _ _ _ _ _ _ _ _ _ _ _ _ _ _ _ _ _ _ _ _ _ _ _ _ _ _ _ _ _ _ _ _ _ _ _ _ _ _ _ _ _ _ _ _ _ _ _ _ _ _ _ _ _ _ _ _ _ _ _ _ _ _ _ _ _ _ _ _ _ _ _ _ _ _ W _ (TS.turn hT2 (by rw [hnwY.out]; omega) x3 hLY hOW ⟨by omega, hWa⟩ hOF hB hk4 (by omega) (by omega))
      · go_wp2_with fail
        exact hQ.out _ _ _ _ _ _ _ _ _ _ _ _ _ _ _ _ _ _ _ _ _ _ _ _ _ _ _ _ _ _ _ _ _ _ _ _ _ _ _ _ _ _ _ _ _ _ _ _ _ _ _ _ _ _ _ _ _ _ _ _ _ _ _ _ _ _ _ _ _ _ _ _ _ _ _ _ _ _ _ _ _ _ _ _ _ W _ (TS.turn hT2 (by rw [hnwY.out]; omega) x3 hLY hOW ⟨by omega, hWa⟩ hOF hB hk4 (by omega) (by omega))
end Go.Proofs.YtcgjpmhjijmplaaGreatDoor
