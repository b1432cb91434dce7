/- The law FnExactNatOut, walked. -/
import Derived.Test.YtcgjpmhjijmplaaGreatDoorLaws5
import Derived.Test.YtcgjpmhjijmplaaGreatDoorTick12
import Derived.Test.YtcgjpmhjijmplaaGreatDoorGo8
import Derived.Test.YtcgjpmhjijmplaaGreatDoorOut3
import Derived.Test.YtcgjpmhjijmplaaGreatDoorOutV
import Derived.Deep.DeepCutAuto
namespace Go.Proofs.YtcgjpmhjijmplaaGreatDoor
open Go.ChangeShapes Go.WideShapes Go.ChangeAt Go.RowKit Go.Maps

theorem doorsAt_own {w : World} {base vc : Nat} {va : Option Addr} {e : TypeId} {L : List Dr} (h : w.ownsRow base e 4 (.slice va L.length vc) L.length (flatD L)) : DoorsAt w va L.length L := by
  refine ⟨rfl, ?_⟩
  rcases h.2 with ⟨h1, h2⟩ | ⟨g, cap, cur, h1, _⟩
  · exact Or.inl (List.eq_nil_of_length_eq_zero h2)
  · have hl := (h.lt g (by rw [h1]; rfl)).2
    simp only [Value.slice.injEq] at h1
    obtain ⟨rfl, -, rfl⟩ := h1
    exact Or.inr ⟨g, 0, rfl, hl, drCells_of_own h rfl⟩
theorem entriesAt_own {w : World} {base vc : Nat} {va : Option Addr} {e : TypeId} {L : List En} (h : w.ownsRow base e 7 (.slice va L.length vc) L.length (flatE L)) : EntriesAt w va L.length L := by
  refine ⟨rfl, ?_⟩
  rcases h.2 with ⟨h1, h2⟩ | ⟨g, cap, cur, h1, _⟩
  · exact Or.inl (List.eq_nil_of_length_eq_zero h2)
  · have hl := (h.lt g (by rw [h1]; rfl)).2
    simp only [Value.slice.injEq] at h1
    obtain ⟨rfl, -, rfl⟩ := h1
    exact Or.inr ⟨g, 0, rfl, hl, enCells_of_own h rfl⟩
theorem out_len (ad ln ow lo hi nw : Int) (ds : List Dr) (es : List En) (k a ap b bp : Int) : (outM ⟨ad, ln, ow, lo, hi, nw, ds, es⟩ k a ap b bp).R.ds.length ≤ ds.length ∧ (outM ⟨ad, ln, ow, lo, hi, nw, ds, es⟩ k a ap b bp).R.es.length ≤ 17 := by
  unfold outM
  by_cases h1 : bookB ad ln ow lo hi nw ds es = true
  · obtain ⟨-, -, he, -⟩ := book_parts h1
    simp only [if_pos h1]
    have hle : ∀ x : Nat, x ≤ es.length + 1 → x ≤ 17 := fun x hx => by omega
    repeat' split
    all_goals refine ⟨Nat.le_refl _, hle _ ?_⟩
    all_goals first
      | exact Nat.le_succ _
      | (show (es.modify _ _).length ≤ _; rw [List.length_modify]; exact Nat.le_succ _)
      | (show (putE _ _).length ≤ _; rw [putE_length]; exact Nat.le_refl _)
  · simp only [if_neg h1]
    exact ⟨Nat.zero_le _, Nat.zero_le _⟩
set_option maxRecDepth 20000 in
set_option maxHeartbeats 8000000 in
theorem lawOut_ret (ad ln ow lo hi nw : Int) (da : Option Addr) (dn dc : Nat) (ea : Option Addr) (en ec : Nat) (k a ap b bp : Int) (ds : List Dr) (es : List En) (w : World) (hg : Gl w) (hd : dn ≤ maxLen) (he : en ≤ maxLen) (hD : DoorsAt w da dn ds) (hE : EntriesAt w ea en es) :
    Calls Tryz.prog 9 #[.agg #[.int .i64 ad, .int .i64 ln, .int .i64 ow, .int .i64 lo, .int .i64 hi, .slice da dn dc, .int .i64 nw, .slice ea en ec], .agg #[.int .i64 k, .int .i64 a, .int .i64 ap, .int .i64 b, .int .i64 bp]] w fun e w' => e = .returned (.bool true) ∧ Below w.heap.size w w' := by
  obtain ⟨hrd, hre⟩ := out_len ad ln ow lo hi nw ds es k a ap b bp
  have HS : Hid (∀ W da' dc' ea' ec', DoorsAt W da' dn ds → EntriesAt W ea' en es → Calls Tryz.prog 14 #[.agg #[.int .i64 ad, .int .i64 ln, .int .i64 ow, .int .i64 lo, .int .i64 hi, .slice da' dn dc', .int .i64 nw, .slice ea' en ec'], .agg #[.int .i64 k, .int .i64 a, .int .i64 ap, .int .i64 b, .int .i64 bp]] W fun e w' => ToldO w' W.heap.size e (outM ⟨ad, ln, ow, lo, hi, nw, ds, es⟩ k a ap b bp) ∧ Below W.heap.size W w') := fun W _ _ _ _ h1 h2 => specOut_ret _ _ _ _ _ _ _ _ _ _ _ _ _ _ _ _ _ ds es W h1 h2
  have HI : Hid (∀ W da' dc' ea' ec', Gl W → DoorsAt W da' dn ds → EntriesAt W ea' en es → Calls Tryz.prog 13 #[.agg #[.int .i64 ad, .int .i64 ln, .int .i64 ow, .int .i64 lo, .int .i64 hi, .slice da' dn dc', .int .i64 nw, .slice ea' en ec'], .agg #[.int .i64 k, .int .i64 a, .int .i64 ap, .int .i64 b, .int .i64 bp]] W fun e w' => ToldO w' W.heap.size e (outM ⟨ad, ln, ow, lo, hi, nw, ds, es⟩ k a ap b bp) ∧ Below W.heap.size W w') := fun W _ _ _ _ h0 h1 h2 => implOut_ret _ _ _ _ _ _ _ _ _ _ _ _ _ _ _ _ _ ds es W h0 h1 h2
  generalize outM ⟨ad, ln, ow, lo, hi, nw, ds, es⟩ k a ap b bp = O at *
  obtain ⟨R, F, c⟩ := O
  simp only at hrd hre
  have HD : Hid (∀ W, Below w.heap.size w W → DoorsAt W da dn ds) := fun W h => hD.below h
  have HE : Hid (∀ W, Below w.heap.size w W → EntriesAt W ea en es) := fun W h => hE.below h
  have hld' : dn = ds.length := hD.1
  have hle' : en = es.length := hE.1
  have hB := bl_alloc (bl_alloc (bl_refl w) (.cells #[.int .i64 ad, .int .i64 ln, .int .i64 ow, .int .i64 lo, .int .i64 hi, .slice da dn dc, .int .i64 nw, .slice ea en ec] 60)) (.cells #[.int .i64 k, .int .i64 a, .int .i64 ap, .int .i64 b, .int .i64 bp] 61)
  have xA := (Box.new w #[.int .i64 ad, .int .i64 ln, .int .i64 ow, .int .i64 lo, .int .i64 hi, .slice da dn dc, .int .i64 nw, .slice ea en ec] 60).below (bl_alloc (bl_refl _) (.cells #[.int .i64 k, .int .i64 a, .int .i64 ap, .int .i64 b, .int .i64 bp] 61))
  have xF := Box.new (w.alloc (.cells #[.int .i64 ad, .int .i64 ln, .int .i64 ow, .int .i64 lo, .int .i64 hi, .slice da dn dc, .int .i64 nw, .slice ea en ec] 60)) #[.int .i64 k, .int .i64 a, .int .i64 ap, .int .i64 b, .int .i64 bp] 61
  simp only [World.size_alloc] at xF
  have hq := fun W => szB_ret ad ln ow lo hi nw da dn dc ea en ec W hd he
  have hsz : 0 ≤ szI dn en → dn ≤ 1048576 ∧ en ≤ 1048576 := by
    unfold szI subI
    repeat' split
    all_goals omega
  clear hD hE
  generalize szI dn en = left at hq hsz
  by_cases hl : left < 0
  · clear hsz hld' hle'
    go_enter Tryz.func9, Tryz.ntmps9
    go_wp2_with fail
    refine (hq _).mono ?_
    rintro e w1 ⟨rfl, hb1⟩
    go_wp2
    go_ret
    exact ⟨rfl, bl_trans hB hb1⟩
  · obtain ⟨hld0, hle0⟩ := hsz (by omega)
    have hld : ds.length ≤ 1048576 := by omega
    have hle : es.length ≤ 1048576 := by omega
    have hg : Hid (Gl w) := hg
    clear hsz hld' hle'
    go_enter Tryz.func9, Tryz.ntmps9
    go_wp2_with fail
    refine (hq _).mono ?_
    rintro e wr ⟨rfl, hb1⟩
    replace xA := xA.below hb1
    replace xF := xF.below hb1
    replace hB := bl_trans hB hb1
    clear hb1 hq
    go_upto_region 5 with fail
    have hC := bl_refl wr
    have hw0 : w.heap.size ≤ wr.heap.size := hB.size
    have hlo : w.heap.size ≤ w.heap.size + 1 ∧ w.heap.size + 1 ≤ w.heap.size + 1 := ⟨Nat.le_succ _, Nat.le_refl _⟩
    go_cut [6, 7, 8] (fun s6 s7 s8 wc => ∃ (n6 n7 : Nat) (va : Option Addr) (vc : Nat) (ua : Option Addr) (uc : Nat), s6 = .pointer (some ⟨n6, 0, none⟩) ∧ s7 = .pointer (some ⟨n7, 0, none⟩) ∧ s8 = .int .i64 c ∧ w.heap.size + 1 < n6 ∧ w.heap.size + 1 < n7 ∧ Box wc n6 #[.int .i64 R.ad, .int .i64 R.ln, .int .i64 R.ow, .int .i64 R.lo, .int .i64 R.hi, .slice va R.ds.length vc, .int .i64 R.nw, .slice ua R.es.length uc] ∧ Box wc n7 #[.int .i64 F.k, .int .i64 F.a, .int .i64 F.ap, .int .i64 F.b, .int .i64 F.bp] ∧ (∃ base, OwnB wc base (.slice va R.ds.length vc) R.ds (.slice ua R.es.length uc) R.es) ∧ Below w.heap.size w wc ∧ Box wc w.heap.size #[.int .i64 ad, .int .i64 ln, .int .i64 ow, .int .i64 lo, .int .i64 hi, .slice da dn dc, .int .i64 nw, .slice ea en ec] ∧ Box wc (w.heap.size + 1) #[.int .i64 k, .int .i64 a, .int .i64 ap, .int .i64 b, .int .i64 bp])
    case first =>
      refine region_midV [25, 26, 27, 28, 29, 24, 30, 31, 32, 6, 7, 100011, 100012, 8] (fun L x u => ((L 0 = true → x 0 = .agg #[.int .i64 ad, .int .i64 ln, .int .i64 ow, .int .i64 lo, .int .i64 hi, .slice da dn dc, .int .i64 nw, .slice ea en ec]) ∧ (L 1 = true → L 4 = false → ∃ g h, x 1 = .agg #[.int .i64 ad, .int .i64 ln, .int .i64 ow, .int .i64 lo, .int .i64 hi, .slice (some ⟨g, 0, none⟩) dn dn, .int .i64 nw, .slice (some ⟨h, 0, none⟩) en en] ∧ DoorsAt u (some ⟨g, 0, none⟩) dn ds ∧ EntriesAt u (some ⟨h, 0, none⟩) en es) ∧ (L 2 = true → x 2 = .agg #[.int .i64 k, .int .i64 a, .int .i64 ap, .int .i64 b, .int .i64 bp]) ∧ (L 3 = true → x 3 = .agg #[.int .i64 k, .int .i64 a, .int .i64 ap, .int .i64 b, .int .i64 bp])) ∧ ∃ m9 m10 va vc ua uc, JG w wr w.heap.size (w.heap.size + 1) (w.heap.size + 1) #[.int .i64 ad, .int .i64 ln, .int .i64 ow, .int .i64 lo, .int .i64 hi, .slice da dn dc, .int .i64 nw, .slice ea en ec] #[.int .i64 k, .int .i64 a, .int .i64 ap, .int .i64 b, .int .i64 bp] R F c m9 m10 va vc ua uc (L 4) (L 5) (L 6) (L 7) (L 8) (L 9) (L 10) (L 11) (L 12) (L 13) (x 4) (x 5) (x 6) (x 7) (x 8) (x 9) (x 10) (x 13) u) (by kernel_rfl) (by kernel_rfl) (by decide) ?_ ?_ ?_
      · exact ⟨⟨(fun h => by cases h), (fun h => by cases h), (fun h => by cases h), fun h => by cases h⟩, 0, 0, none, 0, none, 0, bl_drew hB, bl_drew (bl_refl _), xA.below (bl_drew (bl_refl _)), xF.below (bl_drew (bl_refl _)), (fun h => by cases h), (fun h => by cases h), (fun h => by cases h), (fun h => by cases h), (fun h => by cases h), (fun h => by cases h), (fun h => by cases h), (fun h => by cases h), (fun h => by cases h), (fun h => by cases h)⟩
      · refine all_lt_succ (all_lt_succ (all_lt_succ (all_lt_succ (all_lt_succ (all_lt_succ (all_lt_succ (all_lt_succ (all_lt_succ (all_lt_succ (all_lt_succ (all_lt_succ (all_lt_succ (all_lt_succ (all_lt_zero _) ?_) ?_) ?_) ?_) ?_) ?_) ?_) ?_) ?_) ?_) ?_) ?_) ?_) ?_
        · refine stepOkV_at _ rfl ?_
          intro L vs w hv hli hup hJ K hK
          obtain ⟨v0, v1, v2, v3, v4, v5, v6, v7, v8, v9, v10, v11, v12, v13, rfl⟩ := len14 hv
          obtain ⟨⟨p0, p1, p2, p3⟩, m9, m10, va, vc, ua, uc, jg⟩ := hJ
          have hbx := jg.x1.2
          refine mid_val (.agg #[.int .i64 ad, .int .i64 ln, .int .i64 ow, .int .i64 lo, .int .i64 hi, .slice da dn dc, .int .i64 nw, .slice ea en ec]) w (by kernel_rfl) ?_ (hK.out _ _ ⟨⟨fun _ => rfl, p1, p2, p3⟩, m9, m10, va, vc, ua, uc, jg⟩)
          simp only [setAll, List.setIfInBounds_toArray, List.set_cons_zero, List.set_cons_succ, List.set_nil]
          go_simp
        · refine stepOkV_at _ rfl ?_
          intro L vs w hv hli hup hJ K hK
          obtain ⟨v0, v1, v2, v3, v4, v5, v6, v7, v8, v9, v10, v11, v12, v13, rfl⟩ := len14 hv
          obtain ⟨⟨p0, p1, p2, p3⟩, m9, m10, va, vc, ua, uc, jg⟩ := hJ
          obtain rfl : v0 = .agg #[.int .i64 ad, .int .i64 ln, .int .i64 ow, .int .i64 lo, .int .i64 hi, .slice da dn dc, .int .i64 nw, .slice ea en ec] := p0 (updV hup 0 (by kernel_rfl))
          refine mid_call 34 (by kernel_rfl) (toBook_ret ad ln ow lo hi nw da dn dc ea en ec ds es w hld hle (HD.out _ jg.hB) (HE.out _ jg.hB)) (by kernel_rfl) ?_
          rintro e w' ⟨g, h, rfl, hb, hDy, hEy⟩
          exact ⟨_, rfl, hK.out _ _ ⟨⟨p0, (fun _ _ => ⟨g, h, rfl, hDy, hEy⟩), p2, p3⟩, m9, m10, va, vc, ua, uc, jg.below hb⟩⟩
        · refine stepOkV_at _ rfl ?_
          intro L vs w hv hli hup hJ K hK
          obtain ⟨v0, v1, v2, v3, v4, v5, v6, v7, v8, v9, v10, v11, v12, v13, rfl⟩ := len14 hv
          obtain ⟨⟨p0, p1, p2, p3⟩, m9, m10, va, vc, ua, uc, jg⟩ := hJ
          have hbx := jg.x2.2
          refine mid_val (.agg #[.int .i64 k, .int .i64 a, .int .i64 ap, .int .i64 b, .int .i64 bp]) w (by kernel_rfl) ?_ (hK.out _ _ ⟨⟨p0, p1, fun _ => rfl, p3⟩, m9, m10, va, vc, ua, uc, jg⟩)
          simp only [setAll, List.setIfInBounds_toArray, List.set_cons_zero, List.set_cons_succ, List.set_nil]
          go_simp
        · refine stepOkV_at _ rfl ?_
          intro L vs w hv hli hup hJ K hK
          obtain ⟨v0, v1, v2, v3, v4, v5, v6, v7, v8, v9, v10, v11, v12, v13, rfl⟩ := len14 hv
          obtain ⟨⟨p0, p1, p2, p3⟩, m9, m10, va, vc, ua, uc, jg⟩ := hJ
          obtain rfl : v2 = .agg #[.int .i64 k, .int .i64 a, .int .i64 ap, .int .i64 b, .int .i64 bp] := p2 (updV hup 2 (by kernel_rfl))
          refine mid_call 35 (by kernel_rfl) (toFlow_ret k a ap b bp w) (by kernel_rfl) ?_
          rintro e w' ⟨rfl, hb⟩
          exact ⟨_, rfl, hK.out _ _ ⟨⟨p0, (fun a b => by obtain ⟨g, h, e, d1, d2⟩ := p1 a b; exact ⟨g, h, e, d1.below hb, d2.below hb⟩), p2, fun _ => rfl⟩, m9, m10, va, vc, ua, uc, jg.below hb⟩⟩
        · refine stepOkV_at _ rfl ?_
          intro L vs w hv hli hup hJ K hK
          obtain ⟨v0, v1, v2, v3, v4, v5, v6, v7, v8, v9, v10, v11, v12, v13, rfl⟩ := len14 hv
          obtain ⟨⟨p0, p1, p2, p3⟩, m9, m10, va, vc, ua, uc, jg⟩ := hJ
          obtain ⟨g, h, e1, d1, d2⟩ := p1 (updV hup 1 (by kernel_rfl)) hli
          obtain rfl : v1 = .agg #[.int .i64 ad, .int .i64 ln, .int .i64 ow, .int .i64 lo, .int .i64 hi, .slice (some ⟨g, 0, none⟩) dn dn, .int .i64 nw, .slice (some ⟨h, 0, none⟩) en en] := e1
          obtain rfl : v3 = .agg #[.int .i64 k, .int .i64 a, .int .i64 ap, .int .i64 b, .int .i64 bp] := p3 (updV hup 3 (by kernel_rfl))
          refine mid_call 14 (by kernel_rfl) (HS.out _ (some ⟨g, 0, none⟩) dn (some ⟨h, 0, none⟩) en d1 d2) (by kernel_rfl) ?_
          rintro e w' ⟨⟨pa, pc, ra, rc, rfl, hO⟩, hb⟩
          exact ⟨_, rfl, hK.out _ _ ⟨⟨p0, (fun _ x => by simp [upd1] at x), p2, p3⟩, m9, m10, pa, pc, ra, rc, JG.call hli jg hb hO⟩⟩
        · refine stepOkV_at _ rfl ?_
          intro L vs w hv hli hup hJ K hK
          obtain ⟨v0, v1, v2, v3, v4, v5, v6, v7, v8, v9, v10, v11, v12, v13, rfl⟩ := len14 hv
          obtain ⟨⟨p0, p1, p2, p3⟩, m9, m10, va, vc, ua, uc, jg⟩ := hJ
          have e4 := updV hup 4 (by kernel_rfl)
          obtain rfl : v4 = .tuple #[.agg #[.int .i64 R.ad, .int .i64 R.ln, .int .i64 R.ow, .int .i64 R.lo, .int .i64 R.hi, .slice va R.ds.length vc, .int .i64 R.nw, .slice ua R.es.length uc], .agg #[.int .i64 F.k, .int .i64 F.a, .int .i64 F.ap, .int .i64 F.b, .int .i64 F.bp], .int .i64 c] := (jg.h4 e4).1
          exact mid_val _ w (by kernel_rfl) (by kernel_rfl) (hK.out _ _ ⟨⟨p0, p1, p2, p3⟩, m9, m10, va, vc, ua, uc, jg.mv5 e4⟩)
        · refine stepOkV_at _ rfl ?_
          intro L vs w hv hli hup hJ K hK
          obtain ⟨v0, v1, v2, v3, v4, v5, v6, v7, v8, v9, v10, v11, v12, v13, rfl⟩ := len14 hv
          obtain ⟨⟨p0, p1, p2, p3⟩, m9, m10, va, vc, ua, uc, jg⟩ := hJ
          obtain ⟨e4, e5⟩ := jg.h5 (updV hup 5 (by kernel_rfl))
          obtain rfl : v5 = .tuple #[.agg #[.int .i64 R.ad, .int .i64 R.ln, .int .i64 R.ow, .int .i64 R.lo, .int .i64 R.hi, .slice va R.ds.length vc, .int .i64 R.nw, .slice ua R.es.length uc], .agg #[.int .i64 F.k, .int .i64 F.a, .int .i64 F.ap, .int .i64 F.b, .int .i64 F.bp], .int .i64 c] := e5
          exact mid_val _ w (by kernel_rfl) (by kernel_rfl) (hK.out _ _ ⟨⟨p0, p1, p2, p3⟩, m9, m10, va, vc, ua, uc, jg.ex6 e4⟩)
        · refine stepOkV_at _ rfl ?_
          intro L vs w hv hli hup hJ K hK
          obtain ⟨v0, v1, v2, v3, v4, v5, v6, v7, v8, v9, v10, v11, v12, v13, rfl⟩ := len14 hv
          obtain ⟨⟨p0, p1, p2, p3⟩, m9, m10, va, vc, ua, uc, jg⟩ := hJ
          obtain ⟨e4, e5⟩ := jg.h5 (updV hup 5 (by kernel_rfl))
          obtain rfl : v5 = .tuple #[.agg #[.int .i64 R.ad, .int .i64 R.ln, .int .i64 R.ow, .int .i64 R.lo, .int .i64 R.hi, .slice va R.ds.length vc, .int .i64 R.nw, .slice ua R.es.length uc], .agg #[.int .i64 F.k, .int .i64 F.a, .int .i64 F.ap, .int .i64 F.b, .int .i64 F.bp], .int .i64 c] := e5
          exact mid_val _ w (by kernel_rfl) (by kernel_rfl) (hK.out _ _ ⟨⟨p0, p1, p2, p3⟩, m9, m10, va, vc, ua, uc, jg.ex7⟩)
        · refine stepOkV_at _ rfl ?_
          intro L vs w hv hli hup hJ K hK
          obtain ⟨v0, v1, v2, v3, v4, v5, v6, v7, v8, v9, v10, v11, v12, v13, rfl⟩ := len14 hv
          obtain ⟨⟨p0, p1, p2, p3⟩, m9, m10, va, vc, ua, uc, jg⟩ := hJ
          obtain ⟨e4, e5⟩ := jg.h5 (updV hup 5 (by kernel_rfl))
          obtain rfl : v5 = .tuple #[.agg #[.int .i64 R.ad, .int .i64 R.ln, .int .i64 R.ow, .int .i64 R.lo, .int .i64 R.hi, .slice va R.ds.length vc, .int .i64 R.nw, .slice ua R.es.length uc], .agg #[.int .i64 F.k, .int .i64 F.a, .int .i64 F.ap, .int .i64 F.b, .int .i64 F.bp], .int .i64 c] := e5
          exact mid_val _ w (by kernel_rfl) (by kernel_rfl) (hK.out _ _ ⟨⟨p0, p1, p2, p3⟩, m9, m10, va, vc, ua, uc, jg.ex8⟩)
        · refine stepOkV_at _ rfl ?_
          intro L vs w hv hli hup hJ K hK
          obtain ⟨v0, v1, v2, v3, v4, v5, v6, v7, v8, v9, v10, v11, v12, v13, rfl⟩ := len14 hv
          obtain ⟨⟨p0, p1, p2, p3⟩, m9, m10, va, vc, ua, uc, jg⟩ := hJ
          have hb : Below w.heap.size w (w.alloc (.cells #[.int .i64 0, .int .i64 0, .int .i64 0, .int .i64 0, .int .i64 0, .slice none 0 0, .int .i64 0, .slice none 0 0] 26)) := bl_alloc (bl_refl _) _
          exact mid_val (.pointer (some ⟨w.heap.size, 0, none⟩)) (w.alloc (.cells #[.int .i64 0, .int .i64 0, .int .i64 0, .int .i64 0, .int .i64 0, .slice none 0 0, .int .i64 0, .slice none 0 0] 26)) (by kernel_rfl) (by kernel_rfl) (hK.out _ _ ⟨⟨p0, (fun a b => by obtain ⟨g, h, e, d1, d2⟩ := p1 a b; exact ⟨g, h, e, d1.below hb, d2.below hb⟩), p2, p3⟩, w.heap.size, m10, va, vc, ua, uc, JG.al9 (Or.inr rfl) hli jg⟩)
        · refine stepOkV_at _ rfl ?_
          intro L vs w hv hli hup hJ K hK
          obtain ⟨v0, v1, v2, v3, v4, v5, v6, v7, v8, v9, v10, v11, v12, v13, rfl⟩ := len14 hv
          obtain ⟨⟨p0, p1, p2, p3⟩, m9, m10, va, vc, ua, uc, jg⟩ := hJ
          have hb : Below w.heap.size w (w.alloc (.cells #[.int .i64 0, .int .i64 0, .int .i64 0, .int .i64 0, .int .i64 0] 32)) := bl_alloc (bl_refl _) _
          exact mid_val (.pointer (some ⟨w.heap.size, 0, none⟩)) (w.alloc (.cells #[.int .i64 0, .int .i64 0, .int .i64 0, .int .i64 0, .int .i64 0] 32)) (by kernel_rfl) (by kernel_rfl) (hK.out _ _ ⟨⟨p0, (fun a b => by obtain ⟨g, h, e, d1, d2⟩ := p1 a b; exact ⟨g, h, e, d1.below hb, d2.below hb⟩), p2, p3⟩, m9, w.heap.size, va, vc, ua, uc, JG.al10 (Or.inr rfl) hli jg⟩)
        · refine stepOkV_at _ rfl ?_
          intro L vs w hv hli hup hJ K hK
          obtain ⟨v0, v1, v2, v3, v4, v5, v6, v7, v8, v9, v10, v11, v12, v13, rfl⟩ := len14 hv
          obtain ⟨⟨p0, p1, p2, p3⟩, m9, m10, va, vc, ua, uc, jg⟩ := hJ
          have e9 := updV hup 9 (by kernel_rfl)
          obtain ⟨e4, e6⟩ := jg.h6 (updV hup 6 (by kernel_rfl))
          obtain rfl : v6 = .agg #[.int .i64 R.ad, .int .i64 R.ln, .int .i64 R.ow, .int .i64 R.lo, .int .i64 R.hi, .slice va R.ds.length vc, .int .i64 R.nw, .slice ua R.es.length uc] := e6
          obtain ⟨e10, -, hz, -⟩ := jg.h9 e9
          obtain rfl : v9 = .pointer (some ⟨m9, 0, none⟩) := e10
          obtain ⟨⟨q1, q2⟩, q3⟩ := id (hz hli)
          refine mid_skip (World.setCell (World.setCell (World.setCell (World.setCell (World.setCell (World.setCell (World.setCell (World.setCell w ⟨m9, 0, none⟩ (.int .i64 R.ad)) ⟨m9, 1, none⟩ (.int .i64 R.ln)) ⟨m9, 2, none⟩ (.int .i64 R.ow)) ⟨m9, 3, none⟩ (.int .i64 R.lo)) ⟨m9, 4, none⟩ (.int .i64 R.hi)) ⟨m9, 5, none⟩ (.slice va R.ds.length vc)) ⟨m9, 6, none⟩ (.int .i64 R.nw)) ⟨m9, 7, none⟩ (.slice ua R.es.length uc)) (by kernel_rfl) ?_ (hK.out undef _ ⟨⟨p0, (fun _ x => by have x : L 4 = false := x; rw [e4] at x; cases x), p2, p3⟩, m9, m10, va, vc, ua, uc, JG.st11 hw0 hlo e4 e9 hli jg⟩)
          simp only [setAll, List.setIfInBounds_toArray, List.set_cons_zero, List.set_cons_succ, List.set_nil]
          go_simp
        · refine stepOkV_at _ rfl ?_
          intro L vs w hv hli hup hJ K hK
          obtain ⟨v0, v1, v2, v3, v4, v5, v6, v7, v8, v9, v10, v11, v12, v13, rfl⟩ := len14 hv
          obtain ⟨⟨p0, p1, p2, p3⟩, m9, m10, va, vc, ua, uc, jg⟩ := hJ
          have e9 := updV hup 9 (by kernel_rfl)
          have e10 := updV hup 10 (by kernel_rfl)
          have e4 := updV hup 4 (by kernel_rfl)
          obtain rfl : v7 = .agg #[.int .i64 F.k, .int .i64 F.a, .int .i64 F.ap, .int .i64 F.b, .int .i64 F.bp] := jg.h7 (updV hup 7 (by kernel_rfl))
          obtain ⟨e11, -, -, hz, -⟩ := jg.h10 e10
          obtain rfl : v10 = .pointer (some ⟨m10, 0, none⟩) := e11
          obtain ⟨⟨q1, q2⟩, q3⟩ := id (hz hli)
          refine mid_skip (World.setCell (World.setCell (World.setCell (World.setCell (World.setCell w ⟨m10, 0, none⟩ (.int .i64 F.k)) ⟨m10, 1, none⟩ (.int .i64 F.a)) ⟨m10, 2, none⟩ (.int .i64 F.ap)) ⟨m10, 3, none⟩ (.int .i64 F.b)) ⟨m10, 4, none⟩ (.int .i64 F.bp)) (by kernel_rfl) ?_ (hK.out undef _ ⟨⟨p0, (fun _ x => by have x : L 4 = false := x; rw [e4] at x; cases x), p2, p3⟩, m9, m10, va, vc, ua, uc, JG.st12 hw0 hlo e9 e10 hli jg⟩)
          simp only [setAll, List.setIfInBounds_toArray, List.set_cons_zero, List.set_cons_succ, List.set_nil]
          go_simp
        · refine stepOkV_at _ rfl ?_
          intro L vs w hv hli hup hJ K hK
          obtain ⟨v0, v1, v2, v3, v4, v5, v6, v7, v8, v9, v10, v11, v12, v13, rfl⟩ := len14 hv
          obtain ⟨⟨p0, p1, p2, p3⟩, m9, m10, va, vc, ua, uc, jg⟩ := hJ
          obtain rfl : v8 = .int .i64 c := jg.h8 (updV hup 8 (by kernel_rfl))
          exact mid_val _ w (by kernel_rfl) (by kernel_rfl) (hK.out _ _ ⟨⟨p0, p1, p2, p3⟩, m9, m10, va, vc, ua, uc, jg.as13⟩)
      · intro L vs w hal hv hJ
        obtain ⟨v0, v1, v2, v3, v4, v5, v6, v7, v8, v9, v10, v11, v12, v13, rfl⟩ := len14 hv
        obtain ⟨-, m9, m10, va, vc, ua, uc, jg⟩ := hJ
        obtain ⟨e9, ⟨l1, l2, l3⟩, -, e11⟩ := jg.h9 (hal 9 (by decide))
        obtain ⟨e10, ⟨k1, k2, k3⟩, hne, -, e12⟩ := jg.h10 (hal 10 (by decide))
        obtain rfl : v9 = .pointer (some ⟨m9, 0, none⟩) := e9
        obtain rfl : v10 = .pointer (some ⟨m10, 0, none⟩) := e10
        obtain rfl : v13 = .int .i64 c := jg.h13 (hal 13 (by decide))
        obtain ⟨-, hO, kh, kg⟩ := jg.h4 (hal 4 (by decide))
        have bh := (e11 (hal 11 (by decide))).2
        have bg := e12 (hal 12 (by decide))
        have kh := kh (hal 9 (by decide))
        have kg := kg (hal 10 (by decide))
        obtain ⟨hB, hC, xA, xF⟩ : _ ∧ _ ∧ _ ∧ _ := ⟨jg.hB, jg.hC, jg.x1, jg.x2⟩
        clear jg e11 e12 hal
        simp only [setAll, List.setIfInBounds_toArray, List.set_cons_zero, List.set_cons_succ, List.set_nil]
        go_wp2_with fail
        go_meet
        exact ⟨m9, m10, va, vc, ua, uc, rfl, rfl, rfl, l1, k1, bh.1, bg.1, ⟨_, hO⟩, hB, xA, xF⟩
    case rest =>
      clear xA xF hB hC
      obtain ⟨n6, n7, va, vc, ua, uc, rfl, rfl, rfl, hn6, hn7, x6, x7, ⟨base0, hO⟩, hB, xA, xF⟩ := hcut
      have hn64 := x6.1
      have hn74 := x7.1
      have hOd4 : ∀ k, (Value.slice va R.ds.length vc).ownBlock = some k → k < wc.heap.size := fun k h => (hO.1.lt k h).2
      have hOe4 : ∀ k, (Value.slice ua R.es.length uc).ownBlock = some k → k < wc.heap.size := fun k h => (hO.2.1.lt k h).2
      have yA := xA.2
      have zA := xA.1
      have zF := xF.1
      go_wp2_with fail
      refine (toBook_own _ _ _ _ _ _ _ _ _ _ _ _ ds es _ hld hle (HD.out _ hB) (HE.out _ hB)).mono ?_
      rintro e w5 ⟨g3, g4, rfl, hb, hDx, hEx, hg3, hg34, hg4, f3_, f4_⟩
      have hBl := bl_alloc (bl_refl w5) (.cells #[.int .i64 ad, .int .i64 ln, .int .i64 ow, .int .i64 lo, .int .i64 hi, .slice (some ⟨g3, 0, none⟩) dn dn, .int .i64 nw, .slice (some ⟨g4, 0, none⟩) en en] 26)
      have xO := Box.new w5 #[.int .i64 ad, .int .i64 ln, .int .i64 ow, .int .i64 lo, .int .i64 hi, .slice (some ⟨g3, 0, none⟩) dn dn, .int .i64 nw, .slice (some ⟨g4, 0, none⟩) en en] 26
      have r3 := (rowed_doors hDx (by omega) f3_).far (row := none) (far_of_bl hBl) (by simp)
      have r4 := (rowed_entries hEx hg4 f4_).far (row := none) (far_of_bl hBl) (by simp)
      clear f3_ f4_
      have hb := bl_trans hb hBl
      replace xA := xA.below hb
      replace xF := xF.below hb
      replace x6 := x6.below hb
      replace x7 := x7.below hb
      replace hO := hO.below hb
      replace hB := bl_trans hB hb
      replace hDx := hDx.below hBl
      replace hEx := hEx.below hBl
      clear hb hBl yA
      go_upto_region 7 with fail
      have hg4 : g4 < w5.heap.size := hg4
      have hw5 : w5.heap.size < (w5.alloc (.cells #[.int .i64 ad, .int .i64 ln, .int .i64 ow, .int .i64 lo, .int .i64 hi, .slice (some ⟨g3, 0, none⟩) dn dn, .int .i64 nw, .slice (some ⟨g4, 0, none⟩) en en] 26)).heap.size := by simp
      generalize w5.heap.size = nO at *
      generalize w5.alloc (.cells #[.int .i64 ad, .int .i64 ln, .int .i64 ow, .int .i64 lo, .int .i64 hi, .slice (some ⟨g3, 0, none⟩) dn dn, .int .i64 nw, .slice (some ⟨g4, 0, none⟩) en en] 26) = wv at *
      have hC := bl_refl wv
      have hC0 : wv.heap.size ≤ wv.heap.size := Nat.le_refl _
      have hw0 : w.heap.size ≤ wv.heap.size := hB.size
      have hlo : nO ≤ nO ∧ w.heap.size + 1 ≤ nO := ⟨Nat.le_refl _, by omega⟩
      go_cut [10, 11, 12] (fun s10 s11 s12 wd => ∃ (n10 n11 : Nat) (va2 : Option Addr) (vc2 : Nat) (ua2 : Option Addr) (uc2 : Nat), s10 = .pointer (some ⟨n10, 0, none⟩) ∧ s11 = .pointer (some ⟨n11, 0, none⟩) ∧ s12 = .int .i64 c ∧ wv.heap.size ≤ n10 ∧ wv.heap.size ≤ n11 ∧ Box wd n10 #[.int .i64 R.ad, .int .i64 R.ln, .int .i64 R.ow, .int .i64 R.lo, .int .i64 R.hi, .slice va2 R.ds.length vc2, .int .i64 R.nw, .slice ua2 R.es.length uc2] ∧ Box wd n11 #[.int .i64 F.k, .int .i64 F.a, .int .i64 F.ap, .int .i64 F.b, .int .i64 F.bp] ∧ OwnB wd wv.heap.size (.slice va2 R.ds.length vc2) R.ds (.slice ua2 R.es.length uc2) R.es ∧ (∀ k, (Value.slice va2 R.ds.length vc2).ownBlock = some k → k ≠ n10) ∧ (∀ k, (Value.slice ua2 R.es.length uc2).ownBlock = some k → k ≠ n10) ∧ (∀ k, (Value.slice va2 R.ds.length vc2).ownBlock = some k → k ≠ n11) ∧ (∀ k, (Value.slice ua2 R.es.length uc2).ownBlock = some k → k ≠ n11) ∧ Below wv.heap.size wv wd)
      case first =>
        clear x6 x7 hO r3 r4
        refine region_midV [36, 37, 38, 39, 35, 40, 41, 42, 10, 11, 100010, 100011, 12] (fun L x u => ((L 0 = true → x 0 = .agg #[.int .i64 ad, .int .i64 ln, .int .i64 ow, .int .i64 lo, .int .i64 hi, .slice (some ⟨g3, 0, none⟩) dn dn, .int .i64 nw, .slice (some ⟨g4, 0, none⟩) en en]) ∧ True ∧ (L 1 = true → x 1 = .agg #[.int .i64 k, .int .i64 a, .int .i64 ap, .int .i64 b, .int .i64 bp]) ∧ (L 2 = true → x 2 = .agg #[.int .i64 k, .int .i64 a, .int .i64 ap, .int .i64 b, .int .i64 bp])) ∧ ∃ m9 m10 va vc ua uc, JG w wv nO (w.heap.size + 1) nO #[.int .i64 ad, .int .i64 ln, .int .i64 ow, .int .i64 lo, .int .i64 hi, .slice (some ⟨g3, 0, none⟩) dn dn, .int .i64 nw, .slice (some ⟨g4, 0, none⟩) en en] #[.int .i64 k, .int .i64 a, .int .i64 ap, .int .i64 b, .int .i64 bp] R F c m9 m10 va vc ua uc (L 3) (L 4) (L 5) (L 6) (L 7) (L 8) (L 9) (L 10) (L 11) (L 12) (x 3) (x 4) (x 5) (x 6) (x 7) (x 8) (x 9) (x 12) u) (by kernel_rfl) (by kernel_rfl) (by decide) ?_ ?_ ?_
        · exact ⟨⟨(fun h => by cases h), trivial, (fun h => by cases h), fun h => by cases h⟩, 0, 0, none, 0, none, 0, bl_drew hB, bl_drew (bl_refl _), xO.below (bl_drew (bl_refl _)), xF.below (bl_drew (bl_refl _)), (fun h => by cases h), (fun h => by cases h), (fun h => by cases h), (fun h => by cases h), (fun h => by cases h), (fun h => by cases h), (fun h => by cases h), (fun h => by cases h), (fun h => by cases h), (fun h => by cases h)⟩
        · refine all_lt_succ (all_lt_succ (all_lt_succ (all_lt_succ (all_lt_succ (all_lt_succ (all_lt_succ (all_lt_succ (all_lt_succ (all_lt_succ (all_lt_succ (all_lt_succ (all_lt_succ (all_lt_zero _) ?_) ?_) ?_) ?_) ?_) ?_) ?_) ?_) ?_) ?_) ?_) ?_) ?_
          · refine stepOkV_at _ rfl ?_
            intro L vs w hv hli hup hJ K hK
            obtain ⟨v0, v1, v2, v3, v4, v5, v6, v7, v8, v9, v10, v11, v12, rfl⟩ := len13 hv
            obtain ⟨⟨p0, p1, p2, p3⟩, m9, m10, va, vc, ua, uc, jg⟩ := hJ
            have hbx := jg.x1.2
            refine mid_val (.agg #[.int .i64 ad, .int .i64 ln, .int .i64 ow, .int .i64 lo, .int .i64 hi, .slice (some ⟨g3, 0, none⟩) dn dn, .int .i64 nw, .slice (some ⟨g4, 0, none⟩) en en]) w (by kernel_rfl) ?_ (hK.out _ _ ⟨⟨fun _ => rfl, p1, p2, p3⟩, m9, m10, va, vc, ua, uc, jg⟩)
            simp only [setAll, List.setIfInBounds_toArray, List.set_cons_zero, List.set_cons_succ, List.set_nil]
            go_simp
          · refine stepOkV_at _ rfl ?_
            intro L vs w hv hli hup hJ K hK
            obtain ⟨v0, v1, v2, v3, v4, v5, v6, v7, v8, v9, v10, v11, v12, rfl⟩ := len13 hv
            obtain ⟨⟨p0, p1, p2, p3⟩, m9, m10, va, vc, ua, uc, jg⟩ := hJ
            have hbx := jg.x2.2
            refine mid_val (.agg #[.int .i64 k, .int .i64 a, .int .i64 ap, .int .i64 b, .int .i64 bp]) w (by kernel_rfl) ?_ (hK.out _ _ ⟨⟨p0, p1, fun _ => rfl, p3⟩, m9, m10, va, vc, ua, uc, jg⟩)
            simp only [setAll, List.setIfInBounds_toArray, List.set_cons_zero, List.set_cons_succ, List.set_nil]
            go_simp
          · refine stepOkV_at _ rfl ?_
            intro L vs w hv hli hup hJ K hK
            obtain ⟨v0, v1, v2, v3, v4, v5, v6, v7, v8, v9, v10, v11, v12, rfl⟩ := len13 hv
            obtain ⟨⟨p0, p1, p2, p3⟩, m9, m10, va, vc, ua, uc, jg⟩ := hJ
            obtain rfl : v1 = .agg #[.int .i64 k, .int .i64 a, .int .i64 ap, .int .i64 b, .int .i64 bp] := p2 (updV hup 1 (by kernel_rfl))
            refine mid_call 35 (by kernel_rfl) (toFlow_ret k a ap b bp w) (by kernel_rfl) ?_
            rintro e w' ⟨rfl, hb⟩
            exact ⟨_, rfl, hK.out _ _ ⟨⟨p0, p1, p2, fun _ => rfl⟩, m9, m10, va, vc, ua, uc, jg.below hb⟩⟩
          · refine stepOkV_at _ rfl ?_
            intro L vs w hv hli hup hJ K hK
            obtain ⟨v0, v1, v2, v3, v4, v5, v6, v7, v8, v9, v10, v11, v12, rfl⟩ := len13 hv
            obtain ⟨⟨p0, p1, p2, p3⟩, m9, m10, va, vc, ua, uc, jg⟩ := hJ
            obtain rfl : v0 = .agg #[.int .i64 ad, .int .i64 ln, .int .i64 ow, .int .i64 lo, .int .i64 hi, .slice (some ⟨g3, 0, none⟩) dn dn, .int .i64 nw, .slice (some ⟨g4, 0, none⟩) en en] := p0 (updV hup 0 (by kernel_rfl))
            have d1 := hDx.below jg.hC
            have d2 := hEx.below jg.hC
            obtain rfl : v2 = .agg #[.int .i64 k, .int .i64 a, .int .i64 ap, .int .i64 b, .int .i64 bp] := p3 (updV hup 2 (by kernel_rfl))
            refine mid_call 13 (by kernel_rfl) (HI.out _ (some ⟨g3, 0, none⟩) dn (some ⟨g4, 0, none⟩) en (hg.out.below jg.hB) d1 d2) (by kernel_rfl) ?_
            rintro e w' ⟨⟨pa, pc, ra, rc, rfl, hO⟩, hb⟩
            exact ⟨_, rfl, hK.out _ _ ⟨⟨p0, p1, p2, p3⟩, m9, m10, pa, pc, ra, rc, JG.call hli jg hb hO⟩⟩
          · refine stepOkV_at _ rfl ?_
            intro L vs w hv hli hup hJ K hK
            obtain ⟨v0, v1, v2, v3, v4, v5, v6, v7, v8, v9, v10, v11, v12, rfl⟩ := len13 hv
            obtain ⟨⟨p0, p1, p2, p3⟩, m9, m10, va, vc, ua, uc, jg⟩ := hJ
            have e4 := updV hup 3 (by kernel_rfl)
            obtain rfl : v3 = .tuple #[.agg #[.int .i64 R.ad, .int .i64 R.ln, .int .i64 R.ow, .int .i64 R.lo, .int .i64 R.hi, .slice va R.ds.length vc, .int .i64 R.nw, .slice ua R.es.length uc], .agg #[.int .i64 F.k, .int .i64 F.a, .int .i64 F.ap, .int .i64 F.b, .int .i64 F.bp], .int .i64 c] := (jg.h4 e4).1
            exact mid_val _ w (by kernel_rfl) (by kernel_rfl) (hK.out _ _ ⟨⟨p0, p1, p2, p3⟩, m9, m10, va, vc, ua, uc, jg.mv5 e4⟩)
          · refine stepOkV_at _ rfl ?_
            intro L vs w hv hli hup hJ K hK
            obtain ⟨v0, v1, v2, v3, v4, v5, v6, v7, v8, v9, v10, v11, v12, rfl⟩ := len13 hv
            obtain ⟨⟨p0, p1, p2, p3⟩, m9, m10, va, vc, ua, uc, jg⟩ := hJ
            obtain ⟨e4, e5⟩ := jg.h5 (updV hup 4 (by kernel_rfl))
            obtain rfl : v4 = .tuple #[.agg #[.int .i64 R.ad, .int .i64 R.ln, .int .i64 R.ow, .int .i64 R.lo, .int .i64 R.hi, .slice va R.ds.length vc, .int .i64 R.nw, .slice ua R.es.length uc], .agg #[.int .i64 F.k, .int .i64 F.a, .int .i64 F.ap, .int .i64 F.b, .int .i64 F.bp], .int .i64 c] := e5
            exact mid_val _ w (by kernel_rfl) (by kernel_rfl) (hK.out _ _ ⟨⟨p0, p1, p2, p3⟩, m9, m10, va, vc, ua, uc, jg.ex6 e4⟩)
          · refine stepOkV_at _ rfl ?_
            intro L vs w hv hli hup hJ K hK
            obtain ⟨v0, v1, v2, v3, v4, v5, v6, v7, v8, v9, v10, v11, v12, rfl⟩ := len13 hv
            obtain ⟨⟨p0, p1, p2, p3⟩, m9, m10, va, vc, ua, uc, jg⟩ := hJ
            obtain ⟨e4, e5⟩ := jg.h5 (updV hup 4 (by kernel_rfl))
            obtain rfl : v4 = .tuple #[.agg #[.int .i64 R.ad, .int .i64 R.ln, .int .i64 R.ow, .int .i64 R.lo, .int .i64 R.hi, .slice va R.ds.length vc, .int .i64 R.nw, .slice ua R.es.length uc], .agg #[.int .i64 F.k, .int .i64 F.a, .int .i64 F.ap, .int .i64 F.b, .int .i64 F.bp], .int .i64 c] := e5
            exact mid_val _ w (by kernel_rfl) (by kernel_rfl) (hK.out _ _ ⟨⟨p0, p1, p2, p3⟩, m9, m10, va, vc, ua, uc, jg.ex7⟩)
          · refine stepOkV_at _ rfl ?_
            intro L vs w hv hli hup hJ K hK
            obtain ⟨v0, v1, v2, v3, v4, v5, v6, v7, v8, v9, v10, v11, v12, rfl⟩ := len13 hv
            obtain ⟨⟨p0, p1, p2, p3⟩, m9, m10, va, vc, ua, uc, jg⟩ := hJ
            obtain ⟨e4, e5⟩ := jg.h5 (updV hup 4 (by kernel_rfl))
            obtain rfl : v4 = .tuple #[.agg #[.int .i64 R.ad, .int .i64 R.ln, .int .i64 R.ow, .int .i64 R.lo, .int .i64 R.hi, .slice va R.ds.length vc, .int .i64 R.nw, .slice ua R.es.length uc], .agg #[.int .i64 F.k, .int .i64 F.a, .int .i64 F.ap, .int .i64 F.b, .int .i64 F.bp], .int .i64 c] := e5
            exact mid_val _ w (by kernel_rfl) (by kernel_rfl) (hK.out _ _ ⟨⟨p0, p1, p2, p3⟩, m9, m10, va, vc, ua, uc, jg.ex8⟩)
          · refine stepOkV_at _ rfl ?_
            intro L vs w hv hli hup hJ K hK
            obtain ⟨v0, v1, v2, v3, v4, v5, v6, v7, v8, v9, v10, v11, v12, rfl⟩ := len13 hv
            obtain ⟨⟨p0, p1, p2, p3⟩, m9, m10, va, vc, ua, uc, jg⟩ := hJ
            have hb : Below w.heap.size w (w.alloc (.cells #[.int .i64 0, .int .i64 0, .int .i64 0, .int .i64 0, .int .i64 0, .slice none 0 0, .int .i64 0, .slice none 0 0] 26)) := bl_alloc (bl_refl _) _
            exact mid_val (.pointer (some ⟨w.heap.size, 0, none⟩)) (w.alloc (.cells #[.int .i64 0, .int .i64 0, .int .i64 0, .int .i64 0, .int .i64 0, .slice none 0 0, .int .i64 0, .slice none 0 0] 26)) (by kernel_rfl) (by kernel_rfl) (hK.out _ _ ⟨⟨p0, p1, p2, p3⟩, w.heap.size, m10, va, vc, ua, uc, JG.al9 (Or.inl rfl) hli jg⟩)
          · refine stepOkV_at _ rfl ?_
            intro L vs w hv hli hup hJ K hK
            obtain ⟨v0, v1, v2, v3, v4, v5, v6, v7, v8, v9, v10, v11, v12, rfl⟩ := len13 hv
            obtain ⟨⟨p0, p1, p2, p3⟩, m9, m10, va, vc, ua, uc, jg⟩ := hJ
            have hb : Below w.heap.size w (w.alloc (.cells #[.int .i64 0, .int .i64 0, .int .i64 0, .int .i64 0, .int .i64 0] 32)) := bl_alloc (bl_refl _) _
            exact mid_val (.pointer (some ⟨w.heap.size, 0, none⟩)) (w.alloc (.cells #[.int .i64 0, .int .i64 0, .int .i64 0, .int .i64 0, .int .i64 0] 32)) (by kernel_rfl) (by kernel_rfl) (hK.out _ _ ⟨⟨p0, p1, p2, p3⟩, m9, w.heap.size, va, vc, ua, uc, JG.al10 (Or.inl rfl) hli jg⟩)
          · refine stepOkV_at _ rfl ?_
            intro L vs w hv hli hup hJ K hK
            obtain ⟨v0, v1, v2, v3, v4, v5, v6, v7, v8, v9, v10, v11, v12, rfl⟩ := len13 hv
            obtain ⟨⟨p0, p1, p2, p3⟩, m9, m10, va, vc, ua, uc, jg⟩ := hJ
            have e9 := updV hup 8 (by kernel_rfl)
            obtain ⟨e4, e6⟩ := jg.h6 (updV hup 5 (by kernel_rfl))
            obtain rfl : v5 = .agg #[.int .i64 R.ad, .int .i64 R.ln, .int .i64 R.ow, .int .i64 R.lo, .int .i64 R.hi, .slice va R.ds.length vc, .int .i64 R.nw, .slice ua R.es.length uc] := e6
            obtain ⟨e10, -, hz, -⟩ := jg.h9 e9
            obtain rfl : v8 = .pointer (some ⟨m9, 0, none⟩) := e10
            obtain ⟨⟨q1, q2⟩, q3⟩ := id (hz hli)
            refine mid_skip (World.setCell (World.setCell (World.setCell (World.setCell (World.setCell (World.setCell (World.setCell (World.setCell w ⟨m9, 0, none⟩ (.int .i64 R.ad)) ⟨m9, 1, none⟩ (.int .i64 R.ln)) ⟨m9, 2, none⟩ (.int .i64 R.ow)) ⟨m9, 3, none⟩ (.int .i64 R.lo)) ⟨m9, 4, none⟩ (.int .i64 R.hi)) ⟨m9, 5, none⟩ (.slice va R.ds.length vc)) ⟨m9, 6, none⟩ (.int .i64 R.nw)) ⟨m9, 7, none⟩ (.slice ua R.es.length uc)) (by kernel_rfl) ?_ (hK.out undef _ ⟨⟨p0, p1, p2, p3⟩, m9, m10, va, vc, ua, uc, JG.st11 hw0 hlo e4 e9 hli jg⟩)
            simp only [setAll, List.setIfInBounds_toArray, List.set_cons_zero, List.set_cons_succ, List.set_nil]
            go_simp
          · refine stepOkV_at _ rfl ?_
            intro L vs w hv hli hup hJ K hK
            obtain ⟨v0, v1, v2, v3, v4, v5, v6, v7, v8, v9, v10, v11, v12, rfl⟩ := len13 hv
            obtain ⟨⟨p0, p1, p2, p3⟩, m9, m10, va, vc, ua, uc, jg⟩ := hJ
            have e9 := updV hup 8 (by kernel_rfl)
            have e10 := updV hup 9 (by kernel_rfl)
            have e4 := updV hup 3 (by kernel_rfl)
            obtain rfl : v6 = .agg #[.int .i64 F.k, .int .i64 F.a, .int .i64 F.ap, .int .i64 F.b, .int .i64 F.bp] := jg.h7 (updV hup 6 (by kernel_rfl))
            obtain ⟨e11, -, -, hz, -⟩ := jg.h10 e10
            obtain rfl : v9 = .pointer (some ⟨m10, 0, none⟩) := e11
            obtain ⟨⟨q1, q2⟩, q3⟩ := id (hz hli)
            refine mid_skip (World.setCell (World.setCell (World.setCell (World.setCell (World.setCell w ⟨m10, 0, none⟩ (.int .i64 F.k)) ⟨m10, 1, none⟩ (.int .i64 F.a)) ⟨m10, 2, none⟩ (.int .i64 F.ap)) ⟨m10, 3, none⟩ (.int .i64 F.b)) ⟨m10, 4, none⟩ (.int .i64 F.bp)) (by kernel_rfl) ?_ (hK.out undef _ ⟨⟨p0, p1, p2, p3⟩, m9, m10, va, vc, ua, uc, JG.st12 hw0 hlo e9 e10 hli jg⟩)
            simp only [setAll, List.setIfInBounds_toArray, List.set_cons_zero, List.set_cons_succ, List.set_nil]
            go_simp
          · refine stepOkV_at _ rfl ?_
            intro L vs w hv hli hup hJ K hK
            obtain ⟨v0, v1, v2, v3, v4, v5, v6, v7, v8, v9, v10, v11, v12, rfl⟩ := len13 hv
            obtain ⟨⟨p0, p1, p2, p3⟩, m9, m10, va, vc, ua, uc, jg⟩ := hJ
            obtain rfl : v7 = .int .i64 c := jg.h8 (updV hup 7 (by kernel_rfl))
            exact mid_val _ w (by kernel_rfl) (by kernel_rfl) (hK.out _ _ ⟨⟨p0, p1, p2, p3⟩, m9, m10, va, vc, ua, uc, jg.as13⟩)
        · intro L vs w hal hv hJ
          obtain ⟨v0, v1, v2, v3, v4, v5, v6, v7, v8, v9, v10, v11, v12, rfl⟩ := len13 hv
          obtain ⟨-, m9, m10, va, vc, ua, uc, jg⟩ := hJ
          obtain ⟨e9, ⟨l1, l2, l3⟩, -, e11⟩ := jg.h9 (hal 8 (by decide))
          obtain ⟨e10, ⟨k1, k2, k3⟩, hne, -, e12⟩ := jg.h10 (hal 9 (by decide))
          obtain rfl : v8 = .pointer (some ⟨m9, 0, none⟩) := e9
          obtain rfl : v9 = .pointer (some ⟨m10, 0, none⟩) := e10
          obtain rfl : v12 = .int .i64 c := jg.h13 (hal 12 (by decide))
          obtain ⟨-, hO, kh, kg⟩ := jg.h4 (hal 3 (by decide))
          have bh := (e11 (hal 10 (by decide))).2
          have bg := e12 (hal 11 (by decide))
          have kh := kh (hal 8 (by decide))
          have kg := kg (hal 9 (by decide))
          obtain ⟨hB, hC, xA, xF⟩ : _ ∧ _ ∧ _ ∧ _ := ⟨jg.hB, jg.hC, jg.x1, jg.x2⟩
          clear jg e11 e12 hal
          simp only [setAll, List.setIfInBounds_toArray, List.set_cons_zero, List.set_cons_succ, List.set_nil]
          go_wp2_with fail
          go_meet
          exact ⟨m9, m10, va, vc, ua, uc, rfl, rfl, rfl, l2, k2, bh.1, bg.1, hO, kh.1, kh.2, kg.1, kg.2, hC⟩
      case rest =>
        clear hC hC0
        obtain ⟨n10, n11, va2, vc2, ua2, uc2, rfl, rfl, rfl, hn10, hn11, x10, x11, hP, khd, khe, kgd, kge, hC⟩ := hcut
        replace hB := bl_trans hB hC
        replace xA := xA.below hC
        replace xF := xF.below hC
        replace x6 := x6.below hC
        replace x7 := x7.below hC
        replace xO := xO.below hC
        replace hO := hO.below hC
        replace hDx := hDx.below hC
        replace hEx := hEx.below hC
        replace r3 := r3.far (row := none) (far_of_bl hC) (by simp)
        replace r4 := r4.far (row := none) (far_of_bl hC) (by simp)
        clear hC
        have y6 := x6.2
        have y10 := x10.2
        go_wp2_with fail
        refine (eqBook_same R.ad R.ln R.ow R.lo R.hi R.nw va2 va R.ds.length vc2 vc ua2 ua R.es.length uc2 uc R.ds R.es _ (by omega) (by omega) (doorsAt_own hP.1) (entriesAt_own hP.2.1) (doorsAt_own hO.1) (entriesAt_own hO.2.1)).mono ?_
        rintro e w8 ⟨rfl, hb⟩
        replace xA := xA.below hb
        replace xF := xF.below hb
        replace x6 := x6.below hb
        replace x7 := x7.below hb
        replace x10 := x10.below hb
        replace x11 := x11.below hb
        replace hO := hO.below hb
        replace hP := hP.below hb
        replace r3 := r3.far (row := none) (far_of_bl hb) (by simp)
        replace r4 := r4.far (row := none) (far_of_bl hb) (by simp)
        replace xO := xO.below hb
        replace hDx := hDx.below hb
        replace hEx := hEx.below hb
        replace hB := bl_trans hB hb
        clear hb y6 y10
        have y7 := x7.2
        have y11 := x11.2
        go_wp2_with fail
        refine (eqFlow_same F.k F.a F.ap F.b F.bp _).mono ?_
        rintro e w9 ⟨rfl, hb⟩
        replace xA := xA.below hb
        replace xF := xF.below hb
        replace x6 := x6.below hb
        replace x7 := x7.below hb
        replace x10 := x10.below hb
        replace x11 := x11.below hb
        replace hO := hO.below hb
        replace hP := hP.below hb
        replace r3 := r3.far (row := none) (far_of_bl hb) (by simp)
        replace r4 := r4.far (row := none) (far_of_bl hb) (by simp)
        replace xO := xO.below hb
        replace hDx := hDx.below hb
        replace hEx := hEx.below hb
        replace hB := bl_trans hB hb
        clear hb y7 y11
        go_wp2_with fail
        refine wp_region_held_drew (S := (fun w' => Box w' nO #[.int .i64 ad, .int .i64 ln, .int .i64 ow, .int .i64 lo, .int .i64 hi, .slice (some ⟨g3, 0, none⟩) dn dn, .int .i64 nw, .slice (some ⟨g4, 0, none⟩) en en] ∧ Box w' w.heap.size #[.int .i64 ad, .int .i64 ln, .int .i64 ow, .int .i64 lo, .int .i64 hi, .slice da dn dc, .int .i64 nw, .slice ea en ec])) (by kernel_rfl) ?_ (fun hHeld => ?_)
        · exact ⟨xO.below (bl_drew (bl_refl _)), xA.below (bl_drew (bl_refl _))⟩
        have hq := bl_drew (bl_refl w9)
        replace hB := bl_trans hB hq
        replace xA := xA.below hq
        replace xF := xF.below hq
        replace x6 := x6.below hq
        replace x7 := x7.below hq
        replace x10 := x10.below hq
        replace x11 := x11.below hq
        replace hO := hO.below hq
        replace hP := hP.below hq
        replace r3 := r3.far (row := none) (far_of_bl hq) (by simp)
        replace r4 := r4.far (row := none) (far_of_bl hq) (by simp)
        replace xO := xO.below hq
        replace hDx := hDx.below hq
        replace hEx := hEx.below hq
        clear hq
        generalize w9.drew = W0 at xA xF x6 x7 x10 x11 hO hP r3 r4 xO hDx hEx hB hHeld ⊢
        refine takeL 0 58 ?_ ?_ hHeld ?_
        rotate_left
        · (intro w hSw; (try dsimp only at hSw); simp only [Box] at hSw; go_simp; try with_reducible rfl)
        simp only [Act.put, puA, puB, puC]
        refine takeL 1 59 ?_ ?_ hHeld ?_
        rotate_left
        · (intro w hSw; (try dsimp only at hSw); simp only [Box] at hSw; go_simp; try with_reducible rfl)
        simp only [Act.put, puA, puB, puC]
        refine wpAnyH_ready (rs := [2]) (by kernel_rfl) (by simp) (AllReadyH.cons rfl (fun K hK => ?_) (AllReadyH.nil))
        refine step_callg 60 34 rfl (by kernel_rfl) (toBook_ret ad ln ow lo hi nw da dn dc ea en ec ds es _ hld hle (HD.out _ hB) (HE.out _ hB)) (by kernel_rfl) ?_
        rintro e W ⟨g5, g6, rfl, hb, hDy, hEy⟩
        refine ⟨_, rfl, ?_⟩
        simp only [Act.put, puA, puB, puC]
        replace xA := xA.below hb
        replace xF := xF.below hb
        replace x6 := x6.below hb
        replace x7 := x7.below hb
        replace x10 := x10.below hb
        replace x11 := x11.below hb
        replace hO := hO.below hb
        replace hP := hP.below hb
        replace r3 := r3.far (row := none) (far_of_bl hb) (by simp)
        replace r4 := r4.far (row := none) (far_of_bl hb) (by simp)
        replace xO := xO.below hb
        replace hDx := hDx.below hb
        replace hEx := hEx.below hb
        replace hB := bl_trans hB hb
        clear hb
        refine hK.out _ _ ?_ (fun hHeld1 => ?_)
        · exact ⟨xO, xA⟩
        clear hK K hHeld
        have hHeld := hHeld1
        clear hHeld1
        refine wpAnyH_ready (rs := [3]) (by kernel_rfl) (by simp) (AllReadyH.cons rfl (fun K hK => ?_) (AllReadyH.nil))
        refine step_callg 61 36 rfl (by kernel_rfl) (eqBook_same ad ln ow lo hi nw _ _ dn dn dn _ _ en en en ds es _ hld hle hDx hEx hDy hEy) (by kernel_rfl) ?_
        rintro e W ⟨rfl, hb⟩
        refine ⟨_, rfl, ?_⟩
        simp only [Act.put, puA, puB, puC]
        replace xA := xA.below hb
        replace xF := xF.below hb
        replace x6 := x6.below hb
        replace x7 := x7.below hb
        replace x10 := x10.below hb
        replace x11 := x11.below hb
        replace hO := hO.below hb
        replace hP := hP.below hb
        replace r3 := r3.far (row := none) (far_of_bl hb) (by simp)
        replace r4 := r4.far (row := none) (far_of_bl hb) (by simp)
        replace xO := xO.below hb
        replace hDx := hDx.below hb
        replace hEx := hEx.below hb
        replace hB := bl_trans hB hb
        clear hb
        refine hK.out _ _ ?_ (fun hHeld1 => ?_)
        · exact ⟨xO, xA⟩
        clear hK K hHeld
        have hHeld := hHeld1
        clear hHeld1
        have xO2 := xO
        refine takeL 4 62 ?_ ?_ hHeld ?_
        rotate_left
        · (intro w hSw; (try dsimp only at hSw); simp only [Box] at hSw; go_simp; try with_reducible rfl)
        simp only [Act.put, puA, puB, puC]
        refine wpAnyH_done (by kernel_rfl) ?_ _
        clear hHeld xO hDx hEx
        have yO := xO2.2
        go_wp2_with fail
        refine (markBook_rowed ad ln ow lo hi nw g3 dn dn g4 en en _ r3 r4 (by omega) (by omega) (by omega)).mono ?_
        rintro e v1 ⟨rfl, hF⟩
        clear r3 r4 yO xO2
        replace xA := hF.box xA (by simp only [ne_eq, Option.some.injEq]; omega) (by simp only [ne_eq, Option.some.injEq]; omega)
        replace xF := hF.box xF (by simp only [ne_eq, Option.some.injEq]; omega) (by simp only [ne_eq, Option.some.injEq]; omega)
        replace x6 := hF.box x6 (by simp only [ne_eq, Option.some.injEq]; omega) (by simp only [ne_eq, Option.some.injEq]; omega)
        replace x7 := hF.box x7 (by simp only [ne_eq, Option.some.injEq]; omega) (by simp only [ne_eq, Option.some.injEq]; omega)
        replace x10 := hF.box x10 (by simp only [ne_eq, Option.some.injEq]; omega) (by simp only [ne_eq, Option.some.injEq]; omega)
        replace x11 := hF.box x11 (by simp only [ne_eq, Option.some.injEq]; omega) (by simp only [ne_eq, Option.some.injEq]; omega)
        replace hO := hO.far2 hF (fun k e => (by have := hOd4 k e; simp only [ne_eq, Option.some.injEq]; omega)) (fun k e => (by have := hOe4 k e; simp only [ne_eq, Option.some.injEq]; omega))
        replace hP := hP.far2 hF (fun k e => (by have := (hP.1.lt k e).1; simp only [ne_eq, Option.some.injEq]; omega)) (fun k e => (by have := (hP.2.1.lt k e).1; simp only [ne_eq, Option.some.injEq]; omega))
        replace hB := hF.bl hB (fun k e => (by simp only [Option.some.injEq] at e; omega)) (fun k e => (by simp only [Option.some.injEq] at e; omega))
        clear hF
        have k0 : ¬ ((1 : Int) + (dn * 4 : Nat) + (en * 7 : Nat) < 0) := by omega
        have y6 := x6.2
        have y10 := x10.2
        go_wp2_with fail
        refine (eqBook_same R.ad R.ln R.ow R.lo R.hi R.nw va2 va R.ds.length vc2 vc ua2 ua R.es.length uc2 uc R.ds R.es _ (by omega) (by omega) (doorsAt_own hP.1) (entriesAt_own hP.2.1) (doorsAt_own hO.1) (entriesAt_own hO.2.1)).mono ?_
        rintro e v2 ⟨rfl, hb⟩
        replace xA := xA.below hb
        replace xF := xF.below hb
        replace x6 := x6.below hb
        replace x7 := x7.below hb
        replace x10 := x10.below hb
        replace x11 := x11.below hb
        replace hO := hO.below hb
        replace hP := hP.below hb
        replace hB := bl_trans hB hb
        clear hb y6 y10 k0
        have y7 := x7.2
        have y11 := x11.2
        go_wp2_with fail
        refine (eqFlow_same F.k F.a F.ap F.b F.bp _).mono ?_
        rintro e v3 ⟨rfl, hb⟩
        replace xA := xA.below hb
        replace xF := xF.below hb
        replace x6 := x6.below hb
        replace x7 := x7.below hb
        replace x10 := x10.below hb
        replace x11 := x11.below hb
        replace hO := hO.below hb
        replace hP := hP.below hb
        replace hB := bl_trans hB hb
        clear hb y7 y11
        have y10 := x10.2
        go_wp2_with fail
        refine (markBook_ret R.ad R.ln R.ow R.lo R.hi R.nw va2 R.ds.length vc2 ua2 R.es.length uc2 _ _ _ _ hP.1 hP.2.1 hP.2.2 (by omega) (by omega)).mono ?_
        rintro e v4 ⟨rfl, hF, hM, hN⟩
        replace xA := hF.box xA (fun e => (by have := (hP.1.lt _ e).1; omega)) (fun e => (by have := (hP.2.1.lt _ e).1; omega))
        replace xF := hF.box xF (fun e => (by have := (hP.1.lt _ e).1; omega)) (fun e => (by have := (hP.2.1.lt _ e).1; omega))
        replace x6 := hF.box x6 (fun e => (by have := (hP.1.lt _ e).1; omega)) (fun e => (by have := (hP.2.1.lt _ e).1; omega))
        replace x7 := hF.box x7 (fun e => (by have := (hP.1.lt _ e).1; omega)) (fun e => (by have := (hP.2.1.lt _ e).1; omega))
        replace x10 := hF.box x10 (fun e => (by have := khd _ e; omega)) (fun e => (by have := khe _ e; omega))
        replace x11 := hF.box x11 (fun e => (by have := kgd _ e; omega)) (fun e => (by have := kge _ e; omega))
        replace hO := hO.far2 hF (fun k e => ⟨fun e2 => (by have := hOd4 k e; have := (hP.1.lt k e2).1; omega), fun e2 => (by have := hOd4 k e; have := (hP.2.1.lt k e2).1; omega)⟩) (fun k e => ⟨fun e2 => (by have := hOe4 k e; have := (hP.1.lt k e2).1; omega), fun e2 => (by have := hOe4 k e; have := (hP.2.1.lt k e2).1; omega)⟩)
        replace hB := hF.bl hB (fun k e => (by have := (hP.1.lt k e).1; omega)) (fun k e => (by have := (hP.2.1.lt k e).1; omega))
        clear hF hP y10
        have y10 := x10.2
        go_wp2_with fail
        refine (heldBook_ret R.ad R.ln R.ow R.lo R.hi R.nw va2 R.ds.length vc2 ua2 R.es.length uc2 _ hM hN (by omega) (by omega)).mono ?_
        rintro e v5 ⟨rfl, hb⟩
        replace xA := xA.below hb
        replace xF := xF.below hb
        replace x6 := x6.below hb
        replace x7 := x7.below hb
        replace x10 := x10.below hb
        replace x11 := x11.below hb
        replace hO := hO.below hb
        replace hM := hM.far (row := none) (far_of_bl hb) (fun g _ h => by cases h)
        replace hN := hN.far (row := none) (far_of_bl hb) (fun g _ h => by cases h)
        replace hB := bl_trans hB hb
        clear hb y10
        have k0 : ¬ ((1 : Int) + (R.ds.length * 4 : Nat) + (R.es.length * 7 : Nat) < 0) := by omega
        go_upto_region 24 with fail
        generalize v5 = wv at *
        have hC := bl_refl wv
        have hw0 : w.heap.size ≤ wv.heap.size := hB.size
        have hlo : w.heap.size ≤ w.heap.size + 1 ∧ w.heap.size + 1 ≤ w.heap.size + 1 := ⟨Nat.le_succ _, Nat.le_refl _⟩
        go_cut [16, 17, 18] (fun s16 s17 s18 wc => ∃ (n16 n17 : Nat) (va3 : Option Addr) (vc3 : Nat) (ua3 : Option Addr) (uc3 : Nat), s16 = .pointer (some ⟨n16, 0, none⟩) ∧ s17 = .pointer (some ⟨n17, 0, none⟩) ∧ s18 = .int .i64 c ∧ Box wc n16 #[.int .i64 R.ad, .int .i64 R.ln, .int .i64 R.ow, .int .i64 R.lo, .int .i64 R.hi, .slice va3 R.ds.length vc3, .int .i64 R.nw, .slice ua3 R.es.length uc3] ∧ Box wc n17 #[.int .i64 F.k, .int .i64 F.a, .int .i64 F.ap, .int .i64 F.b, .int .i64 F.bp] ∧ (∃ base, OwnB wc base (.slice va3 R.ds.length vc3) R.ds (.slice ua3 R.es.length uc3) R.es) ∧ Below wv.heap.size wv wc)
        case first =>
          clear x6 x7 x10 x11 hO hM hN
          refine region_midV [97, 98, 99, 100, 101, 96, 102, 103, 104, 16, 17, 100011, 100012, 18] (fun L x u => ((L 0 = true → x 0 = .agg #[.int .i64 ad, .int .i64 ln, .int .i64 ow, .int .i64 lo, .int .i64 hi, .slice da dn dc, .int .i64 nw, .slice ea en ec]) ∧ (L 1 = true → L 4 = false → ∃ g h, x 1 = .agg #[.int .i64 ad, .int .i64 ln, .int .i64 ow, .int .i64 lo, .int .i64 hi, .slice (some ⟨g, 0, none⟩) dn dn, .int .i64 nw, .slice (some ⟨h, 0, none⟩) en en] ∧ DoorsAt u (some ⟨g, 0, none⟩) dn ds ∧ EntriesAt u (some ⟨h, 0, none⟩) en es) ∧ (L 2 = true → x 2 = .agg #[.int .i64 k, .int .i64 a, .int .i64 ap, .int .i64 b, .int .i64 bp]) ∧ (L 3 = true → x 3 = .agg #[.int .i64 k, .int .i64 a, .int .i64 ap, .int .i64 b, .int .i64 bp])) ∧ ∃ m9 m10 va vc ua uc, JG w wv w.heap.size (w.heap.size + 1) (w.heap.size + 1) #[.int .i64 ad, .int .i64 ln, .int .i64 ow, .int .i64 lo, .int .i64 hi, .slice da dn dc, .int .i64 nw, .slice ea en ec] #[.int .i64 k, .int .i64 a, .int .i64 ap, .int .i64 b, .int .i64 bp] R F c m9 m10 va vc ua uc (L 4) (L 5) (L 6) (L 7) (L 8) (L 9) (L 10) (L 11) (L 12) (L 13) (x 4) (x 5) (x 6) (x 7) (x 8) (x 9) (x 10) (x 13) u) (by kernel_rfl) (by kernel_rfl) (by decide) ?_ ?_ ?_
          · exact ⟨⟨(fun h => by cases h), (fun h => by cases h), (fun h => by cases h), fun h => by cases h⟩, 0, 0, none, 0, none, 0, bl_drew hB, bl_drew (bl_refl _), xA.below (bl_drew (bl_refl _)), xF.below (bl_drew (bl_refl _)), (fun h => by cases h), (fun h => by cases h), (fun h => by cases h), (fun h => by cases h), (fun h => by cases h), (fun h => by cases h), (fun h => by cases h), (fun h => by cases h), (fun h => by cases h), (fun h => by cases h)⟩
          · refine all_lt_succ (all_lt_succ (all_lt_succ (all_lt_succ (all_lt_succ (all_lt_succ (all_lt_succ (all_lt_succ (all_lt_succ (all_lt_succ (all_lt_succ (all_lt_succ (all_lt_succ (all_lt_succ (all_lt_zero _) ?_) ?_) ?_) ?_) ?_) ?_) ?_) ?_) ?_) ?_) ?_) ?_) ?_) ?_
            · refine stepOkV_at _ rfl ?_
              intro L vs w hv hli hup hJ K hK
              obtain ⟨v0, v1, v2, v3, v4, v5, v6, v7, v8, v9, v10, v11, v12, v13, rfl⟩ := len14 hv
              obtain ⟨⟨p0, p1, p2, p3⟩, m9, m10, va, vc, ua, uc, jg⟩ := hJ
              have hbx := jg.x1.2
              refine mid_val (.agg #[.int .i64 ad, .int .i64 ln, .int .i64 ow, .int .i64 lo, .int .i64 hi, .slice da dn dc, .int .i64 nw, .slice ea en ec]) w (by kernel_rfl) ?_ (hK.out _ _ ⟨⟨fun _ => rfl, p1, p2, p3⟩, m9, m10, va, vc, ua, uc, jg⟩)
              simp only [setAll, List.setIfInBounds_toArray, List.set_cons_zero, List.set_cons_succ, List.set_nil]
              go_simp
            · refine stepOkV_at _ rfl ?_
              intro L vs w hv hli hup hJ K hK
              obtain ⟨v0, v1, v2, v3, v4, v5, v6, v7, v8, v9, v10, v11, v12, v13, rfl⟩ := len14 hv
              obtain ⟨⟨p0, p1, p2, p3⟩, m9, m10, va, vc, ua, uc, jg⟩ := hJ
              obtain rfl : v0 = .agg #[.int .i64 ad, .int .i64 ln, .int .i64 ow, .int .i64 lo, .int .i64 hi, .slice da dn dc, .int .i64 nw, .slice ea en ec] := p0 (updV hup 0 (by kernel_rfl))
              refine mid_call 34 (by kernel_rfl) (toBook_ret ad ln ow lo hi nw da dn dc ea en ec ds es w hld hle (HD.out _ jg.hB) (HE.out _ jg.hB)) (by kernel_rfl) ?_
              rintro e w' ⟨g, h, rfl, hb, hDy, hEy⟩
              exact ⟨_, rfl, hK.out _ _ ⟨⟨p0, (fun _ _ => ⟨g, h, rfl, hDy, hEy⟩), p2, p3⟩, m9, m10, va, vc, ua, uc, jg.below hb⟩⟩
            · refine stepOkV_at _ rfl ?_
              intro L vs w hv hli hup hJ K hK
              obtain ⟨v0, v1, v2, v3, v4, v5, v6, v7, v8, v9, v10, v11, v12, v13, rfl⟩ := len14 hv
              obtain ⟨⟨p0, p1, p2, p3⟩, m9, m10, va, vc, ua, uc, jg⟩ := hJ
              have hbx := jg.x2.2
              refine mid_val (.agg #[.int .i64 k, .int .i64 a, .int .i64 ap, .int .i64 b, .int .i64 bp]) w (by kernel_rfl) ?_ (hK.out _ _ ⟨⟨p0, p1, fun _ => rfl, p3⟩, m9, m10, va, vc, ua, uc, jg⟩)
              simp only [setAll, List.setIfInBounds_toArray, List.set_cons_zero, List.set_cons_succ, List.set_nil]
              go_simp
            · refine stepOkV_at _ rfl ?_
              intro L vs w hv hli hup hJ K hK
              obtain ⟨v0, v1, v2, v3, v4, v5, v6, v7, v8, v9, v10, v11, v12, v13, rfl⟩ := len14 hv
              obtain ⟨⟨p0, p1, p2, p3⟩, m9, m10, va, vc, ua, uc, jg⟩ := hJ
              obtain rfl : v2 = .agg #[.int .i64 k, .int .i64 a, .int .i64 ap, .int .i64 b, .int .i64 bp] := p2 (updV hup 2 (by kernel_rfl))
              refine mid_call 35 (by kernel_rfl) (toFlow_ret k a ap b bp w) (by kernel_rfl) ?_
              rintro e w' ⟨rfl, hb⟩
              exact ⟨_, rfl, hK.out _ _ ⟨⟨p0, (fun a b => by obtain ⟨g, h, e, d1, d2⟩ := p1 a b; exact ⟨g, h, e, d1.below hb, d2.below hb⟩), p2, fun _ => rfl⟩, m9, m10, va, vc, ua, uc, jg.below hb⟩⟩
            · refine stepOkV_at _ rfl ?_
              intro L vs w hv hli hup hJ K hK
              obtain ⟨v0, v1, v2, v3, v4, v5, v6, v7, v8, v9, v10, v11, v12, v13, rfl⟩ := len14 hv
              obtain ⟨⟨p0, p1, p2, p3⟩, m9, m10, va, vc, ua, uc, jg⟩ := hJ
              obtain ⟨g, h, e1, d1, d2⟩ := p1 (updV hup 1 (by kernel_rfl)) hli
              obtain rfl : v1 = .agg #[.int .i64 ad, .int .i64 ln, .int .i64 ow, .int .i64 lo, .int .i64 hi, .slice (some ⟨g, 0, none⟩) dn dn, .int .i64 nw, .slice (some ⟨h, 0, none⟩) en en] := e1
              obtain rfl : v3 = .agg #[.int .i64 k, .int .i64 a, .int .i64 ap, .int .i64 b, .int .i64 bp] := p3 (updV hup 3 (by kernel_rfl))
              refine mid_call 13 (by kernel_rfl) (HI.out _ (some ⟨g, 0, none⟩) dn (some ⟨h, 0, none⟩) en (hg.out.below jg.hB) d1 d2) (by kernel_rfl) ?_
              rintro e w' ⟨⟨pa, pc, ra, rc, rfl, hO⟩, hb⟩
              exact ⟨_, rfl, hK.out _ _ ⟨⟨p0, (fun _ x => by simp [upd1] at x), p2, p3⟩, m9, m10, pa, pc, ra, rc, JG.call hli jg hb hO⟩⟩
            · refine stepOkV_at _ rfl ?_
              intro L vs w hv hli hup hJ K hK
              obtain ⟨v0, v1, v2, v3, v4, v5, v6, v7, v8, v9, v10, v11, v12, v13, rfl⟩ := len14 hv
              obtain ⟨⟨p0, p1, p2, p3⟩, m9, m10, va, vc, ua, uc, jg⟩ := hJ
              have e4 := updV hup 4 (by kernel_rfl)
              obtain rfl : v4 = .tuple #[.agg #[.int .i64 R.ad, .int .i64 R.ln, .int .i64 R.ow, .int .i64 R.lo, .int .i64 R.hi, .slice va R.ds.length vc, .int .i64 R.nw, .slice ua R.es.length uc], .agg #[.int .i64 F.k, .int .i64 F.a, .int .i64 F.ap, .int .i64 F.b, .int .i64 F.bp], .int .i64 c] := (jg.h4 e4).1
              exact mid_val _ w (by kernel_rfl) (by kernel_rfl) (hK.out _ _ ⟨⟨p0, p1, p2, p3⟩, m9, m10, va, vc, ua, uc, jg.mv5 e4⟩)
            · refine stepOkV_at _ rfl ?_
              intro L vs w hv hli hup hJ K hK
              obtain ⟨v0, v1, v2, v3, v4, v5, v6, v7, v8, v9, v10, v11, v12, v13, rfl⟩ := len14 hv
              obtain ⟨⟨p0, p1, p2, p3⟩, m9, m10, va, vc, ua, uc, jg⟩ := hJ
              obtain ⟨e4, e5⟩ := jg.h5 (updV hup 5 (by kernel_rfl))
              obtain rfl : v5 = .tuple #[.agg #[.int .i64 R.ad, .int .i64 R.ln, .int .i64 R.ow, .int .i64 R.lo, .int .i64 R.hi, .slice va R.ds.length vc, .int .i64 R.nw, .slice ua R.es.length uc], .agg #[.int .i64 F.k, .int .i64 F.a, .int .i64 F.ap, .int .i64 F.b, .int .i64 F.bp], .int .i64 c] := e5
              exact mid_val _ w (by kernel_rfl) (by kernel_rfl) (hK.out _ _ ⟨⟨p0, p1, p2, p3⟩, m9, m10, va, vc, ua, uc, jg.ex6 e4⟩)
            · refine stepOkV_at _ rfl ?_
              intro L vs w hv hli hup hJ K hK
              obtain ⟨v0, v1, v2, v3, v4, v5, v6, v7, v8, v9, v10, v11, v12, v13, rfl⟩ := len14 hv
              obtain ⟨⟨p0, p1, p2, p3⟩, m9, m10, va, vc, ua, uc, jg⟩ := hJ
              obtain ⟨e4, e5⟩ := jg.h5 (updV hup 5 (by kernel_rfl))
              obtain rfl : v5 = .tuple #[.agg #[.int .i64 R.ad, .int .i64 R.ln, .int .i64 R.ow, .int .i64 R.lo, .int .i64 R.hi, .slice va R.ds.length vc, .int .i64 R.nw, .slice ua R.es.length uc], .agg #[.int .i64 F.k, .int .i64 F.a, .int .i64 F.ap, .int .i64 F.b, .int .i64 F.bp], .int .i64 c] := e5
              exact mid_val _ w (by kernel_rfl) (by kernel_rfl) (hK.out _ _ ⟨⟨p0, p1, p2, p3⟩, m9, m10, va, vc, ua, uc, jg.ex7⟩)
            · refine stepOkV_at _ rfl ?_
              intro L vs w hv hli hup hJ K hK
              obtain ⟨v0, v1, v2, v3, v4, v5, v6, v7, v8, v9, v10, v11, v12, v13, rfl⟩ := len14 hv
              obtain ⟨⟨p0, p1, p2, p3⟩, m9, m10, va, vc, ua, uc, jg⟩ := hJ
              obtain ⟨e4, e5⟩ := jg.h5 (updV hup 5 (by kernel_rfl))
              obtain rfl : v5 = .tuple #[.agg #[.int .i64 R.ad, .int .i64 R.ln, .int .i64 R.ow, .int .i64 R.lo, .int .i64 R.hi, .slice va R.ds.length vc, .int .i64 R.nw, .slice ua R.es.length uc], .agg #[.int .i64 F.k, .int .i64 F.a, .int .i64 F.ap, .int .i64 F.b, .int .i64 F.bp], .int .i64 c] := e5
              exact mid_val _ w (by kernel_rfl) (by kernel_rfl) (hK.out _ _ ⟨⟨p0, p1, p2, p3⟩, m9, m10, va, vc, ua, uc, jg.ex8⟩)
            · refine stepOkV_at _ rfl ?_
              intro L vs w hv hli hup hJ K hK
              obtain ⟨v0, v1, v2, v3, v4, v5, v6, v7, v8, v9, v10, v11, v12, v13, rfl⟩ := len14 hv
              obtain ⟨⟨p0, p1, p2, p3⟩, m9, m10, va, vc, ua, uc, jg⟩ := hJ
              have hb : Below w.heap.size w (w.alloc (.cells #[.int .i64 0, .int .i64 0, .int .i64 0, .int .i64 0, .int .i64 0, .slice none 0 0, .int .i64 0, .slice none 0 0] 26)) := bl_alloc (bl_refl _) _
              exact mid_val (.pointer (some ⟨w.heap.size, 0, none⟩)) (w.alloc (.cells #[.int .i64 0, .int .i64 0, .int .i64 0, .int .i64 0, .int .i64 0, .slice none 0 0, .int .i64 0, .slice none 0 0] 26)) (by kernel_rfl) (by kernel_rfl) (hK.out _ _ ⟨⟨p0, (fun a b => by obtain ⟨g, h, e, d1, d2⟩ := p1 a b; exact ⟨g, h, e, d1.below hb, d2.below hb⟩), p2, p3⟩, w.heap.size, m10, va, vc, ua, uc, JG.al9 (Or.inr rfl) hli jg⟩)
            · refine stepOkV_at _ rfl ?_
              intro L vs w hv hli hup hJ K hK
              obtain ⟨v0, v1, v2, v3, v4, v5, v6, v7, v8, v9, v10, v11, v12, v13, rfl⟩ := len14 hv
              obtain ⟨⟨p0, p1, p2, p3⟩, m9, m10, va, vc, ua, uc, jg⟩ := hJ
              have hb : Below w.heap.size w (w.alloc (.cells #[.int .i64 0, .int .i64 0, .int .i64 0, .int .i64 0, .int .i64 0] 32)) := bl_alloc (bl_refl _) _
              exact mid_val (.pointer (some ⟨w.heap.size, 0, none⟩)) (w.alloc (.cells #[.int .i64 0, .int .i64 0, .int .i64 0, .int .i64 0, .int .i64 0] 32)) (by kernel_rfl) (by kernel_rfl) (hK.out _ _ ⟨⟨p0, (fun a b => by obtain ⟨g, h, e, d1, d2⟩ := p1 a b; exact ⟨g, h, e, d1.below hb, d2.below hb⟩), p2, p3⟩, m9, w.heap.size, va, vc, ua, uc, JG.al10 (Or.inr rfl) hli jg⟩)
            · refine stepOkV_at _ rfl ?_
              intro L vs w hv hli hup hJ K hK
              obtain ⟨v0, v1, v2, v3, v4, v5, v6, v7, v8, v9, v10, v11, v12, v13, rfl⟩ := len14 hv
              obtain ⟨⟨p0, p1, p2, p3⟩, m9, m10, va, vc, ua, uc, jg⟩ := hJ
              have e9 := updV hup 9 (by kernel_rfl)
              obtain ⟨e4, e6⟩ := jg.h6 (updV hup 6 (by kernel_rfl))
              obtain rfl : v6 = .agg #[.int .i64 R.ad, .int .i64 R.ln, .int .i64 R.ow, .int .i64 R.lo, .int .i64 R.hi, .slice va R.ds.length vc, .int .i64 R.nw, .slice ua R.es.length uc] := e6
              obtain ⟨e10, -, hz, -⟩ := jg.h9 e9
              obtain rfl : v9 = .pointer (some ⟨m9, 0, none⟩) := e10
              obtain ⟨⟨q1, q2⟩, q3⟩ := id (hz hli)
              refine mid_skip (World.setCell (World.setCell (World.setCell (World.setCell (World.setCell (World.setCell (World.setCell (World.setCell w ⟨m9, 0, none⟩ (.int .i64 R.ad)) ⟨m9, 1, none⟩ (.int .i64 R.ln)) ⟨m9, 2, none⟩ (.int .i64 R.ow)) ⟨m9, 3, none⟩ (.int .i64 R.lo)) ⟨m9, 4, none⟩ (.int .i64 R.hi)) ⟨m9, 5, none⟩ (.slice va R.ds.length vc)) ⟨m9, 6, none⟩ (.int .i64 R.nw)) ⟨m9, 7, none⟩ (.slice ua R.es.length uc)) (by kernel_rfl) ?_ (hK.out undef _ ⟨⟨p0, (fun _ x => by have x : L 4 = false := x; rw [e4] at x; cases x), p2, p3⟩, m9, m10, va, vc, ua, uc, JG.st11 hw0 hlo e4 e9 hli jg⟩)
              simp only [setAll, List.setIfInBounds_toArray, List.set_cons_zero, List.set_cons_succ, List.set_nil]
              go_simp
            · refine stepOkV_at _ rfl ?_
              intro L vs w hv hli hup hJ K hK
              obtain ⟨v0, v1, v2, v3, v4, v5, v6, v7, v8, v9, v10, v11, v12, v13, rfl⟩ := len14 hv
              obtain ⟨⟨p0, p1, p2, p3⟩, m9, m10, va, vc, ua, uc, jg⟩ := hJ
              have e9 := updV hup 9 (by kernel_rfl)
              have e10 := updV hup 10 (by kernel_rfl)
              have e4 := updV hup 4 (by kernel_rfl)
              obtain rfl : v7 = .agg #[.int .i64 F.k, .int .i64 F.a, .int .i64 F.ap, .int .i64 F.b, .int .i64 F.bp] := jg.h7 (updV hup 7 (by kernel_rfl))
              obtain ⟨e11, -, -, hz, -⟩ := jg.h10 e10
              obtain rfl : v10 = .pointer (some ⟨m10, 0, none⟩) := e11
              obtain ⟨⟨q1, q2⟩, q3⟩ := id (hz hli)
              refine mid_skip (World.setCell (World.setCell (World.setCell (World.setCell (World.setCell w ⟨m10, 0, none⟩ (.int .i64 F.k)) ⟨m10, 1, none⟩ (.int .i64 F.a)) ⟨m10, 2, none⟩ (.int .i64 F.ap)) ⟨m10, 3, none⟩ (.int .i64 F.b)) ⟨m10, 4, none⟩ (.int .i64 F.bp)) (by kernel_rfl) ?_ (hK.out undef _ ⟨⟨p0, (fun _ x => by have x : L 4 = false := x; rw [e4] at x; cases x), p2, p3⟩, m9, m10, va, vc, ua, uc, JG.st12 hw0 hlo e9 e10 hli jg⟩)
              simp only [setAll, List.setIfInBounds_toArray, List.set_cons_zero, List.set_cons_succ, List.set_nil]
              go_simp
            · refine stepOkV_at _ rfl ?_
              intro L vs w hv hli hup hJ K hK
              obtain ⟨v0, v1, v2, v3, v4, v5, v6, v7, v8, v9, v10, v11, v12, v13, rfl⟩ := len14 hv
              obtain ⟨⟨p0, p1, p2, p3⟩, m9, m10, va, vc, ua, uc, jg⟩ := hJ
              obtain rfl : v8 = .int .i64 c := jg.h8 (updV hup 8 (by kernel_rfl))
              exact mid_val _ w (by kernel_rfl) (by kernel_rfl) (hK.out _ _ ⟨⟨p0, p1, p2, p3⟩, m9, m10, va, vc, ua, uc, jg.as13⟩)
          · intro L vs w hal hv hJ
            obtain ⟨v0, v1, v2, v3, v4, v5, v6, v7, v8, v9, v10, v11, v12, v13, rfl⟩ := len14 hv
            obtain ⟨-, m9, m10, va, vc, ua, uc, jg⟩ := hJ
            obtain ⟨e9, ⟨l1, l2, l3⟩, -, e11⟩ := jg.h9 (hal 9 (by decide))
            obtain ⟨e10, ⟨k1, k2, k3⟩, hne, -, e12⟩ := jg.h10 (hal 10 (by decide))
            obtain rfl : v9 = .pointer (some ⟨m9, 0, none⟩) := e9
            obtain rfl : v10 = .pointer (some ⟨m10, 0, none⟩) := e10
            obtain rfl : v13 = .int .i64 c := jg.h13 (hal 13 (by decide))
            obtain ⟨-, hO, kh, kg⟩ := jg.h4 (hal 4 (by decide))
            have bh := (e11 (hal 11 (by decide))).2
            have bg := e12 (hal 12 (by decide))
            have kh := kh (hal 9 (by decide))
            have kg := kg (hal 10 (by decide))
            obtain ⟨hB, hC, xA, xF⟩ : _ ∧ _ ∧ _ ∧ _ := ⟨jg.hB, jg.hC, jg.x1, jg.x2⟩
            clear jg e11 e12 hal
            simp only [setAll, List.setIfInBounds_toArray, List.set_cons_zero, List.set_cons_succ, List.set_nil]
            go_wp2_with fail
            go_meet
            exact ⟨m9, m10, va, vc, ua, uc, rfl, rfl, rfl, bh.1, bg.1, ⟨_, hO⟩, hC⟩
        case rest =>
          clear hC
          obtain ⟨n16, n17, va3, vc3, ua3, uc3, rfl, rfl, rfl, x16, x17, ⟨base3, hQ⟩, hC⟩ := hcut
          replace hB := bl_trans hB hC
          replace x6 := x6.below hC
          replace x7 := x7.below hC
          replace x10 := x10.below hC
          replace hO := hO.below hC
          replace hM := hM.far (row := none) (far_of_bl hC) (fun g _ h => by cases h)
          replace hN := hN.far (row := none) (far_of_bl hC) (fun g _ h => by cases h)
          clear hC xA xF x11
          have y6 := x6.2
          have y16 := x16.2
          go_wp2_with fail
          refine (eqBook_same R.ad R.ln R.ow R.lo R.hi R.nw va3 va R.ds.length vc3 vc ua3 ua R.es.length uc3 uc R.ds R.es _ (by omega) (by omega) (doorsAt_own hQ.1) (entriesAt_own hQ.2.1) (doorsAt_own hO.1) (entriesAt_own hO.2.1)).mono ?_
          rintro e v6 ⟨rfl, hb⟩
          replace x7 := x7.below hb
          replace x17 := x17.below hb
          replace x10 := x10.below hb
          replace hM := hM.far (row := none) (far_of_bl hb) (fun g _ h => by cases h)
          replace hN := hN.far (row := none) (far_of_bl hb) (fun g _ h => by cases h)
          replace hB := bl_trans hB hb
          clear hb y6 y16 x6 x16 hO hQ
          have y7 := x7.2
          have y17 := x17.2
          go_wp2_with fail
          refine (eqFlow_same F.k F.a F.ap F.b F.bp _).mono ?_
          rintro e v7 ⟨rfl, hb⟩
          replace x10 := x10.below hb
          replace hM := hM.far (row := none) (far_of_bl hb) (fun g _ h => by cases h)
          replace hN := hN.far (row := none) (far_of_bl hb) (fun g _ h => by cases h)
          replace hB := bl_trans hB hb
          clear hb y7 y17 x7 x17
          have y10 := x10.2
          go_wp2_with fail
          refine (heldBook_ret R.ad R.ln R.ow R.lo R.hi R.nw va2 R.ds.length vc2 ua2 R.es.length uc2 _ hM hN (by omega) (by omega)).mono ?_
          rintro e v9 ⟨rfl, hb⟩
          replace hB := bl_trans hB hb
          clear hb y10
          go_wp2_with fail
          go_ret
          exact ⟨rfl, hB⟩
end Go.Proofs.YtcgjpmhjijmplaaGreatDoor
