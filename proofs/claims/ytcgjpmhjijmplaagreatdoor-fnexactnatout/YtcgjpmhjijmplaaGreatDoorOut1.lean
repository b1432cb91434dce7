/- The specification's l3Door, l3Entry, l3Taken, l3Free, l3Under, walked. -/
import Derived.Test.YtcgjpmhjijmplaaGreatDoorSpecIn
namespace Go.Proofs.YtcgjpmhjijmplaaGreatDoor
open Go.ChangeShapes Go.WideShapes Go.ChangeAt Go.RowKit Go.Maps

def sendsD (k a ap : Int) (d : Dr) : Bool := d.k == k && (d.i == a && d.p == ap)
def sendsE (nw : Int) (k a ap b bp : Int) (d : En) : Bool := flowEq d.k d.i d.ip d.pr d.pp k a ap b bp && liveB nw d.l
def takenE (k b bp port : Int) (d : En) : Bool := d.k == k && (d.pr == b && (d.pp == bp && d.o == port))
/-- i is the place of the first that meets p, or -1 and none does. -/
def FoundAt {α : Type} (p : α → Bool) (xs : List α) (i : Int) : Prop :=
  (∃ (n : Nat) (x : α), i = n ∧ xs[n]? = some x ∧ p x = true ∧ ∀ j y, j < n → xs[j]? = some y → p y = false) ∨ (i = -1 ∧ ∀ (j : Nat) y, xs[j]? = some y → p y = false)

set_option maxRecDepth 20000 in
set_option maxHeartbeats 4000000 in
theorem l3Door_ret (ad ln ow lo hi nw : Int) (da : Option Addr) (dn dc : Nat) (ea : Option Addr) (en ec : Nat) (k a ap b bp : Int) (ds : List Dr) (w : World) (hD : DoorsAt w da dn ds) (hd6 : ds.length ≤ 6) :
    Calls Tryz.prog 52 #[.agg #[.int .i64 ad, .int .i64 ln, .int .i64 ow, .int .i64 lo, .int .i64 hi, .slice da dn dc, .int .i64 nw, .slice ea en ec], .agg #[.int .i64 k, .int .i64 a, .int .i64 ap, .int .i64 b, .int .i64 bp]] w fun e w' => (∃ i : Int, e = .returned (.int .i64 i) ∧ FoundAt (sendsD k a ap) ds i) ∧ Below w.heap.size w w' := by
  obtain ⟨rfl, hD⟩ := hD
  have hb0 := bl_alloc (bl_alloc (bl_refl w) (.cells #[.int .i64 ad, .int .i64 ln, .int .i64 ow, .int .i64 lo, .int .i64 hi, .slice da ds.length dc, .int .i64 nw, .slice ea en ec] 26)) (.cells #[.int .i64 k, .int .i64 a, .int .i64 ap, .int .i64 b, .int .i64 bp] 32)
  have x1 := (Box.new w #[.int .i64 ad, .int .i64 ln, .int .i64 ow, .int .i64 lo, .int .i64 hi, .slice da ds.length dc, .int .i64 nw, .slice ea en ec] 26).below (bl_alloc (bl_refl _) (.cells #[.int .i64 k, .int .i64 a, .int .i64 ap, .int .i64 b, .int .i64 bp] 32))
  have x2 := Box.new (w.alloc (.cells #[.int .i64 ad, .int .i64 ln, .int .i64 ow, .int .i64 lo, .int .i64 hi, .slice da ds.length dc, .int .i64 nw, .slice ea en ec] 26)) #[.int .i64 k, .int .i64 a, .int .i64 ap, .int .i64 b, .int .i64 bp] 32
  simp only [World.size_alloc] at x2
  go_enter Tryz.func52, Tryz.ntmps52
  go_wp2_with fail
  generalize hW0 : ((w.alloc (.cells #[.int .i64 ad, .int .i64 ln, .int .i64 ow, .int .i64 lo, .int .i64 hi, .slice da ds.length dc, .int .i64 nw, .slice ea en ec] 26)).alloc (.cells #[.int .i64 k, .int .i64 a, .int .i64 ap, .int .i64 b, .int .i64 bp] 32)) = W0 at *
  go_loopg [5] ds.length (fun g i wr => ∃ n : Nat, g = ds.length - n ∧ n ≤ ds.length ∧ i = .int .i64 n ∧ (∀ j d, j < n → ds[j]? = some d → sendsD k a ap d = false) ∧ Below w.heap.size w wr ∧ Below W0.heap.size W0 wr)
  case atStart => exact ⟨0, by omega, by omega, rfl, fun _ _ h => absurd h (by omega), hb0, bl_refl _⟩
  case round =>
    obtain ⟨n, hgn, hn, rfl, HD, hB, hC⟩ := hrel
    have HD : Hid (∀ j d, j < n → ds[j]? = some d → sendsD k a ap d = false) := HD
    replace x1 := x1.below hC
    replace x2 := x2.below hC
    have y1 := x1.2
    have y2 := x2.2
    have hn16 : n ≤ 6 := by omega
    by_cases hlt : n < ds.length
    · rcases hD with rfl | ⟨g, o, rfl, hgl, hcs⟩
      · simp at hlt
      · obtain ⟨d, hd⟩ : ∃ d, ds[n]? = some d := ⟨ds[n], by simp [hlt]⟩
        have hcs := hcs.below hB hgl
        have hgl : g < wr.heap.size := by have := hB.size; omega
        obtain ⟨c0, c1, c2, c3⟩ := hcs n d hd
        have hd : Hid (ds[n]? = some d) := hd
        have hlt' : (n : Int) < (ds.length : Int) := by omega
        by_cases h0 : d.k = k
        · have e1 : (d.k == k) = true := by simpa using h0
          clear h0
          by_cases h0 : d.i = a
          · have e2 : (d.i == a) = true := by simpa using h0
            clear h0
            by_cases h0 : d.p = ap
            · have e3 : (d.p == ap) = true := by simpa using h0
              clear h0
              go_wp2_with fail
              go_quiet (fail)
              go_wp2_with fail
              go_ret
              exact ⟨⟨_, rfl, Or.inl ⟨n, d, rfl, hd.out, by simp [sendsD, e1, e2, e3], HD.out⟩⟩, bl_draws hB _⟩
            · have e3 : (d.p == ap) = false := by simpa using h0
              have hno : sendsD k a ap d = false := by simp [sendsD, e3]
              go_wp2_with fail
              go_quiet (fail)
              go_wp2_with fail
              go_roundg (ds.length - (n + 1))
              case measure => omega
              case rel => exact ⟨n + 1, rfl, by omega, by go_num, fun j y hj hy => (by rcases Nat.lt_or_ge j n with h | h; exact HD.out j y h hy; have : j = n := (by omega); subst this; rw [some_one hy hd.out]; exact hno), bl_draws hB _, bl_draws hC _⟩
          · have e2 : (d.i == a) = false := by simpa using h0
            have hno : sendsD k a ap d = false := by simp [sendsD, e2]
            go_wp2_with fail
            go_quiet (fail)
            go_wp2_with fail
            go_roundg (ds.length - (n + 1))
            case measure => omega
            case rel => exact ⟨n + 1, rfl, by omega, by go_num, fun j y hj hy => (by rcases Nat.lt_or_ge j n with h | h; exact HD.out j y h hy; have : j = n := (by omega); subst this; rw [some_one hy hd.out]; exact hno), bl_draws hB _, bl_draws hC _⟩
        · have e1 : (d.k == k) = false := by simpa using h0
          have hno : sendsD k a ap d = false := by simp [sendsD, e1]
          go_wp2_with fail
          go_quiet (fail)
          go_wp2_with fail
          go_roundg (ds.length - (n + 1))
          case measure => omega
          case rel => exact ⟨n + 1, rfl, by omega, by go_num, fun j y hj hy => (by rcases Nat.lt_or_ge j n with h | h; exact HD.out j y h hy; have : j = n := (by omega); subst this; rw [some_one hy hd.out]; exact hno), bl_draws hB _, bl_draws hC _⟩
    · have hne : n = ds.length := by omega
      have hlt' : ¬ (n : Int) < (ds.length : Int) := by omega
      go_wp2_with fail
      go_ret
      exact ⟨⟨_, rfl, Or.inr ⟨rfl, fun j y hy => HD.out j y (by have := get_lt hy; omega) hy⟩⟩, hB⟩

theorem l2Is_v (d : En) (k a ap b bp : Int) (r : Bool) (w : World) (hr : flowEq d.k d.i d.ip d.pr d.pp k a ap b bp = r) : Calls Tryz.prog 103 #[.agg #[.int .i64 d.k, .int .i64 d.pr, .int .i64 d.pp, .int .i64 d.o, .int .i64 d.i, .int .i64 d.ip, .int .i64 d.l], .agg #[.int .i64 k, .int .i64 a, .int .i64 ap, .int .i64 b, .int .i64 bp]] w fun e w' => e = .returned (.bool r) ∧ Below w.heap.size w w' := by
  subst hr; exact l2Is_ret d.k d.pr d.pp d.o d.i d.ip d.l k a ap b bp w
set_option maxRecDepth 20000 in
set_option maxHeartbeats 4000000 in
theorem l3Entry_ret (ad ln ow lo hi nw : Int) (da : Option Addr) (dn dc : Nat) (ea : Option Addr) (en ec : Nat) (k a ap b bp : Int) (es : List En) (w : World) (hE : EntriesAt w ea en es) (he16 : es.length ≤ 16) (n0 : 0 ≤ nw) (n1 : nw ≤ 1000000) (hla : ∀ (i : Nat) d, es[i]? = some d → 0 ≤ d.l ∧ d.l ≤ nw) :
    Calls Tryz.prog 54 #[.agg #[.int .i64 ad, .int .i64 ln, .int .i64 ow, .int .i64 lo, .int .i64 hi, .slice da dn dc, .int .i64 nw, .slice ea en ec], .agg #[.int .i64 k, .int .i64 a, .int .i64 ap, .int .i64 b, .int .i64 bp]] w fun e w' => (∃ i : Int, e = .returned (.int .i64 i) ∧ FoundAt (sendsE nw k a ap b bp) es i) ∧ Below w.heap.size w w' := by
  obtain ⟨rfl, hE⟩ := hE
  have hb0 := bl_alloc (bl_alloc (bl_refl w) (.cells #[.int .i64 ad, .int .i64 ln, .int .i64 ow, .int .i64 lo, .int .i64 hi, .slice da dn dc, .int .i64 nw, .slice ea es.length ec] 26)) (.cells #[.int .i64 k, .int .i64 a, .int .i64 ap, .int .i64 b, .int .i64 bp] 32)
  have x1 := (Box.new w #[.int .i64 ad, .int .i64 ln, .int .i64 ow, .int .i64 lo, .int .i64 hi, .slice da dn dc, .int .i64 nw, .slice ea es.length ec] 26).below (bl_alloc (bl_refl _) (.cells #[.int .i64 k, .int .i64 a, .int .i64 ap, .int .i64 b, .int .i64 bp] 32))
  have x2 := Box.new (w.alloc (.cells #[.int .i64 ad, .int .i64 ln, .int .i64 ow, .int .i64 lo, .int .i64 hi, .slice da dn dc, .int .i64 nw, .slice ea es.length ec] 26)) #[.int .i64 k, .int .i64 a, .int .i64 ap, .int .i64 b, .int .i64 bp] 32
  simp only [World.size_alloc] at x2
  have hla : Hid (∀ (i : Nat) d, es[i]? = some d → 0 ≤ d.l ∧ d.l ≤ nw) := hla
  go_enter Tryz.func54, Tryz.ntmps54
  go_wp2_with fail
  generalize hW0 : ((w.alloc (.cells #[.int .i64 ad, .int .i64 ln, .int .i64 ow, .int .i64 lo, .int .i64 hi, .slice da dn dc, .int .i64 nw, .slice ea es.length ec] 26)).alloc (.cells #[.int .i64 k, .int .i64 a, .int .i64 ap, .int .i64 b, .int .i64 bp] 32)) = W0 at *
  go_loopg [5] es.length (fun g i wr => ∃ n : Nat, g = es.length - n ∧ n ≤ es.length ∧ i = .int .i64 n ∧ (∀ j d, j < n → es[j]? = some d → sendsE nw k a ap b bp d = false) ∧ Below w.heap.size w wr ∧ Below W0.heap.size W0 wr)
  case atStart => exact ⟨0, by omega, by omega, rfl, fun _ _ h => absurd h (by omega), hb0, bl_refl _⟩
  case round =>
    obtain ⟨n, hgn, hn, rfl, HD, hB, hC⟩ := hrel
    have HD : Hid (∀ j d, j < n → es[j]? = some d → sendsE nw k a ap b bp d = false) := HD
    replace x1 := x1.below hC
    replace x2 := x2.below hC
    have y1 := x1.2
    have y2 := x2.2
    have hn16 : n ≤ 16 := by omega
    by_cases hlt : n < es.length
    · rcases hE with rfl | ⟨g, o, rfl, hgl, hcs⟩
      · simp at hlt
      · obtain ⟨d, hd⟩ : ∃ d, es[n]? = some d := ⟨es[n], by simp [hlt]⟩
        have hcs := hcs.below hB hgl
        have hgl : g < wr.heap.size := by have := hB.size; omega
        obtain ⟨q0, q1⟩ := hla.out n d hd
        have hlt' : (n : Int) < (es.length : Int) := by omega
        have hd : Hid (es[n]? = some d) := hd
        go_wp2_with fail
        obtain ⟨c0, c1, c2, c3, c4, c5, c6⟩ := hcs n d hd.out
        clear c0 c1 c2 c3 c4 c5 c6 y1 y2
        by_cases h0 : flowEq d.k d.i d.ip d.pr d.pp k a ap b bp = true
        · have e1 : flowEq d.k d.i d.ip d.pr d.pp k a ap b bp = true := h0
          clear h0
          by_cases h0 : liveB nw d.l = true
          · have e2 : liveB nw d.l = true := h0
            clear h0
            refine wp_region_held_drew (S := (fun w' => Box w' w.heap.size #[.int .i64 ad, .int .i64 ln, .int .i64 ow, .int .i64 lo, .int .i64 hi, .slice da dn dc, .int .i64 nw, .slice (some ⟨g, o, none⟩) es.length ec] ∧ Box w' (w.heap.size + 1) #[.int .i64 k, .int .i64 a, .int .i64 ap, .int .i64 b, .int .i64 bp] ∧ EnCells w' g o es)) (by kernel_rfl) ?_ (fun hHeld => ?_)
            · exact ⟨x1.below (bl_drew (bl_refl _)), x2.below (bl_drew (bl_refl _)), hcs.below (bl_drew (bl_refl _)) hgl⟩
            have hlq := bl_drew (bl_refl wr)
            have hB := bl_trans hB hlq
            have hC := bl_trans hC hlq
            have x1 := x1.below hlq
            have x2 := x2.below hlq
            have hcs := hcs.below hlq hgl
            have hgl : g < wr.drew.heap.size := hgl
            clear hlq
            generalize wr.drew = Wd at x1 x2 hcs hgl hB hC hHeld ⊢
            refine takeL 0 13 ?_ ?_ hHeld ?_
            rotate_left
            · (intro w hSw; (try dsimp only at hSw); obtain ⟨hS1, hS2, hS3⟩ := hSw; obtain ⟨c0, c1, c2, c3, c4, c5, c6⟩ := hS3 _ _ hd.out; simp only [Box] at hS1 hS2; go_simp; try with_reducible rfl)
            simp only [Act.put, puA, puB, puC]
            refine takeL 1 14 ?_ ?_ hHeld ?_
            rotate_left
            · (intro w hSw; (try dsimp only at hSw); obtain ⟨hS1, hS2, hS3⟩ := hSw; obtain ⟨c0, c1, c2, c3, c4, c5, c6⟩ := hS3 _ _ hd.out; simp only [Box] at hS1 hS2; go_simp; try with_reducible rfl)
            simp only [Act.put, puA, puB, puC]
            refine takeL 2 15 ?_ ?_ hHeld ?_
            rotate_left
            · (intro w hSw; (try dsimp only at hSw); obtain ⟨hS1, hS2, hS3⟩ := hSw; obtain ⟨c0, c1, c2, c3, c4, c5, c6⟩ := hS3 _ _ hd.out; simp only [Box] at hS1 hS2; go_simp; try with_reducible rfl)
            simp only [Act.put, puA, puB, puC]
            refine takeL 3 16 ?_ ?_ hHeld ?_
            rotate_left
            · (intro w hSw; (try dsimp only at hSw); obtain ⟨hS1, hS2, hS3⟩ := hSw; obtain ⟨c0, c1, c2, c3, c4, c5, c6⟩ := hS3 _ _ hd.out; simp only [Box] at hS1 hS2; go_simp; try with_reducible rfl)
            simp only [Act.put, puA, puB, puC]
            refine takeL 4 17 ?_ ?_ hHeld ?_
            rotate_left
            · (intro w hSw; (try dsimp only at hSw); obtain ⟨hS1, hS2, hS3⟩ := hSw; obtain ⟨c0, c1, c2, c3, c4, c5, c6⟩ := hS3 _ _ hd.out; simp only [Box] at hS1 hS2; go_simp; try with_reducible rfl)
            simp only [Act.put, puA, puB, puC]
            refine takeL 5 18 ?_ ?_ hHeld ?_
            rotate_left
            · (intro w hSw; (try dsimp only at hSw); obtain ⟨hS1, hS2, hS3⟩ := hSw; obtain ⟨c0, c1, c2, c3, c4, c5, c6⟩ := hS3 _ _ hd.out; simp only [Box] at hS1 hS2; go_simp; try with_reducible rfl)
            simp only [Act.put, puA, puB, puC]
            refine wpAnyH_ready (rs := [6]) (by kernel_rfl) (by simp) (AllReadyH.cons rfl (fun K hK => ?_) (AllReadyH.nil))
            refine step_callg 19 103 rfl (by kernel_rfl) (l2Is_v d k a ap b bp true _ e1) (by kernel_rfl) ?_
            rintro e W ⟨rfl, hb⟩
            refine ⟨_, rfl, ?_⟩
            simp only [Act.put, puA, puB, puC]
            replace hB := bl_trans hB hb
            replace hC := bl_trans hC hb
            replace x1 := x1.below hb
            replace x2 := x2.below hb
            replace hcs := hcs.below hb hgl
            replace hgl := Nat.lt_of_lt_of_le hgl hb.size
            clear hb
            refine hK.out _ _ ?_ (fun hHeld1 => ?_)
            · exact ⟨x1, x2, hcs⟩
            clear hK K hHeld
            have hHeld := hHeld1
            clear hHeld1
            refine takeL 7 20 ?_ ?_ hHeld ?_
            rotate_left
            · (intro w hSw; (try dsimp only at hSw); obtain ⟨hS1, hS2, hS3⟩ := hSw; obtain ⟨c0, c1, c2, c3, c4, c5, c6⟩ := hS3 _ _ hd.out; simp only [Box] at hS1 hS2; go_simp; try with_reducible rfl)
            simp only [Act.put, puA, puB, puC]
            refine takeL 8 21 ?_ ?_ hHeld ?_
            rotate_left
            · (intro w hSw; (try dsimp only at hSw); obtain ⟨hS1, hS2, hS3⟩ := hSw; obtain ⟨c0, c1, c2, c3, c4, c5, c6⟩ := hS3 _ _ hd.out; simp only [Box] at hS1 hS2; go_simp; try with_reducible rfl)
            simp only [Act.put, puA, puB, puC]
            refine takeL 9 22 ?_ ?_ hHeld ?_
            rotate_left
            · (intro w hSw; (try dsimp only at hSw); obtain ⟨hS1, hS2, hS3⟩ := hSw; obtain ⟨c0, c1, c2, c3, c4, c5, c6⟩ := hS3 _ _ hd.out; simp only [Box] at hS1 hS2; go_simp; try with_reducible rfl)
            simp only [Act.put, puA, puB, puC]
            refine takeL 10 23 ?_ ?_ hHeld ?_
            rotate_left
            · (intro w hSw; (try dsimp only at hSw); obtain ⟨hS1, hS2, hS3⟩ := hSw; obtain ⟨c0, c1, c2, c3, c4, c5, c6⟩ := hS3 _ _ hd.out; simp only [Box] at hS1 hS2; go_simp; try with_reducible rfl)
            simp only [Act.put, puA, puB, puC]
            refine takeL 11 24 ?_ ?_ hHeld ?_
            rotate_left
            · (intro w hSw; (try dsimp only at hSw); obtain ⟨hS1, hS2, hS3⟩ := hSw; obtain ⟨c0, c1, c2, c3, c4, c5, c6⟩ := hS3 _ _ hd.out; simp only [Box] at hS1 hS2; go_simp; try with_reducible rfl)
            simp only [Act.put, puA, puB, puC]
            refine takeL 12 25 ?_ ?_ hHeld ?_
            rotate_left
            · (intro w hSw; (try dsimp only at hSw); obtain ⟨hS1, hS2, hS3⟩ := hSw; obtain ⟨c0, c1, c2, c3, c4, c5, c6⟩ := hS3 _ _ hd.out; simp only [Box] at hS1 hS2; go_simp; try with_reducible rfl)
            simp only [Act.put, puA, puB, puC]
            refine takeL 13 26 ?_ ?_ hHeld ?_
            rotate_left
            · (intro w hSw; (try dsimp only at hSw); obtain ⟨hS1, hS2, hS3⟩ := hSw; obtain ⟨c0, c1, c2, c3, c4, c5, c6⟩ := hS3 _ _ hd.out; simp only [Box] at hS1 hS2; go_simp; try with_reducible rfl)
            simp only [Act.put, puA, puB, puC]
            refine wpAnyH_ready (rs := [14]) (by kernel_rfl) (by simp) (AllReadyH.cons rfl (fun K hK => ?_) (AllReadyH.nil))
            refine step_callg 27 65 rfl (by kernel_rfl) (l2Live_v ad ln ow lo hi nw da dn dc (some ⟨g, o, none⟩) es.length ec d true _ n0 n1 q0 q1 e2) (by kernel_rfl) ?_
            rintro e W ⟨rfl, hb⟩
            refine ⟨_, rfl, ?_⟩
            simp only [Act.put, puA, puB, puC]
            replace hB := bl_trans hB hb
            replace hC := bl_trans hC hb
            replace x1 := x1.below hb
            replace x2 := x2.below hb
            replace hcs := hcs.below hb hgl
            replace hgl := Nat.lt_of_lt_of_le hgl hb.size
            clear hb
            refine hK.out _ _ ?_ (fun hHeld1 => ?_)
            · exact ⟨x1, x2, hcs⟩
            clear hK K hHeld
            have hHeld := hHeld1
            clear hHeld1
            refine takeL 15 28 ?_ ?_ hHeld ?_
            rotate_left
            · (intro w hSw; (try dsimp only at hSw); obtain ⟨hS1, hS2, hS3⟩ := hSw; obtain ⟨c0, c1, c2, c3, c4, c5, c6⟩ := hS3 _ _ hd.out; simp only [Box] at hS1 hS2; go_simp; try with_reducible rfl)
            simp only [Act.put, puA, puB, puC]
            refine wpAnyH_done (by kernel_rfl) ?_ _
            go_wp2_with fail
            go_ret
            exact ⟨⟨_, rfl, Or.inl ⟨n, d, rfl, hd.out, by simp [sendsE, e1, e2], HD.out⟩⟩, hB⟩
          · have e2 : liveB nw d.l = false := by simpa using h0
            have hno : sendsE nw k a ap b bp d = false := by simp [sendsE, e2]
            clear h0
            refine wp_region_held_drew (S := (fun w' => Box w' w.heap.size #[.int .i64 ad, .int .i64 ln, .int .i64 ow, .int .i64 lo, .int .i64 hi, .slice da dn dc, .int .i64 nw, .slice (some ⟨g, o, none⟩) es.length ec] ∧ Box w' (w.heap.size + 1) #[.int .i64 k, .int .i64 a, .int .i64 ap, .int .i64 b, .int .i64 bp] ∧ EnCells w' g o es)) (by kernel_rfl) ?_ (fun hHeld => ?_)
            · exact ⟨x1.below (bl_drew (bl_refl _)), x2.below (bl_drew (bl_refl _)), hcs.below (bl_drew (bl_refl _)) hgl⟩
            have hlq := bl_drew (bl_refl wr)
            have hB := bl_trans hB hlq
            have hC := bl_trans hC hlq
            have x1 := x1.below hlq
            have x2 := x2.below hlq
            have hcs := hcs.below hlq hgl
            have hgl : g < wr.drew.heap.size := hgl
            clear hlq
            generalize wr.drew = Wd at x1 x2 hcs hgl hB hC hHeld ⊢
            refine takeL 0 13 ?_ ?_ hHeld ?_
            rotate_left
            · (intro w hSw; (try dsimp only at hSw); obtain ⟨hS1, hS2, hS3⟩ := hSw; obtain ⟨c0, c1, c2, c3, c4, c5, c6⟩ := hS3 _ _ hd.out; simp only [Box] at hS1 hS2; go_simp; try with_reducible rfl)
            simp only [Act.put, puA, puB, puC]
            refine takeL 1 14 ?_ ?_ hHeld ?_
            rotate_left
            · (intro w hSw; (try dsimp only at hSw); obtain ⟨hS1, hS2, hS3⟩ := hSw; obtain ⟨c0, c1, c2, c3, c4, c5, c6⟩ := hS3 _ _ hd.out; simp only [Box] at hS1 hS2; go_simp; try with_reducible rfl)
            simp only [Act.put, puA, puB, puC]
            refine takeL 2 15 ?_ ?_ hHeld ?_
            rotate_left
            · (intro w hSw; (try dsimp only at hSw); obtain ⟨hS1, hS2, hS3⟩ := hSw; obtain ⟨c0, c1, c2, c3, c4, c5, c6⟩ := hS3 _ _ hd.out; simp only [Box] at hS1 hS2; go_simp; try with_reducible rfl)
            simp only [Act.put, puA, puB, puC]
            refine takeL 3 16 ?_ ?_ hHeld ?_
            rotate_left
            · (intro w hSw; (try dsimp only at hSw); obtain ⟨hS1, hS2, hS3⟩ := hSw; obtain ⟨c0, c1, c2, c3, c4, c5, c6⟩ := hS3 _ _ hd.out; simp only [Box] at hS1 hS2; go_simp; try with_reducible rfl)
            simp only [Act.put, puA, puB, puC]
            refine takeL 4 17 ?_ ?_ hHeld ?_
            rotate_left
            · (intro w hSw; (try dsimp only at hSw); obtain ⟨hS1, hS2, hS3⟩ := hSw; obtain ⟨c0, c1, c2, c3, c4, c5, c6⟩ := hS3 _ _ hd.out; simp only [Box] at hS1 hS2; go_simp; try with_reducible rfl)
            simp only [Act.put, puA, puB, puC]
            refine takeL 5 18 ?_ ?_ hHeld ?_
            rotate_left
            · (intro w hSw; (try dsimp only at hSw); obtain ⟨hS1, hS2, hS3⟩ := hSw; obtain ⟨c0, c1, c2, c3, c4, c5, c6⟩ := hS3 _ _ hd.out; simp only [Box] at hS1 hS2; go_simp; try with_reducible rfl)
            simp only [Act.put, puA, puB, puC]
            refine wpAnyH_ready (rs := [6]) (by kernel_rfl) (by simp) (AllReadyH.cons rfl (fun K hK => ?_) (AllReadyH.nil))
            refine step_callg 19 103 rfl (by kernel_rfl) (l2Is_v d k a ap b bp true _ e1) (by kernel_rfl) ?_
            rintro e W ⟨rfl, hb⟩
            refine ⟨_, rfl, ?_⟩
            simp only [Act.put, puA, puB, puC]
            replace hB := bl_trans hB hb
            replace hC := bl_trans hC hb
            replace x1 := x1.below hb
            replace x2 := x2.below hb
            replace hcs := hcs.below hb hgl
            replace hgl := Nat.lt_of_lt_of_le hgl hb.size
            clear hb
            refine hK.out _ _ ?_ (fun hHeld1 => ?_)
            · exact ⟨x1, x2, hcs⟩
            clear hK K hHeld
            have hHeld := hHeld1
            clear hHeld1
            refine takeL 7 20 ?_ ?_ hHeld ?_
            rotate_left
            · (intro w hSw; (try dsimp only at hSw); obtain ⟨hS1, hS2, hS3⟩ := hSw; obtain ⟨c0, c1, c2, c3, c4, c5, c6⟩ := hS3 _ _ hd.out; simp only [Box] at hS1 hS2; go_simp; try with_reducible rfl)
            simp only [Act.put, puA, puB, puC]
            refine takeL 8 21 ?_ ?_ hHeld ?_
            rotate_left
            · (intro w hSw; (try dsimp only at hSw); obtain ⟨hS1, hS2, hS3⟩ := hSw; obtain ⟨c0, c1, c2, c3, c4, c5, c6⟩ := hS3 _ _ hd.out; simp only [Box] at hS1 hS2; go_simp; try with_reducible rfl)
            simp only [Act.put, puA, puB, puC]
            refine takeL 9 22 ?_ ?_ hHeld ?_
            rotate_left
            · (intro w hSw; (try dsimp only at hSw); obtain ⟨hS1, hS2, hS3⟩ := hSw; obtain ⟨c0, c1, c2, c3, c4, c5, c6⟩ := hS3 _ _ hd.out; simp only [Box] at hS1 hS2; go_simp; try with_reducible rfl)
            simp only [Act.put, puA, puB, puC]
            refine takeL 10 23 ?_ ?_ hHeld ?_
            rotate_left
            · (intro w hSw; (try dsimp only at hSw); obtain ⟨hS1, hS2, hS3⟩ := hSw; obtain ⟨c0, c1, c2, c3, c4, c5, c6⟩ := hS3 _ _ hd.out; simp only [Box] at hS1 hS2; go_simp; try with_reducible rfl)
            simp only [Act.put, puA, puB, puC]
            refine takeL 11 24 ?_ ?_ hHeld ?_
            rotate_left
            · (intro w hSw; (try dsimp only at hSw); obtain ⟨hS1, hS2, hS3⟩ := hSw; obtain ⟨c0, c1, c2, c3, c4, c5, c6⟩ := hS3 _ _ hd.out; simp only [Box] at hS1 hS2; go_simp; try with_reducible rfl)
            simp only [Act.put, puA, puB, puC]
            refine takeL 12 25 ?_ ?_ hHeld ?_
            rotate_left
            · (intro w hSw; (try dsimp only at hSw); obtain ⟨hS1, hS2, hS3⟩ := hSw; obtain ⟨c0, c1, c2, c3, c4, c5, c6⟩ := hS3 _ _ hd.out; simp only [Box] at hS1 hS2; go_simp; try with_reducible rfl)
            simp only [Act.put, puA, puB, puC]
            refine takeL 13 26 ?_ ?_ hHeld ?_
            rotate_left
            · (intro w hSw; (try dsimp only at hSw); obtain ⟨hS1, hS2, hS3⟩ := hSw; obtain ⟨c0, c1, c2, c3, c4, c5, c6⟩ := hS3 _ _ hd.out; simp only [Box] at hS1 hS2; go_simp; try with_reducible rfl)
            simp only [Act.put, puA, puB, puC]
            refine wpAnyH_ready (rs := [14]) (by kernel_rfl) (by simp) (AllReadyH.cons rfl (fun K hK => ?_) (AllReadyH.nil))
            refine step_callg 27 65 rfl (by kernel_rfl) (l2Live_v ad ln ow lo hi nw da dn dc (some ⟨g, o, none⟩) es.length ec d false _ n0 n1 q0 q1 e2) (by kernel_rfl) ?_
            rintro e W ⟨rfl, hb⟩
            refine ⟨_, rfl, ?_⟩
            simp only [Act.put, puA, puB, puC]
            replace hB := bl_trans hB hb
            replace hC := bl_trans hC hb
            replace x1 := x1.below hb
            replace x2 := x2.below hb
            replace hcs := hcs.below hb hgl
            replace hgl := Nat.lt_of_lt_of_le hgl hb.size
            clear hb
            refine hK.out _ _ ?_ (fun hHeld1 => ?_)
            · exact ⟨x1, x2, hcs⟩
            clear hK K hHeld
            have hHeld := hHeld1
            clear hHeld1
            refine takeL 15 28 ?_ ?_ hHeld ?_
            rotate_left
            · (intro w hSw; (try dsimp only at hSw); obtain ⟨hS1, hS2, hS3⟩ := hSw; obtain ⟨c0, c1, c2, c3, c4, c5, c6⟩ := hS3 _ _ hd.out; simp only [Box] at hS1 hS2; go_simp; try with_reducible rfl)
            simp only [Act.put, puA, puB, puC]
            refine wpAnyH_done (by kernel_rfl) ?_ _
            go_wp2_with fail
            go_roundg (es.length - (n + 1))
            case measure => omega
            case rel => exact ⟨n + 1, rfl, by omega, by go_num, fun j y hj hy => (by rcases Nat.lt_or_ge j n with h | h; exact HD.out j y h hy; have : j = n := (by omega); subst this; rw [some_one hy hd.out]; exact hno), hB, hC⟩
        · have e1 : flowEq d.k d.i d.ip d.pr d.pp k a ap b bp = false := by simpa using h0
          have hno : sendsE nw k a ap b bp d = false := by simp [sendsE, e1]
          clear h0
          refine wp_region_held_drew (S := (fun w' => Box w' w.heap.size #[.int .i64 ad, .int .i64 ln, .int .i64 ow, .int .i64 lo, .int .i64 hi, .slice da dn dc, .int .i64 nw, .slice (some ⟨g, o, none⟩) es.length ec] ∧ Box w' (w.heap.size + 1) #[.int .i64 k, .int .i64 a, .int .i64 ap, .int .i64 b, .int .i64 bp] ∧ EnCells w' g o es)) (by kernel_rfl) ?_ (fun hHeld => ?_)
          · exact ⟨x1.below (bl_drew (bl_refl _)), x2.below (bl_drew (bl_refl _)), hcs.below (bl_drew (bl_refl _)) hgl⟩
          have hlq := bl_drew (bl_refl wr)
          have hB := bl_trans hB hlq
          have hC := bl_trans hC hlq
          have x1 := x1.below hlq
          have x2 := x2.below hlq
          have hcs := hcs.below hlq hgl
          have hgl : g < wr.drew.heap.size := hgl
          clear hlq
          generalize wr.drew = Wd at x1 x2 hcs hgl hB hC hHeld ⊢
          refine takeL 0 13 ?_ ?_ hHeld ?_
          rotate_left
          · (intro w hSw; (try dsimp only at hSw); obtain ⟨hS1, hS2, hS3⟩ := hSw; obtain ⟨c0, c1, c2, c3, c4, c5, c6⟩ := hS3 _ _ hd.out; simp only [Box] at hS1 hS2; go_simp; try with_reducible rfl)
          simp only [Act.put, puA, puB, puC]
          refine takeL 1 14 ?_ ?_ hHeld ?_
          rotate_left
          · (intro w hSw; (try dsimp only at hSw); obtain ⟨hS1, hS2, hS3⟩ := hSw; obtain ⟨c0, c1, c2, c3, c4, c5, c6⟩ := hS3 _ _ hd.out; simp only [Box] at hS1 hS2; go_simp; try with_reducible rfl)
          simp only [Act.put, puA, puB, puC]
          refine takeL 2 15 ?_ ?_ hHeld ?_
          rotate_left
          · (intro w hSw; (try dsimp only at hSw); obtain ⟨hS1, hS2, hS3⟩ := hSw; obtain ⟨c0, c1, c2, c3, c4, c5, c6⟩ := hS3 _ _ hd.out; simp only [Box] at hS1 hS2; go_simp; try with_reducible rfl)
          simp only [Act.put, puA, puB, puC]
          refine takeL 3 16 ?_ ?_ hHeld ?_
          rotate_left
          · (intro w hSw; (try dsimp only at hSw); obtain ⟨hS1, hS2, hS3⟩ := hSw; obtain ⟨c0, c1, c2, c3, c4, c5, c6⟩ := hS3 _ _ hd.out; simp only [Box] at hS1 hS2; go_simp; try with_reducible rfl)
          simp only [Act.put, puA, puB, puC]
          refine takeL 4 17 ?_ ?_ hHeld ?_
          rotate_left
          · (intro w hSw; (try dsimp only at hSw); obtain ⟨hS1, hS2, hS3⟩ := hSw; obtain ⟨c0, c1, c2, c3, c4, c5, c6⟩ := hS3 _ _ hd.out; simp only [Box] at hS1 hS2; go_simp; try with_reducible rfl)
          simp only [Act.put, puA, puB, puC]
          refine takeL 5 18 ?_ ?_ hHeld ?_
          rotate_left
          · (intro w hSw; (try dsimp only at hSw); obtain ⟨hS1, hS2, hS3⟩ := hSw; obtain ⟨c0, c1, c2, c3, c4, c5, c6⟩ := hS3 _ _ hd.out; simp only [Box] at hS1 hS2; go_simp; try with_reducible rfl)
          simp only [Act.put, puA, puB, puC]
          refine wpAnyH_ready (rs := [6]) (by kernel_rfl) (by simp) (AllReadyH.cons rfl (fun K hK => ?_) (AllReadyH.nil))
          refine step_callg 19 103 rfl (by kernel_rfl) (l2Is_v d k a ap b bp false _ e1) (by kernel_rfl) ?_
          rintro e W ⟨rfl, hb⟩
          refine ⟨_, rfl, ?_⟩
          simp only [Act.put, puA, puB, puC]
          replace hB := bl_trans hB hb
          replace hC := bl_trans hC hb
          replace x1 := x1.below hb
          replace x2 := x2.below hb
          replace hcs := hcs.below hb hgl
          replace hgl := Nat.lt_of_lt_of_le hgl hb.size
          clear hb
          refine hK.out _ _ ?_ (fun hHeld1 => ?_)
          · exact ⟨x1, x2, hcs⟩
          clear hK K hHeld
          have hHeld := hHeld1
          clear hHeld1
          refine takeL 7 20 ?_ ?_ hHeld ?_
          rotate_left
          · (intro w hSw; (try dsimp only at hSw); obtain ⟨hS1, hS2, hS3⟩ := hSw; obtain ⟨c0, c1, c2, c3, c4, c5, c6⟩ := hS3 _ _ hd.out; simp only [Box] at hS1 hS2; go_simp; try with_reducible rfl)
          simp only [Act.put, puA, puB, puC]
          refine takeN 8 21 hHeld ?_
          simp only [Act.put, puA, puB, puC]
          refine takeN 9 22 hHeld ?_
          simp only [Act.put, puA, puB, puC]
          refine takeN 10 23 hHeld ?_
          simp only [Act.put, puA, puB, puC]
          refine takeN 11 24 hHeld ?_
          simp only [Act.put, puA, puB, puC]
          refine takeN 12 25 hHeld ?_
          simp only [Act.put, puA, puB, puC]
          refine takeN 13 26 hHeld ?_
          simp only [Act.put, puA, puB, puC]
          refine takeN 14 27 hHeld ?_
          simp only [Act.put, puA, puB, puC]
          refine takeL 15 28 ?_ ?_ hHeld ?_
          rotate_left
          · (intro w hSw; (try dsimp only at hSw); obtain ⟨hS1, hS2, hS3⟩ := hSw; obtain ⟨c0, c1, c2, c3, c4, c5, c6⟩ := hS3 _ _ hd.out; simp only [Box] at hS1 hS2; go_simp; try with_reducible rfl)
          simp only [Act.put, puA, puB, puC]
          refine wpAnyH_done (by kernel_rfl) ?_ _
          go_wp2_with fail
          go_roundg (es.length - (n + 1))
          case measure => omega
          case rel => exact ⟨n + 1, rfl, by omega, by go_num, fun j y hj hy => (by rcases Nat.lt_or_ge j n with h | h; exact HD.out j y h hy; have : j = n := (by omega); subst this; rw [some_one hy hd.out]; exact hno), hB, hC⟩
    · have hne : n = es.length := by omega
      have hlt' : ¬ (n : Int) < (es.length : Int) := by omega
      go_wp2_with fail
      go_ret
      exact ⟨⟨_, rfl, Or.inr ⟨rfl, fun j y hy => HD.out j y (by have := get_lt hy; omega) hy⟩⟩, hB⟩

theorem any_yes {α : Type} {p : α → Bool} {xs : List α} {n : Nat} {x : α} (h : xs[n]? = some x) (hp : p x = true) : true = xs.any p := by
  symm; rw [List.any_eq_true]; exact ⟨x, List.mem_of_getElem? h, hp⟩
theorem any_no {α : Type} {p : α → Bool} {xs : List α} (h : ∀ (j : Nat) y, xs[j]? = some y → p y = false) : false = xs.any p := by
  symm; rw [List.any_eq_false]; intro x hx
  obtain ⟨j, hj⟩ := List.mem_iff_getElem?.1 hx
  simp [h j x hj]
set_option maxRecDepth 20000 in
set_option maxHeartbeats 4000000 in
theorem l3Taken_ret (ad ln ow lo hi nw : Int) (da : Option Addr) (dn dc : Nat) (ea : Option Addr) (en ec : Nat) (k a ap b bp : Int) (port : Int) (es : List En) (w : World) (hE : EntriesAt w ea en es) (he16 : es.length ≤ 16) :
    Calls Tryz.prog 104 #[.agg #[.int .i64 ad, .int .i64 ln, .int .i64 ow, .int .i64 lo, .int .i64 hi, .slice da dn dc, .int .i64 nw, .slice ea en ec], .agg #[.int .i64 k, .int .i64 a, .int .i64 ap, .int .i64 b, .int .i64 bp], .int .i64 port] w fun e w' => e = .returned (.bool (es.any (takenE k b bp port))) ∧ Below w.heap.size w w' := by
  obtain ⟨rfl, hE⟩ := hE
  have hb0 := bl_alloc (bl_alloc (bl_refl w) (.cells #[.int .i64 ad, .int .i64 ln, .int .i64 ow, .int .i64 lo, .int .i64 hi, .slice da dn dc, .int .i64 nw, .slice ea es.length ec] 26)) (.cells #[.int .i64 k, .int .i64 a, .int .i64 ap, .int .i64 b, .int .i64 bp] 32)
  have x1 := (Box.new w #[.int .i64 ad, .int .i64 ln, .int .i64 ow, .int .i64 lo, .int .i64 hi, .slice da dn dc, .int .i64 nw, .slice ea es.length ec] 26).below (bl_alloc (bl_refl _) (.cells #[.int .i64 k, .int .i64 a, .int .i64 ap, .int .i64 b, .int .i64 bp] 32))
  have x2 := Box.new (w.alloc (.cells #[.int .i64 ad, .int .i64 ln, .int .i64 ow, .int .i64 lo, .int .i64 hi, .slice da dn dc, .int .i64 nw, .slice ea es.length ec] 26)) #[.int .i64 k, .int .i64 a, .int .i64 ap, .int .i64 b, .int .i64 bp] 32
  simp only [World.size_alloc] at x2
  go_enter Tryz.func104, Tryz.ntmps104
  go_wp2_with fail
  generalize hW0 : ((w.alloc (.cells #[.int .i64 ad, .int .i64 ln, .int .i64 ow, .int .i64 lo, .int .i64 hi, .slice da dn dc, .int .i64 nw, .slice ea es.length ec] 26)).alloc (.cells #[.int .i64 k, .int .i64 a, .int .i64 ap, .int .i64 b, .int .i64 bp] 32)) = W0 at *
  go_loopg [7] es.length (fun g i wr => ∃ n : Nat, g = es.length - n ∧ n ≤ es.length ∧ i = .int .i64 n ∧ (∀ j d, j < n → es[j]? = some d → takenE k b bp port d = false) ∧ Below w.heap.size w wr ∧ Below W0.heap.size W0 wr)
  case atStart => exact ⟨0, by omega, by omega, rfl, fun _ _ h => absurd h (by omega), hb0, bl_refl _⟩
  case round =>
    obtain ⟨n, hgn, hn, rfl, HD, hB, hC⟩ := hrel
    have HD : Hid (∀ j d, j < n → es[j]? = some d → takenE k b bp port d = false) := HD
    replace x1 := x1.below hC
    replace x2 := x2.below hC
    have y1 := x1.2
    have y2 := x2.2
    have z1 := x1.1
    have z2 := x2.1
    have hn16 : n ≤ 16 := by omega
    by_cases hlt : n < es.length
    · rcases hE with rfl | ⟨g, o, rfl, hgl, hcs⟩
      · simp at hlt
      · obtain ⟨d, hd⟩ : ∃ d, es[n]? = some d := ⟨es[n], by simp [hlt]⟩
        have hcs := hcs.below hB hgl
        have hgl : g < wr.heap.size := by have := hB.size; omega
        obtain ⟨c0, c1, c2, c3, c4, c5, c6⟩ := hcs n d hd
        have hd : Hid (es[n]? = some d) := hd
        have hlt' : (n : Int) < (es.length : Int) := by omega
        by_cases h0 : d.k = k
        · have e1 : (d.k == k) = true := by simpa using h0
          clear h0
          by_cases h0 : d.pr = b
          · have e2 : (d.pr == b) = true := by simpa using h0
            clear h0
            by_cases h0 : d.pp = bp
            · have e3 : (d.pp == bp) = true := by simpa using h0
              clear h0
              by_cases h0 : d.o = port
              · have e4 : (d.o == port) = true := by simpa using h0
                clear h0
                go_wp2_with fail
                go_ret
                exact ⟨ret_bool (any_yes hd.out (by simp [takenE, e1, e2, e3, e4])), bl_alloc hB _⟩
              · have e4 : (d.o == port) = false := by simpa using h0
                have hno : takenE k b bp port d = false := by simp [takenE, e4]
                clear h0
                go_wp2_with fail
                go_roundg (es.length - (n + 1))
                case measure => omega
                case rel => exact ⟨n + 1, rfl, by omega, by go_num, fun j y hj hy => (by rcases Nat.lt_or_ge j n with h | h; exact HD.out j y h hy; have : j = n := (by omega); subst this; rw [some_one hy hd.out]; exact hno), bl_alloc hB _, bl_alloc hC _⟩
            · have e3 : (d.pp == bp) = false := by simpa using h0
              have hno : takenE k b bp port d = false := by simp [takenE, e3]
              clear h0
              go_wp2_with fail
              go_roundg (es.length - (n + 1))
              case measure => omega
              case rel => exact ⟨n + 1, rfl, by omega, by go_num, fun j y hj hy => (by rcases Nat.lt_or_ge j n with h | h; exact HD.out j y h hy; have : j = n := (by omega); subst this; rw [some_one hy hd.out]; exact hno), bl_alloc hB _, bl_alloc hC _⟩
          · have e2 : (d.pr == b) = false := by simpa using h0
            have hno : takenE k b bp port d = false := by simp [takenE, e2]
            clear h0
            go_wp2_with fail
            go_roundg (es.length - (n + 1))
            case measure => omega
            case rel => exact ⟨n + 1, rfl, by omega, by go_num, fun j y hj hy => (by rcases Nat.lt_or_ge j n with h | h; exact HD.out j y h hy; have : j = n := (by omega); subst this; rw [some_one hy hd.out]; exact hno), bl_alloc hB _, bl_alloc hC _⟩
        · have e1 : (d.k == k) = false := by simpa using h0
          have hno : takenE k b bp port d = false := by simp [takenE, e1]
          clear h0
          go_wp2_with fail
          go_roundg (es.length - (n + 1))
          case measure => omega
          case rel => exact ⟨n + 1, rfl, by omega, by go_num, fun j y hj hy => (by rcases Nat.lt_or_ge j n with h | h; exact HD.out j y h hy; have : j = n := (by omega); subst this; rw [some_one hy hd.out]; exact hno), bl_alloc hB _, bl_alloc hC _⟩
    · have hne : n = es.length := by omega
      have hlt' : ¬ (n : Int) < (es.length : Int) := by omega
      go_wp2_with fail
      go_ret
      exact ⟨ret_bool (any_no (fun j y hy => HD.out j y (by have := get_lt hy; omega) hy)), hB⟩
theorem l3Taken_v (ad ln ow lo hi nw : Int) (da : Option Addr) (dn dc : Nat) (ea : Option Addr) (en ec : Nat) (k a ap b bp : Int) (port : Int) (r : Bool) (es : List En) (w : World) (hE : EntriesAt w ea en es) (he16 : es.length ≤ 16) (hr : es.any (takenE k b bp port) = r) :
    Calls Tryz.prog 104 #[.agg #[.int .i64 ad, .int .i64 ln, .int .i64 ow, .int .i64 lo, .int .i64 hi, .slice da dn dc, .int .i64 nw, .slice ea en ec], .agg #[.int .i64 k, .int .i64 a, .int .i64 ap, .int .i64 b, .int .i64 bp], .int .i64 port] w fun e w' => e = .returned (.bool r) ∧ Below w.heap.size w w' := by
  subst hr; exact l3Taken_ret ad ln ow lo hi nw da dn dc ea en ec k a ap b bp port es w hE he16

/-- p is the least free port from lo to hi, or 0 and none is free. -/
def FreeAt (es : List En) (k b bp lo hi p : Int) : Prop :=
  (lo ≤ p ∧ p ≤ hi ∧ es.any (takenE k b bp p) = false ∧ ∀ q, lo ≤ q → q < p → es.any (takenE k b bp q) = true) ∨ (p = 0 ∧ ∀ q, lo ≤ q → q ≤ hi → es.any (takenE k b bp q) = true)
set_option maxRecDepth 20000 in
set_option maxHeartbeats 4000000 in
theorem l3Free_ret (ad ln ow lo hi nw : Int) (da : Option Addr) (dn dc : Nat) (ea : Option Addr) (en ec : Nat) (k a ap b bp : Int) (es : List En) (w : World) (hE : EntriesAt w ea en es) (he16 : es.length ≤ 16) (h1 : 1 ≤ lo) (h2 : lo ≤ hi) (h3 : hi ≤ 65535) :
    Calls Tryz.prog 55 #[.agg #[.int .i64 ad, .int .i64 ln, .int .i64 ow, .int .i64 lo, .int .i64 hi, .slice da dn dc, .int .i64 nw, .slice ea en ec], .agg #[.int .i64 k, .int .i64 a, .int .i64 ap, .int .i64 b, .int .i64 bp]] w fun e w' => (∃ p : Int, e = .returned (.int .i64 p) ∧ FreeAt es k b bp lo hi p) ∧ Below w.heap.size w w' := by
  have hb0 := bl_alloc (bl_alloc (bl_refl w) (.cells #[.int .i64 ad, .int .i64 ln, .int .i64 ow, .int .i64 lo, .int .i64 hi, .slice da dn dc, .int .i64 nw, .slice ea en ec] 26)) (.cells #[.int .i64 k, .int .i64 a, .int .i64 ap, .int .i64 b, .int .i64 bp] 32)
  have x1 := (Box.new w #[.int .i64 ad, .int .i64 ln, .int .i64 ow, .int .i64 lo, .int .i64 hi, .slice da dn dc, .int .i64 nw, .slice ea en ec] 26).below (bl_alloc (bl_refl _) (.cells #[.int .i64 k, .int .i64 a, .int .i64 ap, .int .i64 b, .int .i64 bp] 32))
  have x2 := Box.new (w.alloc (.cells #[.int .i64 ad, .int .i64 ln, .int .i64 ow, .int .i64 lo, .int .i64 hi, .slice da dn dc, .int .i64 nw, .slice ea en ec] 26)) #[.int .i64 k, .int .i64 a, .int .i64 ap, .int .i64 b, .int .i64 bp] 32
  simp only [World.size_alloc] at x2
  have HE : Hid (∀ W, Below w.heap.size w W → EntriesAt W ea en es) := fun W h => hE.below h
  clear hE
  have y1 := x1.2
  go_enter Tryz.func55, Tryz.ntmps55
  go_wp2_with fail
  clear y1
  generalize hW0 : ((w.alloc (.cells #[.int .i64 ad, .int .i64 ln, .int .i64 ow, .int .i64 lo, .int .i64 hi, .slice da dn dc, .int .i64 nw, .slice ea en ec] 26)).alloc (.cells #[.int .i64 k, .int .i64 a, .int .i64 ap, .int .i64 b, .int .i64 bp] 32)) = W0 at *
  go_loopg [5] (hi + 1 - lo).toNat (fun g i wr => ∃ p : Int, g = (hi + 1 - p).toNat ∧ lo ≤ p ∧ p ≤ hi + 1 ∧ i = .int .i64 p ∧ (∀ q, lo ≤ q → q < p → es.any (takenE k b bp q) = true) ∧ Below w.heap.size w wr ∧ Below W0.heap.size W0 wr)
  case atStart => exact ⟨lo, rfl, by omega, by omega, rfl, fun q h1 h2 => absurd h1 (by omega), hb0, bl_refl _⟩
  case round =>
    obtain ⟨p, hgn, hp0, hp1, rfl, HD, hB, hC⟩ := hrel
    have HD : Hid (∀ q, lo ≤ q → q < p → es.any (takenE k b bp q) = true) := HD
    replace x1 := x1.below hC
    replace x2 := x2.below hC
    have y1 := x1.2
    have y2 := x2.2
    by_cases hlt : p ≤ hi
    · by_cases ht : es.any (takenE k b bp p) = true
      · go_wp2_with fail
        refine (l3Taken_v ad ln ow lo hi nw da dn dc ea en ec k a ap b bp p true es _ (HE.out _ hB) he16 ht).mono ?_
        rintro e w1 ⟨rfl, hb⟩
        go_wp2_with fail
        go_roundg (hi + 1 - (p + 1)).toNat
        case measure => omega
        case rel => exact ⟨p + 1, rfl, by omega, by omega, rfl, fun q a1 a2 => (by by_cases hq : q = p; (rw [hq]; exact ht); exact HD.out q a1 (by omega)), bl_trans hB hb, bl_trans hC hb⟩
      · have ht' : es.any (takenE k b bp p) = false := by simpa using ht
        go_wp2_with fail
        refine (l3Taken_v ad ln ow lo hi nw da dn dc ea en ec k a ap b bp p false es _ (HE.out _ hB) he16 ht').mono ?_
        rintro e w1 ⟨rfl, hb⟩
        go_wp2_with fail
        go_ret
        exact ⟨⟨p, rfl, Or.inl ⟨hp0, hlt, ht', HD.out⟩⟩, bl_trans hB hb⟩
    · go_wp2_with fail
      go_ret
      exact ⟨⟨0, rfl, Or.inr ⟨rfl, fun q a1 a2 => HD.out q a1 (by omega)⟩⟩, hB⟩
theorem l3Under_ret (ad ln ow lo hi nw : Int) (da : Option Addr) (dn dc : Nat) (ea : Option Addr) (en ec : Nat) (k a ap b bp : Int) (port : Int) (w : World) : Calls Tryz.prog 53 #[.agg #[.int .i64 ad, .int .i64 ln, .int .i64 ow, .int .i64 lo, .int .i64 hi, .slice da dn dc, .int .i64 nw, .slice ea en ec], .agg #[.int .i64 k, .int .i64 a, .int .i64 ap, .int .i64 b, .int .i64 bp], .int .i64 port] w fun e w' => e = .returned (.agg #[.int .i64 k, .int .i64 ow, .int .i64 port, .int .i64 b, .int .i64 bp]) ∧ Below w.heap.size w w' := by
  go_enter Tryz.func53, Tryz.ntmps53
  go_wp2
  refine bodyPost_ret (v := .agg #[.int .i64 k, .int .i64 ow, .int .i64 port, .int .i64 b, .int .i64 bp]) (by simp [results, Tryz.results53, go_sem]) rfl ⟨rfl, ?_⟩
  repeat (first | exact bl_refl _ | apply bl_alloc | refine bl_set ?_ (by simp) _)
end Go.Proofs.YtcgjpmhjijmplaaGreatDoor
