/- Joined: Out1, Out2. -/
import Derived.Test.YtcgjpmhjijmplaaGreatDoorSpecIn
import Derived.Test.YtcgjpmhjijmplaaGreatDoorTick2
/- The specification's l3Door, l3Entry, l3Taken, l3Free, l3Under, walked. -/
namespace Go.Proofs.YtcgjpmhjijmplaaGreatDoor
open Go.ChangeShapes Go.WideShapes Go.ChangeAt Go.RowKit Go.Maps

def sendsD (k a ap : Int) (d : Dr) : Bool := d.k == k && (d.i == a && d.p == ap)
def sendsE (nw : Int) (k a ap b bp : Int) (d : En) : Bool := flowEq d.k d.i d.ip d.pr d.pp k a ap b bp && liveB nw d.l
def takenE (k b bp port : Int) (d : En) : Bool := d.k == k && (d.pr == b && (d.pp == bp && d.o == port))
/-- i is the place of the first that meets p, or -1 and none does. -/
def FoundAt {α : Type} (p : α → Bool) (xs : List α) (i : Int) : Prop :=
  (∃ (n : Nat) (x : α), i = n ∧ xs[n]? = some x ∧ p x = true ∧ ∀ j y, j < n → xs[j]? = some y → p y = false) ∨ (i = -1 ∧ ∀ (j : Nat) y, xs[j]? = some y → p y = false)

set_option maxRecDepth 20000 in
set_option maxHeartbeats 4000000 in
theorem l3Door_ret (ad ln ow lo hi nw : Int) (da : Option Addr) (dn dc : Nat) (ea : Option Addr) (en ec : Nat) (k a ap b bp : Int) (ds : List Dr) (w : World) (hD : DoorsAt w da dn ds) (hd6 : ds.length ≤ 6) :
    Calls Tryz.prog 52 #[.agg #[.int .i64 ad, .int .i64 ln, .int .i64 ow, .int .i64 lo, .int .i64 hi, .slice da dn dc, .int .i64 nw, .slice ea en ec], .agg #[.int .i64 k, .int .i64 a, .int .i64 ap, .int .i64 b, .int .i64 bp]] w fun e w' => (∃ i : Int, e = .returned (.int .i64 i) ∧ FoundAt (sendsD k a ap) ds i) ∧ Below w.heap.size w w' := by
  obtain ⟨rfl, hD⟩ := hD
  have hb0 := bl_alloc (bl_alloc (bl_refl w) (.cells #[.int .i64 ad, .int .i64 ln, .int .i64 ow, .int .i64 lo, .int .i64 hi, .slice da ds.length dc, .int .i64 nw, .slice ea en ec] 26)) (.cells #[.int .i64 k, .int .i64 a, .int .i64 ap, .int .i64 b, .int .i64 bp] 32)
  have x1 := (Box.new w #[.int .i64 ad, .int .i64 ln, .int .i64 ow, .int .i64 lo, .int .i64 hi, .slice da ds.length dc, .int .i64 nw, .slice ea en ec] 26).below (bl_alloc (bl_refl _) (.cells #[.int .i64 k, .int .i64 a, .int .i64 ap, .int .i64 b, .int .i64 bp] 32))
  have x2 := Box.new (w.alloc (.cells #[.int .i64 ad, .int .i64 ln, .int .i64 ow, .int .i64 lo, .int .i64 hi, .slice da ds.length dc, .int .i64 nw, .slice ea en ec] 26)) #[.int .i64 k, .int .i64 a, .int .i64 ap, .int .i64 b, .int .i64 bp] 32
  simp only [World.size_alloc] at x2
  go_enter Tryz.func52, Tryz.ntmps52
  go_wp2_with fail
  generalize hW0 : ((w.alloc (.cells #[.int .i64 ad, .int .i64 ln, .int .i64 ow, .int .i64 lo, .int .i64 hi, .slice da ds.length dc, .int .i64 nw, .slice ea en ec] 26)).alloc (.cells #[.int .i64 k, .int .i64 a, .int .i64 ap, .int .i64 b, .int .i64 bp] 32)) = W0 at *
  go_loopg [5] ds.length (fun g i wr => ∃ n : Nat, g = ds.length - n ∧ n ≤ ds.length ∧ i = .int .i64 n ∧ (∀ j d, j < n → ds[j]? = some d → sendsD k a ap d = false) ∧ Below w.heap.size w wr ∧ Below W0.heap.size W0 wr)
  case atStart => exact ⟨0, by omega, by omega, rfl, fun _ _ h => absurd h (by omega), hb0, bl_refl _⟩
  case round =>
    obtain ⟨n, hgn, hn, rfl, HD, hB, hC⟩ := hrel
    have HD : Hid (∀ j d, j < n → ds[j]? = some d → sendsD k a ap d = false) := HD
    replace x1 := x1.below hC
    replace x2 := x2.below hC
    have y1 := x1.2
    have y2 := x2.2
    have hn16 : n ≤ 6 := by omega
    by_cases hlt : n < ds.length
    · rcases hD with rfl | ⟨g, o, rfl, hgl, hcs⟩
      · simp at hlt
      · obtain ⟨d, hd⟩ : ∃ d, ds[n]? = some d := ⟨ds[n], by simp [hlt]⟩
        have hcs := hcs.below hB hgl
        have hgl : g < wr.heap.size := by have := hB.size; omega
        obtain ⟨c0, c1, c2, c3⟩ := hcs n d hd
        have hd : Hid (ds[n]? = some d) := hd
        have hlt' : (n : Int) < (ds.length : Int) := by omega
        by_cases h0 : d.k = k
        · have e1 : (d.k == k) = true := by simpa using h0
          clear h0
          by_cases h0 : d.i = a
          · have e2 : (d.i == a) = true := by simpa using h0
            clear h0
            by_cases h0 : d.p = ap
            · have e3 : (d.p == ap) = true := by simpa using h0
              clear h0
              go_wp2_with fail
              go_quiet (fail)
              go_wp2_with fail
              go_ret
              exact ⟨⟨_, rfl, Or.inl ⟨n, d, rfl, hd.out, by simp [sendsD, e1, e2, e3], HD.out⟩⟩, bl_draws hB _⟩
            · have e3 : (d.p == ap) = false := by simpa using h0
              have hno : sendsD k a ap d = false := by simp [sendsD, e3]
              go_wp2_with fail
              go_quiet (fail)
              go_wp2_with fail
              go_roundg (ds.length - (n + 1))
              case measure => omega
              case rel => exact ⟨n + 1, rfl, by omega, by go_num, fun j y hj hy => (by rcases Nat.lt_or_ge j n with h | h; exact HD.out j y h hy; have : j = n := (by omega); subst this; rw [some_one hy hd.out]; exact hno), bl_draws hB _, bl_draws hC _⟩
          · have e2 : (d.i == a) = false := by simpa using h0
            have hno : sendsD k a ap d = false := by simp [sendsD, e2]
            go_wp2_with fail
            go_quiet (fail)
            go_wp2_with fail
            go_roundg (ds.length - (n + 1))
            case measure => omega
            case rel => exact ⟨n + 1, rfl, by omega, by go_num, fun j y hj hy => (by rcases Nat.lt_or_ge j n with h | h; exact HD.out j y h hy; have : j = n := (by omega); subst this; rw [some_one hy hd.out]; exact hno), bl_draws hB _, bl_draws hC _⟩
        · have e1 : (d.k == k) = false := by simpa using h0
          have hno : sendsD k a ap d = false := by simp [sendsD, e1]
          go_wp2_with fail
          go_quiet (fail)
          go_wp2_with fail
          go_roundg (ds.length - (n + 1))
          case measure => omega
          case rel => exact ⟨n + 1, rfl, by omega, by go_num, fun j y hj hy => (by rcases Nat.lt_or_ge j n with h | h; exact HD.out j y h hy; have : j = n := (by omega); subst this; rw [some_one hy hd.out]; exact hno), bl_draws hB _, bl_draws hC _⟩
    · have hne : n = ds.length := by omega
      have hlt' : ¬ (n : Int) < (ds.length : Int) := by omega
      go_wp2_with fail
      go_ret
      exact ⟨⟨_, rfl, Or.inr ⟨rfl, fun j y hy => HD.out j y (by have := get_lt hy; omega) hy⟩⟩, hB⟩

theorem l2Is_v (d : En) (k a ap b bp : Int) (r : Bool) (w : World) (hr : flowEq d.k d.i d.ip d.pr d.pp k a ap b bp = r) : Calls Tryz.prog 103 #[.agg #[.int .i64 d.k, .int .i64 d.pr, .int .i64 d.pp, .int .i64 d.o, .int .i64 d.i, .int .i64 d.ip, .int .i64 d.l], .agg #[.int .i64 k, .int .i64 a, .int .i64 ap, .int .i64 b, .int .i64 bp]] w fun e w' => e = .returned (.bool r) ∧ Below w.heap.size w w' := by
  subst hr; exact l2Is_ret d.k d.pr d.pp d.o d.i d.ip d.l k a ap b bp w
set_option maxRecDepth 20000 in
set_option maxHeartbeats 4000000 in
theorem l3Entry_ret (ad ln ow lo hi nw : Int) (da : Option Addr) (dn dc : Nat) (ea : Option Addr) (en ec : Nat) (k a ap b bp : Int) (es : List En) (w : World) (hE : EntriesAt w ea en es) (he16 : es.length ≤ 16) (n0 : 0 ≤ nw) (n1 : nw ≤ 1000000) (hla : ∀ (i : Nat) d, es[i]? = some d → 0 ≤ d.l ∧ d.l ≤ nw) :
    Calls Tryz.prog 54 #[.agg #[.int .i64 ad, .int .i64 ln, .int .i64 ow, .int .i64 lo, .int .i64 hi, .slice da dn dc, .int .i64 nw, .slice ea en ec], .agg #[.int .i64 k, .int .i64 a, .int .i64 ap, .int .i64 b, .int .i64 bp]] w fun e w' => (∃ i : Int, e = .returned (.int .i64 i) ∧ FoundAt (sendsE nw k a ap b bp) es i) ∧ Below w.heap.size w w' := by
  obtain ⟨rfl, hE⟩ := hE
  have hb0 := bl_alloc (bl_alloc (bl_refl w) (.cells #[.int .i64 ad, .int .i64 ln, .int .i64 ow, .int .i64 lo, .int .i64 hi, .slice da dn dc, .int .i64 nw, .slice ea es.length ec] 26)) (.cells #[.int .i64 k, .int .i64 a, .int .i64 ap, .int .i64 b, .int .i64 bp] 32)
  have x1 := (Box.new w #[.int .i64 ad, .int .i64 ln, .int .i64 ow, .int .i64 lo, .int .i64 hi, .slice da dn dc, .int .i64 nw, .slice ea es.length ec] 26).below (bl_alloc (bl_refl _) (.cells #[.int .i64 k, .int .i64 a, .int .i64 ap, .int .i64 b, .int .i64 bp] 32))
  have x2 := Box.new (w.alloc (.cells #[.int .i64 ad, .int .i64 ln, .int .i64 ow, .int .i64 lo, .int .i64 hi, .slice da dn dc, .int .i64 nw, .slice ea es.length ec] 26)) #[.int .i64 k, .int .i64 a, .int .i64 ap, .int .i64 b, .int .i64 bp] 32
  simp only [World.size_alloc] at x2
  have hla : Hid (∀ (i : Nat) d, es[i]? = some d → 0 ≤ d.l ∧ d.l ≤ nw) := hla
  go_enter Tryz.func54, Tryz.ntmps54
  go_wp2_with fail
  generalize hW0 : ((w.alloc (.cells #[.int .i64 ad, .int .i64 ln, .int .i64 ow, .int .i64 lo, .int .i64 hi, .slice da dn dc, .int .i64 nw, .slice ea es.length ec] 26)).alloc (.cells #[.int .i64 k, .int .i64 a, .int .i64 ap, .int .i64 b, .int .i64 bp] 32)) = W0 at *
  go_loopg [5] es.length (fun g i wr => ∃ n : Nat, g = es.length - n ∧ n ≤ es.length ∧ i = .int .i64 n ∧ (∀ j d, j < n → es[j]? = some d → sendsE nw k a ap b bp d = false) ∧ Below w.heap.size w wr ∧ Below W0.heap.size W0 wr)
  case atStart => exact ⟨0, by omega, by omega, rfl, fun _ _ h => absurd h (by omega), hb0, bl_refl _⟩
  case round =>
    obtain ⟨n, hgn, hn, rfl, HD, hB, hC⟩ := hrel
    have HD : Hid (∀ j d, j < n → es[j]? = some d → sendsE nw k a ap b bp d = false) := HD
    replace x1 := x1.below hC
    replace x2 := x2.below hC
    have y1 := x1.2
    have y2 := x2.2
    have hn16 : n ≤ 16 := by omega
    by_cases hlt : n < es.length
    · rcases hE with rfl | ⟨g, o, rfl, hgl, hcs⟩
      · simp at hlt
      · obtain ⟨d, hd⟩ : ∃ d, es[n]? = some d := ⟨es[n], by simp [hlt]⟩
        have hcs := hcs.below hB hgl
        have hgl : g < wr.heap.size := by have := hB.size; omega
        obtain ⟨q0, q1⟩ := hla.out n d hd
        have hlt' : (n : Int) < (es.length : Int) := by omega
        have hd : Hid (es[n]? = some d) := hd
        go_wp2_with fail
        obtain ⟨c0, c1, c2, c3, c4, c5, c6⟩ := hcs n d hd.out
        clear c0 c1 c2 c3 c4 c5 c6 y1 y2
        by_cases h0 : flowEq d.k d.i d.ip d.pr d.pp k a ap b bp = true
        · have e1 : flowEq d.k d.i d.ip d.pr d.pp k a ap b bp = true := h0
          clear h0
          by_cases h0 : liveB nw d.l = true
          · have e2 : liveB nw d.l = true := h0
            clear h0
            refine wp_region_held_drew (S := (fun w' => Box w' w.heap.size #[.int .i64 ad, .int .i64 ln, .int .i64 ow, .int .i64 lo, .int .i64 hi, .slice da dn dc, .int .i64 nw, .slice (some ⟨g, o, none⟩) es.length ec] ∧ Box w' (w.heap.size + 1) #[.int .i64 k, .int .i64 a, .int .i64 ap, .int .i64 b, .int .i64 bp] ∧ EnCells w' g o es)) (by kernel_rfl) ?_ (fun hHeld => ?_)
            · exact ⟨x1.below (bl_drew (bl_refl _)), x2.below (bl_drew (bl_refl _)), hcs.below (bl_drew (bl_refl _)) hgl⟩
            have hlq := bl_drew (bl_refl wr)
            have hB := bl_trans hB hlq
            have hC := bl_trans hC hlq
            have x1 := x1.below hlq
            have x2 := x2.below hlq
            have hcs := hcs.below hlq hgl
            have hgl : g < wr.drew.heap.size := hgl
            clear hlq
            generalize wr.drew = Wd at x1 x2 hcs hgl hB hC hHeld ⊢
            refine takeL 0 13 ?_ ?_ hHeld ?_
            rotate_left
            · (intro w hSw; (try dsimp only at hSw); obtain ⟨hS1, hS2, hS3⟩ := hSw; obtain ⟨c0, c1, c2, c3, c4, c5, c6⟩ := hS3 _ _ hd.out; simp only [Box] at hS1 hS2; go_simp; try with_reducible rfl)
            simp only [Act.put, puA, puB, puC]
            refine takeL 1 14 ?_ ?_ hHeld ?_
            rotate_left
            · (intro w hSw; (try dsimp only at hSw); obtain ⟨hS1, hS2, hS3⟩ := hSw; obtain ⟨c0, c1, c2, c3, c4, c5, c6⟩ := hS3 _ _ hd.out; simp only [Box] at hS1 hS2; go_simp; try with_reducible rfl)
            simp only [Act.put, puA, puB, puC]
            refine takeL 2 15 ?_ ?_ hHeld ?_
            rotate_left
            · (intro w hSw; (try dsimp only at hSw); obtain ⟨hS1, hS2, hS3⟩ := hSw; obtain ⟨c0, c1, c2, c3, c4, c5, c6⟩ := hS3 _ _ hd.out; simp only [Box] at hS1 hS2; go_simp; try with_reducible rfl)
            simp only [Act.put, puA, puB, puC]
            refine takeL 3 16 ?_ ?_ hHeld ?_
            rotate_left
            · (intro w hSw; (try dsimp only at hSw); obtain ⟨hS1, hS2, hS3⟩ := hSw; obtain ⟨c0, c1, c2, c3, c4, c5, c6⟩ := hS3 _ _ hd.out; simp only [Box] at hS1 hS2; go_simp; try with_reducible rfl)
            simp only [Act.put, puA, puB, puC]
            refine takeL 4 17 ?_ ?_ hHeld ?_
            rotate_left
            · (intro w hSw; (try dsimp only at hSw); obtain ⟨hS1, hS2, hS3⟩ := hSw; obtain ⟨c0, c1, c2, c3, c4, c5, c6⟩ := hS3 _ _ hd.out; simp only [Box] at hS1 hS2; go_simp; try with_reducible rfl)
            simp only [Act.put, puA, puB, puC]
            refine takeL 5 18 ?_ ?_ hHeld ?_
            rotate_left
            · (intro w hSw; (try dsimp only at hSw); obtain ⟨hS1, hS2, hS3⟩ := hSw; obtain ⟨c0, c1, c2, c3, c4, c5, c6⟩ := hS3 _ _ hd.out; simp only [Box] at hS1 hS2; go_simp; try with_reducible rfl)
            simp only [Act.put, puA, puB, puC]
            refine wpAnyH_ready (rs := [6]) (by kernel_rfl) (by simp) (AllReadyH.cons rfl (fun K hK => ?_) (AllReadyH.nil))
            refine step_callg 19 103 rfl (by kernel_rfl) (l2Is_v d k a ap b bp true _ e1) (by kernel_rfl) ?_
            rintro e W ⟨rfl, hb⟩
            refine ⟨_, rfl, ?_⟩
            simp only [Act.put, puA, puB, puC]
            replace hB := bl_trans hB hb
            replace hC := bl_trans hC hb
            replace x1 := x1.below hb
            replace x2 := x2.below hb
            replace hcs := hcs.below hb hgl
            replace hgl := Nat.lt_of_lt_of_le hgl hb.size
            clear hb
            refine hK.out _ _ ?_ (fun hHeld1 => ?_)
            · exact ⟨x1, x2, hcs⟩
            clear hK K hHeld
            have hHeld := hHeld1
            clear hHeld1
            refine takeL 7 20 ?_ ?_ hHeld ?_
            rotate_left
            · (intro w hSw; (try dsimp only at hSw); obtain ⟨hS1, hS2, hS3⟩ := hSw; obtain ⟨c0, c1, c2, c3, c4, c5, c6⟩ := hS3 _ _ hd.out; simp only [Box] at hS1 hS2; go_simp; try with_reducible rfl)
            simp only [Act.put, puA, puB, puC]
            refine takeL 8 21 ?_ ?_ hHeld ?_
            rotate_left
            · (intro w hSw; (try dsimp only at hSw); obtain ⟨hS1, hS2, hS3⟩ := hSw; obtain ⟨c0, c1, c2, c3, c4, c5, c6⟩ := hS3 _ _ hd.out; simp only [Box] at hS1 hS2; go_simp; try with_reducible rfl)
            simp only [Act.put, puA, puB, puC]
            refine takeL 9 22 ?_ ?_ hHeld ?_
            rotate_left
            · (intro w hSw; (try dsimp only at hSw); obtain ⟨hS1, hS2, hS3⟩ := hSw; obtain ⟨c0, c1, c2, c3, c4, c5, c6⟩ := hS3 _ _ hd.out; simp only [Box] at hS1 hS2; go_simp; try with_reducible rfl)
            simp only [Act.put, puA, puB, puC]
            refine takeL 10 23 ?_ ?_ hHeld ?_
            rotate_left
            · (intro w hSw; (try dsimp only at hSw); obtain ⟨hS1, hS2, hS3⟩ := hSw; obtain ⟨c0, c1, c2, c3, c4, c5, c6⟩ := hS3 _ _ hd.out; simp only [Box] at hS1 hS2; go_simp; try with_reducible rfl)
            simp only [Act.put, puA, puB, puC]
            refine takeL 11 24 ?_ ?_ hHeld ?_
            rotate_left
            · (intro w hSw; (try dsimp only at hSw); obtain ⟨hS1, hS2, hS3⟩ := hSw; obtain ⟨c0, c1, c2, c3, c4, c5, c6⟩ := hS3 _ _ hd.out; simp only [Box] at hS1 hS2; go_simp; try with_reducible rfl)
            simp only [Act.put, puA, puB, puC]
            refine takeL 12 25 ?_ ?_ hHeld ?_
            rotate_left
            · (intro w hSw; (try dsimp only at hSw); obtain ⟨hS1, hS2, hS3⟩ := hSw; obtain ⟨c0, c1, c2, c3, c4, c5, c6⟩ := hS3 _ _ hd.out; simp only [Box] at hS1 hS2; go_simp; try with_reducible rfl)
            simp only [Act.put, puA, puB, puC]
            refine takeL 13 26 ?_ ?_ hHeld ?_
            rotate_left
            · (intro w hSw; (try dsimp only at hSw); obtain ⟨hS1, hS2, hS3⟩ := hSw; obtain ⟨c0, c1, c2, c3, c4, c5, c6⟩ := hS3 _ _ hd.out; simp only [Box] at hS1 hS2; go_simp; try with_reducible rfl)
            simp only [Act.put, puA, puB, puC]
            refine wpAnyH_ready (rs := [14]) (by kernel_rfl) (by simp) (AllReadyH.cons rfl (fun K hK => ?_) (AllReadyH.nil))
            refine step_callg 27 65 rfl (by kernel_rfl) (l2Live_v ad ln ow lo hi nw da dn dc (some ⟨g, o, none⟩) es.length ec d true _ n0 n1 q0 q1 e2) (by kernel_rfl) ?_
            rintro e W ⟨rfl, hb⟩
            refine ⟨_, rfl, ?_⟩
            simp only [Act.put, puA, puB, puC]
            replace hB := bl_trans hB hb
            replace hC := bl_trans hC hb
            replace x1 := x1.below hb
            replace x2 := x2.below hb
            replace hcs := hcs.below hb hgl
            replace hgl := Nat.lt_of_lt_of_le hgl hb.size
            clear hb
            refine hK.out _ _ ?_ (fun hHeld1 => ?_)
            · exact ⟨x1, x2, hcs⟩
            clear hK K hHeld
            have hHeld := hHeld1
            clear hHeld1
            refine takeL 15 28 ?_ ?_ hHeld ?_
            rotate_left
            · (intro w hSw; (try dsimp only at hSw); obtain ⟨hS1, hS2, hS3⟩ := hSw; obtain ⟨c0, c1, c2, c3, c4, c5, c6⟩ := hS3 _ _ hd.out; simp only [Box] at hS1 hS2; go_simp; try with_reducible rfl)
            simp only [Act.put, puA, puB, puC]
            refine wpAnyH_done (by kernel_rfl) ?_ _
            go_wp2_with fail
            go_ret
            exact ⟨⟨_, rfl, Or.inl ⟨n, d, rfl, hd.out, by simp [sendsE, e1, e2], HD.out⟩⟩, hB⟩
          · have e2 : liveB nw d.l = false := by simpa using h0
            have hno : sendsE nw k a ap b bp d = false := by simp [sendsE, e2]
            clear h0
            refine wp_region_held_drew (S := (fun w' => Box w' w.heap.size #[.int .i64 ad, .int .i64 ln, .int .i64 ow, .int .i64 lo, .int .i64 hi, .slice da dn dc, .int .i64 nw, .slice (some ⟨g, o, none⟩) es.length ec] ∧ Box w' (w.heap.size + 1) #[.int .i64 k, .int .i64 a, .int .i64 ap, .int .i64 b, .int .i64 bp] ∧ EnCells w' g o es)) (by kernel_rfl) ?_ (fun hHeld => ?_)
            · exact ⟨x1.below (bl_drew (bl_refl _)), x2.below (bl_drew (bl_refl _)), hcs.below (bl_drew (bl_refl _)) hgl⟩
            have hlq := bl_drew (bl_refl wr)
            have hB := bl_trans hB hlq
            have hC := bl_trans hC hlq
            have x1 := x1.below hlq
            have x2 := x2.below hlq
            have hcs := hcs.below hlq hgl
            have hgl : g < wr.drew.heap.size := hgl
            clear hlq
            generalize wr.drew = Wd at x1 x2 hcs hgl hB hC hHeld ⊢
            refine takeL 0 13 ?_ ?_ hHeld ?_
            rotate_left
            · (intro w hSw; (try dsimp only at hSw); obtain ⟨hS1, hS2, hS3⟩ := hSw; obtain ⟨c0, c1, c2, c3, c4, c5, c6⟩ := hS3 _ _ hd.out; simp only [Box] at hS1 hS2; go_simp; try with_reducible rfl)
            simp only [Act.put, puA, puB, puC]
            refine takeL 1 14 ?_ ?_ hHeld ?_
            rotate_left
            · (intro w hSw; (try dsimp only at hSw); obtain ⟨hS1, hS2, hS3⟩ := hSw; obtain ⟨c0, c1, c2, c3, c4, c5, c6⟩ := hS3 _ _ hd.out; simp only [Box] at hS1 hS2; go_simp; try with_reducible rfl)
            simp only [Act.put, puA, puB, puC]
            refine takeL 2 15 ?_ ?_ hHeld ?_
            rotate_left
            · (intro w hSw; (try dsimp only at hSw); obtain ⟨hS1, hS2, hS3⟩ := hSw; obtain ⟨c0, c1, c2, c3, c4, c5, c6⟩ := hS3 _ _ hd.out; simp only [Box] at hS1 hS2; go_simp; try with_reducible rfl)
            simp only [Act.put, puA, puB, puC]
            refine takeL 3 16 ?_ ?_ hHeld ?_
            rotate_left
            · (intro w hSw; (try dsimp only at hSw); obtain ⟨hS1, hS2, hS3⟩ := hSw; obtain ⟨c0, c1, c2, c3, c4, c5, c6⟩ := hS3 _ _ hd.out; simp only [Box] at hS1 hS2; go_simp; try with_reducible rfl)
            simp only [Act.put, puA, puB, puC]
            refine takeL 4 17 ?_ ?_ hHeld ?_
            rotate_left
            · (intro w hSw; (try dsimp only at hSw); obtain ⟨hS1, hS2, hS3⟩ := hSw; obtain ⟨c0, c1, c2, c3, c4, c5, c6⟩ := hS3 _ _ hd.out; simp only [Box] at hS1 hS2; go_simp; try with_reducible rfl)
            simp only [Act.put, puA, puB, puC]
            refine takeL 5 18 ?_ ?_ hHeld ?_
            rotate_left
            · (intro w hSw; (try dsimp only at hSw); obtain ⟨hS1, hS2, hS3⟩ := hSw; obtain ⟨c0, c1, c2, c3, c4, c5, c6⟩ := hS3 _ _ hd.out; simp only [Box] at hS1 hS2; go_simp; try with_reducible rfl)
            simp only [Act.put, puA, puB, puC]
            refine wpAnyH_ready (rs := [6]) (by kernel_rfl) (by simp) (AllReadyH.cons rfl (fun K hK => ?_) (AllReadyH.nil))
            refine step_callg 19 103 rfl (by kernel_rfl) (l2Is_v d k a ap b bp true _ e1) (by kernel_rfl) ?_
            rintro e W ⟨rfl, hb⟩
            refine ⟨_, rfl, ?_⟩
            simp only [Act.put, puA, puB, puC]
            replace hB := bl_trans hB hb
            replace hC := bl_trans hC hb
            replace x1 := x1.below hb
            replace x2 := x2.below hb
            replace hcs := hcs.below hb hgl
            replace hgl := Nat.lt_of_lt_of_le hgl hb.size
            clear hb
            refine hK.out _ _ ?_ (fun hHeld1 => ?_)
            · exact ⟨x1, x2, hcs⟩
            clear hK K hHeld
            have hHeld := hHeld1
            clear hHeld1
            refine takeL 7 20 ?_ ?_ hHeld ?_
            rotate_left
            · (intro w hSw; (try dsimp only at hSw); obtain ⟨hS1, hS2, hS3⟩ := hSw; obtain ⟨c0, c1, c2, c3, c4, c5, c6⟩ := hS3 _ _ hd.out; simp only [Box] at hS1 hS2; go_simp; try with_reducible rfl)
            simp only [Act.put, puA, puB, puC]
            refine takeL 8 21 ?_ ?_ hHeld ?_
            rotate_left
            · (intro w hSw; (try dsimp only at hSw); obtain ⟨hS1, hS2, hS3⟩ := hSw; obtain ⟨c0, c1, c2, c3, c4, c5, c6⟩ := hS3 _ _ hd.out; simp only [Box] at hS1 hS2; go_simp; try with_reducible rfl)
            simp only [Act.put, puA, puB, puC]
            refine takeL 9 22 ?_ ?_ hHeld ?_
            rotate_left
            · (intro w hSw; (try dsimp only at hSw); obtain ⟨hS1, hS2, hS3⟩ := hSw; obtain ⟨c0, c1, c2, c3, c4, c5, c6⟩ := hS3 _ _ hd.out; simp only [Box] at hS1 hS2; go_simp; try with_reducible rfl)
            simp only [Act.put, puA, puB, puC]
            refine takeL 10 23 ?_ ?_ hHeld ?_
            rotate_left
            · (intro w hSw; (try dsimp only at hSw); obtain ⟨hS1, hS2, hS3⟩ := hSw; obtain ⟨c0, c1, c2, c3, c4, c5, c6⟩ := hS3 _ _ hd.out; simp only [Box] at hS1 hS2; go_simp; try with_reducible rfl)
            simp only [Act.put, puA, puB, puC]
            refine takeL 11 24 ?_ ?_ hHeld ?_
            rotate_left
            · (intro w hSw; (try dsimp only at hSw); obtain ⟨hS1, hS2, hS3⟩ := hSw; obtain ⟨c0, c1, c2, c3, c4, c5, c6⟩ := hS3 _ _ hd.out; simp only [Box] at hS1 hS2; go_simp; try with_reducible rfl)
            simp only [Act.put, puA, puB, puC]
            refine takeL 12 25 ?_ ?_ hHeld ?_
            rotate_left
            · (intro w hSw; (try dsimp only at hSw); obtain ⟨hS1, hS2, hS3⟩ := hSw; obtain ⟨c0, c1, c2, c3, c4, c5, c6⟩ := hS3 _ _ hd.out; simp only [Box] at hS1 hS2; go_simp; try with_reducible rfl)
            simp only [Act.put, puA, puB, puC]
            refine takeL 13 26 ?_ ?_ hHeld ?_
            rotate_left
            · (intro w hSw; (try dsimp only at hSw); obtain ⟨hS1, hS2, hS3⟩ := hSw; obtain ⟨c0, c1, c2, c3, c4, c5, c6⟩ := hS3 _ _ hd.out; simp only [Box] at hS1 hS2; go_simp; try with_reducible rfl)
            simp only [Act.put, puA, puB, puC]
            refine wpAnyH_ready (rs := [14]) (by kernel_rfl) (by simp) (AllReadyH.cons rfl (fun K hK => ?_) (AllReadyH.nil))
            refine step_callg 27 65 rfl (by kernel_rfl) (l2Live_v ad ln ow lo hi nw da dn dc (some ⟨g, o, none⟩) es.length ec d false _ n0 n1 q0 q1 e2) (by kernel_rfl) ?_
            rintro e W ⟨rfl, hb⟩
            refine ⟨_, rfl, ?_⟩
            simp only [Act.put, puA, puB, puC]
            replace hB := bl_trans hB hb
            replace hC := bl_trans hC hb
            replace x1 := x1.below hb
            replace x2 := x2.below hb
            replace hcs := hcs.below hb hgl
            replace hgl := Nat.lt_of_lt_of_le hgl hb.size
            clear hb
            refine hK.out _ _ ?_ (fun hHeld1 => ?_)
            · exact ⟨x1, x2, hcs⟩
            clear hK K hHeld
            have hHeld := hHeld1
            clear hHeld1
            refine takeL 15 28 ?_ ?_ hHeld ?_
            rotate_left
            · (intro w hSw; (try dsimp only at hSw); obtain ⟨hS1, hS2, hS3⟩ := hSw; obtain ⟨c0, c1, c2, c3, c4, c5, c6⟩ := hS3 _ _ hd.out; simp only [Box] at hS1 hS2; go_simp; try with_reducible rfl)
            simp only [Act.put, puA, puB, puC]
            refine wpAnyH_done (by kernel_rfl) ?_ _
            go_wp2_with fail
            go_roundg (es.length - (n + 1))
            case measure => omega
            case rel => exact ⟨n + 1, rfl, by omega, by go_num, fun j y hj hy => (by rcases Nat.lt_or_ge j n with h | h; exact HD.out j y h hy; have : j = n := (by omega); subst this; rw [some_one hy hd.out]; exact hno), hB, hC⟩
        · have e1 : flowEq d.k d.i d.ip d.pr d.pp k a ap b bp = false := by simpa using h0
          have hno : sendsE nw k a ap b bp d = false := by simp [sendsE, e1]
          clear h0
          refine wp_region_held_drew (S := (fun w' => Box w' w.heap.size #[.int .i64 ad, .int .i64 ln, .int .i64 ow, .int .i64 lo, .int .i64 hi, .slice da dn dc, .int .i64 nw, .slice (some ⟨g, o, none⟩) es.length ec] ∧ Box w' (w.heap.size + 1) #[.int .i64 k, .int .i64 a, .int .i64 ap, .int .i64 b, .int .i64 bp] ∧ EnCells w' g o es)) (by kernel_rfl) ?_ (fun hHeld => ?_)
          · exact ⟨x1.below (bl_drew (bl_refl _)), x2.below (bl_drew (bl_refl _)), hcs.below (bl_drew (bl_refl _)) hgl⟩
          have hlq := bl_drew (bl_refl wr)
          have hB := bl_trans hB hlq
          have hC := bl_trans hC hlq
          have x1 := x1.below hlq
          have x2 := x2.below hlq
          have hcs := hcs.below hlq hgl
          have hgl : g < wr.drew.heap.size := hgl
          clear hlq
          generalize wr.drew = Wd at x1 x2 hcs hgl hB hC hHeld ⊢
          refine takeL 0 13 ?_ ?_ hHeld ?_
          rotate_left
          · (intro w hSw; (try dsimp only at hSw); obtain ⟨hS1, hS2, hS3⟩ := hSw; obtain ⟨c0, c1, c2, c3, c4, c5, c6⟩ := hS3 _ _ hd.out; simp only [Box] at hS1 hS2; go_simp; try with_reducible rfl)
          simp only [Act.put, puA, puB, puC]
          refine takeL 1 14 ?_ ?_ hHeld ?_
          rotate_left
          · (intro w hSw; (try dsimp only at hSw); obtain ⟨hS1, hS2, hS3⟩ := hSw; obtain ⟨c0, c1, c2, c3, c4, c5, c6⟩ := hS3 _ _ hd.out; simp only [Box] at hS1 hS2; go_simp; try with_reducible rfl)
          simp only [Act.put, puA, puB, puC]
          refine takeL 2 15 ?_ ?_ hHeld ?_
          rotate_left
          · (intro w hSw; (try dsimp only at hSw); obtain ⟨hS1, hS2, hS3⟩ := hSw; obtain ⟨c0, c1, c2, c3, c4, c5, c6⟩ := hS3 _ _ hd.out; simp only [Box] at hS1 hS2; go_simp; try with_reducible rfl)
          simp only [Act.put, puA, puB, puC]
          refine takeL 3 16 ?_ ?_ hHeld ?_
          rotate_left
          · (intro w hSw; (try dsimp only at hSw); obtain ⟨hS1, hS2, hS3⟩ := hSw; obtain ⟨c0, c1, c2, c3, c4, c5, c6⟩ := hS3 _ _ hd.out; simp only [Box] at hS1 hS2; go_simp; try with_reducible rfl)
          simp only [Act.put, puA, puB, puC]
          refine takeL 4 17 ?_ ?_ hHeld ?_
          rotate_left
          · (intro w hSw; (try dsimp only at hSw); obtain ⟨hS1, hS2, hS3⟩ := hSw; obtain ⟨c0, c1, c2, c3, c4, c5, c6⟩ := hS3 _ _ hd.out; simp only [Box] at hS1 hS2; go_simp; try with_reducible rfl)
          simp only [Act.put, puA, puB, puC]
          refine takeL 5 18 ?_ ?_ hHeld ?_
          rotate_left
          · (intro w hSw; (try dsimp only at hSw); obtain ⟨hS1, hS2, hS3⟩ := hSw; obtain ⟨c0, c1, c2, c3, c4, c5, c6⟩ := hS3 _ _ hd.out; simp only [Box] at hS1 hS2; go_simp; try with_reducible rfl)
          simp only [Act.put, puA, puB, puC]
          refine wpAnyH_ready (rs := [6]) (by kernel_rfl) (by simp) (AllReadyH.cons rfl (fun K hK => ?_) (AllReadyH.nil))
          refine step_callg 19 103 rfl (by kernel_rfl) (l2Is_v d k a ap b bp false _ e1) (by kernel_rfl) ?_
          rintro e W ⟨rfl, hb⟩
          refine ⟨_, rfl, ?_⟩
          simp only [Act.put, puA, puB, puC]
          replace hB := bl_trans hB hb
          replace hC := bl_trans hC hb
          replace x1 := x1.below hb
          replace x2 := x2.below hb
          replace hcs := hcs.below hb hgl
          replace hgl := Nat.lt_of_lt_of_le hgl hb.size
          clear hb
          refine hK.out _ _ ?_ (fun hHeld1 => ?_)
          · exact ⟨x1, x2, hcs⟩
          clear hK K hHeld
          have hHeld := hHeld1
          clear hHeld1
          refine takeL 7 20 ?_ ?_ hHeld ?_
          rotate_left
          · (intro w hSw; (try dsimp only at hSw); obtain ⟨hS1, hS2, hS3⟩ := hSw; obtain ⟨c0, c1, c2, c3, c4, c5, c6⟩ := hS3 _ _ hd.out; simp only [Box] at hS1 hS2; go_simp; try with_reducible rfl)
          simp only [Act.put, puA, puB, puC]
          refine takeN 8 21 hHeld ?_
          simp only [Act.put, puA, puB, puC]
          refine takeN 9 22 hHeld ?_
          simp only [Act.put, puA, puB, puC]
          refine takeN 10 23 hHeld ?_
          simp only [Act.put, puA, puB, puC]
          refine takeN 11 24 hHeld ?_
          simp only [Act.put, puA, puB, puC]
          refine takeN 12 25 hHeld ?_
          simp only [Act.put, puA, puB, puC]
          refine takeN 13 26 hHeld ?_
          simp only [Act.put, puA, puB, puC]
          refine takeN 14 27 hHeld ?_
          simp only [Act.put, puA, puB, puC]
          refine takeL 15 28 ?_ ?_ hHeld ?_
          rotate_left
          · (intro w hSw; (try dsimp only at hSw); obtain ⟨hS1, hS2, hS3⟩ := hSw; obtain ⟨c0, c1, c2, c3, c4, c5, c6⟩ := hS3 _ _ hd.out; simp only [Box] at hS1 hS2; go_simp; try with_reducible rfl)
          simp only [Act.put, puA, puB, puC]
          refine wpAnyH_done (by kernel_rfl) ?_ _
          go_wp2_with fail
          go_roundg (es.length - (n + 1))
          case measure => omega
          case rel => exact ⟨n + 1, rfl, by omega, by go_num, fun j y hj hy => (by rcases Nat.lt_or_ge j n with h | h; exact HD.out j y h hy; have : j = n := (by omega); subst this; rw [some_one hy hd.out]; exact hno), hB, hC⟩
    · have hne : n = es.length := by omega
      have hlt' : ¬ (n : Int) < (es.length : Int) := by omega
      go_wp2_with fail
      go_ret
      exact ⟨⟨_, rfl, Or.inr ⟨rfl, fun j y hy => HD.out j y (by have := get_lt hy; omega) hy⟩⟩, hB⟩

theorem any_yes {α : Type} {p : α → Bool} {xs : List α} {n : Nat} {x : α} (h : xs[n]? = some x) (hp : p x = true) : true = xs.any p := by
  symm; rw [List.any_eq_true]; exact ⟨x, List.mem_of_getElem? h, hp⟩
theorem any_no {α : Type} {p : α → Bool} {xs : List α} (h : ∀ (j : Nat) y, xs[j]? = some y → p y = false) : false = xs.any p := by
  symm; rw [List.any_eq_false]; intro x hx
  obtain ⟨j, hj⟩ := List.mem_iff_getElem?.1 hx
  simp [h j x hj]
set_option maxRecDepth 20000 in
set_option maxHeartbeats 4000000 in
theorem l3Taken_ret (ad ln ow lo hi nw : Int) (da : Option Addr) (dn dc : Nat) (ea : Option Addr) (en ec : Nat) (k a ap b bp : Int) (port : Int) (es : List En) (w : World) (hE : EntriesAt w ea en es) (he16 : es.length ≤ 16) :
    Calls Tryz.prog 104 #[.agg #[.int .i64 ad, .int .i64 ln, .int .i64 ow, .int .i64 lo, .int .i64 hi, .slice da dn dc, .int .i64 nw, .slice ea en ec], .agg #[.int .i64 k, .int .i64 a, .int .i64 ap, .int .i64 b, .int .i64 bp], .int .i64 port] w fun e w' => e = .returned (.bool (es.any (takenE k b bp port))) ∧ Below w.heap.size w w' := by
  obtain ⟨rfl, hE⟩ := hE
  have hb0 := bl_alloc (bl_alloc (bl_refl w) (.cells #[.int .i64 ad, .int .i64 ln, .int .i64 ow, .int .i64 lo, .int .i64 hi, .slice da dn dc, .int .i64 nw, .slice ea es.length ec] 26)) (.cells #[.int .i64 k, .int .i64 a, .int .i64 ap, .int .i64 b, .int .i64 bp] 32)
  have x1 := (Box.new w #[.int .i64 ad, .int .i64 ln, .int .i64 ow, .int .i64 lo, .int .i64 hi, .slice da dn dc, .int .i64 nw, .slice ea es.length ec] 26).below (bl_alloc (bl_refl _) (.cells #[.int .i64 k, .int .i64 a, .int .i64 ap, .int .i64 b, .int .i64 bp] 32))
  have x2 := Box.new (w.alloc (.cells #[.int .i64 ad, .int .i64 ln, .int .i64 ow, .int .i64 lo, .int .i64 hi, .slice da dn dc, .int .i64 nw, .slice ea es.length ec] 26)) #[.int .i64 k, .int .i64 a, .int .i64 ap, .int .i64 b, .int .i64 bp] 32
  simp only [World.size_alloc] at x2
  go_enter Tryz.func104, Tryz.ntmps104
  go_wp2_with fail
  generalize hW0 : ((w.alloc (.cells #[.int .i64 ad, .int .i64 ln, .int .i64 ow, .int .i64 lo, .int .i64 hi, .slice da dn dc, .int .i64 nw, .slice ea es.length ec] 26)).alloc (.cells #[.int .i64 k, .int .i64 a, .int .i64 ap, .int .i64 b, .int .i64 bp] 32)) = W0 at *
  go_loopg [7] es.length (fun g i wr => ∃ n : Nat, g = es.length - n ∧ n ≤ es.length ∧ i = .int .i64 n ∧ (∀ j d, j < n → es[j]? = some d → takenE k b bp port d = false) ∧ Below w.heap.size w wr ∧ Below W0.heap.size W0 wr)
  case atStart => exact ⟨0, by omega, by omega, rfl, fun _ _ h => absurd h (by omega), hb0, bl_refl _⟩
  case round =>
    obtain ⟨n, hgn, hn, rfl, HD, hB, hC⟩ := hrel
    have HD : Hid (∀ j d, j < n → es[j]? = some d → takenE k b bp port d = false) := HD
    replace x1 := x1.below hC
    replace x2 := x2.below hC
    have y1 := x1.2
    have y2 := x2.2
    have z1 := x1.1
    have z2 := x2.1
    have hn16 : n ≤ 16 := by omega
    by_cases hlt : n < es.length
    · rcases hE with rfl | ⟨g, o, rfl, hgl, hcs⟩
      · simp at hlt
      · obtain ⟨d, hd⟩ : ∃ d, es[n]? = some d := ⟨es[n], by simp [hlt]⟩
        have hcs := hcs.below hB hgl
        have hgl : g < wr.heap.size := by have := hB.size; omega
        obtain ⟨c0, c1, c2, c3, c4, c5, c6⟩ := hcs n d hd
        have hd : Hid (es[n]? = some d) := hd
        have hlt' : (n : Int) < (es.length : Int) := by omega
        by_cases h0 : d.k = k
        · have e1 : (d.k == k) = true := by simpa using h0
          clear h0
          by_cases h0 : d.pr = b
          · have e2 : (d.pr == b) = true := by simpa using h0
            clear h0
            by_cases h0 : d.pp = bp
            · have e3 : (d.pp == bp) = true := by simpa using h0
              clear h0
              by_cases h0 : d.o = port
              · have e4 : (d.o == port) = true := by simpa using h0
                clear h0
                go_wp2_with fail
                go_ret
                exact ⟨ret_bool (any_yes hd.out (by simp [takenE, e1, e2, e3, e4])), bl_alloc hB _⟩
              · have e4 : (d.o == port) = false := by simpa using h0
                have hno : takenE k b bp port d = false := by simp [takenE, e4]
                clear h0
                go_wp2_with fail
                go_roundg (es.length - (n + 1))
                case measure => omega
                case rel => exact ⟨n + 1, rfl, by omega, by go_num, fun j y hj hy => (by rcases Nat.lt_or_ge j n with h | h; exact HD.out j y h hy; have : j = n := (by omega); subst this; rw [some_one hy hd.out]; exact hno), bl_alloc hB _, bl_alloc hC _⟩
            · have e3 : (d.pp == bp) = false := by simpa using h0
              have hno : takenE k b bp port d = false := by simp [takenE, e3]
              clear h0
              go_wp2_with fail
              go_roundg (es.length - (n + 1))
              case measure => omega
              case rel => exact ⟨n + 1, rfl, by omega, by go_num, fun j y hj hy => (by rcases Nat.lt_or_ge j n with h | h; exact HD.out j y h hy; have : j = n := (by omega); subst this; rw [some_one hy hd.out]; exact hno), bl_alloc hB _, bl_alloc hC _⟩
          · have e2 : (d.pr == b) = false := by simpa using h0
            have hno : takenE k b bp port d = false := by simp [takenE, e2]
            clear h0
            go_wp2_with fail
            go_roundg (es.length - (n + 1))
            case measure => omega
            case rel => exact ⟨n + 1, rfl, by omega, by go_num, fun j y hj hy => (by rcases Nat.lt_or_ge j n with h | h; exact HD.out j y h hy; have : j = n := (by omega); subst this; rw [some_one hy hd.out]; exact hno), bl_alloc hB _, bl_alloc hC _⟩
        · have e1 : (d.k == k) = false := by simpa using h0
          have hno : takenE k b bp port d = false := by simp [takenE, e1]
          clear h0
          go_wp2_with fail
          go_roundg (es.length - (n + 1))
          case measure => omega
          case rel => exact ⟨n + 1, rfl, by omega, by go_num, fun j y hj hy => (by rcases Nat.lt_or_ge j n with h | h; exact HD.out j y h hy; have : j = n := (by omega); subst this; rw [some_one hy hd.out]; exact hno), bl_alloc hB _, bl_alloc hC _⟩
    · have hne : n = es.length := by omega
      have hlt' : ¬ (n : Int) < (es.length : Int) := by omega
      go_wp2_with fail
      go_ret
      exact ⟨ret_bool (any_no (fun j y hy => HD.out j y (by have := get_lt hy; omega) hy)), hB⟩
theorem l3Taken_v (ad ln ow lo hi nw : Int) (da : Option Addr) (dn dc : Nat) (ea : Option Addr) (en ec : Nat) (k a ap b bp : Int) (port : Int) (r : Bool) (es : List En) (w : World) (hE : EntriesAt w ea en es) (he16 : es.length ≤ 16) (hr : es.any (takenE k b bp port) = r) :
    Calls Tryz.prog 104 #[.agg #[.int .i64 ad, .int .i64 ln, .int .i64 ow, .int .i64 lo, .int .i64 hi, .slice da dn dc, .int .i64 nw, .slice ea en ec], .agg #[.int .i64 k, .int .i64 a, .int .i64 ap, .int .i64 b, .int .i64 bp], .int .i64 port] w fun e w' => e = .returned (.bool r) ∧ Below w.heap.size w w' := by
  subst hr; exact l3Taken_ret ad ln ow lo hi nw da dn dc ea en ec k a ap b bp port es w hE he16

/-- p is the least free port from lo to hi, or 0 and none is free. -/
def FreeAt (es : List En) (k b bp lo hi p : Int) : Prop :=
  (lo ≤ p ∧ p ≤ hi ∧ es.any (takenE k b bp p) = false ∧ ∀ q, lo ≤ q → q < p → es.any (takenE k b bp q) = true) ∨ (p = 0 ∧ ∀ q, lo ≤ q → q ≤ hi → es.any (takenE k b bp q) = true)
set_option maxRecDepth 20000 in
set_option maxHeartbeats 4000000 in
theorem l3Free_ret (ad ln ow lo hi nw : Int) (da : Option Addr) (dn dc : Nat) (ea : Option Addr) (en ec : Nat) (k a ap b bp : Int) (es : List En) (w : World) (hE : EntriesAt w ea en es) (he16 : es.length ≤ 16) (h1 : 1 ≤ lo) (h2 : lo ≤ hi) (h3 : hi ≤ 65535) :
    Calls Tryz.prog 55 #[.agg #[.int .i64 ad, .int .i64 ln, .int .i64 ow, .int .i64 lo, .int .i64 hi, .slice da dn dc, .int .i64 nw, .slice ea en ec], .agg #[.int .i64 k, .int .i64 a, .int .i64 ap, .int .i64 b, .int .i64 bp]] w fun e w' => (∃ p : Int, e = .returned (.int .i64 p) ∧ FreeAt es k b bp lo hi p) ∧ Below w.heap.size w w' := by
  have hb0 := bl_alloc (bl_alloc (bl_refl w) (.cells #[.int .i64 ad, .int .i64 ln, .int .i64 ow, .int .i64 lo, .int .i64 hi, .slice da dn dc, .int .i64 nw, .slice ea en ec] 26)) (.cells #[.int .i64 k, .int .i64 a, .int .i64 ap, .int .i64 b, .int .i64 bp] 32)
  have x1 := (Box.new w #[.int .i64 ad, .int .i64 ln, .int .i64 ow, .int .i64 lo, .int .i64 hi, .slice da dn dc, .int .i64 nw, .slice ea en ec] 26).below (bl_alloc (bl_refl _) (.cells #[.int .i64 k, .int .i64 a, .int .i64 ap, .int .i64 b, .int .i64 bp] 32))
  have x2 := Box.new (w.alloc (.cells #[.int .i64 ad, .int .i64 ln, .int .i64 ow, .int .i64 lo, .int .i64 hi, .slice da dn dc, .int .i64 nw, .slice ea en ec] 26)) #[.int .i64 k, .int .i64 a, .int .i64 ap, .int .i64 b, .int .i64 bp] 32
  simp only [World.size_alloc] at x2
  have HE : Hid (∀ W, Below w.heap.size w W → EntriesAt W ea en es) := fun W h => hE.below h
  clear hE
  have y1 := x1.2
  go_enter Tryz.func55, Tryz.ntmps55
  go_wp2_with fail
  clear y1
  generalize hW0 : ((w.alloc (.cells #[.int .i64 ad, .int .i64 ln, .int .i64 ow, .int .i64 lo, .int .i64 hi, .slice da dn dc, .int .i64 nw, .slice ea en ec] 26)).alloc (.cells #[.int .i64 k, .int .i64 a, .int .i64 ap, .int .i64 b, .int .i64 bp] 32)) = W0 at *
  go_loopg [5] (hi + 1 - lo).toNat (fun g i wr => ∃ p : Int, g = (hi + 1 - p).toNat ∧ lo ≤ p ∧ p ≤ hi + 1 ∧ i = .int .i64 p ∧ (∀ q, lo ≤ q → q < p → es.any (takenE k b bp q) = true) ∧ Below w.heap.size w wr ∧ Below W0.heap.size W0 wr)
  case atStart => exact ⟨lo, rfl, by omega, by omega, rfl, fun q h1 h2 => absurd h1 (by omega), hb0, bl_refl _⟩
  case round =>
    obtain ⟨p, hgn, hp0, hp1, rfl, HD, hB, hC⟩ := hrel
    have HD : Hid (∀ q, lo ≤ q → q < p → es.any (takenE k b bp q) = true) := HD
    replace x1 := x1.below hC
    replace x2 := x2.below hC
    have y1 := x1.2
    have y2 := x2.2
    by_cases hlt : p ≤ hi
    · by_cases ht : es.any (takenE k b bp p) = true
      · go_wp2_with fail
        refine (l3Taken_v ad ln ow lo hi nw da dn dc ea en ec k a ap b bp p true es _ (HE.out _ hB) he16 ht).mono ?_
        rintro e w1 ⟨rfl, hb⟩
        go_wp2_with fail
        go_roundg (hi + 1 - (p + 1)).toNat
        case measure => omega
        case rel => exact ⟨p + 1, rfl, by omega, by omega, rfl, fun q a1 a2 => (by by_cases hq : q = p; (rw [hq]; exact ht); exact HD.out q a1 (by omega)), bl_trans hB hb, bl_trans hC hb⟩
      · have ht' : es.any (takenE k b bp p) = false := by simpa using ht
        go_wp2_with fail
        refine (l3Taken_v ad ln ow lo hi nw da dn dc ea en ec k a ap b bp p false es _ (HE.out _ hB) he16 ht').mono ?_
        rintro e w1 ⟨rfl, hb⟩
        go_wp2_with fail
        go_ret
        exact ⟨⟨p, rfl, Or.inl ⟨hp0, hlt, ht', HD.out⟩⟩, bl_trans hB hb⟩
    · go_wp2_with fail
      go_ret
      exact ⟨⟨0, rfl, Or.inr ⟨rfl, fun q a1 a2 => HD.out q a1 (by omega)⟩⟩, hB⟩
theorem l3Under_ret (ad ln ow lo hi nw : Int) (da : Option Addr) (dn dc : Nat) (ea : Option Addr) (en ec : Nat) (k a ap b bp : Int) (port : Int) (w : World) : Calls Tryz.prog 53 #[.agg #[.int .i64 ad, .int .i64 ln, .int .i64 ow, .int .i64 lo, .int .i64 hi, .slice da dn dc, .int .i64 nw, .slice ea en ec], .agg #[.int .i64 k, .int .i64 a, .int .i64 ap, .int .i64 b, .int .i64 bp], .int .i64 port] w fun e w' => e = .returned (.agg #[.int .i64 k, .int .i64 ow, .int .i64 port, .int .i64 b, .int .i64 bp]) ∧ Below w.heap.size w w' := by
  go_enter Tryz.func53, Tryz.ntmps53
  go_wp2
  refine bodyPost_ret (v := .agg #[.int .i64 k, .int .i64 ow, .int .i64 port, .int .i64 b, .int .i64 bp]) (by simp [results, Tryz.results53, go_sem]) rfl ⟨rfl, ?_⟩
  repeat (first | exact bl_refl _ | apply bl_alloc | refine bl_set ?_ (by simp) _)
end Go.Proofs.YtcgjpmhjijmplaaGreatDoor

/- The specification's l3Put, walked. -/
namespace Go.Proofs.YtcgjpmhjijmplaaGreatDoor
open Go.ChangeShapes Go.WideShapes Go.ChangeAt Go.RowKit Go.Maps

/-- An entry laid into a list: behind all that stand ahead of it. -/
def putE (es : List En) (d : En) : List En := es.takeWhile (lessE · d) ++ [d] ++ es.dropWhile (lessE · d)
theorem while_at {α : Type} {p : α → Bool} : ∀ {xs : List α} {n : Nat}, n ≤ xs.length → (∀ j y, j < n → xs[j]? = some y → p y = true) → (∀ y, xs[n]? = some y → p y = false) → xs.takeWhile p = xs.take n ∧ xs.dropWhile p = xs.drop n
  | [], n, hn, _, _ => by simp at hn; simp [hn]
  | x :: xs, 0, _, _, h2 => by
    have := h2 x (by simp)
    simp [this]
  | x :: xs, n + 1, hn, h1, h2 => by
    have hx := h1 0 x (by omega) (by simp)
    have ih := while_at (p := p) (xs := xs) (n := n) (by simpa using hn) (fun j y hj hy => h1 (j + 1) y (by omega) (by simpa using hy)) (fun y hy => h2 y (by simpa using hy))
    simp [hx, ih.1, ih.2]
theorem putE_at {es : List En} {d : En} {n : Nat} (hn : n ≤ es.length) (h1 : ∀ j y, j < n → es[j]? = some y → lessE y d = true) (h2 : ∀ y, es[n]? = some y → lessE y d = false) : putE es d = es.take n ++ [d] ++ es.drop n := by
  obtain ⟨a, b⟩ := while_at (p := (lessE · d)) hn h1 h2
  unfold putE; rw [a, b]
theorem putE_length (es : List En) (d : En) : (putE es d).length = es.length + 1 := by
  have h := congrArg List.length (List.takeWhile_append_dropWhile (p := (lessE · d)) (l := es))
  simp only [List.length_append] at h
  simp only [putE, List.length_append, List.length_cons, List.length_nil]
  omega
theorem own_putE {W : World} {base n : Nat} {T : TypeId} {v : Value} {es : List En} {d : En} (hn : n ≤ es.length) (hx : Hid ((∀ j y, j < n → es[j]? = some y → lessE y d = true) ∧ ∀ y, es[n]? = some y → lessE y d = false)) (own : W.ownsRow base T 7 v (0 + n + 1 + (es.length - n)) ([] ++ flatE (es.take n) ++ flatE [d] ++ flatE (es.drop n))) :
    W.ownsRow base T 7 v (putE es d).length (flatE (putE es d)) := by
  have e1 : 0 + n + 1 + (es.length - n) = (putE es d).length := by rw [putE_length]; omega
  have e2 : [] ++ flatE (es.take n) ++ flatE [d] ++ flatE (es.drop n) = flatE (putE es d) := by
    rw [putE_at hn hx.out.1 hx.out.2]
    simp only [flatE_append, List.nil_append]
  rw [← e1, ← e2]; exact own
theorem far0e {W : World} {n : Nat} {C : Array Value} (bx : Box W n C) : ∀ k, (Value.slice (some ⟨W.heap.size, 0, none⟩) 0 0).ownBlock = some k → n ≠ k := by
  intro k hk
  simp [Value.ownBlock] at hk
  have := bx.1
  omega
theorem takes_boxE {w : World} {n : Nat} {d : En} (h : Box w n #[.int .i64 d.k, .int .i64 d.pr, .int .i64 d.pp, .int .i64 d.o, .int .i64 d.i, .int .i64 d.ip, .int .i64 d.l]) : Takes w 7 (.slice (some ⟨n, 0, none⟩) 1 1) 1 (flatE [d]) := by
  refine Or.inr ⟨rfl, flatE_one _, _, 1, rfl, fun j u hu => ?_⟩
  rw [addr_addD, Nat.zero_add, h.2 j]
  simpa [flatE, enV] using hu
theorem enCells_sub {w : World} {b o k m : Nat} {es L : List En} (hc : EnCells w b o es) (hL : ∀ i, i < m → L[i]? = es[k + i]?) (hm : L.length = m) : EnCells w b (o + k * 7) L := by
  intro i d hi
  have hlt : i < m := by rw [← hm]; exact get_lt hi
  have h := hc (k + i) d (by rw [← hL i hlt]; exact hi)
  rw [show o + (k + i) * 7 = o + k * 7 + i * 7 by omega] at h
  exact h
theorem takes_ents {w : World} {b o : Nat} {es : List En} (hc : EnCells w b o es) (k m c : Nat) (L : List En) (hL : ∀ i, i < m → L[i]? = es[k + i]?) (hm : L.length = m) : Takes w 7 (.slice (some ⟨b, o + k * 7, none⟩) m c) m (flatE L) := by
  subst hm
  exact takes_entries (enCells_sub hc hL rfl) c
theorem tail_ents (b o : Nat) (es : List En) (ec n : Nat) (hn : n ≤ es.length) (hec : es.length ≤ ec) : ∃ A : Addr, (if ec = n then some (⟨b, o, none⟩ : Addr) else some ⟨b, o + n * 7, none⟩) = some A ∧ ∀ (W : World) (c : Nat), EnCells W b o es → Takes W 7 (.slice (some A) (es.length - n) c) (es.length - n) (flatE (es.drop n)) := by
  by_cases h : ec = n
  · refine ⟨⟨b, o, none⟩, by simp [h], fun W c hc => ?_⟩
    have h0 : es.length - n = 0 := by omega
    have h1 : es.drop n = [] := List.drop_eq_nil_of_le (by omega)
    rw [h0, h1]
    exact Or.inr ⟨rfl, by simp [flatE], ⟨b, o, none⟩, c, rfl, by simp [flatE]⟩
  · exact ⟨⟨b, o + n * 7, none⟩, by simp [h], fun W c hc => takes_ents hc n (es.length - n) c (es.drop n) (fun i _ => by simp) (by simp)⟩

set_option maxRecDepth 20000 in
set_option maxHeartbeats 4000000 in
theorem put_some (b o : Nat) (es : List En) (ec : Nat) (d : En) (w : World) (hlt : b < w.heap.size) (hc : EnCells w b o es) (hl : es.length ≤ 100) (hec : es.length ≤ ec) :
    Calls Tryz.prog 56 #[.slice (some ⟨b, o, none⟩) es.length ec, .agg #[.int .i64 d.k, .int .i64 d.pr, .int .i64 d.pp, .int .i64 d.o, .int .i64 d.i, .int .i64 d.ip, .int .i64 d.l]] w fun e w' => ∃ v, e = .returned v ∧ w'.ownsRow w.heap.size 52 7 v (putE es d).length (flatE (putE es d)) ∧ Below w.heap.size w w' := by
  obtain ⟨i0, hi0, hz0, hz1, hz2⟩ := info_parts infoEn
  go_enter Tryz.func56, Tryz.ntmps56
  go_wp2_with fail
  go_loopg [5] es.length (fun g i wr => ∃ n : Nat, g = es.length - n ∧ n ≤ es.length ∧ i = .int .i64 n ∧ (∀ j y, j < n → es[j]? = some y → lessE y d = true) ∧ Below w.heap.size w wr ∧ Box wr w.heap.size #[.int .i64 d.k, .int .i64 d.pr, .int .i64 d.pp, .int .i64 d.o, .int .i64 d.i, .int .i64 d.ip, .int .i64 d.l])
  case atStart => exact ⟨0, by omega, by omega, rfl, fun j y hj _ => absurd hj (by omega), bl_alloc (bl_refl _) _, Box.new _ _ _⟩
  case round =>
    obtain ⟨n, hg, hn, rfl, HD, hB, hX⟩ := hrel
    have HD : Hid (∀ j y, j < n → es[j]? = some y → lessE y d = true) := HD
    have hn64 : (n : Int) ≤ 100 := by omega
    have hnec : n ≤ ec := by omega
    obtain ⟨A, hA, hT⟩ := tail_ents b o es ec n hn hec
    have hT : Hid _ := hT
    by_cases hlt2 : n < es.length
    · obtain ⟨e, he⟩ : ∃ e, es[n]? = some e := ⟨es[n], by simp [hlt2]⟩
      have he : Hid (es[n]? = some e) := he
      have hcs := hc.below hB hlt
      have hgl : b < wr.heap.size := Nat.lt_of_lt_of_le hlt hB.size
      have hq1 : decide ((n : Int) < (es.length : Int)) = true := by simpa using hlt2
      have hlt' : (n : Int) < (es.length : Int) := by omega
      by_cases hle : lessE e d = true
      · go_wp2_with fail
        refine wp_region_held_drew (S := (fun w' => Box w' w.heap.size #[.int .i64 d.k, .int .i64 d.pr, .int .i64 d.pp, .int .i64 d.o, .int .i64 d.i, .int .i64 d.ip, .int .i64 d.l] ∧ EnCells w' b o es)) (by kernel_rfl) ?_ (fun hHeld => ?_)
        · exact ⟨hX.below (bl_drew (bl_refl _)), hcs.below (bl_drew (bl_refl _)) hgl⟩
        have hlq := bl_drew (bl_refl wr)
        replace hB := bl_trans hB hlq
        replace hX := hX.below hlq
        replace hcs := hcs.below hlq hgl
        have hgl : b < wr.drew.heap.size := hgl
        clear hlq
        generalize wr.drew = Wd at hX hcs hgl hB hHeld ⊢
        refine takeL 0 6 ?_ ?_ hHeld ?_
        rotate_left
        · (intro w hSw; (try dsimp only at hSw); obtain ⟨hS1, hS3⟩ := hSw; obtain ⟨c0, c1, c2, c3, c4, c5, c6⟩ := hS3 _ _ he.out; simp only [Box] at hS1; go_simp; try with_reducible rfl)
        simp only [Act.put, puA, puB, puC]
        refine takeL 1 7 ?_ ?_ hHeld ?_
        rotate_left
        · (intro w hSw; (try dsimp only at hSw); obtain ⟨hS1, hS3⟩ := hSw; obtain ⟨c0, c1, c2, c3, c4, c5, c6⟩ := hS3 _ _ he.out; simp only [Box] at hS1; go_simp; try with_reducible rfl)
        simp only [Act.put, puA, puB, puC]
        refine takeL 2 8 ?_ ?_ hHeld ?_
        rotate_left
        · (intro w hSw; (try dsimp only at hSw); obtain ⟨hS1, hS3⟩ := hSw; obtain ⟨c0, c1, c2, c3, c4, c5, c6⟩ := hS3 _ _ he.out; simp only [Box] at hS1; go_simp; try with_reducible rfl)
        simp only [Act.put, puA, puB, puC]
        refine takeL 3 9 ?_ ?_ hHeld ?_
        rotate_left
        · (intro w hSw; (try dsimp only at hSw); obtain ⟨hS1, hS3⟩ := hSw; obtain ⟨c0, c1, c2, c3, c4, c5, c6⟩ := hS3 _ _ he.out; simp only [Box] at hS1; go_simp; try with_reducible rfl)
        simp only [Act.put, puA, puB, puC]
        refine takeL 4 10 ?_ ?_ hHeld ?_
        rotate_left
        · (intro w hSw; (try dsimp only at hSw); obtain ⟨hS1, hS3⟩ := hSw; obtain ⟨c0, c1, c2, c3, c4, c5, c6⟩ := hS3 _ _ he.out; simp only [Box] at hS1; go_simp; try with_reducible rfl)
        simp only [Act.put, puA, puB, puC]
        refine takeL 5 11 ?_ ?_ hHeld ?_
        rotate_left
        · (intro w hSw; (try dsimp only at hSw); obtain ⟨hS1, hS3⟩ := hSw; obtain ⟨c0, c1, c2, c3, c4, c5, c6⟩ := hS3 _ _ he.out; simp only [Box] at hS1; go_simp; try with_reducible rfl)
        simp only [Act.put, puA, puB, puC]
        refine takeL 6 12 ?_ ?_ hHeld ?_
        rotate_left
        · (intro w hSw; (try dsimp only at hSw); obtain ⟨hS1, hS3⟩ := hSw; obtain ⟨c0, c1, c2, c3, c4, c5, c6⟩ := hS3 _ _ he.out; simp only [Box] at hS1; go_simp; try with_reducible rfl)
        simp only [Act.put, puA, puB, puC]
        refine takeL 7 13 ?_ ?_ hHeld ?_
        rotate_left
        · (intro w hSw; (try dsimp only at hSw); obtain ⟨hS1, hS3⟩ := hSw; obtain ⟨c0, c1, c2, c3, c4, c5, c6⟩ := hS3 _ _ he.out; simp only [Box] at hS1; go_simp; try with_reducible rfl)
        simp only [Act.put, puA, puB, puC]
        refine takeL 8 14 ?_ ?_ hHeld ?_
        rotate_left
        · (intro w hSw; (try dsimp only at hSw); obtain ⟨hS1, hS3⟩ := hSw; obtain ⟨c0, c1, c2, c3, c4, c5, c6⟩ := hS3 _ _ he.out; simp only [Box] at hS1; go_simp; try with_reducible rfl)
        simp only [Act.put, puA, puB, puC]
        refine takeL 9 15 ?_ ?_ hHeld ?_
        rotate_left
        · (intro w hSw; (try dsimp only at hSw); obtain ⟨hS1, hS3⟩ := hSw; obtain ⟨c0, c1, c2, c3, c4, c5, c6⟩ := hS3 _ _ he.out; simp only [Box] at hS1; go_simp; try with_reducible rfl)
        simp only [Act.put, puA, puB, puC]
        refine wpAnyH_ready (rs := [10]) (by kernel_rfl) (by simp) (AllReadyH.cons rfl (fun K hK => ?_) (AllReadyH.nil))
        refine step_callg 16 105 rfl (by kernel_rfl) (l2Less_b e d _ true hle) (by kernel_rfl) ?_
        rintro e' W ⟨rfl, hb⟩
        refine ⟨_, rfl, ?_⟩
        simp only [Act.put, puA, puB, puC]
        replace hB := bl_trans hB hb
        replace hX := hX.below hb
        replace hcs := hcs.below hb hgl
        clear hb
        refine hK.out _ _ ?_ (fun hHeld1 => ?_)
        · exact ⟨hX, hcs⟩
        clear hK K hHeld
        have hHeld := hHeld1
        clear hHeld1
        refine takeL 11 17 ?_ ?_ hHeld ?_
        rotate_left
        · (intro w hSw; (try dsimp only at hSw); obtain ⟨hS1, hS3⟩ := hSw; obtain ⟨c0, c1, c2, c3, c4, c5, c6⟩ := hS3 _ _ he.out; simp only [Box] at hS1; go_simp; try with_reducible rfl)
        simp only [Act.put, puA, puB, puC]
        refine wpAnyH_done (by kernel_rfl) ?_ _
        go_wp2_with fail
        go_roundg (es.length - (n + 1))
        case measure => omega
        case rel => exact ⟨n + 1, rfl, by omega, by go_num, fun j y hj hy => (by rcases Nat.lt_or_ge j n with h | h; exact HD.out j y h hy; have : j = n := (by omega); subst this; rw [some_one hy he.out]; exact hle), hB, hX⟩
      · have hle : lessE e d = false := by simpa using hle
        have hex : Hid ((∀ j y, j < n → es[j]? = some y → lessE y d = true) ∧ ∀ y, es[n]? = some y → lessE y d = false) := ⟨HD.out, fun y hy => by rw [some_one hy he.out]; exact hle⟩
        go_wp2_with fail
        refine wp_region_held_drew (S := (fun w' => Box w' w.heap.size #[.int .i64 d.k, .int .i64 d.pr, .int .i64 d.pp, .int .i64 d.o, .int .i64 d.i, .int .i64 d.ip, .int .i64 d.l] ∧ EnCells w' b o es)) (by kernel_rfl) ?_ (fun hHeld => ?_)
        · exact ⟨hX.below (bl_drew (bl_refl _)), hcs.below (bl_drew (bl_refl _)) hgl⟩
        have hlq := bl_drew (bl_refl wr)
        replace hB := bl_trans hB hlq
        replace hX := hX.below hlq
        replace hcs := hcs.below hlq hgl
        have hgl : b < wr.drew.heap.size := hgl
        clear hlq
        generalize wr.drew = Wd at hX hcs hgl hB hHeld ⊢
        refine takeL 0 6 ?_ ?_ hHeld ?_
        rotate_left
        · (intro w hSw; (try dsimp only at hSw); obtain ⟨hS1, hS3⟩ := hSw; obtain ⟨c0, c1, c2, c3, c4, c5, c6⟩ := hS3 _ _ he.out; simp only [Box] at hS1; go_simp; try with_reducible rfl)
        simp only [Act.put, puA, puB, puC]
        refine takeL 1 7 ?_ ?_ hHeld ?_
        rotate_left
        · (intro w hSw; (try dsimp only at hSw); obtain ⟨hS1, hS3⟩ := hSw; obtain ⟨c0, c1, c2, c3, c4, c5, c6⟩ := hS3 _ _ he.out; simp only [Box] at hS1; go_simp; try with_reducible rfl)
        simp only [Act.put, puA, puB, puC]
        refine takeL 2 8 ?_ ?_ hHeld ?_
        rotate_left
        · (intro w hSw; (try dsimp only at hSw); obtain ⟨hS1, hS3⟩ := hSw; obtain ⟨c0, c1, c2, c3, c4, c5, c6⟩ := hS3 _ _ he.out; simp only [Box] at hS1; go_simp; try with_reducible rfl)
        simp only [Act.put, puA, puB, puC]
        refine takeL 3 9 ?_ ?_ hHeld ?_
        rotate_left
        · (intro w hSw; (try dsimp only at hSw); obtain ⟨hS1, hS3⟩ := hSw; obtain ⟨c0, c1, c2, c3, c4, c5, c6⟩ := hS3 _ _ he.out; simp only [Box] at hS1; go_simp; try with_reducible rfl)
        simp only [Act.put, puA, puB, puC]
        refine takeL 4 10 ?_ ?_ hHeld ?_
        rotate_left
        · (intro w hSw; (try dsimp only at hSw); obtain ⟨hS1, hS3⟩ := hSw; obtain ⟨c0, c1, c2, c3, c4, c5, c6⟩ := hS3 _ _ he.out; simp only [Box] at hS1; go_simp; try with_reducible rfl)
        simp only [Act.put, puA, puB, puC]
        refine takeL 5 11 ?_ ?_ hHeld ?_
        rotate_left
        · (intro w hSw; (try dsimp only at hSw); obtain ⟨hS1, hS3⟩ := hSw; obtain ⟨c0, c1, c2, c3, c4, c5, c6⟩ := hS3 _ _ he.out; simp only [Box] at hS1; go_simp; try with_reducible rfl)
        simp only [Act.put, puA, puB, puC]
        refine takeL 6 12 ?_ ?_ hHeld ?_
        rotate_left
        · (intro w hSw; (try dsimp only at hSw); obtain ⟨hS1, hS3⟩ := hSw; obtain ⟨c0, c1, c2, c3, c4, c5, c6⟩ := hS3 _ _ he.out; simp only [Box] at hS1; go_simp; try with_reducible rfl)
        simp only [Act.put, puA, puB, puC]
        refine takeL 7 13 ?_ ?_ hHeld ?_
        rotate_left
        · (intro w hSw; (try dsimp only at hSw); obtain ⟨hS1, hS3⟩ := hSw; obtain ⟨c0, c1, c2, c3, c4, c5, c6⟩ := hS3 _ _ he.out; simp only [Box] at hS1; go_simp; try with_reducible rfl)
        simp only [Act.put, puA, puB, puC]
        refine takeL 8 14 ?_ ?_ hHeld ?_
        rotate_left
        · (intro w hSw; (try dsimp only at hSw); obtain ⟨hS1, hS3⟩ := hSw; obtain ⟨c0, c1, c2, c3, c4, c5, c6⟩ := hS3 _ _ he.out; simp only [Box] at hS1; go_simp; try with_reducible rfl)
        simp only [Act.put, puA, puB, puC]
        refine takeL 9 15 ?_ ?_ hHeld ?_
        rotate_left
        · (intro w hSw; (try dsimp only at hSw); obtain ⟨hS1, hS3⟩ := hSw; obtain ⟨c0, c1, c2, c3, c4, c5, c6⟩ := hS3 _ _ he.out; simp only [Box] at hS1; go_simp; try with_reducible rfl)
        simp only [Act.put, puA, puB, puC]
        refine wpAnyH_ready (rs := [10]) (by kernel_rfl) (by simp) (AllReadyH.cons rfl (fun K hK => ?_) (AllReadyH.nil))
        refine step_callg 16 105 rfl (by kernel_rfl) (l2Less_b e d _ false hle) (by kernel_rfl) ?_
        rintro e' W ⟨rfl, hb⟩
        refine ⟨_, rfl, ?_⟩
        simp only [Act.put, puA, puB, puC]
        replace hB := bl_trans hB hb
        replace hX := hX.below hb
        replace hcs := hcs.below hb hgl
        clear hb
        refine hK.out _ _ ?_ (fun hHeld1 => ?_)
        · exact ⟨hX, hcs⟩
        clear hK K hHeld
        have hHeld := hHeld1
        clear hHeld1
        refine takeL 11 17 ?_ ?_ hHeld ?_
        rotate_left
        · (intro w hSw; (try dsimp only at hSw); obtain ⟨hS1, hS3⟩ := hSw; obtain ⟨c0, c1, c2, c3, c4, c5, c6⟩ := hS3 _ _ he.out; simp only [Box] at hS1; go_simp; try with_reducible rfl)
        simp only [Act.put, puA, puB, puC]
        refine wpAnyH_done (by kernel_rfl) ?_ _
        go_wp2_with fail
        clear hHeld hcs
        refine wp_region_held_drew (S := (fun w' => Box w' w.heap.size #[.int .i64 d.k, .int .i64 d.pr, .int .i64 d.pp, .int .i64 d.o, .int .i64 d.i, .int .i64 d.ip, .int .i64 d.l])) (by kernel_rfl) ?_ (fun hHeld => ?_)
        · exact Box.below hX (bl_drew (bl_refl _))
        have hB := bl_trans hB (bl_drew (bl_refl W))
        clear hX
        generalize World.drew W = W0 at hHeld hB ⊢
        refine takeL 1 21 ?_ ?_ hHeld ?_
        rotate_left
        · (intro w hSw; (try dsimp only at hSw); simp only [Box] at hSw; go_simp; try with_reducible rfl)
        simp only [Act.put, puA, puB, puC]
        refine takeL 2 22 ?_ ?_ hHeld ?_
        rotate_left
        · (intro w hSw; (try dsimp only at hSw); simp only [Box] at hSw; go_simp; try with_reducible rfl)
        simp only [Act.put, puA, puB, puC]
        refine takeL 3 23 ?_ ?_ hHeld ?_
        rotate_left
        · (intro w hSw; (try dsimp only at hSw); simp only [Box] at hSw; go_simp; try with_reducible rfl)
        simp only [Act.put, puA, puB, puC]
        refine takeL 5 25 ?_ ?_ hHeld ?_
        rotate_left
        · (intro w hSw; (try dsimp only at hSw); simp only [Box] at hSw; go_simp; try with_reducible rfl)
        simp only [Act.put, puA, puB, puC]
        refine takeL 8 28 ?_ ?_ hHeld ?_
        rotate_left
        · (intro w hSw; (try dsimp only at hSw); simp only [Box] at hSw; go_simp; try with_reducible rfl)
        simp only [Act.put, puA, puB, puC]
        refine takeL 9 29 ?_ ?_ hHeld ?_
        rotate_left
        · (intro w hSw; (try dsimp only at hSw); simp only [Box] at hSw; go_simp; try with_reducible rfl)
        simp only [Act.put, puA, puB, puC]
        refine takeL 10 30 ?_ ?_ hHeld ?_
        rotate_left
        · (intro w hSw; (try dsimp only at hSw); simp only [Box] at hSw; go_simp; try with_reducible rfl)
        simp only [Act.put, puA, puB, puC]
        refine wpAnyH_ready (rs := [0, 6]) (by kernel_rfl) (by simp) (AllReadyH.cons rfl (fun K hK => ?_) (AllReadyH.cons rfl (fun K hK => ?_) (AllReadyH.nil)))
        · skip
          go_simp
          have hHeld0 := hHeld
          refine hK.out _ _ ?_ (fun hHeld1 => ?_)
          · exact Box.below hHeld (bl_alloc (bl_refl _) _)
          clear hK K hHeld
          have hHeld := hHeld1
          clear hHeld1
          refine wpAnyH_own0 (base := w.heap.size + 1) 7 hHeld0.1 (fun W hBl own => ?_)
          have hB := bl_trans hB hBl
          have hHeld := Box.below hHeld0 hBl
          clear hBl hHeld0
          refine wpAnyH_ready (rs := [4, 6]) (by kernel_rfl) (by simp) (AllReadyH.cons rfl (fun K hK => ?_) (AllReadyH.cons rfl (fun K hK => ?_) (AllReadyH.nil)))
          · skip
            refine step_append_any _ 24 rfl rfl _ _ 24 rfl (w.heap.size + 1) 52 i0 (.agg #[.int .i64 0, .int .i64 0, .int .i64 0, .int .i64 0, .int .i64 0, .int .i64 0, .int .i64 0]) 7 56 Tryz.underlying24 hi0 hz0 hz1 hz2 rfl (by decide) _ _ _ rfl own _ _ _ rfl (takes_ents (hc.below hB hlt) 0 n _ (es.take n) (fun i hi => by simp [hi]) (by simp; omega)) (by unfold maxLen; omega) (by omega) (by have := hB.size; have := hHeld.1; omega) ?_
            intro v' w2 own2 hg2
            simp only [Act.put, puA, puB, puC]
            refine hK.out _ _ ?_ (fun hHeld1 => ?_)
            · exact Box.far hHeld hg2 (fun k hk => by have := (own.lt _ hk).1; omega)
            clear hK K hHeld
            have hHeld := hHeld1
            clear hHeld1
            have hB := Below.grown hB hg2 hB.size (fun k hk => by have := (own.lt _ hk).1; omega)
            clear hg2 own
            have own := own2
            clear own2
            refine wpAnyH_ready (rs := [6]) (by kernel_rfl) (by simp) (AllReadyH.cons rfl (fun K hK => ?_) (AllReadyH.nil))
            go_simp
            have hHeld0 := hHeld
            refine hK.out _ _ ?_ (fun hHeld1 => ?_)
            · exact Box.below hHeld (bl_alloc (bl_refl _) _)
            clear hK K hHeld
            have hHeld := hHeld1
            clear hHeld1
            refine wpAnyH_new (fun W hBl bx => ?_)
            have own := ownsRow_bl own hBl
            have hB := bl_trans hB hBl
            have hHeld := Box.below hHeld0 hBl
            clear hBl hHeld0
            refine wpAnyH_ready (rs := [7]) (by kernel_rfl) (by simp) (AllReadyH.cons rfl (fun K hK => ?_) (AllReadyH.nil))
            refine step_append_any _ 27 rfl rfl _ _ 24 rfl (w.heap.size + 1) 52 i0 (.agg #[.int .i64 0, .int .i64 0, .int .i64 0, .int .i64 0, .int .i64 0, .int .i64 0, .int .i64 0]) 7 56 Tryz.underlying24 hi0 hz0 hz1 hz2 rfl (by decide) _ _ _ rfl own _ _ _ rfl (takes_boxE bx) (by unfold maxLen; omega) (by omega) (by have := hB.size; have := hHeld.1; omega) ?_
            intro v' w2 own2 hg2
            simp only [Act.put, puA, puB, puC]
            refine hK.out _ _ ?_ (fun hHeld1 => ?_)
            · exact Box.far hHeld hg2 (fun k hk => by have := (own.lt _ hk).1; omega)
            clear hK K hHeld
            have hHeld := hHeld1
            clear hHeld1
            have hB := Below.grown hB hg2 hB.size (fun k hk => by have := (own.lt _ hk).1; omega)
            clear hg2 own
            have own := own2
            clear own2
            refine wpAnyH_ready (rs := [11]) (by kernel_rfl) (by simp) (AllReadyH.cons rfl (fun K hK => ?_) (AllReadyH.nil))
            refine step_append_any _ 31 rfl rfl _ _ 24 rfl (w.heap.size + 1) 52 i0 (.agg #[.int .i64 0, .int .i64 0, .int .i64 0, .int .i64 0, .int .i64 0, .int .i64 0, .int .i64 0]) 7 56 Tryz.underlying24 hi0 hz0 hz1 hz2 rfl (by decide) _ _ _ rfl own _ _ _ rfl (hT.out _ _ (hc.below hB hlt)) (by unfold maxLen; omega) (by omega) (by have := hB.size; have := hHeld.1; omega) ?_
            intro v' w2 own2 hg2
            simp only [Act.put, puA, puB, puC]
            refine hK.out _ _ ?_ (fun hHeld1 => ?_)
            · exact Box.far hHeld hg2 (fun k hk => by have := (own.lt _ hk).1; omega)
            clear hK K hHeld
            have hHeld := hHeld1
            clear hHeld1
            have hB := Below.grown hB hg2 hB.size (fun k hk => by have := (own.lt _ hk).1; omega)
            clear hg2 own
            have own := own2
            clear own2
            refine takeL 12 4 ?_ ?_ hHeld ?_
            rotate_left
            · (intro w hSw; (try dsimp only at hSw); simp only [Box] at hSw; go_simp; try with_reducible rfl)
            simp only [Act.put, puA, puB, puC]
            refine wpAnyH_done (by kernel_rfl) ?_ _
            replace own := own_putE hn hex own
            have own : Hid (World.ownsRow _ _ _ _ _ _ _) := own
            clear hA hT hHeld
            go_wp2_with fail
            go_ret
            exact ⟨_, rfl, own_mono own.out (by omega), hB⟩
          · skip
            go_simp
            have hHeld0 := hHeld
            refine hK.out _ _ ?_ (fun hHeld1 => ?_)
            · exact Box.below hHeld (bl_alloc (bl_refl _) _)
            clear hK K hHeld
            have hHeld := hHeld1
            clear hHeld1
            refine wpAnyH_new (fun W hBl bx => ?_)
            have hfar := fun k hk => Nat.ne_of_gt (own.lt k hk).2
            have own := ownsRow_bl own hBl
            have hB := bl_trans hB hBl
            have hHeld := Box.below hHeld0 hBl
            clear hBl hHeld0
            refine wpAnyH_ready (rs := [4]) (by kernel_rfl) (by simp) (AllReadyH.cons rfl (fun K hK => ?_) (AllReadyH.nil))
            refine step_append_any _ 24 rfl rfl _ _ 24 rfl (w.heap.size + 1) 52 i0 (.agg #[.int .i64 0, .int .i64 0, .int .i64 0, .int .i64 0, .int .i64 0, .int .i64 0, .int .i64 0]) 7 56 Tryz.underlying24 hi0 hz0 hz1 hz2 rfl (by decide) _ _ _ rfl own _ _ _ rfl (takes_ents (hc.below hB hlt) 0 n _ (es.take n) (fun i hi => by simp [hi]) (by simp; omega)) (by unfold maxLen; omega) (by omega) (by have := hB.size; have := hHeld.1; omega) ?_
            intro v' w2 own2 hg2
            simp only [Act.put, puA, puB, puC]
            refine hK.out _ _ ?_ (fun hHeld1 => ?_)
            · exact Box.far hHeld hg2 (fun k hk => by have := (own.lt _ hk).1; omega)
            clear hK K hHeld
            have hHeld := hHeld1
            clear hHeld1
            have hB := Below.grown hB hg2 hB.size (fun k hk => by have := (own.lt _ hk).1; omega)
            have bx := Box.far bx hg2 (fun k hk => hfar k hk)
            clear hg2 own
            have own := own2
            clear own2
            refine wpAnyH_ready (rs := [7]) (by kernel_rfl) (by simp) (AllReadyH.cons rfl (fun K hK => ?_) (AllReadyH.nil))
            refine step_append_any _ 27 rfl rfl _ _ 24 rfl (w.heap.size + 1) 52 i0 (.agg #[.int .i64 0, .int .i64 0, .int .i64 0, .int .i64 0, .int .i64 0, .int .i64 0, .int .i64 0]) 7 56 Tryz.underlying24 hi0 hz0 hz1 hz2 rfl (by decide) _ _ _ rfl own _ _ _ rfl (takes_boxE bx) (by unfold maxLen; omega) (by omega) (by have := hB.size; have := hHeld.1; omega) ?_
            intro v' w2 own2 hg2
            simp only [Act.put, puA, puB, puC]
            refine hK.out _ _ ?_ (fun hHeld1 => ?_)
            · exact Box.far hHeld hg2 (fun k hk => by have := (own.lt _ hk).1; omega)
            clear hK K hHeld
            have hHeld := hHeld1
            clear hHeld1
            have hB := Below.grown hB hg2 hB.size (fun k hk => by have := (own.lt _ hk).1; omega)
            clear hg2 own
            have own := own2
            clear own2
            refine wpAnyH_ready (rs := [11]) (by kernel_rfl) (by simp) (AllReadyH.cons rfl (fun K hK => ?_) (AllReadyH.nil))
            refine step_append_any _ 31 rfl rfl _ _ 24 rfl (w.heap.size + 1) 52 i0 (.agg #[.int .i64 0, .int .i64 0, .int .i64 0, .int .i64 0, .int .i64 0, .int .i64 0, .int .i64 0]) 7 56 Tryz.underlying24 hi0 hz0 hz1 hz2 rfl (by decide) _ _ _ rfl own _ _ _ rfl (hT.out _ _ (hc.below hB hlt)) (by unfold maxLen; omega) (by omega) (by have := hB.size; have := hHeld.1; omega) ?_
            intro v' w2 own2 hg2
            simp only [Act.put, puA, puB, puC]
            refine hK.out _ _ ?_ (fun hHeld1 => ?_)
            · exact Box.far hHeld hg2 (fun k hk => by have := (own.lt _ hk).1; omega)
            clear hK K hHeld
            have hHeld := hHeld1
            clear hHeld1
            have hB := Below.grown hB hg2 hB.size (fun k hk => by have := (own.lt _ hk).1; omega)
            clear hg2 own
            have own := own2
            clear own2
            refine takeL 12 4 ?_ ?_ hHeld ?_
            rotate_left
            · (intro w hSw; (try dsimp only at hSw); simp only [Box] at hSw; go_simp; try with_reducible rfl)
            simp only [Act.put, puA, puB, puC]
            refine wpAnyH_done (by kernel_rfl) ?_ _
            replace own := own_putE hn hex own
            have own : Hid (World.ownsRow _ _ _ _ _ _ _) := own
            clear hA hT hHeld
            go_wp2_with fail
            go_ret
            exact ⟨_, rfl, own_mono own.out (by omega), hB⟩
        · skip
          go_simp
          have hHeld0 := hHeld
          refine hK.out _ _ ?_ (fun hHeld1 => ?_)
          · exact Box.below hHeld (bl_alloc (bl_refl _) _)
          clear hK K hHeld
          have hHeld := hHeld1
          clear hHeld1
          refine wpAnyH_new (fun W hBl bx => ?_)
          have hB := bl_trans hB hBl
          have hHeld := Box.below hHeld0 hBl
          clear hBl hHeld0
          refine wpAnyH_ready (rs := [0]) (by kernel_rfl) (by simp) (AllReadyH.cons rfl (fun K hK => ?_) (AllReadyH.nil))
          go_simp
          have hHeld0 := hHeld
          refine hK.out _ _ ?_ (fun hHeld1 => ?_)
          · exact Box.below hHeld (bl_alloc (bl_refl _) _)
          clear hK K hHeld
          have hHeld := hHeld1
          clear hHeld1
          refine wpAnyH_own0 (base := w.heap.size + 1) 7 hHeld0.1 (fun W hBl own => ?_)
          have hfar := far0e bx
          have bx := Box.below bx hBl
          have hB := bl_trans hB hBl
          have hHeld := Box.below hHeld0 hBl
          clear hBl hHeld0
          refine wpAnyH_ready (rs := [4]) (by kernel_rfl) (by simp) (AllReadyH.cons rfl (fun K hK => ?_) (AllReadyH.nil))
          refine step_append_any _ 24 rfl rfl _ _ 24 rfl (w.heap.size + 1) 52 i0 (.agg #[.int .i64 0, .int .i64 0, .int .i64 0, .int .i64 0, .int .i64 0, .int .i64 0, .int .i64 0]) 7 56 Tryz.underlying24 hi0 hz0 hz1 hz2 rfl (by decide) _ _ _ rfl own _ _ _ rfl (takes_ents (hc.below hB hlt) 0 n _ (es.take n) (fun i hi => by simp [hi]) (by simp; omega)) (by unfold maxLen; omega) (by omega) (by have := hB.size; have := hHeld.1; omega) ?_
          intro v' w2 own2 hg2
          simp only [Act.put, puA, puB, puC]
          refine hK.out _ _ ?_ (fun hHeld1 => ?_)
          · exact Box.far hHeld hg2 (fun k hk => by have := (own.lt _ hk).1; omega)
          clear hK K hHeld
          have hHeld := hHeld1
          clear hHeld1
          have hB := Below.grown hB hg2 hB.size (fun k hk => by have := (own.lt _ hk).1; omega)
          have bx := Box.far bx hg2 (fun k hk => hfar k hk)
          clear hg2 own
          have own := own2
          clear own2
          refine wpAnyH_ready (rs := [7]) (by kernel_rfl) (by simp) (AllReadyH.cons rfl (fun K hK => ?_) (AllReadyH.nil))
          refine step_append_any _ 27 rfl rfl _ _ 24 rfl (w.heap.size + 1) 52 i0 (.agg #[.int .i64 0, .int .i64 0, .int .i64 0, .int .i64 0, .int .i64 0, .int .i64 0, .int .i64 0]) 7 56 Tryz.underlying24 hi0 hz0 hz1 hz2 rfl (by decide) _ _ _ rfl own _ _ _ rfl (takes_boxE bx) (by unfold maxLen; omega) (by omega) (by have := hB.size; have := hHeld.1; omega) ?_
          intro v' w2 own2 hg2
          simp only [Act.put, puA, puB, puC]
          refine hK.out _ _ ?_ (fun hHeld1 => ?_)
          · exact Box.far hHeld hg2 (fun k hk => by have := (own.lt _ hk).1; omega)
          clear hK K hHeld
          have hHeld := hHeld1
          clear hHeld1
          have hB := Below.grown hB hg2 hB.size (fun k hk => by have := (own.lt _ hk).1; omega)
          clear hg2 own
          have own := own2
          clear own2
          refine wpAnyH_ready (rs := [11]) (by kernel_rfl) (by simp) (AllReadyH.cons rfl (fun K hK => ?_) (AllReadyH.nil))
          refine step_append_any _ 31 rfl rfl _ _ 24 rfl (w.heap.size + 1) 52 i0 (.agg #[.int .i64 0, .int .i64 0, .int .i64 0, .int .i64 0, .int .i64 0, .int .i64 0, .int .i64 0]) 7 56 Tryz.underlying24 hi0 hz0 hz1 hz2 rfl (by decide) _ _ _ rfl own _ _ _ rfl (hT.out _ _ (hc.below hB hlt)) (by unfold maxLen; omega) (by omega) (by have := hB.size; have := hHeld.1; omega) ?_
          intro v' w2 own2 hg2
          simp only [Act.put, puA, puB, puC]
          refine hK.out _ _ ?_ (fun hHeld1 => ?_)
          · exact Box.far hHeld hg2 (fun k hk => by have := (own.lt _ hk).1; omega)
          clear hK K hHeld
          have hHeld := hHeld1
          clear hHeld1
          have hB := Below.grown hB hg2 hB.size (fun k hk => by have := (own.lt _ hk).1; omega)
          clear hg2 own
          have own := own2
          clear own2
          refine takeL 12 4 ?_ ?_ hHeld ?_
          rotate_left
          · (intro w hSw; (try dsimp only at hSw); simp only [Box] at hSw; go_simp; try with_reducible rfl)
          simp only [Act.put, puA, puB, puC]
          refine wpAnyH_done (by kernel_rfl) ?_ _
          replace own := own_putE hn hex own
          have own : Hid (World.ownsRow _ _ _ _ _ _ _) := own
          clear hA hT hHeld
          go_wp2_with fail
          go_ret
          exact ⟨_, rfl, own_mono own.out (by omega), hB⟩
    · have hq1 : decide ((n : Int) < (es.length : Int)) = false := by simpa using hlt2
      have hlt' : ¬ (n : Int) < (es.length : Int) := by omega
      have hex : Hid ((∀ j y, j < n → es[j]? = some y → lessE y d = true) ∧ ∀ y, es[n]? = some y → lessE y d = false) := ⟨HD.out, fun y hy => absurd (get_lt hy) (by omega)⟩
      go_wp2_with fail
      go_quiet (fail)
      replace hB := bl_draws hB nq
      replace hX := hX.below (bl_draws (bl_refl _) nq)
      generalize wr.drewN nq = Wq at *
      go_wp2_with fail
      refine wp_region_held_drew (S := (fun w' => Box w' w.heap.size #[.int .i64 d.k, .int .i64 d.pr, .int .i64 d.pp, .int .i64 d.o, .int .i64 d.i, .int .i64 d.ip, .int .i64 d.l])) (by kernel_rfl) ?_ (fun hHeld => ?_)
      · exact Box.below hX (bl_drew (bl_refl _))
      have hB := bl_trans hB (bl_drew (bl_refl Wq))
      clear hX
      generalize World.drew Wq = W0 at hHeld hB ⊢
      refine takeL 1 21 ?_ ?_ hHeld ?_
      rotate_left
      · (intro w hSw; (try dsimp only at hSw); simp only [Box] at hSw; go_simp; try with_reducible rfl)
      simp only [Act.put, puA, puB, puC]
      refine takeL 2 22 ?_ ?_ hHeld ?_
      rotate_left
      · (intro w hSw; (try dsimp only at hSw); simp only [Box] at hSw; go_simp; try with_reducible rfl)
      simp only [Act.put, puA, puB, puC]
      refine takeL 3 23 ?_ ?_ hHeld ?_
      rotate_left
      · (intro w hSw; (try dsimp only at hSw); simp only [Box] at hSw; go_simp; try with_reducible rfl)
      simp only [Act.put, puA, puB, puC]
      refine takeL 5 25 ?_ ?_ hHeld ?_
      rotate_left
      · (intro w hSw; (try dsimp only at hSw); simp only [Box] at hSw; go_simp; try with_reducible rfl)
      simp only [Act.put, puA, puB, puC]
      refine takeL 8 28 ?_ ?_ hHeld ?_
      rotate_left
      · (intro w hSw; (try dsimp only at hSw); simp only [Box] at hSw; go_simp; try with_reducible rfl)
      simp only [Act.put, puA, puB, puC]
      refine takeL 9 29 ?_ ?_ hHeld ?_
      rotate_left
      · (intro w hSw; (try dsimp only at hSw); simp only [Box] at hSw; go_simp; try with_reducible rfl)
      simp only [Act.put, puA, puB, puC]
      refine takeL 10 30 ?_ ?_ hHeld ?_
      rotate_left
      · (intro w hSw; (try dsimp only at hSw); simp only [Box] at hSw; go_simp; try with_reducible rfl)
      simp only [Act.put, puA, puB, puC]
      refine wpAnyH_ready (rs := [0, 6]) (by kernel_rfl) (by simp) (AllReadyH.cons rfl (fun K hK => ?_) (AllReadyH.cons rfl (fun K hK => ?_) (AllReadyH.nil)))
      · skip
        go_simp
        have hHeld0 := hHeld
        refine hK.out _ _ ?_ (fun hHeld1 => ?_)
        · exact Box.below hHeld (bl_alloc (bl_refl _) _)
        clear hK K hHeld
        have hHeld := hHeld1
        clear hHeld1
        refine wpAnyH_own0 (base := w.heap.size + 1) 7 hHeld0.1 (fun W hBl own => ?_)
        have hB := bl_trans hB hBl
        have hHeld := Box.below hHeld0 hBl
        clear hBl hHeld0
        refine wpAnyH_ready (rs := [4, 6]) (by kernel_rfl) (by simp) (AllReadyH.cons rfl (fun K hK => ?_) (AllReadyH.cons rfl (fun K hK => ?_) (AllReadyH.nil)))
        · skip
          refine step_append_any _ 24 rfl rfl _ _ 24 rfl (w.heap.size + 1) 52 i0 (.agg #[.int .i64 0, .int .i64 0, .int .i64 0, .int .i64 0, .int .i64 0, .int .i64 0, .int .i64 0]) 7 56 Tryz.underlying24 hi0 hz0 hz1 hz2 rfl (by decide) _ _ _ rfl own _ _ _ rfl (takes_ents (hc.below hB hlt) 0 n _ (es.take n) (fun i hi => by simp [hi]) (by simp; omega)) (by unfold maxLen; omega) (by omega) (by have := hB.size; have := hHeld.1; omega) ?_
          intro v' w2 own2 hg2
          simp only [Act.put, puA, puB, puC]
          refine hK.out _ _ ?_ (fun hHeld1 => ?_)
          · exact Box.far hHeld hg2 (fun k hk => by have := (own.lt _ hk).1; omega)
          clear hK K hHeld
          have hHeld := hHeld1
          clear hHeld1
          have hB := Below.grown hB hg2 hB.size (fun k hk => by have := (own.lt _ hk).1; omega)
          clear hg2 own
          have own := own2
          clear own2
          refine wpAnyH_ready (rs := [6]) (by kernel_rfl) (by simp) (AllReadyH.cons rfl (fun K hK => ?_) (AllReadyH.nil))
          go_simp
          have hHeld0 := hHeld
          refine hK.out _ _ ?_ (fun hHeld1 => ?_)
          · exact Box.below hHeld (bl_alloc (bl_refl _) _)
          clear hK K hHeld
          have hHeld := hHeld1
          clear hHeld1
          refine wpAnyH_new (fun W hBl bx => ?_)
          have own := ownsRow_bl own hBl
          have hB := bl_trans hB hBl
          have hHeld := Box.below hHeld0 hBl
          clear hBl hHeld0
          refine wpAnyH_ready (rs := [7]) (by kernel_rfl) (by simp) (AllReadyH.cons rfl (fun K hK => ?_) (AllReadyH.nil))
          refine step_append_any _ 27 rfl rfl _ _ 24 rfl (w.heap.size + 1) 52 i0 (.agg #[.int .i64 0, .int .i64 0, .int .i64 0, .int .i64 0, .int .i64 0, .int .i64 0, .int .i64 0]) 7 56 Tryz.underlying24 hi0 hz0 hz1 hz2 rfl (by decide) _ _ _ rfl own _ _ _ rfl (takes_boxE bx) (by unfold maxLen; omega) (by omega) (by have := hB.size; have := hHeld.1; omega) ?_
          intro v' w2 own2 hg2
          simp only [Act.put, puA, puB, puC]
          refine hK.out _ _ ?_ (fun hHeld1 => ?_)
          · exact Box.far hHeld hg2 (fun k hk => by have := (own.lt _ hk).1; omega)
          clear hK K hHeld
          have hHeld := hHeld1
          clear hHeld1
          have hB := Below.grown hB hg2 hB.size (fun k hk => by have := (own.lt _ hk).1; omega)
          clear hg2 own
          have own := own2
          clear own2
          refine wpAnyH_ready (rs := [11]) (by kernel_rfl) (by simp) (AllReadyH.cons rfl (fun K hK => ?_) (AllReadyH.nil))
          refine step_append_any _ 31 rfl rfl _ _ 24 rfl (w.heap.size + 1) 52 i0 (.agg #[.int .i64 0, .int .i64 0, .int .i64 0, .int .i64 0, .int .i64 0, .int .i64 0, .int .i64 0]) 7 56 Tryz.underlying24 hi0 hz0 hz1 hz2 rfl (by decide) _ _ _ rfl own _ _ _ rfl (hT.out _ _ (hc.below hB hlt)) (by unfold maxLen; omega) (by omega) (by have := hB.size; have := hHeld.1; omega) ?_
          intro v' w2 own2 hg2
          simp only [Act.put, puA, puB, puC]
          refine hK.out _ _ ?_ (fun hHeld1 => ?_)
          · exact Box.far hHeld hg2 (fun k hk => by have := (own.lt _ hk).1; omega)
          clear hK K hHeld
          have hHeld := hHeld1
          clear hHeld1
          have hB := Below.grown hB hg2 hB.size (fun k hk => by have := (own.lt _ hk).1; omega)
          clear hg2 own
          have own := own2
          clear own2
          refine takeL 12 4 ?_ ?_ hHeld ?_
          rotate_left
          · (intro w hSw; (try dsimp only at hSw); simp only [Box] at hSw; go_simp; try with_reducible rfl)
          simp only [Act.put, puA, puB, puC]
          refine wpAnyH_done (by kernel_rfl) ?_ _
          replace own := own_putE hn hex own
          have own : Hid (World.ownsRow _ _ _ _ _ _ _) := own
          clear hA hT hHeld
          go_wp2_with fail
          go_ret
          exact ⟨_, rfl, own_mono own.out (by omega), hB⟩
        · skip
          go_simp
          have hHeld0 := hHeld
          refine hK.out _ _ ?_ (fun hHeld1 => ?_)
          · exact Box.below hHeld (bl_alloc (bl_refl _) _)
          clear hK K hHeld
          have hHeld := hHeld1
          clear hHeld1
          refine wpAnyH_new (fun W hBl bx => ?_)
          have hfar := fun k hk => Nat.ne_of_gt (own.lt k hk).2
          have own := ownsRow_bl own hBl
          have hB := bl_trans hB hBl
          have hHeld := Box.below hHeld0 hBl
          clear hBl hHeld0
          refine wpAnyH_ready (rs := [4]) (by kernel_rfl) (by simp) (AllReadyH.cons rfl (fun K hK => ?_) (AllReadyH.nil))
          refine step_append_any _ 24 rfl rfl _ _ 24 rfl (w.heap.size + 1) 52 i0 (.agg #[.int .i64 0, .int .i64 0, .int .i64 0, .int .i64 0, .int .i64 0, .int .i64 0, .int .i64 0]) 7 56 Tryz.underlying24 hi0 hz0 hz1 hz2 rfl (by decide) _ _ _ rfl own _ _ _ rfl (takes_ents (hc.below hB hlt) 0 n _ (es.take n) (fun i hi => by simp [hi]) (by simp; omega)) (by unfold maxLen; omega) (by omega) (by have := hB.size; have := hHeld.1; omega) ?_
          intro v' w2 own2 hg2
          simp only [Act.put, puA, puB, puC]
          refine hK.out _ _ ?_ (fun hHeld1 => ?_)
          · exact Box.far hHeld hg2 (fun k hk => by have := (own.lt _ hk).1; omega)
          clear hK K hHeld
          have hHeld := hHeld1
          clear hHeld1
          have hB := Below.grown hB hg2 hB.size (fun k hk => by have := (own.lt _ hk).1; omega)
          have bx := Box.far bx hg2 (fun k hk => hfar k hk)
          clear hg2 own
          have own := own2
          clear own2
          refine wpAnyH_ready (rs := [7]) (by kernel_rfl) (by simp) (AllReadyH.cons rfl (fun K hK => ?_) (AllReadyH.nil))
          refine step_append_any _ 27 rfl rfl _ _ 24 rfl (w.heap.size + 1) 52 i0 (.agg #[.int .i64 0, .int .i64 0, .int .i64 0, .int .i64 0, .int .i64 0, .int .i64 0, .int .i64 0]) 7 56 Tryz.underlying24 hi0 hz0 hz1 hz2 rfl (by decide) _ _ _ rfl own _ _ _ rfl (takes_boxE bx) (by unfold maxLen; omega) (by omega) (by have := hB.size; have := hHeld.1; omega) ?_
          intro v' w2 own2 hg2
          simp only [Act.put, puA, puB, puC]
          refine hK.out _ _ ?_ (fun hHeld1 => ?_)
          · exact Box.far hHeld hg2 (fun k hk => by have := (own.lt _ hk).1; omega)
          clear hK K hHeld
          have hHeld := hHeld1
          clear hHeld1
          have hB := Below.grown hB hg2 hB.size (fun k hk => by have := (own.lt _ hk).1; omega)
          clear hg2 own
          have own := own2
          clear own2
          refine wpAnyH_ready (rs := [11]) (by kernel_rfl) (by simp) (AllReadyH.cons rfl (fun K hK => ?_) (AllReadyH.nil))
          refine step_append_any _ 31 rfl rfl _ _ 24 rfl (w.heap.size + 1) 52 i0 (.agg #[.int .i64 0, .int .i64 0, .int .i64 0, .int .i64 0, .int .i64 0, .int .i64 0, .int .i64 0]) 7 56 Tryz.underlying24 hi0 hz0 hz1 hz2 rfl (by decide) _ _ _ rfl own _ _ _ rfl (hT.out _ _ (hc.below hB hlt)) (by unfold maxLen; omega) (by omega) (by have := hB.size; have := hHeld.1; omega) ?_
          intro v' w2 own2 hg2
          simp only [Act.put, puA, puB, puC]
          refine hK.out _ _ ?_ (fun hHeld1 => ?_)
          · exact Box.far hHeld hg2 (fun k hk => by have := (own.lt _ hk).1; omega)
          clear hK K hHeld
          have hHeld := hHeld1
          clear hHeld1
          have hB := Below.grown hB hg2 hB.size (fun k hk => by have := (own.lt _ hk).1; omega)
          clear hg2 own
          have own := own2
          clear own2
          refine takeL 12 4 ?_ ?_ hHeld ?_
          rotate_left
          · (intro w hSw; (try dsimp only at hSw); simp only [Box] at hSw; go_simp; try with_reducible rfl)
          simp only [Act.put, puA, puB, puC]
          refine wpAnyH_done (by kernel_rfl) ?_ _
          replace own := own_putE hn hex own
          have own : Hid (World.ownsRow _ _ _ _ _ _ _) := own
          clear hA hT hHeld
          go_wp2_with fail
          go_ret
          exact ⟨_, rfl, own_mono own.out (by omega), hB⟩
      · skip
        go_simp
        have hHeld0 := hHeld
        refine hK.out _ _ ?_ (fun hHeld1 => ?_)
        · exact Box.below hHeld (bl_alloc (bl_refl _) _)
        clear hK K hHeld
        have hHeld := hHeld1
        clear hHeld1
        refine wpAnyH_new (fun W hBl bx => ?_)
        have hB := bl_trans hB hBl
        have hHeld := Box.below hHeld0 hBl
        clear hBl hHeld0
        refine wpAnyH_ready (rs := [0]) (by kernel_rfl) (by simp) (AllReadyH.cons rfl (fun K hK => ?_) (AllReadyH.nil))
        go_simp
        have hHeld0 := hHeld
        refine hK.out _ _ ?_ (fun hHeld1 => ?_)
        · exact Box.below hHeld (bl_alloc (bl_refl _) _)
        clear hK K hHeld
        have hHeld := hHeld1
        clear hHeld1
        refine wpAnyH_own0 (base := w.heap.size + 1) 7 hHeld0.1 (fun W hBl own => ?_)
        have hfar := far0e bx
        have bx := Box.below bx hBl
        have hB := bl_trans hB hBl
        have hHeld := Box.below hHeld0 hBl
        clear hBl hHeld0
        refine wpAnyH_ready (rs := [4]) (by kernel_rfl) (by simp) (AllReadyH.cons rfl (fun K hK => ?_) (AllReadyH.nil))
        refine step_append_any _ 24 rfl rfl _ _ 24 rfl (w.heap.size + 1) 52 i0 (.agg #[.int .i64 0, .int .i64 0, .int .i64 0, .int .i64 0, .int .i64 0, .int .i64 0, .int .i64 0]) 7 56 Tryz.underlying24 hi0 hz0 hz1 hz2 rfl (by decide) _ _ _ rfl own _ _ _ rfl (takes_ents (hc.below hB hlt) 0 n _ (es.take n) (fun i hi => by simp [hi]) (by simp; omega)) (by unfold maxLen; omega) (by omega) (by have := hB.size; have := hHeld.1; omega) ?_
        intro v' w2 own2 hg2
        simp only [Act.put, puA, puB, puC]
        refine hK.out _ _ ?_ (fun hHeld1 => ?_)
        · exact Box.far hHeld hg2 (fun k hk => by have := (own.lt _ hk).1; omega)
        clear hK K hHeld
        have hHeld := hHeld1
        clear hHeld1
        have hB := Below.grown hB hg2 hB.size (fun k hk => by have := (own.lt _ hk).1; omega)
        have bx := Box.far bx hg2 (fun k hk => hfar k hk)
        clear hg2 own
        have own := own2
        clear own2
        refine wpAnyH_ready (rs := [7]) (by kernel_rfl) (by simp) (AllReadyH.cons rfl (fun K hK => ?_) (AllReadyH.nil))
        refine step_append_any _ 27 rfl rfl _ _ 24 rfl (w.heap.size + 1) 52 i0 (.agg #[.int .i64 0, .int .i64 0, .int .i64 0, .int .i64 0, .int .i64 0, .int .i64 0, .int .i64 0]) 7 56 Tryz.underlying24 hi0 hz0 hz1 hz2 rfl (by decide) _ _ _ rfl own _ _ _ rfl (takes_boxE bx) (by unfold maxLen; omega) (by omega) (by have := hB.size; have := hHeld.1; omega) ?_
        intro v' w2 own2 hg2
        simp only [Act.put, puA, puB, puC]
        refine hK.out _ _ ?_ (fun hHeld1 => ?_)
        · exact Box.far hHeld hg2 (fun k hk => by have := (own.lt _ hk).1; omega)
        clear hK K hHeld
        have hHeld := hHeld1
        clear hHeld1
        have hB := Below.grown hB hg2 hB.size (fun k hk => by have := (own.lt _ hk).1; omega)
        clear hg2 own
        have own := own2
        clear own2
        refine wpAnyH_ready (rs := [11]) (by kernel_rfl) (by simp) (AllReadyH.cons rfl (fun K hK => ?_) (AllReadyH.nil))
        refine step_append_any _ 31 rfl rfl _ _ 24 rfl (w.heap.size + 1) 52 i0 (.agg #[.int .i64 0, .int .i64 0, .int .i64 0, .int .i64 0, .int .i64 0, .int .i64 0, .int .i64 0]) 7 56 Tryz.underlying24 hi0 hz0 hz1 hz2 rfl (by decide) _ _ _ rfl own _ _ _ rfl (hT.out _ _ (hc.below hB hlt)) (by unfold maxLen; omega) (by omega) (by have := hB.size; have := hHeld.1; omega) ?_
        intro v' w2 own2 hg2
        simp only [Act.put, puA, puB, puC]
        refine hK.out _ _ ?_ (fun hHeld1 => ?_)
        · exact Box.far hHeld hg2 (fun k hk => by have := (own.lt _ hk).1; omega)
        clear hK K hHeld
        have hHeld := hHeld1
        clear hHeld1
        have hB := Below.grown hB hg2 hB.size (fun k hk => by have := (own.lt _ hk).1; omega)
        clear hg2 own
        have own := own2
        clear own2
        refine takeL 12 4 ?_ ?_ hHeld ?_
        rotate_left
        · (intro w hSw; (try dsimp only at hSw); simp only [Box] at hSw; go_simp; try with_reducible rfl)
        simp only [Act.put, puA, puB, puC]
        refine wpAnyH_done (by kernel_rfl) ?_ _
        replace own := own_putE hn hex own
        have own : Hid (World.ownsRow _ _ _ _ _ _ _) := own
        clear hA hT hHeld
        go_wp2_with fail
        go_ret
        exact ⟨_, rfl, own_mono own.out (by omega), hB⟩

set_option maxRecDepth 20000 in
set_option maxHeartbeats 4000000 in
theorem put_nil (d : En) (w : World) :
    Calls Tryz.prog 56 #[.slice none 0 0, .agg #[.int .i64 d.k, .int .i64 d.pr, .int .i64 d.pp, .int .i64 d.o, .int .i64 d.i, .int .i64 d.ip, .int .i64 d.l]] w fun e w' => ∃ v, e = .returned v ∧ w'.ownsRow w.heap.size 52 7 v (putE [] d).length (flatE (putE [] d)) ∧ Below w.heap.size w w' := by
  obtain ⟨i0, hi0, hz0, hz1, hz2⟩ := info_parts infoEn
  go_enter Tryz.func56, Tryz.ntmps56
  go_wp2_with fail
  go_loopg [5] 0 (fun _ i wr => i = .int .i64 0 ∧ Below w.heap.size w wr ∧ Box wr w.heap.size #[.int .i64 d.k, .int .i64 d.pr, .int .i64 d.pp, .int .i64 d.o, .int .i64 d.i, .int .i64 d.ip, .int .i64 d.l])
  case atStart => exact ⟨rfl, bl_alloc (bl_refl _) _, Box.new _ _ _⟩
  case round =>
    obtain ⟨rfl, hB, hX⟩ := hrel
    have hex : Hid ((∀ j y, j < 0 → ([] : List En)[j]? = some y → lessE y d = true) ∧ ∀ y, ([] : List En)[0]? = some y → lessE y d = false) := ⟨fun j y hj _ => absurd hj (by omega), fun y hy => by simp at hy⟩
    go_wp2_with fail
    go_quiet (fail)
    replace hB := bl_draws hB nq
    replace hX := hX.below (bl_draws (bl_refl _) nq)
    generalize wr.drewN nq = Wq at *
    go_wp2_with fail
    refine wp_region_held_drew (S := (fun w' => Box w' w.heap.size #[.int .i64 d.k, .int .i64 d.pr, .int .i64 d.pp, .int .i64 d.o, .int .i64 d.i, .int .i64 d.ip, .int .i64 d.l])) (by kernel_rfl) ?_ (fun hHeld => ?_)
    · exact Box.below hX (bl_drew (bl_refl _))
    have hB := bl_trans hB (bl_drew (bl_refl Wq))
    clear hX
    generalize World.drew Wq = W0 at hHeld hB ⊢
    refine takeL 1 21 ?_ ?_ hHeld ?_
    rotate_left
    · (intro w hSw; (try dsimp only at hSw); simp only [Box] at hSw; go_simp; try with_reducible rfl)
    simp only [Act.put, puA, puB, puC]
    refine takeL 2 22 ?_ ?_ hHeld ?_
    rotate_left
    · (intro w hSw; (try dsimp only at hSw); simp only [Box] at hSw; go_simp; try with_reducible rfl)
    simp only [Act.put, puA, puB, puC]
    refine takeL 3 23 ?_ ?_ hHeld ?_
    rotate_left
    · (intro w hSw; (try dsimp only at hSw); simp only [Box] at hSw; go_simp; try with_reducible rfl)
    simp only [Act.put, puA, puB, puC]
    refine takeL 5 25 ?_ ?_ hHeld ?_
    rotate_left
    · (intro w hSw; (try dsimp only at hSw); simp only [Box] at hSw; go_simp; try with_reducible rfl)
    simp only [Act.put, puA, puB, puC]
    refine takeL 8 28 ?_ ?_ hHeld ?_
    rotate_left
    · (intro w hSw; (try dsimp only at hSw); simp only [Box] at hSw; go_simp; try with_reducible rfl)
    simp only [Act.put, puA, puB, puC]
    refine takeL 9 29 ?_ ?_ hHeld ?_
    rotate_left
    · (intro w hSw; (try dsimp only at hSw); simp only [Box] at hSw; go_simp; try with_reducible rfl)
    simp only [Act.put, puA, puB, puC]
    refine takeL 10 30 ?_ ?_ hHeld ?_
    rotate_left
    · (intro w hSw; (try dsimp only at hSw); simp only [Box] at hSw; go_simp; try with_reducible rfl)
    simp only [Act.put, puA, puB, puC]
    refine wpAnyH_ready (rs := [0, 6]) (by kernel_rfl) (by simp) (AllReadyH.cons rfl (fun K hK => ?_) (AllReadyH.cons rfl (fun K hK => ?_) (AllReadyH.nil)))
    · skip
      go_simp
      have hHeld0 := hHeld
      refine hK.out _ _ ?_ (fun hHeld1 => ?_)
      · exact Box.below hHeld (bl_alloc (bl_refl _) _)
      clear hK K hHeld
      have hHeld := hHeld1
      clear hHeld1
      refine wpAnyH_own0 (base := w.heap.size + 1) 7 hHeld0.1 (fun W hBl own => ?_)
      have hB := bl_trans hB hBl
      have hHeld := Box.below hHeld0 hBl
      clear hBl hHeld0
      refine wpAnyH_ready (rs := [4, 6]) (by kernel_rfl) (by simp) (AllReadyH.cons rfl (fun K hK => ?_) (AllReadyH.cons rfl (fun K hK => ?_) (AllReadyH.nil)))
      · skip
        refine step_append_any _ 24 rfl rfl _ _ 24 rfl (w.heap.size + 1) 52 i0 (.agg #[.int .i64 0, .int .i64 0, .int .i64 0, .int .i64 0, .int .i64 0, .int .i64 0, .int .i64 0]) 7 56 Tryz.underlying24 hi0 hz0 hz1 hz2 rfl (by decide) _ _ _ rfl own _ _ _ rfl (Or.inl ⟨rfl, rfl, 0, rfl⟩) (by unfold maxLen; omega) (by omega) (by have := hB.size; have := hHeld.1; omega) ?_
        intro v' w2 own2 hg2
        simp only [Act.put, puA, puB, puC]
        refine hK.out _ _ ?_ (fun hHeld1 => ?_)
        · exact Box.far hHeld hg2 (fun k hk => by have := (own.lt _ hk).1; omega)
        clear hK K hHeld
        have hHeld := hHeld1
        clear hHeld1
        have hB := Below.grown hB hg2 hB.size (fun k hk => by have := (own.lt _ hk).1; omega)
        clear hg2 own
        have own := own2
        clear own2
        refine wpAnyH_ready (rs := [6]) (by kernel_rfl) (by simp) (AllReadyH.cons rfl (fun K hK => ?_) (AllReadyH.nil))
        go_simp
        have hHeld0 := hHeld
        refine hK.out _ _ ?_ (fun hHeld1 => ?_)
        · exact Box.below hHeld (bl_alloc (bl_refl _) _)
        clear hK K hHeld
        have hHeld := hHeld1
        clear hHeld1
        refine wpAnyH_new (fun W hBl bx => ?_)
        have own := ownsRow_bl own hBl
        have hB := bl_trans hB hBl
        have hHeld := Box.below hHeld0 hBl
        clear hBl hHeld0
        refine wpAnyH_ready (rs := [7]) (by kernel_rfl) (by simp) (AllReadyH.cons rfl (fun K hK => ?_) (AllReadyH.nil))
        refine step_append_any _ 27 rfl rfl _ _ 24 rfl (w.heap.size + 1) 52 i0 (.agg #[.int .i64 0, .int .i64 0, .int .i64 0, .int .i64 0, .int .i64 0, .int .i64 0, .int .i64 0]) 7 56 Tryz.underlying24 hi0 hz0 hz1 hz2 rfl (by decide) _ _ _ rfl own _ _ _ rfl (takes_boxE bx) (by unfold maxLen; omega) (by omega) (by have := hB.size; have := hHeld.1; omega) ?_
        intro v' w2 own2 hg2
        simp only [Act.put, puA, puB, puC]
        refine hK.out _ _ ?_ (fun hHeld1 => ?_)
        · exact Box.far hHeld hg2 (fun k hk => by have := (own.lt _ hk).1; omega)
        clear hK K hHeld
        have hHeld := hHeld1
        clear hHeld1
        have hB := Below.grown hB hg2 hB.size (fun k hk => by have := (own.lt _ hk).1; omega)
        clear hg2 own
        have own := own2
        clear own2
        refine wpAnyH_ready (rs := [11]) (by kernel_rfl) (by simp) (AllReadyH.cons rfl (fun K hK => ?_) (AllReadyH.nil))
        refine step_append_any _ 31 rfl rfl _ _ 24 rfl (w.heap.size + 1) 52 i0 (.agg #[.int .i64 0, .int .i64 0, .int .i64 0, .int .i64 0, .int .i64 0, .int .i64 0, .int .i64 0]) 7 56 Tryz.underlying24 hi0 hz0 hz1 hz2 rfl (by decide) _ _ _ rfl own _ _ _ rfl (Or.inl ⟨rfl, rfl, 0, rfl⟩) (by unfold maxLen; omega) (by omega) (by have := hB.size; have := hHeld.1; omega) ?_
        intro v' w2 own2 hg2
        simp only [Act.put, puA, puB, puC]
        refine hK.out _ _ ?_ (fun hHeld1 => ?_)
        · exact Box.far hHeld hg2 (fun k hk => by have := (own.lt _ hk).1; omega)
        clear hK K hHeld
        have hHeld := hHeld1
        clear hHeld1
        have hB := Below.grown hB hg2 hB.size (fun k hk => by have := (own.lt _ hk).1; omega)
        clear hg2 own
        have own := own2
        clear own2
        refine takeL 12 4 ?_ ?_ hHeld ?_
        rotate_left
        · (intro w hSw; (try dsimp only at hSw); simp only [Box] at hSw; go_simp; try with_reducible rfl)
        simp only [Act.put, puA, puB, puC]
        refine wpAnyH_done (by kernel_rfl) ?_ _
        replace own := own_putE (es := []) (n := 0) (by simp) hex own
        have own : Hid (World.ownsRow _ _ _ _ _ _ _) := own
        clear hHeld
        go_wp2_with fail
        go_ret
        exact ⟨_, rfl, own_mono own.out (by omega), hB⟩
      · skip
        go_simp
        have hHeld0 := hHeld
        refine hK.out _ _ ?_ (fun hHeld1 => ?_)
        · exact Box.below hHeld (bl_alloc (bl_refl _) _)
        clear hK K hHeld
        have hHeld := hHeld1
        clear hHeld1
        refine wpAnyH_new (fun W hBl bx => ?_)
        have hfar := fun k hk => Nat.ne_of_gt (own.lt k hk).2
        have own := ownsRow_bl own hBl
        have hB := bl_trans hB hBl
        have hHeld := Box.below hHeld0 hBl
        clear hBl hHeld0
        refine wpAnyH_ready (rs := [4]) (by kernel_rfl) (by simp) (AllReadyH.cons rfl (fun K hK => ?_) (AllReadyH.nil))
        refine step_append_any _ 24 rfl rfl _ _ 24 rfl (w.heap.size + 1) 52 i0 (.agg #[.int .i64 0, .int .i64 0, .int .i64 0, .int .i64 0, .int .i64 0, .int .i64 0, .int .i64 0]) 7 56 Tryz.underlying24 hi0 hz0 hz1 hz2 rfl (by decide) _ _ _ rfl own _ _ _ rfl (Or.inl ⟨rfl, rfl, 0, rfl⟩) (by unfold maxLen; omega) (by omega) (by have := hB.size; have := hHeld.1; omega) ?_
        intro v' w2 own2 hg2
        simp only [Act.put, puA, puB, puC]
        refine hK.out _ _ ?_ (fun hHeld1 => ?_)
        · exact Box.far hHeld hg2 (fun k hk => by have := (own.lt _ hk).1; omega)
        clear hK K hHeld
        have hHeld := hHeld1
        clear hHeld1
        have hB := Below.grown hB hg2 hB.size (fun k hk => by have := (own.lt _ hk).1; omega)
        have bx := Box.far bx hg2 (fun k hk => hfar k hk)
        clear hg2 own
        have own := own2
        clear own2
        refine wpAnyH_ready (rs := [7]) (by kernel_rfl) (by simp) (AllReadyH.cons rfl (fun K hK => ?_) (AllReadyH.nil))
        refine step_append_any _ 27 rfl rfl _ _ 24 rfl (w.heap.size + 1) 52 i0 (.agg #[.int .i64 0, .int .i64 0, .int .i64 0, .int .i64 0, .int .i64 0, .int .i64 0, .int .i64 0]) 7 56 Tryz.underlying24 hi0 hz0 hz1 hz2 rfl (by decide) _ _ _ rfl own _ _ _ rfl (takes_boxE bx) (by unfold maxLen; omega) (by omega) (by have := hB.size; have := hHeld.1; omega) ?_
        intro v' w2 own2 hg2
        simp only [Act.put, puA, puB, puC]
        refine hK.out _ _ ?_ (fun hHeld1 => ?_)
        · exact Box.far hHeld hg2 (fun k hk => by have := (own.lt _ hk).1; omega)
        clear hK K hHeld
        have hHeld := hHeld1
        clear hHeld1
        have hB := Below.grown hB hg2 hB.size (fun k hk => by have := (own.lt _ hk).1; omega)
        clear hg2 own
        have own := own2
        clear own2
        refine wpAnyH_ready (rs := [11]) (by kernel_rfl) (by simp) (AllReadyH.cons rfl (fun K hK => ?_) (AllReadyH.nil))
        refine step_append_any _ 31 rfl rfl _ _ 24 rfl (w.heap.size + 1) 52 i0 (.agg #[.int .i64 0, .int .i64 0, .int .i64 0, .int .i64 0, .int .i64 0, .int .i64 0, .int .i64 0]) 7 56 Tryz.underlying24 hi0 hz0 hz1 hz2 rfl (by decide) _ _ _ rfl own _ _ _ rfl (Or.inl ⟨rfl, rfl, 0, rfl⟩) (by unfold maxLen; omega) (by omega) (by have := hB.size; have := hHeld.1; omega) ?_
        intro v' w2 own2 hg2
        simp only [Act.put, puA, puB, puC]
        refine hK.out _ _ ?_ (fun hHeld1 => ?_)
        · exact Box.far hHeld hg2 (fun k hk => by have := (own.lt _ hk).1; omega)
        clear hK K hHeld
        have hHeld := hHeld1
        clear hHeld1
        have hB := Below.grown hB hg2 hB.size (fun k hk => by have := (own.lt _ hk).1; omega)
        clear hg2 own
        have own := own2
        clear own2
        refine takeL 12 4 ?_ ?_ hHeld ?_
        rotate_left
        · (intro w hSw; (try dsimp only at hSw); simp only [Box] at hSw; go_simp; try with_reducible rfl)
        simp only [Act.put, puA, puB, puC]
        refine wpAnyH_done (by kernel_rfl) ?_ _
        replace own := own_putE (es := []) (n := 0) (by simp) hex own
        have own : Hid (World.ownsRow _ _ _ _ _ _ _) := own
        clear hHeld
        go_wp2_with fail
        go_ret
        exact ⟨_, rfl, own_mono own.out (by omega), hB⟩
    · skip
      go_simp
      have hHeld0 := hHeld
      refine hK.out _ _ ?_ (fun hHeld1 => ?_)
      · exact Box.below hHeld (bl_alloc (bl_refl _) _)
      clear hK K hHeld
      have hHeld := hHeld1
      clear hHeld1
      refine wpAnyH_new (fun W hBl bx => ?_)
      have hB := bl_trans hB hBl
      have hHeld := Box.below hHeld0 hBl
      clear hBl hHeld0
      refine wpAnyH_ready (rs := [0]) (by kernel_rfl) (by simp) (AllReadyH.cons rfl (fun K hK => ?_) (AllReadyH.nil))
      go_simp
      have hHeld0 := hHeld
      refine hK.out _ _ ?_ (fun hHeld1 => ?_)
      · exact Box.below hHeld (bl_alloc (bl_refl _) _)
      clear hK K hHeld
      have hHeld := hHeld1
      clear hHeld1
      refine wpAnyH_own0 (base := w.heap.size + 1) 7 hHeld0.1 (fun W hBl own => ?_)
      have hfar := far0e bx
      have bx := Box.below bx hBl
      have hB := bl_trans hB hBl
      have hHeld := Box.below hHeld0 hBl
      clear hBl hHeld0
      refine wpAnyH_ready (rs := [4]) (by kernel_rfl) (by simp) (AllReadyH.cons rfl (fun K hK => ?_) (AllReadyH.nil))
      refine step_append_any _ 24 rfl rfl _ _ 24 rfl (w.heap.size + 1) 52 i0 (.agg #[.int .i64 0, .int .i64 0, .int .i64 0, .int .i64 0, .int .i64 0, .int .i64 0, .int .i64 0]) 7 56 Tryz.underlying24 hi0 hz0 hz1 hz2 rfl (by decide) _ _ _ rfl own _ _ _ rfl (Or.inl ⟨rfl, rfl, 0, rfl⟩) (by unfold maxLen; omega) (by omega) (by have := hB.size; have := hHeld.1; omega) ?_
      intro v' w2 own2 hg2
      simp only [Act.put, puA, puB, puC]
      refine hK.out _ _ ?_ (fun hHeld1 => ?_)
      · exact Box.far hHeld hg2 (fun k hk => by have := (own.lt _ hk).1; omega)
      clear hK K hHeld
      have hHeld := hHeld1
      clear hHeld1
      have hB := Below.grown hB hg2 hB.size (fun k hk => by have := (own.lt _ hk).1; omega)
      have bx := Box.far bx hg2 (fun k hk => hfar k hk)
      clear hg2 own
      have own := own2
      clear own2
      refine wpAnyH_ready (rs := [7]) (by kernel_rfl) (by simp) (AllReadyH.cons rfl (fun K hK => ?_) (AllReadyH.nil))
      refine step_append_any _ 27 rfl rfl _ _ 24 rfl (w.heap.size + 1) 52 i0 (.agg #[.int .i64 0, .int .i64 0, .int .i64 0, .int .i64 0, .int .i64 0, .int .i64 0, .int .i64 0]) 7 56 Tryz.underlying24 hi0 hz0 hz1 hz2 rfl (by decide) _ _ _ rfl own _ _ _ rfl (takes_boxE bx) (by unfold maxLen; omega) (by omega) (by have := hB.size; have := hHeld.1; omega) ?_
      intro v' w2 own2 hg2
      simp only [Act.put, puA, puB, puC]
      refine hK.out _ _ ?_ (fun hHeld1 => ?_)
      · exact Box.far hHeld hg2 (fun k hk => by have := (own.lt _ hk).1; omega)
      clear hK K hHeld
      have hHeld := hHeld1
      clear hHeld1
      have hB := Below.grown hB hg2 hB.size (fun k hk => by have := (own.lt _ hk).1; omega)
      clear hg2 own
      have own := own2
      clear own2
      refine wpAnyH_ready (rs := [11]) (by kernel_rfl) (by simp) (AllReadyH.cons rfl (fun K hK => ?_) (AllReadyH.nil))
      refine step_append_any _ 31 rfl rfl _ _ 24 rfl (w.heap.size + 1) 52 i0 (.agg #[.int .i64 0, .int .i64 0, .int .i64 0, .int .i64 0, .int .i64 0, .int .i64 0, .int .i64 0]) 7 56 Tryz.underlying24 hi0 hz0 hz1 hz2 rfl (by decide) _ _ _ rfl own _ _ _ rfl (Or.inl ⟨rfl, rfl, 0, rfl⟩) (by unfold maxLen; omega) (by omega) (by have := hB.size; have := hHeld.1; omega) ?_
      intro v' w2 own2 hg2
      simp only [Act.put, puA, puB, puC]
      refine hK.out _ _ ?_ (fun hHeld1 => ?_)
      · exact Box.far hHeld hg2 (fun k hk => by have := (own.lt _ hk).1; omega)
      clear hK K hHeld
      have hHeld := hHeld1
      clear hHeld1
      have hB := Below.grown hB hg2 hB.size (fun k hk => by have := (own.lt _ hk).1; omega)
      clear hg2 own
      have own := own2
      clear own2
      refine takeL 12 4 ?_ ?_ hHeld ?_
      rotate_left
      · (intro w hSw; (try dsimp only at hSw); simp only [Box] at hSw; go_simp; try with_reducible rfl)
      simp only [Act.put, puA, puB, puC]
      refine wpAnyH_done (by kernel_rfl) ?_ _
      replace own := own_putE (es := []) (n := 0) (by simp) hex own
      have own : Hid (World.ownsRow _ _ _ _ _ _ _) := own
      clear hHeld
      go_wp2_with fail
      go_ret
      exact ⟨_, rfl, own_mono own.out (by omega), hB⟩
theorem putE_ret (va : Option Addr) (vc base : Nat) (es : List En) (d : En) (w : World) (ho : w.ownsRow base 52 7 (.slice va es.length vc) es.length (flatE es)) (hl : es.length ≤ 100) :
    Calls Tryz.prog 56 #[.slice va es.length vc, .agg #[.int .i64 d.k, .int .i64 d.pr, .int .i64 d.pp, .int .i64 d.o, .int .i64 d.i, .int .i64 d.ip, .int .i64 d.l]] w fun e w' => ∃ v, e = .returned v ∧ w'.ownsRow w.heap.size 52 7 v (putE es d).length (flatE (putE es d)) ∧ Below w.heap.size w w' := by
  rcases ho.2 with ⟨h1, h2⟩ | ⟨g, cap, cur, h1, h2, h3, h4, h5⟩
  · obtain rfl := List.eq_nil_of_length_eq_zero h2
    simp only [List.length_nil, Value.slice.injEq] at h1
    obtain ⟨rfl, -, rfl⟩ := h1
    exact put_nil d w
  · have hlt := (ho.lt g (by rw [h1]; rfl)).2
    simp only [Value.slice.injEq] at h1
    obtain ⟨rfl, -, rfl⟩ := h1
    exact put_some g 0 es vc d w hlt (enCells_of_own ho rfl) hl h4
end Go.Proofs.YtcgjpmhjijmplaaGreatDoor
