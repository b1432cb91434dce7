/- The specification's l3Put, walked. -/
import Derived.Test.YtcgjpmhjijmplaaGreatDoorOut1
import Derived.Test.YtcgjpmhjijmplaaGreatDoorTick2
namespace Go.Proofs.YtcgjpmhjijmplaaGreatDoor
open Go.ChangeShapes Go.WideShapes Go.ChangeAt Go.RowKit Go.Maps

/-- An entry laid into a list: behind all that stand ahead of it. -/
def putE (es : List En) (d : En) : List En := es.takeWhile (lessE · d) ++ [d] ++ es.dropWhile (lessE · d)
theorem while_at {α : Type} {p : α → Bool} : ∀ {xs : List α} {n : Nat}, n ≤ xs.length → (∀ j y, j < n → xs[j]? = some y → p y = true) → (∀ y, xs[n]? = some y → p y = false) → xs.takeWhile p = xs.take n ∧ xs.dropWhile p = xs.drop n
  | [], n, hn, _, _ => by simp at hn; simp [hn]
  | x :: xs, 0, _, _, h2 => by
    have := h2 x (by simp)
    simp [this]
  | x :: xs, n + 1, hn, h1, h2 => by
    have hx := h1 0 x (by omega) (by simp)
    have ih := while_at (p := p) (xs := xs) (n := n) (by simpa using hn) (fun j y hj hy => h1 (j + 1) y (by omega) (by simpa using hy)) (fun y hy => h2 y (by simpa using hy))
    simp [hx, ih.1, ih.2]
theorem putE_at {es : List En} {d : En} {n : Nat} (hn : n ≤ es.length) (h1 : ∀ j y, j < n → es[j]? = some y → lessE y d = true) (h2 : ∀ y, es[n]? = some y → lessE y d = false) : putE es d = es.take n ++ [d] ++ es.drop n := by
  obtain ⟨a, b⟩ := while_at (p := (lessE · d)) hn h1 h2
  unfold putE; rw [a, b]
theorem putE_length (es : List En) (d : En) : (putE es d).length = es.length + 1 := by
  have h := congrArg List.length (List.takeWhile_append_dropWhile (p := (lessE · d)) (l := es))
  simp only [List.length_append] at h
  simp only [putE, List.length_append, List.length_cons, List.length_nil]
  omega
theorem own_putE {W : World} {base n : Nat} {T : TypeId} {v : Value} {es : List En} {d : En} (hn : n ≤ es.length) (hx : Hid ((∀ j y, j < n → es[j]? = some y → lessE y d = true) ∧ ∀ y, es[n]? = some y → lessE y d = false)) (own : W.ownsRow base T 7 v (0 + n + 1 + (es.length - n)) ([] ++ flatE (es.take n) ++ flatE [d] ++ flatE (es.drop n))) :
    W.ownsRow base T 7 v (putE es d).length (flatE (putE es d)) := by
  have e1 : 0 + n + 1 + (es.length - n) = (putE es d).length := by rw [putE_length]; omega
  have e2 : [] ++ flatE (es.take n) ++ flatE [d] ++ flatE (es.drop n) = flatE (putE es d) := by
    rw [putE_at hn hx.out.1 hx.out.2]
    simp only [flatE_append, List.nil_append]
  rw [← e1, ← e2]; exact own
theorem far0e {W : World} {n : Nat} {C : Array Value} (bx : Box W n C) : ∀ k, (Value.slice (some ⟨W.heap.size, 0, none⟩) 0 0).ownBlock = some k → n ≠ k := by
  intro k hk
  simp [Value.ownBlock] at hk
  have := bx.1
  omega
theorem takes_boxE {w : World} {n : Nat} {d : En} (h : Box w n #[.int .i64 d.k, .int .i64 d.pr, .int .i64 d.pp, .int .i64 d.o, .int .i64 d.i, .int .i64 d.ip, .int .i64 d.l]) : Takes w 7 (.slice (some ⟨n, 0, none⟩) 1 1) 1 (flatE [d]) := by
  refine Or.inr ⟨rfl, flatE_one _, _, 1, rfl, fun j u hu => ?_⟩
  rw [addr_addD, Nat.zero_add, h.2 j]
  simpa [flatE, enV] using hu
theorem enCells_sub {w : World} {b o k m : Nat} {es L : List En} (hc : EnCells w b o es) (hL : ∀ i, i < m → L[i]? = es[k + i]?) (hm : L.length = m) : EnCells w b (o + k * 7) L := by
  intro i d hi
  have hlt : i < m := by rw [← hm]; exact get_lt hi
  have h := hc (k + i) d (by rw [← hL i hlt]; exact hi)
  rw [show o + (k + i) * 7 = o + k * 7 + i * 7 by omega] at h
  exact h
theorem takes_ents {w : World} {b o : Nat} {es : List En} (hc : EnCells w b o es) (k m c : Nat) (L : List En) (hL : ∀ i, i < m → L[i]? = es[k + i]?) (hm : L.length = m) : Takes w 7 (.slice (some ⟨b, o + k * 7, none⟩) m c) m (flatE L) := by
  subst hm
  exact takes_entries (enCells_sub hc hL rfl) c
theorem tail_ents (b o : Nat) (es : List En) (ec n : Nat) (hn : n ≤ es.length) (hec : es.length ≤ ec) : ∃ A : Addr, (if ec = n then some (⟨b, o, none⟩ : Addr) else some ⟨b, o + n * 7, none⟩) = some A ∧ ∀ (W : World) (c : Nat), EnCells W b o es → Takes W 7 (.slice (some A) (es.length - n) c) (es.length - n) (flatE (es.drop n)) := by
  by_cases h : ec = n
  · refine ⟨⟨b, o, none⟩, by simp [h], fun W c hc => ?_⟩
    have h0 : es.length - n = 0 := by omega
    have h1 : es.drop n = [] := List.drop_eq_nil_of_le (by omega)
    rw [h0, h1]
    exact Or.inr ⟨rfl, by simp [flatE], ⟨b, o, none⟩, c, rfl, by simp [flatE]⟩
  · exact ⟨⟨b, o + n * 7, none⟩, by simp [h], fun W c hc => takes_ents hc n (es.length - n) c (es.drop n) (fun i _ => by simp) (by simp)⟩

set_option maxRecDepth 20000 in
set_option maxHeartbeats 4000000 in
theorem put_some (b o : Nat) (es : List En) (ec : Nat) (d : En) (w : World) (hlt : b < w.heap.size) (hc : EnCells w b o es) (hl : es.length ≤ 100) (hec : es.length ≤ ec) :
    Calls Tryz.prog 56 #[.slice (some ⟨b, o, none⟩) es.length ec, .agg #[.int .i64 d.k, .int .i64 d.pr, .int .i64 d.pp, .int .i64 d.o, .int .i64 d.i, .int .i64 d.ip, .int .i64 d.l]] w fun e w' => ∃ v, e = .returned v ∧ w'.ownsRow w.heap.size 52 7 v (putE es d).length (flatE (putE es d)) ∧ Below w.heap.size w w' := by
  obtain ⟨i0, hi0, hz0, hz1, hz2⟩ := info_parts infoEn
  go_enter Tryz.func56, Tryz.ntmps56
  go_wp2_with fail
  go_loopg [5] es.length (fun g i wr => ∃ n : Nat, g = es.length - n ∧ n ≤ es.length ∧ i = .int .i64 n ∧ (∀ j y, j < n → es[j]? = some y → lessE y d = true) ∧ Below w.heap.size w wr ∧ Box wr w.heap.size #[.int .i64 d.k, .int .i64 d.pr, .int .i64 d.pp, .int .i64 d.o, .int .i64 d.i, .int .i64 d.ip, .int .i64 d.l])
  case atStart => exact ⟨0, by omega, by omega, rfl, fun j y hj _ => absurd hj (by omega), bl_alloc (bl_refl _) _, Box.new _ _ _⟩
  case round =>
    obtain ⟨n, hg, hn, rfl, HD, hB, hX⟩ := hrel
    have HD : Hid (∀ j y, j < n → es[j]? = some y → lessE y d = true) := HD
    have hn64 : (n : Int) ≤ 100 := by omega
    have hnec : n ≤ ec := by omega
    obtain ⟨A, hA, hT⟩ := tail_ents b o es ec n hn hec
    have hT : Hid _ := hT
    by_cases hlt2 : n < es.length
    · obtain ⟨e, he⟩ : ∃ e, es[n]? = some e := ⟨es[n], by simp [hlt2]⟩
      have he : Hid (es[n]? = some e) := he
      have hcs := hc.below hB hlt
      have hgl : b < wr.heap.size := Nat.lt_of_lt_of_le hlt hB.size
      have hq1 : decide ((n : Int) < (es.length : Int)) = true := by simpa using hlt2
      have hlt' : (n : Int) < (es.length : Int) := by omega
      by_cases hle : lessE e d = true
      · go_wp2_with fail
        refine wp_region_held_drew (S := (fun w' => Box w' w.heap.size #[.int .i64 d.k, .int .i64 d.pr, .int .i64 d.pp, .int .i64 d.o, .int .i64 d.i, .int .i64 d.ip, .int .i64 d.l] ∧ EnCells w' b o es)) (by kernel_rfl) ?_ (fun hHeld => ?_)
        · exact ⟨hX.below (bl_drew (bl_refl _)), hcs.below (bl_drew (bl_refl _)) hgl⟩
        have hlq := bl_drew (bl_refl wr)
        replace hB := bl_trans hB hlq
        replace hX := hX.below hlq
        replace hcs := hcs.below hlq hgl
        have hgl : b < wr.drew.heap.size := hgl
        clear hlq
        generalize wr.drew = Wd at hX hcs hgl hB hHeld ⊢
        refine takeL 0 6 ?_ ?_ hHeld ?_
        rotate_left
        · (intro w hSw; (try dsimp only at hSw); obtain ⟨hS1, hS3⟩ := hSw; obtain ⟨c0, c1, c2, c3, c4, c5, c6⟩ := hS3 _ _ he.out; simp only [Box] at hS1; go_simp; try with_reducible rfl)
        simp only [Act.put, puA, puB, puC]
        refine takeL 1 7 ?_ ?_ hHeld ?_
        rotate_left
        · (intro w hSw; (try dsimp only at hSw); obtain ⟨hS1, hS3⟩ := hSw; obtain ⟨c0, c1, c2, c3, c4, c5, c6⟩ := hS3 _ _ he.out; simp only [Box] at hS1; go_simp; try with_reducible rfl)
        simp only [Act.put, puA, puB, puC]
        refine takeL 2 8 ?_ ?_ hHeld ?_
        rotate_left
        · (intro w hSw; (try dsimp only at hSw); obtain ⟨hS1, hS3⟩ := hSw; obtain ⟨c0, c1, c2, c3, c4, c5, c6⟩ := hS3 _ _ he.out; simp only [Box] at hS1; go_simp; try with_reducible rfl)
        simp only [Act.put, puA, puB, puC]
        refine takeL 3 9 ?_ ?_ hHeld ?_
        rotate_left
        · (intro w hSw; (try dsimp only at hSw); obtain ⟨hS1, hS3⟩ := hSw; obtain ⟨c0, c1, c2, c3, c4, c5, c6⟩ := hS3 _ _ he.out; simp only [Box] at hS1; go_simp; try with_reducible rfl)
        simp only [Act.put, puA, puB, puC]
        refine takeL 4 10 ?_ ?_ hHeld ?_
        rotate_left
        · (intro w hSw; (try dsimp only at hSw); obtain ⟨hS1, hS3⟩ := hSw; obtain ⟨c0, c1, c2, c3, c4, c5, c6⟩ := hS3 _ _ he.out; simp only [Box] at hS1; go_simp; try with_reducible rfl)
        simp only [Act.put, puA, puB, puC]
        refine takeL 5 11 ?_ ?_ hHeld ?_
        rotate_left
        · (intro w hSw; (try dsimp only at hSw); obtain ⟨hS1, hS3⟩ := hSw; obtain ⟨c0, c1, c2, c3, c4, c5, c6⟩ := hS3 _ _ he.out; simp only [Box] at hS1; go_simp; try with_reducible rfl)
        simp only [Act.put, puA, puB, puC]
        refine takeL 6 12 ?_ ?_ hHeld ?_
        rotate_left
        · (intro w hSw; (try dsimp only at hSw); obtain ⟨hS1, hS3⟩ := hSw; obtain ⟨c0, c1, c2, c3, c4, c5, c6⟩ := hS3 _ _ he.out; simp only [Box] at hS1; go_simp; try with_reducible rfl)
        simp only [Act.put, puA, puB, puC]
        refine takeL 7 13 ?_ ?_ hHeld ?_
        rotate_left
        · (intro w hSw; (try dsimp only at hSw); obtain ⟨hS1, hS3⟩ := hSw; obtain ⟨c0, c1, c2, c3, c4, c5, c6⟩ := hS3 _ _ he.out; simp only [Box] at hS1; go_simp; try with_reducible rfl)
        simp only [Act.put, puA, puB, puC]
        refine takeL 8 14 ?_ ?_ hHeld ?_
        rotate_left
        · (intro w hSw; (try dsimp only at hSw); obtain ⟨hS1, hS3⟩ := hSw; obtain ⟨c0, c1, c2, c3, c4, c5, c6⟩ := hS3 _ _ he.out; simp only [Box] at hS1; go_simp; try with_reducible rfl)
        simp only [Act.put, puA, puB, puC]
        refine takeL 9 15 ?_ ?_ hHeld ?_
        rotate_left
        · (intro w hSw; (try dsimp only at hSw); obtain ⟨hS1, hS3⟩ := hSw; obtain ⟨c0, c1, c2, c3, c4, c5, c6⟩ := hS3 _ _ he.out; simp only [Box] at hS1; go_simp; try with_reducible rfl)
        simp only [Act.put, puA, puB, puC]
        refine wpAnyH_ready (rs := [10]) (by kernel_rfl) (by simp) (AllReadyH.cons rfl (fun K hK => ?_) (AllReadyH.nil))
        refine step_callg 16 105 rfl (by kernel_rfl) (l2Less_b e d _ true hle) (by kernel_rfl) ?_
        rintro e' W ⟨rfl, hb⟩
        refine ⟨_, rfl, ?_⟩
        simp only [Act.put, puA, puB, puC]
        replace hB := bl_trans hB hb
        replace hX := hX.below hb
        replace hcs := hcs.below hb hgl
        clear hb
        refine hK.out _ _ ?_ (fun hHeld1 => ?_)
        · exact ⟨hX, hcs⟩
        clear hK K hHeld
        have hHeld := hHeld1
        clear hHeld1
        refine takeL 11 17 ?_ ?_ hHeld ?_
        rotate_left
        · (intro w hSw; (try dsimp only at hSw); obtain ⟨hS1, hS3⟩ := hSw; obtain ⟨c0, c1, c2, c3, c4, c5, c6⟩ := hS3 _ _ he.out; simp only [Box] at hS1; go_simp; try with_reducible rfl)
        simp only [Act.put, puA, puB, puC]
        refine wpAnyH_done (by kernel_rfl) ?_ _
        go_wp2_with fail
        go_roundg (es.length - (n + 1))
        case measure => omega
        case rel => exact ⟨n + 1, rfl, by omega, by go_num, fun j y hj hy => (by rcases Nat.lt_or_ge j n with h | h; exact HD.out j y h hy; have : j = n := (by omega); subst this; rw [some_one hy he.out]; exact hle), hB, hX⟩
      · have hle : lessE e d = false := by simpa using hle
        have hex : Hid ((∀ j y, j < n → es[j]? = some y → lessE y d = true) ∧ ∀ y, es[n]? = some y → lessE y d = false) := ⟨HD.out, fun y hy => by rw [some_one hy he.out]; exact hle⟩
        go_wp2_with fail
        refine wp_region_held_drew (S := (fun w' => Box w' w.heap.size #[.int .i64 d.k, .int .i64 d.pr, .int .i64 d.pp, .int .i64 d.o, .int .i64 d.i, .int .i64 d.ip, .int .i64 d.l] ∧ EnCells w' b o es)) (by kernel_rfl) ?_ (fun hHeld => ?_)
        · exact ⟨hX.below (bl_drew (bl_refl _)), hcs.below (bl_drew (bl_refl _)) hgl⟩
        have hlq := bl_drew (bl_refl wr)
        replace hB := bl_trans hB hlq
        replace hX := hX.below hlq
        replace hcs := hcs.below hlq hgl
        have hgl : b < wr.drew.heap.size := hgl
        clear hlq
        generalize wr.drew = Wd at hX hcs hgl hB hHeld ⊢
        refine takeL 0 6 ?_ ?_ hHeld ?_
        rotate_left
        · (intro w hSw; (try dsimp only at hSw); obtain ⟨hS1, hS3⟩ := hSw; obtain ⟨c0, c1, c2, c3, c4, c5, c6⟩ := hS3 _ _ he.out; simp only [Box] at hS1; go_simp; try with_reducible rfl)
        simp only [Act.put, puA, puB, puC]
        refine takeL 1 7 ?_ ?_ hHeld ?_
        rotate_left
        · (intro w hSw; (try dsimp only at hSw); obtain ⟨hS1, hS3⟩ := hSw; obtain ⟨c0, c1, c2, c3, c4, c5, c6⟩ := hS3 _ _ he.out; simp only [Box] at hS1; go_simp; try with_reducible rfl)
        simp only [Act.put, puA, puB, puC]
        refine takeL 2 8 ?_ ?_ hHeld ?_
        rotate_left
        · (intro w hSw; (try dsimp only at hSw); obtain ⟨hS1, hS3⟩ := hSw; obtain ⟨c0, c1, c2, c3, c4, c5, c6⟩ := hS3 _ _ he.out; simp only [Box] at hS1; go_simp; try with_reducible rfl)
        simp only [Act.put, puA, puB, puC]
        refine takeL 3 9 ?_ ?_ hHeld ?_
        rotate_left
        · (intro w hSw; (try dsimp only at hSw); obtain ⟨hS1, hS3⟩ := hSw; obtain ⟨c0, c1, c2, c3, c4, c5, c6⟩ := hS3 _ _ he.out; simp only [Box] at hS1; go_simp; try with_reducible rfl)
        simp only [Act.put, puA, puB, puC]
        refine takeL 4 10 ?_ ?_ hHeld ?_
        rotate_left
        · (intro w hSw; (try dsimp only at hSw); obtain ⟨hS1, hS3⟩ := hSw; obtain ⟨c0, c1, c2, c3, c4, c5, c6⟩ := hS3 _ _ he.out; simp only [Box] at hS1; go_simp; try with_reducible rfl)
        simp only [Act.put, puA, puB, puC]
        refine takeL 5 11 ?_ ?_ hHeld ?_
        rotate_left
        · (intro w hSw; (try dsimp only at hSw); obtain ⟨hS1, hS3⟩ := hSw; obtain ⟨c0, c1, c2, c3, c4, c5, c6⟩ := hS3 _ _ he.out; simp only [Box] at hS1; go_simp; try with_reducible rfl)
        simp only [Act.put, puA, puB, puC]
        refine takeL 6 12 ?_ ?_ hHeld ?_
        rotate_left
        · (intro w hSw; (try dsimp only at hSw); obtain ⟨hS1, hS3⟩ := hSw; obtain ⟨c0, c1, c2, c3, c4, c5, c6⟩ := hS3 _ _ he.out; simp only [Box] at hS1; go_simp; try with_reducible rfl)
        simp only [Act.put, puA, puB, puC]
        refine takeL 7 13 ?_ ?_ hHeld ?_
        rotate_left
        · (intro w hSw; (try dsimp only at hSw); obtain ⟨hS1, hS3⟩ := hSw; obtain ⟨c0, c1, c2, c3, c4, c5, c6⟩ := hS3 _ _ he.out; simp only [Box] at hS1; go_simp; try with_reducible rfl)
        simp only [Act.put, puA, puB, puC]
        refine takeL 8 14 ?_ ?_ hHeld ?_
        rotate_left
        · (intro w hSw; (try dsimp only at hSw); obtain ⟨hS1, hS3⟩ := hSw; obtain ⟨c0, c1, c2, c3, c4, c5, c6⟩ := hS3 _ _ he.out; simp only [Box] at hS1; go_simp; try with_reducible rfl)
        simp only [Act.put, puA, puB, puC]
        refine takeL 9 15 ?_ ?_ hHeld ?_
        rotate_left
        · (intro w hSw; (try dsimp only at hSw); obtain ⟨hS1, hS3⟩ := hSw; obtain ⟨c0, c1, c2, c3, c4, c5, c6⟩ := hS3 _ _ he.out; simp only [Box] at hS1; go_simp; try with_reducible rfl)
        simp only [Act.put, puA, puB, puC]
        refine wpAnyH_ready (rs := [10]) (by kernel_rfl) (by simp) (AllReadyH.cons rfl (fun K hK => ?_) (AllReadyH.nil))
        refine step_callg 16 105 rfl (by kernel_rfl) (l2Less_b e d _ false hle) (by kernel_rfl) ?_
        rintro e' W ⟨rfl, hb⟩
        refine ⟨_, rfl, ?_⟩
        simp only [Act.put, puA, puB, puC]
        replace hB := bl_trans hB hb
        replace hX := hX.below hb
        replace hcs := hcs.below hb hgl
        clear hb
        refine hK.out _ _ ?_ (fun hHeld1 => ?_)
        · exact ⟨hX, hcs⟩
        clear hK K hHeld
        have hHeld := hHeld1
        clear hHeld1
        refine takeL 11 17 ?_ ?_ hHeld ?_
        rotate_left
        · (intro w hSw; (try dsimp only at hSw); obtain ⟨hS1, hS3⟩ := hSw; obtain ⟨c0, c1, c2, c3, c4, c5, c6⟩ := hS3 _ _ he.out; simp only [Box] at hS1; go_simp; try with_reducible rfl)
        simp only [Act.put, puA, puB, puC]
        refine wpAnyH_done (by kernel_rfl) ?_ _
        go_wp2_with fail
        clear hHeld hcs
        refine wp_region_held_drew (S := (fun w' => Box w' w.heap.size #[.int .i64 d.k, .int .i64 d.pr, .int .i64 d.pp, .int .i64 d.o, .int .i64 d.i, .int .i64 d.ip, .int .i64 d.l])) (by kernel_rfl) ?_ (fun hHeld => ?_)
        · exact Box.below hX (bl_drew (bl_refl _))
        have hB := bl_trans hB (bl_drew (bl_refl W))
        clear hX
        generalize World.drew W = W0 at hHeld hB ⊢
        refine takeL 1 21 ?_ ?_ hHeld ?_
        rotate_left
        · (intro w hSw; (try dsimp only at hSw); simp only [Box] at hSw; go_simp; try with_reducible rfl)
        simp only [Act.put, puA, puB, puC]
        refine takeL 2 22 ?_ ?_ hHeld ?_
        rotate_left
        · (intro w hSw; (try dsimp only at hSw); simp only [Box] at hSw; go_simp; try with_reducible rfl)
        simp only [Act.put, puA, puB, puC]
        refine takeL 3 23 ?_ ?_ hHeld ?_
        rotate_left
        · (intro w hSw; (try dsimp only at hSw); simp only [Box] at hSw; go_simp; try with_reducible rfl)
        simp only [Act.put, puA, puB, puC]
        refine takeL 5 25 ?_ ?_ hHeld ?_
        rotate_left
        · (intro w hSw; (try dsimp only at hSw); simp only [Box] at hSw; go_simp; try with_reducible rfl)
        simp only [Act.put, puA, puB, puC]
        refine takeL 8 28 ?_ ?_ hHeld ?_
        rotate_left
        · (intro w hSw; (try dsimp only at hSw); simp only [Box] at hSw; go_simp; try with_reducible rfl)
        simp only [Act.put, puA, puB, puC]
        refine takeL 9 29 ?_ ?_ hHeld ?_
        rotate_left
        · (intro w hSw; (try dsimp only at hSw); simp only [Box] at hSw; go_simp; try with_reducible rfl)
        simp only [Act.put, puA, puB, puC]
        refine takeL 10 30 ?_ ?_ hHeld ?_
        rotate_left
        · (intro w hSw; (try dsimp only at hSw); simp only [Box] at hSw; go_simp; try with_reducible rfl)
        simp only [Act.put, puA, puB, puC]
        refine wpAnyH_ready (rs := [0, 6]) (by kernel_rfl) (by simp) (AllReadyH.cons rfl (fun K hK => ?_) (AllReadyH.cons rfl (fun K hK => ?_) (AllReadyH.nil)))
        · skip
          go_simp
          have hHeld0 := hHeld
          refine hK.out _ _ ?_ (fun hHeld1 => ?_)
          · exact Box.below hHeld (bl_alloc (bl_refl _) _)
          clear hK K hHeld
          have hHeld := hHeld1
          clear hHeld1
          refine wpAnyH_own0 (base := w.heap.size + 1) 7 hHeld0.1 (fun W hBl own => ?_)
          have hB := bl_trans hB hBl
          have hHeld := Box.below hHeld0 hBl
          clear hBl hHeld0
          refine wpAnyH_ready (rs := [4, 6]) (by kernel_rfl) (by simp) (AllReadyH.cons rfl (fun K hK => ?_) (AllReadyH.cons rfl (fun K hK => ?_) (AllReadyH.nil)))
          · skip
            refine step_append_any _ 24 rfl rfl _ _ 24 rfl (w.heap.size + 1) 52 i0 (.agg #[.int .i64 0, .int .i64 0, .int .i64 0, .int .i64 0, .int .i64 0, .int .i64 0, .int .i64 0]) 7 56 Tryz.underlying24 hi0 hz0 hz1 hz2 rfl (by decide) _ _ _ rfl own _ _ _ rfl (takes_ents (hc.below hB hlt) 0 n _ (es.take n) (fun i hi => by simp [hi]) (by simp; omega)) (by unfold maxLen; omega) (by omega) (by have := hB.size; have := hHeld.1; omega) ?_
            intro v' w2 own2 hg2
            simp only [Act.put, puA, puB, puC]
            refine hK.out _ _ ?_ (fun hHeld1 => ?_)
            · exact Box.far hHeld hg2 (fun k hk => by have := (own.lt _ hk).1; omega)
            clear hK K hHeld
            have hHeld := hHeld1
            clear hHeld1
            have hB := Below.grown hB hg2 hB.size (fun k hk => by have := (own.lt _ hk).1; omega)
            clear hg2 own
            have own := own2
            clear own2
            refine wpAnyH_ready (rs := [6]) (by kernel_rfl) (by simp) (AllReadyH.cons rfl (fun K hK => ?_) (AllReadyH.nil))
            go_simp
            have hHeld0 := hHeld
            refine hK.out _ _ ?_ (fun hHeld1 => ?_)
            · exact Box.below hHeld (bl_alloc (bl_refl _) _)
            clear hK K hHeld
            have hHeld := hHeld1
            clear hHeld1
            refine wpAnyH_new (fun W hBl bx => ?_)
            have own := ownsRow_bl own hBl
            have hB := bl_trans hB hBl
            have hHeld := Box.below hHeld0 hBl
            clear hBl hHeld0
            refine wpAnyH_ready (rs := [7]) (by kernel_rfl) (by simp) (AllReadyH.cons rfl (fun K hK => ?_) (AllReadyH.nil))
            refine step_append_any _ 27 rfl rfl _ _ 24 rfl (w.heap.size + 1) 52 i0 (.agg #[.int .i64 0, .int .i64 0, .int .i64 0, .int .i64 0, .int .i64 0, .int .i64 0, .int .i64 0]) 7 56 Tryz.underlying24 hi0 hz0 hz1 hz2 rfl (by decide) _ _ _ rfl own _ _ _ rfl (takes_boxE bx) (by unfold maxLen; omega) (by omega) (by have := hB.size; have := hHeld.1; omega) ?_
            intro v' w2 own2 hg2
            simp only [Act.put, puA, puB, puC]
            refine hK.out _ _ ?_ (fun hHeld1 => ?_)
            · exact Box.far hHeld hg2 (fun k hk => by have := (own.lt _ hk).1; omega)
            clear hK K hHeld
            have hHeld := hHeld1
            clear hHeld1
            have hB := Below.grown hB hg2 hB.size (fun k hk => by have := (own.lt _ hk).1; omega)
            clear hg2 own
            have own := own2
            clear own2
            refine wpAnyH_ready (rs := [11]) (by kernel_rfl) (by simp) (AllReadyH.cons rfl (fun K hK => ?_) (AllReadyH.nil))
            refine step_append_any _ 31 rfl rfl _ _ 24 rfl (w.heap.size + 1) 52 i0 (.agg #[.int .i64 0, .int .i64 0, .int .i64 0, .int .i64 0, .int .i64 0, .int .i64 0, .int .i64 0]) 7 56 Tryz.underlying24 hi0 hz0 hz1 hz2 rfl (by decide) _ _ _ rfl own _ _ _ rfl (hT.out _ _ (hc.below hB hlt)) (by unfold maxLen; omega) (by omega) (by have := hB.size; have := hHeld.1; omega) ?_
            intro v' w2 own2 hg2
            simp only [Act.put, puA, puB, puC]
            refine hK.out _ _ ?_ (fun hHeld1 => ?_)
            · exact Box.far hHeld hg2 (fun k hk => by have := (own.lt _ hk).1; omega)
            clear hK K hHeld
            have hHeld := hHeld1
            clear hHeld1
            have hB := Below.grown hB hg2 hB.size (fun k hk => by have := (own.lt _ hk).1; omega)
            clear hg2 own
            have own := own2
            clear own2
            refine takeL 12 4 ?_ ?_ hHeld ?_
            rotate_left
            · (intro w hSw; (try dsimp only at hSw); simp only [Box] at hSw; go_simp; try with_reducible rfl)
            simp only [Act.put, puA, puB, puC]
            refine wpAnyH_done (by kernel_rfl) ?_ _
            replace own := own_putE hn hex own
            have own : Hid (World.ownsRow _ _ _ _ _ _ _) := own
            clear hA hT hHeld
            go_wp2_with fail
            go_ret
            exact ⟨_, rfl, own_mono own.out (by omega), hB⟩
          · skip
            go_simp
            have hHeld0 := hHeld
            refine hK.out _ _ ?_ (fun hHeld1 => ?_)
            · exact Box.below hHeld (bl_alloc (bl_refl _) _)
            clear hK K hHeld
            have hHeld := hHeld1
            clear hHeld1
            refine wpAnyH_new (fun W hBl bx => ?_)
            have hfar := fun k hk => Nat.ne_of_gt (own.lt k hk).2
            have own := ownsRow_bl own hBl
            have hB := bl_trans hB hBl
            have hHeld := Box.below hHeld0 hBl
            clear hBl hHeld0
            refine wpAnyH_ready (rs := [4]) (by kernel_rfl) (by simp) (AllReadyH.cons rfl (fun K hK => ?_) (AllReadyH.nil))
            refine step_append_any _ 24 rfl rfl _ _ 24 rfl (w.heap.size + 1) 52 i0 (.agg #[.int .i64 0, .int .i64 0, .int .i64 0, .int .i64 0, .int .i64 0, .int .i64 0, .int .i64 0]) 7 56 Tryz.underlying24 hi0 hz0 hz1 hz2 rfl (by decide) _ _ _ rfl own _ _ _ rfl (takes_ents (hc.below hB hlt) 0 n _ (es.take n) (fun i hi => by simp [hi]) (by simp; omega)) (by unfold maxLen; omega) (by omega) (by have := hB.size; have := hHeld.1; omega) ?_
            intro v' w2 own2 hg2
            simp only [Act.put, puA, puB, puC]
            refine hK.out _ _ ?_ (fun hHeld1 => ?_)
            · exact Box.far hHeld hg2 (fun k hk => by have := (own.lt _ hk).1; omega)
            clear hK K hHeld
            have hHeld := hHeld1
            clear hHeld1
            have hB := Below.grown hB hg2 hB.size (fun k hk => by have := (own.lt _ hk).1; omega)
            have bx := Box.far bx hg2 (fun k hk => hfar k hk)
            clear hg2 own
            have own := own2
            clear own2
            refine wpAnyH_ready (rs := [7]) (by kernel_rfl) (by simp) (AllReadyH.cons rfl (fun K hK => ?_) (AllReadyH.nil))
            refine step_append_any _ 27 rfl rfl _ _ 24 rfl (w.heap.size + 1) 52 i0 (.agg #[.int .i64 0, .int .i64 0, .int .i64 0, .int .i64 0, .int .i64 0, .int .i64 0, .int .i64 0]) 7 56 Tryz.underlying24 hi0 hz0 hz1 hz2 rfl (by decide) _ _ _ rfl own _ _ _ rfl (takes_boxE bx) (by unfold maxLen; omega) (by omega) (by have := hB.size; have := hHeld.1; omega) ?_
            intro v' w2 own2 hg2
            simp only [Act.put, puA, puB, puC]
            refine hK.out _ _ ?_ (fun hHeld1 => ?_)
            · exact Box.far hHeld hg2 (fun k hk => by have := (own.lt _ hk).1; omega)
            clear hK K hHeld
            have hHeld := hHeld1
            clear hHeld1
            have hB := Below.grown hB hg2 hB.size (fun k hk => by have := (own.lt _ hk).1; omega)
            clear hg2 own
            have own := own2
            clear own2
            refine wpAnyH_ready (rs := [11]) (by kernel_rfl) (by simp) (AllReadyH.cons rfl (fun K hK => ?_) (AllReadyH.nil))
            refine step_append_any _ 31 rfl rfl _ _ 24 rfl (w.heap.size + 1) 52 i0 (.agg #[.int .i64 0, .int .i64 0, .int .i64 0, .int .i64 0, .int .i64 0, .int .i64 0, .int .i64 0]) 7 56 Tryz.underlying24 hi0 hz0 hz1 hz2 rfl (by decide) _ _ _ rfl own _ _ _ rfl (hT.out _ _ (hc.below hB hlt)) (by unfold maxLen; omega) (by omega) (by have := hB.size; have := hHeld.1; omega) ?_
            intro v' w2 own2 hg2
            simp only [Act.put, puA, puB, puC]
            refine hK.out _ _ ?_ (fun hHeld1 => ?_)
            · exact Box.far hHeld hg2 (fun k hk => by have := (own.lt _ hk).1; omega)
            clear hK K hHeld
            have hHeld := hHeld1
            clear hHeld1
            have hB := Below.grown hB hg2 hB.size (fun k hk => by have := (own.lt _ hk).1; omega)
            clear hg2 own
            have own := own2
            clear own2
            refine takeL 12 4 ?_ ?_ hHeld ?_
            rotate_left
            · (intro w hSw; (try dsimp only at hSw); simp only [Box] at hSw; go_simp; try with_reducible rfl)
            simp only [Act.put, puA, puB, puC]
            refine wpAnyH_done (by kernel_rfl) ?_ _
            replace own := own_putE hn hex own
            have own : Hid (World.ownsRow _ _ _ _ _ _ _) := own
            clear hA hT hHeld
            go_wp2_with fail
            go_ret
            exact ⟨_, rfl, own_mono own.out (by omega), hB⟩
        · skip
          go_simp
          have hHeld0 := hHeld
          refine hK.out _ _ ?_ (fun hHeld1 => ?_)
          · exact Box.below hHeld (bl_alloc (bl_refl _) _)
          clear hK K hHeld
          have hHeld := hHeld1
          clear hHeld1
          refine wpAnyH_new (fun W hBl bx => ?_)
          have hB := bl_trans hB hBl
          have hHeld := Box.below hHeld0 hBl
          clear hBl hHeld0
          refine wpAnyH_ready (rs := [0]) (by kernel_rfl) (by simp) (AllReadyH.cons rfl (fun K hK => ?_) (AllReadyH.nil))
          go_simp
          have hHeld0 := hHeld
          refine hK.out _ _ ?_ (fun hHeld1 => ?_)
          · exact Box.below hHeld (bl_alloc (bl_refl _) _)
          clear hK K hHeld
          have hHeld := hHeld1
          clear hHeld1
          refine wpAnyH_own0 (base := w.heap.size + 1) 7 hHeld0.1 (fun W hBl own => ?_)
          have hfar := far0e bx
          have bx := Box.below bx hBl
          have hB := bl_trans hB hBl
          have hHeld := Box.below hHeld0 hBl
          clear hBl hHeld0
          refine wpAnyH_ready (rs := [4]) (by kernel_rfl) (by simp) (AllReadyH.cons rfl (fun K hK => ?_) (AllReadyH.nil))
          refine step_append_any _ 24 rfl rfl _ _ 24 rfl (w.heap.size + 1) 52 i0 (.agg #[.int .i64 0, .int .i64 0, .int .i64 0, .int .i64 0, .int .i64 0, .int .i64 0, .int .i64 0]) 7 56 Tryz.underlying24 hi0 hz0 hz1 hz2 rfl (by decide) _ _ _ rfl own _ _ _ rfl (takes_ents (hc.below hB hlt) 0 n _ (es.take n) (fun i hi => by simp [hi]) (by simp; omega)) (by unfold maxLen; omega) (by omega) (by have := hB.size; have := hHeld.1; omega) ?_
          intro v' w2 own2 hg2
          simp only [Act.put, puA, puB, puC]
          refine hK.out _ _ ?_ (fun hHeld1 => ?_)
          · exact Box.far hHeld hg2 (fun k hk => by have := (own.lt _ hk).1; omega)
          clear hK K hHeld
          have hHeld := hHeld1
          clear hHeld1
          have hB := Below.grown hB hg2 hB.size (fun k hk => by have := (own.lt _ hk).1; omega)
          have bx := Box.far bx hg2 (fun k hk => hfar k hk)
          clear hg2 own
          have own := own2
          clear own2
          refine wpAnyH_ready (rs := [7]) (by kernel_rfl) (by simp) (AllReadyH.cons rfl (fun K hK => ?_) (AllReadyH.nil))
          refine step_append_any _ 27 rfl rfl _ _ 24 rfl (w.heap.size + 1) 52 i0 (.agg #[.int .i64 0, .int .i64 0, .int .i64 0, .int .i64 0, .int .i64 0, .int .i64 0, .int .i64 0]) 7 56 Tryz.underlying24 hi0 hz0 hz1 hz2 rfl (by decide) _ _ _ rfl own _ _ _ rfl (takes_boxE bx) (by unfold maxLen; omega) (by omega) (by have := hB.size; have := hHeld.1; omega) ?_
          intro v' w2 own2 hg2
          simp only [Act.put, puA, puB, puC]
          refine hK.out _ _ ?_ (fun hHeld1 => ?_)
          · exact Box.far hHeld hg2 (fun k hk => by have := (own.lt _ hk).1; omega)
          clear hK K hHeld
          have hHeld := hHeld1
          clear hHeld1
          have hB := Below.grown hB hg2 hB.size (fun k hk => by have := (own.lt _ hk).1; omega)
          clear hg2 own
          have own := own2
          clear own2
          refine wpAnyH_ready (rs := [11]) (by kernel_rfl) (by simp) (AllReadyH.cons rfl (fun K hK => ?_) (AllReadyH.nil))
          refine step_append_any _ 31 rfl rfl _ _ 24 rfl (w.heap.size + 1) 52 i0 (.agg #[.int .i64 0, .int .i64 0, .int .i64 0, .int .i64 0, .int .i64 0, .int .i64 0, .int .i64 0]) 7 56 Tryz.underlying24 hi0 hz0 hz1 hz2 rfl (by decide) _ _ _ rfl own _ _ _ rfl (hT.out _ _ (hc.below hB hlt)) (by unfold maxLen; omega) (by omega) (by have := hB.size; have := hHeld.1; omega) ?_
          intro v' w2 own2 hg2
          simp only [Act.put, puA, puB, puC]
          refine hK.out _ _ ?_ (fun hHeld1 => ?_)
          · exact Box.far hHeld hg2 (fun k hk => by have := (own.lt _ hk).1; omega)
          clear hK K hHeld
          have hHeld := hHeld1
          clear hHeld1
          have hB := Below.grown hB hg2 hB.size (fun k hk => by have := (own.lt _ hk).1; omega)
          clear hg2 own
          have own := own2
          clear own2
          refine takeL 12 4 ?_ ?_ hHeld ?_
          rotate_left
          · (intro w hSw; (try dsimp only at hSw); simp only [Box] at hSw; go_simp; try with_reducible rfl)
          simp only [Act.put, puA, puB, puC]
          refine wpAnyH_done (by kernel_rfl) ?_ _
          replace own := own_putE hn hex own
          have own : Hid (World.ownsRow _ _ _ _ _ _ _) := own
          clear hA hT hHeld
          go_wp2_with fail
          go_ret
          exact ⟨_, rfl, own_mono own.out (by omega), hB⟩
    · have hq1 : decide ((n : Int) < (es.length : Int)) = false := by simpa using hlt2
      have hlt' : ¬ (n : Int) < (es.length : Int) := by omega
      have hex : Hid ((∀ j y, j < n → es[j]? = some y → lessE y d = true) ∧ ∀ y, es[n]? = some y → lessE y d = false) := ⟨HD.out, fun y hy => absurd (get_lt hy) (by omega)⟩
      go_wp2_with fail
      go_quiet (fail)
      replace hB := bl_draws hB nq
      replace hX := hX.below (bl_draws (bl_refl _) nq)
      generalize wr.drewN nq = Wq at *
      go_wp2_with fail
      refine wp_region_held_drew (S := (fun w' => Box w' w.heap.size #[.int .i64 d.k, .int .i64 d.pr, .int .i64 d.pp, .int .i64 d.o, .int .i64 d.i, .int .i64 d.ip, .int .i64 d.l])) (by kernel_rfl) ?_ (fun hHeld => ?_)
      · exact Box.below hX (bl_drew (bl_refl _))
      have hB := bl_trans hB (bl_drew (bl_refl Wq))
      clear hX
      generalize World.drew Wq = W0 at hHeld hB ⊢
      refine takeL 1 21 ?_ ?_ hHeld ?_
      rotate_left
      · (intro w hSw; (try dsimp only at hSw); simp only [Box] at hSw; go_simp; try with_reducible rfl)
      simp only [Act.put, puA, puB, puC]
      refine takeL 2 22 ?_ ?_ hHeld ?_
      rotate_left
      · (intro w hSw; (try dsimp only at hSw); simp only [Box] at hSw; go_simp; try with_reducible rfl)
      simp only [Act.put, puA, puB, puC]
      refine takeL 3 23 ?_ ?_ hHeld ?_
      rotate_left
      · (intro w hSw; (try dsimp only at hSw); simp only [Box] at hSw; go_simp; try with_reducible rfl)
      simp only [Act.put, puA, puB, puC]
      refine takeL 5 25 ?_ ?_ hHeld ?_
      rotate_left
      · (intro w hSw; (try dsimp only at hSw); simp only [Box] at hSw; go_simp; try with_reducible rfl)
      simp only [Act.put, puA, puB, puC]
      refine takeL 8 28 ?_ ?_ hHeld ?_
      rotate_left
      · (intro w hSw; (try dsimp only at hSw); simp only [Box] at hSw; go_simp; try with_reducible rfl)
      simp only [Act.put, puA, puB, puC]
      refine takeL 9 29 ?_ ?_ hHeld ?_
      rotate_left
      · (intro w hSw; (try dsimp only at hSw); simp only [Box] at hSw; go_simp; try with_reducible rfl)
      simp only [Act.put, puA, puB, puC]
      refine takeL 10 30 ?_ ?_ hHeld ?_
      rotate_left
      · (intro w hSw; (try dsimp only at hSw); simp only [Box] at hSw; go_simp; try with_reducible rfl)
      simp only [Act.put, puA, puB, puC]
      refine wpAnyH_ready (rs := [0, 6]) (by kernel_rfl) (by simp) (AllReadyH.cons rfl (fun K hK => ?_) (AllReadyH.cons rfl (fun K hK => ?_) (AllReadyH.nil)))
      · skip
        go_simp
        have hHeld0 := hHeld
        refine hK.out _ _ ?_ (fun hHeld1 => ?_)
        · exact Box.below hHeld (bl_alloc (bl_refl _) _)
        clear hK K hHeld
        have hHeld := hHeld1
        clear hHeld1
        refine wpAnyH_own0 (base := w.heap.size + 1) 7 hHeld0.1 (fun W hBl own => ?_)
        have hB := bl_trans hB hBl
        have hHeld := Box.below hHeld0 hBl
        clear hBl hHeld0
        refine wpAnyH_ready (rs := [4, 6]) (by kernel_rfl) (by simp) (AllReadyH.cons rfl (fun K hK => ?_) (AllReadyH.cons rfl (fun K hK => ?_) (AllReadyH.nil)))
        · skip
          refine step_append_any _ 24 rfl rfl _ _ 24 rfl (w.heap.size + 1) 52 i0 (.agg #[.int .i64 0, .int .i64 0, .int .i64 0, .int .i64 0, .int .i64 0, .int .i64 0, .int .i64 0]) 7 56 Tryz.underlying24 hi0 hz0 hz1 hz2 rfl (by decide) _ _ _ rfl own _ _ _ rfl (takes_ents (hc.below hB hlt) 0 n _ (es.take n) (fun i hi => by simp [hi]) (by simp; omega)) (by unfold maxLen; omega) (by omega) (by have := hB.size; have := hHeld.1; omega) ?_
          intro v' w2 own2 hg2
          simp only [Act.put, puA, puB, puC]
          refine hK.out _ _ ?_ (fun hHeld1 => ?_)
          · exact Box.far hHeld hg2 (fun k hk => by have := (own.lt _ hk).1; omega)
          clear hK K hHeld
          have hHeld := hHeld1
          clear hHeld1
          have hB := Below.grown hB hg2 hB.size (fun k hk => by have := (own.lt _ hk).1; omega)
          clear hg2 own
          have own := own2
          clear own2
          refine wpAnyH_ready (rs := [6]) (by kernel_rfl) (by simp) (AllReadyH.cons rfl (fun K hK => ?_) (AllReadyH.nil))
          go_simp
          have hHeld0 := hHeld
          refine hK.out _ _ ?_ (fun hHeld1 => ?_)
          · exact Box.below hHeld (bl_alloc (bl_refl _) _)
          clear hK K hHeld
          have hHeld := hHeld1
          clear hHeld1
          refine wpAnyH_new (fun W hBl bx => ?_)
          have own := ownsRow_bl own hBl
          have hB := bl_trans hB hBl
          have hHeld := Box.below hHeld0 hBl
          clear hBl hHeld0
          refine wpAnyH_ready (rs := [7]) (by kernel_rfl) (by simp) (AllReadyH.cons rfl (fun K hK => ?_) (AllReadyH.nil))
          refine step_append_any _ 27 rfl rfl _ _ 24 rfl (w.heap.size + 1) 52 i0 (.agg #[.int .i64 0, .int .i64 0, .int .i64 0, .int .i64 0, .int .i64 0, .int .i64 0, .int .i64 0]) 7 56 Tryz.underlying24 hi0 hz0 hz1 hz2 rfl (by decide) _ _ _ rfl own _ _ _ rfl (takes_boxE bx) (by unfold maxLen; omega) (by omega) (by have := hB.size; have := hHeld.1; omega) ?_
          intro v' w2 own2 hg2
          simp only [Act.put, puA, puB, puC]
          refine hK.out _ _ ?_ (fun hHeld1 => ?_)
          · exact Box.far hHeld hg2 (fun k hk => by have := (own.lt _ hk).1; omega)
          clear hK K hHeld
          have hHeld := hHeld1
          clear hHeld1
          have hB := Below.grown hB hg2 hB.size (fun k hk => by have := (own.lt _ hk).1; omega)
          clear hg2 own
          have own := own2
          clear own2
          refine wpAnyH_ready (rs := [11]) (by kernel_rfl) (by simp) (AllReadyH.cons rfl (fun K hK => ?_) (AllReadyH.nil))
          refine step_append_any _ 31 rfl rfl _ _ 24 rfl (w.heap.size + 1) 52 i0 (.agg #[.int .i64 0, .int .i64 0, .int .i64 0, .int .i64 0, .int .i64 0, .int .i64 0, .int .i64 0]) 7 56 Tryz.underlying24 hi0 hz0 hz1 hz2 rfl (by decide) _ _ _ rfl own _ _ _ rfl (hT.out _ _ (hc.below hB hlt)) (by unfold maxLen; omega) (by omega) (by have := hB.size; have := hHeld.1; omega) ?_
          intro v' w2 own2 hg2
          simp only [Act.put, puA, puB, puC]
          refine hK.out _ _ ?_ (fun hHeld1 => ?_)
          · exact Box.far hHeld hg2 (fun k hk => by have := (own.lt _ hk).1; omega)
          clear hK K hHeld
          have hHeld := hHeld1
          clear hHeld1
          have hB := Below.grown hB hg2 hB.size (fun k hk => by have := (own.lt _ hk).1; omega)
          clear hg2 own
          have own := own2
          clear own2
          refine takeL 12 4 ?_ ?_ hHeld ?_
          rotate_left
          · (intro w hSw; (try dsimp only at hSw); simp only [Box] at hSw; go_simp; try with_reducible rfl)
          simp only [Act.put, puA, puB, puC]
          refine wpAnyH_done (by kernel_rfl) ?_ _
          replace own := own_putE hn hex own
          have own : Hid (World.ownsRow _ _ _ _ _ _ _) := own
          clear hA hT hHeld
          go_wp2_with fail
          go_ret
          exact ⟨_, rfl, own_mono own.out (by omega), hB⟩
        · skip
          go_simp
          have hHeld0 := hHeld
          refine hK.out _ _ ?_ (fun hHeld1 => ?_)
          · exact Box.below hHeld (bl_alloc (bl_refl _) _)
          clear hK K hHeld
          have hHeld := hHeld1
          clear hHeld1
          refine wpAnyH_new (fun W hBl bx => ?_)
          have hfar := fun k hk => Nat.ne_of_gt (own.lt k hk).2
          have own := ownsRow_bl own hBl
          have hB := bl_trans hB hBl
          have hHeld := Box.below hHeld0 hBl
          clear hBl hHeld0
          refine wpAnyH_ready (rs := [4]) (by kernel_rfl) (by simp) (AllReadyH.cons rfl (fun K hK => ?_) (AllReadyH.nil))
          refine step_append_any _ 24 rfl rfl _ _ 24 rfl (w.heap.size + 1) 52 i0 (.agg #[.int .i64 0, .int .i64 0, .int .i64 0, .int .i64 0, .int .i64 0, .int .i64 0, .int .i64 0]) 7 56 Tryz.underlying24 hi0 hz0 hz1 hz2 rfl (by decide) _ _ _ rfl own _ _ _ rfl (takes_ents (hc.below hB hlt) 0 n _ (es.take n) (fun i hi => by simp [hi]) (by simp; omega)) (by unfold maxLen; omega) (by omega) (by have := hB.size; have := hHeld.1; omega) ?_
          intro v' w2 own2 hg2
          simp only [Act.put, puA, puB, puC]
          refine hK.out _ _ ?_ (fun hHeld1 => ?_)
          · exact Box.far hHeld hg2 (fun k hk => by have := (own.lt _ hk).1; omega)
          clear hK K hHeld
          have hHeld := hHeld1
          clear hHeld1
          have hB := Below.grown hB hg2 hB.size (fun k hk => by have := (own.lt _ hk).1; omega)
          have bx := Box.far bx hg2 (fun k hk => hfar k hk)
          clear hg2 own
          have own := own2
          clear own2
          refine wpAnyH_ready (rs := [7]) (by kernel_rfl) (by simp) (AllReadyH.cons rfl (fun K hK => ?_) (AllReadyH.nil))
          refine step_append_any _ 27 rfl rfl _ _ 24 rfl (w.heap.size + 1) 52 i0 (.agg #[.int .i64 0, .int .i64 0, .int .i64 0, .int .i64 0, .int .i64 0, .int .i64 0, .int .i64 0]) 7 56 Tryz.underlying24 hi0 hz0 hz1 hz2 rfl (by decide) _ _ _ rfl own _ _ _ rfl (takes_boxE bx) (by unfold maxLen; omega) (by omega) (by have := hB.size; have := hHeld.1; omega) ?_
          intro v' w2 own2 hg2
          simp only [Act.put, puA, puB, puC]
          refine hK.out _ _ ?_ (fun hHeld1 => ?_)
          · exact Box.far hHeld hg2 (fun k hk => by have := (own.lt _ hk).1; omega)
          clear hK K hHeld
          have hHeld := hHeld1
          clear hHeld1
          have hB := Below.grown hB hg2 hB.size (fun k hk => by have := (own.lt _ hk).1; omega)
          clear hg2 own
          have own := own2
          clear own2
          refine wpAnyH_ready (rs := [11]) (by kernel_rfl) (by simp) (AllReadyH.cons rfl (fun K hK => ?_) (AllReadyH.nil))
          refine step_append_any _ 31 rfl rfl _ _ 24 rfl (w.heap.size + 1) 52 i0 (.agg #[.int .i64 0, .int .i64 0, .int .i64 0, .int .i64 0, .int .i64 0, .int .i64 0, .int .i64 0]) 7 56 Tryz.underlying24 hi0 hz0 hz1 hz2 rfl (by decide) _ _ _ rfl own _ _ _ rfl (hT.out _ _ (hc.below hB hlt)) (by unfold maxLen; omega) (by omega) (by have := hB.size; have := hHeld.1; omega) ?_
          intro v' w2 own2 hg2
          simp only [Act.put, puA, puB, puC]
          refine hK.out _ _ ?_ (fun hHeld1 => ?_)
          · exact Box.far hHeld hg2 (fun k hk => by have := (own.lt _ hk).1; omega)
          clear hK K hHeld
          have hHeld := hHeld1
          clear hHeld1
          have hB := Below.grown hB hg2 hB.size (fun k hk => by have := (own.lt _ hk).1; omega)
          clear hg2 own
          have own := own2
          clear own2
          refine takeL 12 4 ?_ ?_ hHeld ?_
          rotate_left
          · (intro w hSw; (try dsimp only at hSw); simp only [Box] at hSw; go_simp; try with_reducible rfl)
          simp only [Act.put, puA, puB, puC]
          refine wpAnyH_done (by kernel_rfl) ?_ _
          replace own := own_putE hn hex own
          have own : Hid (World.ownsRow _ _ _ _ _ _ _) := own
          clear hA hT hHeld
          go_wp2_with fail
          go_ret
          exact ⟨_, rfl, own_mono own.out (by omega), hB⟩
      · skip
        go_simp
        have hHeld0 := hHeld
        refine hK.out _ _ ?_ (fun hHeld1 => ?_)
        · exact Box.below hHeld (bl_alloc (bl_refl _) _)
        clear hK K hHeld
        have hHeld := hHeld1
        clear hHeld1
        refine wpAnyH_new (fun W hBl bx => ?_)
        have hB := bl_trans hB hBl
        have hHeld := Box.below hHeld0 hBl
        clear hBl hHeld0
        refine wpAnyH_ready (rs := [0]) (by kernel_rfl) (by simp) (AllReadyH.cons rfl (fun K hK => ?_) (AllReadyH.nil))
        go_simp
        have hHeld0 := hHeld
        refine hK.out _ _ ?_ (fun hHeld1 => ?_)
        · exact Box.below hHeld (bl_alloc (bl_refl _) _)
        clear hK K hHeld
        have hHeld := hHeld1
        clear hHeld1
        refine wpAnyH_own0 (base := w.heap.size + 1) 7 hHeld0.1 (fun W hBl own => ?_)
        have hfar := far0e bx
        have bx := Box.below bx hBl
        have hB := bl_trans hB hBl
        have hHeld := Box.below hHeld0 hBl
        clear hBl hHeld0
        refine wpAnyH_ready (rs := [4]) (by kernel_rfl) (by simp) (AllReadyH.cons rfl (fun K hK => ?_) (AllReadyH.nil))
        refine step_append_any _ 24 rfl rfl _ _ 24 rfl (w.heap.size + 1) 52 i0 (.agg #[.int .i64 0, .int .i64 0, .int .i64 0, .int .i64 0, .int .i64 0, .int .i64 0, .int .i64 0]) 7 56 Tryz.underlying24 hi0 hz0 hz1 hz2 rfl (by decide) _ _ _ rfl own _ _ _ rfl (takes_ents (hc.below hB hlt) 0 n _ (es.take n) (fun i hi => by simp [hi]) (by simp; omega)) (by unfold maxLen; omega) (by omega) (by have := hB.size; have := hHeld.1; omega) ?_
        intro v' w2 own2 hg2
        simp only [Act.put, puA, puB, puC]
        refine hK.out _ _ ?_ (fun hHeld1 => ?_)
        · exact Box.far hHeld hg2 (fun k hk => by have := (own.lt _ hk).1; omega)
        clear hK K hHeld
        have hHeld := hHeld1
        clear hHeld1
        have hB := Below.grown hB hg2 hB.size (fun k hk => by have := (own.lt _ hk).1; omega)
        have bx := Box.far bx hg2 (fun k hk => hfar k hk)
        clear hg2 own
        have own := own2
        clear own2
        refine wpAnyH_ready (rs := [7]) (by kernel_rfl) (by simp) (AllReadyH.cons rfl (fun K hK => ?_) (AllReadyH.nil))
        refine step_append_any _ 27 rfl rfl _ _ 24 rfl (w.heap.size + 1) 52 i0 (.agg #[.int .i64 0, .int .i64 0, .int .i64 0, .int .i64 0, .int .i64 0, .int .i64 0, .int .i64 0]) 7 56 Tryz.underlying24 hi0 hz0 hz1 hz2 rfl (by decide) _ _ _ rfl own _ _ _ rfl (takes_boxE bx) (by unfold maxLen; omega) (by omega) (by have := hB.size; have := hHeld.1; omega) ?_
        intro v' w2 own2 hg2
        simp only [Act.put, puA, puB, puC]
        refine hK.out _ _ ?_ (fun hHeld1 => ?_)
        · exact Box.far hHeld hg2 (fun k hk => by have := (own.lt _ hk).1; omega)
        clear hK K hHeld
        have hHeld := hHeld1
        clear hHeld1
        have hB := Below.grown hB hg2 hB.size (fun k hk => by have := (own.lt _ hk).1; omega)
        clear hg2 own
        have own := own2
        clear own2
        refine wpAnyH_ready (rs := [11]) (by kernel_rfl) (by simp) (AllReadyH.cons rfl (fun K hK => ?_) (AllReadyH.nil))
        refine step_append_any _ 31 rfl rfl _ _ 24 rfl (w.heap.size + 1) 52 i0 (.agg #[.int .i64 0, .int .i64 0, .int .i64 0, .int .i64 0, .int .i64 0, .int .i64 0, .int .i64 0]) 7 56 Tryz.underlying24 hi0 hz0 hz1 hz2 rfl (by decide) _ _ _ rfl own _ _ _ rfl (hT.out _ _ (hc.below hB hlt)) (by unfold maxLen; omega) (by omega) (by have := hB.size; have := hHeld.1; omega) ?_
        intro v' w2 own2 hg2
        simp only [Act.put, puA, puB, puC]
        refine hK.out _ _ ?_ (fun hHeld1 => ?_)
        · exact Box.far hHeld hg2 (fun k hk => by have := (own.lt _ hk).1; omega)
        clear hK K hHeld
        have hHeld := hHeld1
        clear hHeld1
        have hB := Below.grown hB hg2 hB.size (fun k hk => by have := (own.lt _ hk).1; omega)
        clear hg2 own
        have own := own2
        clear own2
        refine takeL 12 4 ?_ ?_ hHeld ?_
        rotate_left
        · (intro w hSw; (try dsimp only at hSw); simp only [Box] at hSw; go_simp; try with_reducible rfl)
        simp only [Act.put, puA, puB, puC]
        refine wpAnyH_done (by kernel_rfl) ?_ _
        replace own := own_putE hn hex own
        have own : Hid (World.ownsRow _ _ _ _ _ _ _) := own
        clear hA hT hHeld
        go_wp2_with fail
        go_ret
        exact ⟨_, rfl, own_mono own.out (by omega), hB⟩

set_option maxRecDepth 20000 in
set_option maxHeartbeats 4000000 in
theorem put_nil (d : En) (w : World) :
    Calls Tryz.prog 56 #[.slice none 0 0, .agg #[.int .i64 d.k, .int .i64 d.pr, .int .i64 d.pp, .int .i64 d.o, .int .i64 d.i, .int .i64 d.ip, .int .i64 d.l]] w fun e w' => ∃ v, e = .returned v ∧ w'.ownsRow w.heap.size 52 7 v (putE [] d).length (flatE (putE [] d)) ∧ Below w.heap.size w w' := by
  obtain ⟨i0, hi0, hz0, hz1, hz2⟩ := info_parts infoEn
  go_enter Tryz.func56, Tryz.ntmps56
  go_wp2_with fail
  go_loopg [5] 0 (fun _ i wr => i = .int .i64 0 ∧ Below w.heap.size w wr ∧ Box wr w.heap.size #[.int .i64 d.k, .int .i64 d.pr, .int .i64 d.pp, .int .i64 d.o, .int .i64 d.i, .int .i64 d.ip, .int .i64 d.l])
  case atStart => exact ⟨rfl, bl_alloc (bl_refl _) _, Box.new _ _ _⟩
  case round =>
    obtain ⟨rfl, hB, hX⟩ := hrel
    have hex : Hid ((∀ j y, j < 0 → ([] : List En)[j]? = some y → lessE y d = true) ∧ ∀ y, ([] : List En)[0]? = some y → lessE y d = false) := ⟨fun j y hj _ => absurd hj (by omega), fun y hy => by simp at hy⟩
    go_wp2_with fail
    go_quiet (fail)
    replace hB := bl_draws hB nq
    replace hX := hX.below (bl_draws (bl_refl _) nq)
    generalize wr.drewN nq = Wq at *
    go_wp2_with fail
    refine wp_region_held_drew (S := (fun w' => Box w' w.heap.size #[.int .i64 d.k, .int .i64 d.pr, .int .i64 d.pp, .int .i64 d.o, .int .i64 d.i, .int .i64 d.ip, .int .i64 d.l])) (by kernel_rfl) ?_ (fun hHeld => ?_)
    · exact Box.below hX (bl_drew (bl_refl _))
    have hB := bl_trans hB (bl_drew (bl_refl Wq))
    clear hX
    generalize World.drew Wq = W0 at hHeld hB ⊢
    refine takeL 1 21 ?_ ?_ hHeld ?_
    rotate_left
    · (intro w hSw; (try dsimp only at hSw); simp only [Box] at hSw; go_simp; try with_reducible rfl)
    simp only [Act.put, puA, puB, puC]
    refine takeL 2 22 ?_ ?_ hHeld ?_
    rotate_left
    · (intro w hSw; (try dsimp only at hSw); simp only [Box] at hSw; go_simp; try with_reducible rfl)
    simp only [Act.put, puA, puB, puC]
    refine takeL 3 23 ?_ ?_ hHeld ?_
    rotate_left
    · (intro w hSw; (try dsimp only at hSw); simp only [Box] at hSw; go_simp; try with_reducible rfl)
    simp only [Act.put, puA, puB, puC]
    refine takeL 5 25 ?_ ?_ hHeld ?_
    rotate_left
    · (intro w hSw; (try dsimp only at hSw); simp only [Box] at hSw; go_simp; try with_reducible rfl)
    simp only [Act.put, puA, puB, puC]
    refine takeL 8 28 ?_ ?_ hHeld ?_
    rotate_left
    · (intro w hSw; (try dsimp only at hSw); simp only [Box] at hSw; go_simp; try with_reducible rfl)
    simp only [Act.put, puA, puB, puC]
    refine takeL 9 29 ?_ ?_ hHeld ?_
    rotate_left
    · (intro w hSw; (try dsimp only at hSw); simp only [Box] at hSw; go_simp; try with_reducible rfl)
    simp only [Act.put, puA, puB, puC]
    refine takeL 10 30 ?_ ?_ hHeld ?_
    rotate_left
    · (intro w hSw; (try dsimp only at hSw); simp only [Box] at hSw; go_simp; try with_reducible rfl)
    simp only [Act.put, puA, puB, puC]
    refine wpAnyH_ready (rs := [0, 6]) (by kernel_rfl) (by simp) (AllReadyH.cons rfl (fun K hK => ?_) (AllReadyH.cons rfl (fun K hK => ?_) (AllReadyH.nil)))
    · skip
      go_simp
      have hHeld0 := hHeld
      refine hK.out _ _ ?_ (fun hHeld1 => ?_)
      · exact Box.below hHeld (bl_alloc (bl_refl _) _)
      clear hK K hHeld
      have hHeld := hHeld1
      clear hHeld1
      refine wpAnyH_own0 (base := w.heap.size + 1) 7 hHeld0.1 (fun W hBl own => ?_)
      have hB := bl_trans hB hBl
      have hHeld := Box.below hHeld0 hBl
      clear hBl hHeld0
      refine wpAnyH_ready (rs := [4, 6]) (by kernel_rfl) (by simp) (AllReadyH.cons rfl (fun K hK => ?_) (AllReadyH.cons rfl (fun K hK => ?_) (AllReadyH.nil)))
      · skip
        refine step_append_any _ 24 rfl rfl _ _ 24 rfl (w.heap.size + 1) 52 i0 (.agg #[.int .i64 0, .int .i64 0, .int .i64 0, .int .i64 0, .int .i64 0, .int .i64 0, .int .i64 0]) 7 56 Tryz.underlying24 hi0 hz0 hz1 hz2 rfl (by decide) _ _ _ rfl own _ _ _ rfl (Or.inl ⟨rfl, rfl, 0, rfl⟩) (by unfold maxLen; omega) (by omega) (by have := hB.size; have := hHeld.1; omega) ?_
        intro v' w2 own2 hg2
        simp only [Act.put, puA, puB, puC]
        refine hK.out _ _ ?_ (fun hHeld1 => ?_)
        · exact Box.far hHeld hg2 (fun k hk => by have := (own.lt _ hk).1; omega)
        clear hK K hHeld
        have hHeld := hHeld1
        clear hHeld1
        have hB := Below.grown hB hg2 hB.size (fun k hk => by have := (own.lt _ hk).1; omega)
        clear hg2 own
        have own := own2
        clear own2
        refine wpAnyH_ready (rs := [6]) (by kernel_rfl) (by simp) (AllReadyH.cons rfl (fun K hK => ?_) (AllReadyH.nil))
        go_simp
        have hHeld0 := hHeld
        refine hK.out _ _ ?_ (fun hHeld1 => ?_)
        · exact Box.below hHeld (bl_alloc (bl_refl _) _)
        clear hK K hHeld
        have hHeld := hHeld1
        clear hHeld1
        refine wpAnyH_new (fun W hBl bx => ?_)
        have own := ownsRow_bl own hBl
        have hB := bl_trans hB hBl
        have hHeld := Box.below hHeld0 hBl
        clear hBl hHeld0
        refine wpAnyH_ready (rs := [7]) (by kernel_rfl) (by simp) (AllReadyH.cons rfl (fun K hK => ?_) (AllReadyH.nil))
        refine step_append_any _ 27 rfl rfl _ _ 24 rfl (w.heap.size + 1) 52 i0 (.agg #[.int .i64 0, .int .i64 0, .int .i64 0, .int .i64 0, .int .i64 0, .int .i64 0, .int .i64 0]) 7 56 Tryz.underlying24 hi0 hz0 hz1 hz2 rfl (by decide) _ _ _ rfl own _ _ _ rfl (takes_boxE bx) (by unfold maxLen; omega) (by omega) (by have := hB.size; have := hHeld.1; omega) ?_
        intro v' w2 own2 hg2
        simp only [Act.put, puA, puB, puC]
        refine hK.out _ _ ?_ (fun hHeld1 => ?_)
        · exact Box.far hHeld hg2 (fun k hk => by have := (own.lt _ hk).1; omega)
        clear hK K hHeld
        have hHeld := hHeld1
        clear hHeld1
        have hB := Below.grown hB hg2 hB.size (fun k hk => by have := (own.lt _ hk).1; omega)
        clear hg2 own
        have own := own2
        clear own2
        refine wpAnyH_ready (rs := [11]) (by kernel_rfl) (by simp) (AllReadyH.cons rfl (fun K hK => ?_) (AllReadyH.nil))
        refine step_append_any _ 31 rfl rfl _ _ 24 rfl (w.heap.size + 1) 52 i0 (.agg #[.int .i64 0, .int .i64 0, .int .i64 0, .int .i64 0, .int .i64 0, .int .i64 0, .int .i64 0]) 7 56 Tryz.underlying24 hi0 hz0 hz1 hz2 rfl (by decide) _ _ _ rfl own _ _ _ rfl (Or.inl ⟨rfl, rfl, 0, rfl⟩) (by unfold maxLen; omega) (by omega) (by have := hB.size; have := hHeld.1; omega) ?_
        intro v' w2 own2 hg2
        simp only [Act.put, puA, puB, puC]
        refine hK.out _ _ ?_ (fun hHeld1 => ?_)
        · exact Box.far hHeld hg2 (fun k hk => by have := (own.lt _ hk).1; omega)
        clear hK K hHeld
        have hHeld := hHeld1
        clear hHeld1
        have hB := Below.grown hB hg2 hB.size (fun k hk => by have := (own.lt _ hk).1; omega)
        clear hg2 own
        have own := own2
        clear own2
        refine takeL 12 4 ?_ ?_ hHeld ?_
        rotate_left
        · (intro w hSw; (try dsimp only at hSw); simp only [Box] at hSw; go_simp; try with_reducible rfl)
        simp only [Act.put, puA, puB, puC]
        refine wpAnyH_done (by kernel_rfl) ?_ _
        replace own := own_putE (es := []) (n := 0) (by simp) hex own
        have own : Hid (World.ownsRow _ _ _ _ _ _ _) := own
        clear hHeld
        go_wp2_with fail
        go_ret
        exact ⟨_, rfl, own_mono own.out (by omega), hB⟩
      · skip
        go_simp
        have hHeld0 := hHeld
        refine hK.out _ _ ?_ (fun hHeld1 => ?_)
        · exact Box.below hHeld (bl_alloc (bl_refl _) _)
        clear hK K hHeld
        have hHeld := hHeld1
        clear hHeld1
        refine wpAnyH_new (fun W hBl bx => ?_)
        have hfar := fun k hk => Nat.ne_of_gt (own.lt k hk).2
        have own := ownsRow_bl own hBl
        have hB := bl_trans hB hBl
        have hHeld := Box.below hHeld0 hBl
        clear hBl hHeld0
        refine wpAnyH_ready (rs := [4]) (by kernel_rfl) (by simp) (AllReadyH.cons rfl (fun K hK => ?_) (AllReadyH.nil))
        refine step_append_any _ 24 rfl rfl _ _ 24 rfl (w.heap.size + 1) 52 i0 (.agg #[.int .i64 0, .int .i64 0, .int .i64 0, .int .i64 0, .int .i64 0, .int .i64 0, .int .i64 0]) 7 56 Tryz.underlying24 hi0 hz0 hz1 hz2 rfl (by decide) _ _ _ rfl own _ _ _ rfl (Or.inl ⟨rfl, rfl, 0, rfl⟩) (by unfold maxLen; omega) (by omega) (by have := hB.size; have := hHeld.1; omega) ?_
        intro v' w2 own2 hg2
        simp only [Act.put, puA, puB, puC]
        refine hK.out _ _ ?_ (fun hHeld1 => ?_)
        · exact Box.far hHeld hg2 (fun k hk => by have := (own.lt _ hk).1; omega)
        clear hK K hHeld
        have hHeld := hHeld1
        clear hHeld1
        have hB := Below.grown hB hg2 hB.size (fun k hk => by have := (own.lt _ hk).1; omega)
        have bx := Box.far bx hg2 (fun k hk => hfar k hk)
        clear hg2 own
        have own := own2
        clear own2
        refine wpAnyH_ready (rs := [7]) (by kernel_rfl) (by simp) (AllReadyH.cons rfl (fun K hK => ?_) (AllReadyH.nil))
        refine step_append_any _ 27 rfl rfl _ _ 24 rfl (w.heap.size + 1) 52 i0 (.agg #[.int .i64 0, .int .i64 0, .int .i64 0, .int .i64 0, .int .i64 0, .int .i64 0, .int .i64 0]) 7 56 Tryz.underlying24 hi0 hz0 hz1 hz2 rfl (by decide) _ _ _ rfl own _ _ _ rfl (takes_boxE bx) (by unfold maxLen; omega) (by omega) (by have := hB.size; have := hHeld.1; omega) ?_
        intro v' w2 own2 hg2
        simp only [Act.put, puA, puB, puC]
        refine hK.out _ _ ?_ (fun hHeld1 => ?_)
        · exact Box.far hHeld hg2 (fun k hk => by have := (own.lt _ hk).1; omega)
        clear hK K hHeld
        have hHeld := hHeld1
        clear hHeld1
        have hB := Below.grown hB hg2 hB.size (fun k hk => by have := (own.lt _ hk).1; omega)
        clear hg2 own
        have own := own2
        clear own2
        refine wpAnyH_ready (rs := [11]) (by kernel_rfl) (by simp) (AllReadyH.cons rfl (fun K hK => ?_) (AllReadyH.nil))
        refine step_append_any _ 31 rfl rfl _ _ 24 rfl (w.heap.size + 1) 52 i0 (.agg #[.int .i64 0, .int .i64 0, .int .i64 0, .int .i64 0, .int .i64 0, .int .i64 0, .int .i64 0]) 7 56 Tryz.underlying24 hi0 hz0 hz1 hz2 rfl (by decide) _ _ _ rfl own _ _ _ rfl (Or.inl ⟨rfl, rfl, 0, rfl⟩) (by unfold maxLen; omega) (by omega) (by have := hB.size; have := hHeld.1; omega) ?_
        intro v' w2 own2 hg2
        simp only [Act.put, puA, puB, puC]
        refine hK.out _ _ ?_ (fun hHeld1 => ?_)
        · exact Box.far hHeld hg2 (fun k hk => by have := (own.lt _ hk).1; omega)
        clear hK K hHeld
        have hHeld := hHeld1
        clear hHeld1
        have hB := Below.grown hB hg2 hB.size (fun k hk => by have := (own.lt _ hk).1; omega)
        clear hg2 own
        have own := own2
        clear own2
        refine takeL 12 4 ?_ ?_ hHeld ?_
        rotate_left
        · (intro w hSw; (try dsimp only at hSw); simp only [Box] at hSw; go_simp; try with_reducible rfl)
        simp only [Act.put, puA, puB, puC]
        refine wpAnyH_done (by kernel_rfl) ?_ _
        replace own := own_putE (es := []) (n := 0) (by simp) hex own
        have own : Hid (World.ownsRow _ _ _ _ _ _ _) := own
        clear hHeld
        go_wp2_with fail
        go_ret
        exact ⟨_, rfl, own_mono own.out (by omega), hB⟩
    · skip
      go_simp
      have hHeld0 := hHeld
      refine hK.out _ _ ?_ (fun hHeld1 => ?_)
      · exact Box.below hHeld (bl_alloc (bl_refl _) _)
      clear hK K hHeld
      have hHeld := hHeld1
      clear hHeld1
      refine wpAnyH_new (fun W hBl bx => ?_)
      have hB := bl_trans hB hBl
      have hHeld := Box.below hHeld0 hBl
      clear hBl hHeld0
      refine wpAnyH_ready (rs := [0]) (by kernel_rfl) (by simp) (AllReadyH.cons rfl (fun K hK => ?_) (AllReadyH.nil))
      go_simp
      have hHeld0 := hHeld
      refine hK.out _ _ ?_ (fun hHeld1 => ?_)
      · exact Box.below hHeld (bl_alloc (bl_refl _) _)
      clear hK K hHeld
      have hHeld := hHeld1
      clear hHeld1
      refine wpAnyH_own0 (base := w.heap.size + 1) 7 hHeld0.1 (fun W hBl own => ?_)
      have hfar := far0e bx
      have bx := Box.below bx hBl
      have hB := bl_trans hB hBl
      have hHeld := Box.below hHeld0 hBl
      clear hBl hHeld0
      refine wpAnyH_ready (rs := [4]) (by kernel_rfl) (by simp) (AllReadyH.cons rfl (fun K hK => ?_) (AllReadyH.nil))
      refine step_append_any _ 24 rfl rfl _ _ 24 rfl (w.heap.size + 1) 52 i0 (.agg #[.int .i64 0, .int .i64 0, .int .i64 0, .int .i64 0, .int .i64 0, .int .i64 0, .int .i64 0]) 7 56 Tryz.underlying24 hi0 hz0 hz1 hz2 rfl (by decide) _ _ _ rfl own _ _ _ rfl (Or.inl ⟨rfl, rfl, 0, rfl⟩) (by unfold maxLen; omega) (by omega) (by have := hB.size; have := hHeld.1; omega) ?_
      intro v' w2 own2 hg2
      simp only [Act.put, puA, puB, puC]
      refine hK.out _ _ ?_ (fun hHeld1 => ?_)
      · exact Box.far hHeld hg2 (fun k hk => by have := (own.lt _ hk).1; omega)
      clear hK K hHeld
      have hHeld := hHeld1
      clear hHeld1
      have hB := Below.grown hB hg2 hB.size (fun k hk => by have := (own.lt _ hk).1; omega)
      have bx := Box.far bx hg2 (fun k hk => hfar k hk)
      clear hg2 own
      have own := own2
      clear own2
      refine wpAnyH_ready (rs := [7]) (by kernel_rfl) (by simp) (AllReadyH.cons rfl (fun K hK => ?_) (AllReadyH.nil))
      refine step_append_any _ 27 rfl rfl _ _ 24 rfl (w.heap.size + 1) 52 i0 (.agg #[.int .i64 0, .int .i64 0, .int .i64 0, .int .i64 0, .int .i64 0, .int .i64 0, .int .i64 0]) 7 56 Tryz.underlying24 hi0 hz0 hz1 hz2 rfl (by decide) _ _ _ rfl own _ _ _ rfl (takes_boxE bx) (by unfold maxLen; omega) (by omega) (by have := hB.size; have := hHeld.1; omega) ?_
      intro v' w2 own2 hg2
      simp only [Act.put, puA, puB, puC]
      refine hK.out _ _ ?_ (fun hHeld1 => ?_)
      · exact Box.far hHeld hg2 (fun k hk => by have := (own.lt _ hk).1; omega)
      clear hK K hHeld
      have hHeld := hHeld1
      clear hHeld1
      have hB := Below.grown hB hg2 hB.size (fun k hk => by have := (own.lt _ hk).1; omega)
      clear hg2 own
      have own := own2
      clear own2
      refine wpAnyH_ready (rs := [11]) (by kernel_rfl) (by simp) (AllReadyH.cons rfl (fun K hK => ?_) (AllReadyH.nil))
      refine step_append_any _ 31 rfl rfl _ _ 24 rfl (w.heap.size + 1) 52 i0 (.agg #[.int .i64 0, .int .i64 0, .int .i64 0, .int .i64 0, .int .i64 0, .int .i64 0, .int .i64 0]) 7 56 Tryz.underlying24 hi0 hz0 hz1 hz2 rfl (by decide) _ _ _ rfl own _ _ _ rfl (Or.inl ⟨rfl, rfl, 0, rfl⟩) (by unfold maxLen; omega) (by omega) (by have := hB.size; have := hHeld.1; omega) ?_
      intro v' w2 own2 hg2
      simp only [Act.put, puA, puB, puC]
      refine hK.out _ _ ?_ (fun hHeld1 => ?_)
      · exact Box.far hHeld hg2 (fun k hk => by have := (own.lt _ hk).1; omega)
      clear hK K hHeld
      have hHeld := hHeld1
      clear hHeld1
      have hB := Below.grown hB hg2 hB.size (fun k hk => by have := (own.lt _ hk).1; omega)
      clear hg2 own
      have own := own2
      clear own2
      refine takeL 12 4 ?_ ?_ hHeld ?_
      rotate_left
      · (intro w hSw; (try dsimp only at hSw); simp only [Box] at hSw; go_simp; try with_reducible rfl)
      simp only [Act.put, puA, puB, puC]
      refine wpAnyH_done (by kernel_rfl) ?_ _
      replace own := own_putE (es := []) (n := 0) (by simp) hex own
      have own : Hid (World.ownsRow _ _ _ _ _ _ _) := own
      clear hHeld
      go_wp2_with fail
      go_ret
      exact ⟨_, rfl, own_mono own.out (by omega), hB⟩
theorem putE_ret (va : Option Addr) (vc base : Nat) (es : List En) (d : En) (w : World) (ho : w.ownsRow base 52 7 (.slice va es.length vc) es.length (flatE es)) (hl : es.length ≤ 100) :
    Calls Tryz.prog 56 #[.slice va es.length vc, .agg #[.int .i64 d.k, .int .i64 d.pr, .int .i64 d.pp, .int .i64 d.o, .int .i64 d.i, .int .i64 d.ip, .int .i64 d.l]] w fun e w' => ∃ v, e = .returned v ∧ w'.ownsRow w.heap.size 52 7 v (putE es d).length (flatE (putE es d)) ∧ Below w.heap.size w w' := by
  rcases ho.2 with ⟨h1, h2⟩ | ⟨g, cap, cur, h1, h2, h3, h4, h5⟩
  · obtain rfl := List.eq_nil_of_length_eq_zero h2
    simp only [List.length_nil, Value.slice.injEq] at h1
    obtain ⟨rfl, -, rfl⟩ := h1
    exact put_nil d w
  · have hlt := (ho.lt g (by rw [h1]; rfl)).2
    simp only [Value.slice.injEq] at h1
    obtain ⟨rfl, -, rfl⟩ := h1
    exact put_some g 0 es vc d w hlt (enCells_of_own ho rfl) hl h4
end Go.Proofs.YtcgjpmhjijmplaaGreatDoor
