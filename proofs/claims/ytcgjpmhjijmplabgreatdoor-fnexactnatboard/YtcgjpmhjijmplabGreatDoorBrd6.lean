/- The program's board, whole. -/
import Derived.Test.YtcgjpmhjijmplabGreatDoorBrd5
import Derived.Test.YtcgjpmhjijmplabGreatDoorBook
import Derived.Test.YtcgjpmhjijmplabGreatDoorBrd3
namespace Go.Proofs.YtcgjpmhjijmplabGreatDoor
open Go.RowKit Go.Shelf
attribute [local go_sem] Oper.semAt_some

theorem writer_now (ad ln ow lo hi nw : Int) (da : Option Addr) (dn dc : Nat) (ea : Option Addr) (en ec : Nat) (w : World) : Calls Tryz.prog 44 #[.agg #[.int .i64 ad, .int .i64 ln, .int .i64 ow, .int .i64 lo, .int .i64 hi, .slice da dn dc, .int .i64 nw, .slice ea en ec], .int .i64 0] w fun e w' => e = .returned (.func (.func 68) #[.agg #[.int .i64 ad, .int .i64 ln, .int .i64 ow, .int .i64 lo, .int .i64 hi, .slice da dn dc, .int .i64 nw, .slice ea en ec]] #[]) ∧ Below w.heap.size w w' := by
  have hB := bl_alloc (bl_refl w) (.cells #[.int .i64 ad, .int .i64 ln, .int .i64 ow, .int .i64 lo, .int .i64 hi, .slice da dn dc, .int .i64 nw, .slice ea en ec] 78)
  go_enter Tryz.func44, Tryz.ntmps44
  go_wp2_with fail
  go_ret
  exact ⟨rfl, hB⟩
theorem writer_door (ad ln ow lo hi nw : Int) (da : Option Addr) (dn dc : Nat) (ea : Option Addr) (en ec : Nat) (w : World) : Calls Tryz.prog 44 #[.agg #[.int .i64 ad, .int .i64 ln, .int .i64 ow, .int .i64 lo, .int .i64 hi, .slice da dn dc, .int .i64 nw, .slice ea en ec], .int .i64 1] w fun e w' => e = .returned (.func (.func 66) #[.agg #[.int .i64 ad, .int .i64 ln, .int .i64 ow, .int .i64 lo, .int .i64 hi, .slice da dn dc, .int .i64 nw, .slice ea en ec]] #[]) ∧ Below w.heap.size w w' := by
  have hB := bl_alloc (bl_refl w) (.cells #[.int .i64 ad, .int .i64 ln, .int .i64 ow, .int .i64 lo, .int .i64 hi, .slice da dn dc, .int .i64 nw, .slice ea en ec] 78)
  go_enter Tryz.func44, Tryz.ntmps44
  go_wp2_with fail
  go_ret
  exact ⟨rfl, hB⟩
theorem writer_flow (ad ln ow lo hi nw : Int) (da : Option Addr) (dn dc : Nat) (ea : Option Addr) (en ec : Nat) (w : World) : Calls Tryz.prog 44 #[.agg #[.int .i64 ad, .int .i64 ln, .int .i64 ow, .int .i64 lo, .int .i64 hi, .slice da dn dc, .int .i64 nw, .slice ea en ec], .int .i64 2] w fun e w' => e = .returned (.func (.func 67) #[.agg #[.int .i64 ad, .int .i64 ln, .int .i64 ow, .int .i64 lo, .int .i64 hi, .slice da dn dc, .int .i64 nw, .slice ea en ec]] #[]) ∧ Below w.heap.size w w' := by
  have hB := bl_alloc (bl_refl w) (.cells #[.int .i64 ad, .int .i64 ln, .int .i64 ow, .int .i64 lo, .int .i64 hi, .slice da dn dc, .int .i64 nw, .slice ea en ec] 78)
  go_enter Tryz.func44, Tryz.ntmps44
  go_wp2_with fail
  go_ret
  exact ⟨rfl, hB⟩
theorem isb_grown {T e : TypeId} {B b : Nat} {bs : List Value} {w w' : World} {row : Option Nat} (h : Lib.IsBuilderF T e B b bs w) (hg : w.grownBy w' row) (hr : ∀ r, row = some r → ∃ o : Obj, w.heap[r]? = some o ∧ o.isCells = false) : Lib.IsBuilderF T e B b bs w' := by
  have h1 : ∀ p, Lib.BuilderAtF T e B b p bs w → Lib.BuilderAtF T e B b p bs w' := by
    rintro p ⟨hB, v, hb, hown, hne⟩
    refine ⟨hB, v, ?_, hown.kept hg ?_, hne⟩
    · rw [hg.block b (Array.getElem?_eq_some_iff.1 hb).1 (fun e => ?_)]
      · exact hb
      · obtain ⟨o, ho, hc⟩ := hr b e.symm
        rw [hb] at ho
        cases ho
        cases hc
    · rcases hown.2 with ⟨rfl, _⟩ | ⟨g, cap, cur, fz, rfl, _, hgg, _⟩
      · exact Or.inl rfl
      · refine Or.inr fun e => ?_
        obtain ⟨o, ho, hc⟩ := hr g e.symm
        rw [hgg] at ho
        cases ho
        cases hc
  exact h.imp (h1 _) (h1 _)
theorem grown_of_bl {w w' : World} (h : Below w.heap.size w w') : w.grownBy w' none := ⟨h.os, h.tape, h.output, h.size, fun k hk _ => h.block k hk⟩
theorem isb_below {T e : TypeId} {B b : Nat} {bs : List Value} {w w' : World} (h : Lib.IsBuilderF T e B b bs w) (hb : Below w.heap.size w w') : Lib.IsBuilderF T e B b bs w' := isb_grown h (grown_of_bl hb) (fun _ e => by cases e)
theorem ok_of_bl {e : TypeId} {b : Option Nat} {w w' : World} (h : Below w.heap.size w w') : Lib.OthersKept e b w w' := fun k _ hk _ _ => (h.block k (Array.getElem?_eq_some_iff.1 hk).1).trans hk
theorem isb_cells {T e : TypeId} {B b : Nat} {bs : List Value} {w : World} (h : Lib.IsBuilderF T e B b bs w) : ∃ C, w.heap[b]? = some (.cells C T (0, 0)) := by
  rcases h with ⟨_, v, hb, _⟩ | ⟨_, v, hb, _⟩ <;> exact ⟨_, hb⟩
/-- Whatever is no cells lies as it lay. -/
theorem keeps_of_ok {T e : TypeId} {B b : Nat} {bs : List Value} {w w' : World} (hb : Lib.IsBuilderF T e B b bs w) (h : Lib.OthersKept e (some b) w w') (hs : w.heap.size ≤ w'.heap.size) : KeepsOthers w w' := by
  refine ⟨hs, fun k o hk ho => h k o hk (fun e => ?_) (fun c fz e => ?_)⟩
  · obtain ⟨C, hC⟩ := isb_cells hb
    cases e
    rw [hk] at hC
    cases hC
    cases ho
  · subst e
    cases ho
theorem bytes_nl (l : List UInt8) : Lib.byteCells l ++ [Value.int .u8 10] = Lib.byteCells (l ++ [10]) := by simp [Lib.byteCells]
theorem wstring_ret (B b : Nat) (l m : List UInt8) (w : World) (h : Lib.IsBuilderF 82 5 B b (Lib.byteCells l) w) (hlen : l.length + m.length ≤ 100000) (hBw : B ≤ w.heap.size) :
    Calls Tryz.prog 45 #[.pointer (some ⟨b, 0, none⟩), .string (St m)] w fun e w' => e = .returned (.tuple #[.int .i64 (St m).size, .nilIface]) ∧ Lib.IsBuilderF 82 5 B b (Lib.byteCells (l ++ m)) w' ∧ Below B w w' ∧ Lib.OthersKept 5 (some b) w w' :=
  (Any.Builder_WriteString_k lays166 Builder_Extra_156 B b (Lib.byteCells l) (St m) w h (by rw [Lib.byteCells_length]; exact Nat.le_trans hlen (by decide)) hBw).mono fun _ _ ⟨he, h1, h2, h3⟩ => ⟨he, Or.inr (by rw [Lib.byteCells_append]; exact h1), h2, h3⟩
theorem wbyte_ret (B b : Nat) (l : List UInt8) (w : World) (h : Lib.IsBuilderF 82 5 B b (Lib.byteCells l) w) (hlen : l.length + 1 ≤ 100000) (hBw : B ≤ w.heap.size) :
    Calls Tryz.prog 46 #[.pointer (some ⟨b, 0, none⟩), .int .u8 10] w fun e w' => e = .returned .nilIface ∧ Lib.IsBuilderF 82 5 B b (Lib.byteCells (l ++ [10])) w' ∧ Below B w w' ∧ Lib.OthersKept 5 (some b) w w' :=
  (Any.Builder_WriteByte_k lays167 Builder_Extra_156 B b (Lib.byteCells l) 10 w h (by rw [Lib.byteCells_length]; exact Nat.le_trans hlen (by decide)) hBw).mono fun _ _ ⟨he, h1, h2, h3⟩ => ⟨he, Or.inr (by rw [← bytes_nl]; exact h1), h2, h3⟩
theorem bstring_ret (B b : Nat) (l : List UInt8) (w : World) (h : Lib.IsBuilderF 82 5 B b (Lib.byteCells l) w) (hBw : B ≤ w.heap.size) :
    Calls Tryz.prog 47 #[.pointer (some ⟨b, 0, none⟩)] w fun e w' => e = .returned (.string (St l)) ∧ Below B w w' ∧ Lib.OthersKept 5 (some b) w w' :=
  (Any.Builder_String_any_k lays169 Builder_Extra_156 B b l w h hBw).mono fun _ _ ⟨he, _, h2, h3⟩ => ⟨he, h2, h3⟩
theorem Box.of_heap {w : World} {n : Nat} {C : Array Value} {t : TypeId} {fz : Nat × Nat} (h : w.heap[n]? = some (.cells C t fz)) : Box w n C := ⟨(Array.getElem?_eq_some_iff.1 h).1, fun j => by simp [World.cell?, h]⟩
theorem txtOf_len {ow nw : Int} {ds : List Dr} {es : List En} (how : 0 ≤ ow ∧ ow ≤ 65535) (hn : 0 ≤ nw ∧ nw ≤ 1000000) (hd : ∀ (i : Nat) d, ds[i]? = some d → DNum d) (he : ∀ (i : Nat) d, es[i]? = some d → ENum nw d) : ∀ pre : List (Ln ds es), (txtOf ow nw pre).length ≤ 301 * pre.length
  | [] => by simp [txtOf]
  | x :: pre => by
    have h1 := txtOf_len how hn hd he pre
    have h2 : (x.txt ow nw).length ≤ 300 := by
      obtain ⟨u | ⟨⟨i, d⟩, h⟩ | ⟨⟨i, d⟩, h⟩⟩ := x
      · skip
        have := itoa_len (n := nw) (by omega) (by omega)
        simp only [Ln.txt, nowL, List.length_cons]
        omega
      · exact Nat.le_trans (doorL_len how.1 how.2 (hd i d h)) (by decide)
      · exact flowL_len how.1 how.2 (he i d h)
    simp only [txtOf, List.flatMap_cons, List.length_append, List.length_cons, List.length_nil] at h1 ⊢
    omega
set_option maxRecDepth 100000 in
set_option maxHeartbeats 4000000 in
theorem implBoard_ok (ad ln ow lo hi nw : Int) (da : Option Addr) (dn dc : Nat) (ea : Option Addr) (en ec : Nat) (ds : List Dr) (es : List En) (w : World) (ht : Tb w) (hD : DoorsAt w da dn ds) (hE : EntriesAt w ea en es) (hok : bookB ad ln ow lo hi nw ds es = true) :
    Calls Tryz.prog 18 #[.agg #[.int .i64 ad, .int .i64 ln, .int .i64 ow, .int .i64 lo, .int .i64 hi, .slice da dn dc, .int .i64 nw, .slice ea en ec]] w fun e w' => e = .returned (.string (St (boardT ow nw ds es))) ∧ Below w.heap.size w w' := by
  obtain ⟨how, hn, ⟨hds, hes⟩, hdn, hen⟩ := book_nums hok
  obtain rfl : dn = ds.length := hD.1
  obtain rfl : en = es.length := hE.1
  have hB := bl_alloc (bl_refl w) (.cells #[.int .i64 ad, .int .i64 ln, .int .i64 ow, .int .i64 lo, .int .i64 hi, .slice da ds.length dc, .int .i64 nw, .slice ea es.length ec] 35)
  have x1 := Box.new w #[.int .i64 ad, .int .i64 ln, .int .i64 ow, .int .i64 lo, .int .i64 hi, .slice da ds.length dc, .int .i64 nw, .slice ea es.length ec] 35
  have HK : Hid (∀ W, Below w.heap.size w W → Calls Tryz.prog 42 #[.agg #[.int .i64 ad, .int .i64 ln, .int .i64 ow, .int .i64 lo, .int .i64 hi, .slice da ds.length dc, .int .i64 nw, .slice ea es.length ec]] W fun e w' => e = .returned (.bool true) ∧ Below W.heap.size W w') := fun W h => by have := implBook_ret ad ln ow lo hi nw da ds.length dc ea es.length ec ds es W (hD.below h) (hE.below h); rw [hok] at this; exact this
  replace ht : Hid (Tb w) := ht
  replace hD : Hid (DoorsAt w da ds.length ds) := hD
  replace hE : Hid (EntriesAt w ea es.length es) := hE
  replace hdn : Hid (∀ (i : Nat) d, ds[i]? = some d → DNum d) := hdn
  replace hen : Hid (∀ (i : Nat) d, es[i]? = some d → ENum nw d) := hen
  clear hok
  refine (callsIn_wide (n := 3)).1 ?_
  refine callsIn_of_wp_marks Tryz.func18 rfl trivial ?_ rfl
  simp only [Tryz.ntmps18, List.size_toArray, List.length_cons, List.length_nil, Nat.reduceAdd, Nat.reduceSub, Array.replicate_succ, Array.replicate_zero, List.push_toArray, List.append_toArray, List.nil_append, List.cons_append]
  have y1 := x1.2
  gi_wp2_with fail
  refine ⟨trivial, ?_⟩
  refine (callsIn_wide.2 (HK.out _ hB)).mono ?_
  rintro e v1 ⟨rfl, hb⟩
  replace x1 := x1.below hb
  replace hB := bl_trans hB hb
  clear hb y1 HK
  have y1 := x1.2
  gi_wp2_with fail
  refine ⟨trivial, ?_⟩
  refine (lines_in Fence.wide _ trivial rfl _ _).mono ?_
  rintro e w' ⟨rfl, rfl⟩
  clear y1 x1
  gi_wp2_with fail
  have hb3 := bl_alloc (bl_alloc (bl_alloc (bl_refl v1) (.cells #[.int .i64 ad, .int .i64 ln, .int .i64 ow, .int .i64 lo, .int .i64 hi, .slice da ds.length dc, .int .i64 nw, .slice ea es.length ec] 78)) (.cells #[.pointer none, .slice none 0 0] 82)) (.cells #[.int .i64 ad, .int .i64 ln, .int .i64 ow, .int .i64 lo, .int .i64 hi, .slice da ds.length dc, .int .i64 nw, .slice ea es.length ec] 78)
  have xA := ((Box.new v1 #[.int .i64 ad, .int .i64 ln, .int .i64 ow, .int .i64 lo, .int .i64 hi, .slice da ds.length dc, .int .i64 nw, .slice ea es.length ec] 78).below (bl_alloc (bl_refl _) (.cells #[.pointer none, .slice none 0 0] 82))).below (bl_alloc (bl_refl _) (.cells #[.int .i64 ad, .int .i64 ln, .int .i64 ow, .int .i64 lo, .int .i64 hi, .slice da ds.length dc, .int .i64 nw, .slice ea es.length ec] 78))
  have hbd := isb_below (Lib.IsBuilderF.of (Lib.fresh_isBuilder 82 5 (v1.alloc (.cells #[.int .i64 ad, .int .i64 ln, .int .i64 ow, .int .i64 lo, .int .i64 hi, .slice da ds.length dc, .int .i64 nw, .slice ea es.length ec] 78)))) (bl_alloc (bl_refl _) (.cells #[.int .i64 ad, .int .i64 ln, .int .i64 ow, .int .i64 lo, .int .i64 hi, .slice da ds.length dc, .int .i64 nw, .slice ea es.length ec] 78))
  have hBn := World.alloc_heap_new ((v1.alloc (.cells #[.int .i64 ad, .int .i64 ln, .int .i64 ow, .int .i64 lo, .int .i64 hi, .slice da ds.length dc, .int .i64 nw, .slice ea es.length ec] 78)).alloc (.cells #[.pointer none, .slice none 0 0] 82)) (.cells #[.int .i64 ad, .int .i64 ln, .int .i64 ow, .int .i64 lo, .int .i64 hi, .slice da ds.length dc, .int .i64 nw, .slice ea es.length ec] 78)
  have hsz0 : (((v1.alloc (.cells #[.int .i64 ad, .int .i64 ln, .int .i64 ow, .int .i64 lo, .int .i64 hi, .slice da ds.length dc, .int .i64 nw, .slice ea es.length ec] 78)).alloc (.cells #[.pointer none, .slice none 0 0] 82)).alloc (.cells #[.int .i64 ad, .int .i64 ln, .int .i64 ow, .int .i64 lo, .int .i64 hi, .slice da ds.length dc, .int .i64 nw, .slice ea es.length ec] 78)).heap.size = v1.heap.size + 1 + 1 + 1 := by simp
  simp only [World.size_alloc] at hbd hBn
  have hvm : w.heap.size ≤ v1.heap.size := hB.size
  replace hB := bl_trans hB hb3
  clear hb3
  obtain ⟨W0, hW0⟩ : ∃ W0, ((v1.alloc (.cells #[.int .i64 ad, .int .i64 ln, .int .i64 ow, .int .i64 lo, .int .i64 hi, .slice da ds.length dc, .int .i64 nw, .slice ea es.length ec] 78)).alloc (.cells #[.pointer none, .slice none 0 0] 82)).alloc (.cells #[.int .i64 ad, .int .i64 ln, .int .i64 ow, .int .i64 lo, .int .i64 hi, .slice da ds.length dc, .int .i64 nw, .slice ea es.length ec] 78) = W0 := ⟨_, rfl⟩
  rw [hW0] at xA hbd hBn hB hsz0 ⊢
  clear hW0
  generalize v1.heap.size = m at *
  have hN : ∀ pre : List (Ln ds es), (txtOf ow nw pre).length ≤ 301 * pre.length := fun pre => txtOf_len how hn hdn.out hen.out pre
  replace hN := Lib.hid hN
  refine wpIn_rangeFunc_ownH rfl (by omega) (gf := 65) (lb := #[.pointer (some ⟨m + 1 + 1, 0, none⟩)]) rfl trivial (enters_of Tryz.func65 (by kernel_rfl) rfl)
    (lines_stops Fence.wide _ trivial rfl (by omega) (m + 1 + 1) ad ln ow lo hi nw da dc ea ec ds es W0 (by omega) (by omega) (Box.of_heap hBn))
    (fun h k => Eq.trans k h) (fun W l o o' hl _ _ _ => World.putObj_heap_other (by omega)) (Below.refl _ _) (fun _ => rfl)
    (fun pre W => Lib.IsBuilderF 82 5 (m + 1) (m + 1) (Lib.byteCells (txtOf ow nw pre)) W ∧ Box W m #[.int .i64 ad, .int .i64 ln, .int .i64 ow, .int .i64 lo, .int .i64 hi, .slice da ds.length dc, .int .i64 nw, .slice ea es.length ec] ∧ W.heap[m + 1 + 1]? = some (.cells #[.int .i64 ad, .int .i64 ln, .int .i64 ow, .int .i64 lo, .int .i64 hi, .slice da ds.length dc, .int .i64 nw, .slice ea es.length ec] 78) ∧ Below w.heap.size w W)
    (fun _ _ _ => False)
    (fun s A B row ⟨h1, h2, h3, h4⟩ hg hr => ⟨isb_grown h1 hg (fun r e => (hr r e).2), box_kept h2 (hg.block m h2.1 (fun e => by have := (hr m e.symm).1; omega)), (hg.block (m + 1 + 1) (Array.getElem?_eq_some_iff.1 h3).1 (fun e => by have := (hr _ e.symm).1; omega)).trans h3, h4.grown hg h4.size (fun k e => by have := (hr k e).1; omega)⟩)
    (fun _ _ _ _ _ hs _ _ => hs)
    ⟨hbd, xA, hBn, hB⟩
    (fun x a' W => ∃ Bx, m + 1 + 1 < Bx ∧ W.heap[Bx]? = some (.cells x.cells 88) ∧ a' = { tmps := #[.agg #[.int .i64 ad, .int .i64 ln, .int .i64 ow, .int .i64 lo, .int .i64 hi, .slice da ds.length dc, .int .i64 nw, .slice ea es.length ec], .pointer (some ⟨w.heap.size, 0, none⟩), .string ⟨#[]⟩, .pointer (some ⟨m, 0, none⟩), .pointer (some ⟨m + 1, 0, none⟩), .pointer (some ⟨Bx, 0, none⟩), undef, .agg #[.int .i64 ad, .int .i64 ln, .int .i64 ow, .int .i64 lo, .int .i64 hi, .slice da ds.length dc, .int .i64 nw, .slice ea es.length ec], .bool true, .bool false, .agg #[.int .i64 ad, .int .i64 ln, .int .i64 ow, .int .i64 lo, .int .i64 hi, .slice da ds.length dc, .int .i64 nw, .slice ea es.length ec], .agg #[.int .i64 ad, .int .i64 ln, .int .i64 ow, .int .i64 lo, .int .i64 hi, .slice da ds.length dc, .int .i64 nw, .slice ea es.length ec], .agg #[.int .i64 ad, .int .i64 ln, .int .i64 ow, .int .i64 lo, .int .i64 hi, .slice da ds.length dc, .int .i64 nw, .slice ea es.length ec], .func (.func 65) #[] #[.pointer (some ⟨m + 1 + 1, 0, none⟩)], .agg x.cells, undef, undef, undef, undef, undef, undef, undef, undef, undef, undef, undef], defers := [] })
    (fun x a' _ A B row ⟨Bx, h1, h2, h3⟩ hg hr => ⟨Bx, h1, (hg.block Bx (Array.getElem?_eq_some_iff.1 h2).1 (fun e => by
      obtain ⟨_, o, ho, hc⟩ := hr Bx e.symm
      rw [h2] at ho
      cases ho
      cases hc)).trans h2, h3⟩)
    ?assign ?body ?done ?stop
  case assign =>
    rintro l pre x W K ⟨i1, i2, i3, i4⟩ hK
    have hmW := (Array.getElem?_eq_some_iff.1 i3).1
    obtain ⟨u | ⟨⟨i, d⟩, h⟩ | ⟨⟨i, d⟩, h⟩⟩ := x
    · skip
      have hb := bl_alloc (bl_refl W) (.cells #[.int .i64 0, .int .i64 0] 88)
      dsimp only [Ln.enc, Ln.cells]
      gi_wp2
      exact hK _ _ ((KeepsOthers.alloc _ _).from _) (hb.block _ hmW) ⟨isb_below i1 hb, i2.below hb, (hb.block _ hmW).trans i3, bl_trans i4 hb⟩ ⟨W.heap.size, hmW, World.alloc_heap_new _ _, rfl⟩
    · replace h : ds[i]? = some d := h
      have hb := bl_alloc (bl_refl W) (.cells #[.int .i64 1, .int .i64 i] 88)
      dsimp only [Ln.enc, Ln.cells]
      gi_wp2
      exact hK _ _ ((KeepsOthers.alloc _ _).from _) (hb.block _ hmW) ⟨isb_below i1 hb, i2.below hb, (hb.block _ hmW).trans i3, bl_trans i4 hb⟩ ⟨W.heap.size, hmW, World.alloc_heap_new _ _, rfl⟩
    · replace h : es[i]? = some d := h
      have hb := bl_alloc (bl_refl W) (.cells #[.int .i64 2, .int .i64 i] 88)
      dsimp only [Ln.enc, Ln.cells]
      gi_wp2
      exact hK _ _ ((KeepsOthers.alloc _ _).from _) (hb.block _ hmW) ⟨isb_below i1 hb, i2.below hb, (hb.block _ hmW).trans i3, bl_trans i4 hb⟩ ⟨W.heap.size, hmW, World.alloc_heap_new _ _, rfl⟩
  case body =>
    rintro l pre x a' W hl ⟨r, hr⟩ ⟨i1, i2, i3, i4⟩ ⟨Bx, hBx, bX, rfl⟩ hlt
    obtain ⟨u | ⟨⟨i, d⟩, h⟩ | ⟨⟨i, d⟩, h⟩⟩ := x
    · skip
      have xX := Box.of_heap bX
      have hi1 := i1
      have hO := Lib.OthersKept.refl 5 (some (m + 1)) W
      have hsz := Nat.le_refl W.heap.size
      have hmW := (Array.getElem?_eq_some_iff.1 i3).1
      have hL := hN.out pre
      have hT : (nowL nw).length ≤ 300 := by
        have := itoa_len (n := nw) (by omega) (by omega)
        simp only [nowL, List.length_cons]
        omega
      have y2 := i2.2
      have yX := xX.2
      dsimp only [Ln.cells] at yX xX
      gi_wp2_with fail
      refine ⟨trivial, ?_⟩
      refine (CallsIn.inRound l (callsIn_wide.2 (writer_now ad ln ow lo hi nw da ds.length dc ea es.length ec _))).mono ?_
      rintro e W1 ⟨rfl, hb⟩
      replace i1 := isb_below i1 hb
      replace i2 := i2.below hb
      replace xX := xX.below hb
      replace hO := hO.trans (ok_of_bl hb)
      replace i4 := bl_trans i4 hb
      replace hsz := Nat.le_trans hsz hb.size
      clear hb y2 yX
      have yX := xX.2
      gi_wp2_with fail
      refine ⟨trivial, ?_⟩
      refine (CallsIn.inRound l (callsIn_wide.2 (now_ret ad ln ow lo hi nw da ds.length dc ea es.length ec 0 _ hn (ht.out.below i4)))).mono ?_
      rintro e W2 ⟨rfl, hb⟩
      replace i1 := isb_below i1 hb
      replace i2 := i2.below hb
      replace xX := xX.below hb
      replace hO := hO.trans (ok_of_bl hb)
      replace i4 := bl_trans i4 hb
      replace hsz := Nat.le_trans hsz hb.size
      clear hb yX
      gi_wp2_with fail
      refine ⟨trivial, ?_⟩
      refine (CallsIn.inRound l (callsIn_wide.2 (wstring_ret (m + 1) (m + 1) _ (nowL nw) W2 i1 (by omega) (by omega)))).mono ?_
      rintro e W3 ⟨rfl, i1, hb, hP⟩
      replace hO := hO.trans hP
      replace i2 := box_kept i2 (hb.block m (Nat.lt_succ_self m))
      replace i4 := i4.trans (hb.mono (Nat.le_succ_of_le hvm))
      replace hsz := Nat.le_trans hsz hb.size
      clear hb hP
      gi_wp2_with fail
      refine ⟨trivial, ?_⟩
      refine (CallsIn.inRound l (callsIn_wide.2 (wbyte_ret (m + 1) (m + 1) _ W3 i1 (by rw [List.length_append]; omega) (by omega)))).mono ?_
      rintro e W4 ⟨rfl, i1, hb, hP⟩
      replace hO := hO.trans hP
      replace i2 := box_kept i2 (hb.block m (Nat.lt_succ_self m))
      replace i4 := i4.trans (hb.mono (Nat.le_succ_of_le hvm))
      replace hsz := Nat.le_trans hsz hb.size
      clear hb hP
      gi_wp2_with fail
      have h3 := hO _ _ i3 (fun e => by have := Option.some.inj e; omega) (fun c fz e => by simp at e)
      exact ⟨(keeps_of_ok hi1 hO hsz).from _, h3.trans i3.symm, by rw [txtOf_snoc, ← List.append_assoc]; exact i1, i2, h3, i4⟩
    · replace h : ds[i]? = some d := h
      have xX := Box.of_heap bX
      have hi1 := i1
      have hO := Lib.OthersKept.refl 5 (some (m + 1)) W
      have hsz := Nat.le_refl W.heap.size
      have hmW := (Array.getElem?_eq_some_iff.1 i3).1
      have hL := hN.out pre
      have hT : (doorL ow d).length ≤ 300 := Nat.le_trans (doorL_len how.1 how.2 (hdn.out i d h)) (by decide)
      have y2 := i2.2
      have yX := xX.2
      dsimp only [Ln.cells] at yX xX
      gi_wp2_with fail
      refine ⟨trivial, ?_⟩
      refine (CallsIn.inRound l (callsIn_wide.2 (writer_door ad ln ow lo hi nw da ds.length dc ea es.length ec _))).mono ?_
      rintro e W1 ⟨rfl, hb⟩
      replace i1 := isb_below i1 hb
      replace i2 := i2.below hb
      replace xX := xX.below hb
      replace hO := hO.trans (ok_of_bl hb)
      replace i4 := bl_trans i4 hb
      replace hsz := Nat.le_trans hsz hb.size
      clear hb y2 yX
      have yX := xX.2
      gi_wp2_with fail
      refine ⟨trivial, ?_⟩
      refine (CallsIn.inRound l (callsIn_wide.2 (door_ret ad ln ow lo hi nw da ds.length dc ea es.length ec ds i d _ (hD.out.below i4) h how (hdn.out i d h) (ht.out.below i4)))).mono ?_
      rintro e W2 ⟨rfl, hb⟩
      replace i1 := isb_below i1 hb
      replace i2 := i2.below hb
      replace xX := xX.below hb
      replace hO := hO.trans (ok_of_bl hb)
      replace i4 := bl_trans i4 hb
      replace hsz := Nat.le_trans hsz hb.size
      clear hb yX
      gi_wp2_with fail
      refine ⟨trivial, ?_⟩
      refine (CallsIn.inRound l (callsIn_wide.2 (wstring_ret (m + 1) (m + 1) _ (doorL ow d) W2 i1 (by omega) (by omega)))).mono ?_
      rintro e W3 ⟨rfl, i1, hb, hP⟩
      replace hO := hO.trans hP
      replace i2 := box_kept i2 (hb.block m (Nat.lt_succ_self m))
      replace i4 := i4.trans (hb.mono (Nat.le_succ_of_le hvm))
      replace hsz := Nat.le_trans hsz hb.size
      clear hb hP
      gi_wp2_with fail
      refine ⟨trivial, ?_⟩
      refine (CallsIn.inRound l (callsIn_wide.2 (wbyte_ret (m + 1) (m + 1) _ W3 i1 (by rw [List.length_append]; omega) (by omega)))).mono ?_
      rintro e W4 ⟨rfl, i1, hb, hP⟩
      replace hO := hO.trans hP
      replace i2 := box_kept i2 (hb.block m (Nat.lt_succ_self m))
      replace i4 := i4.trans (hb.mono (Nat.le_succ_of_le hvm))
      replace hsz := Nat.le_trans hsz hb.size
      clear hb hP
      gi_wp2_with fail
      have h3 := hO _ _ i3 (fun e => by have := Option.some.inj e; omega) (fun c fz e => by simp at e)
      exact ⟨(keeps_of_ok hi1 hO hsz).from _, h3.trans i3.symm, by rw [txtOf_snoc, ← List.append_assoc]; exact i1, i2, h3, i4⟩
    · replace h : es[i]? = some d := h
      have xX := Box.of_heap bX
      have hi1 := i1
      have hO := Lib.OthersKept.refl 5 (some (m + 1)) W
      have hsz := Nat.le_refl W.heap.size
      have hmW := (Array.getElem?_eq_some_iff.1 i3).1
      have hL := hN.out pre
      have hT : (flowL ow nw d).length ≤ 300 := flowL_len how.1 how.2 (hen.out i d h)
      have y2 := i2.2
      have yX := xX.2
      dsimp only [Ln.cells] at yX xX
      gi_wp2_with fail
      refine ⟨trivial, ?_⟩
      refine (CallsIn.inRound l (callsIn_wide.2 (writer_flow ad ln ow lo hi nw da ds.length dc ea es.length ec _))).mono ?_
      rintro e W1 ⟨rfl, hb⟩
      replace i1 := isb_below i1 hb
      replace i2 := i2.below hb
      replace xX := xX.below hb
      replace hO := hO.trans (ok_of_bl hb)
      replace i4 := bl_trans i4 hb
      replace hsz := Nat.le_trans hsz hb.size
      clear hb y2 yX
      have yX := xX.2
      gi_wp2_with fail
      refine ⟨trivial, ?_⟩
      refine (CallsIn.inRound l (callsIn_wide.2 (flow_ret ad ln ow lo hi nw da ds.length dc ea es.length ec es i d _ (hE.out.below i4) h how hn (hen.out i d h) (ht.out.below i4)))).mono ?_
      rintro e W2 ⟨rfl, hb⟩
      replace i1 := isb_below i1 hb
      replace i2 := i2.below hb
      replace xX := xX.below hb
      replace hO := hO.trans (ok_of_bl hb)
      replace i4 := bl_trans i4 hb
      replace hsz := Nat.le_trans hsz hb.size
      clear hb yX
      gi_wp2_with fail
      refine ⟨trivial, ?_⟩
      refine (CallsIn.inRound l (callsIn_wide.2 (wstring_ret (m + 1) (m + 1) _ (flowL ow nw d) W2 i1 (by omega) (by omega)))).mono ?_
      rintro e W3 ⟨rfl, i1, hb, hP⟩
      replace hO := hO.trans hP
      replace i2 := box_kept i2 (hb.block m (Nat.lt_succ_self m))
      replace i4 := i4.trans (hb.mono (Nat.le_succ_of_le hvm))
      replace hsz := Nat.le_trans hsz hb.size
      clear hb hP
      gi_wp2_with fail
      refine ⟨trivial, ?_⟩
      refine (CallsIn.inRound l (callsIn_wide.2 (wbyte_ret (m + 1) (m + 1) _ W3 i1 (by rw [List.length_append]; omega) (by omega)))).mono ?_
      rintro e W4 ⟨rfl, i1, hb, hP⟩
      replace hO := hO.trans hP
      replace i2 := box_kept i2 (hb.block m (Nat.lt_succ_self m))
      replace i4 := i4.trans (hb.mono (Nat.le_succ_of_le hvm))
      replace hsz := Nat.le_trans hsz hb.size
      clear hb hP
      gi_wp2_with fail
      have h3 := hO _ _ i3 (fun e => by have := Option.some.inj e; omega) (fun c fz e => by simp at e)
      exact ⟨(keeps_of_ok hi1 hO hsz).from _, h3.trans i3.symm, by rw [txtOf_snoc, ← List.append_assoc]; exact i1, i2, h3, i4⟩
  case done =>
    rintro D ys W hD' rfl ⟨i1, i2, i3, i4⟩ hK
    have hmW := (Array.getElem?_eq_some_iff.1 i3).1
    rw [txt_lns] at i1
    gi_wp2_with fail
    refine ⟨trivial, ?_⟩
    refine (callsIn_wide.2 (bstring_ret (m + 1) (m + 1) _ W i1 (by omega))).mono ?_
    rintro e W' ⟨rfl, hb, hP⟩
    have hK' := hP D _ hK (fun e => by have := Option.some.inj e; omega) (fun c fz e => by cases e)
    replace i4 := i4.trans (hb.mono (Nat.le_succ_of_le hvm))
    gi_wp2_with fail
    refine ⟨by simp, .inl ⟨_, _, rfl, run_takeDeferred hK', ?_⟩⟩
    exact ⟨_, results_tmp rfl _ _ _, rfl, i4.trans (belowK_b (w := w) (Nat.le_refl _) W' D _ _ (by omega) hK' rfl rfl)⟩
  case stop =>
    rintro D c pre W _ _ h _
    exact h.elim
set_option maxRecDepth 100000 in
theorem implBoard_ret (ad ln ow lo hi nw : Int) (da : Option Addr) (dn dc : Nat) (ea : Option Addr) (en ec : Nat) (ds : List Dr) (es : List En) (w : World) (ht : Tb w) (hD : DoorsAt w da dn ds) (hE : EntriesAt w ea en es) :
    Calls Tryz.prog 18 #[.agg #[.int .i64 ad, .int .i64 ln, .int .i64 ow, .int .i64 lo, .int .i64 hi, .slice da dn dc, .int .i64 nw, .slice ea en ec]] w fun e w' => e = .returned (.string (St (boardS ad ln ow lo hi nw ds es))) ∧ Below w.heap.size w w' := by
  unfold boardS
  by_cases hok : bookB ad ln ow lo hi nw ds es = true
  · rw [if_pos hok]
    exact implBoard_ok ad ln ow lo hi nw da dn dc ea en ec ds es w ht hD hE hok
  · rw [if_neg hok]
    have hok' : bookB ad ln ow lo hi nw ds es = false := by simpa using hok
    have HK : Hid (∀ W, Below w.heap.size w W → Calls Tryz.prog 42 #[.agg #[.int .i64 ad, .int .i64 ln, .int .i64 ow, .int .i64 lo, .int .i64 hi, .slice da dn dc, .int .i64 nw, .slice ea en ec]] W fun e w' => e = .returned (.bool false) ∧ Below W.heap.size W w') := fun W h => by have := implBook_ret ad ln ow lo hi nw da dn dc ea en ec ds es W (hD.below h) (hE.below h); rw [hok'] at this; exact this
    clear hok hok' hD hE
    have hB := bl_alloc (bl_refl w) (.cells #[.int .i64 ad, .int .i64 ln, .int .i64 ow, .int .i64 lo, .int .i64 hi, .slice da dn dc, .int .i64 nw, .slice ea en ec] 35)
    have y1 := (Box.new w #[.int .i64 ad, .int .i64 ln, .int .i64 ow, .int .i64 lo, .int .i64 hi, .slice da dn dc, .int .i64 nw, .slice ea en ec] 35).2
    refine (callsIn_wide (n := 3)).1 ?_
    refine callsIn_of_wp_marks Tryz.func18 rfl trivial ?_ rfl
    simp only [Tryz.ntmps18, List.size_toArray, List.length_cons, List.length_nil, Nat.reduceAdd, Nat.reduceSub, Array.replicate_succ, Array.replicate_zero, List.push_toArray, List.append_toArray, List.nil_append, List.cons_append]
    gi_wp2_with fail
    refine ⟨trivial, ?_⟩
    refine (callsIn_wide.2 (HK.out _ hB)).mono ?_
    rintro e v1 ⟨rfl, hb⟩
    gi_wp2_with fail
    exact ⟨_, results_tmp rfl _ _ _, rfl, bl_trans hB hb⟩
end Go.Proofs.YtcgjpmhjijmplabGreatDoor
