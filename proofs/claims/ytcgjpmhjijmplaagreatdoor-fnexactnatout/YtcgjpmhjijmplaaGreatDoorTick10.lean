/- Marks in a book's rows, and whether they are held; walked. -/
import Derived.Test.YtcgjpmhjijmplaaGreatDoorJoinD
import Derived.Test.YtcgjpmhjijmplaaGreatDoorMark
namespace Go.Proofs.YtcgjpmhjijmplaaGreatDoor
open Go.ChangeShapes Go.WideShapes Go.ChangeAt Go.RowKit Go.Maps

/-- A row, or no row at all, that holds the marks from k on. -/
def MarkOf (w : World) (v : Value) (n size : Nat) (k : Int) : Prop := (v = .slice none 0 0 ∧ n = 0) ∨ ∃ g cap, v = .slice (some ⟨g, 0, none⟩) n cap ∧ g < w.heap.size ∧ Marked w g (n * size) k
theorem MarkOf.far {row : Option Nat} {w w' : World} {v : Value} {n size : Nat} {k : Int} (h : MarkOf w v n size k) (hF : Far row w w') (hn : ∀ g, v.ownBlock = some g → row ≠ some g) : MarkOf w' v n size k := by
  rcases h with h | ⟨g, cap, h1, h2, h3⟩
  · exact Or.inl h
  · exact Or.inr ⟨g, cap, h1, Nat.lt_of_lt_of_le h2 hF.size, fun p hp => (World.cell?_of_block (w := w) (hF.block g h2 (hn g (by rw [h1]; rfl)))).trans (h3 p hp)⟩
theorem rowed_own {w : World} {base size n : Nat} {e : TypeId} {xs : List Value} {g cap : Nat} (h : w.ownsRow base e size (.slice (some ⟨g, 0, none⟩) n cap) n xs) : Rowed w g (n * size) := by
  have hl := (h.lt g rfl).2
  rcases h.2 with ⟨h1, _⟩ | ⟨g', cap', cur, h1, h2, h3, h4, h5, h6, h7⟩
  · cases h1
  · simp only [Value.slice.injEq, Option.some.injEq, Addr.mk.injEq] at h1
    obtain ⟨⟨rfl, -⟩, -, rfl⟩ := h1
    have hle : n * size ≤ cap * size := Nat.mul_le_mul_right _ h4
    exact ⟨hl, fun j => by simp [World.frozen?, h3], fun p hp => ⟨cur[p]'(by omega), by simp [World.cell?, h3, show p < cur.size by omega]⟩⟩

theorem markD_nil (k : Int) (w : World) : Calls Tryz.prog 83 #[.slice none 0 0, .int .i64 k] w fun e w' => e = .returned (.int .i64 k) ∧ w' = w := by
  go_enter Tryz.func83, Tryz.ntmps83
  go_wp2_with fail
  go_loopg [1, 5] 0 (fun gg kv i wr => gg = 0 ∧ i = .int .i64 0 ∧ kv = .int .i64 k ∧ wr = w)
  case atStart => exact ⟨rfl, rfl, rfl, rfl⟩
  case round =>
    obtain ⟨rfl, rfl, rfl, rfl⟩ := hrel
    go_wp2_with fail
    go_ret
    exact ⟨rfl, rfl⟩
theorem markE_nil (k : Int) (w : World) : Calls Tryz.prog 84 #[.slice none 0 0, .int .i64 k] w fun e w' => e = .returned (.int .i64 k) ∧ w' = w := by
  go_enter Tryz.func84, Tryz.ntmps84
  go_wp2_with fail
  go_loopg [1, 5] 0 (fun gg kv i wr => gg = 0 ∧ i = .int .i64 0 ∧ kv = .int .i64 k ∧ wr = w)
  case atStart => exact ⟨rfl, rfl, rfl, rfl⟩
  case round =>
    obtain ⟨rfl, rfl, rfl, rfl⟩ := hrel
    go_wp2_with fail
    go_ret
    exact ⟨rfl, rfl⟩
theorem heldD_nil (k : Int) (w : World) : Calls Tryz.prog 85 #[.slice none 0 0, .int .i64 k] w fun e w' => e = .returned (.int .i64 k) ∧ w' = w := by
  go_enter Tryz.func85, Tryz.ntmps85
  go_wp2_with fail
  go_loopg [1, 5] 0 (fun gg kv i wr => gg = 0 ∧ i = .int .i64 0 ∧ kv = .int .i64 k ∧ wr = w)
  case atStart => exact ⟨rfl, rfl, rfl, rfl⟩
  case round =>
    obtain ⟨rfl, rfl, rfl, rfl⟩ := hrel
    go_wp2_with fail
    go_ret
    exact ⟨rfl, rfl⟩
theorem heldE_nil (k : Int) (w : World) : Calls Tryz.prog 86 #[.slice none 0 0, .int .i64 k] w fun e w' => e = .returned (.int .i64 k) ∧ w' = w := by
  go_enter Tryz.func86, Tryz.ntmps86
  go_wp2_with fail
  go_loopg [1, 5] 0 (fun gg kv i wr => gg = 0 ∧ i = .int .i64 0 ∧ kv = .int .i64 k ∧ wr = w)
  case atStart => exact ⟨rfl, rfl, rfl, rfl⟩
  case round =>
    obtain ⟨rfl, rfl, rfl, rfl⟩ := hrel
    go_wp2_with fail
    go_ret
    exact ⟨rfl, rfl⟩

theorem markD_own (va : Option Addr) (n vc base : Nat) (xs : List Value) (k : Int) (w : World) (ho : w.ownsRow base 85 4 (.slice va n vc) n xs) (hn : n ≤ 1048576) (k0 : 0 ≤ k) (k1 : k ≤ 100000000) :
    Calls Tryz.prog 83 #[.slice va n vc, .int .i64 k] w fun e w' => e = .returned (.int .i64 (k + (n * 4 : Nat))) ∧ Far (Value.slice va n vc).ownBlock w w' ∧ MarkOf w' (.slice va n vc) n 4 k := by
  rcases ho.2 with ⟨h1, rfl⟩ | ⟨g, cap, cur, h1, h2, h3⟩
  · simp only [Value.slice.injEq] at h1
    obtain ⟨rfl, -, rfl⟩ := h1
    refine (markD_nil k w).mono ?_
    rintro e w1 ⟨rfl, rfl⟩
    exact ⟨by simp, far_of_bl (bl_refl _), Or.inl ⟨rfl, rfl⟩⟩
  · simp only [Value.slice.injEq] at h1
    obtain ⟨rfl, -, rfl⟩ := h1
    refine (markD_ret g n vc k w (rowed_own ho) hn k0 k1).mono ?_
    rintro e w1 ⟨rfl, hA, hR, hM⟩
    exact ⟨rfl, far_of_ap hA, Or.inr ⟨g, vc, rfl, hR.1, hM⟩⟩
theorem markE_own (va : Option Addr) (n vc base : Nat) (xs : List Value) (k : Int) (w : World) (ho : w.ownsRow base 52 7 (.slice va n vc) n xs) (hn : n ≤ 1048576) (k0 : 0 ≤ k) (k1 : k ≤ 100000000) :
    Calls Tryz.prog 84 #[.slice va n vc, .int .i64 k] w fun e w' => e = .returned (.int .i64 (k + (n * 7 : Nat))) ∧ Far (Value.slice va n vc).ownBlock w w' ∧ MarkOf w' (.slice va n vc) n 7 k := by
  rcases ho.2 with ⟨h1, rfl⟩ | ⟨g, cap, cur, h1, h2, h3⟩
  · simp only [Value.slice.injEq] at h1
    obtain ⟨rfl, -, rfl⟩ := h1
    refine (markE_nil k w).mono ?_
    rintro e w1 ⟨rfl, rfl⟩
    exact ⟨by simp, far_of_bl (bl_refl _), Or.inl ⟨rfl, rfl⟩⟩
  · simp only [Value.slice.injEq] at h1
    obtain ⟨rfl, -, rfl⟩ := h1
    refine (markE_ret g n vc k w (rowed_own ho) hn k0 k1).mono ?_
    rintro e w1 ⟨rfl, hA, hR, hM⟩
    exact ⟨rfl, far_of_ap hA, Or.inr ⟨g, vc, rfl, hR.1, hM⟩⟩
theorem heldD_own (va : Option Addr) (n vc : Nat) (k : Int) (w : World) (hM : MarkOf w (.slice va n vc) n 4 k) (hn : n ≤ 1048576) (k0 : 0 ≤ k) (k1 : k ≤ 100000000) :
    Calls Tryz.prog 85 #[.slice va n vc, .int .i64 k] w fun e w' => e = .returned (.int .i64 (k + (n * 4 : Nat))) ∧ w' = w := by
  rcases hM with ⟨h1, rfl⟩ | ⟨g, cap, h1, h2, h3⟩
  · simp only [Value.slice.injEq] at h1
    obtain ⟨rfl, -, rfl⟩ := h1
    refine (heldD_nil k w).mono ?_
    rintro e w1 ⟨rfl, rfl⟩
    exact ⟨by simp, rfl⟩
  · simp only [Value.slice.injEq] at h1
    obtain ⟨rfl, -, rfl⟩ := h1
    exact heldD_ret g n vc k w h3 hn k0 k1
theorem heldE_own (va : Option Addr) (n vc : Nat) (k : Int) (w : World) (hM : MarkOf w (.slice va n vc) n 7 k) (hn : n ≤ 1048576) (k0 : 0 ≤ k) (k1 : k ≤ 100000000) :
    Calls Tryz.prog 86 #[.slice va n vc, .int .i64 k] w fun e w' => e = .returned (.int .i64 (k + (n * 7 : Nat))) ∧ w' = w := by
  rcases hM with ⟨h1, rfl⟩ | ⟨g, cap, h1, h2, h3⟩
  · simp only [Value.slice.injEq] at h1
    obtain ⟨rfl, -, rfl⟩ := h1
    refine (heldE_nil k w).mono ?_
    rintro e w1 ⟨rfl, rfl⟩
    exact ⟨by simp, rfl⟩
  · simp only [Value.slice.injEq] at h1
    obtain ⟨rfl, -, rfl⟩ := h1
    exact heldE_ret g n vc k w h3 hn k0 k1
end Go.Proofs.YtcgjpmhjijmplaaGreatDoor
