/- Draws: the specification's l5Any, and the draws of books beside flows, walked. -/
import Derived.Test.YtcgjpmhjijmplaaGreatDoorDraw14
import Derived.Test.YtcgjpmhjijmplaaGreatDoorDraw8
namespace Go.Proofs.YtcgjpmhjijmplaaGreatDoor
open Go.ChangeShapes Go.WideShapes Go.ChangeAt Go.RowKit Go.Maps

theorem DrawnA.out {w w' : World} {q : Nat} {e : Ending} (h : DrawnA w q e) (hb : Below w.heap.size w w') : DrawnA w' q e := by
  obtain ⟨B, va, vc, ua, uc, h1, h2, h3, h4⟩ := h
  refine ⟨B, va, vc, ua, uc, h1, ⟨h2.1, h2.2.imp id fun ⟨b, o, x1, x2, x3, x4⟩ => ⟨b, o, x1, x2, Nat.lt_of_lt_of_le x3 hb.size, fun i d hi => ?_⟩⟩, ⟨h3.1, h3.2.imp id fun ⟨b, o, x1, x2, x3, x4⟩ => ⟨b, o, x1, x2, Nat.lt_of_lt_of_le x3 hb.size, fun i d hi => ?_⟩⟩, h4⟩
  · obtain ⟨c0, c1, c2, c3⟩ := x4 i d hi
    refine ⟨?_, ?_, ?_, ?_⟩ <;> (rw [hb.cell x3]; assumption)
  · obtain ⟨c0, c1, c2, c3, c4, c5, c6⟩ := x4 i d hi
    refine ⟨?_, ?_, ?_, ?_, ?_, ?_, ?_⟩ <;> (rw [hb.cell x3]; assumption)
theorem DoorsL.off {w : World} {q : Nat} {da : Option Addr} {dn x : Nat} {ds : List Dr} (hh : DoorsL w q da dn ds) (hx : w.heap.size ≤ x) : Hid (ds ≠ [] → ∀ b o, da = some ⟨b, o, none⟩ → b ≠ x) := by
  show ds ≠ [] → ∀ b o, da = some ⟨b, o, none⟩ → b ≠ x
  intro hne b o hb
  rcases hh.2 with h | ⟨b', o', h1, _, h3, _⟩
  · exact absurd h hne
  · rw [h1] at hb
    simp only [Option.some.injEq, Addr.mk.injEq] at hb
    omega
theorem EntriesL.off {w : World} {q : Nat} {da : Option Addr} {dn x : Nat} {ds : List En} (hh : EntriesL w q da dn ds) (hx : w.heap.size ≤ x) : Hid (ds ≠ [] → ∀ b o, da = some ⟨b, o, none⟩ → b ≠ x) := by
  show ds ≠ [] → ∀ b o, da = some ⟨b, o, none⟩ → b ≠ x
  intro hne b o hb
  rcases hh.2 with h | ⟨b', o', h1, _, h3, _⟩
  · exact absurd h hne
  · rw [h1] at hb
    simp only [Option.some.injEq, Addr.mk.injEq] at hb
    omega
end Go.Proofs.YtcgjpmhjijmplaaGreatDoor
