/- Draws: the specification's l5Book, walked. -/
import Derived.Test.YtcgjpmhjijmplaaGreatDoorDraw12
namespace Go.Proofs.YtcgjpmhjijmplaaGreatDoor
open Go.ChangeShapes Go.WideShapes Go.ChangeAt Go.RowKit Go.Maps

theorem DoorsL.out {w : World} {q x : Nat} {da : Option Addr} {ds : List Dr} (hh : DoorsL w q da ds.length ds) (hx : x < q) (a b c d e f g i : Value) : DoorsL (World.setCell (World.setCell (World.setCell (World.setCell (World.setCell (World.setCell (World.setCell (World.setCell w ⟨x, 0, none⟩ (a)) ⟨x, 1, none⟩ (b)) ⟨x, 2, none⟩ (c)) ⟨x, 3, none⟩ (d)) ⟨x, 4, none⟩ (e)) ⟨x, 5, none⟩ (f)) ⟨x, 6, none⟩ (g)) ⟨x, 7, none⟩ (i)) x da ds.length ds :=
  ⟨rfl, hh.2.imp id fun ⟨y, o, h1, h2, h3, h4⟩ => ⟨y, o, h1, by omega, by simpa [World.setCell] using h3, dr_other8 h4 (by omega) a b c d e f g i⟩⟩
theorem EntriesL.out {w : World} {q x : Nat} {da : Option Addr} {ds : List En} (hh : EntriesL w q da ds.length ds) (hx : x < q) (a b c d e f g i : Value) : EntriesL (World.setCell (World.setCell (World.setCell (World.setCell (World.setCell (World.setCell (World.setCell (World.setCell w ⟨x, 0, none⟩ (a)) ⟨x, 1, none⟩ (b)) ⟨x, 2, none⟩ (c)) ⟨x, 3, none⟩ (d)) ⟨x, 4, none⟩ (e)) ⟨x, 5, none⟩ (f)) ⟨x, 6, none⟩ (g)) ⟨x, 7, none⟩ (i)) x da ds.length ds :=
  ⟨rfl, hh.2.imp id fun ⟨y, o, h1, h2, h3, h4⟩ => ⟨y, o, h1, by omega, by simpa [World.setCell] using h3, en_other8 h4 (by omega) a b c d e f g i⟩⟩
/-- A book in block nb, its lists, another block. -/
def MemB (w : World) (q nb xb : Nat) (C : Array Value) (va ua : Option Addr) (ds : List Dr) (es : List En) (Z : Array Value) : Prop := Box w nb C ∧ DoorsX w q nb xb va ds ∧ EntriesX w q nb xb ua es ∧ Bx w xb Z
theorem MemB.apart {R : Nat} {w w' : World} {q nb xb : Nat} {C Z : Array Value} {va ua : Option Addr} {ds : List Dr} {es : List En} (h : MemB w q nb xb C va ua ds es Z) (ha : Apart R w w') (hR : R < q) (h1 : nb ≠ R) (h2 : xb ≠ R) (_ : True ∨ True) : MemB w' q nb xb C va ua ds es Z := ⟨h.1.apart ha h1, h.2.1.apart ha hR, h.2.2.1.apart ha hR, h.2.2.2.apart ha h2⟩
end Go.Proofs.YtcgjpmhjijmplaaGreatDoor
