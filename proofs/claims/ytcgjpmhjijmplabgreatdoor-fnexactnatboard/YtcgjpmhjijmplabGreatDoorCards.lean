/-
  DERIVED. GIVEN WITH THE SEED: THE CARDS: each row of YtcgjpmhjijmplabGreatDoorRows.lean that lists a variable, with what it lists TIED to the program's text (the seventh form; the later family's looks); each row that meets fmt, with fmt's text TOLD by the authors' own Lean function (tested against real Go, not proved from fmt's source: count such statements apart). THE CARD IS WHAT COUNTS. Prove the row's statement (the work); the ties are given (YtcgjpmhjijmplabGreatDoorTie.lean); close each card by the builder's one call (the guide's Derived/Test/ToyasCard.lean, 'card_holds'). Laid BY PROGRAM, IN A SANDBOX (cutbox-door.mjs). By AI agents, Wed Nov 11 2026. No macro, syntax, notation, axiom, sorry.
-/
import Derived.Test.YtcgjpmhjijmplabGreatDoorRows
import GoSem.ClaimSeven
namespace Go.Proofs.YtcgjpmhjijmplabGreatDoor
namespace Rows

/-- THE TIED CARD OF 'laws.FnExactNatIn'. -/
def fnExactNatInCard : Claim7 := { stood := { row := fnExactNatInRow, standIns := [], harness := (true, "af1904a18436bfa23e6e9741095385ab16508542859c02d3570d2bb0021a0b1a"), looks := true }, kinds := [], alts := [], laidByText := true, laidKinds := [.handle], laidTests := true, laidLooks := .later }
def FnExactNatInCardSaid : Prop := Claim7.holds Tryz.pinned (.plain (OpenSpec.ofChange fnExactNatInSpec)) fnExactNatInCard

/-- THE TIED CARD OF 'laws.FnExactNatTick'. -/
def fnExactNatTickCard : Claim7 := { stood := { row := fnExactNatTickRow, standIns := [], harness := (true, "af1904a18436bfa23e6e9741095385ab16508542859c02d3570d2bb0021a0b1a"), looks := true }, kinds := [], alts := [], laidByText := true, laidKinds := [.handle], laidTests := true, laidLooks := .later }
def FnExactNatTickCardSaid : Prop := Claim7.holds Tryz.pinned (.plain (OpenSpec.ofChange fnExactNatTickSpec)) fnExactNatTickCard

/-- THE TIED CARD OF 'laws.FnExactNatBoard'. -/
def fnExactNatBoardCard : Claim7 := { stood := { row := fnExactNatBoardRow, standIns := [], harness := (true, "af1904a18436bfa23e6e9741095385ab16508542859c02d3570d2bb0021a0b1a"), looks := true }, kinds := [], alts := [], laidByText := true, laidKinds := [.data, .data, .data], laidTests := true, laidLooks := .later }
def FnExactNatBoardCardSaid : Prop := Claim7.holds Tryz.pinned (.plain (OpenSpec.ofChange fnExactNatBoardSpec)) fnExactNatBoardCard

/-- THE SECOND FORM's CARD OF 'laws.FnExactNatIn'. -/
def fnExactNatInUptoCard : Claim7 := { stood := { row := fnExactNatInUptoRow, standIns := [], harness := (true, "af1904a18436bfa23e6e9741095385ab16508542859c02d3570d2bb0021a0b1a"), looks := true }, kinds := [], alts := [], laidByText := true, laidKinds := [.handle], laidTests := true, laidLooks := .later }
def FnExactNatInUptoCardSaid : Prop := Claim7.holds Tryz.pinned (.plain (OpenSpec.upto fnExactNatInSpec)) fnExactNatInUptoCard

/-- THE SECOND FORM's CARD OF 'laws.FnExactNatTick'. -/
def fnExactNatTickUptoCard : Claim7 := { stood := { row := fnExactNatTickUptoRow, standIns := [], harness := (true, "af1904a18436bfa23e6e9741095385ab16508542859c02d3570d2bb0021a0b1a"), looks := true }, kinds := [], alts := [], laidByText := true, laidKinds := [.handle], laidTests := true, laidLooks := .later }
def FnExactNatTickUptoCardSaid : Prop := Claim7.holds Tryz.pinned (.plain (OpenSpec.upto fnExactNatTickSpec)) fnExactNatTickUptoCard

/-- THE SECOND FORM's CARD OF 'laws.FnExactNatBoard'. -/
def fnExactNatBoardUptoCard : Claim7 := { stood := { row := fnExactNatBoardUptoRow, standIns := [], harness := (true, "af1904a18436bfa23e6e9741095385ab16508542859c02d3570d2bb0021a0b1a"), looks := true }, kinds := [], alts := [], laidByText := true, laidKinds := [.data, .data, .data], laidTests := true, laidLooks := .later }
def FnExactNatBoardUptoCardSaid : Prop := Claim7.holds Tryz.pinned (.plain (OpenSpec.upto fnExactNatBoardSpec)) fnExactNatBoardUptoCard
end Rows
end Go.Proofs.YtcgjpmhjijmplabGreatDoor
