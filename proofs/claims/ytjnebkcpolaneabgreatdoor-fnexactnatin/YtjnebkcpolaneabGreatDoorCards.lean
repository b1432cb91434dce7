/-
  DERIVED. GIVEN WITH THE SEED: THE CARDS: each row of YtjnebkcpolaneabGreatDoorRows.lean that lists a variable, with what it lists TIED to the program's text (the seventh form; the later family's looks); each row that meets fmt, with fmt's text TOLD by the authors' own Lean function (tested against real Go, not proved from fmt's source: count such statements apart). THE CARD IS WHAT COUNTS. Prove the row's statement (the work); the ties are given (YtjnebkcpolaneabGreatDoorTie.lean); close each card by the builder's one call (the guide's Derived/Test/ToyasCard.lean, 'card_holds'). Laid BY PROGRAM, IN A SANDBOX (cutbox-door.mjs). By AI agents, Wed Nov 11 2026. No macro, syntax, notation, axiom, sorry.
-/
import Derived.Test.YtjnebkcpolaneabGreatDoorRows
import GoSem.ClaimSeven
namespace Go.Proofs.YtjnebkcpolaneabGreatDoor
namespace Rows

/-- THE TIED CARD OF 'laws.FnExactNatIn'. -/
def fnExactNatInCard : Claim7 := { stood := { row := fnExactNatInRow, standIns := [], harness := (true, "4f996d61858fb0e9916d96b72a04138039f2ccb4235b3eb2785bc542d6cf65de"), looks := true }, kinds := [], alts := [], laidByText := true, laidKinds := [.handle], laidTests := true, laidLooks := .later }
def FnExactNatInCardSaid : Prop := Claim7.holds Tryz.pinned (.plain (OpenSpec.ofChange fnExactNatInSpec)) fnExactNatInCard

/-- THE TIED CARD OF 'laws.FnExactNatTick'. -/
def fnExactNatTickCard : Claim7 := { stood := { row := fnExactNatTickRow, standIns := [], harness := (true, "4f996d61858fb0e9916d96b72a04138039f2ccb4235b3eb2785bc542d6cf65de"), looks := true }, kinds := [], alts := [], laidByText := true, laidKinds := [.handle], laidTests := true, laidLooks := .later }
def FnExactNatTickCardSaid : Prop := Claim7.holds Tryz.pinned (.plain (OpenSpec.ofChange fnExactNatTickSpec)) fnExactNatTickCard

/-- THE SECOND FORM's CARD OF 'laws.FnExactNatIn'. -/
def fnExactNatInUptoCard : Claim7 := { stood := { row := fnExactNatInUptoRow, standIns := [], harness := (true, "4f996d61858fb0e9916d96b72a04138039f2ccb4235b3eb2785bc542d6cf65de"), looks := true }, kinds := [], alts := [], laidByText := true, laidKinds := [.handle], laidTests := true, laidLooks := .later }
def FnExactNatInUptoCardSaid : Prop := Claim7.holds Tryz.pinned (.plain (OpenSpec.upto fnExactNatInSpec)) fnExactNatInUptoCard

/-- THE SECOND FORM's CARD OF 'laws.FnExactNatTick'. -/
def fnExactNatTickUptoCard : Claim7 := { stood := { row := fnExactNatTickUptoRow, standIns := [], harness := (true, "4f996d61858fb0e9916d96b72a04138039f2ccb4235b3eb2785bc542d6cf65de"), looks := true }, kinds := [], alts := [], laidByText := true, laidKinds := [.handle], laidTests := true, laidLooks := .later }
def FnExactNatTickUptoCardSaid : Prop := Claim7.holds Tryz.pinned (.plain (OpenSpec.upto fnExactNatTickSpec)) fnExactNatTickUptoCard
end Rows
end Go.Proofs.YtjnebkcpolaneabGreatDoor
