/-
  DERIVED. GIVEN WITH THE SEED: THE CARDS: each row of YtcgjpmhjijmplaaGreatDoorRows.lean that lists a variable, with what it lists TIED to the program's text (the seventh form; the later family's looks); each row that meets fmt, with fmt's text TOLD by the authors' own Lean function (tested against real Go, not proved from fmt's source: count such statements apart). THE CARD IS WHAT COUNTS. Prove the row's statement (the work); the ties are given (YtcgjpmhjijmplaaGreatDoorTie.lean); close each card by the builder's one call (the guide's Derived/Test/ToyasCard.lean, 'card_holds'). Laid BY PROGRAM, IN A SANDBOX (cutbox-door.mjs). By AI agents, Wed Nov 11 2026. No macro, syntax, notation, axiom, sorry.
-/
import Derived.Test.YtcgjpmhjijmplaaGreatDoorRows
import GoSem.ClaimSeven
namespace Go.Proofs.YtcgjpmhjijmplaaGreatDoor
namespace Rows

/-- THE TIED CARD OF 'laws.FnNatTop'. -/
def fnNatTopCard : Claim7 := { stood := { row := fnNatTopRow, standIns := [], harness := (true, "5019abc7ccebf9645505fdf744cda25a4c10491cdacb7233bcb958b146d2cd9c"), looks := true }, kinds := [], alts := [], laidByText := true, laidKinds := [.handle], laidTests := true, laidLooks := .later }
def FnNatTopCardSaid : Prop := Claim7.holds Tryz.pinned (.plain (OpenSpec.ofChange fnNatTopSpec)) fnNatTopCard

/-- THE TIED CARD OF 'laws.FnNatThere'. -/
def fnNatThereCard : Claim7 := { stood := { row := fnNatThereRow, standIns := [], harness := (true, "5019abc7ccebf9645505fdf744cda25a4c10491cdacb7233bcb958b146d2cd9c"), looks := true }, kinds := [], alts := [], laidByText := true, laidKinds := [.handle], laidTests := true, laidLooks := .later }
def FnNatThereCardSaid : Prop := Claim7.holds Tryz.pinned (.plain (OpenSpec.ofChange fnNatThereSpec)) fnNatThereCard

/-- THE TIED CARD OF 'laws.FnNatIn'. -/
def fnNatInCard : Claim7 := { stood := { row := fnNatInRow, standIns := [], harness := (true, "5019abc7ccebf9645505fdf744cda25a4c10491cdacb7233bcb958b146d2cd9c"), looks := true }, kinds := [], alts := [], laidByText := true, laidKinds := [.handle], laidTests := true, laidLooks := .later }
def FnNatInCardSaid : Prop := Claim7.holds Tryz.pinned (.plain (OpenSpec.ofChange fnNatInSpec)) fnNatInCard

/-- THE TIED CARD OF 'laws.FnNatOver'. -/
def fnNatOverCard : Claim7 := { stood := { row := fnNatOverRow, standIns := [], harness := (true, "5019abc7ccebf9645505fdf744cda25a4c10491cdacb7233bcb958b146d2cd9c"), looks := true }, kinds := [], alts := [], laidByText := true, laidKinds := [.handle], laidTests := true, laidLooks := .later }
def FnNatOverCardSaid : Prop := Claim7.holds Tryz.pinned (.plain (OpenSpec.ofChange fnNatOverSpec)) fnNatOverCard

/-- THE TIED CARD OF 'laws.FnNatOrder'. -/
def fnNatOrderCard : Claim7 := { stood := { row := fnNatOrderRow, standIns := [], harness := (true, "5019abc7ccebf9645505fdf744cda25a4c10491cdacb7233bcb958b146d2cd9c"), looks := true }, kinds := [], alts := [], laidByText := true, laidKinds := [.handle], laidTests := true, laidLooks := .later }
def FnNatOrderCardSaid : Prop := Claim7.holds Tryz.pinned (.plain (OpenSpec.ofChange fnNatOrderSpec)) fnNatOrderCard

/-- THE TIED CARD OF 'laws.FnNatBoard'. -/
def fnNatBoardCard : Claim7 := { stood := { row := fnNatBoardRow, standIns := [], harness := (true, "5019abc7ccebf9645505fdf744cda25a4c10491cdacb7233bcb958b146d2cd9c"), looks := true }, kinds := [], alts := [], laidByText := true, laidKinds := [.data, .data, .data], laidTests := true, laidLooks := .later }
def FnNatBoardCardSaid : Prop := Claim7.holds Tryz.pinned (.plain (OpenSpec.ofChange fnNatBoardSpec)) fnNatBoardCard

/-- THE TIED CARD OF 'laws.FnExactNatOut'. -/
def fnExactNatOutCard : Claim7 := { stood := { row := fnExactNatOutRow, standIns := [], harness := (true, "5019abc7ccebf9645505fdf744cda25a4c10491cdacb7233bcb958b146d2cd9c"), looks := true }, kinds := [], alts := [], laidByText := true, laidKinds := [.handle], laidTests := true, laidLooks := .later }
def FnExactNatOutCardSaid : Prop := Claim7.holds Tryz.pinned (.plain (OpenSpec.ofChange fnExactNatOutSpec)) fnExactNatOutCard

/-- THE SECOND FORM's CARD OF 'laws.FnNatTop'. -/
def fnNatTopUptoCard : Claim7 := { stood := { row := fnNatTopUptoRow, standIns := [], harness := (true, "5019abc7ccebf9645505fdf744cda25a4c10491cdacb7233bcb958b146d2cd9c"), looks := true }, kinds := [], alts := [], laidByText := true, laidKinds := [.handle], laidTests := true, laidLooks := .later }
def FnNatTopUptoCardSaid : Prop := Claim7.holds Tryz.pinned (.plain (OpenSpec.upto fnNatTopSpec)) fnNatTopUptoCard

/-- THE SECOND FORM's CARD OF 'laws.FnNatThere'. -/
def fnNatThereUptoCard : Claim7 := { stood := { row := fnNatThereUptoRow, standIns := [], harness := (true, "5019abc7ccebf9645505fdf744cda25a4c10491cdacb7233bcb958b146d2cd9c"), looks := true }, kinds := [], alts := [], laidByText := true, laidKinds := [.handle], laidTests := true, laidLooks := .later }
def FnNatThereUptoCardSaid : Prop := Claim7.holds Tryz.pinned (.plain (OpenSpec.upto fnNatThereSpec)) fnNatThereUptoCard

/-- THE SECOND FORM's CARD OF 'laws.FnNatIn'. -/
def fnNatInUptoCard : Claim7 := { stood := { row := fnNatInUptoRow, standIns := [], harness := (true, "5019abc7ccebf9645505fdf744cda25a4c10491cdacb7233bcb958b146d2cd9c"), looks := true }, kinds := [], alts := [], laidByText := true, laidKinds := [.handle], laidTests := true, laidLooks := .later }
def FnNatInUptoCardSaid : Prop := Claim7.holds Tryz.pinned (.plain (OpenSpec.upto fnNatInSpec)) fnNatInUptoCard

/-- THE SECOND FORM's CARD OF 'laws.FnNatOver'. -/
def fnNatOverUptoCard : Claim7 := { stood := { row := fnNatOverUptoRow, standIns := [], harness := (true, "5019abc7ccebf9645505fdf744cda25a4c10491cdacb7233bcb958b146d2cd9c"), looks := true }, kinds := [], alts := [], laidByText := true, laidKinds := [.handle], laidTests := true, laidLooks := .later }
def FnNatOverUptoCardSaid : Prop := Claim7.holds Tryz.pinned (.plain (OpenSpec.upto fnNatOverSpec)) fnNatOverUptoCard

/-- THE SECOND FORM's CARD OF 'laws.FnNatOrder'. -/
def fnNatOrderUptoCard : Claim7 := { stood := { row := fnNatOrderUptoRow, standIns := [], harness := (true, "5019abc7ccebf9645505fdf744cda25a4c10491cdacb7233bcb958b146d2cd9c"), looks := true }, kinds := [], alts := [], laidByText := true, laidKinds := [.handle], laidTests := true, laidLooks := .later }
def FnNatOrderUptoCardSaid : Prop := Claim7.holds Tryz.pinned (.plain (OpenSpec.upto fnNatOrderSpec)) fnNatOrderUptoCard

/-- THE SECOND FORM's CARD OF 'laws.FnNatBoard'. -/
def fnNatBoardUptoCard : Claim7 := { stood := { row := fnNatBoardUptoRow, standIns := [], harness := (true, "5019abc7ccebf9645505fdf744cda25a4c10491cdacb7233bcb958b146d2cd9c"), looks := true }, kinds := [], alts := [], laidByText := true, laidKinds := [.data, .data, .data], laidTests := true, laidLooks := .later }
def FnNatBoardUptoCardSaid : Prop := Claim7.holds Tryz.pinned (.plain (OpenSpec.upto fnNatBoardSpec)) fnNatBoardUptoCard

/-- THE SECOND FORM's CARD OF 'laws.FnExactNatOut'. -/
def fnExactNatOutUptoCard : Claim7 := { stood := { row := fnExactNatOutUptoRow, standIns := [], harness := (true, "5019abc7ccebf9645505fdf744cda25a4c10491cdacb7233bcb958b146d2cd9c"), looks := true }, kinds := [], alts := [], laidByText := true, laidKinds := [.handle], laidTests := true, laidLooks := .later }
def FnExactNatOutUptoCardSaid : Prop := Claim7.holds Tryz.pinned (.plain (OpenSpec.upto fnExactNatOutSpec)) fnExactNatOutUptoCard
end Rows
end Go.Proofs.YtcgjpmhjijmplaaGreatDoor
