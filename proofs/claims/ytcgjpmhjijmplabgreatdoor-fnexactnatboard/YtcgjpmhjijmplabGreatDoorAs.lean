/- errors.As at a refusal of the program's own: it is hit at once. The entries of the model for internal/reflectlite as closed facts at this dump's numbers; three of them read or write memory. -/
import Derived.Test.YtcgjpmhjijmplabGreatDoorBase
import Derived.LaidEql
import Derived.Stop.Asserts
import Derived.RowKitTokens
namespace Go.Proofs.YtcgjpmhjijmplabGreatDoor
open Go.RowKit Go.Extern.Stop Go.Stop Go.Extern

end Go.Proofs.YtcgjpmhjijmplabGreatDoor
