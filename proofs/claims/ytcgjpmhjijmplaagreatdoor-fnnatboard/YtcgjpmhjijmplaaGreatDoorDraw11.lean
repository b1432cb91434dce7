/- Draws: the specification's l5InFlow at every book, walked. -/
import Derived.Test.YtcgjpmhjijmplaaGreatDoorDraw10
namespace Go.Proofs.YtcgjpmhjijmplaaGreatDoor
open Go.ChangeShapes Go.WideShapes Go.ChangeAt Go.RowKit

end Go.Proofs.YtcgjpmhjijmplaaGreatDoor
