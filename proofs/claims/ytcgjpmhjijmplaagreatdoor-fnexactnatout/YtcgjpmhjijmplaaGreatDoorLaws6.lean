/- The exact laws of chapter 2, walked: FnExactNatBookOk, FnExactNatInside. -/
import Derived.Test.YtcgjpmhjijmplaaGreatDoorLaws5
import Derived.Test.YtcgjpmhjijmplaaGreatDoorBook
namespace Go.Proofs.YtcgjpmhjijmplaaGreatDoor
open Go.ChangeShapes Go.WideShapes Go.ChangeAt Go.RowKit Go.Maps

end Go.Proofs.YtcgjpmhjijmplaaGreatDoor
