/- The exact laws of chapter 2, walked: FnExactNatBookOk, FnExactNatInside. -/
import Derived.Test.YtcgjpmhjijmplabGreatDoorLaws5
import Derived.Test.YtcgjpmhjijmplabGreatDoorBook
namespace Go.Proofs.YtcgjpmhjijmplabGreatDoor
open Go.ChangeShapes Go.WideShapes Go.ChangeAt Go.RowKit Go.Maps

end Go.Proofs.YtcgjpmhjijmplabGreatDoor
