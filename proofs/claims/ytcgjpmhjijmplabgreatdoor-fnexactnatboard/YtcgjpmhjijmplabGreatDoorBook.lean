/- The program's NatBookOk and NatInside answer as the models. -/
import Derived.Test.YtcgjpmhjijmplabGreatDoorEqual
namespace Go.Proofs.YtcgjpmhjijmplabGreatDoor
open Go.ChangeShapes Go.WideShapes Go.ChangeAt Go.RowKit

theorem implBook_ret (ad ln ow lo hi nw : Int) (da : Option Addr) (dn dc : Nat) (ea : Option Addr) (en ec : Nat) (ds : List Dr) (es : List En) (w : World) (hD : DoorsAt w da dn ds) (hE : EntriesAt w ea en es) :
    Calls Tryz.prog 42 #[.agg #[.int .i64 ad, .int .i64 ln, .int .i64 ow, .int .i64 lo, .int .i64 hi, .slice da dn dc, .int .i64 nw, .slice ea en ec]] w fun e w' => e = .returned (.bool (bookB ad ln ow lo hi nw ds es)) ∧ Below w.heap.size w w' := by
  rw [← ibook_eq]
  exact implBookOk_ret ad ln ow lo hi nw da dn dc ea en ec ds es w hD hE
end Go.Proofs.YtcgjpmhjijmplabGreatDoor
