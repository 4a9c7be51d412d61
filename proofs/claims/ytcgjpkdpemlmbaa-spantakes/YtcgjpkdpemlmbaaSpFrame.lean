/- What every law's last step shares: arguments that read as they did. -/
import Derived.Test.YtcgjpkdpemlmbaaSpHor
import Derived.Test.YtcgjpkdpemlmbaaFrame
import Derived.ProofKit
import Derived.OpenShut
import Derived.ShutString
import Derived.ChangeOld
import Derived.Below
import Derived.SizedLaws
namespace Go.Proofs.Ytcgjpkdpemlmbaa
open Go.ChangeShapes Go.WideShapes Go.ChangeAt Go.RowKit

end Go.Proofs.Ytcgjpkdpemlmbaa
