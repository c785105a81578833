/- law01.Brief: short numerators and denominators. -/
import Derived.Test.YtafckcmieepmaaaGreatDoorFrac2
import Derived.Test.YtafckcmieepmaaaGreatDoorLow
import Derived.Test.YtafckcmieepmaaaGreatDoorVmD
namespace Go.Proofs.YtafckcmieepmaaaGreatDoor
open Go.RowKit Go.Sort Dg Fr
def okP (m : Nat) (p : Int × Int) : Bool := decide (p.1.natAbs < 2 ^ m) && decide (p.2 < 2 ^ m)
end Go.Proofs.YtafckcmieepmaaaGreatDoor
