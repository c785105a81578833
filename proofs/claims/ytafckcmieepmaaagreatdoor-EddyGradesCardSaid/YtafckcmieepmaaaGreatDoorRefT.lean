/- The reference's texts; law01.Is. -/
import Derived.Test.YtafckcmieepmaaaGreatDoorRefN
import Derived.Test.YtafckcmieepmaaaGreatDoorTextA
import Derived.Test.YtafckcmieepmaaaGreatDoorRefF
namespace Go.Proofs.YtafckcmieepmaaaGreatDoor
namespace R3
open Go.RowKit Go.Sort D3 D10
end R3
end Go.Proofs.YtafckcmieepmaaaGreatDoor
namespace Go.Proofs.YtafckcmieepmaaaGreatDoor
namespace R3
open Go.RowKit Go.Sort D3 Fr
end R3
end Go.Proofs.YtafckcmieepmaaaGreatDoor
namespace Go.Proofs.YtafckcmieepmaaaGreatDoor
open Go.RowKit Go.Sort Fr
end Go.Proofs.YtafckcmieepmaaaGreatDoor
