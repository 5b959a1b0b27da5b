/- Contracts of the sum of products. -/
import Derived.Test.YtgcmogldiahdpaaGreatDoorQGS
import Derived.Deep.RegionHeld3
import Derived.IntWalk
namespace Go.Proofs.YtgcmogldiahdpaaGreatDoor
open Go.RowKit Fm
end Go.Proofs.YtgcmogldiahdpaaGreatDoor
namespace Go.Proofs.YtgcmogldiahdpaaGreatDoor
open Go.RowKit Fm

end Go.Proofs.YtgcmogldiahdpaaGreatDoor
