/- Contracts of Between. -/
import Derived.Test.YtgcmogldiahdpaaGreatDoorQGI
namespace Go.Proofs.YtgcmogldiahdpaaGreatDoor
open Go.RowKit Fm

end Go.Proofs.YtgcmogldiahdpaaGreatDoor
namespace Go.Proofs.YtgcmogldiahdpaaGreatDoor
open Go.RowKit Fm

end Go.Proofs.YtgcmogldiahdpaaGreatDoor
