/- Contracts of the reference implementation: rounding. -/
import Derived.Test.YtgcmogldiahdpaaGreatDoorQGQ
namespace Go.Proofs.YtgcmogldiahdpaaGreatDoor
open Go.RowKit Fm

end Go.Proofs.YtgcmogldiahdpaaGreatDoor
namespace Go.Proofs.YtgcmogldiahdpaaGreatDoor
open Go.RowKit Fm

end Go.Proofs.YtgcmogldiahdpaaGreatDoor
