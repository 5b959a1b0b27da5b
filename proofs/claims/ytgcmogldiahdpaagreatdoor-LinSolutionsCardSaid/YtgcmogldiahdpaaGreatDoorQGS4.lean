/- A copy of a list of numbers; the walk of the law. -/
import Derived.Test.YtgcmogldiahdpaaGreatDoorQGS2
import Derived.ArgAppend
namespace Go.Proofs.YtgcmogldiahdpaaGreatDoor
open Go.RowKit Fm

end Go.Proofs.YtgcmogldiahdpaaGreatDoor
namespace Go.Proofs.YtgcmogldiahdpaaGreatDoor
open Go.RowKit Fm

end Go.Proofs.YtgcmogldiahdpaaGreatDoor
