/- Contract of the reference implementation's Whole. -/
import Derived.Test.YtgcmogldiahdpaaGreatDoorQGP
namespace Go.Proofs.YtgcmogldiahdpaaGreatDoor
open Go.RowKit Fm

end Go.Proofs.YtgcmogldiahdpaaGreatDoor
