/- Contract of the coefficients of a form. -/
import Derived.Test.YtgcmogldiahdpaaGreatDoorQHG
import Derived.Test.YtgcmogldiahdpaaGreatDoorQGS2
import Derived.ArgAppend
namespace Go.Proofs.YtgcmogldiahdpaaGreatDoor
open Go.RowKit Fm
end Go.Proofs.YtgcmogldiahdpaaGreatDoor
