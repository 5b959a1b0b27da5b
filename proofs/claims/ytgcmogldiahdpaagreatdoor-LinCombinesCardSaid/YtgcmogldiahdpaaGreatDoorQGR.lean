/- Contract of the reference implementation's search by continued fractions. -/
import Derived.Test.YtgcmogldiahdpaaGreatDoorQGQ
import Derived.Test.YtgcmogldiahdpaaGreatDoorQGI
import Derived.Test.YtgcmogldiahdpaaGreatDoorQGH
import Derived.Test.YtgcmogldiahdpaaGreatDoorQGP
namespace Go.Proofs.YtgcmogldiahdpaaGreatDoor
open Go.RowKit Fm

end Go.Proofs.YtgcmogldiahdpaaGreatDoor
namespace Go.Proofs.YtgcmogldiahdpaaGreatDoor
open Go.RowKit Fm

theorem int_divInt (n : Int) : (n : Rat) = Rat.divInt n 1 := (Rat.num_divInt_den (n : Rat)).symm
theorem ratOf_one (n : Int) : ratOf n 1 = (n : Rat) := by
  unfold ratOf; exact (int_divInt n).symm
end Go.Proofs.YtgcmogldiahdpaaGreatDoor
