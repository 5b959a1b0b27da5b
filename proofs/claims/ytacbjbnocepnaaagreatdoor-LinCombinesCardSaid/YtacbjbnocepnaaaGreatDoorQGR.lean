/- Contract of the reference implementation's search by continued fractions. -/
import Derived.Test.YtacbjbnocepnaaaGreatDoorQGQ
import Derived.Test.YtacbjbnocepnaaaGreatDoorQGH
import Derived.Test.YtacbjbnocepnaaaGreatDoorQGP
namespace Go.Proofs.YtacbjbnocepnaaaGreatDoor
open Go.RowKit Fm
end Go.Proofs.YtacbjbnocepnaaaGreatDoor
namespace Go.Proofs.YtacbjbnocepnaaaGreatDoor
open Go.RowKit Fm
theorem refWhole_q (n : Int) (w : World) (h1 : -9223372036854775808 ≤ n) (h2 : n ≤ 9223372036854775807) :
    Calls Tryz.prog 24 #[.int .i64 n] w fun e w' => ∃ v, e = .returned v ∧ RQ w' v (n : Rat) ∧ Up w w' := refWhole_any n w h1 h2
end Go.Proofs.YtacbjbnocepnaaaGreatDoor
