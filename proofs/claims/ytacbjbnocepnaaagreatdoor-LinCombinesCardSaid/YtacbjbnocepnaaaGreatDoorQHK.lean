/- Contract of the reference implementation's sum of a value. -/
import Derived.Test.YtacbjbnocepnaaaGreatDoorQHJ
import Derived.Test.YtacbjbnocepnaaaGreatDoorQGR
namespace Go.Proofs.YtacbjbnocepnaaaGreatDoor
open Go.RowKit Fm
theorem RI.whole {w : World} {s s2 : Int} {b b2 : Bool} {A A2 : Option Addr} {n c n2 c2 : Nat} {x : Int} (h : RI w (.agg #[.int .i64 s, .bool b, .slice A n c]) x) (h1 : RI w (.agg #[.int .i64 s2, .bool b2, .slice A2 n2 c2]) 1) : RQ w (.agg #[.int .i64 s, .bool b, .slice A n c, .int .i64 s2, .bool b2, .slice A2 n2 c2]) (x : Rat) :=
  ⟨s, s2, b, b2, A, A2, n, c, n2, c2, rfl, by rw [Rat.num_intCast]; exact h, by rw [Rat.den_intCast]; exact h1⟩
end Go.Proofs.YtacbjbnocepnaaaGreatDoor
