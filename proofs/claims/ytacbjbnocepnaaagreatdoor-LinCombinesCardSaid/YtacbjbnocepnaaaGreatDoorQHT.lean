/- Contract of the zero row of the reference implementation; plain facts about sums of rows. -/
import Derived.Test.YtacbjbnocepnaaaGreatDoorQHS
import Derived.Test.YtacbjbnocepnaaaGreatDoorQHN
namespace Go.Proofs.YtacbjbnocepnaaaGreatDoor
open Go.RowKit Fm
end Go.Proofs.YtacbjbnocepnaaaGreatDoor
namespace Go.Proofs.YtacbjbnocepnaaaGreatDoor
open Go.RowKit Fm
theorem lim_rl {y : Int} (h : limI y = true) : rl y ≤ 3 := by
  simp only [limI, decide_eq_true_eq] at h
  exact rl_int (by omega) (by omega)
end Go.Proofs.YtacbjbnocepnaaaGreatDoor
