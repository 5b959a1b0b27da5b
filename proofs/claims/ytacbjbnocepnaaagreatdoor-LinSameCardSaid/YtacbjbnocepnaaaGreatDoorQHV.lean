/- Contracts of the comparison of systems of equations. -/
import Derived.Test.YtacbjbnocepnaaaGreatDoorQHC
import Derived.Test.YtacbjbnocepnaaaGreatDoorQGG
import Derived.Test.YtacbjbnocepnaaaGreatDoorQHE
import Derived.Test.YtacbjbnocepnaaaGreatDoorQHF
namespace Go.Proofs.YtacbjbnocepnaaaGreatDoor
open Go.RowKit Fm
end Go.Proofs.YtacbjbnocepnaaaGreatDoor
namespace Go.Proofs.YtacbjbnocepnaaaGreatDoor
open Go.RowKit Fm
theorem SysB.len {w : World} {g n : Nat} {S : Sys} (h : SysB w g n S) : S.length = 10 := by
  obtain ⟨arr, -, -, -, h1, -⟩ := h
  exact h1
end Go.Proofs.YtacbjbnocepnaaaGreatDoor
namespace Go.Proofs.YtacbjbnocepnaaaGreatDoor
open Go.RowKit Fm
end Go.Proofs.YtacbjbnocepnaaaGreatDoor
namespace Go.Proofs.YtacbjbnocepnaaaGreatDoor
open Go.RowKit Fm
theorem SysV.up {w w' : World} {arr : Array Value} {n : Nat} {S : Sys} (h : SysV w arr n S) (hu : Up w w') : SysV w' arr n S := by
  refine ⟨h.1, h.2.1, h.2.2.1, fun c hc => ?_⟩
  obtain ⟨A, m, k, e1, e2⟩ := h.2.2.2 c hc
  refine ⟨A, m, k, e1, fun g hg => (e2 g (Nat.le_trans hu.size hg)).up hu⟩
end Go.Proofs.YtacbjbnocepnaaaGreatDoor
