/- Contracts of Value and Primitive. -/
import Derived.Test.YtgcmogldiahdpaaGreatDoorQHH
import Derived.Test.YtgcmogldiahdpaaGreatDoorQGS4
import Derived.Deep.RegionLawGrows
import Derived.Deep.RegionHeld3
import Derived.Test.YtgcmogldiahdpaaGreatDoorQHG
namespace Go.Proofs.YtgcmogldiahdpaaGreatDoor
open Go.RowKit Fm
theorem RdE.n {w : World} {A : Option Addr} {xs : List (Int × Int)} (h : RdE eltN w A xs) : RdN w A xs := fun hn => by
  obtain ⟨b, off, rfl, hb, hc⟩ := h hn
  refine ⟨b, off, rfl, hb, fun i hi => ?_⟩
  obtain ⟨cs, e, h2⟩ := hc i hi
  rw [show eltN.rel w none cs xs[i] = (cs = [.int .i64 xs[i].1, .int .i64 xs[i].2]) from rfl] at e
  subst e
  exact ⟨h2 0 _ rfl, h2 1 _ rfl⟩
/-- The value of a form for a point, as a sum of products. -/
def valQ (f : List Int × Int) (xs : List (Int × Int)) : Rat := dotQ ((rowF f).map fun y => (y, (1 : Int))) (xs ++ [(1, 1)])
theorem okNum_one {y : Int} (h : limI y = true) : okNum y 1 = true := by
  simp only [limI, decide_eq_true_eq] at h
  simp only [okNum, decide_eq_true_eq]
  exact ⟨by omega, by omega, by omega, by omega, by simp⟩
end Go.Proofs.YtgcmogldiahdpaaGreatDoor
namespace Go.Proofs.YtgcmogldiahdpaaGreatDoor
open Go.RowKit Fm
end Go.Proofs.YtgcmogldiahdpaaGreatDoor
