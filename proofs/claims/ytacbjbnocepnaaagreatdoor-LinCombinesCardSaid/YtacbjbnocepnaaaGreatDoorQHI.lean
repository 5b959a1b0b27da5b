/- Contracts of Value and Primitive. -/
import Derived.Test.YtacbjbnocepnaaaGreatDoorQHG
import Derived.Test.YtacbjbnocepnaaaGreatDoorQGS
import Derived.Deep.RegionHeld3
import Derived.IntWalk
import Derived.ArgAppend
import Derived.Deep.RegionLawGrows
namespace Go.Proofs.YtacbjbnocepnaaaGreatDoor
open Go.RowKit Fm
theorem znum_nod : ∀ u ∈ (Value.agg #[.int .i64 0, .int .i64 0]).cells.toList, NoDig u := by
  intro u hu
  simp [Value.cells] at hu
  subst hu
  exact NoDig.int _
theorem RdE.n {w : World} {A : Option Addr} {xs : List (Int × Int)} (h : RdE eltN w A xs) : RdN w A xs := fun hn => by
  obtain ⟨b, off, rfl, hb, hc⟩ := h hn
  refine ⟨b, off, rfl, hb, fun i hi => ?_⟩
  obtain ⟨cs, e, h2⟩ := hc i hi
  rw [show eltN.rel w none cs xs[i] = (cs = [.int .i64 xs[i].1, .int .i64 xs[i].2]) from rfl] at e
  subst e
  exact ⟨h2 0 _ rfl, h2 1 _ rfl⟩
theorem add_off (b off j : Nat) : (⟨b, off, none⟩ : Addr).add j = ⟨b, off + j, none⟩ := by
  by_cases h : j = 0
  · subst h; simp [Addr.add]
  · simp [Addr.add, h]
end Go.Proofs.YtacbjbnocepnaaaGreatDoor
namespace Go.Proofs.YtacbjbnocepnaaaGreatDoor
open Go.RowKit Fm
def primF (f : List Int × Int) : List Int × Int := ((primR (rowF f)).take f.1.length, (primR (rowF f)).getD f.1.length 0)
end Go.Proofs.YtacbjbnocepnaaaGreatDoor
