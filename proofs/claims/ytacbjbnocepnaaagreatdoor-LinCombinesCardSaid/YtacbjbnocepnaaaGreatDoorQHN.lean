/- Plain facts about the least common denominator of a list of numbers. -/
import Derived.Test.YtacbjbnocepnaaaGreatDoorQHF
import Derived.Test.YtacbjbnocepnaaaGreatDoorQGQ
import Derived.Deep.RegionLawGrows
namespace Go.Proofs.YtacbjbnocepnaaaGreatDoor
open Go.RowKit Fm
theorem RowB.far {w : World} {g g' : Nat} {zs : List Int} (h : RowB w g zs) (hne : g ≠ g') (hd : ∀ j x : Nat, w.cell? ⟨g', j, none⟩ ≠ some (.int .u32 (x : Int))) (o1 o2 : Nat) (u v : Value) : RowB ((w.setCell ⟨g', o1, none⟩ u).setCell ⟨g', o2, none⟩ v) g zs := by
  obtain ⟨arr, h1, h2, h3⟩ := h
  refine ⟨arr, ((Below.heap_setCell _ ⟨g', o2, none⟩ v g hne).trans (Below.heap_setCell w ⟨g', o1, none⟩ u g hne)).trans h1, h2, fun i hi => ?_⟩
  obtain ⟨s, A, n, c, e1, e2, e3⟩ := h3 i hi
  exact ⟨s, A, n, c, e1, e2, e3.put hd o1 o2 u v⟩
end Go.Proofs.YtacbjbnocepnaaaGreatDoor
