/- Contract of the reference implementation's search by continued fractions. -/
import Derived.Test.YtgcmogldiahdpaaGreatDoorQGQ
import Derived.Test.YtgcmogldiahdpaaGreatDoorQGI
import Derived.Test.YtgcmogldiahdpaaGreatDoorQGH
import Derived.Test.YtgcmogldiahdpaaGreatDoorQGP2
import Derived.Test.YtgcmogldiahdpaaGreatDoorQGQ2
import Derived.Test.YtgcmogldiahdpaaGreatDoorQGI3
namespace Go.Proofs.YtgcmogldiahdpaaGreatDoor
open Go.RowKit Fm

theorem CellR.frozen6 {w : World} {g : Nat} {s s2 : Int} {b b2 : Bool} {v v2 : Value} (h : CellR w g s b v s2 b2 v2) : w.frozen? ⟨g, 0, none⟩ = false ∧ w.frozen? ⟨g, 1, none⟩ = false ∧ w.frozen? ⟨g, 2, none⟩ = false ∧ w.frozen? ⟨g, 3, none⟩ = false ∧ w.frozen? ⟨g, 4, none⟩ = false ∧ w.frozen? ⟨g, 5, none⟩ = false :=
  ⟨h.frozen 0, h.frozen 1, h.frozen 2, h.frozen 3, h.frozen 4, h.frozen 5⟩
theorem RQ.put6 {w : World} {u : Value} {q : Rat} (h : RQ w u q) {g : Nat} {s s2 : Int} {b b2 : Bool} {A A2 : Option Addr} {n c n2 c2 : Nat} (hg : CellR w g s b (.slice A n c) s2 b2 (.slice A2 n2 c2)) (x y t x2 y2 t2 : Value) : RQ (put6 w g x y t x2 y2 t2) u q := by
  obtain ⟨s7, s8, g7, g8, A7, A8, n7, k7, n8, k8, he, h1, h2⟩ := h
  exact ⟨s7, s8, g7, g8, A7, A8, n7, k7, n8, k8, he, h1.put6 hg _ _ _ _ _ _, h2.put6 hg _ _ _ _ _ _⟩

end Go.Proofs.YtgcmogldiahdpaaGreatDoor
namespace Go.Proofs.YtgcmogldiahdpaaGreatDoor
open Go.RowKit Fm

theorem int_divInt (n : Int) : (n : Rat) = Rat.divInt n 1 := (Rat.num_divInt_den (n : Rat)).symm
theorem ratOf_one (n : Int) : ratOf n 1 = (n : Rat) := by
  unfold ratOf; exact (int_divInt n).symm
theorem int_QB {n : Int} (h1 : -9223372036854775808 ≤ n) (h2 : n ≤ 9223372036854775807) : QB (n : Rat) 3 :=
  ⟨rl_int h1 h2, rl_int (z := ((n : Rat).den : Int)) (by show (-9223372036854775808 : Int) ≤ 1; omega) (by show (1 : Int) ≤ 9223372036854775807; omega)⟩
end Go.Proofs.YtgcmogldiahdpaaGreatDoor
