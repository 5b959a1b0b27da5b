/- Contracts of the operations on numbers, and plain facts about the search by continued fractions. -/
import Derived.Test.YtgcmogldiahdpaaGreatDoorQGH
namespace Go.Proofs.YtgcmogldiahdpaaGreatDoor
open Go.RowKit Fm

end Go.Proofs.YtgcmogldiahdpaaGreatDoor
namespace Go.Proofs.YtgcmogldiahdpaaGreatDoor
open Go.RowKit Fm

end Go.Proofs.YtgcmogldiahdpaaGreatDoor
namespace Go.Proofs.YtgcmogldiahdpaaGreatDoor
open Go.RowKit Fm

end Go.Proofs.YtgcmogldiahdpaaGreatDoor
namespace Go.Proofs.YtgcmogldiahdpaaGreatDoor
open Go.RowKit Fm

end Go.Proofs.YtgcmogldiahdpaaGreatDoor
namespace Go.Proofs.YtgcmogldiahdpaaGreatDoor
open Go.RowKit Fm

end Go.Proofs.YtgcmogldiahdpaaGreatDoor
namespace Go.Proofs.YtgcmogldiahdpaaGreatDoor
open Go.RowKit Fm

theorem numE_zero {ok : Bool} {q : Rat} (h : numE ok q = 0) : ok = true ∧ fits q = true := by
  unfold numE at h
  cases ok
  · simp at h
  · cases hf : fits q
    · rw [hf] at h; simp at h
    · exact ⟨rfl, rfl⟩
theorem ratOf_self (q : Rat) : ratOf q.num q.den = q := Rat.num_divInt_den q
theorem okNum_of_fits {q : Rat} (h : fits q = true) : okNum q.num q.den = true := by
  unfold fits within at h
  simp only [Bool.and_eq_true, decide_eq_true_eq] at h
  have hd := q.den_nz
  have hr := q.reduced
  unfold okNum
  simp only [decide_eq_true_eq]
  refine ⟨by omega, h.2.2, h.1.1, h.1.2, ?_⟩
  rw [Int.gcd, Int.natAbs_natCast]
  exact hr
/-- An answer without an error is the fraction, as a number. -/
theorem num_answer {ok : Bool} {q : Rat} (h : numE ok q = 0) : numX ok q = q.num ∧ numY ok q = q.den ∧ okNum (numX ok q) (numY ok q) = true ∧ ratOf (numX ok q) (numY ok q) = q := by
  obtain ⟨h1, h2⟩ := numE_zero h
  have e1 : numX ok q = q.num := by simp [numX, h1, h2]
  have e2 : numY ok q = q.den := by simp [numY, h1, h2]
  rw [e1, e2]
  exact ⟨rfl, rfl, okNum_of_fits h2, ratOf_self q⟩
end Go.Proofs.YtgcmogldiahdpaaGreatDoor
namespace Go.Proofs.YtgcmogldiahdpaaGreatDoor
open Go.RowKit Fm

/-- Both integers are ints. -/
def Rng (x y : Int) : Prop := -9223372036854775808 ≤ x ∧ x ≤ 9223372036854775807 ∧ -9223372036854775808 ≤ y ∧ y ≤ 9223372036854775807
/-- What an operation on numbers answers. -/
def Ans (X Y E : Int) (ok : Bool) (q : Rat) : Prop := X = numX ok q ∧ Y = numY ok q ∧ E = numE ok q
theorem Ans.zero {X Y E : Int} {ok : Bool} {q : Rat} (h : Ans X Y E ok q) (h0 : E = 0) : ok = true ∧ okNum X Y = true ∧ ratOf X Y = q ∧ X = q.num ∧ Y = q.den := by
  obtain ⟨rfl, rfl, rfl⟩ := h
  obtain ⟨h1, h2, h3, h4⟩ := num_answer h0
  exact ⟨(numE_zero h0).1, h3, h4, h1, h2⟩
end Go.Proofs.YtgcmogldiahdpaaGreatDoor
namespace Go.Proofs.YtgcmogldiahdpaaGreatDoor
open Go.RowKit Fm

end Go.Proofs.YtgcmogldiahdpaaGreatDoor
namespace Go.Proofs.YtgcmogldiahdpaaGreatDoor
open Go.RowKit Fm

end Go.Proofs.YtgcmogldiahdpaaGreatDoor
