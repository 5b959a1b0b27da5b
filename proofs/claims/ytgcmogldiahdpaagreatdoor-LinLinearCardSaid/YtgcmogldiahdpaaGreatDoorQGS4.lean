/- A copy of a list of numbers; the walk of the law. -/
import Derived.Test.YtgcmogldiahdpaaGreatDoorQGS2
import Derived.ArgAppend
namespace Go.Proofs.YtgcmogldiahdpaaGreatDoor
open Go.RowKit Fm

/-- The cells of a list of pairs. -/
def flat : List (Int × Int) → List Value
  | [] => []
  | p :: ps => .int .i64 p.1 :: .int .i64 p.2 :: flat ps
theorem flat_length (xs : List (Int × Int)) : (flat xs).length = xs.length * 2 := by
  induction xs with
  | nil => rfl
  | cons p ps ih => simp only [flat, List.length_cons, ih]; omega
theorem flat_get (xs : List (Int × Int)) (i : Nat) (hi : i < xs.length) : (flat xs)[i * 2]? = some (.int .i64 xs[i].1) ∧ (flat xs)[i * 2 + 1]? = some (.int .i64 xs[i].2) := by
  induction xs generalizing i with
  | nil => simp at hi
  | cons p ps ih =>
    cases i with
    | zero => exact ⟨rfl, rfl⟩
    | succ i =>
      have h := ih i (by simpa using hi)
      have e1 : (i + 1) * 2 = i * 2 + 1 + 1 := by omega
      rw [e1]
      simpa [flat] using h
theorem flat_cells {w : World} {b off : Nat} {xs : List (Int × Int)} (h : RdN w (some ⟨b, off, none⟩) xs) (j : Nat) (u : Value) (hj : (flat xs)[j]? = some u) : w.cell? ⟨b, off + j, none⟩ = some u := by
  have hl : j < (flat xs).length := by
    rcases Nat.lt_or_ge j (flat xs).length with h1 | h1
    · exact h1
    · rw [List.getElem?_eq_none h1] at hj; cases hj
  rw [flat_length] at hl
  have hi : j / 2 < xs.length := by omega
  obtain ⟨b', off', hA, hb, hc⟩ := h (by intro e; subst e; simp at hi)
  cases hA
  have h1 := hc (j / 2) hi
  have h2 := flat_get xs (j / 2) hi
  rcases Nat.mod_two_eq_zero_or_one j with hm | hm
  · have e : j / 2 * 2 = j := by omega
    rw [e] at h1 h2
    rw [h2.1] at hj
    rw [← Option.some.inj hj]
    exact h1.1
  · have e : j / 2 * 2 + 1 = j := by omega
    rw [e] at h2
    rw [Nat.add_assoc, e] at h1
    rw [h2.2] at hj
    rw [← Option.some.inj hj]
    exact h1.2
theorem owns_rdN {w : World} {base : Nat} {v : Value} {xs : List (Int × Int)} (h : w.ownsRow base 23 2 v xs.length (flat xs)) : ∃ B d, v = .slice B xs.length d ∧ xs.length ≤ d ∧ d ≤ maxLen ∧ RdN w B xs := by
  obtain ⟨hl, h⟩ := h
  rcases h with ⟨rfl, hn⟩ | ⟨g, cap, cur, rfl, hb, hg, hle, hcm, hsz, htk⟩
  · obtain rfl : xs = [] := List.eq_nil_of_length_eq_zero hn
    exact ⟨none, 0, rfl, Nat.le_refl _, Nat.zero_le _, fun h => absurd rfl h⟩
  · refine ⟨some ⟨g, 0, none⟩, cap, rfl, hle, hcm, fun _ => ⟨g, 0, rfl, ?_, fun i hi => ?_⟩⟩
    · rcases Nat.lt_or_ge g w.heap.size with hlt | hge
      · exact hlt
      · rw [Array.getElem?_eq_none hge] at hg; cases hg
    · have h2 := flat_get xs i hi
      rw [← htk] at h2
      rw [List.getElem?_take_of_lt (by omega), List.getElem?_take_of_lt (by omega)] at h2
      rw [cell_of_row w g _ _ _ _ hg, cell_of_row w g _ _ _ _ hg]
      simpa using h2
end Go.Proofs.YtgcmogldiahdpaaGreatDoor
namespace Go.Proofs.YtgcmogldiahdpaaGreatDoor
open Go.RowKit Fm

end Go.Proofs.YtgcmogldiahdpaaGreatDoor
