/- Walks of a law. -/
import Derived.Test.YtgcmogldiahdpaaGreatDoorQHJ
import Derived.Test.YtgcmogldiahdpaaGreatDoorQGComb2
namespace Go.Proofs.YtgcmogldiahdpaaGreatDoor
open Go.RowKit Fm
theorem lcmR_dvd (qs : List Nat) : ∀ l m, lcmR l qs ∣ m ↔ l ∣ m ∧ ∀ q, q ∈ qs → q ∣ m := by
  induction qs with
  | nil => intro l m; simp [lcmR]
  | cons q qs ih =>
    intro l m
    rw [lcmR, ih, Nat.lcm_dvd_iff]
    simp [and_assoc]
theorem dvd_gcdR_mul (r : List Int) (k L : Nat) (h : ∀ z, z ∈ r → k ∣ z.natAbs * L) : ∀ g, k ∣ g * L → k ∣ gcdR g r * L := by
  induction r with
  | nil => exact fun g hg => hg
  | cons x xs ih =>
    refine fun g hg => ih (fun z hz => h z (List.mem_cons_of_mem _ hz)) _ ?_
    rw [← Nat.gcd_mul_right]
    exact Nat.dvd_gcd hg (h x (List.mem_cons_self ..))
theorem rat_cross {s : Rat} {k : Nat} {g : Int} (h : s * k = g) : s.num * k = g * s.den := by
  have hd : (s.den : Int) ≠ 0 := by have := s.den_nz; omega
  rw [← Rat.num_divInt_den s, show ((k : Nat) : Rat) = Rat.divInt (k : Int) 1 from int_divInt k, show ((g : Int) : Rat) = Rat.divInt g 1 from int_divInt g, Rat.divInt_mul_divInt, Rat.divInt_eq_divInt_iff (by simpa using hd) (by decide)] at h
  simpa using h
/-- A list of fractions over one denominator k, in two ways: each in lowest terms over the least common denominator, and all divided by their common divisor. -/
theorem comb_alike (k : Nat) (hk : 0 < k) (ps : List (Rat × Int)) (h : ∀ p, p ∈ ps → p.1 * k = p.2) :
    lcmR 1 (ps.map (·.1.den)) = k / gcdR k (ps.map (·.2)) ∧ ∀ p, p ∈ ps → p.1.num * ((lcmR 1 (ps.map (·.1.den)) / p.1.den : Nat) : Int) = p.2.tdiv (gcdR k (ps.map (·.2)) : Nat) := by
  generalize hD : gcdR k (ps.map (·.2)) = D
  have hDk : D ∣ k := hD ▸ gcdR_dvd_left _ _
  have hD0 : 0 < D := Nat.pos_of_dvd_of_pos hDk hk
  have hDg : ∀ p, p ∈ ps → (D : Int) ∣ p.2 := fun p hp => hD ▸ gcdR_dvd _ _ _ (List.mem_map_of_mem hp)
  obtain ⟨k', rfl⟩ := hDk
  have hkd : D * k' / D = k' := Nat.mul_div_cancel_left _ hD0
  have hcr : ∀ p, p ∈ ps → p.1.num * k' = p.2.tdiv D * p.1.den := fun p hp => by
    have h1 := rat_cross (h p hp)
    obtain ⟨g', hg'⟩ := hDg p hp
    have h3 : p.2.tdiv D = g' := by rw [hg', Int.mul_tdiv_cancel_left _ (by omega)]
    rw [h3]
    rw [hg', Int.natCast_mul] at h1
    refine Int.eq_of_mul_eq_mul_left (a := (D : Int)) (by omega) ?_
    rw [← Int.mul_assoc, ← Int.mul_assoc, ← h1, Int.mul_left_comm, Int.mul_assoc]
  have hden : ∀ p, p ∈ ps → p.1.den ∣ k' := fun p hp => by
    have h1 := hcr p hp
    have h2 : (p.1.den : Int) ∣ p.1.num * k' := ⟨_, h1.trans (Int.mul_comm _ _)⟩
    have h3 : p.1.den ∣ p.1.num.natAbs * k' := by
      have := Int.natAbs_dvd_natAbs.2 h2
      rwa [Int.natAbs_natCast, Int.natAbs_mul, Int.natAbs_natCast] at this
    exact (Nat.Coprime.symm p.1.reduced).dvd_of_dvd_mul_left h3
  have hL : lcmR 1 (ps.map (·.1.den)) = k' := by
    apply Nat.dvd_antisymm
    · rw [lcmR_dvd]
      refine ⟨Nat.one_dvd _, fun q hq => ?_⟩
      obtain ⟨p, hp, rfl⟩ := List.mem_map.1 hq
      exact hden p hp
    · have h1 : D * k' ∣ D * lcmR 1 (ps.map (·.1.den)) := by
        conv => rhs; rw [← hD]
        refine dvd_gcdR_mul _ _ _ (fun z hz => ?_) _ (Nat.dvd_mul_right _ _)
        obtain ⟨p, hp, rfl⟩ := List.mem_map.1 hz
        have h2 : p.1.den ∣ lcmR 1 (ps.map (·.1.den)) := ((lcmR_dvd _ 1 _).1 (Nat.dvd_refl _)).2 _ (List.mem_map_of_mem (f := fun p : Rat × Int => p.1.den) hp)
        obtain ⟨u, hu⟩ := h2
        have h3 := congrArg Int.natAbs (rat_cross (h p hp))
        rw [Int.natAbs_mul, Int.natAbs_mul, Int.natAbs_natCast, Int.natAbs_natCast] at h3
        rw [hu, ← Nat.mul_assoc, ← h3, Nat.mul_right_comm]
        exact Nat.dvd_mul_left _ _
      exact Nat.dvd_of_mul_dvd_mul_left hD0 h1
  rw [hL, hkd]
  refine ⟨rfl, fun p hp => ?_⟩
  obtain ⟨u, hu⟩ := hden p hp
  have hd0 : 0 < p.1.den := Nat.pos_of_ne_zero p.1.den_nz
  have h1 := hcr p hp
  rw [hu, Nat.mul_div_cancel_left _ hd0]
  rw [hu, Int.natCast_mul] at h1
  refine Int.eq_of_mul_eq_mul_left (a := (p.1.den : Int)) (by omega) ?_
  rw [Int.mul_left_comm, h1, Int.mul_comm]
end Go.Proofs.YtgcmogldiahdpaaGreatDoor
