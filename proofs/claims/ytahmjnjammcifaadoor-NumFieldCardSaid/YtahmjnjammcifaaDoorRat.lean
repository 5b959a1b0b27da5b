import Derived.Test.YtahmjnjammcifaaDoorInt7
namespace Go.Proofs.YtahmjnjammcifaaDoor
open Go.RowKit Fm

theorem new_pos {top low : Int} (h : 0 < low) : top.tdiv (Int.gcd top low : Nat) = (Rat.divInt top low).num ∧ low.tdiv (Int.gcd top low : Nat) = ((Rat.divInt top low).den : Int) := by
  have h1 : ((Int.gcd top low : Nat) : Int) ∣ top := Int.gcd_dvd_left ..
  have h2 : ((Int.gcd top low : Nat) : Int) ∣ low := Int.gcd_dvd_right ..
  constructor
  · rw [Rat.num_divInt, Int.sign_eq_one_of_pos h, Int.one_mul, Int.gcd_comm low top, Int.tdiv_eq_ediv_of_dvd h1]
  · rw [Rat.den_divInt, if_neg (by omega), Int.gcd_comm low top, Int.tdiv_eq_ediv_of_dvd h2, Int.natCast_ediv]
    congr 1; omega

theorem new_neg {top low : Int} (h : low < 0) : top.tdiv (-(Int.gcd top low : Nat)) = (Rat.divInt top low).num ∧ low.tdiv (-(Int.gcd top low : Nat)) = ((Rat.divInt top low).den : Int) := by
  have h1 : ((Int.gcd top low : Nat) : Int) ∣ top := Int.gcd_dvd_left ..
  have h2 : ((Int.gcd top low : Nat) : Int) ∣ low := Int.gcd_dvd_right ..
  constructor
  · rw [Rat.num_divInt, Int.sign_eq_neg_one_of_neg h, Int.neg_one_mul, Int.gcd_comm low top, Int.tdiv_neg, Int.tdiv_eq_ediv_of_dvd h1, Int.neg_ediv_of_dvd h1]
  · rw [Rat.den_divInt, if_neg (by omega), Int.gcd_comm low top, Int.tdiv_neg, Int.tdiv_eq_ediv_of_dvd h2, Int.natCast_ediv, ← Int.neg_ediv_of_dvd h2]
    congr 1; omega

theorem rat_plus (a b : Rat) :
    (a + b).num = (a.num * ((b.den / a.den.gcd b.den : Nat) : Int) + b.num * ((a.den / a.den.gcd b.den : Nat) : Int)) / (((a.num * ((b.den / a.den.gcd b.den : Nat) : Int) + b.num * ((a.den / a.den.gcd b.den : Nat) : Int)).natAbs.gcd (a.den.gcd b.den) : Nat) : Int) ∧
    (a + b).den = a.den / (a.num * ((b.den / a.den.gcd b.den : Nat) : Int) + b.num * ((a.den / a.den.gcd b.den : Nat) : Int)).natAbs.gcd (a.den.gcd b.den) * (b.den / a.den.gcd b.den) := by
  have haux := Rat.add.aux a b (g := a.den.gcd b.den) rfl rfl rfl
  obtain ⟨x, hx⟩ : a.den.gcd b.den ∣ a.den := Nat.gcd_dvd_left _ _
  obtain ⟨y, hy⟩ : a.den.gcd b.den ∣ b.den := Nat.gcd_dvd_right _ _
  have ha0 := a.den_nz
  have hb0 := b.den_nz
  have hg : 0 < a.den.gcd b.den := Nat.gcd_pos_of_pos_left _ (by omega)
  have hax : a.den / a.den.gcd b.den = x := by conv => lhs; lhs; rw [hx]
                                               exact Nat.mul_div_cancel_left _ hg
  have hby : b.den / a.den.gcd b.den = y := by conv => lhs; lhs; rw [hy]
                                               exact Nat.mul_div_cancel_left _ hg
  simp only [hax, hby] at haux ⊢
  generalize a.den.gcd b.den = g at *
  have hT : a + b = Rat.normalize (a.num * (y : Int) + b.num * (x : Int)) (x * b.den) (by
      rw [hy]; intro h
      rcases Nat.mul_eq_zero.1 h with h | h
      · rw [h] at hx; omega
      · omega) := by
    rw [Rat.add_def, Rat.normalize_eq_mkRat, Rat.normalize_eq_mkRat, Rat.mkRat_eq_iff (by rw [ne_eq, Nat.mul_eq_zero]; omega) (by
      rw [ne_eq, Nat.mul_eq_zero]; rintro (h | h)
      · rw [h] at hx; omega
      · omega)]
    rw [hx, hy]
    push_cast
    grind
  generalize a.num * (y : Int) + b.num * (x : Int) = top at *
  rw [hT, Rat.normalize_eq]
  refine ⟨by simp only [haux], ?_⟩
  simp only
  rw [← haux]
  obtain ⟨d, hd⟩ : top.natAbs.gcd g ∣ g := Nat.gcd_dvd_right _ _
  generalize top.natAbs.gcd g = e at *
  have he : 0 < e := by rcases Nat.eq_zero_or_pos e with h | h; · rw [h] at hd; omega
                        · exact h
  rw [hx, hy]
  have e1 : x * (g * y) = e * (d * x * y) := by rw [hd]; grind
  have e2 : g * x = e * (d * x) := by rw [hd]; grind
  rw [e1, e2, Nat.mul_div_cancel_left _ he, Nat.mul_div_cancel_left _ he]

theorem rat_sub (a b : Rat) : a - b = a + (-b) := Rat.sub_eq_add_neg a b
theorem rat_mul (a b : Rat) : a * b = Rat.divInt (a.num * b.num) (a.den * b.den) := by
  conv => lhs; rw [← Rat.num_divInt_den a, ← Rat.num_divInt_den b]
  rw [Rat.divInt_mul_divInt]
theorem rat_div (a b : Rat) : a / b = Rat.divInt (a.num * b.den) (a.den * b.num) := by
  rw [Rat.div_def, Rat.inv_def]
  conv => lhs; lhs; rw [← Rat.num_divInt_den a]
  rw [Rat.divInt_mul_divInt]
end Go.Proofs.YtahmjnjammcifaaDoor
