/- Walks of a law. -/
import Derived.Test.YtgcmogldiahdpaaGreatDoorGTxt6
namespace Go.Proofs.YtgcmogldiahdpaaGreatDoor
open Go.RowKit Fm

theorem val10_zero (ds : List UInt8) (h : ds.all isDig = true) : (ds.all ([48].contains ·) = true) ↔ val10 0 ds = 0 := by
  induction ds with
  | nil => exact ⟨fun _ => rfl, fun _ => rfl⟩
  | cons b bs ih =>
    simp only [List.all_cons, Bool.and_eq_true] at h
    have hb : 48 ≤ b.toNat := by have := h.1; unfold isDig at this; simp only [decide_eq_true_eq] at this; exact this.1
    have e : val10 0 (b :: bs) = (b.toNat - 48) * 10 ^ bs.length + val10 0 bs := by
      show val10 (10 * 0 + (b.toNat - 48)) bs = _
      rw [val10_shift]
      congr 2
      omega
    have hp : 0 < 10 ^ bs.length := Nat.pow_pos (by omega)
    have hc : (List.contains [(48 : UInt8)] b = true) ↔ b.toNat - 48 = 0 := by
      constructor
      · intro hh
        have : b = 48 := by simpa using hh
        subst this; rfl
      · intro hh
        have h1 : b.toNat = (48 : UInt8).toNat := by show b.toNat = 48; omega
        have h2 : b = 48 := UInt8.toNat_inj.1 h1
        subst h2; rfl
    rw [List.all_cons, Bool.and_eq_true, e, ih h.2, hc]
    constructor
    · rintro ⟨h1, h2⟩; rw [h1, h2, Nat.zero_mul]
    · intro hh
      rw [Nat.add_eq_zero_iff, Nat.mul_eq_zero] at hh
      exact ⟨hh.1.resolve_right (by omega), hh.2⟩
theorem trim_zero (ds : List UInt8) (h : ds.all isDig = true) : (Go.Lib.trimS ds [48]).isEmpty = decide (val10 0 ds = 0) := by
  rw [Bool.eq_iff_iff, List.isEmpty_iff, trimS_nil, val10_zero ds h, decide_eq_true_eq]
theorem trimZ_any (ds : List UInt8) (w : World) (hl : ds.length ≤ 400) :
    Calls Tryz.prog 63 #[.string ⟨ds.toArray⟩, .string ⟨#[48]⟩] w fun e w' => e = .returned (.string ⟨(Go.Lib.trimS ds [48]).toArray⟩) ∧ Up w w' :=
  Any.strings_Trim_laid (P := Tryz.prog) Tryz.lays160 (by kernel_rfl) ⟨ds.toArray⟩ ⟨#[48]⟩ w (by show ds.toArray.size ≤ _; simp; omega) (by decide) (ascii_of_all (by decide))
theorem dig_char (k : Nat) (h : k < 10) : isDig (UInt8.ofNat (48 + k)) = true ∧ (UInt8.ofNat (48 + k)).toNat - 48 = k := by
  have hh : ∀ k : Fin 10, isDig (UInt8.ofNat (48 + k.val)) = true ∧ (UInt8.ofNat (48 + k.val)).toNat - 48 = k.val := by decide +kernel
  exact hh ⟨k, h⟩
theorem decDigits_dig (n : Nat) : (Go.Lib.decDigits n).all isDig = true ∧ val10 0 (Go.Lib.decDigits n) = n ∧ Go.Lib.decDigits n ≠ [] := by
  induction n using Nat.strongRecOn with
  | ind n ih =>
    obtain ⟨h1, h2⟩ := dig_char (n % 10) (Nat.mod_lt _ (by omega))
    rw [Go.Lib.decDigits]
    split
    · rename_i h
      rw [Nat.mod_eq_of_lt h] at h1 h2
      refine ⟨by rw [List.all_cons, h1]; rfl, ?_, by simp⟩
      show 10 * 0 + ((UInt8.ofNat (48 + n)).toNat - 48) = n
      rw [h2]
      omega
    · rename_i h
      obtain ⟨i1, i2, i3⟩ := ih (n / 10) (by omega)
      refine ⟨by rw [List.all_append, i1, List.all_cons, h1]; rfl, ?_, by simp⟩
      rw [val10_append, i2]
      show 10 * (n / 10) + ((UInt8.ofNat (48 + n % 10)).toNat - 48) = n
      rw [h2]
      omega
theorem decDigits_notSl (n : Nat) : (Go.Lib.decDigits n).all notSl = true := by
  have h := (decDigits_dig n).1
  rw [List.all_eq_true] at h ⊢
  intro b hb
  have hd := h b hb
  unfold isDig at hd
  simp only [decide_eq_true_eq] at hd
  unfold notSl
  have hne : b ≠ 47 := by
    intro e
    subst e
    exact absurd hd.1 (by decide)
  simp [hne]
theorem decDigits_notNeg (n : Nat) (r : List UInt8) : isNeg (Go.Lib.decDigits n ++ r) = false := by
  obtain ⟨h, -, h3⟩ := decDigits_dig n
  rcases hd : Go.Lib.decDigits n with _ | ⟨b, t⟩
  · exact absurd hd h3
  · rw [hd] at h
    simp only [List.all_cons, Bool.and_eq_true] at h
    have hb := h.1
    unfold isDig at hb
    simp only [decide_eq_true_eq] at hb
    have hne : b ≠ 45 := by
      intro e
      subst e
      exact absurd hb.1 (by decide)
    show (b == 45) = false
    simpa using hne
/-- The parts of the text of x over y. -/
theorem itoa_neg (x : Int) (r : List UInt8) : isNeg (Go.Lib.itoa x ++ r) = decide (x < 0) ∧ unsig (Go.Lib.itoa x ++ r) = Go.Lib.decDigits x.natAbs ++ r := by
  by_cases h : x < 0
  · have e : Go.Lib.itoa x = 45 :: Go.Lib.decDigits x.natAbs := by unfold Go.Lib.itoa; rw [if_pos h]
    have e1 : isNeg (Go.Lib.itoa x ++ r) = true := by rw [e]; rfl
    refine ⟨by rw [e1]; simp [h], ?_⟩
    unfold unsig
    rw [e1, if_pos rfl, e]
    rfl
  · have e : Go.Lib.itoa x = Go.Lib.decDigits x.natAbs := by unfold Go.Lib.itoa; rw [if_neg h]; congr 1; omega
    have e1 : isNeg (Go.Lib.itoa x ++ r) = false := by rw [e]; exact decDigits_notNeg _ _
    refine ⟨by rw [e1]; simp [h], ?_⟩
    unfold unsig
    rw [e1, e]
    rfl
theorem cut_one (n : Nat) : hasLow (Go.Lib.decDigits n) = false ∧ topOf (Go.Lib.decDigits n) = Go.Lib.decDigits n ∧ lowOf (Go.Lib.decDigits n) = [49] := by
  have e : hasLow (Go.Lib.decDigits n) = false := by unfold hasLow; rw [decDigits_notSl]; rfl
  refine ⟨e, top_all _ e, by unfold lowOf; rw [e]; rfl⟩
theorem takeWhile_stop (xs ys : List UInt8) (h : xs.all notSl = true) : (xs ++ 47 :: ys).takeWhile notSl = xs ∧ (xs ++ 47 :: ys).dropWhile notSl = 47 :: ys := by
  induction xs with
  | nil => exact ⟨rfl, rfl⟩
  | cons a t ih =>
    simp only [List.all_cons, Bool.and_eq_true] at h
    obtain ⟨i1, i2⟩ := ih h.2
    rw [List.cons_append, List.takeWhile_cons, List.dropWhile_cons, if_pos h.1, if_pos h.1, i1, i2]
    exact ⟨rfl, rfl⟩
theorem cut_two (n m : Nat) : hasLow (Go.Lib.decDigits n ++ 47 :: Go.Lib.decDigits m) = true ∧ topOf (Go.Lib.decDigits n ++ 47 :: Go.Lib.decDigits m) = Go.Lib.decDigits n ∧ lowOf (Go.Lib.decDigits n ++ 47 :: Go.Lib.decDigits m) = Go.Lib.decDigits m := by
  obtain ⟨h1, h2⟩ := takeWhile_stop (Go.Lib.decDigits n) (Go.Lib.decDigits m) (decDigits_notSl n)
  have e : hasLow (Go.Lib.decDigits n ++ 47 :: Go.Lib.decDigits m) = true := by
    unfold hasLow
    rw [List.all_append, List.all_cons, show notSl 47 = false from rfl]
    simp
  refine ⟨e, h1, ?_⟩
  unfold lowOf
  rw [e, if_pos rfl, h2]
  rfl
end Go.Proofs.YtgcmogldiahdpaaGreatDoor
