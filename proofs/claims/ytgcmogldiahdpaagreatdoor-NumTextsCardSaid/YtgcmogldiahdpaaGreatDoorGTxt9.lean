/- Walks of a law. -/
import Derived.Test.YtgcmogldiahdpaaGreatDoorGTxt8
namespace Go.Proofs.YtgcmogldiahdpaaGreatDoor
open Go.RowKit Fm

theorem decDigits_le (k : Nat) : ∀ n : Nat, n < 10 ^ (k + 1) → (Go.Lib.decDigits n).length ≤ k + 1 := by
  induction k with
  | zero =>
    intro n h
    rw [Go.Lib.decDigits]
    have h1 : n < 10 := by omega
    rw [dif_pos h1]
    decide +revert
  | succ k ih =>
    intro n h
    rw [Go.Lib.decDigits]
    split
    · simp
    · rw [List.length_append]
      have h2 : n / 10 < 10 ^ (k + 1) := by
        rw [Nat.div_lt_iff_lt_mul (by omega), ← Nat.pow_succ]
        exact h
      have := ih _ h2
      simp only [List.length_cons, List.length_nil]
      omega
theorem divInt_low (x y : Int) (hy : 1 ≤ y) (hg : Int.gcd x y = 1) : (Rat.divInt x y).num = x ∧ ((Rat.divInt x y).den : Int) = y := by
  obtain ⟨n, rfl⟩ : ∃ n : Nat, y = n := ⟨y.toNat, by omega⟩
  have hn : n ≠ 0 := by omega
  have hc : x.natAbs.Coprime n := hg
  have e : (⟨x, n, hn, hc⟩ : Rat) = Rat.divInt x n := Rat.mk_eq_divInt ..
  rw [← e]
  exact ⟨rfl, rfl⟩
theorem longOk_dec (n : Nat) : longOk (Go.Lib.decDigits n) = true := by
  obtain ⟨h1, -, h3⟩ := decDigits_dig n
  unfold longOk
  rw [h1]
  simp [h3]
theorem abs_sgn (x : Int) : (if decide (x < 0) = true then -((x.natAbs : Nat) : Int) else ((x.natAbs : Nat) : Int)) = x := by
  by_cases h : x < 0
  · rw [if_pos (by simpa using h)]; omega
  · rw [if_neg (by simpa using h)]; omega
theorem limOut_low (x y : Int) (h : okNum x y = true) : limOut (Rat.divInt x y) = (x, y, 0) := by
  unfold okNum at h
  simp only [decide_eq_true_eq] at h
  obtain ⟨h1, h2, h3, h4, h5⟩ := h
  obtain ⟨e1, e2⟩ := divInt_low x y h1 h5
  have hf : fits (Rat.divInt x y) = true := by
    unfold fits within
    rw [e1, e2]
    simp
    omega
  unfold limOut
  rw [hf, if_pos rfl, if_pos rfl, if_pos rfl, e1, e2]
theorem txt_len (x y : Int) (h : okNum x y = true) : (txtOf x y).length ≤ 200 := by
  unfold okNum at h
  simp only [decide_eq_true_eq] at h
  have a := decDigits_le 19 x.natAbs (by omega)
  have b := decDigits_le 19 y.natAbs (by omega)
  have i : ∀ z : Int, (Go.Lib.itoa z).length ≤ (Go.Lib.decDigits z.natAbs).length + 1 := by
    intro z
    unfold Go.Lib.itoa
    split
    · simp
    · have : z.toNat = z.natAbs := by omega
      rw [this]; omega
  have ix := i x
  have iy := i y
  unfold txtOf
  split
  · omega
  · simp only [List.length_append, List.length_cons]; omega
theorem parse_print (x y : Int) (h : okNum x y = true) : parseOut (txtOf x y) = (x, y, 0) := by
  have hl := txt_len x y h
  have hlim := limOut_low x y h
  unfold okNum at h
  simp only [decide_eq_true_eq] at h
  unfold parseOut
  have hy : Go.Lib.itoa y = Go.Lib.decDigits y.natAbs := by
    unfold Go.Lib.itoa
    rw [if_neg (by omega)]
    congr 1; omega
  by_cases h1 : y = 1
  · have e : txtOf x y = Go.Lib.itoa x ++ [] := by unfold txtOf; rw [if_pos h1, List.append_nil]
    obtain ⟨n1, n2⟩ := itoa_neg x []
    rw [← e] at n1 n2
    rw [List.append_nil] at n2
    obtain ⟨c1, c2, c3⟩ := cut_one x.natAbs
    have hb : badForm (unsig (txtOf x y)) = false := by
      rw [n2]; unfold badForm; rw [c2, c3, longOk_dec]; rfl
    have hq : parseQ (txtOf x y) = Rat.divInt x y := by
      unfold parseQ
      rw [n1, n2, c2, c3, (decDigits_dig _).2.1, abs_sgn, h1]
      rfl
    rw [hb, hq, if_neg (by simp), if_neg (by omega), hlim]
  · have e : txtOf x y = Go.Lib.itoa x ++ 47 :: Go.Lib.decDigits y.natAbs := by unfold txtOf; rw [if_neg h1, hy]
    obtain ⟨n1, n2⟩ := itoa_neg x (47 :: Go.Lib.decDigits y.natAbs)
    rw [← e] at n1 n2
    obtain ⟨c1, c2, c3⟩ := cut_two x.natAbs y.natAbs
    have hv := (decDigits_dig y.natAbs).2.1
    have hb : badForm (unsig (txtOf x y)) = false := by
      rw [n2]; unfold badForm; rw [c2, c3, longOk_dec, longOk_dec, hv]
      simp
      omega
    have hq : parseQ (txtOf x y) = Rat.divInt x y := by
      unfold parseQ
      rw [n1, n2, c2, c3, hv, (decDigits_dig _).2.1, abs_sgn]
      congr 1
      omega
    rw [hb, hq, if_neg (by simp), if_neg (by omega), hlim]
end Go.Proofs.YtgcmogldiahdpaaGreatDoor
