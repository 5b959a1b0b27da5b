/- Walks of a law. -/
import Derived.Test.YtgcmogldiahdpaaGreatDoorGTxt7
namespace Go.Proofs.YtgcmogldiahdpaaGreatDoor
open Go.RowKit Fm

/-- The variable that strings.Cut looks at. -/
def MaxC (w : World) : Prop := ∃ m : Int, 0 < w.heap.size ∧ w.cell? ⟨0, 0, none⟩ = some (.int .i64 m)
theorem MaxC.up {w w' : World} (h : MaxC w) (hu : Up w w') : MaxC w' := by
  obtain ⟨m, h0, h1⟩ := h
  exact ⟨m, Nat.lt_of_lt_of_le h0 hu.size, (hu.cells.1 _ _ h0).trans h1⟩
theorem dig_of_long {ds : List UInt8} (h : longOk ds = true) : ds.all isDig = true := by
  unfold longOk at h
  rw [Bool.and_eq_true] at h
  exact h.2
theorem unsig_le (bs : List UInt8) : (unsig bs).length ≤ bs.length := by unfold unsig; split <;> simp
theorem top_le (us : List UInt8) : (topOf us).length ≤ us.length := (List.takeWhile_sublist _).length_le
theorem low_le (us : List UInt8) (h : us.length ≤ 400) : (lowOf us).length ≤ 400 := by
  unfold lowOf
  split
  · have := (List.dropWhile_sublist (l := us) notSl).length_le; simp; omega
  · decide
def parseQ (bs : List UInt8) : Rat := Rat.divInt (if isNeg bs then -(val10 0 (topOf (unsig bs)) : Int) else (val10 0 (topOf (unsig bs)) : Int)) (val10 0 (lowOf (unsig bs)) : Nat)
def badForm (us : List UInt8) : Bool := !longOk (topOf us) || !longOk (lowOf us) || val10 0 (lowOf us) == 0
def limOut (q : Rat) : Int × Int × Int := (if fits q then q.num else 0, if fits q then (q.den : Int) else 0, if fits q then 0 else 3)
def parseOut (bs : List UInt8) : Int × Int × Int :=
  if badForm (unsig bs) = true then (0, 0, 4) else if 200 < bs.length then (0, 0, 3) else limOut (parseQ bs)

set_option maxHeartbeats 4000000 in
theorem numParse_any (bs : List UInt8) (w : World) (hl : bs.length ≤ 400) (ht : Tab w) (hm : MaxC w) :
    Calls Tryz.prog 14 #[.string ⟨bs.toArray⟩] w fun e w' => e = .returned (.tuple #[.agg #[.int .i64 (parseOut bs).1, .int .i64 (parseOut bs).2.1], .int .i64 (parseOut bs).2.2]) ∧ Up w w' := by
  have l1 := unsig_le bs
  have l2 := top_le (unsig bs)
  have l3 := low_le (unsig bs) (by omega)
  have HCP : Hid (∀ W, Up w W → Calls Tryz.prog 60 #[.string ⟨bs.toArray⟩, .string ⟨#[45]⟩] W fun e w' => e = .returned (.tuple #[.string ⟨(unsig bs).toArray⟩, .bool (isNeg bs)]) ∧ Up W w') :=
    Lib.hid fun W _ => (Tryz.strings_CutPrefix ⟨bs.toArray⟩ ⟨#[45]⟩ W).mono fun e w' ⟨h1, h2⟩ => ⟨by rw [h1, ← trimPrefix_neg, ← hasPrefix_neg], by rw [h2]; exact Up.refl _⟩
  have HCUT : ∀ W, Up w W → Calls Tryz.prog 61 #[.string ⟨(unsig bs).toArray⟩, .string ⟨#[47]⟩] W fun e w' => e = .returned (.tuple #[.string ⟨(Go.Lib.cut (unsig bs) [47]).1.toArray⟩, .string ⟨(Go.Lib.cut (unsig bs) [47]).2.1.toArray⟩, .bool (Go.Lib.cut (unsig bs) [47]).2.2]) ∧ Up W w' := fun W hu => by
    obtain ⟨m, -, h1⟩ := hm.up hu
    exact (Tryz.strings_Cut ⟨(unsig bs).toArray⟩ ⟨#[47]⟩ m W (by show (unsig bs).toArray.size < _; simp; omega) h1).mono fun e w' ⟨h1, n, h2⟩ => ⟨h1, by rw [h2]; exact Up.drewN _ _⟩
  rw [cut_sl] at HCUT
  unfold parseOut badForm parseQ limOut
  generalize unsig bs = us at *
  have hlt : (topOf us).length ≤ 400 := by omega
  have hll : (lowOf us).length ≤ 400 := by omega
  have HI1 := fun W => isDigits_any (topOf us) W hlt
  have HI2 := fun W => isDigits_any (lowOf us) W hll
  have HTZ := fun W => trimZ_any (lowOf us) W hll
  rcases hh : hasLow us with _ | _
  · rw [hh] at HCUT
    have HCU : Hid (∀ W, Up w W → Calls Tryz.prog 61 #[.string ⟨us.toArray⟩, .string ⟨#[47]⟩] W fun e w' => e = .returned (.tuple #[.string ⟨(topOf us).toArray⟩, .string ⟨#[]⟩, .bool false]) ∧ Up W w') :=
      Lib.hid fun W hu => by rw [top_all us hh]; exact HCUT W hu
    have hlow : lowOf us = [49] := by unfold lowOf; rw [hh]; rfl
    rw [hlow] at HI2 HTZ hll l3 ⊢
    rcases ht1 : longOk (topOf us) with _ | _
    · rw [if_pos (by simp)]
      exact parse_n_top bs us (topOf us) (isNeg bs) w HCP HCU (Lib.hid fun W hu => ht1 ▸ HI1 W)
    rcases ht2 : longOk [49] with _ | _
    · rw [if_pos (by simp)]
      exact parse_n_low bs us (topOf us) (isNeg bs) w HCP HCU (Lib.hid fun W hu => ht1 ▸ HI1 W) (Lib.hid fun W hu => ht2 ▸ HI2 W)
    have hd1 := dig_of_long ht1
    have hd2 := dig_of_long ht2
    have hz := trim_zero _ hd2
    by_cases h0 : val10 0 [49] = 0
    · rw [if_pos (by simp [h0])]
      exact parse_n_zero _ (by rw [hz]; simpa using h0) bs us (topOf us) (isNeg bs) w HCP HCU (Lib.hid fun W hu => ht1 ▸ HI1 W) (Lib.hid fun W hu => ht2 ▸ HI2 W) (Lib.hid fun W hu => HTZ W)
    have hz' : (Go.Lib.trimS [49] [48]).isEmpty = false := by rw [hz]; simpa using h0
    rw [if_neg (by simp [h0])]
    by_cases h1 : 200 < bs.length
    · rw [if_pos h1]
      exact parse_n_long _ bs us (topOf us) (isNeg bs) w HCP HCU (Lib.hid fun W hu => ht1 ▸ HI1 W) (Lib.hid fun W hu => ht2 ▸ HI2 W) (Lib.hid fun W hu => HTZ W) hz' h1
    rw [if_neg h1]
    have hv1 := bl_val10 (val10_lt _ hd1)
    have hv2 := bl_val10 (val10_lt _ hd2)
    rcases hn : isNeg bs with _ | _
    · rw [hn] at HCP
      exact parse_n_p _ (val10 0 (topOf us) : Nat) (val10 0 [49] : Nat) _ _ _ _ bs us (topOf us) w HCP HCU (Lib.hid fun W hu => ht1 ▸ HI1 W) (Lib.hid fun W hu => ht2 ▸ HI2 W) (Lib.hid fun W hu => HTZ W)
        (Lib.hid fun W hu => decimal_any _ W hd1 hlt) (Lib.hid fun W hu => decimal_any _ W hd2 hll)
        (Lib.hid fun W u1 u2 hu k1 k2 => fracNew_any u1 u2 _ _ W k1 k2 (by omega) (by omega) (by omega) (ht.up hu))
        (Lib.hid fun W u k => limited_any u _ W k) hz' h1
    · rw [hn] at HCP
      exact parse_n_m _ (val10 0 (topOf us) : Nat) (val10 0 [49] : Nat) _ _ _ _ bs us (topOf us) w HCP HCU (Lib.hid fun W hu => ht1 ▸ HI1 W) (Lib.hid fun W hu => ht2 ▸ HI2 W) (Lib.hid fun W hu => HTZ W)
        (Lib.hid fun W hu => decimal_any _ W hd1 hlt) (Lib.hid fun W hu => decimal_any _ W hd2 hll)
        (Lib.hid fun W u1 u2 hu k1 k2 => fracNew_any u1 u2 _ _ W k1 k2 (by omega) (by unfold bl at *; rw [Int.natAbs_neg]; omega) (by omega) (ht.up hu))
        (Lib.hid fun W u k => limited_any u _ W k) hz' h1
  · rw [hh] at HCUT
    have hlow : lowOf us = (us.dropWhile notSl).drop 1 := by unfold lowOf; rw [hh]; rfl
    have HCU : Hid (∀ W, Up w W → Calls Tryz.prog 61 #[.string ⟨us.toArray⟩, .string ⟨#[47]⟩] W fun e w' => e = .returned (.tuple #[.string ⟨(topOf us).toArray⟩, .string ⟨(lowOf us).toArray⟩, .bool true]) ∧ Up W w') :=
      Lib.hid fun W hu => by rw [hlow]; exact HCUT W hu
    rcases ht1 : longOk (topOf us) with _ | _
    · rw [if_pos (by simp)]
      exact parse_f_top bs us (topOf us) (lowOf us) (isNeg bs) w HCP HCU (Lib.hid fun W hu => ht1 ▸ HI1 W)
    rcases ht2 : longOk (lowOf us) with _ | _
    · rw [if_pos (by simp)]
      exact parse_f_low bs us (topOf us) (lowOf us) (isNeg bs) w HCP HCU (Lib.hid fun W hu => ht1 ▸ HI1 W) (Lib.hid fun W hu => ht2 ▸ HI2 W)
    have hd1 := dig_of_long ht1
    have hd2 := dig_of_long ht2
    have hz := trim_zero _ hd2
    by_cases h0 : val10 0 (lowOf us) = 0
    · rw [if_pos (by simp [h0])]
      exact parse_f_zero _ (by rw [hz]; simpa using h0) bs us (topOf us) (lowOf us) (isNeg bs) w HCP HCU (Lib.hid fun W hu => ht1 ▸ HI1 W) (Lib.hid fun W hu => ht2 ▸ HI2 W) (Lib.hid fun W hu => HTZ W)
    have hz' : (Go.Lib.trimS (lowOf us) [48]).isEmpty = false := by rw [hz]; simpa using h0
    rw [if_neg (by simp [h0])]
    by_cases h1 : 200 < bs.length
    · rw [if_pos h1]
      exact parse_f_long _ bs us (topOf us) (lowOf us) (isNeg bs) w HCP HCU (Lib.hid fun W hu => ht1 ▸ HI1 W) (Lib.hid fun W hu => ht2 ▸ HI2 W) (Lib.hid fun W hu => HTZ W) hz' h1
    rw [if_neg h1]
    have hv1 := bl_val10 (val10_lt _ hd1)
    have hv2 := bl_val10 (val10_lt _ hd2)
    rcases hn : isNeg bs with _ | _
    · rw [hn] at HCP
      exact parse_f_p _ (val10 0 (topOf us) : Nat) (val10 0 (lowOf us) : Nat) _ _ _ _ bs us (topOf us) (lowOf us) w HCP HCU (Lib.hid fun W hu => ht1 ▸ HI1 W) (Lib.hid fun W hu => ht2 ▸ HI2 W) (Lib.hid fun W hu => HTZ W)
        (Lib.hid fun W hu => decimal_any _ W hd1 hlt) (Lib.hid fun W hu => decimal_any _ W hd2 hll)
        (Lib.hid fun W u1 u2 hu k1 k2 => fracNew_any u1 u2 _ _ W k1 k2 (by omega) (by omega) (by omega) (ht.up hu))
        (Lib.hid fun W u k => limited_any u _ W k) hz' h1
    · rw [hn] at HCP
      exact parse_f_m _ (val10 0 (topOf us) : Nat) (val10 0 (lowOf us) : Nat) _ _ _ _ bs us (topOf us) (lowOf us) w HCP HCU (Lib.hid fun W hu => ht1 ▸ HI1 W) (Lib.hid fun W hu => ht2 ▸ HI2 W) (Lib.hid fun W hu => HTZ W)
        (Lib.hid fun W hu => decimal_any _ W hd1 hlt) (Lib.hid fun W hu => decimal_any _ W hd2 hll)
        (Lib.hid fun W u1 u2 hu k1 k2 => fracNew_any u1 u2 _ _ W k1 k2 (by omega) (by unfold bl at *; rw [Int.natAbs_neg]; omega) (by omega) (ht.up hu))
        (Lib.hid fun W u k => limited_any u _ W k) hz' h1
end Go.Proofs.YtgcmogldiahdpaaGreatDoor
