import Derived.Test.YtahmjnjammcifaaDoorDig6
import Derived.Lib.TrailingZeros
import Derived.Lib.BitFns
import Derived.Test.YtahmjnjammcifaaDoorShelf
namespace Go.Proofs.YtahmjnjammcifaaDoor
open Go.RowKit Fm

/-- Go's table for TrailingZeros32 lies where its variable is. -/
def Tab (w : World) : Prop := 0 < w.heap.size ∧ ∀ i, i < 32 → w.cell? ⟨0, i, none⟩ = some (.int .u8 (Go.Lib.deBruijn32tab.getD i 0 : Nat))
theorem Tab.up {w w' : World} (h : Tab w) (hb : Up w w') : Tab w' := ⟨Nat.lt_of_lt_of_le h.1 hb.size, fun i hi => (hb.cells.1 _ _ h.1).trans (h.2 i hi)⟩

theorem deb_cast (P : Nat) : ((P : Int) * 125613361 % 4294967296 / 134217728).toNat = P * 125613361 % 4294967296 / 134217728 := by
  have e : (P : Int) * 125613361 % 4294967296 / 134217728 = ((P * 125613361 % 4294967296 / 134217728 : Nat) : Int) := by simp
  rw [e, Int.toNat_natCast]
theorem pow32 : (2 : Nat) ^ 32 = 4294967296 := by decide
theorem tz32_any (x : Nat) (w : World) (h : x < 4294967296) (h0 : x ≠ 0) (ht : Tab w) :
    Calls Tryd.prog 115 #[.int .u32 x] w fun e w' => e = .returned (.int .i64 (Go.Lib.ctz 32 x)) ∧ w = w' := by
  have hx0 : ((x : Int) == 0) = false := by simp; omega
  have hl := Go.Lib.lowest_bit 32 x h0 h
  have hd := Go.Lib.deBruijn32_at _ hl.2
  have hb : bits .and .u32 (x : Int) (-(x : Int) % 4294967296) = ((2 ^ Go.Lib.ctz 32 x : Nat) : Int) := by
    rw [← hl.1]
    have e : -(x : Int) % 4294967296 = ((2 ^ 32 - x : Nat) : Int) := by omega
    rw [e, and_u32, BitVec.ofInt_natCast, BitVec.ofInt_natCast, BitVec.toNat_and, BitVec.toNat_ofNat, BitVec.toNat_ofNat, Nat.mod_eq_of_lt h, Nat.mod_eq_of_lt (by omega : 2 ^ 32 - x < 2 ^ 32)]
  generalize 2 ^ Go.Lib.ctz 32 x = P at *
  generalize Go.Lib.ctz 32 x = k at *
  have hc : w.cell? ⟨0, (bits .and .u32 (x : Int) (-(x : Int) % 4294967296) * 125613361 % 4294967296 / 134217728).toNat, none⟩ = some (.int .u8 (k : Nat)) := by
    have := ht.2 _ hd.1
    rw [hd.2] at this
    rw [hb, deb_cast, this]
  have hk := hl.2
  clear hl hd hb ht
  go_enter Tryd.func115, Tryd.ntmps115
  go_wp2
  go_ret
  exact ⟨rfl, rfl⟩

/-- How often 2 divides n. -/
def twos (n : Nat) : Nat := if h : 0 < n ∧ n % 2 = 0 then twos (n / 2) + 1 else 0
termination_by n
decreasing_by omega
theorem twos_odd (k m : Nat) : twos (2 ^ k * (2 * m + 1)) = k := by
  induction k with
  | zero => rw [twos, dif_neg (by simp)]
  | succ k ih =>
    have h0 : 0 < 2 ^ k * (2 * m + 1) := Nat.mul_pos (Nat.two_pow_pos k) (by omega)
    have e : 2 ^ (k + 1) * (2 * m + 1) = 2 * (2 ^ k * (2 * m + 1)) := by rw [Nat.pow_succ, Nat.mul_comm (2 ^ k) 2, Nat.mul_assoc]
    rw [twos, e, dif_pos (by omega), Nat.mul_div_cancel_left _ (by omega), ih]
theorem twos_spec (n : Nat) (h : 0 < n) : ∃ m, n = 2 ^ twos n * (2 * m + 1) := by
  induction n using Nat.strongRecOn with
  | ind n ih =>
    by_cases he : n % 2 = 0
    · obtain ⟨m, hm⟩ := ih (n / 2) (by omega) (by omega)
      refine ⟨m, ?_⟩
      have e : twos n = twos (n / 2) + 1 := by rw [twos, dif_pos ⟨h, he⟩]
      rw [e, Nat.pow_succ, Nat.mul_comm (2 ^ _) 2, Nat.mul_assoc, ← hm]; omega
    · refine ⟨n / 2, ?_⟩
      have e : twos n = 0 := by rw [twos, dif_neg (by omega)]
      rw [e]; omega
theorem ctz_twos (x : Nat) (h : x < 4294967296) (h0 : x ≠ 0) (V : Nat) : twos (x + 4294967296 * V) = Go.Lib.ctz 32 x := by
  obtain ⟨m, hm, hk⟩ := Go.Lib.ctzFrom_spec 32 x (by omega) h
  have e : Go.Lib.ctz 32 x = Go.Lib.ctzFrom 32 x := by simp [Go.Lib.ctz, h0]
  rw [e]
  generalize Go.Lib.ctzFrom 32 x = k at *
  obtain ⟨d, hd⟩ : ∃ d, 32 = k + (d + 1) := ⟨31 - k, by omega⟩
  have e2 : x + 4294967296 * V = 2 ^ k * (2 * (m + 2 ^ d * V) + 1) := by
    have h2 : 4294967296 = 2 ^ k * (2 ^ d * 2) := by rw [← Nat.pow_succ, ← Nat.pow_add, ← hd, pow32]
    rw [hm, h2]
    generalize 2 ^ k = P
    generalize 2 ^ d = Q
    grind
  rw [e2, twos_odd]
theorem twos_shift (k n : Nat) (h : 0 < n) : twos (2 ^ k * n) = k + twos n := by
  obtain ⟨m, hm⟩ := twos_spec n h
  rw [hm, ← Nat.mul_assoc, ← Nat.pow_add, twos_odd, ← hm]

end Go.Proofs.YtahmjnjammcifaaDoor
