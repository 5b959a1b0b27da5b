/- Contracts of lists of numbers: their validity, their equality; plain facts about sums of products. -/
import Derived.Test.YtacbjbnocepnaaaGreatDoorQGQ
import Derived.Test.YtacbjbnocepnaaaGreatDoorQGH
import Derived.Test.YtacbjbnocepnaaaGreatDoorQGR
namespace Go.Proofs.YtacbjbnocepnaaaGreatDoor
open Go.RowKit Fm
set_option maxHeartbeats 1000000 in
set_option maxRecDepth 10000 in
theorem refSame_any (A B : Option Addr) (c d : Nat) (xs : List (Int × Int)) (w : World) (hc : xs.length ≤ c) (hcm : c ≤ maxLen) (hr : RdN w A xs) (hs : RdN w B xs) :
    Calls Tryz.prog 20 #[.slice A xs.length c, .slice B xs.length d] w fun e w' => e = .returned (.bool true) ∧ Up w w' := by
  have hlen := len_le hc hcm
  clear hcm hc
  go_enter Tryz.func20, Tryz.ntmps20
  go_wp2
  go_loopw [13] (fun i wr => ∃ k : Nat, k ≤ xs.length ∧ i = .int .i64 k ∧ Up w wr) (fun i _ => xs.length - (intOf i).toNat)
  case atStart => exact ⟨0, by omega, rfl, Up.refl _⟩
  case round =>
    obtain ⟨k, hk, rfl, hup⟩ := hrel
    have HU := Lib.hid hup
    have hrA := hr.up hup
    have hrB := hs.up hup
    clear hup
    by_cases hkl : k < xs.length
    · obtain ⟨b, off, rfl, hbb, hcell⟩ := hrA.at_ hkl
      obtain ⟨b2, off2, rfl, hbb2, hcell2⟩ := hrB.at_ hkl
      obtain ⟨x, hxx⟩ : ∃ x, x = xs[k].1 := ⟨_, rfl⟩
      obtain ⟨y, hyy⟩ : ∃ y, y = xs[k].2 := ⟨_, rfl⟩
      rw [← hxx, ← hyy] at hcell hcell2
      obtain ⟨c0, c1⟩ := hcell
      obtain ⟨d0, d1⟩ := hcell2
      clear hxx hyy hrA hrB hr hs
      go_upto_region 6 with fail
      go_region
      go_wp2
      exact ⟨⟨k + 1, hkl, by simp, HU.out.trans (Up.drew _)⟩, by simp [intOf]; omega⟩
    · go_wp2
      go_ret
      exact ⟨rfl, HU.out⟩
end Go.Proofs.YtacbjbnocepnaaaGreatDoor
namespace Go.Proofs.YtacbjbnocepnaaaGreatDoor
open Go.RowKit Fm
theorem FB.divInt {a b : Int} {n : Nat} (ha : bl a ≤ n) (hb : bl b ≤ n) (h0 : b ≠ 0) : FB (ratOf a b) n := by
  unfold ratOf
  rcases Int.lt_or_gt_of_ne h0 with h | h
  · have := new_neg (top := a) h
    exact ⟨by rw [← this.1]; exact bl_tdiv ha, by rw [← this.2]; exact bl_tdiv hb⟩
  · have := new_pos (top := a) h
    exact ⟨by rw [← this.1]; exact bl_tdiv ha, by rw [← this.2]; exact bl_tdiv hb⟩
theorem FB.add {a b : Rat} {n m k : Nat} (ha : FB a n) (hb : FB b m) (hk : n + m + 1 ≤ k) : FB (a + b) k := by
  rw [← rat_add]
  exact FB.divInt (bl_add (k := n + m) (bl_mul ha.top hb.low (Nat.le_refl _)) (bl_mul hb.top ha.low (by omega)) hk) (bl_mul ha.low hb.low (by omega)) (Int.mul_ne_zero (den_ne a) (den_ne b))
theorem FB.zero : FB 0 1 := ⟨digs_length_le (B := 4294967296) (k := 1) (by omega) (by decide), digs_length_le (B := 4294967296) (k := 1) (by omega) (by decide)⟩
theorem QB.zero : QB 0 1 := ⟨digs_length_le (B := 1073741824) (k := 1) (by omega) (by decide), digs_length_le (B := 1073741824) (k := 1) (by omega) (by decide)⟩
theorem RdN.take {w : World} {A : Option Addr} {xs : List (Int × Int)} (h : RdN w A xs) (n : Nat) : RdN w A (xs.take n) := fun hn => by
  obtain ⟨b, off, hA, hb, hc⟩ := h (by intro e; subst e; simp at hn)
  exact ⟨b, off, hA, hb, fun i hi => by
    rw [List.length_take] at hi
    rw [List.getElem_take]
    exact hc i (by omega)⟩
theorem RdN.drop {w : World} {b off : Nat} {xs : List (Int × Int)} (h : RdN w (some ⟨b, off, none⟩) xs) (n : Nat) : RdN w (some ⟨b, off + n * 2, none⟩) (xs.drop n) := fun hn => by
  obtain ⟨b', off', hA, hb, hc⟩ := h (by intro e; subst e; simp at hn)
  cases hA
  exact ⟨b, _, rfl, hb, fun i hi => by
    rw [List.length_drop] at hi
    rw [List.getElem_drop]
    have := hc (n + i) (by omega)
    rw [Nat.add_mul, ← Nat.add_assoc] at this
    exact this⟩
end Go.Proofs.YtacbjbnocepnaaaGreatDoor
