/- Plain facts about combinations, and Combine for all arguments. -/
import Derived.Test.YtgcmogldiahdpaaGreatDoorQHJ
import Derived.Test.YtgcmogldiahdpaaGreatDoorQHN
import Derived.Test.YtgcmogldiahdpaaGreatDoorQHO
import Derived.Test.YtgcmogldiahdpaaGreatDoorQHK
namespace Go.Proofs.YtgcmogldiahdpaaGreatDoor
open Go.RowKit Fm
theorem lcmR_dvd (qs : List Nat) : ∀ l m, lcmR l qs ∣ m ↔ l ∣ m ∧ ∀ q, q ∈ qs → q ∣ m := by
  induction qs with
  | nil => intro l m; simp [lcmR]
  | cons q qs ih =>
    intro l m
    rw [lcmR, ih, Nat.lcm_dvd_iff]
    simp [and_assoc]
theorem dvd_gcdR_mul (r : List Int) (k L : Nat) (h : ∀ z, z ∈ r → k ∣ z.natAbs * L) : ∀ g, k ∣ g * L → k ∣ gcdR g r * L := by
  induction r with
  | nil => exact fun g hg => hg
  | cons x xs ih =>
    refine fun g hg => ih (fun z hz => h z (List.mem_cons_of_mem _ hz)) _ ?_
    rw [← Nat.gcd_mul_right]
    exact Nat.dvd_gcd hg (h x (List.mem_cons_self ..))
theorem rat_cross {s : Rat} {k : Nat} {g : Int} (h : s * k = g) : s.num * k = g * s.den := by
  have hd : (s.den : Int) ≠ 0 := by have := s.den_nz; omega
  rw [← Rat.num_divInt_den s, show ((k : Nat) : Rat) = Rat.divInt (k : Int) 1 from int_divInt k, show ((g : Int) : Rat) = Rat.divInt g 1 from int_divInt g, Rat.divInt_mul_divInt, Rat.divInt_eq_divInt_iff (by simpa using hd) (by decide)] at h
  simpa using h
/-- A list of fractions over one denominator k, in two ways: each in lowest terms over the least common denominator, and all divided by their common divisor. -/
theorem comb_alike (k : Nat) (hk : 0 < k) (ps : List (Rat × Int)) (h : ∀ p, p ∈ ps → p.1 * k = p.2) :
    lcmR 1 (ps.map (·.1.den)) = k / gcdR k (ps.map (·.2)) ∧ ∀ p, p ∈ ps → p.1.num * ((lcmR 1 (ps.map (·.1.den)) / p.1.den : Nat) : Int) = p.2.tdiv (gcdR k (ps.map (·.2)) : Nat) := by
  generalize hD : gcdR k (ps.map (·.2)) = D
  have hDk : D ∣ k := hD ▸ gcdR_dvd_left _ _
  have hD0 : 0 < D := Nat.pos_of_dvd_of_pos hDk hk
  have hDg : ∀ p, p ∈ ps → (D : Int) ∣ p.2 := fun p hp => hD ▸ gcdR_dvd _ _ _ (List.mem_map_of_mem hp)
  obtain ⟨k', rfl⟩ := hDk
  have hkd : D * k' / D = k' := Nat.mul_div_cancel_left _ hD0
  have hcr : ∀ p, p ∈ ps → p.1.num * k' = p.2.tdiv D * p.1.den := fun p hp => by
    have h1 := rat_cross (h p hp)
    obtain ⟨g', hg'⟩ := hDg p hp
    have h3 : p.2.tdiv D = g' := by rw [hg', Int.mul_tdiv_cancel_left _ (by omega)]
    rw [h3]
    rw [hg', Int.natCast_mul] at h1
    refine Int.eq_of_mul_eq_mul_left (a := (D : Int)) (by omega) ?_
    rw [← Int.mul_assoc, ← Int.mul_assoc, ← h1, Int.mul_left_comm, Int.mul_assoc]
  have hden : ∀ p, p ∈ ps → p.1.den ∣ k' := fun p hp => by
    have h1 := hcr p hp
    have h2 : (p.1.den : Int) ∣ p.1.num * k' := ⟨_, h1.trans (Int.mul_comm _ _)⟩
    have h3 : p.1.den ∣ p.1.num.natAbs * k' := by
      have := Int.natAbs_dvd_natAbs.2 h2
      rwa [Int.natAbs_natCast, Int.natAbs_mul, Int.natAbs_natCast] at this
    exact (Nat.Coprime.symm p.1.reduced).dvd_of_dvd_mul_left h3
  have hL : lcmR 1 (ps.map (·.1.den)) = k' := by
    apply Nat.dvd_antisymm
    · rw [lcmR_dvd]
      refine ⟨Nat.one_dvd _, fun q hq => ?_⟩
      obtain ⟨p, hp, rfl⟩ := List.mem_map.1 hq
      exact hden p hp
    · have h1 : D * k' ∣ D * lcmR 1 (ps.map (·.1.den)) := by
        conv => rhs; rw [← hD]
        refine dvd_gcdR_mul _ _ _ (fun z hz => ?_) _ (Nat.dvd_mul_right _ _)
        obtain ⟨p, hp, rfl⟩ := List.mem_map.1 hz
        have h2 : p.1.den ∣ lcmR 1 (ps.map (·.1.den)) := ((lcmR_dvd _ 1 _).1 (Nat.dvd_refl _)).2 _ (List.mem_map_of_mem (f := fun p : Rat × Int => p.1.den) hp)
        obtain ⟨u, hu⟩ := h2
        have h3 := congrArg Int.natAbs (rat_cross (h p hp))
        rw [Int.natAbs_mul, Int.natAbs_mul, Int.natAbs_natCast, Int.natAbs_natCast] at h3
        rw [hu, ← Nat.mul_assoc, ← h3, Nat.mul_right_comm]
        exact Nat.dvd_mul_left _ _
      exact Nat.dvd_of_mul_dvd_mul_left hD0 h1
  rw [hL, hkd]
  refine ⟨rfl, fun p hp => ?_⟩
  obtain ⟨u, hu⟩ := hden p hp
  have hd0 : 0 < p.1.den := Nat.pos_of_ne_zero p.1.den_nz
  have h1 := hcr p hp
  rw [hu, Nat.mul_div_cancel_left _ hd0]
  rw [hu, Int.natCast_mul] at h1
  refine Int.eq_of_mul_eq_mul_left (a := (p.1.den : Int)) (by omega) ?_
  rw [Int.mul_left_comm, h1, Int.mul_comm]
end Go.Proofs.YtgcmogldiahdpaaGreatDoor
namespace Go.Proofs.YtgcmogldiahdpaaGreatDoor
open Go.RowKit Fm
theorem sumQ_cons (f : List Int × Int) (fs : List (List Int × Int)) (m : Int × Int) (ms : List (Int × Int)) (i : Nat) : sumQ (f :: fs) (m :: ms) i = ratOf m.1 m.2 * (((rowF f).getD i 0 : Int) : Rat) + sumQ fs ms i := by
  unfold sumQ colN
  simp only [List.map_cons, dotQ]
  rw [ratOf_one, Rat.mul_comm]
theorem rowF_split (T : List Int) (n : Nat) (h : T.length = n + 1) : rowF (T.take n, T.getD n 0) = T := by
  unfold rowF
  have h1 : T.getD n 0 = T[n] := by rw [List.getD_eq_getElem?_getD, List.getElem?_eq_getElem (by omega)]; rfl
  simp only
  rw [h1, ← List.take_succ_eq_append_getElem (by omega), List.take_of_length_le (by omega)]
end Go.Proofs.YtgcmogldiahdpaaGreatDoor
namespace Go.Proofs.YtgcmogldiahdpaaGreatDoor
open Go.RowKit Fm
set_option maxHeartbeats 1000000 in
set_option maxRecDepth 10000 in
theorem linCombine_bad1 (A B : Option Addr) (c d m k : Nat) (n : Int) (w : World)
    (HV : Hid (∀ W, Up w W → Calls Tryz.prog 86 #[.int .i64 n, .slice A m c] W fun e w' => e = .returned (.bool false) ∧ Up W w')) :
    Calls Tryz.prog 27 #[.int .i64 n, .slice A m c, .slice B k d] w fun e w' => e = .returned (.tuple #[.agg #[.slice none 0 0, .int .i64 0], .int .i64 0, .int .i64 1]) ∧ Up w w' := by
  go_enter Tryz.func27, Tryz.ntmps27
  go_wp2_with fail
  refine Calls.mono (HV.out _ (by (repeat (first | exact Below.refl _ _ | exact Go.RowKit.Hid.out (by assumption) | refine Up.trans ?_ (Up.drew _) | refine Up.trans ?_ (Up.drewN _ _) | refine Up.trans ?_ (Up.alloc _ _) | refine Up.trans ?_ (Go.RowKit.Hid.out (by assumption)))))) ?_
  rintro e w1 ⟨rfl, hu⟩
  have HU1 := Lib.hid hu
  clear hu
  have HR := Lib.hid ((CellF.new w none 0 0 0).up HU1.out)
  have HP := Lib.hid ((HR.out.set none 0 0 0).facts)
  have HUZ := Lib.hid (Up.stored ((Up.alloc w (.cells #[.slice none 0 0, .int .i64 0] 33)).trans HU1.out) (Nat.le_refl _) (.slice none 0 0) (.int .i64 0))
  obtain ⟨r0, r1, f0, f1, lr⟩ := HR.out.facts
  go_wp2
  obtain ⟨z0, z1, -, -, -⟩ := HP.out
  refine bodyPost_ret (by simp [results, Tryz.results27, go_sem, z0, z1]; try rfl) rfl ?_
  exact ⟨rfl, HUZ.out⟩
set_option maxHeartbeats 1000000 in
set_option maxRecDepth 10000 in
theorem linCombine_bad2 (A B : Option Addr) (c d m k : Nat) (n : Int) (w : World)
    (HV : Hid (∀ W, Up w W → Calls Tryz.prog 86 #[.int .i64 n, .slice A m c] W fun e w' => e = .returned (.bool true) ∧ Up W w'))
    (HN : Hid (∀ W, Up w W → Calls Tryz.prog 81 #[.slice B k d] W fun e w' => e = .returned (.bool false) ∧ Up W w')) :
    Calls Tryz.prog 27 #[.int .i64 n, .slice A m c, .slice B k d] w fun e w' => e = .returned (.tuple #[.agg #[.slice none 0 0, .int .i64 0], .int .i64 0, .int .i64 1]) ∧ Up w w' := by
  go_enter Tryz.func27, Tryz.ntmps27
  go_wp2_with fail
  refine Calls.mono (HV.out _ (by (repeat (first | exact Below.refl _ _ | exact Go.RowKit.Hid.out (by assumption) | refine Up.trans ?_ (Up.drew _) | refine Up.trans ?_ (Up.drewN _ _) | refine Up.trans ?_ (Up.alloc _ _) | refine Up.trans ?_ (Go.RowKit.Hid.out (by assumption)))))) ?_
  rintro e w1 ⟨rfl, hu⟩
  have HU1 := Lib.hid hu
  clear hu
  go_wp2_with fail
  refine Calls.mono (HN.out _ (by (repeat (first | exact Below.refl _ _ | exact Go.RowKit.Hid.out (by assumption) | refine Up.trans ?_ (Up.drew _) | refine Up.trans ?_ (Up.drewN _ _) | refine Up.trans ?_ (Up.alloc _ _) | refine Up.trans ?_ (Go.RowKit.Hid.out (by assumption)))))) ?_
  rintro e w2 ⟨rfl, hu⟩
  have HU2 := Lib.hid hu
  clear hu
  have HR := Lib.hid ((CellF.new w none 0 0 0).up (HU1.out.trans HU2.out))
  have HP := Lib.hid ((HR.out.set none 0 0 0).facts)
  have HUZ := Lib.hid (Up.stored ((Up.alloc w (.cells #[.slice none 0 0, .int .i64 0] 33)).trans (HU1.out.trans HU2.out)) (Nat.le_refl _) (.slice none 0 0) (.int .i64 0))
  obtain ⟨r0, r1, f0, f1, lr⟩ := HR.out.facts
  go_wp2
  obtain ⟨z0, z1, -, -, -⟩ := HP.out
  refine bodyPost_ret (by simp [results, Tryz.results27, go_sem, z0, z1]; try rfl) rfl ?_
  exact ⟨rfl, HUZ.out⟩
set_option maxHeartbeats 1000000 in
set_option maxRecDepth 10000 in
theorem linCombine_bad3 (A B : Option Addr) (c d m k : Nat) (n : Int) (w : World) (hmk : m ≠ k)
    (HV : Hid (∀ W, Up w W → Calls Tryz.prog 86 #[.int .i64 n, .slice A m c] W fun e w' => e = .returned (.bool true) ∧ Up W w'))
    (HN : Hid (∀ W, Up w W → Calls Tryz.prog 81 #[.slice B k d] W fun e w' => e = .returned (.bool true) ∧ Up W w')) :
    Calls Tryz.prog 27 #[.int .i64 n, .slice A m c, .slice B k d] w fun e w' => e = .returned (.tuple #[.agg #[.slice none 0 0, .int .i64 0], .int .i64 0, .int .i64 2]) ∧ Up w w' := by
  have i0 : (m : Int) ≠ (k : Int) := by omega
  go_enter Tryz.func27, Tryz.ntmps27
  go_wp2_with fail
  refine Calls.mono (HV.out _ (by (repeat (first | exact Below.refl _ _ | exact Go.RowKit.Hid.out (by assumption) | refine Up.trans ?_ (Up.drew _) | refine Up.trans ?_ (Up.drewN _ _) | refine Up.trans ?_ (Up.alloc _ _) | refine Up.trans ?_ (Go.RowKit.Hid.out (by assumption)))))) ?_
  rintro e w1 ⟨rfl, hu⟩
  have HU1 := Lib.hid hu
  clear hu
  go_wp2_with fail
  refine Calls.mono (HN.out _ (by (repeat (first | exact Below.refl _ _ | exact Go.RowKit.Hid.out (by assumption) | refine Up.trans ?_ (Up.drew _) | refine Up.trans ?_ (Up.drewN _ _) | refine Up.trans ?_ (Up.alloc _ _) | refine Up.trans ?_ (Go.RowKit.Hid.out (by assumption)))))) ?_
  rintro e w2 ⟨rfl, hu⟩
  have HU2 := Lib.hid hu
  clear hu
  have HR := Lib.hid ((CellF.new w none 0 0 0).up (HU1.out.trans HU2.out))
  have HP := Lib.hid ((HR.out.set none 0 0 0).facts)
  have HUZ := Lib.hid (Up.stored ((Up.alloc w (.cells #[.slice none 0 0, .int .i64 0] 33)).trans (HU1.out.trans HU2.out)) (Nat.le_refl _) (.slice none 0 0) (.int .i64 0))
  obtain ⟨r0, r1, f0, f1, lr⟩ := HR.out.facts
  go_wp2
  obtain ⟨z0, z1, -, -, -⟩ := HP.out
  refine bodyPost_ret (by simp [results, Tryz.results27, go_sem, z0, z1]; try rfl) rfl ?_
  exact ⟨rfl, HUZ.out⟩
end Go.Proofs.YtgcmogldiahdpaaGreatDoor
