/- Contracts of the integers of any size and of the fractions. -/
import Derived.Test.YtacbjbnocepnaaaGreatDoorQGF2
namespace Go.Proofs.YtacbjbnocepnaaaGreatDoor
open Go.RowKit Fm
set_option maxHeartbeats 2000000 in
set_option maxRecDepth 10000 in
theorem intTimes_small (v1 v2 : Value) (a b : Int) (w : World) (h1 : IV w v1 a) (h2 : IV w v2 b) (ha : a.natAbs < 4611686018427387904) (hb : b.natAbs < 4611686018427387904) (hab : a.natAbs * b.natAbs < 4611686018427387904) :
    Calls Tryz.prog 140 #[v1, v2] w fun e w' => ∃ v, e = .returned v ∧ IV w' v (a * b) ∧ Up w w' := by
  have HBS := Lib.hid (fun W (hu : Up w W) => bothSmall_any v1 v2 a b W (h1.up hu) (h2.up hu))
  obtain ⟨s, A, n, c, rfl, -, hs1, hs2, hn, hc⟩ := h1.open_
  obtain ⟨s2, A2, n2, c2, rfl, -, hs3, hs4, hn2, hc2⟩ := h2.open_
  obtain ⟨rfl, rfl⟩ : n = 0 ∧ s = a := by rcases hc with ⟨h1, h2, h3⟩ | ⟨h1, h2, h3, h4⟩ <;> first | exact ⟨h1, h2⟩ | omega
  obtain ⟨rfl, rfl⟩ : n2 = 0 ∧ s2 = b := by rcases hc2 with ⟨h1, h2, h3⟩ | ⟨h1, h2, h3, h4⟩ <;> first | exact ⟨h1, h2⟩ | omega
  have hdec : decide (s.natAbs < 4611686018427387904 ∧ s2.natAbs < 4611686018427387904) = true := by simp; exact ⟨ha, hb⟩
  have HSZ := Lib.hid (fun W => size_any s W (by omega) (by omega))
  have HSZ2 := Lib.hid (fun W => size_any s2 W (by omega) (by omega))
  have hMU := fun W => Tryz.bits_Mul64 s.natAbs s2.natAbs (by omega) (by omega) W
  rw [Nat.div_eq_of_lt (by omega), Nat.mod_eq_of_lt (by omega)] at hMU
  obtain ⟨lo, hlo⟩ : ∃ lo : Int, lo = ((s.natAbs * s2.natAbs : Nat) : Int) := ⟨_, rfl⟩
  have hlo0 : 0 ≤ lo := by omega
  have hlo1 : lo < 4611686018427387904 := by omega
  rw [← hlo] at hMU
  have HMU := Lib.hid hMU
  obtain ⟨pr, hpr⟩ : ∃ pr, pr = s * s2 := ⟨_, rfl⟩
  have hna : pr.natAbs < 4611686018427387904 := by rw [hpr, Int.natAbs_mul]; exact hab
  have hwr : wrap64 (s * s2) = pr := by rw [← hpr]; unfold wrap64; omega
  have HNA := Lib.hid hna
  have HPR := Lib.hid hpr
  have HWR := Lib.hid hwr
  rw [hdec] at HBS
  clear h1 h2 hc hc2 ha hb hdec hMU hlo hab hna hpr hwr
  go_enter Tryz.func140, Tryz.ntmps140
  go_wp2_with fail
  obtain ⟨wB, hwB, hbx, hrs, hu0⟩ := start3 w s (.slice A 0 c) s2 (.slice A2 0 c2)
  rw [hwB]
  clear hwB
  have HBX := Lib.hid hbx
  have HRS := Lib.hid hrs
  have HU := Lib.hid hu0
  obtain ⟨a0, a1, b0, b1, la, lb⟩ := hbx
  clear hrs hu0
  go_wp2_with fail
  refine (HBS.out _ HU.out).mono ?_
  rintro e w1 ⟨rfl, hu1⟩
  obtain ⟨a0, a1, b0, b1, la, lb⟩ := HBX.out.up hu1
  obtain ⟨r0, r1, f0, f1⟩ := (HRS.out.up hu1).facts
  have HRS1 := Lib.hid (HRS.out.up hu1)
  have HU1 := Lib.hid (HU.out.trans hu1)
  clear hu1
  go_wp2_with fail
  have hne1 : (w.heap.size = w.heap.size + 1 + 1) = False := by simp; omega
  have hne2 : (w.heap.size + 1 + 1 = w.heap.size) = False := by simp; omega
  go_region_held3 (fun w' => w'.cell? ⟨w.heap.size, 0, none⟩ = some (.int .i64 s) ∧ w'.cell? ⟨w.heap.size + 1, 0, none⟩ = some (.int .i64 s2)) (go_keep)
    ((first
      | (go_at_call_of 130 (Value.int IntKind.i64 s); refine (HSZ.out _).mono ?_; rintro e w2 ⟨rfl, rfl⟩)
      | (go_at_call_of 130 (Value.int IntKind.i64 s2); refine (HSZ2.out _).mono ?_; rintro e w2 ⟨rfl, rfl⟩)
      | (go_at_call 154; refine (HMU.out _).mono ?_; rintro e w2 ⟨rfl, rfl⟩)))
  go_wp2_with fail
  have hw64 : wrap64 (s * s2) = pr := HWR.out
  rw [hw64]
  clear hw64
  obtain ⟨hq0, hq1⟩ := HRS1.out.stored (.int .i64 pr) (.slice none 0 0)
  have HUF := Lib.hid (HU1.out.stored (show w.heap.size ≤ w.heap.size + 1 + 1 by omega) (.int .i64 pr) (.slice none 0 0))
  refine bodyPost_ret (by simp [results, Tryz.results140, go_sem, hq0, hq1]; try rfl) rfl ?_
  exact ⟨_, rfl, HPR.out ▸ IV.small HNA.out, HUF.out.trans (Up.drew _)⟩
theorem sign_mul {s s2 a b : Int} (hg1 : s < 0 ↔ a < 0) (hg2 : s2 < 0 ↔ b < 0) : (if (!(decide (s < 0) == decide (s2 < 0))) = true then -((a.natAbs * b.natAbs : Nat) : Int) else ((a.natAbs * b.natAbs : Nat) : Int)) = a * b := by
  have e1 : decide (s < 0) = decide (a < 0) := by simp [hg1]
  have e2 : decide (s2 < 0) = decide (b < 0) := by simp [hg2]
  rw [e1, e2, ← Int.natAbs_mul]
  rcases Int.lt_or_le a 0 with ha | ha <;> rcases Int.lt_or_le b 0 with hb | hb
  · have := Int.mul_nonneg_of_nonpos_of_nonpos (Int.le_of_lt ha) (Int.le_of_lt hb)
    simp [ha, hb]; omega
  · have := Int.mul_nonpos_of_nonpos_of_nonneg (Int.le_of_lt ha) hb
    have hb' : ¬ b < 0 := by omega
    simp [ha, hb']; omega
  · have := Int.mul_nonpos_of_nonneg_of_nonpos ha (Int.le_of_lt hb)
    have ha' : ¬ a < 0 := by omega
    simp [ha', hb]; omega
  · have := Int.mul_nonneg ha hb
    have hb' : ¬ b < 0 := by omega
    have ha' : ¬ a < 0 := by omega
    simp [ha', hb']; omega
set_option maxHeartbeats 4000000 in
set_option maxRecDepth 10000 in
theorem intTimes_large (v1 v2 : Value) (a b : Int) (w : World) (h1 : IV w v1 a) (h2 : IV w v2 b) (hl : ¬ (a.natAbs < 4611686018427387904 ∧ b.natAbs < 4611686018427387904)) (ha : bl a ≤ 67108864) (hb : bl b ≤ 67108864) :
    Calls Tryz.prog 140 #[v1, v2] w fun e w' => ∃ v, e = .returned v ∧ IV w' v (a * b) ∧ Up w w' := by
  have HBS := Lib.hid (fun W (hu : Up w W) => bothSmall_any v1 v2 a b W (h1.up hu) (h2.up hu))
  have HD1 := Lib.hid (fun W (hu : Up w W) => digits_any v1 a W (h1.up hu))
  have HD2 := Lib.hid (fun W (hu : Up w W) => digits_any v2 b W (h2.up hu))
  obtain ⟨s, A, n, c, rfl, hp1, hs1, hs2, hn, hc⟩ := h1.open_
  obtain ⟨s2, A2, n2, c2, rfl, hp2, hs3, hs4, hn2, hc2⟩ := h2.open_
  have HSM := Lib.hid (sign_mul (IV.sgn hp1) (IV.sgn hp2))
  have HHA := Lib.hid ha
  have HHB := Lib.hid hb
  have hdec : decide (a.natAbs < 4611686018427387904 ∧ b.natAbs < 4611686018427387904) = false := by simpa using hl
  rw [hdec] at HBS
  clear hdec hl
  clear h1 h2 hc hc2 hp1 hp2 ha hb
  obtain ⟨ng, hng⟩ : ∃ ng : Bool, ng = (!(decide (s < 0) == decide (s2 < 0))) := ⟨_, rfl⟩
  rw [← hng] at HSM
  have HNG := Lib.hid hng
  clear hng
  go_enter Tryz.func140, Tryz.ntmps140
  go_wp2_with fail
  obtain ⟨wB, hwB, hbx, hrs, hu0⟩ := start3 w s (.slice A n c) s2 (.slice A2 n2 c2)
  rw [hwB]
  clear hwB
  have HBX := Lib.hid hbx
  have HRS := Lib.hid hrs
  have HU := Lib.hid hu0
  obtain ⟨a0, a1, b0, b1, la, lb⟩ := hbx
  clear hrs hu0
  go_wp2_with fail
  rw [← HNG.out]
  refine (HBS.out _ HU.out).mono ?_
  rintro e w1 ⟨rfl, hu1⟩
  obtain ⟨a0, a1, b0, b1, la, lb⟩ := HBX.out.up hu1
  have HBX1 := Lib.hid (HBX.out.up hu1)
  have HRS1 := Lib.hid (HRS.out.up hu1)
  have HU1 := Lib.hid (HU.out.trans hu1)
  clear hu1
  have hne1 : (w.heap.size = w.heap.size + 1 + 1) = False := by simp; omega
  have hne2 : (w.heap.size + 1 + 1 = w.heap.size) = False := by simp; omega
  go_wp2_with fail
  go_region_held3 (fun w' => w'.cell? ⟨w.heap.size, 0, none⟩ = some (.int .i64 s) ∧ w'.cell? ⟨w.heap.size, 1, none⟩ = some (.slice A n c) ∧ w'.cell? ⟨w.heap.size + 1, 0, none⟩ = some (.int .i64 s2) ∧ w'.cell? ⟨w.heap.size + 1, 1, none⟩ = some (.slice A2 n2 c2)) (go_keep)
    ((first
      | (go_at_call_of 132 (Value.int IntKind.i64 s)
         refine (HD1.out _ (HU1.out.trans (Up.drew w1))).mono ?_
         rintro e w2 ⟨d1, rfl, hd1, hu2⟩
         have HBX2 := Lib.hid ((HBX1.out.up (Up.drew w1)).up hu2)
         obtain ⟨a0, a1, b0, b1, la, lb⟩ := HBX2.out
         have HDD1 := Lib.hid hd1
         have HU2 := Lib.hid ((HU1.out.trans (Up.drew w1)).trans hu2)
         have HRS2 := Lib.hid ((HRS1.out.up (Up.drew w1)).up hu2)
         clear hd1 hu2)
      | (go_at_call_of 132 (Value.int IntKind.i64 s2)
         refine (HD2.out _ HU2.out).mono ?_
         rintro e w3 ⟨d2, rfl, hd2, hu3⟩
         have HBX3 := Lib.hid (HBX2.out.up hu3)
         obtain ⟨a0, a1, b0, b1, la, lb⟩ := HBX3.out
         have HDD2 := Lib.hid hd2
         have HDD1b := Lib.hid (Sl.up HDD1.out hu3)
         have HU3 := Lib.hid (HU2.out.trans hu3)
         have HRS3 := Lib.hid (HRS2.out.up hu3)
         clear hd2 hu3)
      | (go_at_call 155
         refine (times_dv _ _ a.natAbs b.natAbs _ HDD1b.out HDD2.out (by have := HHA.out; have := HHB.out; unfold bl at *; omega)).mono ?_
         rintro e w4 ⟨d3, rfl, hd3, hu4⟩
         have HBX4 := Lib.hid (HBX3.out.up hu4)
         obtain ⟨a0, a1, b0, b1, la, lb⟩ := HBX4.out
         have HDD3 := Lib.hid hd3
         have HU4 := Lib.hid (HU3.out.trans hu4)
         have HRS4 := Lib.hid (HRS3.out.up hu4)
         clear hd3 hu4)
      | (go_at_call 131
         refine (signed_any _ _ _ _ HDD3.out).mono ?_
         rintro e w5 ⟨v5, rfl, hv5, hu5⟩
         obtain ⟨a0, a1, b0, b1, la, lb⟩ := HBX4.out.up hu5
         have HU5 := Lib.hid (HU4.out.trans hu5)
         have HRS5 := Lib.hid (HRS4.out.up hu5)
         obtain ⟨s5, A5, n5, c5, rfl, -, -, -, -, -⟩ := hv5.open_
         obtain ⟨r0, r1, f0, f1⟩ := HRS5.out.facts
         have HV5 := Lib.hid hv5
         clear hv5 hu5)))
  obtain ⟨hq0, hq1⟩ := HRS5.out.stored (.int .i64 s5) (.slice A5 n5 c5)
  have HVF := Lib.hid (HV5.out.stored HRS5.out (.int .i64 s5) (.slice A5 n5 c5))
  have HUF := Lib.hid (HU5.out.stored (show w.heap.size ≤ w.heap.size + 1 + 1 by omega) (.int .i64 s5) (.slice A5 n5 c5))
  go_wp2
  refine bodyPost_ret (by simp [results, Tryz.results140, go_sem, hq0, hq1]; try rfl) rfl ?_
  have hvf := HVF.out
  rw [HSM.out] at hvf
  exact ⟨_, rfl, hvf, HUF.out⟩
set_option maxHeartbeats 4000000 in
set_option maxRecDepth 10000 in
theorem intTimes_mid1 (v1 v2 : Value) (a b : Int) (w : World) (h1 : IV w v1 a) (h2 : IV w v2 b) (hl1 : a.natAbs < 4611686018427387904) (hl2 : b.natAbs < 4611686018427387904) (hab : 4611686018427387904 ≤ a.natAbs * b.natAbs) (hcase : 18446744073709551616 ≤ a.natAbs * b.natAbs) (ha : bl a ≤ 67108864) (hb : bl b ≤ 67108864) :
    Calls Tryz.prog 140 #[v1, v2] w fun e w' => ∃ v, e = .returned v ∧ IV w' v (a * b) ∧ Up w w' := by
  have HBS := Lib.hid (fun W (hu : Up w W) => bothSmall_any v1 v2 a b W (h1.up hu) (h2.up hu))
  have HD1 := Lib.hid (fun W (hu : Up w W) => digits_any v1 a W (h1.up hu))
  have HD2 := Lib.hid (fun W (hu : Up w W) => digits_any v2 b W (h2.up hu))
  obtain ⟨s, A, n, c, rfl, hp1, hs1, hs2, hn, hc⟩ := h1.open_
  obtain ⟨s2, A2, n2, c2, rfl, hp2, hs3, hs4, hn2, hc2⟩ := h2.open_
  have HSM := Lib.hid (sign_mul (IV.sgn hp1) (IV.sgn hp2))
  have HHA := Lib.hid ha
  have HHB := Lib.hid hb
  obtain ⟨h5, h6⟩ : n = 0 ∧ s = a := by rcases hc with ⟨h1, h2, h3⟩ | ⟨h1, h2, h3, h4⟩ <;> first | exact ⟨h1, h2⟩ | omega
  obtain ⟨h7, h8⟩ : n2 = 0 ∧ s2 = b := by rcases hc2 with ⟨h1, h2, h3⟩ | ⟨h1, h2, h3, h4⟩ <;> first | exact ⟨h1, h2⟩ | omega
  have hdec : decide (a.natAbs < 4611686018427387904 ∧ b.natAbs < 4611686018427387904) = true := by simp; exact ⟨hl1, hl2⟩
  rw [hdec] at HBS
  have HSZ := Lib.hid (fun W => size_any s W (by omega) (by omega))
  have HSZ2 := Lib.hid (fun W => size_any s2 W (by omega) (by omega))
  have hMU := fun W => Tryz.bits_Mul64 s.natAbs s2.natAbs (by omega) (by omega) W
  have hprod : 4611686018427387904 ≤ s.natAbs * s2.natAbs := by rw [h6, h8]; exact hab
  obtain ⟨pd, hpd⟩ : ∃ pd, pd = s.natAbs * s2.natAbs := ⟨_, rfl⟩
  rw [← hpd] at hMU hprod
  obtain ⟨hi, hhi⟩ : ∃ hi : Int, hi = ((pd / 18446744073709551616 : Nat) : Int) := ⟨_, rfl⟩
  obtain ⟨lo, hlo⟩ : ∃ lo : Int, lo = ((pd % 18446744073709551616 : Nat) : Int) := ⟨_, rfl⟩
  have hlo0 : 0 ≤ lo := by omega
  have hhl : 0 < hi := by rw [← h6, ← h8, ← hpd] at hcase; have := Nat.div_pos hcase (by omega); omega
  rw [← hhi, ← hlo] at hMU
  have HMU := Lib.hid hMU
  clear hdec hl1 hl2 h5 h6 h7 h8 hMU hhi hlo hpd hprod hcase hab
  clear h1 h2 hc hc2 hp1 hp2 ha hb
  obtain ⟨ng, hng⟩ : ∃ ng : Bool, ng = (!(decide (s < 0) == decide (s2 < 0))) := ⟨_, rfl⟩
  rw [← hng] at HSM
  have HNG := Lib.hid hng
  clear hng
  go_enter Tryz.func140, Tryz.ntmps140
  go_wp2_with fail
  obtain ⟨wB, hwB, hbx, hrs, hu0⟩ := start3 w s (.slice A n c) s2 (.slice A2 n2 c2)
  rw [hwB]
  clear hwB
  have HBX := Lib.hid hbx
  have HRS := Lib.hid hrs
  have HU := Lib.hid hu0
  obtain ⟨a0, a1, b0, b1, la, lb⟩ := hbx
  clear hrs hu0
  go_wp2_with fail
  rw [← HNG.out]
  refine (HBS.out _ HU.out).mono ?_
  rintro e w1 ⟨rfl, hu1⟩
  obtain ⟨a0, a1, b0, b1, la, lb⟩ := HBX.out.up hu1
  have HBX1 := Lib.hid (HBX.out.up hu1)
  have HRS1 := Lib.hid (HRS.out.up hu1)
  have HU1 := Lib.hid (HU.out.trans hu1)
  clear hu1
  have hne1 : (w.heap.size = w.heap.size + 1 + 1) = False := by simp; omega
  have hne2 : (w.heap.size + 1 + 1 = w.heap.size) = False := by simp; omega
  go_wp2_with fail
  go_region_held3 (fun w' => w'.cell? ⟨w.heap.size, 0, none⟩ = some (.int .i64 s) ∧ w'.cell? ⟨w.heap.size + 1, 0, none⟩ = some (.int .i64 s2)) (go_keep)
    ((first
      | (go_at_call_of 130 (Value.int IntKind.i64 s); refine (HSZ.out _).mono ?_; rintro e w2 ⟨rfl, rfl⟩)
      | (go_at_call_of 130 (Value.int IntKind.i64 s2); refine (HSZ2.out _).mono ?_; rintro e w2 ⟨rfl, rfl⟩)
      | (go_at_call 154; refine (HMU.out _).mono ?_; rintro e w2 ⟨rfl, rfl⟩)))
  obtain ⟨wR, hwR⟩ : ∃ wR, wR = w1.drew := ⟨_, rfl⟩
  have HBXr := Lib.hid (HBX1.out.up (Up.drew w1))
  have HRSr := Lib.hid (HRS1.out.up (Up.drew w1))
  have HUr := Lib.hid (HU1.out.trans (Up.drew w1))
  rw [← hwR] at HBXr HRSr HUr ⊢
  clear hwR
  obtain ⟨a0, a1, b0, b1, la, lb⟩ := HBXr.out
  go_wp2_with fail
  go_region_held3 (fun w' => w'.cell? ⟨w.heap.size, 0, none⟩ = some (.int .i64 s) ∧ w'.cell? ⟨w.heap.size, 1, none⟩ = some (.slice A n c) ∧ w'.cell? ⟨w.heap.size + 1, 0, none⟩ = some (.int .i64 s2) ∧ w'.cell? ⟨w.heap.size + 1, 1, none⟩ = some (.slice A2 n2 c2)) (go_keep)
    ((first
      | (go_at_call_of 132 (Value.int IntKind.i64 s)
         refine (HD1.out _ (HUr.out.trans (Up.drew wR))).mono ?_
         rintro e w2 ⟨d1, rfl, hd1, hu2⟩
         have HBX2 := Lib.hid ((HBXr.out.up (Up.drew wR)).up hu2)
         obtain ⟨a0, a1, b0, b1, la, lb⟩ := HBX2.out
         have HDD1 := Lib.hid hd1
         have HU2 := Lib.hid ((HUr.out.trans (Up.drew wR)).trans hu2)
         have HRS2 := Lib.hid ((HRSr.out.up (Up.drew wR)).up hu2)
         clear hd1 hu2)
      | (go_at_call_of 132 (Value.int IntKind.i64 s2)
         refine (HD2.out _ HU2.out).mono ?_
         rintro e w3 ⟨d2, rfl, hd2, hu3⟩
         have HBX3 := Lib.hid (HBX2.out.up hu3)
         obtain ⟨a0, a1, b0, b1, la, lb⟩ := HBX3.out
         have HDD2 := Lib.hid hd2
         have HDD1b := Lib.hid (Sl.up HDD1.out hu3)
         have HU3 := Lib.hid (HU2.out.trans hu3)
         have HRS3 := Lib.hid (HRS2.out.up hu3)
         clear hd2 hu3)
      | (go_at_call 155
         refine (times_dv _ _ a.natAbs b.natAbs _ HDD1b.out HDD2.out (by have := HHA.out; have := HHB.out; unfold bl at *; omega)).mono ?_
         rintro e w4 ⟨d3, rfl, hd3, hu4⟩
         have HBX4 := Lib.hid (HBX3.out.up hu4)
         obtain ⟨a0, a1, b0, b1, la, lb⟩ := HBX4.out
         have HDD3 := Lib.hid hd3
         have HU4 := Lib.hid (HU3.out.trans hu4)
         have HRS4 := Lib.hid (HRS3.out.up hu4)
         clear hd3 hu4)
      | (go_at_call 131
         refine (signed_any _ _ _ _ HDD3.out).mono ?_
         rintro e w5 ⟨v5, rfl, hv5, hu5⟩
         obtain ⟨a0, a1, b0, b1, la, lb⟩ := HBX4.out.up hu5
         have HU5 := Lib.hid (HU4.out.trans hu5)
         have HRS5 := Lib.hid (HRS4.out.up hu5)
         obtain ⟨s5, A5, n5, c5, rfl, -, -, -, -, -⟩ := hv5.open_
         obtain ⟨r0, r1, f0, f1⟩ := HRS5.out.facts
         have HV5 := Lib.hid hv5
         clear hv5 hu5)))
  obtain ⟨hq0, hq1⟩ := HRS5.out.stored (.int .i64 s5) (.slice A5 n5 c5)
  have HVF := Lib.hid (HV5.out.stored HRS5.out (.int .i64 s5) (.slice A5 n5 c5))
  have HUF := Lib.hid (HU5.out.stored (show w.heap.size ≤ w.heap.size + 1 + 1 by omega) (.int .i64 s5) (.slice A5 n5 c5))
  go_wp2
  refine bodyPost_ret (by simp [results, Tryz.results140, go_sem, hq0, hq1]; try rfl) rfl ?_
  have hvf := HVF.out
  rw [HSM.out] at hvf
  exact ⟨_, rfl, hvf, HUF.out⟩
set_option maxHeartbeats 4000000 in
set_option maxRecDepth 10000 in
theorem intTimes_mid2 (v1 v2 : Value) (a b : Int) (w : World) (h1 : IV w v1 a) (h2 : IV w v2 b) (hl1 : a.natAbs < 4611686018427387904) (hl2 : b.natAbs < 4611686018427387904) (hab : 4611686018427387904 ≤ a.natAbs * b.natAbs) (hcase : a.natAbs * b.natAbs < 18446744073709551616) (ha : bl a ≤ 67108864) (hb : bl b ≤ 67108864) :
    Calls Tryz.prog 140 #[v1, v2] w fun e w' => ∃ v, e = .returned v ∧ IV w' v (a * b) ∧ Up w w' := by
  have HBS := Lib.hid (fun W (hu : Up w W) => bothSmall_any v1 v2 a b W (h1.up hu) (h2.up hu))
  have HD1 := Lib.hid (fun W (hu : Up w W) => digits_any v1 a W (h1.up hu))
  have HD2 := Lib.hid (fun W (hu : Up w W) => digits_any v2 b W (h2.up hu))
  obtain ⟨s, A, n, c, rfl, hp1, hs1, hs2, hn, hc⟩ := h1.open_
  obtain ⟨s2, A2, n2, c2, rfl, hp2, hs3, hs4, hn2, hc2⟩ := h2.open_
  have HSM := Lib.hid (sign_mul (IV.sgn hp1) (IV.sgn hp2))
  have HHA := Lib.hid ha
  have HHB := Lib.hid hb
  obtain ⟨h5, h6⟩ : n = 0 ∧ s = a := by rcases hc with ⟨h1, h2, h3⟩ | ⟨h1, h2, h3, h4⟩ <;> first | exact ⟨h1, h2⟩ | omega
  obtain ⟨h7, h8⟩ : n2 = 0 ∧ s2 = b := by rcases hc2 with ⟨h1, h2, h3⟩ | ⟨h1, h2, h3, h4⟩ <;> first | exact ⟨h1, h2⟩ | omega
  have hdec : decide (a.natAbs < 4611686018427387904 ∧ b.natAbs < 4611686018427387904) = true := by simp; exact ⟨hl1, hl2⟩
  rw [hdec] at HBS
  have HSZ := Lib.hid (fun W => size_any s W (by omega) (by omega))
  have HSZ2 := Lib.hid (fun W => size_any s2 W (by omega) (by omega))
  have hMU := fun W => Tryz.bits_Mul64 s.natAbs s2.natAbs (by omega) (by omega) W
  have hprod : 4611686018427387904 ≤ s.natAbs * s2.natAbs := by rw [h6, h8]; exact hab
  obtain ⟨pd, hpd⟩ : ∃ pd, pd = s.natAbs * s2.natAbs := ⟨_, rfl⟩
  rw [← hpd] at hMU hprod
  obtain ⟨hi, hhi⟩ : ∃ hi : Int, hi = ((pd / 18446744073709551616 : Nat) : Int) := ⟨_, rfl⟩
  obtain ⟨lo, hlo⟩ : ∃ lo : Int, lo = ((pd % 18446744073709551616 : Nat) : Int) := ⟨_, rfl⟩
  have hlo0 : 0 ≤ lo := by omega
  have hhl : hi = 0 ∧ 4611686018427387904 ≤ lo := by rw [← h6, ← h8, ← hpd] at hcase; rw [hhi, hlo, Nat.div_eq_of_lt hcase, Nat.mod_eq_of_lt hcase]; omega
  rw [← hhi, ← hlo] at hMU
  obtain ⟨hhi0, hlo1⟩ := hhl
  have HMU := Lib.hid hMU
  clear hdec hl1 hl2 h5 h6 h7 h8 hMU hhi hlo hpd hprod hcase hab
  clear h1 h2 hc hc2 hp1 hp2 ha hb
  obtain ⟨ng, hng⟩ : ∃ ng : Bool, ng = (!(decide (s < 0) == decide (s2 < 0))) := ⟨_, rfl⟩
  rw [← hng] at HSM
  have HNG := Lib.hid hng
  clear hng
  go_enter Tryz.func140, Tryz.ntmps140
  go_wp2_with fail
  obtain ⟨wB, hwB, hbx, hrs, hu0⟩ := start3 w s (.slice A n c) s2 (.slice A2 n2 c2)
  rw [hwB]
  clear hwB
  have HBX := Lib.hid hbx
  have HRS := Lib.hid hrs
  have HU := Lib.hid hu0
  obtain ⟨a0, a1, b0, b1, la, lb⟩ := hbx
  clear hrs hu0
  go_wp2_with fail
  rw [← HNG.out]
  refine (HBS.out _ HU.out).mono ?_
  rintro e w1 ⟨rfl, hu1⟩
  obtain ⟨a0, a1, b0, b1, la, lb⟩ := HBX.out.up hu1
  have HBX1 := Lib.hid (HBX.out.up hu1)
  have HRS1 := Lib.hid (HRS.out.up hu1)
  have HU1 := Lib.hid (HU.out.trans hu1)
  clear hu1
  have hne1 : (w.heap.size = w.heap.size + 1 + 1) = False := by simp; omega
  have hne2 : (w.heap.size + 1 + 1 = w.heap.size) = False := by simp; omega
  go_wp2_with fail
  go_region_held3 (fun w' => w'.cell? ⟨w.heap.size, 0, none⟩ = some (.int .i64 s) ∧ w'.cell? ⟨w.heap.size + 1, 0, none⟩ = some (.int .i64 s2)) (go_keep)
    ((first
      | (go_at_call_of 130 (Value.int IntKind.i64 s); refine (HSZ.out _).mono ?_; rintro e w2 ⟨rfl, rfl⟩)
      | (go_at_call_of 130 (Value.int IntKind.i64 s2); refine (HSZ2.out _).mono ?_; rintro e w2 ⟨rfl, rfl⟩)
      | (go_at_call 154; refine (HMU.out _).mono ?_; rintro e w2 ⟨rfl, rfl⟩)))
  obtain ⟨wR, hwR⟩ : ∃ wR, wR = w1.drew := ⟨_, rfl⟩
  have HBXr := Lib.hid (HBX1.out.up (Up.drew w1))
  have HRSr := Lib.hid (HRS1.out.up (Up.drew w1))
  have HUr := Lib.hid (HU1.out.trans (Up.drew w1))
  rw [← hwR] at HBXr HRSr HUr ⊢
  clear hwR
  obtain ⟨a0, a1, b0, b1, la, lb⟩ := HBXr.out
  go_wp2_with fail
  go_region_held3 (fun w' => w'.cell? ⟨w.heap.size, 0, none⟩ = some (.int .i64 s) ∧ w'.cell? ⟨w.heap.size, 1, none⟩ = some (.slice A n c) ∧ w'.cell? ⟨w.heap.size + 1, 0, none⟩ = some (.int .i64 s2) ∧ w'.cell? ⟨w.heap.size + 1, 1, none⟩ = some (.slice A2 n2 c2)) (go_keep)
    ((first
      | (go_at_call_of 132 (Value.int IntKind.i64 s)
         refine (HD1.out _ (HUr.out.trans (Up.drew wR))).mono ?_
         rintro e w2 ⟨d1, rfl, hd1, hu2⟩
         have HBX2 := Lib.hid ((HBXr.out.up (Up.drew wR)).up hu2)
         obtain ⟨a0, a1, b0, b1, la, lb⟩ := HBX2.out
         have HDD1 := Lib.hid hd1
         have HU2 := Lib.hid ((HUr.out.trans (Up.drew wR)).trans hu2)
         have HRS2 := Lib.hid ((HRSr.out.up (Up.drew wR)).up hu2)
         clear hd1 hu2)
      | (go_at_call_of 132 (Value.int IntKind.i64 s2)
         refine (HD2.out _ HU2.out).mono ?_
         rintro e w3 ⟨d2, rfl, hd2, hu3⟩
         have HBX3 := Lib.hid (HBX2.out.up hu3)
         obtain ⟨a0, a1, b0, b1, la, lb⟩ := HBX3.out
         have HDD2 := Lib.hid hd2
         have HDD1b := Lib.hid (Sl.up HDD1.out hu3)
         have HU3 := Lib.hid (HU2.out.trans hu3)
         have HRS3 := Lib.hid (HRS2.out.up hu3)
         clear hd2 hu3)
      | (go_at_call 155
         refine (times_dv _ _ a.natAbs b.natAbs _ HDD1b.out HDD2.out (by have := HHA.out; have := HHB.out; unfold bl at *; omega)).mono ?_
         rintro e w4 ⟨d3, rfl, hd3, hu4⟩
         have HBX4 := Lib.hid (HBX3.out.up hu4)
         obtain ⟨a0, a1, b0, b1, la, lb⟩ := HBX4.out
         have HDD3 := Lib.hid hd3
         have HU4 := Lib.hid (HU3.out.trans hu4)
         have HRS4 := Lib.hid (HRS3.out.up hu4)
         clear hd3 hu4)
      | (go_at_call 131
         refine (signed_any _ _ _ _ HDD3.out).mono ?_
         rintro e w5 ⟨v5, rfl, hv5, hu5⟩
         obtain ⟨a0, a1, b0, b1, la, lb⟩ := HBX4.out.up hu5
         have HU5 := Lib.hid (HU4.out.trans hu5)
         have HRS5 := Lib.hid (HRS4.out.up hu5)
         obtain ⟨s5, A5, n5, c5, rfl, -, -, -, -, -⟩ := hv5.open_
         obtain ⟨r0, r1, f0, f1⟩ := HRS5.out.facts
         have HV5 := Lib.hid hv5
         clear hv5 hu5)))
  obtain ⟨hq0, hq1⟩ := HRS5.out.stored (.int .i64 s5) (.slice A5 n5 c5)
  have HVF := Lib.hid (HV5.out.stored HRS5.out (.int .i64 s5) (.slice A5 n5 c5))
  have HUF := Lib.hid (HU5.out.stored (show w.heap.size ≤ w.heap.size + 1 + 1 by omega) (.int .i64 s5) (.slice A5 n5 c5))
  go_wp2
  refine bodyPost_ret (by simp [results, Tryz.results140, go_sem, hq0, hq1]; try rfl) rfl ?_
  have hvf := HVF.out
  rw [HSM.out] at hvf
  exact ⟨_, rfl, hvf, HUF.out⟩
theorem intTimes_any (v1 v2 : Value) (a b : Int) (w : World) (h1 : IV w v1 a) (h2 : IV w v2 b) (ha : bl a ≤ 67108864) (hb : bl b ≤ 67108864) :
    Calls Tryz.prog 140 #[v1, v2] w fun e w' => ∃ v, e = .returned v ∧ IV w' v (a * b) ∧ Up w w' := by
  by_cases h : a.natAbs < 4611686018427387904 ∧ b.natAbs < 4611686018427387904
  · rcases Nat.lt_or_ge (a.natAbs * b.natAbs) 4611686018427387904 with h3 | h3
    · exact intTimes_small v1 v2 a b w h1 h2 h.1 h.2 h3
    · rcases Nat.lt_or_ge (a.natAbs * b.natAbs) 18446744073709551616 with h4 | h4
      · exact intTimes_mid2 v1 v2 a b w h1 h2 h.1 h.2 h3 h4 ha hb
      · exact intTimes_mid1 v1 v2 a b w h1 h2 h.1 h.2 h3 h4 ha hb
  · exact intTimes_large v1 v2 a b w h1 h2 h ha hb
end Go.Proofs.YtacbjbnocepnaaaGreatDoor
namespace Go.Proofs.YtacbjbnocepnaaaGreatDoor
open Go.RowKit Fm
theorem start4 (w : World) (s : Int) (d : Value) (s2 : Int) (d2 : Value) :
    ∃ wB, ((((w.alloc (.cells #[.int .i64 s, d] 108)).alloc (.cells #[.int .i64 s2, d2] 108)).alloc (.cells #[.int .i64 0, .slice none 0 0] 108)).alloc (.cells #[.int .i64 0, .slice none 0 0] 108)) = wB ∧
      Boxes wB w.heap.size (w.heap.size + 1) s d s2 d2 ∧ Res2 wB (w.heap.size + 1 + 1) ∧ Res2 wB (w.heap.size + 1 + 1 + 1) ∧ Up w wB := by
  obtain ⟨wA, hA, hb, hr, hu⟩ := start3 w s d s2 d2
  have hsz : wA.heap.size = w.heap.size + 1 + 1 + 1 := by rw [← hA]; simp
  refine ⟨_, rfl, ?_⟩
  rw [hA]
  exact ⟨hb.up (Up.alloc _ _), hr.up (Up.alloc _ _), by rw [← hsz]; exact Res2.new wA, hu.trans (Up.alloc _ _)⟩
theorem Res2.other {w : World} {g g' : Nat} (h : Res2 w g) (hne : g ≠ g') (x y : Value) : Res2 ((w.setCell ⟨g', 0, none⟩ x).setCell ⟨g', 1, none⟩ y) g := by
  unfold Res2 at *
  simp only [World.setCell, Array.getElem?_modify]
  rw [if_neg hne.symm, if_neg hne.symm]
  exact h
theorem Res2.stored2 {w : World} {g g' : Nat} (h : Res2 w g) (h' : Res2 w g') (hne : g ≠ g') (x y x' y' : Value) :
    ((((w.setCell ⟨g, 0, none⟩ x).setCell ⟨g, 1, none⟩ y).setCell ⟨g', 0, none⟩ x').setCell ⟨g', 1, none⟩ y').cell? ⟨g, 0, none⟩ = some x ∧
    ((((w.setCell ⟨g, 0, none⟩ x).setCell ⟨g, 1, none⟩ y).setCell ⟨g', 0, none⟩ x').setCell ⟨g', 1, none⟩ y').cell? ⟨g, 1, none⟩ = some y ∧
    ((((w.setCell ⟨g, 0, none⟩ x).setCell ⟨g, 1, none⟩ y).setCell ⟨g', 0, none⟩ x').setCell ⟨g', 1, none⟩ y').cell? ⟨g', 0, none⟩ = some x' ∧
    ((((w.setCell ⟨g, 0, none⟩ x).setCell ⟨g, 1, none⟩ y).setCell ⟨g', 0, none⟩ x').setCell ⟨g', 1, none⟩ y').cell? ⟨g', 1, none⟩ = some y' := by
  have h2 := (h'.other hne.symm x y).stored x' y'
  have h1 := h.stored x y
  refine ⟨?_, ?_, h2.1, h2.2⟩
  · rw [World.cell?_setCell_other _ _ _ _ (by intro e; injection e with e; exact hne e.symm), World.cell?_setCell_other _ _ _ _ (by intro e; injection e with e; exact hne e.symm)]; exact h1.1
  · rw [World.cell?_setCell_other _ _ _ _ (by intro e; injection e with e; exact hne e.symm), World.cell?_setCell_other _ _ _ _ (by intro e; injection e with e; exact hne e.symm)]; exact h1.2
set_option maxHeartbeats 2000000 in
set_option maxRecDepth 10000 in
theorem intQuoRem_small (v1 v2 : Value) (a b : Int) (w : World) (h1 : IV w v1 a) (h2 : IV w v2 b) (ha : a.natAbs < 4611686018427387904) (hb : b.natAbs < 4611686018427387904) (hz : b ≠ 0) :
    Calls Tryz.prog 135 #[v1, v2] w fun e w' => ∃ v3 v4, e = .returned (.tuple #[v3, v4]) ∧ IV w' v3 (a.tdiv b) ∧ IV w' v4 (a.tmod b) ∧ Up w w' := by
  have HBS := Lib.hid (fun W (hu : Up w W) => bothSmall_any v1 v2 a b W (h1.up hu) (h2.up hu))
  obtain ⟨s, A, n, c, rfl, -, hs1, hs2, hn, hc⟩ := h1.open_
  obtain ⟨s2, A2, n2, c2, rfl, -, hs3, hs4, hn2, hc2⟩ := h2.open_
  obtain ⟨rfl, rfl⟩ : n = 0 ∧ s = a := by rcases hc with ⟨h1, h2, h3⟩ | ⟨h1, h2, h3, h4⟩ <;> first | exact ⟨h1, h2⟩ | omega
  obtain ⟨rfl, rfl⟩ : n2 = 0 ∧ s2 = b := by rcases hc2 with ⟨h1, h2, h3⟩ | ⟨h1, h2, h3, h4⟩ <;> first | exact ⟨h1, h2⟩ | omega
  have hdec : decide (s.natAbs < 4611686018427387904 ∧ s2.natAbs < 4611686018427387904) = true := by simp; exact ⟨ha, hb⟩
  rw [hdec] at HBS
  have hzz : (s2 == 0) = false := by simp; exact hz
  have hqa : (s.tdiv s2).natAbs < 4611686018427387904 := by rw [Int.natAbs_tdiv]; exact Nat.lt_of_le_of_lt (Nat.div_le_self _ _) ha
  have hra : (s.tmod s2).natAbs < 4611686018427387904 := by rw [Int.natAbs_tmod]; exact Nat.lt_of_le_of_lt (Nat.mod_le _ _) ha
  have htq : wrap64 (s.tdiv s2) = s.tdiv s2 := by unfold wrap64; omega
  have HQA := Lib.hid hqa
  have HRA := Lib.hid hra
  have HTQ := Lib.hid htq
  clear hqa hra htq
  clear h1 h2 hc hc2 ha hb hdec
  go_enter Tryz.func135, Tryz.ntmps135
  go_wp2_with fail
  obtain ⟨wB, hwB, hbx, hrs, hrt, hu0⟩ := start4 w s (.slice A 0 c) s2 (.slice A2 0 c2)
  rw [hwB]
  clear hwB
  refine (HBS.out _ hu0).mono ?_
  rintro e w1 ⟨rfl, hu1⟩
  obtain ⟨a0, a1, b0, b1, la, lb⟩ := hbx.up hu1
  obtain ⟨r0, r1, f0, f1⟩ := (hrs.up hu1).facts
  obtain ⟨r20, r21, f20, f21⟩ := (hrt.up hu1).facts
  have HRS1 := Lib.hid (hrs.up hu1)
  have HRT1 := Lib.hid (hrt.up hu1)
  have HU1 := Lib.hid (hu0.trans hu1)
  clear hbx hrs hrt hu0 hu1
  have hne1 : (w.heap.size = w.heap.size + 1 + 1) = False := by simp; omega
  have hne2 : (w.heap.size + 1 + 1 = w.heap.size) = False := by simp; omega
  go_wp2_with fail
  go_region
  rw [HTQ.out]
  obtain ⟨q, hq⟩ : ∃ q, q = s.tdiv s2 := ⟨_, rfl⟩
  obtain ⟨r, hr⟩ : ∃ r, r = s.tmod s2 := ⟨_, rfl⟩
  have hqa : q.natAbs < 4611686018427387904 := by rw [hq]; exact HQA.out
  have hra : r.natAbs < 4611686018427387904 := by rw [hr]; exact HRA.out
  rw [← hq, ← hr]
  have HQA' := Lib.hid hqa
  have HRA' := Lib.hid hra
  have HQE := Lib.hid hq
  have HRE := Lib.hid hr
  clear hq hr hqa hra
  obtain ⟨hq0, hq1, hq2, hq3⟩ := HRS1.out.stored2 HRT1.out (by omega) (.int .i64 q) (.slice none 0 0) (.int .i64 r) (.slice none 0 0)
  have HUF := Lib.hid ((HU1.out.stored (show w.heap.size ≤ w.heap.size + 1 + 1 by omega) (.int .i64 q) (.slice none 0 0)).stored (show w.heap.size ≤ w.heap.size + 1 + 1 + 1 by omega) (.int .i64 r) (.slice none 0 0))
  go_wp2
  refine bodyPost_ret (by simp [results, Tryz.results135, go_sem, hq0, hq1, hq2, hq3]; try rfl) rfl ?_
  exact ⟨_, _, rfl, by rw [← HQE.out]; exact IV.small HQA'.out, by rw [← HRE.out]; exact IV.small HRA'.out, HUF.out.trans (Up.drew _)⟩
theorem tdiv_sign {s s2 a b : Int} (hg1 : s < 0 ↔ a < 0) (hg2 : s2 < 0 ↔ b < 0) : (if (!(decide (s < 0) == decide (s2 < 0))) = true then -((a.natAbs / b.natAbs : Nat) : Int) else ((a.natAbs / b.natAbs : Nat) : Int)) = a.tdiv b := by
  have e1 : decide (s < 0) = decide (a < 0) := by simp [hg1]
  have e2 : decide (s2 < 0) = decide (b < 0) := by simp [hg2]
  rw [e1, e2]
  rcases Int.lt_or_le a 0 with ha | ha <;> rcases Int.lt_or_le b 0 with hb | hb
  · obtain ⟨x, rfl⟩ : ∃ x : Nat, a = -(x : Int) := ⟨a.natAbs, by omega⟩
    obtain ⟨y, rfl⟩ : ∃ y : Nat, b = -(y : Int) := ⟨b.natAbs, by omega⟩
    rw [Int.neg_tdiv_neg, ← Int.ofNat_tdiv]
    rw [decide_eq_true ha, decide_eq_true hb, if_neg (by decide)]; simp
  · obtain ⟨x, rfl⟩ : ∃ x : Nat, a = -(x : Int) := ⟨a.natAbs, by omega⟩
    obtain ⟨y, rfl⟩ : ∃ y : Nat, b = (y : Int) := ⟨b.natAbs, by omega⟩
    have hb' : ¬ (y : Int) < 0 := by omega
    rw [Int.neg_tdiv, ← Int.ofNat_tdiv]
    rw [decide_eq_true ha, decide_eq_false hb', if_pos (by decide)]; simp
  · obtain ⟨x, rfl⟩ : ∃ x : Nat, a = (x : Int) := ⟨a.natAbs, by omega⟩
    obtain ⟨y, rfl⟩ : ∃ y : Nat, b = -(y : Int) := ⟨b.natAbs, by omega⟩
    have ha' : ¬ (x : Int) < 0 := by omega
    rw [Int.tdiv_neg, ← Int.ofNat_tdiv]
    rw [decide_eq_false ha', decide_eq_true hb, if_pos (by decide)]; simp
  · obtain ⟨x, rfl⟩ : ∃ x : Nat, a = (x : Int) := ⟨a.natAbs, by omega⟩
    obtain ⟨y, rfl⟩ : ∃ y : Nat, b = (y : Int) := ⟨b.natAbs, by omega⟩
    have ha' : ¬ (x : Int) < 0 := by omega
    have hb' : ¬ (y : Int) < 0 := by omega
    rw [← Int.ofNat_tdiv]
    rw [decide_eq_false ha', decide_eq_false hb', if_neg (by decide)]; simp
theorem tmod_sign {s a b : Int} (hg1 : s < 0 ↔ a < 0) : (if decide (s < 0) = true then -((a.natAbs % b.natAbs : Nat) : Int) else ((a.natAbs % b.natAbs : Nat) : Int)) = a.tmod b := by
  have e1 : decide (s < 0) = decide (a < 0) := by simp [hg1]
  rw [e1]
  have hbb : a.tmod b = a.tmod (b.natAbs : Int) := by
    rcases Int.natAbs_eq b with h | h
    · rw [← h]
    · conv => lhs; rw [h, Int.tmod_neg]
  rw [hbb]
  rcases Int.lt_or_le a 0 with ha | ha
  · obtain ⟨x, rfl⟩ : ∃ x : Nat, a = -(x : Int) := ⟨a.natAbs, by omega⟩
    rw [Int.neg_tmod, ← Int.ofNat_tmod, decide_eq_true ha, if_pos rfl]; simp
  · obtain ⟨x, rfl⟩ : ∃ x : Nat, a = (x : Int) := ⟨a.natAbs, by omega⟩
    have ha' : ¬ (x : Int) < 0 := by omega
    rw [← Int.ofNat_tmod, decide_eq_false ha', if_neg (by decide)]; simp
set_option maxHeartbeats 4000000 in
set_option maxRecDepth 10000 in
theorem intQuoRem_large (v1 v2 : Value) (a b : Int) (w : World) (h1 : IV w v1 a) (h2 : IV w v2 b) (hl : ¬ (a.natAbs < 4611686018427387904 ∧ b.natAbs < 4611686018427387904)) (ha : bl a ≤ 67108864) (hz : b ≠ 0) :
    Calls Tryz.prog 135 #[v1, v2] w fun e w' => ∃ v3 v4, e = .returned (.tuple #[v3, v4]) ∧ IV w' v3 (a.tdiv b) ∧ IV w' v4 (a.tmod b) ∧ Up w w' := by
  have HBS := Lib.hid (fun W (hu : Up w W) => bothSmall_any v1 v2 a b W (h1.up hu) (h2.up hu))
  have HD1 := Lib.hid (fun W (hu : Up w W) => digits_any v1 a W (h1.up hu))
  have HD2 := Lib.hid (fun W (hu : Up w W) => digits_any v2 b W (h2.up hu))
  obtain ⟨s, A, n, c, rfl, hp1, -, -, hn, -⟩ := h1.open_
  obtain ⟨s2, A2, n2, c2, rfl, hp2, -, -, hn2, -⟩ := h2.open_
  have HSQ := Lib.hid (tdiv_sign (IV.sgn hp1) (IV.sgn hp2))
  have HSR := Lib.hid (tmod_sign (b := b) (IV.sgn hp1))
  have HHA := Lib.hid ha
  have HBP := Lib.hid (show 0 < b.natAbs by omega)
  have hdec : decide (a.natAbs < 4611686018427387904 ∧ b.natAbs < 4611686018427387904) = false := by simpa using hl
  rw [hdec] at HBS
  clear h1 h2 hp1 hp2 ha hdec hl hz
  obtain ⟨ng, hng⟩ : ∃ ng : Bool, ng = (!(decide (s < 0) == decide (s2 < 0))) := ⟨_, rfl⟩
  rw [← hng] at HSQ
  have HNG := Lib.hid hng
  clear hng
  go_enter Tryz.func135, Tryz.ntmps135
  go_wp2_with fail
  obtain ⟨wB, hwB, hbx, hrs, hrt, hu0⟩ := start4 w s (.slice A n c) s2 (.slice A2 n2 c2)
  rw [hwB]
  clear hwB
  refine (HBS.out _ hu0).mono ?_
  rintro e w1 ⟨rfl, hu1⟩
  have HBX1 := Lib.hid (hbx.up hu1)
  obtain ⟨a0, a1, b0, b1, la, lb⟩ := HBX1.out
  have HRS1 := Lib.hid (hrs.up hu1)
  have HRT1 := Lib.hid (hrt.up hu1)
  have HU1 := Lib.hid (hu0.trans hu1)
  clear hbx hrs hrt hu0 hu1
  have hne1 : (w.heap.size = w.heap.size + 1 + 1) = False := by simp; omega
  have hne2 : (w.heap.size + 1 + 1 = w.heap.size) = False := by simp; omega
  have hne3 : (w.heap.size = w.heap.size + 1 + 1 + 1) = False := by simp; omega
  have hne4 : (w.heap.size + 1 + 1 + 1 = w.heap.size) = False := by simp; omega
  go_wp2_with fail
  go_region_held3 (fun w' => w'.cell? ⟨w.heap.size, 0, none⟩ = some (.int .i64 s) ∧ w'.cell? ⟨w.heap.size, 1, none⟩ = some (.slice A n c) ∧ w'.cell? ⟨w.heap.size + 1, 0, none⟩ = some (.int .i64 s2) ∧ w'.cell? ⟨w.heap.size + 1, 1, none⟩ = some (.slice A2 n2 c2)) (go_keep)
    ((first
      | (go_at_call_of 132 (Value.int IntKind.i64 s)
         refine (HD1.out _ (HU1.out.trans (Up.drew w1))).mono ?_
         rintro e w2 ⟨d1, rfl, hd1, hu2⟩
         have HBX2 := Lib.hid ((HBX1.out.up (Up.drew w1)).up hu2)
         obtain ⟨a0, a1, b0, b1, la, lb⟩ := HBX2.out
         have HDD1 := Lib.hid hd1
         have HU2 := Lib.hid ((HU1.out.trans (Up.drew w1)).trans hu2)
         have HRS2 := Lib.hid ((HRS1.out.up (Up.drew w1)).up hu2)
         have HRT2 := Lib.hid ((HRT1.out.up (Up.drew w1)).up hu2)
         clear hd1 hu2)
      | (go_at_call_of 132 (Value.int IntKind.i64 s2)
         refine (HD2.out _ HU2.out).mono ?_
         rintro e w3 ⟨d2, rfl, hd2, hu3⟩
         have HBX3 := Lib.hid (HBX2.out.up hu3)
         obtain ⟨a0, a1, b0, b1, la, lb⟩ := HBX3.out
         have HDD2 := Lib.hid hd2
         have HDD1b := Lib.hid (Sl.up HDD1.out hu3)
         have HU3 := Lib.hid (HU2.out.trans hu3)
         have HRS3 := Lib.hid (HRS2.out.up hu3)
         have HRT3 := Lib.hid (HRT2.out.up hu3)
         clear hd2 hu3)
      | (go_at_call 148
         refine (quoRem_dv _ _ a.natAbs b.natAbs _ HDD1b.out HDD2.out (Nat.le_trans HHA.out (by omega)) HBP.out).mono ?_
         rintro e w4 ⟨d3, d4, rfl, hd3, hd4, hu4⟩
         have HBX4 := Lib.hid (HBX3.out.up hu4)
         obtain ⟨a0, a1, b0, b1, la, lb⟩ := HBX4.out
         have HDD3 := Lib.hid hd3
         have HDD4 := Lib.hid hd4
         have HU4 := Lib.hid (HU3.out.trans hu4)
         have HRS4 := Lib.hid (HRS3.out.up hu4)
         have HRT4 := Lib.hid (HRT3.out.up hu4)
         clear hd3 hd4 hu4)))
  go_wp2_with fail
  go_region_held3 (fun w' => w'.cell? ⟨w.heap.size, 0, none⟩ = some (.int .i64 s) ∧ w'.cell? ⟨w.heap.size + 1, 0, none⟩ = some (.int .i64 s2)) (go_keep)
    ((first
      | (go_at_call_of 131 (Value.bool !(decide (s < 0) == decide (s2 < 0)))
         refine (signed_any _ _ _ _ (Sl.up HDD3.out (Up.drew w4))).mono ?_
         rintro e w5 ⟨v5, rfl, hv5, hu5⟩
         have HBX5 := Lib.hid ((HBX4.out.up (Up.drew w4)).up hu5)
         obtain ⟨a0, a1, b0, b1, la, lb⟩ := HBX5.out
         have HU5 := Lib.hid ((HU4.out.trans (Up.drew w4)).trans hu5)
         have HRS5 := Lib.hid ((HRS4.out.up (Up.drew w4)).up hu5)
         have HRT5 := Lib.hid ((HRT4.out.up (Up.drew w4)).up hu5)
         have HDD5 := Lib.hid (Sl.up (Sl.up HDD4.out (Up.drew w4)) hu5)
         obtain ⟨s5, A5, n5, c5, rfl, -, -, -, -, -⟩ := hv5.open_
         have HV5 := Lib.hid hv5
         clear hv5 hu5)
      | (go_at_call_of 131 (Value.bool (decide (s < 0)))
         refine (signed_any _ _ _ _ HDD5.out).mono ?_
         rintro e w6 ⟨v6, rfl, hv6, hu6⟩
         have HBX6 := Lib.hid (HBX5.out.up hu6)
         obtain ⟨a0, a1, b0, b1, la, lb⟩ := HBX6.out
         have HU6 := Lib.hid (HU5.out.trans hu6)
         have HRS6 := Lib.hid (HRS5.out.up hu6)
         have HRT6 := Lib.hid (HRT5.out.up hu6)
         have HV5b := Lib.hid (HV5.out.up hu6)
         obtain ⟨s6, A6, n6, c6, rfl, -, -, -, -, -⟩ := hv6.open_
         obtain ⟨r0, r1, f0, f1⟩ := HRS6.out.facts
         obtain ⟨r20, r21, f20, f21⟩ := HRT6.out.facts
         have HV6 := Lib.hid hv6
         clear hv6 hu6)))
  obtain ⟨hq0, hq1, hq2, hq3⟩ := HRS6.out.stored2 HRT6.out (by omega) (.int .i64 s5) (.slice A5 n5 c5) (.int .i64 s6) (.slice A6 n6 c6)
  have HUF := Lib.hid ((HU6.out.stored (show w.heap.size ≤ w.heap.size + 1 + 1 by omega) (.int .i64 s5) (.slice A5 n5 c5)).stored (show w.heap.size ≤ w.heap.size + 1 + 1 + 1 by omega) (.int .i64 s6) (.slice A6 n6 c6))
  have HVA := Lib.hid ((HV5b.out.stored HRS6.out (.int .i64 s5) (.slice A5 n5 c5)).stored (HRT6.out.other (by omega) (.int .i64 s5) (.slice A5 n5 c5)) (.int .i64 s6) (.slice A6 n6 c6))
  have HVB := Lib.hid ((HV6.out.stored HRS6.out (.int .i64 s5) (.slice A5 n5 c5)).stored (HRT6.out.other (by omega) (.int .i64 s5) (.slice A5 n5 c5)) (.int .i64 s6) (.slice A6 n6 c6))
  go_wp2
  refine bodyPost_ret (by simp [results, Tryz.results135, go_sem, hq0, hq1, hq2, hq3]; try rfl) rfl ?_
  have hva := HVA.out
  rw [← HNG.out, HSQ.out] at hva
  have hvb := HVB.out
  rw [HSR.out] at hvb
  exact ⟨_, _, rfl, hva, hvb, HUF.out⟩
theorem intQuoRem_any (v1 v2 : Value) (a b : Int) (w : World) (h1 : IV w v1 a) (h2 : IV w v2 b) (ha : bl a ≤ 67108864) (hz : b ≠ 0) :
    Calls Tryz.prog 135 #[v1, v2] w fun e w' => ∃ v3 v4, e = .returned (.tuple #[v3, v4]) ∧ IV w' v3 (a.tdiv b) ∧ IV w' v4 (a.tmod b) ∧ Up w w' := by
  by_cases h : a.natAbs < 4611686018427387904 ∧ b.natAbs < 4611686018427387904
  · exact intQuoRem_small v1 v2 a b w h1 h2 h.1 h.2 hz
  · exact intQuoRem_large v1 v2 a b w h1 h2 h ha hz
end Go.Proofs.YtacbjbnocepnaaaGreatDoor
namespace Go.Proofs.YtacbjbnocepnaaaGreatDoor
open Go.RowKit Fm
set_option maxHeartbeats 1000000 in
set_option maxRecDepth 10000 in
theorem intQuo_any (v1 v2 : Value) (a b : Int) (w : World) (h1 : IV w v1 a) (h2 : IV w v2 b) (ha : bl a ≤ 67108864) (hz : b ≠ 0) :
    Calls Tryz.prog 102 #[v1, v2] w fun e w' => ∃ v3, e = .returned v3 ∧ IV w' v3 (a.tdiv b) ∧ Up w w' := by
  have HQ := Lib.hid (fun W (hu : Up w W) => intQuoRem_any v1 v2 a b W (h1.up hu) (h2.up hu) ha hz)
  obtain ⟨s, A, n, c, rfl, -, -, -, hn, -⟩ := h1.open_
  obtain ⟨s2, A2, n2, c2, rfl, -, -, -, hn2, -⟩ := h2.open_
  clear h1 h2 hz ha
  go_enter Tryz.func102, Tryz.ntmps102
  go_wp2_with fail
  obtain ⟨wB, hwB, hbx, hrs, hu0⟩ := start3 w s (.slice A n c) s2 (.slice A2 n2 c2)
  rw [hwB]
  clear hwB
  refine (HQ.out _ hu0).mono ?_
  rintro e w1 ⟨v3, v4, rfl, hv3, hv4, hu1⟩
  obtain ⟨s3, A3, n3, c3, rfl, -, -, -, -, -⟩ := hv3.open_
  obtain ⟨s4, A4, n4, c4, rfl, -, -, -, -, -⟩ := hv4.open_
  have HRS1 := Lib.hid (hrs.up hu1)
  have HU1 := Lib.hid (hu0.trans hu1)
  have HV3 := Lib.hid hv3
  obtain ⟨r0, r1, f0, f1⟩ := (HRS1.out.up ((Up.alloc w1 (.cells #[.int .i64 s3, .slice A3 n3 c3] 108)).trans (Up.alloc _ (.cells #[.int .i64 s4, .slice A4 n4 c4] 108)))).facts
  have HRS2 := Lib.hid (HRS1.out.up ((Up.alloc w1 (.cells #[.int .i64 s3, .slice A3 n3 c3] 108)).trans (Up.alloc _ (.cells #[.int .i64 s4, .slice A4 n4 c4] 108))))
  have HU2 := Lib.hid (HU1.out.trans ((Up.alloc w1 (.cells #[.int .i64 s3, .slice A3 n3 c3] 108)).trans (Up.alloc _ (.cells #[.int .i64 s4, .slice A4 n4 c4] 108))))
  have HV2 := Lib.hid (HV3.out.up ((Up.alloc w1 (.cells #[.int .i64 s3, .slice A3 n3 c3] 108)).trans (Up.alloc _ (.cells #[.int .i64 s4, .slice A4 n4 c4] 108))))
  have hlt := HRS1.out.lt
  clear hbx hrs hu0 hu1 hv3 hv4
  have hne1 : (w1.heap.size = w.heap.size + 1 + 1) = False := by simp; omega
  have hne2 : (w.heap.size + 1 + 1 = w1.heap.size) = False := by simp; omega
  have hne3 : (w1.heap.size + 1 = w.heap.size + 1 + 1) = False := by simp; omega
  have hne4 : (w.heap.size + 1 + 1 = w1.heap.size + 1) = False := by simp; omega
  obtain ⟨hq0, hq1⟩ := HRS2.out.stored (.int .i64 s3) (.slice A3 n3 c3)
  have HVF := Lib.hid (HV2.out.stored HRS2.out (.int .i64 s3) (.slice A3 n3 c3))
  have HUF := Lib.hid (HU2.out.stored (show w.heap.size ≤ w.heap.size + 1 + 1 by omega) (.int .i64 s3) (.slice A3 n3 c3))
  go_wp2
  refine bodyPost_ret (by simp [results, Tryz.results102, go_sem, hq0, hq1]; try rfl) rfl ?_
  exact ⟨_, rfl, HVF.out, HUF.out⟩
theorem IVp.digits {w : World} {s : Int} {d : Value} {a : Int} (h : IVp w s d a) : ∃ m : Nat, Dv w d m ∧ ((m = 0 ∧ s = a) ∨ (4611686018427387904 ≤ m ∧ m = a.natAbs ∧ s = a.sign)) ∧ (m = 0 → a.natAbs < 4611686018427387904) := by
  rcases h with ⟨h1, h2, h3⟩ | ⟨h1, h2, h3⟩
  · exact ⟨0, by unfold Dv; rw [show digs 4294967296 0 = [] from (digs_eq_nil (by omega)).2 rfl]; exact h3, .inl ⟨rfl, h2⟩, fun _ => h1⟩
  · exact ⟨_, h3, .inr ⟨h1, rfl, h2⟩, fun h => by omega⟩
end Go.Proofs.YtacbjbnocepnaaaGreatDoor
namespace Go.Proofs.YtacbjbnocepnaaaGreatDoor
open Go.RowKit Fm
theorem new_pos {top low : Int} (h : 0 < low) : top.tdiv (Int.gcd top low : Nat) = (Rat.divInt top low).num ∧ low.tdiv (Int.gcd top low : Nat) = ((Rat.divInt top low).den : Int) := by
  have h1 : ((Int.gcd top low : Nat) : Int) ∣ top := Int.gcd_dvd_left ..
  have h2 : ((Int.gcd top low : Nat) : Int) ∣ low := Int.gcd_dvd_right ..
  constructor
  · rw [Rat.num_divInt, Int.sign_eq_one_of_pos h, Int.one_mul, Int.gcd_comm low top, Int.tdiv_eq_ediv_of_dvd h1]
  · rw [Rat.den_divInt, if_neg (by omega), Int.gcd_comm low top, Int.tdiv_eq_ediv_of_dvd h2, Int.natCast_ediv]
    congr 1; omega
theorem new_neg {top low : Int} (h : low < 0) : top.tdiv (-(Int.gcd top low : Nat)) = (Rat.divInt top low).num ∧ low.tdiv (-(Int.gcd top low : Nat)) = ((Rat.divInt top low).den : Int) := by
  have h1 : ((Int.gcd top low : Nat) : Int) ∣ top := Int.gcd_dvd_left ..
  have h2 : ((Int.gcd top low : Nat) : Int) ∣ low := Int.gcd_dvd_right ..
  constructor
  · rw [Rat.num_divInt, Int.sign_eq_neg_one_of_neg h, Int.neg_one_mul, Int.gcd_comm low top, Int.tdiv_neg, Int.tdiv_eq_ediv_of_dvd h1, Int.neg_ediv_of_dvd h1]
  · rw [Rat.den_divInt, if_neg (by omega), Int.gcd_comm low top, Int.tdiv_neg, Int.tdiv_eq_ediv_of_dvd h2, Int.natCast_ediv, ← Int.neg_ediv_of_dvd h2]
    congr 1; omega
end Go.Proofs.YtacbjbnocepnaaaGreatDoor
namespace Go.Proofs.YtacbjbnocepnaaaGreatDoor
open Go.RowKit Fm
def FV (w : World) (v : Value) (q : Rat) : Prop := ∃ s A n c t F m k, v = .agg #[.int .i64 s, .slice A n c, .int .i64 t, .slice F m k] ∧ IV w (.agg #[.int .i64 s, .slice A n c]) q.num ∧ IV w (.agg #[.int .i64 t, .slice F m k]) q.den
theorem FV.up {w w' : World} {v : Value} {q : Rat} (h : FV w v q) (hu : Up w w') : FV w' v q := by
  obtain ⟨s, A, n, c, t, F, m, k, rfl, h1, h2⟩ := h; exact ⟨s, A, n, c, t, F, m, k, rfl, h1.up hu, h2.up hu⟩
def Res4 (w : World) (g : Nat) : Prop := w.heap[g]? = some (.cells #[.int .i64 0, .slice none 0 0, .int .i64 0, .slice none 0 0] 110 (0, 0))
theorem Res4.new (w : World) : Res4 (w.alloc (.cells #[.int .i64 0, .slice none 0 0, .int .i64 0, .slice none 0 0] 110)) w.heap.size := heap_alloc_new w _
theorem Res4.lt {w : World} {g : Nat} (h : Res4 w g) : g < w.heap.size := by
  rcases Nat.lt_or_ge g w.heap.size with h1 | h1
  · exact h1
  · unfold Res4 at h; rw [Array.getElem?_eq_none h1] at h; cases h
theorem Res4.up {w w' : World} {g : Nat} (h : Res4 w g) (hu : Up w w') : Res4 w' g := (hu.block g h.lt).trans h
theorem Res4.facts {w : World} {g : Nat} (h : Res4 w g) : w.cell? ⟨g, 0, none⟩ = some (.int .i64 0) ∧ w.cell? ⟨g, 1, none⟩ = some (.slice none 0 0) ∧ w.cell? ⟨g, 2, none⟩ = some (.int .i64 0) ∧ w.cell? ⟨g, 3, none⟩ = some (.slice none 0 0) ∧
    w.frozen? ⟨g, 0, none⟩ = false ∧ w.frozen? ⟨g, 1, none⟩ = false ∧ w.frozen? ⟨g, 2, none⟩ = false ∧ w.frozen? ⟨g, 3, none⟩ = false :=
  ⟨by rw [cell_of_row w g 0 _ _ _ h]; rfl, by rw [cell_of_row w g 1 _ _ _ h]; rfl, by rw [cell_of_row w g 2 _ _ _ h]; rfl, by rw [cell_of_row w g 3 _ _ _ h]; rfl,
   by unfold Res4 at h; simp [World.frozen?, h], by unfold Res4 at h; simp [World.frozen?, h], by unfold Res4 at h; simp [World.frozen?, h], by unfold Res4 at h; simp [World.frozen?, h]⟩
theorem Res4.not_digit {w : World} {g : Nat} (h : Res4 w g) (i x : Nat) : w.cell? ⟨g, i, none⟩ ≠ some (.int .u32 (x : Int)) := by
  rw [cell_of_row w g i _ _ _ h]
  match i with
  | 0 => intro e; injection e with e; injection e with e1 e2; cases e1
  | 1 => intro e; injection e with e; cases e
  | 2 => intro e; injection e with e; injection e with e1 e2; cases e1
  | 3 => intro e; injection e with e; cases e
  | k + 4 => simp
def put4 (w : World) (g : Nat) (x y z u : Value) : World := (((w.setCell ⟨g, 0, none⟩ x).setCell ⟨g, 1, none⟩ y).setCell ⟨g, 2, none⟩ z).setCell ⟨g, 3, none⟩ u
theorem Res4.stored {w : World} {g : Nat} (h : Res4 w g) (x y z u : Value) : (put4 w g x y z u).cell? ⟨g, 0, none⟩ = some x ∧ (put4 w g x y z u).cell? ⟨g, 1, none⟩ = some y ∧ (put4 w g x y z u).cell? ⟨g, 2, none⟩ = some z ∧ (put4 w g x y z u).cell? ⟨g, 3, none⟩ = some u := by
  unfold Res4 at h
  have h1 : (put4 w g x y z u).heap[g]? = some (.cells #[x, y, z, u] 110 (0, 0)) := by
    simp [put4, World.setCell, Array.getElem?_modify, h]
  exact ⟨by rw [cell_of_row _ g 0 _ _ _ h1]; rfl, by rw [cell_of_row _ g 1 _ _ _ h1]; rfl, by rw [cell_of_row _ g 2 _ _ _ h1]; rfl, by rw [cell_of_row _ g 3 _ _ _ h1]; rfl⟩
theorem Up.put4 {w0 w : World} {g : Nat} (h : Up w0 w) (hg : w0.heap.size ≤ g) (x y z u : Value) : Up w0 (put4 w g x y z u) :=
  (((Below.setCell (p := ⟨g, 0, none⟩) h hg x).setCell (p := ⟨g, 1, none⟩) hg y).setCell (p := ⟨g, 2, none⟩) hg z).setCell (p := ⟨g, 3, none⟩) hg u
theorem IV.put4 {w : World} {v : Value} {q : Int} {g : Nat} (h : IV w v q) (hg : Res4 w g) (x y z u : Value) : IV (put4 w g x y z u) v q := by
  obtain ⟨s, d, rfl, hp⟩ := h
  refine ⟨s, d, rfl, ?_⟩
  have hkey : ∀ ds, Sl .u32 w d ds → Sl .u32 (Go.Proofs.YtacbjbnocepnaaaGreatDoor.put4 w g x y z u) d ds := by
    rintro ds ⟨A, c, rfl, h1, h2, h3⟩
    refine ⟨A, c, rfl, h1, h2, fun hn => ?_⟩
    obtain ⟨b, off, rfl, hb, hc⟩ := h3 hn
    have hne : b ≠ g := by
      rintro rfl
      exact hg.not_digit _ _ (hc 0 (List.length_pos_iff.2 hn))
    refine ⟨b, off, rfl, by simpa [Go.Proofs.YtacbjbnocepnaaaGreatDoor.put4, World.setCell] using hb, fun i hi => ?_⟩
    unfold Go.Proofs.YtacbjbnocepnaaaGreatDoor.put4
    rw [World.cell?_setCell_other _ _ _ _ (by intro e; injection e with e; exact hne e.symm), World.cell?_setCell_other _ _ _ _ (by intro e; injection e with e; exact hne e.symm), World.cell?_setCell_other _ _ _ _ (by intro e; injection e with e; exact hne e.symm), World.cell?_setCell_other _ _ _ _ (by intro e; injection e with e; exact hne e.symm)]
    exact hc i hi
  rcases hp with ⟨h1, h2, h3⟩ | ⟨h1, h2, h3⟩
  · exact .inl ⟨h1, h2, hkey _ h3⟩
  · exact .inr ⟨h1, h2, hkey _ h3⟩
structure Boxes4 (w : World) (ga gb : Nat) (s : Int) (d : Value) (t : Int) (f : Value) (s2 : Int) (d2 : Value) (t2 : Int) (f2 : Value) : Prop where
  a0 : w.cell? ⟨ga, 0, none⟩ = some (.int .i64 s)
  a1 : w.cell? ⟨ga, 1, none⟩ = some d
  a2 : w.cell? ⟨ga, 2, none⟩ = some (.int .i64 t)
  a3 : w.cell? ⟨ga, 3, none⟩ = some f
  b0 : w.cell? ⟨gb, 0, none⟩ = some (.int .i64 s2)
  b1 : w.cell? ⟨gb, 1, none⟩ = some d2
  b2 : w.cell? ⟨gb, 2, none⟩ = some (.int .i64 t2)
  b3 : w.cell? ⟨gb, 3, none⟩ = some f2
  la : ga < w.heap.size
  lb : gb < w.heap.size
theorem Boxes4.up {w w' : World} {ga gb : Nat} {s s2 t t2 : Int} {d d2 f f2 : Value} (h : Boxes4 w ga gb s d t f s2 d2 t2 f2) (hu : Up w w') : Boxes4 w' ga gb s d t f s2 d2 t2 f2 :=
  ⟨(hu.cells.1 _ _ h.la).trans h.a0, (hu.cells.1 _ _ h.la).trans h.a1, (hu.cells.1 _ _ h.la).trans h.a2, (hu.cells.1 _ _ h.la).trans h.a3, (hu.cells.1 _ _ h.lb).trans h.b0, (hu.cells.1 _ _ h.lb).trans h.b1, (hu.cells.1 _ _ h.lb).trans h.b2, (hu.cells.1 _ _ h.lb).trans h.b3, Nat.lt_of_lt_of_le h.la hu.size, Nat.lt_of_lt_of_le h.lb hu.size⟩
theorem start24 (w : World) (s : Int) (d : Value) (s2 : Int) (d2 : Value) :
    ∃ wB, (((w.alloc (.cells #[.int .i64 s, d] 108)).alloc (.cells #[.int .i64 s2, d2] 108)).alloc (.cells #[.int .i64 0, .slice none 0 0, .int .i64 0, .slice none 0 0] 110)) = wB ∧
      Boxes wB w.heap.size (w.heap.size + 1) s d s2 d2 ∧ Res4 wB (w.heap.size + 1 + 1) ∧ Up w wB :=
  ⟨_, rfl, Boxes.start w s d s2 d2 _, by
    have := Res4.new ((w.alloc (.cells #[.int .i64 s, d] 108)).alloc (.cells #[.int .i64 s2, d2] 108))
    simpa using this, Up.three w _ _ _⟩
end Go.Proofs.YtacbjbnocepnaaaGreatDoor
namespace Go.Proofs.YtacbjbnocepnaaaGreatDoor
open Go.RowKit Fm
def Cell2 (w : World) (g : Nat) (s : Int) (A : Option Addr) (n c : Nat) : Prop := w.heap[g]? = some (.cells #[.int .i64 s, .slice A n c] 108 (0, 0))
theorem Cell2.lt {w : World} {g : Nat} {s : Int} {A : Option Addr} {n c : Nat} (h : Cell2 w g s A n c) : g < w.heap.size := by
  rcases Nat.lt_or_ge g w.heap.size with h1 | h1
  · exact h1
  · unfold Cell2 at h; rw [Array.getElem?_eq_none h1] at h; cases h
theorem Cell2.up {w w' : World} {g : Nat} {s : Int} {A : Option Addr} {n c : Nat} (h : Cell2 w g s A n c) (hu : Up w w') : Cell2 w' g s A n c := (hu.block g h.lt).trans h
theorem Cell2.facts {w : World} {g : Nat} {s : Int} {A : Option Addr} {n c : Nat} (h : Cell2 w g s A n c) : w.cell? ⟨g, 0, none⟩ = some (.int .i64 s) ∧ w.cell? ⟨g, 1, none⟩ = some (.slice A n c) ∧ w.frozen? ⟨g, 0, none⟩ = false ∧ w.frozen? ⟨g, 1, none⟩ = false ∧ g < w.heap.size :=
  ⟨by rw [cell_of_row w g 0 _ _ _ h]; rfl, by rw [cell_of_row w g 1 _ _ _ h]; rfl, by unfold Cell2 at h; simp [World.frozen?, h], by unfold Cell2 at h; simp [World.frozen?, h], h.lt⟩
theorem Cell2.new (w : World) (s : Int) (A : Option Addr) (n c : Nat) : Cell2 (w.alloc (.cells #[.int .i64 s, .slice A n c] 108)) w.heap.size s A n c := heap_alloc_new w _
theorem Cell2.set {w : World} {g : Nat} {s : Int} {A : Option Addr} {n c : Nat} (h : Cell2 w g s A n c) (s' : Int) (A' : Option Addr) (n' c' : Nat) : Cell2 ((w.setCell ⟨g, 0, none⟩ (.int .i64 s')).setCell ⟨g, 1, none⟩ (.slice A' n' c')) g s' A' n' c' := by
  unfold Cell2 at *
  simp [World.setCell, Array.getElem?_modify, h]
theorem Cell2.not_digit {w : World} {g : Nat} {s : Int} {A : Option Addr} {n c : Nat} (h : Cell2 w g s A n c) (i x : Nat) : w.cell? ⟨g, i, none⟩ ≠ some (.int .u32 (x : Int)) := by
  rw [cell_of_row w g i _ _ _ h]
  match i with
  | 0 => intro e; injection e with e; injection e with e1 e2; cases e1
  | 1 => intro e; injection e with e; cases e
  | k + 2 => simp
theorem IV.set2 {w : World} {v : Value} {z : Int} {g : Nat} (h : IV w v z) (hg : ∀ i x : Nat, w.cell? ⟨g, i, none⟩ ≠ some (.int .u32 (x : Int))) (x y : Value) : IV ((w.setCell ⟨g, 0, none⟩ x).setCell ⟨g, 1, none⟩ y) v z := by
  obtain ⟨s, d, rfl, hp⟩ := h
  refine ⟨s, d, rfl, ?_⟩
  have hkey : ∀ ds, Sl .u32 w d ds → Sl .u32 ((w.setCell ⟨g, 0, none⟩ x).setCell ⟨g, 1, none⟩ y) d ds := by
    rintro ds ⟨A, c, rfl, h1, h2, h3⟩
    refine ⟨A, c, rfl, h1, h2, fun hn => ?_⟩
    obtain ⟨b, off, rfl, hb, hc⟩ := h3 hn
    have hne : b ≠ g := by
      rintro rfl
      exact hg _ _ (hc 0 (List.length_pos_iff.2 hn))
    refine ⟨b, off, rfl, by simpa [World.setCell] using hb, fun i hi => ?_⟩
    rw [World.cell?_setCell_other _ _ _ _ (by intro e; injection e with e; exact hne e.symm), World.cell?_setCell_other _ _ _ _ (by intro e; injection e with e; exact hne e.symm)]
    exact hc i hi
  rcases hp with ⟨h1, h2, h3⟩ | ⟨h1, h2, h3⟩
  · exact .inl ⟨h1, h2, hkey _ h3⟩
  · exact .inr ⟨h1, h2, hkey _ h3⟩
set_option maxHeartbeats 4000000 in
set_option maxRecDepth 10000 in
theorem new_pos_any (v1 v2 : Value) (a b : Int) (w : World) (h1 : IV w v1 a) (h2 : IV w v2 b) (hs : 0 < b) (ha : bl a ≤ 67108864) (hb : bl b ≤ 67108864) (ht : Tab w) :
    Calls Tryz.prog 60 #[v1, v2] w fun e w' => ∃ v, e = .returned v ∧ FV w' v (Rat.divInt a b) ∧ Up w w' := by
  have HG := Lib.hid (fun W (hu : Up w W) => intGcd_any v1 v2 a b W (h1.up hu) (h2.up hu) ha hb (ht.up hu))
  have HSG := Lib.hid (fun W (hu : Up w W) => intSign_any v2 b W (h2.up hu))
  have hgz : ((Int.gcd a b : Nat) : Int) ≠ 0 := by
    intro h; have := Int.gcd_eq_zero_iff.1 (by omega : Int.gcd a b = 0); omega
  have HQ1 := Lib.hid (fun W v (hu : Up w W) (hv : IV W v (((Int.gcd a b : Nat) : Int))) => intQuo_any v1 v a _ W (h1.up hu) hv ha (by omega))
  have HQ2 := Lib.hid (fun W v (hu : Up w W) (hv : IV W v (((Int.gcd a b : Nat) : Int))) => intQuo_any v2 v b _ W (h2.up hu) hv hb (by omega))
  have HEQ := Lib.hid (new_pos (top := a) hs)
  have hsg : b.sign = 1 := Int.sign_eq_one_of_pos hs
  rw [hsg] at HSG
  obtain ⟨s, A, n, c, rfl, -, -, -, hn, -⟩ := h1.open_
  obtain ⟨s2, A2, n2, c2, rfl, -, -, -, hn2, -⟩ := h2.open_
  clear h1 h2 ha hb ht hgz hs hsg
  go_enter Tryz.func60, Tryz.ntmps60
  go_wp2_with fail
  obtain ⟨wB, hwB, hbx, hrs, hu0⟩ := start24 w s (.slice A n c) s2 (.slice A2 n2 c2)
  rw [hwB]
  clear hwB
  refine (HG.out _ hu0).mono ?_
  rintro e w1 ⟨v3, rfl, hv3, hu1⟩
  obtain ⟨s3, A3, n3, c3, rfl, -, -, -, -, -⟩ := hv3.open_
  have HBX := Lib.hid (hbx.up hu1)
  have HRS := Lib.hid (hrs.up hu1)
  have HU := Lib.hid (hu0.trans hu1)
  have hszB : w.heap.size + 1 + 1 < w1.heap.size := (hrs.up hu1).lt
  have hbw := HBX.out.up (Up.alloc w1 (.cells #[.int .i64 s3, .slice A3 n3 c3] 108))
  have HC := Lib.hid (Cell2.new w1 s3 A3 n3 c3)
  have HV3 := Lib.hid (hv3.up (Up.alloc w1 (.cells #[.int .i64 s3, .slice A3 n3 c3] 108)))
  clear hbx hrs hu0 hu1 hv3
  obtain ⟨a0, a1, b0, b1, la, lb⟩ := hbw
  go_wp2_with fail
  refine (HSG.out _ (HU.out.trans (Up.alloc _ _))).mono ?_
  rintro e w2 ⟨rfl, hu2⟩
  have HC2 := Lib.hid (HC.out.up hu2)
  have HP2 := Lib.hid ((Up.alloc _ _).trans hu2)
  have HV2 := Lib.hid (HV3.out.up hu2)
  clear hu2 a0 a1 b0 b1 la lb HC HV3
  obtain ⟨a0, a1, b0, b1, la, lb⟩ := HBX.out.up HP2.out
  obtain ⟨c0, c1, g0, g1, lc⟩ := HC2.out.facts
  go_wp2_with fail
  have hne1 : (w.heap.size = w.heap.size + 1 + 1) = False := by simp; omega
  have hne2 : (w.heap.size + 1 + 1 = w.heap.size) = False := by simp; omega
  have hne3 : (w1.heap.size = w.heap.size + 1 + 1) = False := by simp; omega
  have hne4 : (w.heap.size + 1 + 1 = w1.heap.size) = False := by simp; omega
  go_region_held3 (fun w' => w'.cell? ⟨w.heap.size, 0, none⟩ = some (.int .i64 s) ∧ w'.cell? ⟨w.heap.size, 1, none⟩ = some (.slice A n c) ∧ w'.cell? ⟨w.heap.size + 1, 0, none⟩ = some (.int .i64 s2) ∧ w'.cell? ⟨w.heap.size + 1, 1, none⟩ = some (.slice A2 n2 c2) ∧ w'.cell? ⟨w1.heap.size, 0, none⟩ = some (.int .i64 s3) ∧ w'.cell? ⟨w1.heap.size, 1, none⟩ = some (.slice A3 n3 c3)) (go_keep)
    ((first
      | (go_at_call_of 102 (Value.int IntKind.i64 s)
         refine (HQ1.out _ _ ((HU.out.trans HP2.out).trans (Up.drew w2)) (HV2.out.up (Up.drew w2))).mono ?_
         rintro e w5 ⟨v5, rfl, hv5, hu5⟩
         have HP5 := Lib.hid ((HP2.out.trans (Up.drew w2)).trans hu5)
         obtain ⟨a0, a1, b0, b1, la, lb⟩ := HBX.out.up HP5.out
         obtain ⟨c0, c1, g0, g1, lc⟩ := ((HC2.out.up (Up.drew w2)).up hu5).facts
         have HC5 := Lib.hid ((HC2.out.up (Up.drew w2)).up hu5)
         have HVD := Lib.hid ((HV2.out.up (Up.drew w2)).up hu5)
         obtain ⟨s5, A5, n5, c5, rfl, -, -, -, -, -⟩ := hv5.open_
         have HV5 := Lib.hid hv5
         clear hv5 hu5)
      | (go_at_call_of 102 (Value.int IntKind.i64 s2)
         refine (HQ2.out _ _ (HU.out.trans HP5.out) HVD.out).mono ?_
         rintro e w6 ⟨v6, rfl, hv6, hu6⟩
         have HP6 := Lib.hid (HP5.out.trans hu6)
         obtain ⟨a0, a1, b0, b1, la, lb⟩ := HBX.out.up HP6.out
         obtain ⟨c0, c1, g0, g1, lc⟩ := (HC5.out.up hu6).facts
         obtain ⟨r0, r1, r2, r3, f0, f1, f2, f3⟩ := (HRS.out.up HP6.out).facts
         have HRS6 := Lib.hid (HRS.out.up HP6.out)
         have HV5b := Lib.hid (HV5.out.up hu6)
         obtain ⟨s6, A6, n6, c6, rfl, -, -, -, -, -⟩ := hv6.open_
         have HV6 := Lib.hid hv6
         clear hv6 hu6)))
  have hq := HRS6.out.stored (.int .i64 s5) (.slice A5 n5 c5) (.int .i64 s6) (.slice A6 n6 c6)
  have HVA := Lib.hid (HV5b.out.put4 HRS6.out (.int .i64 s5) (.slice A5 n5 c5) (.int .i64 s6) (.slice A6 n6 c6))
  have HVB := Lib.hid (HV6.out.put4 HRS6.out (.int .i64 s5) (.slice A5 n5 c5) (.int .i64 s6) (.slice A6 n6 c6))
  have HUF := Lib.hid ((HU.out.trans HP6.out).put4 (show w.heap.size ≤ w.heap.size + 1 + 1 by omega) (.int .i64 s5) (.slice A5 n5 c5) (.int .i64 s6) (.slice A6 n6 c6))
  unfold put4 at hq HVA HVB HUF
  obtain ⟨hq0, hq1, hq2, hq3⟩ := hq
  go_wp2
  refine bodyPost_ret (by simp [results, Tryz.results60, go_sem, hq0, hq1, hq2, hq3]; try rfl) rfl ?_
  have hva := HVA.out
  have hvb := HVB.out
  rw [HEQ.out.1] at hva
  rw [HEQ.out.2] at hvb
  exact ⟨_, rfl, ⟨_, _, _, _, _, _, _, _, rfl, hva, hvb⟩, HUF.out⟩
set_option maxHeartbeats 4000000 in
set_option maxRecDepth 10000 in
theorem new_neg_any (v1 v2 : Value) (a b : Int) (w : World) (h1 : IV w v1 a) (h2 : IV w v2 b) (hs : b < 0) (ha : bl a ≤ 67108864) (hb : bl b ≤ 67108864) (ht : Tab w) :
    Calls Tryz.prog 60 #[v1, v2] w fun e w' => ∃ v, e = .returned v ∧ FV w' v (Rat.divInt a b) ∧ Up w w' := by
  have HG := Lib.hid (fun W (hu : Up w W) => intGcd_any v1 v2 a b W (h1.up hu) (h2.up hu) ha hb (ht.up hu))
  have HSG := Lib.hid (fun W (hu : Up w W) => intSign_any v2 b W (h2.up hu))
  have hgz : ((Int.gcd a b : Nat) : Int) ≠ 0 := by
    intro h; have := Int.gcd_eq_zero_iff.1 (by omega : Int.gcd a b = 0); omega
  have HQ1 := Lib.hid (fun W v (hu : Up w W) (hv : IV W v (-((Int.gcd a b : Nat) : Int))) => intQuo_any v1 v a _ W (h1.up hu) hv ha (by omega))
  have HQ2 := Lib.hid (fun W v (hu : Up w W) (hv : IV W v (-((Int.gcd a b : Nat) : Int))) => intQuo_any v2 v b _ W (h2.up hu) hv hb (by omega))
  have HEQ := Lib.hid (new_neg (top := a) hs)
  have hsg : b.sign = -1 := Int.sign_eq_neg_one_of_neg hs
  rw [hsg] at HSG
  obtain ⟨s, A, n, c, rfl, -, -, -, hn, -⟩ := h1.open_
  obtain ⟨s2, A2, n2, c2, rfl, -, -, -, hn2, -⟩ := h2.open_
  clear h1 h2 ha hb ht hgz hs hsg
  go_enter Tryz.func60, Tryz.ntmps60
  go_wp2_with fail
  obtain ⟨wB, hwB, hbx, hrs, hu0⟩ := start24 w s (.slice A n c) s2 (.slice A2 n2 c2)
  rw [hwB]
  clear hwB
  refine (HG.out _ hu0).mono ?_
  rintro e w1 ⟨v3, rfl, hv3, hu1⟩
  obtain ⟨s3, A3, n3, c3, rfl, -, -, -, -, -⟩ := hv3.open_
  have HBX := Lib.hid (hbx.up hu1)
  have HRS := Lib.hid (hrs.up hu1)
  have HU := Lib.hid (hu0.trans hu1)
  have hszB : w.heap.size + 1 + 1 < w1.heap.size := (hrs.up hu1).lt
  have hbw := HBX.out.up (Up.alloc w1 (.cells #[.int .i64 s3, .slice A3 n3 c3] 108))
  have HC := Lib.hid (Cell2.new w1 s3 A3 n3 c3)
  have HV3 := Lib.hid (hv3.up (Up.alloc w1 (.cells #[.int .i64 s3, .slice A3 n3 c3] 108)))
  clear hbx hrs hu0 hu1 hv3
  obtain ⟨a0, a1, b0, b1, la, lb⟩ := hbw
  go_wp2_with fail
  refine (HSG.out _ (HU.out.trans (Up.alloc _ _))).mono ?_
  rintro e w2 ⟨rfl, hu2⟩
  have HC2 := Lib.hid (HC.out.up hu2)
  have HP2 := Lib.hid ((Up.alloc _ _).trans hu2)
  have HV2 := Lib.hid (HV3.out.up hu2)
  clear hu2 a0 a1 b0 b1 la lb HC HV3
  obtain ⟨a0, a1, b0, b1, la, lb⟩ := HBX.out.up HP2.out
  obtain ⟨c0, c1, g0, g1, lc⟩ := HC2.out.facts
  go_wp2_with fail
  refine (neg_any _ _ _ HV2.out).mono ?_
  rintro e w3 ⟨v4, rfl, hv4, hu3⟩
  obtain ⟨s4, A4, n4, c4, rfl, -, -, -, -, -⟩ := hv4.open_
  have hc3 := HC2.out.up hu3
  have HC4 := Lib.hid (hc3.set s4 A4 n4 c4)
  have HP4 := Lib.hid ((HP2.out.trans hu3).stored (Nat.le_refl _) (.int .i64 s4) (.slice A4 n4 c4))
  have HV4 := Lib.hid (hv4.set2 hc3.not_digit (.int .i64 s4) (.slice A4 n4 c4))
  clear a0 a1 b0 b1 la lb c0 c1 g0 g1 lc
  obtain ⟨c0, c1, g0, g1, lc⟩ := hc3.facts
  obtain ⟨a0, a1, b0, b1, la, lb⟩ := HBX.out.up HP4.out
  clear hu3 hv4 hc3
  go_wp2_with fail
  obtain ⟨w4, hw4⟩ : ∃ w4, w4 = (w3.setCell ⟨w1.heap.size, 0, none⟩ (.int .i64 s4)).setCell ⟨w1.heap.size, 1, none⟩ (.slice A4 n4 c4) := ⟨_, rfl⟩
  rw [← hw4] at HC4 HP4 HV4 ⊢
  clear a0 a1 b0 b1 la lb c0 c1 g0 g1 lc hw4
  obtain ⟨a0, a1, b0, b1, la, lb⟩ := HBX.out.up HP4.out
  obtain ⟨c0, c1, g0, g1, lc⟩ := HC4.out.facts
  have hne1 : (w.heap.size = w.heap.size + 1 + 1) = False := by simp; omega
  have hne2 : (w.heap.size + 1 + 1 = w.heap.size) = False := by simp; omega
  have hne3 : (w1.heap.size = w.heap.size + 1 + 1) = False := by simp; omega
  have hne4 : (w.heap.size + 1 + 1 = w1.heap.size) = False := by simp; omega
  go_region_held3 (fun w' => w'.cell? ⟨w.heap.size, 0, none⟩ = some (.int .i64 s) ∧ w'.cell? ⟨w.heap.size, 1, none⟩ = some (.slice A n c) ∧ w'.cell? ⟨w.heap.size + 1, 0, none⟩ = some (.int .i64 s2) ∧ w'.cell? ⟨w.heap.size + 1, 1, none⟩ = some (.slice A2 n2 c2) ∧ w'.cell? ⟨w1.heap.size, 0, none⟩ = some (.int .i64 s4) ∧ w'.cell? ⟨w1.heap.size, 1, none⟩ = some (.slice A4 n4 c4)) (go_keep)
    ((first
      | (go_at_call_of 102 (Value.int IntKind.i64 s)
         refine (HQ1.out _ _ ((HU.out.trans HP4.out).trans (Up.drew w4)) (HV4.out.up (Up.drew w4))).mono ?_
         rintro e w5 ⟨v5, rfl, hv5, hu5⟩
         have HP5 := Lib.hid ((HP4.out.trans (Up.drew w4)).trans hu5)
         obtain ⟨a0, a1, b0, b1, la, lb⟩ := HBX.out.up HP5.out
         obtain ⟨c0, c1, g0, g1, lc⟩ := ((HC4.out.up (Up.drew w4)).up hu5).facts
         have HC5 := Lib.hid ((HC4.out.up (Up.drew w4)).up hu5)
         have HVD := Lib.hid ((HV4.out.up (Up.drew w4)).up hu5)
         obtain ⟨s5, A5, n5, c5, rfl, -, -, -, -, -⟩ := hv5.open_
         have HV5 := Lib.hid hv5
         clear hv5 hu5)
      | (go_at_call_of 102 (Value.int IntKind.i64 s2)
         refine (HQ2.out _ _ (HU.out.trans HP5.out) HVD.out).mono ?_
         rintro e w6 ⟨v6, rfl, hv6, hu6⟩
         have HP6 := Lib.hid (HP5.out.trans hu6)
         obtain ⟨a0, a1, b0, b1, la, lb⟩ := HBX.out.up HP6.out
         obtain ⟨c0, c1, g0, g1, lc⟩ := (HC5.out.up hu6).facts
         obtain ⟨r0, r1, r2, r3, f0, f1, f2, f3⟩ := (HRS.out.up HP6.out).facts
         have HRS6 := Lib.hid (HRS.out.up HP6.out)
         have HV5b := Lib.hid (HV5.out.up hu6)
         obtain ⟨s6, A6, n6, c6, rfl, -, -, -, -, -⟩ := hv6.open_
         have HV6 := Lib.hid hv6
         clear hv6 hu6)))
  have hq := HRS6.out.stored (.int .i64 s5) (.slice A5 n5 c5) (.int .i64 s6) (.slice A6 n6 c6)
  have HVA := Lib.hid (HV5b.out.put4 HRS6.out (.int .i64 s5) (.slice A5 n5 c5) (.int .i64 s6) (.slice A6 n6 c6))
  have HVB := Lib.hid (HV6.out.put4 HRS6.out (.int .i64 s5) (.slice A5 n5 c5) (.int .i64 s6) (.slice A6 n6 c6))
  have HUF := Lib.hid ((HU.out.trans HP6.out).put4 (show w.heap.size ≤ w.heap.size + 1 + 1 by omega) (.int .i64 s5) (.slice A5 n5 c5) (.int .i64 s6) (.slice A6 n6 c6))
  unfold put4 at hq HVA HVB HUF
  obtain ⟨hq0, hq1, hq2, hq3⟩ := hq
  go_wp2
  refine bodyPost_ret (by simp [results, Tryz.results60, go_sem, hq0, hq1, hq2, hq3]; try rfl) rfl ?_
  have hva := HVA.out
  have hvb := HVB.out
  rw [HEQ.out.1] at hva
  rw [HEQ.out.2] at hvb
  exact ⟨_, rfl, ⟨_, _, _, _, _, _, _, _, rfl, hva, hvb⟩, HUF.out⟩
theorem fracNew_any (v1 v2 : Value) (a b : Int) (w : World) (h1 : IV w v1 a) (h2 : IV w v2 b) (hz : b ≠ 0) (ha : bl a ≤ 67108864) (hb : bl b ≤ 67108864) (ht : Tab w) :
    Calls Tryz.prog 60 #[v1, v2] w fun e w' => ∃ v, e = .returned v ∧ FV w' v (Rat.divInt a b) ∧ Up w w' := by
  rcases Int.lt_or_lt_of_ne hz with h | h
  · exact new_neg_any v1 v2 a b w h1 h2 h ha hb ht
  · exact new_pos_any v1 v2 a b w h1 h2 h ha hb ht
end Go.Proofs.YtacbjbnocepnaaaGreatDoor
namespace Go.Proofs.YtacbjbnocepnaaaGreatDoor
open Go.RowKit Fm
structure FB (q : Rat) (k : Nat) : Prop where
  top : bl q.num ≤ k
  low : bl (q.den : Int) ≤ k
theorem FB.mono {q : Rat} {k l : Nat} (h : FB q k) (hkl : k ≤ l) : FB q l := ⟨Nat.le_trans h.top hkl, Nat.le_trans h.low hkl⟩
theorem bl_mul {x y : Int} {k l m : Nat} (hx : bl x ≤ k) (hy : bl y ≤ l) (hm : k + l ≤ m) : bl (x * y) ≤ m := by
  unfold bl at *
  rw [Int.natAbs_mul]
  refine Nat.le_trans ?_ hm
  have h1 := val_lt (B := 4294967296) (by omega) (digs_ok (B := 4294967296) (by omega) x.natAbs)
  have h2 := val_lt (B := 4294967296) (by omega) (digs_ok (B := 4294967296) (by omega) y.natAbs)
  rw [val_digs (by omega)] at h1 h2
  have h3 := Nat.pow_le_pow_right (n := 4294967296) (by omega) hx
  have h4 := Nat.pow_le_pow_right (n := 4294967296) (by omega) hy
  apply digs_length_le (by omega)
  rw [Nat.pow_add]
  exact Nat.mul_lt_mul'' (Nat.lt_of_lt_of_le h1 h3) (Nat.lt_of_lt_of_le h2 h4)
theorem bl_le_of_le {x y : Nat} (h : x ≤ y) : (digs 4294967296 x).length ≤ (digs 4294967296 y).length := by
  have h1 := val_lt (B := 4294967296) (by omega) (digs_ok (B := 4294967296) (by omega) y)
  rw [val_digs (by omega)] at h1
  exact digs_length_le (by omega) (Nat.lt_of_le_of_lt h h1)
theorem bl_add {x y : Int} {k m : Nat} (hx : bl x ≤ k) (hy : bl y ≤ k) (hm : k + 1 ≤ m) : bl (x + y) ≤ m := by
  have h1 := bl_add_le (m := x.natAbs) (n := y.natAbs) hx hy
  refine Nat.le_trans ?_ (Nat.le_trans h1 hm)
  unfold bl
  have := Int.natAbs_add_le x y
  exact bl_le_of_le this
end Go.Proofs.YtacbjbnocepnaaaGreatDoor
