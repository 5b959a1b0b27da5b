import Derived.Test.YtahmjnjammcifaaDoorInt4
namespace Go.Proofs.YtahmjnjammcifaaDoor
open Go.RowKit Fm

set_option maxHeartbeats 1000000 in
set_option maxRecDepth 10000 in
theorem intMinus_any (v1 v2 : Value) (a b : Int) (w : World) (h1 : IV w v1 a) (h2 : IV w v2 b) (ha : bl a ≤ 67108864) (hb : bl b ≤ 67108864) :
    Calls Tryd.prog 95 #[v1, v2] w fun e w' => ∃ v, e = .returned v ∧ IV w' v (a - b) ∧ Up w w' := by
  have HN := Lib.hid (fun W (hu : Up w W) => neg_any v2 b W (h2.up hu))
  have HP := Lib.hid (fun W v (hu : Up w W) (hv : IV W v (-b)) => intPlus_any v1 v a (-b) W (h1.up hu) hv ha (by unfold bl at *; rwa [Int.natAbs_neg]))
  obtain ⟨s, A, n, c, rfl, -, -, -, hn, -⟩ := h1.open_
  obtain ⟨s2, A2, n2, c2, rfl, -, -, -, hn2, -⟩ := h2.open_
  clear h1 h2
  go_enter Tryd.func95, Tryd.ntmps95
  go_wp2_with fail
  obtain ⟨wB, hwB, hbx, hrs, hu0⟩ := start3 w s (.slice A n c) s2 (.slice A2 n2 c2)
  rw [hwB]
  clear hwB
  have HBX := Lib.hid hbx
  obtain ⟨a0, a1, b0, b1, la, lb⟩ := hbx
  have HRS1 := Lib.hid hrs
  have HU1 := Lib.hid hu0
  clear hrs hu0
  have hne1 : (w.heap.size = w.heap.size + 1 + 1) = False := by simp; omega
  have hne2 : (w.heap.size + 1 + 1 = w.heap.size) = False := by simp; omega
  go_region_held3 (fun w' => w'.cell? ⟨w.heap.size, 0, none⟩ = some (.int .i64 s) ∧ w'.cell? ⟨w.heap.size, 1, none⟩ = some (.slice A n c) ∧ w'.cell? ⟨w.heap.size + 1, 0, none⟩ = some (.int .i64 s2) ∧ w'.cell? ⟨w.heap.size + 1, 1, none⟩ = some (.slice A2 n2 c2)) (go_keep)
    ((first
      | (go_at_call 63
         refine (HN.out _ (HU1.out.trans (Up.drew wB))).mono ?_
         rintro e w2 ⟨d1, rfl, hd1, hu2⟩
         have HDD1 := Lib.hid hd1
         have HU2 := Lib.hid ((HU1.out.trans (Up.drew wB)).trans hu2)
         have HRS2 := Lib.hid ((HRS1.out.up (Up.drew wB)).up hu2)
         have HBX2 := Lib.hid ((HBX.out.up (Up.drew wB)).up hu2)
         obtain ⟨a0, a1, b0, b1, la, lb⟩ := HBX2.out
         clear hd1 hu2)
      | (go_at_call 79
         refine (HP.out _ _ HU2.out HDD1.out).mono ?_
         rintro e w5 ⟨v5, rfl, hv5, hu5⟩
         have HU5 := Lib.hid (HU2.out.trans hu5)
         obtain ⟨a0, a1, b0, b1, la, lb⟩ := HBX2.out.up hu5
         have HRS5 := Lib.hid (HRS2.out.up hu5)
         obtain ⟨s5, A5, n5, c5, rfl, -, -, -, -, -⟩ := hv5.open_
         obtain ⟨r0, r1, f0, f1⟩ := HRS5.out.facts
         have HV5 := Lib.hid hv5
         clear hv5 hu5)))
  obtain ⟨hq0, hq1⟩ := HRS5.out.stored (.int .i64 s5) (.slice A5 n5 c5)
  have HVF := Lib.hid (HV5.out.stored HRS5.out (.int .i64 s5) (.slice A5 n5 c5))
  have HUF := Lib.hid (HU5.out.stored (show w.heap.size ≤ w.heap.size + 1 + 1 by omega) (.int .i64 s5) (.slice A5 n5 c5))
  go_wp2
  refine bodyPost_ret (by simp [results, Tryd.results95, go_sem, hq0, hq1]; try rfl) rfl ?_
  exact ⟨_, rfl, HVF.out, HUF.out⟩

set_option maxRecDepth 10000 in
theorem intCmp_any (v1 v2 : Value) (a b : Int) (w : World) (h1 : IV w v1 a) (h2 : IV w v2 b) (ha : bl a ≤ 67108864) (hb : bl b ≤ 67108864) :
    Calls Tryd.prog 74 #[v1, v2] w fun e w' => e = .returned (.int .i64 (a - b).sign) ∧ Up w w' := by
  have HP := Lib.hid (fun W (hu : Up w W) => intMinus_any v1 v2 a b W (h1.up hu) (h2.up hu) ha hb)
  obtain ⟨s, A, n, c, rfl, -, -, -, hn, -⟩ := h1.open_
  obtain ⟨s2, A2, n2, c2, rfl, -, -, -, hn2, -⟩ := h2.open_
  clear h1 h2
  go_enter Tryd.func74, Tryd.ntmps74
  go_wp2_with fail
  refine (HP.out _ ((Up.alloc _ _).trans (Up.alloc _ _))).mono ?_
  rintro e w1 ⟨v, rfl, hv, hu⟩
  have HU := Lib.hid (((Up.alloc _ _).trans (Up.alloc _ _)).trans hu)
  have HS := Lib.hid (fun W (hu : Up w1 W) => intSign_any v _ W (hv.up hu))
  clear hv hu
  go_wp2_with fail
  refine (HS.out _ (Below.refl _ _)).mono ?_
  rintro e w2 ⟨rfl, hu2⟩
  go_wp2
  refine bodyPost_ret (by simp [results, Tryd.results74, go_sem]; try rfl) rfl ?_
  exact ⟨rfl, HU.out.trans hu2⟩

set_option maxHeartbeats 2000000 in
set_option maxRecDepth 10000 in
theorem intTimes_small (v1 v2 : Value) (a b : Int) (w : World) (h1 : IV w v1 a) (h2 : IV w v2 b) (ha : a.natAbs < 4611686018427387904) (hb : b.natAbs < 4611686018427387904) (hab : a.natAbs * b.natAbs < 4611686018427387904) :
    Calls Tryd.prog 73 #[v1, v2] w fun e w' => ∃ v, e = .returned v ∧ IV w' v (a * b) ∧ Up w w' := by
  have HBS := Lib.hid (fun W (hu : Up w W) => bothSmall_any v1 v2 a b W (h1.up hu) (h2.up hu))
  obtain ⟨s, A, n, c, rfl, -, hs1, hs2, hn, hc⟩ := h1.open_
  obtain ⟨s2, A2, n2, c2, rfl, -, hs3, hs4, hn2, hc2⟩ := h2.open_
  obtain ⟨rfl, rfl⟩ : n = 0 ∧ s = a := by rcases hc with ⟨h1, h2, h3⟩ | ⟨h1, h2, h3, h4⟩ <;> first | exact ⟨h1, h2⟩ | omega
  obtain ⟨rfl, rfl⟩ : n2 = 0 ∧ s2 = b := by rcases hc2 with ⟨h1, h2, h3⟩ | ⟨h1, h2, h3, h4⟩ <;> first | exact ⟨h1, h2⟩ | omega
  have hdec : decide (s.natAbs < 4611686018427387904 ∧ s2.natAbs < 4611686018427387904) = true := by simp; exact ⟨ha, hb⟩
  have HSZ := Lib.hid (fun W => size_any s W (by omega) (by omega))
  have HSZ2 := Lib.hid (fun W => size_any s2 W (by omega) (by omega))
  have hMU := fun W => Tryd.bits_Mul64 s.natAbs s2.natAbs (by omega) (by omega) W
  rw [Nat.div_eq_of_lt (by omega), Nat.mod_eq_of_lt (by omega)] at hMU
  obtain ⟨lo, hlo⟩ : ∃ lo : Int, lo = ((s.natAbs * s2.natAbs : Nat) : Int) := ⟨_, rfl⟩
  have hlo0 : 0 ≤ lo := by omega
  have hlo1 : lo < 4611686018427387904 := by omega
  rw [← hlo] at hMU
  have HMU := Lib.hid hMU
  obtain ⟨pr, hpr⟩ : ∃ pr, pr = s * s2 := ⟨_, rfl⟩
  have hna : pr.natAbs < 4611686018427387904 := by rw [hpr, Int.natAbs_mul]; exact hab
  have hwr : wrap64 (s * s2) = pr := by rw [← hpr]; unfold wrap64; omega
  have HNA := Lib.hid hna
  have HPR := Lib.hid hpr
  have HWR := Lib.hid hwr
  rw [hdec] at HBS
  clear h1 h2 hc hc2 ha hb hdec hMU hlo hab hna hpr hwr
  go_enter Tryd.func73, Tryd.ntmps73
  go_wp2_with fail
  obtain ⟨wB, hwB, hbx, hrs, hu0⟩ := start3 w s (.slice A 0 c) s2 (.slice A2 0 c2)
  rw [hwB]
  clear hwB
  have HBX := Lib.hid hbx
  have HRS := Lib.hid hrs
  have HU := Lib.hid hu0
  obtain ⟨a0, a1, b0, b1, la, lb⟩ := hbx
  clear hrs hu0
  go_wp2_with fail
  refine (HBS.out _ HU.out).mono ?_
  rintro e w1 ⟨rfl, hu1⟩
  obtain ⟨a0, a1, b0, b1, la, lb⟩ := HBX.out.up hu1
  obtain ⟨r0, r1, f0, f1⟩ := (HRS.out.up hu1).facts
  have HRS1 := Lib.hid (HRS.out.up hu1)
  have HU1 := Lib.hid (HU.out.trans hu1)
  clear hu1
  go_wp2_with fail
  have hne1 : (w.heap.size = w.heap.size + 1 + 1) = False := by simp; omega
  have hne2 : (w.heap.size + 1 + 1 = w.heap.size) = False := by simp; omega
  go_region_held3 (fun w' => w'.cell? ⟨w.heap.size, 0, none⟩ = some (.int .i64 s) ∧ w'.cell? ⟨w.heap.size + 1, 0, none⟩ = some (.int .i64 s2)) (go_keep)
    ((first
      | (go_at_call_of 67 (Value.int IntKind.i64 s); refine (HSZ.out _).mono ?_; rintro e w2 ⟨rfl, rfl⟩)
      | (go_at_call_of 67 (Value.int IntKind.i64 s2); refine (HSZ2.out _).mono ?_; rintro e w2 ⟨rfl, rfl⟩)
      | (go_at_call 93; refine (HMU.out _).mono ?_; rintro e w2 ⟨rfl, rfl⟩)))
  go_wp2_with fail
  have hw64 : wrap64 (s * s2) = pr := HWR.out
  rw [hw64]
  clear hw64
  obtain ⟨hq0, hq1⟩ := HRS1.out.stored (.int .i64 pr) (.slice none 0 0)
  have HUF := Lib.hid (HU1.out.stored (show w.heap.size ≤ w.heap.size + 1 + 1 by omega) (.int .i64 pr) (.slice none 0 0))
  refine bodyPost_ret (by simp [results, Tryd.results73, go_sem, hq0, hq1]; try rfl) rfl ?_
  exact ⟨_, rfl, HPR.out ▸ IV.small HNA.out, HUF.out.trans (Up.drew _)⟩

theorem sign_mul {s s2 a b : Int} (hg1 : s < 0 ↔ a < 0) (hg2 : s2 < 0 ↔ b < 0) : (if (!(decide (s < 0) == decide (s2 < 0))) = true then -((a.natAbs * b.natAbs : Nat) : Int) else ((a.natAbs * b.natAbs : Nat) : Int)) = a * b := by
  have e1 : decide (s < 0) = decide (a < 0) := by simp [hg1]
  have e2 : decide (s2 < 0) = decide (b < 0) := by simp [hg2]
  rw [e1, e2, ← Int.natAbs_mul]
  rcases Int.lt_or_le a 0 with ha | ha <;> rcases Int.lt_or_le b 0 with hb | hb
  · have := Int.mul_nonneg_of_nonpos_of_nonpos (Int.le_of_lt ha) (Int.le_of_lt hb)
    simp [ha, hb]; omega
  · have := Int.mul_nonpos_of_nonpos_of_nonneg (Int.le_of_lt ha) hb
    have hb' : ¬ b < 0 := by omega
    simp [ha, hb']; omega
  · have := Int.mul_nonpos_of_nonneg_of_nonpos ha (Int.le_of_lt hb)
    have ha' : ¬ a < 0 := by omega
    simp [ha', hb]; omega
  · have := Int.mul_nonneg ha hb
    have hb' : ¬ b < 0 := by omega
    have ha' : ¬ a < 0 := by omega
    simp [ha', hb']; omega

set_option maxHeartbeats 4000000 in
set_option maxRecDepth 10000 in
theorem intTimes_large (v1 v2 : Value) (a b : Int) (w : World) (h1 : IV w v1 a) (h2 : IV w v2 b) (hl : ¬ (a.natAbs < 4611686018427387904 ∧ b.natAbs < 4611686018427387904)) (ha : bl a ≤ 67108864) (hb : bl b ≤ 67108864) :
    Calls Tryd.prog 73 #[v1, v2] w fun e w' => ∃ v, e = .returned v ∧ IV w' v (a * b) ∧ Up w w' := by
  have HBS := Lib.hid (fun W (hu : Up w W) => bothSmall_any v1 v2 a b W (h1.up hu) (h2.up hu))
  have HD1 := Lib.hid (fun W (hu : Up w W) => digits_any v1 a W (h1.up hu))
  have HD2 := Lib.hid (fun W (hu : Up w W) => digits_any v2 b W (h2.up hu))
  obtain ⟨s, A, n, c, rfl, hp1, hs1, hs2, hn, hc⟩ := h1.open_
  obtain ⟨s2, A2, n2, c2, rfl, hp2, hs3, hs4, hn2, hc2⟩ := h2.open_
  have HSM := Lib.hid (sign_mul (IV.sgn hp1) (IV.sgn hp2))
  have HHA := Lib.hid ha
  have HHB := Lib.hid hb
  have hdec : decide (a.natAbs < 4611686018427387904 ∧ b.natAbs < 4611686018427387904) = false := by simpa using hl
  rw [hdec] at HBS
  clear hdec hl
  clear h1 h2 hc hc2 hp1 hp2 ha hb
  obtain ⟨ng, hng⟩ : ∃ ng : Bool, ng = (!(decide (s < 0) == decide (s2 < 0))) := ⟨_, rfl⟩
  rw [← hng] at HSM
  have HNG := Lib.hid hng
  clear hng
  go_enter Tryd.func73, Tryd.ntmps73
  go_wp2_with fail
  obtain ⟨wB, hwB, hbx, hrs, hu0⟩ := start3 w s (.slice A n c) s2 (.slice A2 n2 c2)
  rw [hwB]
  clear hwB
  have HBX := Lib.hid hbx
  have HRS := Lib.hid hrs
  have HU := Lib.hid hu0
  obtain ⟨a0, a1, b0, b1, la, lb⟩ := hbx
  clear hrs hu0
  go_wp2_with fail
  rw [← HNG.out]
  refine (HBS.out _ HU.out).mono ?_
  rintro e w1 ⟨rfl, hu1⟩
  obtain ⟨a0, a1, b0, b1, la, lb⟩ := HBX.out.up hu1
  have HBX1 := Lib.hid (HBX.out.up hu1)
  have HRS1 := Lib.hid (HRS.out.up hu1)
  have HU1 := Lib.hid (HU.out.trans hu1)
  clear hu1
  have hne1 : (w.heap.size = w.heap.size + 1 + 1) = False := by simp; omega
  have hne2 : (w.heap.size + 1 + 1 = w.heap.size) = False := by simp; omega
  go_wp2_with fail
  go_region_held3 (fun w' => w'.cell? ⟨w.heap.size, 0, none⟩ = some (.int .i64 s) ∧ w'.cell? ⟨w.heap.size, 1, none⟩ = some (.slice A n c) ∧ w'.cell? ⟨w.heap.size + 1, 0, none⟩ = some (.int .i64 s2) ∧ w'.cell? ⟨w.heap.size + 1, 1, none⟩ = some (.slice A2 n2 c2)) (go_keep)
    ((first
      | (go_at_call_of 83 (Value.int IntKind.i64 s)
         refine (HD1.out _ (HU1.out.trans (Up.drew w1))).mono ?_
         rintro e w2 ⟨d1, rfl, hd1, hu2⟩
         have HBX2 := Lib.hid ((HBX1.out.up (Up.drew w1)).up hu2)
         obtain ⟨a0, a1, b0, b1, la, lb⟩ := HBX2.out
         have HDD1 := Lib.hid hd1
         have HU2 := Lib.hid ((HU1.out.trans (Up.drew w1)).trans hu2)
         have HRS2 := Lib.hid ((HRS1.out.up (Up.drew w1)).up hu2)
         clear hd1 hu2)
      | (go_at_call_of 83 (Value.int IntKind.i64 s2)
         refine (HD2.out _ HU2.out).mono ?_
         rintro e w3 ⟨d2, rfl, hd2, hu3⟩
         have HBX3 := Lib.hid (HBX2.out.up hu3)
         obtain ⟨a0, a1, b0, b1, la, lb⟩ := HBX3.out
         have HDD2 := Lib.hid hd2
         have HDD1b := Lib.hid (Sl.up HDD1.out hu3)
         have HU3 := Lib.hid (HU2.out.trans hu3)
         have HRS3 := Lib.hid (HRS2.out.up hu3)
         clear hd2 hu3)
      | (go_at_call 94
         refine (times_dv _ _ a.natAbs b.natAbs _ HDD1b.out HDD2.out (by have := HHA.out; have := HHB.out; unfold bl at *; omega)).mono ?_
         rintro e w4 ⟨d3, rfl, hd3, hu4⟩
         have HBX4 := Lib.hid (HBX3.out.up hu4)
         obtain ⟨a0, a1, b0, b1, la, lb⟩ := HBX4.out
         have HDD3 := Lib.hid hd3
         have HU4 := Lib.hid (HU3.out.trans hu4)
         have HRS4 := Lib.hid (HRS3.out.up hu4)
         clear hd3 hu4)
      | (go_at_call 65
         refine (signed_any _ _ _ _ HDD3.out).mono ?_
         rintro e w5 ⟨v5, rfl, hv5, hu5⟩
         obtain ⟨a0, a1, b0, b1, la, lb⟩ := HBX4.out.up hu5
         have HU5 := Lib.hid (HU4.out.trans hu5)
         have HRS5 := Lib.hid (HRS4.out.up hu5)
         obtain ⟨s5, A5, n5, c5, rfl, -, -, -, -, -⟩ := hv5.open_
         obtain ⟨r0, r1, f0, f1⟩ := HRS5.out.facts
         have HV5 := Lib.hid hv5
         clear hv5 hu5)))
  obtain ⟨hq0, hq1⟩ := HRS5.out.stored (.int .i64 s5) (.slice A5 n5 c5)
  have HVF := Lib.hid (HV5.out.stored HRS5.out (.int .i64 s5) (.slice A5 n5 c5))
  have HUF := Lib.hid (HU5.out.stored (show w.heap.size ≤ w.heap.size + 1 + 1 by omega) (.int .i64 s5) (.slice A5 n5 c5))
  go_wp2
  refine bodyPost_ret (by simp [results, Tryd.results73, go_sem, hq0, hq1]; try rfl) rfl ?_
  have hvf := HVF.out
  rw [HSM.out] at hvf
  exact ⟨_, rfl, hvf, HUF.out⟩

set_option maxHeartbeats 4000000 in
set_option maxRecDepth 10000 in
theorem intTimes_mid1 (v1 v2 : Value) (a b : Int) (w : World) (h1 : IV w v1 a) (h2 : IV w v2 b) (hl1 : a.natAbs < 4611686018427387904) (hl2 : b.natAbs < 4611686018427387904) (hab : 4611686018427387904 ≤ a.natAbs * b.natAbs) (hcase : 18446744073709551616 ≤ a.natAbs * b.natAbs) (ha : bl a ≤ 67108864) (hb : bl b ≤ 67108864) :
    Calls Tryd.prog 73 #[v1, v2] w fun e w' => ∃ v, e = .returned v ∧ IV w' v (a * b) ∧ Up w w' := by
  have HBS := Lib.hid (fun W (hu : Up w W) => bothSmall_any v1 v2 a b W (h1.up hu) (h2.up hu))
  have HD1 := Lib.hid (fun W (hu : Up w W) => digits_any v1 a W (h1.up hu))
  have HD2 := Lib.hid (fun W (hu : Up w W) => digits_any v2 b W (h2.up hu))
  obtain ⟨s, A, n, c, rfl, hp1, hs1, hs2, hn, hc⟩ := h1.open_
  obtain ⟨s2, A2, n2, c2, rfl, hp2, hs3, hs4, hn2, hc2⟩ := h2.open_
  have HSM := Lib.hid (sign_mul (IV.sgn hp1) (IV.sgn hp2))
  have HHA := Lib.hid ha
  have HHB := Lib.hid hb
  obtain ⟨h5, h6⟩ : n = 0 ∧ s = a := by rcases hc with ⟨h1, h2, h3⟩ | ⟨h1, h2, h3, h4⟩ <;> first | exact ⟨h1, h2⟩ | omega
  obtain ⟨h7, h8⟩ : n2 = 0 ∧ s2 = b := by rcases hc2 with ⟨h1, h2, h3⟩ | ⟨h1, h2, h3, h4⟩ <;> first | exact ⟨h1, h2⟩ | omega
  have hdec : decide (a.natAbs < 4611686018427387904 ∧ b.natAbs < 4611686018427387904) = true := by simp; exact ⟨hl1, hl2⟩
  rw [hdec] at HBS
  have HSZ := Lib.hid (fun W => size_any s W (by omega) (by omega))
  have HSZ2 := Lib.hid (fun W => size_any s2 W (by omega) (by omega))
  have hMU := fun W => Tryd.bits_Mul64 s.natAbs s2.natAbs (by omega) (by omega) W
  have hprod : 4611686018427387904 ≤ s.natAbs * s2.natAbs := by rw [h6, h8]; exact hab
  obtain ⟨pd, hpd⟩ : ∃ pd, pd = s.natAbs * s2.natAbs := ⟨_, rfl⟩
  rw [← hpd] at hMU hprod
  obtain ⟨hi, hhi⟩ : ∃ hi : Int, hi = ((pd / 18446744073709551616 : Nat) : Int) := ⟨_, rfl⟩
  obtain ⟨lo, hlo⟩ : ∃ lo : Int, lo = ((pd % 18446744073709551616 : Nat) : Int) := ⟨_, rfl⟩
  have hlo0 : 0 ≤ lo := by omega
  have hhl : 0 < hi := by rw [← h6, ← h8, ← hpd] at hcase; have := Nat.div_pos hcase (by omega); omega
  rw [← hhi, ← hlo] at hMU
  have HMU := Lib.hid hMU
  clear hdec hl1 hl2 h5 h6 h7 h8 hMU hhi hlo hpd hprod hcase hab
  clear h1 h2 hc hc2 hp1 hp2 ha hb
  obtain ⟨ng, hng⟩ : ∃ ng : Bool, ng = (!(decide (s < 0) == decide (s2 < 0))) := ⟨_, rfl⟩
  rw [← hng] at HSM
  have HNG := Lib.hid hng
  clear hng
  go_enter Tryd.func73, Tryd.ntmps73
  go_wp2_with fail
  obtain ⟨wB, hwB, hbx, hrs, hu0⟩ := start3 w s (.slice A n c) s2 (.slice A2 n2 c2)
  rw [hwB]
  clear hwB
  have HBX := Lib.hid hbx
  have HRS := Lib.hid hrs
  have HU := Lib.hid hu0
  obtain ⟨a0, a1, b0, b1, la, lb⟩ := hbx
  clear hrs hu0
  go_wp2_with fail
  rw [← HNG.out]
  refine (HBS.out _ HU.out).mono ?_
  rintro e w1 ⟨rfl, hu1⟩
  obtain ⟨a0, a1, b0, b1, la, lb⟩ := HBX.out.up hu1
  have HBX1 := Lib.hid (HBX.out.up hu1)
  have HRS1 := Lib.hid (HRS.out.up hu1)
  have HU1 := Lib.hid (HU.out.trans hu1)
  clear hu1
  have hne1 : (w.heap.size = w.heap.size + 1 + 1) = False := by simp; omega
  have hne2 : (w.heap.size + 1 + 1 = w.heap.size) = False := by simp; omega
  go_wp2_with fail
  go_region_held3 (fun w' => w'.cell? ⟨w.heap.size, 0, none⟩ = some (.int .i64 s) ∧ w'.cell? ⟨w.heap.size + 1, 0, none⟩ = some (.int .i64 s2)) (go_keep)
    ((first
      | (go_at_call_of 67 (Value.int IntKind.i64 s); refine (HSZ.out _).mono ?_; rintro e w2 ⟨rfl, rfl⟩)
      | (go_at_call_of 67 (Value.int IntKind.i64 s2); refine (HSZ2.out _).mono ?_; rintro e w2 ⟨rfl, rfl⟩)
      | (go_at_call 93; refine (HMU.out _).mono ?_; rintro e w2 ⟨rfl, rfl⟩)))
  obtain ⟨wR, hwR⟩ : ∃ wR, wR = w1.drew := ⟨_, rfl⟩
  have HBXr := Lib.hid (HBX1.out.up (Up.drew w1))
  have HRSr := Lib.hid (HRS1.out.up (Up.drew w1))
  have HUr := Lib.hid (HU1.out.trans (Up.drew w1))
  rw [← hwR] at HBXr HRSr HUr ⊢
  clear hwR
  obtain ⟨a0, a1, b0, b1, la, lb⟩ := HBXr.out
  go_wp2_with fail
  go_region_held3 (fun w' => w'.cell? ⟨w.heap.size, 0, none⟩ = some (.int .i64 s) ∧ w'.cell? ⟨w.heap.size, 1, none⟩ = some (.slice A n c) ∧ w'.cell? ⟨w.heap.size + 1, 0, none⟩ = some (.int .i64 s2) ∧ w'.cell? ⟨w.heap.size + 1, 1, none⟩ = some (.slice A2 n2 c2)) (go_keep)
    ((first
      | (go_at_call_of 83 (Value.int IntKind.i64 s)
         refine (HD1.out _ (HUr.out.trans (Up.drew wR))).mono ?_
         rintro e w2 ⟨d1, rfl, hd1, hu2⟩
         have HBX2 := Lib.hid ((HBXr.out.up (Up.drew wR)).up hu2)
         obtain ⟨a0, a1, b0, b1, la, lb⟩ := HBX2.out
         have HDD1 := Lib.hid hd1
         have HU2 := Lib.hid ((HUr.out.trans (Up.drew wR)).trans hu2)
         have HRS2 := Lib.hid ((HRSr.out.up (Up.drew wR)).up hu2)
         clear hd1 hu2)
      | (go_at_call_of 83 (Value.int IntKind.i64 s2)
         refine (HD2.out _ HU2.out).mono ?_
         rintro e w3 ⟨d2, rfl, hd2, hu3⟩
         have HBX3 := Lib.hid (HBX2.out.up hu3)
         obtain ⟨a0, a1, b0, b1, la, lb⟩ := HBX3.out
         have HDD2 := Lib.hid hd2
         have HDD1b := Lib.hid (Sl.up HDD1.out hu3)
         have HU3 := Lib.hid (HU2.out.trans hu3)
         have HRS3 := Lib.hid (HRS2.out.up hu3)
         clear hd2 hu3)
      | (go_at_call 94
         refine (times_dv _ _ a.natAbs b.natAbs _ HDD1b.out HDD2.out (by have := HHA.out; have := HHB.out; unfold bl at *; omega)).mono ?_
         rintro e w4 ⟨d3, rfl, hd3, hu4⟩
         have HBX4 := Lib.hid (HBX3.out.up hu4)
         obtain ⟨a0, a1, b0, b1, la, lb⟩ := HBX4.out
         have HDD3 := Lib.hid hd3
         have HU4 := Lib.hid (HU3.out.trans hu4)
         have HRS4 := Lib.hid (HRS3.out.up hu4)
         clear hd3 hu4)
      | (go_at_call 65
         refine (signed_any _ _ _ _ HDD3.out).mono ?_
         rintro e w5 ⟨v5, rfl, hv5, hu5⟩
         obtain ⟨a0, a1, b0, b1, la, lb⟩ := HBX4.out.up hu5
         have HU5 := Lib.hid (HU4.out.trans hu5)
         have HRS5 := Lib.hid (HRS4.out.up hu5)
         obtain ⟨s5, A5, n5, c5, rfl, -, -, -, -, -⟩ := hv5.open_
         obtain ⟨r0, r1, f0, f1⟩ := HRS5.out.facts
         have HV5 := Lib.hid hv5
         clear hv5 hu5)))
  obtain ⟨hq0, hq1⟩ := HRS5.out.stored (.int .i64 s5) (.slice A5 n5 c5)
  have HVF := Lib.hid (HV5.out.stored HRS5.out (.int .i64 s5) (.slice A5 n5 c5))
  have HUF := Lib.hid (HU5.out.stored (show w.heap.size ≤ w.heap.size + 1 + 1 by omega) (.int .i64 s5) (.slice A5 n5 c5))
  go_wp2
  refine bodyPost_ret (by simp [results, Tryd.results73, go_sem, hq0, hq1]; try rfl) rfl ?_
  have hvf := HVF.out
  rw [HSM.out] at hvf
  exact ⟨_, rfl, hvf, HUF.out⟩

set_option maxHeartbeats 4000000 in
set_option maxRecDepth 10000 in
theorem intTimes_mid2 (v1 v2 : Value) (a b : Int) (w : World) (h1 : IV w v1 a) (h2 : IV w v2 b) (hl1 : a.natAbs < 4611686018427387904) (hl2 : b.natAbs < 4611686018427387904) (hab : 4611686018427387904 ≤ a.natAbs * b.natAbs) (hcase : a.natAbs * b.natAbs < 18446744073709551616) (ha : bl a ≤ 67108864) (hb : bl b ≤ 67108864) :
    Calls Tryd.prog 73 #[v1, v2] w fun e w' => ∃ v, e = .returned v ∧ IV w' v (a * b) ∧ Up w w' := by
  have HBS := Lib.hid (fun W (hu : Up w W) => bothSmall_any v1 v2 a b W (h1.up hu) (h2.up hu))
  have HD1 := Lib.hid (fun W (hu : Up w W) => digits_any v1 a W (h1.up hu))
  have HD2 := Lib.hid (fun W (hu : Up w W) => digits_any v2 b W (h2.up hu))
  obtain ⟨s, A, n, c, rfl, hp1, hs1, hs2, hn, hc⟩ := h1.open_
  obtain ⟨s2, A2, n2, c2, rfl, hp2, hs3, hs4, hn2, hc2⟩ := h2.open_
  have HSM := Lib.hid (sign_mul (IV.sgn hp1) (IV.sgn hp2))
  have HHA := Lib.hid ha
  have HHB := Lib.hid hb
  obtain ⟨h5, h6⟩ : n = 0 ∧ s = a := by rcases hc with ⟨h1, h2, h3⟩ | ⟨h1, h2, h3, h4⟩ <;> first | exact ⟨h1, h2⟩ | omega
  obtain ⟨h7, h8⟩ : n2 = 0 ∧ s2 = b := by rcases hc2 with ⟨h1, h2, h3⟩ | ⟨h1, h2, h3, h4⟩ <;> first | exact ⟨h1, h2⟩ | omega
  have hdec : decide (a.natAbs < 4611686018427387904 ∧ b.natAbs < 4611686018427387904) = true := by simp; exact ⟨hl1, hl2⟩
  rw [hdec] at HBS
  have HSZ := Lib.hid (fun W => size_any s W (by omega) (by omega))
  have HSZ2 := Lib.hid (fun W => size_any s2 W (by omega) (by omega))
  have hMU := fun W => Tryd.bits_Mul64 s.natAbs s2.natAbs (by omega) (by omega) W
  have hprod : 4611686018427387904 ≤ s.natAbs * s2.natAbs := by rw [h6, h8]; exact hab
  obtain ⟨pd, hpd⟩ : ∃ pd, pd = s.natAbs * s2.natAbs := ⟨_, rfl⟩
  rw [← hpd] at hMU hprod
  obtain ⟨hi, hhi⟩ : ∃ hi : Int, hi = ((pd / 18446744073709551616 : Nat) : Int) := ⟨_, rfl⟩
  obtain ⟨lo, hlo⟩ : ∃ lo : Int, lo = ((pd % 18446744073709551616 : Nat) : Int) := ⟨_, rfl⟩
  have hlo0 : 0 ≤ lo := by omega
  have hhl : hi = 0 ∧ 4611686018427387904 ≤ lo := by rw [← h6, ← h8, ← hpd] at hcase; rw [hhi, hlo, Nat.div_eq_of_lt hcase, Nat.mod_eq_of_lt hcase]; omega
  rw [← hhi, ← hlo] at hMU
  obtain ⟨hhi0, hlo1⟩ := hhl
  have HMU := Lib.hid hMU
  clear hdec hl1 hl2 h5 h6 h7 h8 hMU hhi hlo hpd hprod hcase hab
  clear h1 h2 hc hc2 hp1 hp2 ha hb
  obtain ⟨ng, hng⟩ : ∃ ng : Bool, ng = (!(decide (s < 0) == decide (s2 < 0))) := ⟨_, rfl⟩
  rw [← hng] at HSM
  have HNG := Lib.hid hng
  clear hng
  go_enter Tryd.func73, Tryd.ntmps73
  go_wp2_with fail
  obtain ⟨wB, hwB, hbx, hrs, hu0⟩ := start3 w s (.slice A n c) s2 (.slice A2 n2 c2)
  rw [hwB]
  clear hwB
  have HBX := Lib.hid hbx
  have HRS := Lib.hid hrs
  have HU := Lib.hid hu0
  obtain ⟨a0, a1, b0, b1, la, lb⟩ := hbx
  clear hrs hu0
  go_wp2_with fail
  rw [← HNG.out]
  refine (HBS.out _ HU.out).mono ?_
  rintro e w1 ⟨rfl, hu1⟩
  obtain ⟨a0, a1, b0, b1, la, lb⟩ := HBX.out.up hu1
  have HBX1 := Lib.hid (HBX.out.up hu1)
  have HRS1 := Lib.hid (HRS.out.up hu1)
  have HU1 := Lib.hid (HU.out.trans hu1)
  clear hu1
  have hne1 : (w.heap.size = w.heap.size + 1 + 1) = False := by simp; omega
  have hne2 : (w.heap.size + 1 + 1 = w.heap.size) = False := by simp; omega
  go_wp2_with fail
  go_region_held3 (fun w' => w'.cell? ⟨w.heap.size, 0, none⟩ = some (.int .i64 s) ∧ w'.cell? ⟨w.heap.size + 1, 0, none⟩ = some (.int .i64 s2)) (go_keep)
    ((first
      | (go_at_call_of 67 (Value.int IntKind.i64 s); refine (HSZ.out _).mono ?_; rintro e w2 ⟨rfl, rfl⟩)
      | (go_at_call_of 67 (Value.int IntKind.i64 s2); refine (HSZ2.out _).mono ?_; rintro e w2 ⟨rfl, rfl⟩)
      | (go_at_call 93; refine (HMU.out _).mono ?_; rintro e w2 ⟨rfl, rfl⟩)))
  obtain ⟨wR, hwR⟩ : ∃ wR, wR = w1.drew := ⟨_, rfl⟩
  have HBXr := Lib.hid (HBX1.out.up (Up.drew w1))
  have HRSr := Lib.hid (HRS1.out.up (Up.drew w1))
  have HUr := Lib.hid (HU1.out.trans (Up.drew w1))
  rw [← hwR] at HBXr HRSr HUr ⊢
  clear hwR
  obtain ⟨a0, a1, b0, b1, la, lb⟩ := HBXr.out
  go_wp2_with fail
  go_region_held3 (fun w' => w'.cell? ⟨w.heap.size, 0, none⟩ = some (.int .i64 s) ∧ w'.cell? ⟨w.heap.size, 1, none⟩ = some (.slice A n c) ∧ w'.cell? ⟨w.heap.size + 1, 0, none⟩ = some (.int .i64 s2) ∧ w'.cell? ⟨w.heap.size + 1, 1, none⟩ = some (.slice A2 n2 c2)) (go_keep)
    ((first
      | (go_at_call_of 83 (Value.int IntKind.i64 s)
         refine (HD1.out _ (HUr.out.trans (Up.drew wR))).mono ?_
         rintro e w2 ⟨d1, rfl, hd1, hu2⟩
         have HBX2 := Lib.hid ((HBXr.out.up (Up.drew wR)).up hu2)
         obtain ⟨a0, a1, b0, b1, la, lb⟩ := HBX2.out
         have HDD1 := Lib.hid hd1
         have HU2 := Lib.hid ((HUr.out.trans (Up.drew wR)).trans hu2)
         have HRS2 := Lib.hid ((HRSr.out.up (Up.drew wR)).up hu2)
         clear hd1 hu2)
      | (go_at_call_of 83 (Value.int IntKind.i64 s2)
         refine (HD2.out _ HU2.out).mono ?_
         rintro e w3 ⟨d2, rfl, hd2, hu3⟩
         have HBX3 := Lib.hid (HBX2.out.up hu3)
         obtain ⟨a0, a1, b0, b1, la, lb⟩ := HBX3.out
         have HDD2 := Lib.hid hd2
         have HDD1b := Lib.hid (Sl.up HDD1.out hu3)
         have HU3 := Lib.hid (HU2.out.trans hu3)
         have HRS3 := Lib.hid (HRS2.out.up hu3)
         clear hd2 hu3)
      | (go_at_call 94
         refine (times_dv _ _ a.natAbs b.natAbs _ HDD1b.out HDD2.out (by have := HHA.out; have := HHB.out; unfold bl at *; omega)).mono ?_
         rintro e w4 ⟨d3, rfl, hd3, hu4⟩
         have HBX4 := Lib.hid (HBX3.out.up hu4)
         obtain ⟨a0, a1, b0, b1, la, lb⟩ := HBX4.out
         have HDD3 := Lib.hid hd3
         have HU4 := Lib.hid (HU3.out.trans hu4)
         have HRS4 := Lib.hid (HRS3.out.up hu4)
         clear hd3 hu4)
      | (go_at_call 65
         refine (signed_any _ _ _ _ HDD3.out).mono ?_
         rintro e w5 ⟨v5, rfl, hv5, hu5⟩
         obtain ⟨a0, a1, b0, b1, la, lb⟩ := HBX4.out.up hu5
         have HU5 := Lib.hid (HU4.out.trans hu5)
         have HRS5 := Lib.hid (HRS4.out.up hu5)
         obtain ⟨s5, A5, n5, c5, rfl, -, -, -, -, -⟩ := hv5.open_
         obtain ⟨r0, r1, f0, f1⟩ := HRS5.out.facts
         have HV5 := Lib.hid hv5
         clear hv5 hu5)))
  obtain ⟨hq0, hq1⟩ := HRS5.out.stored (.int .i64 s5) (.slice A5 n5 c5)
  have HVF := Lib.hid (HV5.out.stored HRS5.out (.int .i64 s5) (.slice A5 n5 c5))
  have HUF := Lib.hid (HU5.out.stored (show w.heap.size ≤ w.heap.size + 1 + 1 by omega) (.int .i64 s5) (.slice A5 n5 c5))
  go_wp2
  refine bodyPost_ret (by simp [results, Tryd.results73, go_sem, hq0, hq1]; try rfl) rfl ?_
  have hvf := HVF.out
  rw [HSM.out] at hvf
  exact ⟨_, rfl, hvf, HUF.out⟩

theorem intTimes_any (v1 v2 : Value) (a b : Int) (w : World) (h1 : IV w v1 a) (h2 : IV w v2 b) (ha : bl a ≤ 67108864) (hb : bl b ≤ 67108864) :
    Calls Tryd.prog 73 #[v1, v2] w fun e w' => ∃ v, e = .returned v ∧ IV w' v (a * b) ∧ Up w w' := by
  by_cases h : a.natAbs < 4611686018427387904 ∧ b.natAbs < 4611686018427387904
  · rcases Nat.lt_or_ge (a.natAbs * b.natAbs) 4611686018427387904 with h3 | h3
    · exact intTimes_small v1 v2 a b w h1 h2 h.1 h.2 h3
    · rcases Nat.lt_or_ge (a.natAbs * b.natAbs) 18446744073709551616 with h4 | h4
      · exact intTimes_mid2 v1 v2 a b w h1 h2 h.1 h.2 h3 h4 ha hb
      · exact intTimes_mid1 v1 v2 a b w h1 h2 h.1 h.2 h3 h4 ha hb
  · exact intTimes_large v1 v2 a b w h1 h2 h ha hb
end Go.Proofs.YtahmjnjammcifaaDoor
