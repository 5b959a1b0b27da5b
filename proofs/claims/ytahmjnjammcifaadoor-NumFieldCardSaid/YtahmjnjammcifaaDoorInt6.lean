import Derived.Test.YtahmjnjammcifaaDoorInt5
namespace Go.Proofs.YtahmjnjammcifaaDoor
open Go.RowKit Fm

theorem start4 (w : World) (s : Int) (d : Value) (s2 : Int) (d2 : Value) :
    ∃ wB, ((((w.alloc (.cells #[.int .i64 s, d] 49)).alloc (.cells #[.int .i64 s2, d2] 49)).alloc (.cells #[.int .i64 0, .slice none 0 0] 49)).alloc (.cells #[.int .i64 0, .slice none 0 0] 49)) = wB ∧
      Boxes wB w.heap.size (w.heap.size + 1) s d s2 d2 ∧ Res2 wB (w.heap.size + 1 + 1) ∧ Res2 wB (w.heap.size + 1 + 1 + 1) ∧ Up w wB := by
  obtain ⟨wA, hA, hb, hr, hu⟩ := start3 w s d s2 d2
  have hsz : wA.heap.size = w.heap.size + 1 + 1 + 1 := by rw [← hA]; simp
  refine ⟨_, rfl, ?_⟩
  rw [hA]
  exact ⟨hb.up (Up.alloc _ _), hr.up (Up.alloc _ _), by rw [← hsz]; exact Res2.new wA, hu.trans (Up.alloc _ _)⟩

theorem Res2.other {w : World} {g g' : Nat} (h : Res2 w g) (hne : g ≠ g') (x y : Value) : Res2 ((w.setCell ⟨g', 0, none⟩ x).setCell ⟨g', 1, none⟩ y) g := by
  unfold Res2 at *
  simp only [World.setCell, Array.getElem?_modify]
  rw [if_neg hne.symm, if_neg hne.symm]
  exact h

/-- What the stores of two results leave. -/
theorem Res2.stored2 {w : World} {g g' : Nat} (h : Res2 w g) (h' : Res2 w g') (hne : g ≠ g') (x y x' y' : Value) :
    ((((w.setCell ⟨g, 0, none⟩ x).setCell ⟨g, 1, none⟩ y).setCell ⟨g', 0, none⟩ x').setCell ⟨g', 1, none⟩ y').cell? ⟨g, 0, none⟩ = some x ∧
    ((((w.setCell ⟨g, 0, none⟩ x).setCell ⟨g, 1, none⟩ y).setCell ⟨g', 0, none⟩ x').setCell ⟨g', 1, none⟩ y').cell? ⟨g, 1, none⟩ = some y ∧
    ((((w.setCell ⟨g, 0, none⟩ x).setCell ⟨g, 1, none⟩ y).setCell ⟨g', 0, none⟩ x').setCell ⟨g', 1, none⟩ y').cell? ⟨g', 0, none⟩ = some x' ∧
    ((((w.setCell ⟨g, 0, none⟩ x).setCell ⟨g, 1, none⟩ y).setCell ⟨g', 0, none⟩ x').setCell ⟨g', 1, none⟩ y').cell? ⟨g', 1, none⟩ = some y' := by
  have h2 := (h'.other hne.symm x y).stored x' y'
  have h1 := h.stored x y
  refine ⟨?_, ?_, h2.1, h2.2⟩
  · rw [World.cell?_setCell_other _ _ _ _ (by intro e; injection e with e; exact hne e.symm), World.cell?_setCell_other _ _ _ _ (by intro e; injection e with e; exact hne e.symm)]; exact h1.1
  · rw [World.cell?_setCell_other _ _ _ _ (by intro e; injection e with e; exact hne e.symm), World.cell?_setCell_other _ _ _ _ (by intro e; injection e with e; exact hne e.symm)]; exact h1.2

set_option maxHeartbeats 2000000 in
set_option maxRecDepth 10000 in
theorem intQuoRem_small (v1 v2 : Value) (a b : Int) (w : World) (h1 : IV w v1 a) (h2 : IV w v2 b) (ha : a.natAbs < 4611686018427387904) (hb : b.natAbs < 4611686018427387904) (hz : b ≠ 0) :
    Calls Tryd.prog 86 #[v1, v2] w fun e w' => ∃ v3 v4, e = .returned (.tuple #[v3, v4]) ∧ IV w' v3 (a.tdiv b) ∧ IV w' v4 (a.tmod b) ∧ Up w w' := by
  have HBS := Lib.hid (fun W (hu : Up w W) => bothSmall_any v1 v2 a b W (h1.up hu) (h2.up hu))
  obtain ⟨s, A, n, c, rfl, -, hs1, hs2, hn, hc⟩ := h1.open_
  obtain ⟨s2, A2, n2, c2, rfl, -, hs3, hs4, hn2, hc2⟩ := h2.open_
  obtain ⟨rfl, rfl⟩ : n = 0 ∧ s = a := by rcases hc with ⟨h1, h2, h3⟩ | ⟨h1, h2, h3, h4⟩ <;> first | exact ⟨h1, h2⟩ | omega
  obtain ⟨rfl, rfl⟩ : n2 = 0 ∧ s2 = b := by rcases hc2 with ⟨h1, h2, h3⟩ | ⟨h1, h2, h3, h4⟩ <;> first | exact ⟨h1, h2⟩ | omega
  have hdec : decide (s.natAbs < 4611686018427387904 ∧ s2.natAbs < 4611686018427387904) = true := by simp; exact ⟨ha, hb⟩
  rw [hdec] at HBS
  have hzz : (s2 == 0) = false := by simp; exact hz
  have hqa : (s.tdiv s2).natAbs < 4611686018427387904 := by rw [Int.natAbs_tdiv]; exact Nat.lt_of_le_of_lt (Nat.div_le_self _ _) ha
  have hra : (s.tmod s2).natAbs < 4611686018427387904 := by rw [Int.natAbs_tmod]; exact Nat.lt_of_le_of_lt (Nat.mod_le _ _) ha
  have htq : wrap64 (s.tdiv s2) = s.tdiv s2 := by unfold wrap64; omega
  have HQA := Lib.hid hqa
  have HRA := Lib.hid hra
  have HTQ := Lib.hid htq
  clear hqa hra htq
  clear h1 h2 hc hc2 ha hb hdec
  go_enter Tryd.func86, Tryd.ntmps86
  go_wp2_with fail
  obtain ⟨wB, hwB, hbx, hrs, hrt, hu0⟩ := start4 w s (.slice A 0 c) s2 (.slice A2 0 c2)
  rw [hwB]
  clear hwB
  refine (HBS.out _ hu0).mono ?_
  rintro e w1 ⟨rfl, hu1⟩
  obtain ⟨a0, a1, b0, b1, la, lb⟩ := hbx.up hu1
  obtain ⟨r0, r1, f0, f1⟩ := (hrs.up hu1).facts
  obtain ⟨r20, r21, f20, f21⟩ := (hrt.up hu1).facts
  have HRS1 := Lib.hid (hrs.up hu1)
  have HRT1 := Lib.hid (hrt.up hu1)
  have HU1 := Lib.hid (hu0.trans hu1)
  clear hbx hrs hrt hu0 hu1
  have hne1 : (w.heap.size = w.heap.size + 1 + 1) = False := by simp; omega
  have hne2 : (w.heap.size + 1 + 1 = w.heap.size) = False := by simp; omega
  go_wp2_with fail
  go_region
  rw [HTQ.out]
  obtain ⟨q, hq⟩ : ∃ q, q = s.tdiv s2 := ⟨_, rfl⟩
  obtain ⟨r, hr⟩ : ∃ r, r = s.tmod s2 := ⟨_, rfl⟩
  have hqa : q.natAbs < 4611686018427387904 := by rw [hq]; exact HQA.out
  have hra : r.natAbs < 4611686018427387904 := by rw [hr]; exact HRA.out
  rw [← hq, ← hr]
  have HQA' := Lib.hid hqa
  have HRA' := Lib.hid hra
  have HQE := Lib.hid hq
  have HRE := Lib.hid hr
  clear hq hr hqa hra
  obtain ⟨hq0, hq1, hq2, hq3⟩ := HRS1.out.stored2 HRT1.out (by omega) (.int .i64 q) (.slice none 0 0) (.int .i64 r) (.slice none 0 0)
  have HUF := Lib.hid ((HU1.out.stored (show w.heap.size ≤ w.heap.size + 1 + 1 by omega) (.int .i64 q) (.slice none 0 0)).stored (show w.heap.size ≤ w.heap.size + 1 + 1 + 1 by omega) (.int .i64 r) (.slice none 0 0))
  go_wp2
  refine bodyPost_ret (by simp [results, Tryd.results86, go_sem, hq0, hq1, hq2, hq3]; try rfl) rfl ?_
  exact ⟨_, _, rfl, by rw [← HQE.out]; exact IV.small HQA'.out, by rw [← HRE.out]; exact IV.small HRA'.out, HUF.out.trans (Up.drew _)⟩

theorem tdiv_sign {s s2 a b : Int} (hg1 : s < 0 ↔ a < 0) (hg2 : s2 < 0 ↔ b < 0) : (if (!(decide (s < 0) == decide (s2 < 0))) = true then -((a.natAbs / b.natAbs : Nat) : Int) else ((a.natAbs / b.natAbs : Nat) : Int)) = a.tdiv b := by
  have e1 : decide (s < 0) = decide (a < 0) := by simp [hg1]
  have e2 : decide (s2 < 0) = decide (b < 0) := by simp [hg2]
  rw [e1, e2]
  rcases Int.lt_or_le a 0 with ha | ha <;> rcases Int.lt_or_le b 0 with hb | hb
  · obtain ⟨x, rfl⟩ : ∃ x : Nat, a = -(x : Int) := ⟨a.natAbs, by omega⟩
    obtain ⟨y, rfl⟩ : ∃ y : Nat, b = -(y : Int) := ⟨b.natAbs, by omega⟩
    rw [Int.neg_tdiv_neg, ← Int.ofNat_tdiv]
    rw [decide_eq_true ha, decide_eq_true hb, if_neg (by decide)]; simp
  · obtain ⟨x, rfl⟩ : ∃ x : Nat, a = -(x : Int) := ⟨a.natAbs, by omega⟩
    obtain ⟨y, rfl⟩ : ∃ y : Nat, b = (y : Int) := ⟨b.natAbs, by omega⟩
    have hb' : ¬ (y : Int) < 0 := by omega
    rw [Int.neg_tdiv, ← Int.ofNat_tdiv]
    rw [decide_eq_true ha, decide_eq_false hb', if_pos (by decide)]; simp
  · obtain ⟨x, rfl⟩ : ∃ x : Nat, a = (x : Int) := ⟨a.natAbs, by omega⟩
    obtain ⟨y, rfl⟩ : ∃ y : Nat, b = -(y : Int) := ⟨b.natAbs, by omega⟩
    have ha' : ¬ (x : Int) < 0 := by omega
    rw [Int.tdiv_neg, ← Int.ofNat_tdiv]
    rw [decide_eq_false ha', decide_eq_true hb, if_pos (by decide)]; simp
  · obtain ⟨x, rfl⟩ : ∃ x : Nat, a = (x : Int) := ⟨a.natAbs, by omega⟩
    obtain ⟨y, rfl⟩ : ∃ y : Nat, b = (y : Int) := ⟨b.natAbs, by omega⟩
    have ha' : ¬ (x : Int) < 0 := by omega
    have hb' : ¬ (y : Int) < 0 := by omega
    rw [← Int.ofNat_tdiv]
    rw [decide_eq_false ha', decide_eq_false hb', if_neg (by decide)]; simp

theorem tmod_sign {s a b : Int} (hg1 : s < 0 ↔ a < 0) : (if decide (s < 0) = true then -((a.natAbs % b.natAbs : Nat) : Int) else ((a.natAbs % b.natAbs : Nat) : Int)) = a.tmod b := by
  have e1 : decide (s < 0) = decide (a < 0) := by simp [hg1]
  rw [e1]
  have hbb : a.tmod b = a.tmod (b.natAbs : Int) := by
    rcases Int.natAbs_eq b with h | h
    · rw [← h]
    · conv => lhs; rw [h, Int.tmod_neg]
  rw [hbb]
  rcases Int.lt_or_le a 0 with ha | ha
  · obtain ⟨x, rfl⟩ : ∃ x : Nat, a = -(x : Int) := ⟨a.natAbs, by omega⟩
    rw [Int.neg_tmod, ← Int.ofNat_tmod, decide_eq_true ha, if_pos rfl]; simp
  · obtain ⟨x, rfl⟩ : ∃ x : Nat, a = (x : Int) := ⟨a.natAbs, by omega⟩
    have ha' : ¬ (x : Int) < 0 := by omega
    rw [← Int.ofNat_tmod, decide_eq_false ha', if_neg (by decide)]; simp

set_option maxHeartbeats 4000000 in
set_option maxRecDepth 10000 in
theorem intQuoRem_large (v1 v2 : Value) (a b : Int) (w : World) (h1 : IV w v1 a) (h2 : IV w v2 b) (hl : ¬ (a.natAbs < 4611686018427387904 ∧ b.natAbs < 4611686018427387904)) (ha : bl a ≤ 67108864) (hz : b ≠ 0) :
    Calls Tryd.prog 86 #[v1, v2] w fun e w' => ∃ v3 v4, e = .returned (.tuple #[v3, v4]) ∧ IV w' v3 (a.tdiv b) ∧ IV w' v4 (a.tmod b) ∧ Up w w' := by
  have HBS := Lib.hid (fun W (hu : Up w W) => bothSmall_any v1 v2 a b W (h1.up hu) (h2.up hu))
  have HD1 := Lib.hid (fun W (hu : Up w W) => digits_any v1 a W (h1.up hu))
  have HD2 := Lib.hid (fun W (hu : Up w W) => digits_any v2 b W (h2.up hu))
  obtain ⟨s, A, n, c, rfl, hp1, -, -, hn, -⟩ := h1.open_
  obtain ⟨s2, A2, n2, c2, rfl, hp2, -, -, hn2, -⟩ := h2.open_
  have HSQ := Lib.hid (tdiv_sign (IV.sgn hp1) (IV.sgn hp2))
  have HSR := Lib.hid (tmod_sign (b := b) (IV.sgn hp1))
  have HHA := Lib.hid ha
  have HBP := Lib.hid (show 0 < b.natAbs by omega)
  have hdec : decide (a.natAbs < 4611686018427387904 ∧ b.natAbs < 4611686018427387904) = false := by simpa using hl
  rw [hdec] at HBS
  clear h1 h2 hp1 hp2 ha hdec hl hz
  obtain ⟨ng, hng⟩ : ∃ ng : Bool, ng = (!(decide (s < 0) == decide (s2 < 0))) := ⟨_, rfl⟩
  rw [← hng] at HSQ
  have HNG := Lib.hid hng
  clear hng
  go_enter Tryd.func86, Tryd.ntmps86
  go_wp2_with fail
  obtain ⟨wB, hwB, hbx, hrs, hrt, hu0⟩ := start4 w s (.slice A n c) s2 (.slice A2 n2 c2)
  rw [hwB]
  clear hwB
  refine (HBS.out _ hu0).mono ?_
  rintro e w1 ⟨rfl, hu1⟩
  have HBX1 := Lib.hid (hbx.up hu1)
  obtain ⟨a0, a1, b0, b1, la, lb⟩ := HBX1.out
  have HRS1 := Lib.hid (hrs.up hu1)
  have HRT1 := Lib.hid (hrt.up hu1)
  have HU1 := Lib.hid (hu0.trans hu1)
  clear hbx hrs hrt hu0 hu1
  have hne1 : (w.heap.size = w.heap.size + 1 + 1) = False := by simp; omega
  have hne2 : (w.heap.size + 1 + 1 = w.heap.size) = False := by simp; omega
  have hne3 : (w.heap.size = w.heap.size + 1 + 1 + 1) = False := by simp; omega
  have hne4 : (w.heap.size + 1 + 1 + 1 = w.heap.size) = False := by simp; omega
  go_wp2_with fail
  go_region_held3 (fun w' => w'.cell? ⟨w.heap.size, 0, none⟩ = some (.int .i64 s) ∧ w'.cell? ⟨w.heap.size, 1, none⟩ = some (.slice A n c) ∧ w'.cell? ⟨w.heap.size + 1, 0, none⟩ = some (.int .i64 s2) ∧ w'.cell? ⟨w.heap.size + 1, 1, none⟩ = some (.slice A2 n2 c2)) (go_keep)
    ((first
      | (go_at_call_of 83 (Value.int IntKind.i64 s)
         refine (HD1.out _ (HU1.out.trans (Up.drew w1))).mono ?_
         rintro e w2 ⟨d1, rfl, hd1, hu2⟩
         have HBX2 := Lib.hid ((HBX1.out.up (Up.drew w1)).up hu2)
         obtain ⟨a0, a1, b0, b1, la, lb⟩ := HBX2.out
         have HDD1 := Lib.hid hd1
         have HU2 := Lib.hid ((HU1.out.trans (Up.drew w1)).trans hu2)
         have HRS2 := Lib.hid ((HRS1.out.up (Up.drew w1)).up hu2)
         have HRT2 := Lib.hid ((HRT1.out.up (Up.drew w1)).up hu2)
         clear hd1 hu2)
      | (go_at_call_of 83 (Value.int IntKind.i64 s2)
         refine (HD2.out _ HU2.out).mono ?_
         rintro e w3 ⟨d2, rfl, hd2, hu3⟩
         have HBX3 := Lib.hid (HBX2.out.up hu3)
         obtain ⟨a0, a1, b0, b1, la, lb⟩ := HBX3.out
         have HDD2 := Lib.hid hd2
         have HDD1b := Lib.hid (Sl.up HDD1.out hu3)
         have HU3 := Lib.hid (HU2.out.trans hu3)
         have HRS3 := Lib.hid (HRS2.out.up hu3)
         have HRT3 := Lib.hid (HRT2.out.up hu3)
         clear hd2 hu3)
      | (go_at_call 101
         refine (quoRem_dv _ _ a.natAbs b.natAbs _ HDD1b.out HDD2.out (Nat.le_trans HHA.out (by omega)) HBP.out).mono ?_
         rintro e w4 ⟨d3, d4, rfl, hd3, hd4, hu4⟩
         have HBX4 := Lib.hid (HBX3.out.up hu4)
         obtain ⟨a0, a1, b0, b1, la, lb⟩ := HBX4.out
         have HDD3 := Lib.hid hd3
         have HDD4 := Lib.hid hd4
         have HU4 := Lib.hid (HU3.out.trans hu4)
         have HRS4 := Lib.hid (HRS3.out.up hu4)
         have HRT4 := Lib.hid (HRT3.out.up hu4)
         clear hd3 hd4 hu4)))
  go_wp2_with fail
  go_region_held3 (fun w' => w'.cell? ⟨w.heap.size, 0, none⟩ = some (.int .i64 s) ∧ w'.cell? ⟨w.heap.size + 1, 0, none⟩ = some (.int .i64 s2)) (go_keep)
    ((first
      | (go_at_call_of 65 (Value.bool !(decide (s < 0) == decide (s2 < 0)))
         refine (signed_any _ _ _ _ (Sl.up HDD3.out (Up.drew w4))).mono ?_
         rintro e w5 ⟨v5, rfl, hv5, hu5⟩
         have HBX5 := Lib.hid ((HBX4.out.up (Up.drew w4)).up hu5)
         obtain ⟨a0, a1, b0, b1, la, lb⟩ := HBX5.out
         have HU5 := Lib.hid ((HU4.out.trans (Up.drew w4)).trans hu5)
         have HRS5 := Lib.hid ((HRS4.out.up (Up.drew w4)).up hu5)
         have HRT5 := Lib.hid ((HRT4.out.up (Up.drew w4)).up hu5)
         have HDD5 := Lib.hid (Sl.up (Sl.up HDD4.out (Up.drew w4)) hu5)
         obtain ⟨s5, A5, n5, c5, rfl, -, -, -, -, -⟩ := hv5.open_
         have HV5 := Lib.hid hv5
         clear hv5 hu5)
      | (go_at_call_of 65 (Value.bool (decide (s < 0)))
         refine (signed_any _ _ _ _ HDD5.out).mono ?_
         rintro e w6 ⟨v6, rfl, hv6, hu6⟩
         have HBX6 := Lib.hid (HBX5.out.up hu6)
         obtain ⟨a0, a1, b0, b1, la, lb⟩ := HBX6.out
         have HU6 := Lib.hid (HU5.out.trans hu6)
         have HRS6 := Lib.hid (HRS5.out.up hu6)
         have HRT6 := Lib.hid (HRT5.out.up hu6)
         have HV5b := Lib.hid (HV5.out.up hu6)
         obtain ⟨s6, A6, n6, c6, rfl, -, -, -, -, -⟩ := hv6.open_
         obtain ⟨r0, r1, f0, f1⟩ := HRS6.out.facts
         obtain ⟨r20, r21, f20, f21⟩ := HRT6.out.facts
         have HV6 := Lib.hid hv6
         clear hv6 hu6)))
  obtain ⟨hq0, hq1, hq2, hq3⟩ := HRS6.out.stored2 HRT6.out (by omega) (.int .i64 s5) (.slice A5 n5 c5) (.int .i64 s6) (.slice A6 n6 c6)
  have HUF := Lib.hid ((HU6.out.stored (show w.heap.size ≤ w.heap.size + 1 + 1 by omega) (.int .i64 s5) (.slice A5 n5 c5)).stored (show w.heap.size ≤ w.heap.size + 1 + 1 + 1 by omega) (.int .i64 s6) (.slice A6 n6 c6))
  have HVA := Lib.hid ((HV5b.out.stored HRS6.out (.int .i64 s5) (.slice A5 n5 c5)).stored (HRT6.out.other (by omega) (.int .i64 s5) (.slice A5 n5 c5)) (.int .i64 s6) (.slice A6 n6 c6))
  have HVB := Lib.hid ((HV6.out.stored HRS6.out (.int .i64 s5) (.slice A5 n5 c5)).stored (HRT6.out.other (by omega) (.int .i64 s5) (.slice A5 n5 c5)) (.int .i64 s6) (.slice A6 n6 c6))
  go_wp2
  refine bodyPost_ret (by simp [results, Tryd.results86, go_sem, hq0, hq1, hq2, hq3]; try rfl) rfl ?_
  have hva := HVA.out
  rw [← HNG.out, HSQ.out] at hva
  have hvb := HVB.out
  rw [HSR.out] at hvb
  exact ⟨_, _, rfl, hva, hvb, HUF.out⟩

theorem intQuoRem_any (v1 v2 : Value) (a b : Int) (w : World) (h1 : IV w v1 a) (h2 : IV w v2 b) (ha : bl a ≤ 67108864) (hz : b ≠ 0) :
    Calls Tryd.prog 86 #[v1, v2] w fun e w' => ∃ v3 v4, e = .returned (.tuple #[v3, v4]) ∧ IV w' v3 (a.tdiv b) ∧ IV w' v4 (a.tmod b) ∧ Up w w' := by
  by_cases h : a.natAbs < 4611686018427387904 ∧ b.natAbs < 4611686018427387904
  · exact intQuoRem_small v1 v2 a b w h1 h2 h.1 h.2 hz
  · exact intQuoRem_large v1 v2 a b w h1 h2 h ha hz

end Go.Proofs.YtahmjnjammcifaaDoor
