/- Contracts of the sums of integers of any size. -/
import Derived.Test.YtacbjbnocepnaaaGreatDoorQGF
import Derived.Deep.RegionHeld3
import Derived.Deep.RegionWith
namespace Go.Proofs.YtacbjbnocepnaaaGreatDoor
open Go.RowKit Fm
structure Boxes (w : World) (ga gb : Nat) (s : Int) (d : Value) (s2 : Int) (d2 : Value) : Prop where
  a0 : w.cell? ⟨ga, 0, none⟩ = some (.int .i64 s)
  a1 : w.cell? ⟨ga, 1, none⟩ = some d
  b0 : w.cell? ⟨gb, 0, none⟩ = some (.int .i64 s2)
  b1 : w.cell? ⟨gb, 1, none⟩ = some d2
  la : ga < w.heap.size
  lb : gb < w.heap.size
theorem Boxes.up {w w' : World} {ga gb : Nat} {s s2 : Int} {d d2 : Value} (h : Boxes w ga gb s d s2 d2) (hu : Up w w') : Boxes w' ga gb s d s2 d2 :=
  ⟨(hu.cells.1 _ _ h.la).trans h.a0, (hu.cells.1 _ _ h.la).trans h.a1, (hu.cells.1 _ _ h.lb).trans h.b0, (hu.cells.1 _ _ h.lb).trans h.b1, Nat.lt_of_lt_of_le h.la hu.size, Nat.lt_of_lt_of_le h.lb hu.size⟩
theorem Boxes.start (w : World) (s : Int) (d : Value) (s2 : Int) (d2 : Value) (o : Obj) :
    Boxes (((w.alloc (.cells #[.int .i64 s, d] 108)).alloc (.cells #[.int .i64 s2, d2] 108)).alloc o) w.heap.size (w.heap.size + 1) s d s2 d2 := by
  have h1 : (((w.alloc (.cells #[.int .i64 s, d] 108)).alloc (.cells #[.int .i64 s2, d2] 108)).alloc o).heap[w.heap.size]? = some (.cells #[.int .i64 s, d] 108 (0, 0)) := by
    rw [Below.heap_alloc _ _ _ (by simp; omega), Below.heap_alloc _ _ _ (by simp), heap_alloc_new]
  have h2 : (((w.alloc (.cells #[.int .i64 s, d] 108)).alloc (.cells #[.int .i64 s2, d2] 108)).alloc o).heap[w.heap.size + 1]? = some (.cells #[.int .i64 s2, d2] 108 (0, 0)) := by
    rw [Below.heap_alloc _ _ _ (by simp)]
    have := heap_alloc_new (w.alloc (.cells #[.int .i64 s, d] 108)) (.cells #[.int .i64 s2, d2] 108)
    simpa using this
  exact ⟨by rw [cell_of_row _ _ 0 _ _ _ h1]; rfl, by rw [cell_of_row _ _ 1 _ _ _ h1]; rfl, by rw [cell_of_row _ _ 0 _ _ _ h2]; rfl, by rw [cell_of_row _ _ 1 _ _ _ h2]; rfl, by simp; omega, by simp⟩
theorem Up.three (w : World) (a b c : Obj) : Up w (((w.alloc a).alloc b).alloc c) := ((Up.alloc _ _).trans (Up.alloc _ _)).trans (Up.alloc _ _)
theorem start3 (w : World) (s : Int) (d : Value) (s2 : Int) (d2 : Value) :
    ∃ wB, (((w.alloc (.cells #[.int .i64 s, d] 108)).alloc (.cells #[.int .i64 s2, d2] 108)).alloc (.cells #[.int .i64 0, .slice none 0 0] 108)) = wB ∧
      Boxes wB w.heap.size (w.heap.size + 1) s d s2 d2 ∧ Res2 wB (w.heap.size + 1 + 1) ∧ Up w wB :=
  ⟨_, rfl, Boxes.start w s d s2 d2 _, by
    have := Res2.new ((w.alloc (.cells #[.int .i64 s, d] 108)).alloc (.cells #[.int .i64 s2, d2] 108))
    simpa using this, Up.three w _ _ _⟩
set_option maxHeartbeats 1000000 in
set_option maxRecDepth 10000 in
theorem intGcd_small (v1 v2 : Value) (a b : Int) (w : World) (h1 : IV w v1 a) (h2 : IV w v2 b) (ha : a.natAbs < 4611686018427387904) (hb : b.natAbs < 4611686018427387904) :
    Calls Tryz.prog 100 #[v1, v2] w fun e w' => ∃ v, e = .returned v ∧ IV w' v (Int.gcd a b : Nat) ∧ Up w w' := by
  have HBS := Lib.hid (fun W (hu : Up w W) => bothSmall_any v1 v2 a b W (h1.up hu) (h2.up hu))
  have HA := Lib.hid ha
  have HB := Lib.hid hb
  obtain ⟨s, A, n, c, rfl, -, hs1, hs2, hn, hc⟩ := h1.open_
  obtain ⟨s2, A2, n2, c2, rfl, -, hs3, hs4, hn2, hc2⟩ := h2.open_
  obtain ⟨rfl, rfl⟩ : n = 0 ∧ s = a := by rcases hc with ⟨h1, h2, h3⟩ | ⟨h1, h2, h3, h4⟩ <;> first | exact ⟨h1, h2⟩ | omega
  obtain ⟨rfl, rfl⟩ : n2 = 0 ∧ s2 = b := by rcases hc2 with ⟨h1, h2, h3⟩ | ⟨h1, h2, h3, h4⟩ <;> first | exact ⟨h1, h2⟩ | omega
  have hdec : decide (s.natAbs < 4611686018427387904 ∧ s2.natAbs < 4611686018427387904) = true := by simp; exact ⟨ha, hb⟩
  have HSZ := Lib.hid (fun W => size_any s W (by omega) (by omega))
  have HSZ2 := Lib.hid (fun W => size_any s2 W (by omega) (by omega))
  have HGW := Lib.hid (fun W => gcdWords_any s.natAbs s2.natAbs W (by omega) (by omega))
  rw [hdec] at HBS
  clear h1 h2 hc hc2 ha hb hdec
  go_enter Tryz.func100, Tryz.ntmps100
  go_wp2_with fail
  obtain ⟨wB, hwB, hbx, hrs, hu0⟩ := start3 w s (.slice A 0 c) s2 (.slice A2 0 c2)
  rw [hwB]
  clear hwB
  refine (HBS.out _ hu0).mono ?_
  rintro e w1 ⟨rfl, hu1⟩
  obtain ⟨a0, a1, b0, b1, la, lb⟩ := hbx.up hu1
  obtain ⟨r0, r1, f0, f1⟩ := (hrs.up hu1).facts
  have HRS1 := Lib.hid (hrs.up hu1)
  have HU1 := Lib.hid (hu0.trans hu1)
  clear hbx hrs hu0 hu1
  go_wp2_with fail
  have hne1 : (w.heap.size = w.heap.size + 1 + 1) = False := by simp; omega
  have hne2 : (w.heap.size + 1 + 1 = w.heap.size) = False := by simp; omega
  go_region_held3 (fun w' => w'.cell? ⟨w.heap.size, 0, none⟩ = some (.int .i64 s) ∧ w'.cell? ⟨w.heap.size + 1, 0, none⟩ = some (.int .i64 s2)) (go_keep)
    ((first
      | (go_at_call_of 130 (Value.int IntKind.i64 s); refine (HSZ.out _).mono ?_; rintro e w2 ⟨rfl, rfl⟩)
      | (go_at_call_of 130 (Value.int IntKind.i64 s2); refine (HSZ2.out _).mono ?_; rintro e w2 ⟨rfl, rfl⟩)
      | (go_at_call 129; refine (HGW.out _).mono ?_; rintro e w2 ⟨rfl, nq, rfl⟩)))
  have hgl : Nat.gcd s.natAbs s2.natAbs < 4611686018427387904 := by
    have h1 := HA.out
    have h2 := HB.out
    rcases Nat.eq_zero_or_pos s.natAbs with h0 | h0
    · rw [h0, Nat.gcd_zero_left]; exact h2
    · exact Nat.lt_of_le_of_lt (Nat.gcd_le_left _ h0) h1
  have HGL := Lib.hid hgl
  have hwr : IntKind.i64.wrap ((Nat.gcd s.natAbs s2.natAbs : Nat) : Int) = (Nat.gcd s.natAbs s2.natAbs : Nat) := IntWalk.i64_in _ ⟨by omega, by omega⟩
  rw [hwr]
  clear hwr hgl
  obtain ⟨hq0, hq1⟩ := (HRS1.out.drewN (1 + nq)).stored (.int .i64 (Nat.gcd s.natAbs s2.natAbs : Nat)) (.slice none 0 0)
  have HUF := Lib.hid ((HU1.out.trans (Up.drewN w1 (1 + nq))).stored (show w.heap.size ≤ w.heap.size + 1 + 1 by omega) (.int .i64 (Nat.gcd s.natAbs s2.natAbs : Nat)) (.slice none 0 0))
  go_wp2
  refine bodyPost_ret (by simp [results, Tryz.results100, go_sem, hq0, hq1]; try rfl) rfl ?_
  exact ⟨_, rfl, IV.small (by have := HGL.out; omega), HUF.out⟩
set_option maxHeartbeats 1000000 in
set_option maxRecDepth 10000 in
theorem intGcd_large (v1 v2 : Value) (a b : Int) (w : World) (h1 : IV w v1 a) (h2 : IV w v2 b) (hl : ¬ (a.natAbs < 4611686018427387904 ∧ b.natAbs < 4611686018427387904)) (ha : bl a ≤ 67108864) (hb : bl b ≤ 67108864) (ht : Tab w) :
    Calls Tryz.prog 100 #[v1, v2] w fun e w' => ∃ v, e = .returned v ∧ IV w' v (Int.gcd a b : Nat) ∧ Up w w' := by
  have HBS := Lib.hid (fun W (hu : Up w W) => bothSmall_any v1 v2 a b W (h1.up hu) (h2.up hu))
  have HD1 := Lib.hid (fun W (hu : Up w W) => digits_any v1 a W (h1.up hu))
  have HD2 := Lib.hid (fun W (hu : Up w W) => digits_any v2 b W (h2.up hu))
  obtain ⟨s, A, n, c, rfl, -, -, -, hn, -⟩ := h1.open_
  obtain ⟨s2, A2, n2, c2, rfl, -, -, -, hn2, -⟩ := h2.open_
  have hdec : decide (a.natAbs < 4611686018427387904 ∧ b.natAbs < 4611686018427387904) = false := by simpa using hl
  rw [hdec] at HBS
  clear h1 h2 hdec hl
  go_enter Tryz.func100, Tryz.ntmps100
  go_wp2_with fail
  obtain ⟨wB, hwB, hbx, hrs, hu0⟩ := start3 w s (.slice A n c) s2 (.slice A2 n2 c2)
  rw [hwB]
  clear hwB
  refine (HBS.out _ hu0).mono ?_
  rintro e w1 ⟨rfl, hu1⟩
  obtain ⟨a0, a1, b0, b1, la, lb⟩ := hbx.up hu1
  have HBX := Lib.hid (hbx.up hu1)
  have HRS1 := Lib.hid (hrs.up hu1)
  have HU1 := Lib.hid (hu0.trans hu1)
  clear hbx hrs hu0 hu1
  go_wp2_with fail
  have hne1 : (w.heap.size = w.heap.size + 1 + 1) = False := by simp; omega
  have hne2 : (w.heap.size + 1 + 1 = w.heap.size) = False := by simp; omega
  go_region_held3 (fun w' => w'.cell? ⟨w.heap.size, 0, none⟩ = some (.int .i64 s) ∧ w'.cell? ⟨w.heap.size, 1, none⟩ = some (.slice A n c) ∧ w'.cell? ⟨w.heap.size + 1, 0, none⟩ = some (.int .i64 s2) ∧ w'.cell? ⟨w.heap.size + 1, 1, none⟩ = some (.slice A2 n2 c2)) (go_keep)
    ((first
      | (go_at_call_of 132 (Value.int IntKind.i64 s)
         refine (HD1.out _ (HU1.out.trans (Up.drew w1))).mono ?_
         rintro e w2 ⟨d1, rfl, hd1, hu2⟩
         obtain ⟨a0, a1, b0, b1, la, lb⟩ := (HBX.out.up (Up.drew w1)).up hu2
         have HDD1 := Lib.hid hd1
         have HU2 := Lib.hid ((HU1.out.trans (Up.drew w1)).trans hu2)
         have HBX2 := Lib.hid ((HBX.out.up (Up.drew w1)).up hu2)
         have HRS2 := Lib.hid ((HRS1.out.up (Up.drew w1)).up hu2)
         clear hd1 hu2)
      | (go_at_call_of 132 (Value.int IntKind.i64 s2)
         refine (HD2.out _ HU2.out).mono ?_
         rintro e w3 ⟨d2, rfl, hd2, hu3⟩
         obtain ⟨a0, a1, b0, b1, la, lb⟩ := HBX2.out.up hu3
         have HDD2 := Lib.hid hd2
         have HDD1b := Lib.hid (Sl.up HDD1.out hu3)
         have HU3 := Lib.hid (HU2.out.trans hu3)
         have HBX3 := Lib.hid (HBX2.out.up hu3)
         have HRS3 := Lib.hid (HRS2.out.up hu3)
         clear hd2 hu3)
      | (go_at_call 133
         refine (gcd_dv _ _ a.natAbs b.natAbs _ HDD1b.out HDD2.out ha hb (ht.up HU3.out)).mono ?_
         rintro e w4 ⟨d3, rfl, hd3, hu4⟩
         obtain ⟨a0, a1, b0, b1, la, lb⟩ := HBX3.out.up hu4
         have HDD3 := Lib.hid hd3
         have HU4 := Lib.hid (HU3.out.trans hu4)
         have HBX4 := Lib.hid (HBX3.out.up hu4)
         have HRS4 := Lib.hid (HRS3.out.up hu4)
         clear hd3 hu4)
      | (go_at_call 131
         refine (signed_any _ _ _ _ HDD3.out).mono ?_
         rintro e w5 ⟨v5, rfl, hv5, hu5⟩
         obtain ⟨a0, a1, b0, b1, la, lb⟩ := HBX4.out.up hu5
         have HU5 := Lib.hid (HU4.out.trans hu5)
         have HRS5 := Lib.hid (HRS4.out.up hu5)
         obtain ⟨s5, A5, n5, c5, rfl, -, -, -, -, -⟩ := hv5.open_
         obtain ⟨r0, r1, f0, f1⟩ := HRS5.out.facts
         have HV5 := Lib.hid hv5
         clear hv5 hu5)))
  obtain ⟨hq0, hq1⟩ := HRS5.out.stored (.int .i64 s5) (.slice A5 n5 c5)
  have HVF := Lib.hid (HV5.out.stored HRS5.out (.int .i64 s5) (.slice A5 n5 c5))
  have HUF := Lib.hid (HU5.out.stored (show w.heap.size ≤ w.heap.size + 1 + 1 by omega) (.int .i64 s5) (.slice A5 n5 c5))
  go_wp2
  refine bodyPost_ret (by simp [results, Tryz.results100, go_sem, hq0, hq1]; try rfl) rfl ?_
  exact ⟨_, rfl, by have := HVF.out; rw [if_neg (by decide)] at this; exact this, HUF.out⟩
theorem intGcd_any (v1 v2 : Value) (a b : Int) (w : World) (h1 : IV w v1 a) (h2 : IV w v2 b) (ha : bl a ≤ 67108864) (hb : bl b ≤ 67108864) (ht : Tab w) :
    Calls Tryz.prog 100 #[v1, v2] w fun e w' => ∃ v, e = .returned v ∧ IV w' v (Int.gcd a b : Nat) ∧ Up w w' := by
  by_cases h : a.natAbs < 4611686018427387904 ∧ b.natAbs < 4611686018427387904
  · exact intGcd_small v1 v2 a b w h1 h2 h.1 h.2
  · exact intGcd_large v1 v2 a b w h1 h2 h ha hb ht
end Go.Proofs.YtacbjbnocepnaaaGreatDoor
namespace Go.Proofs.YtacbjbnocepnaaaGreatDoor
open Go.RowKit Fm
theorem bl_add_le {m n k : Nat} (hm : (digs 4294967296 m).length ≤ k) (hn : (digs 4294967296 n).length ≤ k) : (digs 4294967296 (m + n)).length ≤ k + 1 := by
  have h1 := val_lt (B := 4294967296) (by omega) (digs_ok (B := 4294967296) (by omega) m)
  have h2 := val_lt (B := 4294967296) (by omega) (digs_ok (B := 4294967296) (by omega) n)
  rw [val_digs (by omega)] at h1 h2
  have h3 := Nat.pow_le_pow_right (n := 4294967296) (by omega) hm
  have h4 := Nat.pow_le_pow_right (n := 4294967296) (by omega) hn
  apply digs_length_le (by omega)
  rw [Nat.pow_succ]
  have : 4294967296 ^ k + 4294967296 ^ k ≤ 4294967296 ^ k * 4294967296 := by
    have := Nat.mul_le_mul_left (4294967296 ^ k) (show 2 ≤ 4294967296 by omega)
    omega
  omega
theorem IV.sgn {w : World} {s : Int} {A : Option Addr} {n c : Nat} {z : Int} (h : IVp w s (.slice A n c) z) : (s < 0 ↔ z < 0) := by
  rcases h with ⟨_, h2, _⟩ | ⟨_, h2, _⟩
  · rw [h2]
  · rw [h2]; constructor
    · intro h; rcases Int.lt_trichotomy z 0 with h1 | h1 | h1
      · exact h1
      · rw [h1] at h; simp at h
      · rw [Int.sign_eq_one_of_pos h1] at h; omega
    · intro h; rw [Int.sign_eq_neg_one_of_neg h]; omega
set_option maxHeartbeats 1000000 in
set_option maxRecDepth 10000 in
theorem intPlus_small (v1 v2 : Value) (a b : Int) (w : World) (h1 : IV w v1 a) (h2 : IV w v2 b) (ha : a.natAbs < 4611686018427387904) (hb : b.natAbs < 4611686018427387904) :
    Calls Tryz.prog 141 #[v1, v2] w fun e w' => ∃ v, e = .returned v ∧ IV w' v (a + b) ∧ Up w w' := by
  have HBS := Lib.hid (fun W (hu : Up w W) => bothSmall_any v1 v2 a b W (h1.up hu) (h2.up hu))
  obtain ⟨s, A, n, c, rfl, -, hs1, hs2, hn, hc⟩ := h1.open_
  obtain ⟨s2, A2, n2, c2, rfl, -, hs3, hs4, hn2, hc2⟩ := h2.open_
  obtain ⟨rfl, rfl⟩ : n = 0 ∧ s = a := by rcases hc with ⟨h1, h2, h3⟩ | ⟨h1, h2, h3, h4⟩ <;> first | exact ⟨h1, h2⟩ | omega
  obtain ⟨rfl, rfl⟩ : n2 = 0 ∧ s2 = b := by rcases hc2 with ⟨h1, h2, h3⟩ | ⟨h1, h2, h3, h4⟩ <;> first | exact ⟨h1, h2⟩ | omega
  have hdec : decide (s.natAbs < 4611686018427387904 ∧ s2.natAbs < 4611686018427387904) = true := by simp; exact ⟨ha, hb⟩
  have HOF := Lib.hid (fun W => of_any (s + s2) W (by omega) (by omega))
  rw [hdec] at HBS
  clear h1 h2 hc hc2 ha hb hdec
  go_enter Tryz.func141, Tryz.ntmps141
  go_wp2_with fail
  obtain ⟨wB, hwB, hbx, hrs, hu0⟩ := start3 w s (.slice A 0 c) s2 (.slice A2 0 c2)
  rw [hwB]
  clear hwB
  refine (HBS.out _ hu0).mono ?_
  rintro e w1 ⟨rfl, hu1⟩
  obtain ⟨a0, a1, b0, b1, la, lb⟩ := hbx.up hu1
  have HRS1 := Lib.hid (hrs.up hu1)
  have HU1 := Lib.hid (hu0.trans hu1)
  clear hbx hrs hu0 hu1
  go_wp2_with fail
  refine (HOF.out _).mono ?_
  rintro e w5 ⟨v5, rfl, hv5, hu5⟩
  have HU5 := Lib.hid (HU1.out.trans hu5)
  have HRS5 := Lib.hid (HRS1.out.up hu5)
  obtain ⟨s5, A5, n5, c5, rfl, -, -, -, -, -⟩ := hv5.open_
  obtain ⟨r0, r1, f0, f1⟩ := HRS5.out.facts
  have HV5 := Lib.hid hv5
  clear hv5 hu5
  obtain ⟨hq0, hq1⟩ := HRS5.out.stored (.int .i64 s5) (.slice A5 n5 c5)
  have HVF := Lib.hid (HV5.out.stored HRS5.out (.int .i64 s5) (.slice A5 n5 c5))
  have HUF := Lib.hid (HU5.out.stored (show w.heap.size ≤ w.heap.size + 1 + 1 by omega) (.int .i64 s5) (.slice A5 n5 c5))
  go_wp2
  refine bodyPost_ret (by simp [results, Tryz.results141, go_sem, hq0, hq1]; try rfl) rfl ?_
  exact ⟨_, rfl, HVF.out, HUF.out⟩
set_option maxHeartbeats 4000000 in
set_option maxRecDepth 10000 in
theorem intPlus_large (v1 v2 : Value) (a b : Int) (w : World) (h1 : IV w v1 a) (h2 : IV w v2 b) (hl : ¬ (a.natAbs < 4611686018427387904 ∧ b.natAbs < 4611686018427387904)) (ha : bl a ≤ 67108864) (hb : bl b ≤ 67108864) :
    Calls Tryz.prog 141 #[v1, v2] w fun e w' => ∃ v, e = .returned v ∧ IV w' v (a + b) ∧ Up w w' := by
  have HBS := Lib.hid (fun W (hu : Up w W) => bothSmall_any v1 v2 a b W (h1.up hu) (h2.up hu))
  have HD1 := Lib.hid (fun W (hu : Up w W) => digits_any v1 a W (h1.up hu))
  have HD2 := Lib.hid (fun W (hu : Up w W) => digits_any v2 b W (h2.up hu))
  obtain ⟨s, A, n, c, rfl, hp1, -, -, hn, -⟩ := h1.open_
  obtain ⟨s2, A2, n2, c2, rfl, hp2, -, -, hn2, -⟩ := h2.open_
  have hg1 := IV.sgn hp1
  have hg2 := IV.sgn hp2
  have hdec : decide (a.natAbs < 4611686018427387904 ∧ b.natAbs < 4611686018427387904) = false := by simpa using hl
  rw [hdec] at HBS
  clear h1 h2 hdec hl hp1 hp2
  rcases Int.lt_or_le a 0 with hsa | hsa
  · have hs0 : s < 0 := hg1.2 hsa
    rcases Int.lt_or_le b 0 with hsb | hsb
    · have hs0b : s2 < 0 := hg2.2 hsb
      clear hg1 hg2
      go_enter Tryz.func141, Tryz.ntmps141
      go_wp2_with fail
      obtain ⟨wB, hwB, hbx, hrs, hu0⟩ := start3 w s (.slice A n c) s2 (.slice A2 n2 c2)
      rw [hwB]
      clear hwB
      refine (HBS.out _ hu0).mono ?_
      rintro e w1 ⟨rfl, hu1⟩
      obtain ⟨a0, a1, b0, b1, la, lb⟩ := hbx.up hu1
      have HBX := Lib.hid (hbx.up hu1)
      have HRS1 := Lib.hid (hrs.up hu1)
      have HU1 := Lib.hid (hu0.trans hu1)
      clear hbx hrs hu0 hu1
      go_wp2_with fail
      have hne1 : (w.heap.size = w.heap.size + 1 + 1) = False := by simp; omega
      have hne2 : (w.heap.size + 1 + 1 = w.heap.size) = False := by simp; omega
      go_region_held3 (fun w' => w'.cell? ⟨w.heap.size, 0, none⟩ = some (.int .i64 s) ∧ w'.cell? ⟨w.heap.size, 1, none⟩ = some (.slice A n c) ∧ w'.cell? ⟨w.heap.size + 1, 0, none⟩ = some (.int .i64 s2) ∧ w'.cell? ⟨w.heap.size + 1, 1, none⟩ = some (.slice A2 n2 c2)) (go_keep)
        ((first
          | (go_at_call_of 132 (Value.int IntKind.i64 s)
             refine (HD1.out _ (HU1.out.trans (Up.drew w1))).mono ?_
             rintro e w2 ⟨d1, rfl, hd1, hu2⟩
             obtain ⟨a0, a1, b0, b1, la, lb⟩ := (HBX.out.up (Up.drew w1)).up hu2
             have HDD1 := Lib.hid hd1
             have HU2 := Lib.hid ((HU1.out.trans (Up.drew w1)).trans hu2)
             have HBX2 := Lib.hid ((HBX.out.up (Up.drew w1)).up hu2)
             have HRS2 := Lib.hid ((HRS1.out.up (Up.drew w1)).up hu2)
             clear hd1 hu2)
          | (go_at_call_of 132 (Value.int IntKind.i64 s2)
             refine (HD2.out _ HU2.out).mono ?_
             rintro e w3 ⟨d2, rfl, hd2, hu3⟩
             obtain ⟨a0, a1, b0, b1, la, lb⟩ := HBX2.out.up hu3
             have HDD2 := Lib.hid hd2
             have HDD1b := Lib.hid (Sl.up HDD1.out hu3)
             have HU3 := Lib.hid (HU2.out.trans hu3)
             have HBX3 := Lib.hid (HBX2.out.up hu3)
             have HRS3 := Lib.hid (HRS2.out.up hu3)
             clear hd2 hu3)))
      go_wp2_with fail
      go_region_held3 (fun w' => w'.cell? ⟨w.heap.size, 0, none⟩ = some (.int .i64 s) ∧ w'.cell? ⟨w.heap.size + 1, 0, none⟩ = some (.int .i64 s2)) (go_keep)
        ((first
          | (go_at_call 156
             refine (plus_dv _ _ a.natAbs b.natAbs _ (Sl.up HDD1b.out (Up.drew w3)) (Sl.up HDD2.out (Up.drew w3)) (Nat.le_trans ha (by omega)) (Nat.le_trans hb (by omega))).mono ?_
             rintro e w4 ⟨d3, rfl, hd3, hu4⟩
             obtain ⟨a0, a1, b0, b1, la, lb⟩ := (HBX3.out.up (Up.drew w3)).up hu4
             have HDD3 := Lib.hid hd3
             have HU4 := Lib.hid ((HU3.out.trans (Up.drew w3)).trans hu4)
             have HBX4 := Lib.hid ((HBX3.out.up (Up.drew w3)).up hu4)
             have HRS4 := Lib.hid ((HRS3.out.up (Up.drew w3)).up hu4)
             clear hd3 hu4)
          | (go_at_call 131
             refine (signed_any _ _ _ _ HDD3.out).mono ?_
             rintro e w5 ⟨v5, rfl, hv5, hu5⟩
             obtain ⟨a0, a1, b0, b1, la, lb⟩ := HBX4.out.up hu5
             have HU5 := Lib.hid (HU4.out.trans hu5)
             have HRS5 := Lib.hid (HRS4.out.up hu5)
             obtain ⟨s5, A5, n5, c5, rfl, -, -, -, -, -⟩ := hv5.open_
             obtain ⟨r0, r1, f0, f1⟩ := HRS5.out.facts
             have HV5 := Lib.hid hv5
             clear hv5 hu5)))
      obtain ⟨hq0, hq1⟩ := HRS5.out.stored (.int .i64 s5) (.slice A5 n5 c5)
      have HVF := Lib.hid (HV5.out.stored HRS5.out (.int .i64 s5) (.slice A5 n5 c5))
      have HUF := Lib.hid (HU5.out.stored (show w.heap.size ≤ w.heap.size + 1 + 1 by omega) (.int .i64 s5) (.slice A5 n5 c5))
      go_wp2
      refine bodyPost_ret (by simp [results, Tryz.results141, go_sem, hq0, hq1]; try rfl) rfl ?_
      have hvf := HVF.out
      rw [if_pos (by first | decide | (simp; omega) | (simp; done))] at hvf
      have hz : -((a.natAbs + b.natAbs : Nat) : Int) = a + b := by omega
      rw [hz] at hvf
      exact ⟨_, rfl, hvf, HUF.out⟩
    · have hs0b : 0 ≤ s2 := Int.not_lt.1 (fun h => by have := hg2.1 h; omega)
      have hn2b : ¬ s2 < 0 := by omega
      have hp2b : (s2 < 0) = False := by simp; omega
      rcases Nat.lt_or_ge a.natAbs b.natAbs with hab | hab
      · skip
        clear hg1 hg2
        go_enter Tryz.func141, Tryz.ntmps141
        go_wp2_with fail
        obtain ⟨wB, hwB, hbx, hrs, hu0⟩ := start3 w s (.slice A n c) s2 (.slice A2 n2 c2)
        rw [hwB]
        clear hwB
        refine (HBS.out _ hu0).mono ?_
        rintro e w1 ⟨rfl, hu1⟩
        obtain ⟨a0, a1, b0, b1, la, lb⟩ := hbx.up hu1
        have HBX := Lib.hid (hbx.up hu1)
        have HRS1 := Lib.hid (hrs.up hu1)
        have HU1 := Lib.hid (hu0.trans hu1)
        clear hbx hrs hu0 hu1
        go_wp2_with fail
        have hne1 : (w.heap.size = w.heap.size + 1 + 1) = False := by simp; omega
        have hne2 : (w.heap.size + 1 + 1 = w.heap.size) = False := by simp; omega
        go_region_held3 (fun w' => w'.cell? ⟨w.heap.size, 0, none⟩ = some (.int .i64 s) ∧ w'.cell? ⟨w.heap.size, 1, none⟩ = some (.slice A n c) ∧ w'.cell? ⟨w.heap.size + 1, 0, none⟩ = some (.int .i64 s2) ∧ w'.cell? ⟨w.heap.size + 1, 1, none⟩ = some (.slice A2 n2 c2)) (go_keep)
          ((first
            | (go_at_call_of 132 (Value.int IntKind.i64 s)
               refine (HD1.out _ (HU1.out.trans (Up.drew w1))).mono ?_
               rintro e w2 ⟨d1, rfl, hd1, hu2⟩
               obtain ⟨a0, a1, b0, b1, la, lb⟩ := (HBX.out.up (Up.drew w1)).up hu2
               have HDD1 := Lib.hid hd1
               have HU2 := Lib.hid ((HU1.out.trans (Up.drew w1)).trans hu2)
               have HBX2 := Lib.hid ((HBX.out.up (Up.drew w1)).up hu2)
               have HRS2 := Lib.hid ((HRS1.out.up (Up.drew w1)).up hu2)
               clear hd1 hu2)
            | (go_at_call_of 132 (Value.int IntKind.i64 s2)
               refine (HD2.out _ HU2.out).mono ?_
               rintro e w3 ⟨d2, rfl, hd2, hu3⟩
               obtain ⟨a0, a1, b0, b1, la, lb⟩ := HBX2.out.up hu3
               have HDD2 := Lib.hid hd2
               have HDD1b := Lib.hid (Sl.up HDD1.out hu3)
               have HU3 := Lib.hid (HU2.out.trans hu3)
               have HBX3 := Lib.hid (HBX2.out.up hu3)
               have HRS3 := Lib.hid (HRS2.out.up hu3)
               clear hd2 hu3)))
        go_wp2_with fail
        refine (cmp_any _ _ a.natAbs b.natAbs _ HDD1b.out HDD2.out).mono ?_
        rintro e w3' ⟨rfl, nq, rfl⟩
        have hcs : decide (((a.natAbs : Int) - b.natAbs).sign < 0) = true := by
          rw [Int.sign_eq_neg_one_of_neg (by omega)]; rfl
        generalize ((a.natAbs : Int) - b.natAbs).sign = sg at *
        have HU3q := Lib.hid (HU3.out.trans (Up.drewN w3 nq))
        have HBX3q := Lib.hid (HBX3.out.up (Up.drewN w3 nq))
        have HRS3q := Lib.hid (HRS3.out.up (Up.drewN w3 nq))
        have HDD1q := Lib.hid (Sl.up HDD1b.out (Up.drewN w3 nq))
        have HDD2q := Lib.hid (Sl.up HDD2.out (Up.drewN w3 nq))
        obtain ⟨wq, hwq⟩ : ∃ wq, wq = w3.drewN nq := ⟨_, rfl⟩
        rw [← hwq] at HU3q HBX3q HRS3q HDD1q HDD2q ⊢
        obtain ⟨a0, a1, b0, b1, la, lb⟩ := HBX3q.out
        clear hwq
        go_wp2_with fail
        go_region_held3 (fun w' => w'.cell? ⟨w.heap.size, 0, none⟩ = some (.int .i64 s) ∧ w'.cell? ⟨w.heap.size + 1, 0, none⟩ = some (.int .i64 s2)) (go_keep)
          ((first
            | (go_at_call 157
               refine (minus_dv _ _ b.natAbs a.natAbs _ (Sl.up HDD2q.out (Up.drew wq)) (Sl.up HDD1q.out (Up.drew wq)) (Nat.le_trans hb (by omega)) (Nat.le_of_lt hab)).mono ?_
               rintro e w4 ⟨d3, rfl, hd3, hu4⟩
               obtain ⟨a0, a1, b0, b1, la, lb⟩ := (HBX3q.out.up (Up.drew wq)).up hu4
               have HDD3 := Lib.hid hd3
               have HU4 := Lib.hid ((HU3q.out.trans (Up.drew wq)).trans hu4)
               have HBX4 := Lib.hid ((HBX3q.out.up (Up.drew wq)).up hu4)
               have HRS4 := Lib.hid ((HRS3q.out.up (Up.drew wq)).up hu4)
               clear hd3 hu4)
            | (go_at_call 131
               refine (signed_any _ _ _ _ HDD3.out).mono ?_
               rintro e w5 ⟨v5, rfl, hv5, hu5⟩
               obtain ⟨a0, a1, b0, b1, la, lb⟩ := HBX4.out.up hu5
               have HU5 := Lib.hid (HU4.out.trans hu5)
               have HRS5 := Lib.hid (HRS4.out.up hu5)
               obtain ⟨s5, A5, n5, c5, rfl, -, -, -, -, -⟩ := hv5.open_
               obtain ⟨r0, r1, f0, f1⟩ := HRS5.out.facts
               have HV5 := Lib.hid hv5
               clear hv5 hu5)))
        obtain ⟨hq0, hq1⟩ := HRS5.out.stored (.int .i64 s5) (.slice A5 n5 c5)
        have HVF := Lib.hid (HV5.out.stored HRS5.out (.int .i64 s5) (.slice A5 n5 c5))
        have HUF := Lib.hid (HU5.out.stored (show w.heap.size ≤ w.heap.size + 1 + 1 by omega) (.int .i64 s5) (.slice A5 n5 c5))
        go_wp2
        refine bodyPost_ret (by simp [results, Tryz.results141, go_sem, hq0, hq1]; try rfl) rfl ?_
        have hvf := HVF.out
        rw [if_neg (by first | decide | (simp; omega) | (simp; done))] at hvf
        have hz : ((b.natAbs - a.natAbs : Nat) : Int) = a + b := by omega
        rw [hz] at hvf
        exact ⟨_, rfl, hvf, HUF.out⟩
      · skip
        clear hg1 hg2
        go_enter Tryz.func141, Tryz.ntmps141
        go_wp2_with fail
        obtain ⟨wB, hwB, hbx, hrs, hu0⟩ := start3 w s (.slice A n c) s2 (.slice A2 n2 c2)
        rw [hwB]
        clear hwB
        refine (HBS.out _ hu0).mono ?_
        rintro e w1 ⟨rfl, hu1⟩
        obtain ⟨a0, a1, b0, b1, la, lb⟩ := hbx.up hu1
        have HBX := Lib.hid (hbx.up hu1)
        have HRS1 := Lib.hid (hrs.up hu1)
        have HU1 := Lib.hid (hu0.trans hu1)
        clear hbx hrs hu0 hu1
        go_wp2_with fail
        have hne1 : (w.heap.size = w.heap.size + 1 + 1) = False := by simp; omega
        have hne2 : (w.heap.size + 1 + 1 = w.heap.size) = False := by simp; omega
        go_region_held3 (fun w' => w'.cell? ⟨w.heap.size, 0, none⟩ = some (.int .i64 s) ∧ w'.cell? ⟨w.heap.size, 1, none⟩ = some (.slice A n c) ∧ w'.cell? ⟨w.heap.size + 1, 0, none⟩ = some (.int .i64 s2) ∧ w'.cell? ⟨w.heap.size + 1, 1, none⟩ = some (.slice A2 n2 c2)) (go_keep)
          ((first
            | (go_at_call_of 132 (Value.int IntKind.i64 s)
               refine (HD1.out _ (HU1.out.trans (Up.drew w1))).mono ?_
               rintro e w2 ⟨d1, rfl, hd1, hu2⟩
               obtain ⟨a0, a1, b0, b1, la, lb⟩ := (HBX.out.up (Up.drew w1)).up hu2
               have HDD1 := Lib.hid hd1
               have HU2 := Lib.hid ((HU1.out.trans (Up.drew w1)).trans hu2)
               have HBX2 := Lib.hid ((HBX.out.up (Up.drew w1)).up hu2)
               have HRS2 := Lib.hid ((HRS1.out.up (Up.drew w1)).up hu2)
               clear hd1 hu2)
            | (go_at_call_of 132 (Value.int IntKind.i64 s2)
               refine (HD2.out _ HU2.out).mono ?_
               rintro e w3 ⟨d2, rfl, hd2, hu3⟩
               obtain ⟨a0, a1, b0, b1, la, lb⟩ := HBX2.out.up hu3
               have HDD2 := Lib.hid hd2
               have HDD1b := Lib.hid (Sl.up HDD1.out hu3)
               have HU3 := Lib.hid (HU2.out.trans hu3)
               have HBX3 := Lib.hid (HBX2.out.up hu3)
               have HRS3 := Lib.hid (HRS2.out.up hu3)
               clear hd2 hu3)))
        go_wp2_with fail
        refine (cmp_any _ _ a.natAbs b.natAbs _ HDD1b.out HDD2.out).mono ?_
        rintro e w3' ⟨rfl, nq, rfl⟩
        have hcs : decide (((a.natAbs : Int) - b.natAbs).sign < 0) = false := by
          have : 0 ≤ ((a.natAbs : Int) - b.natAbs).sign := Int.sign_nonneg_iff.2 (by omega)
          simp; omega
        generalize ((a.natAbs : Int) - b.natAbs).sign = sg at *
        have HU3q := Lib.hid (HU3.out.trans (Up.drewN w3 nq))
        have HBX3q := Lib.hid (HBX3.out.up (Up.drewN w3 nq))
        have HRS3q := Lib.hid (HRS3.out.up (Up.drewN w3 nq))
        have HDD1q := Lib.hid (Sl.up HDD1b.out (Up.drewN w3 nq))
        have HDD2q := Lib.hid (Sl.up HDD2.out (Up.drewN w3 nq))
        obtain ⟨wq, hwq⟩ : ∃ wq, wq = w3.drewN nq := ⟨_, rfl⟩
        rw [← hwq] at HU3q HBX3q HRS3q HDD1q HDD2q ⊢
        obtain ⟨a0, a1, b0, b1, la, lb⟩ := HBX3q.out
        clear hwq
        go_wp2_with fail
        go_region_held3 (fun w' => w'.cell? ⟨w.heap.size, 0, none⟩ = some (.int .i64 s) ∧ w'.cell? ⟨w.heap.size + 1, 0, none⟩ = some (.int .i64 s2)) (go_keep)
          ((first
            | (go_at_call 157
               refine (minus_dv _ _ a.natAbs b.natAbs _ (Sl.up HDD1q.out (Up.drew wq)) (Sl.up HDD2q.out (Up.drew wq)) (Nat.le_trans ha (by omega)) hab).mono ?_
               rintro e w4 ⟨d3, rfl, hd3, hu4⟩
               obtain ⟨a0, a1, b0, b1, la, lb⟩ := (HBX3q.out.up (Up.drew wq)).up hu4
               have HDD3 := Lib.hid hd3
               have HU4 := Lib.hid ((HU3q.out.trans (Up.drew wq)).trans hu4)
               have HBX4 := Lib.hid ((HBX3q.out.up (Up.drew wq)).up hu4)
               have HRS4 := Lib.hid ((HRS3q.out.up (Up.drew wq)).up hu4)
               clear hd3 hu4)
            | (go_at_call 131
               refine (signed_any _ _ _ _ HDD3.out).mono ?_
               rintro e w5 ⟨v5, rfl, hv5, hu5⟩
               obtain ⟨a0, a1, b0, b1, la, lb⟩ := HBX4.out.up hu5
               have HU5 := Lib.hid (HU4.out.trans hu5)
               have HRS5 := Lib.hid (HRS4.out.up hu5)
               obtain ⟨s5, A5, n5, c5, rfl, -, -, -, -, -⟩ := hv5.open_
               obtain ⟨r0, r1, f0, f1⟩ := HRS5.out.facts
               have HV5 := Lib.hid hv5
               clear hv5 hu5)))
        obtain ⟨hq0, hq1⟩ := HRS5.out.stored (.int .i64 s5) (.slice A5 n5 c5)
        have HVF := Lib.hid (HV5.out.stored HRS5.out (.int .i64 s5) (.slice A5 n5 c5))
        have HUF := Lib.hid (HU5.out.stored (show w.heap.size ≤ w.heap.size + 1 + 1 by omega) (.int .i64 s5) (.slice A5 n5 c5))
        go_wp2
        refine bodyPost_ret (by simp [results, Tryz.results141, go_sem, hq0, hq1]; try rfl) rfl ?_
        have hvf := HVF.out
        rw [if_pos (by first | decide | (simp; omega) | (simp; done))] at hvf
        have hz : -((a.natAbs - b.natAbs : Nat) : Int) = a + b := by omega
        rw [hz] at hvf
        exact ⟨_, rfl, hvf, HUF.out⟩
  · have hs0 : 0 ≤ s := Int.not_lt.1 (fun h => by have := hg1.1 h; omega)
    have hn2 : ¬ s < 0 := by omega
    have hp2 : (s < 0) = False := by simp; omega
    rcases Int.lt_or_le b 0 with hsb | hsb
    · have hs0b : s2 < 0 := hg2.2 hsb
      rcases Nat.lt_or_ge a.natAbs b.natAbs with hab | hab
      · skip
        clear hg1 hg2
        go_enter Tryz.func141, Tryz.ntmps141
        go_wp2_with fail
        obtain ⟨wB, hwB, hbx, hrs, hu0⟩ := start3 w s (.slice A n c) s2 (.slice A2 n2 c2)
        rw [hwB]
        clear hwB
        refine (HBS.out _ hu0).mono ?_
        rintro e w1 ⟨rfl, hu1⟩
        obtain ⟨a0, a1, b0, b1, la, lb⟩ := hbx.up hu1
        have HBX := Lib.hid (hbx.up hu1)
        have HRS1 := Lib.hid (hrs.up hu1)
        have HU1 := Lib.hid (hu0.trans hu1)
        clear hbx hrs hu0 hu1
        go_wp2_with fail
        have hne1 : (w.heap.size = w.heap.size + 1 + 1) = False := by simp; omega
        have hne2 : (w.heap.size + 1 + 1 = w.heap.size) = False := by simp; omega
        go_region_held3 (fun w' => w'.cell? ⟨w.heap.size, 0, none⟩ = some (.int .i64 s) ∧ w'.cell? ⟨w.heap.size, 1, none⟩ = some (.slice A n c) ∧ w'.cell? ⟨w.heap.size + 1, 0, none⟩ = some (.int .i64 s2) ∧ w'.cell? ⟨w.heap.size + 1, 1, none⟩ = some (.slice A2 n2 c2)) (go_keep)
          ((first
            | (go_at_call_of 132 (Value.int IntKind.i64 s)
               refine (HD1.out _ (HU1.out.trans (Up.drew w1))).mono ?_
               rintro e w2 ⟨d1, rfl, hd1, hu2⟩
               obtain ⟨a0, a1, b0, b1, la, lb⟩ := (HBX.out.up (Up.drew w1)).up hu2
               have HDD1 := Lib.hid hd1
               have HU2 := Lib.hid ((HU1.out.trans (Up.drew w1)).trans hu2)
               have HBX2 := Lib.hid ((HBX.out.up (Up.drew w1)).up hu2)
               have HRS2 := Lib.hid ((HRS1.out.up (Up.drew w1)).up hu2)
               clear hd1 hu2)
            | (go_at_call_of 132 (Value.int IntKind.i64 s2)
               refine (HD2.out _ HU2.out).mono ?_
               rintro e w3 ⟨d2, rfl, hd2, hu3⟩
               obtain ⟨a0, a1, b0, b1, la, lb⟩ := HBX2.out.up hu3
               have HDD2 := Lib.hid hd2
               have HDD1b := Lib.hid (Sl.up HDD1.out hu3)
               have HU3 := Lib.hid (HU2.out.trans hu3)
               have HBX3 := Lib.hid (HBX2.out.up hu3)
               have HRS3 := Lib.hid (HRS2.out.up hu3)
               clear hd2 hu3)))
        go_wp2_with fail
        refine (cmp_any _ _ a.natAbs b.natAbs _ HDD1b.out HDD2.out).mono ?_
        rintro e w3' ⟨rfl, nq, rfl⟩
        have hcs : decide (((a.natAbs : Int) - b.natAbs).sign < 0) = true := by
          rw [Int.sign_eq_neg_one_of_neg (by omega)]; rfl
        generalize ((a.natAbs : Int) - b.natAbs).sign = sg at *
        have HU3q := Lib.hid (HU3.out.trans (Up.drewN w3 nq))
        have HBX3q := Lib.hid (HBX3.out.up (Up.drewN w3 nq))
        have HRS3q := Lib.hid (HRS3.out.up (Up.drewN w3 nq))
        have HDD1q := Lib.hid (Sl.up HDD1b.out (Up.drewN w3 nq))
        have HDD2q := Lib.hid (Sl.up HDD2.out (Up.drewN w3 nq))
        obtain ⟨wq, hwq⟩ : ∃ wq, wq = w3.drewN nq := ⟨_, rfl⟩
        rw [← hwq] at HU3q HBX3q HRS3q HDD1q HDD2q ⊢
        obtain ⟨a0, a1, b0, b1, la, lb⟩ := HBX3q.out
        clear hwq
        go_wp2_with fail
        go_region_held3 (fun w' => w'.cell? ⟨w.heap.size, 0, none⟩ = some (.int .i64 s) ∧ w'.cell? ⟨w.heap.size + 1, 0, none⟩ = some (.int .i64 s2)) (go_keep)
          ((first
            | (go_at_call 157
               refine (minus_dv _ _ b.natAbs a.natAbs _ (Sl.up HDD2q.out (Up.drew wq)) (Sl.up HDD1q.out (Up.drew wq)) (Nat.le_trans hb (by omega)) (Nat.le_of_lt hab)).mono ?_
               rintro e w4 ⟨d3, rfl, hd3, hu4⟩
               obtain ⟨a0, a1, b0, b1, la, lb⟩ := (HBX3q.out.up (Up.drew wq)).up hu4
               have HDD3 := Lib.hid hd3
               have HU4 := Lib.hid ((HU3q.out.trans (Up.drew wq)).trans hu4)
               have HBX4 := Lib.hid ((HBX3q.out.up (Up.drew wq)).up hu4)
               have HRS4 := Lib.hid ((HRS3q.out.up (Up.drew wq)).up hu4)
               clear hd3 hu4)
            | (go_at_call 131
               refine (signed_any _ _ _ _ HDD3.out).mono ?_
               rintro e w5 ⟨v5, rfl, hv5, hu5⟩
               obtain ⟨a0, a1, b0, b1, la, lb⟩ := HBX4.out.up hu5
               have HU5 := Lib.hid (HU4.out.trans hu5)
               have HRS5 := Lib.hid (HRS4.out.up hu5)
               obtain ⟨s5, A5, n5, c5, rfl, -, -, -, -, -⟩ := hv5.open_
               obtain ⟨r0, r1, f0, f1⟩ := HRS5.out.facts
               have HV5 := Lib.hid hv5
               clear hv5 hu5)))
        obtain ⟨hq0, hq1⟩ := HRS5.out.stored (.int .i64 s5) (.slice A5 n5 c5)
        have HVF := Lib.hid (HV5.out.stored HRS5.out (.int .i64 s5) (.slice A5 n5 c5))
        have HUF := Lib.hid (HU5.out.stored (show w.heap.size ≤ w.heap.size + 1 + 1 by omega) (.int .i64 s5) (.slice A5 n5 c5))
        go_wp2
        refine bodyPost_ret (by simp [results, Tryz.results141, go_sem, hq0, hq1]; try rfl) rfl ?_
        have hvf := HVF.out
        rw [if_pos (by first | decide | (simp; omega) | (simp; done))] at hvf
        have hz : -((b.natAbs - a.natAbs : Nat) : Int) = a + b := by omega
        rw [hz] at hvf
        exact ⟨_, rfl, hvf, HUF.out⟩
      · skip
        clear hg1 hg2
        go_enter Tryz.func141, Tryz.ntmps141
        go_wp2_with fail
        obtain ⟨wB, hwB, hbx, hrs, hu0⟩ := start3 w s (.slice A n c) s2 (.slice A2 n2 c2)
        rw [hwB]
        clear hwB
        refine (HBS.out _ hu0).mono ?_
        rintro e w1 ⟨rfl, hu1⟩
        obtain ⟨a0, a1, b0, b1, la, lb⟩ := hbx.up hu1
        have HBX := Lib.hid (hbx.up hu1)
        have HRS1 := Lib.hid (hrs.up hu1)
        have HU1 := Lib.hid (hu0.trans hu1)
        clear hbx hrs hu0 hu1
        go_wp2_with fail
        have hne1 : (w.heap.size = w.heap.size + 1 + 1) = False := by simp; omega
        have hne2 : (w.heap.size + 1 + 1 = w.heap.size) = False := by simp; omega
        go_region_held3 (fun w' => w'.cell? ⟨w.heap.size, 0, none⟩ = some (.int .i64 s) ∧ w'.cell? ⟨w.heap.size, 1, none⟩ = some (.slice A n c) ∧ w'.cell? ⟨w.heap.size + 1, 0, none⟩ = some (.int .i64 s2) ∧ w'.cell? ⟨w.heap.size + 1, 1, none⟩ = some (.slice A2 n2 c2)) (go_keep)
          ((first
            | (go_at_call_of 132 (Value.int IntKind.i64 s)
               refine (HD1.out _ (HU1.out.trans (Up.drew w1))).mono ?_
               rintro e w2 ⟨d1, rfl, hd1, hu2⟩
               obtain ⟨a0, a1, b0, b1, la, lb⟩ := (HBX.out.up (Up.drew w1)).up hu2
               have HDD1 := Lib.hid hd1
               have HU2 := Lib.hid ((HU1.out.trans (Up.drew w1)).trans hu2)
               have HBX2 := Lib.hid ((HBX.out.up (Up.drew w1)).up hu2)
               have HRS2 := Lib.hid ((HRS1.out.up (Up.drew w1)).up hu2)
               clear hd1 hu2)
            | (go_at_call_of 132 (Value.int IntKind.i64 s2)
               refine (HD2.out _ HU2.out).mono ?_
               rintro e w3 ⟨d2, rfl, hd2, hu3⟩
               obtain ⟨a0, a1, b0, b1, la, lb⟩ := HBX2.out.up hu3
               have HDD2 := Lib.hid hd2
               have HDD1b := Lib.hid (Sl.up HDD1.out hu3)
               have HU3 := Lib.hid (HU2.out.trans hu3)
               have HBX3 := Lib.hid (HBX2.out.up hu3)
               have HRS3 := Lib.hid (HRS2.out.up hu3)
               clear hd2 hu3)))
        go_wp2_with fail
        refine (cmp_any _ _ a.natAbs b.natAbs _ HDD1b.out HDD2.out).mono ?_
        rintro e w3' ⟨rfl, nq, rfl⟩
        have hcs : decide (((a.natAbs : Int) - b.natAbs).sign < 0) = false := by
          have : 0 ≤ ((a.natAbs : Int) - b.natAbs).sign := Int.sign_nonneg_iff.2 (by omega)
          simp; omega
        generalize ((a.natAbs : Int) - b.natAbs).sign = sg at *
        have HU3q := Lib.hid (HU3.out.trans (Up.drewN w3 nq))
        have HBX3q := Lib.hid (HBX3.out.up (Up.drewN w3 nq))
        have HRS3q := Lib.hid (HRS3.out.up (Up.drewN w3 nq))
        have HDD1q := Lib.hid (Sl.up HDD1b.out (Up.drewN w3 nq))
        have HDD2q := Lib.hid (Sl.up HDD2.out (Up.drewN w3 nq))
        obtain ⟨wq, hwq⟩ : ∃ wq, wq = w3.drewN nq := ⟨_, rfl⟩
        rw [← hwq] at HU3q HBX3q HRS3q HDD1q HDD2q ⊢
        obtain ⟨a0, a1, b0, b1, la, lb⟩ := HBX3q.out
        clear hwq
        go_wp2_with fail
        go_region_held3 (fun w' => w'.cell? ⟨w.heap.size, 0, none⟩ = some (.int .i64 s) ∧ w'.cell? ⟨w.heap.size + 1, 0, none⟩ = some (.int .i64 s2)) (go_keep)
          ((first
            | (go_at_call 157
               refine (minus_dv _ _ a.natAbs b.natAbs _ (Sl.up HDD1q.out (Up.drew wq)) (Sl.up HDD2q.out (Up.drew wq)) (Nat.le_trans ha (by omega)) hab).mono ?_
               rintro e w4 ⟨d3, rfl, hd3, hu4⟩
               obtain ⟨a0, a1, b0, b1, la, lb⟩ := (HBX3q.out.up (Up.drew wq)).up hu4
               have HDD3 := Lib.hid hd3
               have HU4 := Lib.hid ((HU3q.out.trans (Up.drew wq)).trans hu4)
               have HBX4 := Lib.hid ((HBX3q.out.up (Up.drew wq)).up hu4)
               have HRS4 := Lib.hid ((HRS3q.out.up (Up.drew wq)).up hu4)
               clear hd3 hu4)
            | (go_at_call 131
               refine (signed_any _ _ _ _ HDD3.out).mono ?_
               rintro e w5 ⟨v5, rfl, hv5, hu5⟩
               obtain ⟨a0, a1, b0, b1, la, lb⟩ := HBX4.out.up hu5
               have HU5 := Lib.hid (HU4.out.trans hu5)
               have HRS5 := Lib.hid (HRS4.out.up hu5)
               obtain ⟨s5, A5, n5, c5, rfl, -, -, -, -, -⟩ := hv5.open_
               obtain ⟨r0, r1, f0, f1⟩ := HRS5.out.facts
               have HV5 := Lib.hid hv5
               clear hv5 hu5)))
        obtain ⟨hq0, hq1⟩ := HRS5.out.stored (.int .i64 s5) (.slice A5 n5 c5)
        have HVF := Lib.hid (HV5.out.stored HRS5.out (.int .i64 s5) (.slice A5 n5 c5))
        have HUF := Lib.hid (HU5.out.stored (show w.heap.size ≤ w.heap.size + 1 + 1 by omega) (.int .i64 s5) (.slice A5 n5 c5))
        go_wp2
        refine bodyPost_ret (by simp [results, Tryz.results141, go_sem, hq0, hq1]; try rfl) rfl ?_
        have hvf := HVF.out
        rw [if_neg (by first | decide | (simp; omega) | (simp; done))] at hvf
        have hz : ((a.natAbs - b.natAbs : Nat) : Int) = a + b := by omega
        rw [hz] at hvf
        exact ⟨_, rfl, hvf, HUF.out⟩
    · have hs0b : 0 ≤ s2 := Int.not_lt.1 (fun h => by have := hg2.1 h; omega)
      have hn2b : ¬ s2 < 0 := by omega
      have hp2b : (s2 < 0) = False := by simp; omega
      clear hg1 hg2
      go_enter Tryz.func141, Tryz.ntmps141
      go_wp2_with fail
      obtain ⟨wB, hwB, hbx, hrs, hu0⟩ := start3 w s (.slice A n c) s2 (.slice A2 n2 c2)
      rw [hwB]
      clear hwB
      refine (HBS.out _ hu0).mono ?_
      rintro e w1 ⟨rfl, hu1⟩
      obtain ⟨a0, a1, b0, b1, la, lb⟩ := hbx.up hu1
      have HBX := Lib.hid (hbx.up hu1)
      have HRS1 := Lib.hid (hrs.up hu1)
      have HU1 := Lib.hid (hu0.trans hu1)
      clear hbx hrs hu0 hu1
      go_wp2_with fail
      have hne1 : (w.heap.size = w.heap.size + 1 + 1) = False := by simp; omega
      have hne2 : (w.heap.size + 1 + 1 = w.heap.size) = False := by simp; omega
      go_region_held3 (fun w' => w'.cell? ⟨w.heap.size, 0, none⟩ = some (.int .i64 s) ∧ w'.cell? ⟨w.heap.size, 1, none⟩ = some (.slice A n c) ∧ w'.cell? ⟨w.heap.size + 1, 0, none⟩ = some (.int .i64 s2) ∧ w'.cell? ⟨w.heap.size + 1, 1, none⟩ = some (.slice A2 n2 c2)) (go_keep)
        ((first
          | (go_at_call_of 132 (Value.int IntKind.i64 s)
             refine (HD1.out _ (HU1.out.trans (Up.drew w1))).mono ?_
             rintro e w2 ⟨d1, rfl, hd1, hu2⟩
             obtain ⟨a0, a1, b0, b1, la, lb⟩ := (HBX.out.up (Up.drew w1)).up hu2
             have HDD1 := Lib.hid hd1
             have HU2 := Lib.hid ((HU1.out.trans (Up.drew w1)).trans hu2)
             have HBX2 := Lib.hid ((HBX.out.up (Up.drew w1)).up hu2)
             have HRS2 := Lib.hid ((HRS1.out.up (Up.drew w1)).up hu2)
             clear hd1 hu2)
          | (go_at_call_of 132 (Value.int IntKind.i64 s2)
             refine (HD2.out _ HU2.out).mono ?_
             rintro e w3 ⟨d2, rfl, hd2, hu3⟩
             obtain ⟨a0, a1, b0, b1, la, lb⟩ := HBX2.out.up hu3
             have HDD2 := Lib.hid hd2
             have HDD1b := Lib.hid (Sl.up HDD1.out hu3)
             have HU3 := Lib.hid (HU2.out.trans hu3)
             have HBX3 := Lib.hid (HBX2.out.up hu3)
             have HRS3 := Lib.hid (HRS2.out.up hu3)
             clear hd2 hu3)))
      go_wp2_with fail
      go_region_held3 (fun w' => w'.cell? ⟨w.heap.size, 0, none⟩ = some (.int .i64 s) ∧ w'.cell? ⟨w.heap.size + 1, 0, none⟩ = some (.int .i64 s2)) (go_keep)
        ((first
          | (go_at_call 156
             refine (plus_dv _ _ a.natAbs b.natAbs _ (Sl.up HDD1b.out (Up.drew w3)) (Sl.up HDD2.out (Up.drew w3)) (Nat.le_trans ha (by omega)) (Nat.le_trans hb (by omega))).mono ?_
             rintro e w4 ⟨d3, rfl, hd3, hu4⟩
             obtain ⟨a0, a1, b0, b1, la, lb⟩ := (HBX3.out.up (Up.drew w3)).up hu4
             have HDD3 := Lib.hid hd3
             have HU4 := Lib.hid ((HU3.out.trans (Up.drew w3)).trans hu4)
             have HBX4 := Lib.hid ((HBX3.out.up (Up.drew w3)).up hu4)
             have HRS4 := Lib.hid ((HRS3.out.up (Up.drew w3)).up hu4)
             clear hd3 hu4)
          | (go_at_call 131
             refine (signed_any _ _ _ _ HDD3.out).mono ?_
             rintro e w5 ⟨v5, rfl, hv5, hu5⟩
             obtain ⟨a0, a1, b0, b1, la, lb⟩ := HBX4.out.up hu5
             have HU5 := Lib.hid (HU4.out.trans hu5)
             have HRS5 := Lib.hid (HRS4.out.up hu5)
             obtain ⟨s5, A5, n5, c5, rfl, -, -, -, -, -⟩ := hv5.open_
             obtain ⟨r0, r1, f0, f1⟩ := HRS5.out.facts
             have HV5 := Lib.hid hv5
             clear hv5 hu5)))
      obtain ⟨hq0, hq1⟩ := HRS5.out.stored (.int .i64 s5) (.slice A5 n5 c5)
      have HVF := Lib.hid (HV5.out.stored HRS5.out (.int .i64 s5) (.slice A5 n5 c5))
      have HUF := Lib.hid (HU5.out.stored (show w.heap.size ≤ w.heap.size + 1 + 1 by omega) (.int .i64 s5) (.slice A5 n5 c5))
      go_wp2
      refine bodyPost_ret (by simp [results, Tryz.results141, go_sem, hq0, hq1]; try rfl) rfl ?_
      have hvf := HVF.out
      rw [if_neg (by first | decide | (simp; omega) | (simp; done))] at hvf
      have hz : ((a.natAbs + b.natAbs : Nat) : Int) = a + b := by omega
      rw [hz] at hvf
      exact ⟨_, rfl, hvf, HUF.out⟩
theorem intPlus_any (v1 v2 : Value) (a b : Int) (w : World) (h1 : IV w v1 a) (h2 : IV w v2 b) (ha : bl a ≤ 67108864) (hb : bl b ≤ 67108864) :
    Calls Tryz.prog 141 #[v1, v2] w fun e w' => ∃ v, e = .returned v ∧ IV w' v (a + b) ∧ Up w w' := by
  by_cases h : a.natAbs < 4611686018427387904 ∧ b.natAbs < 4611686018427387904
  · exact intPlus_small v1 v2 a b w h1 h2 h.1 h.2
  · exact intPlus_large v1 v2 a b w h1 h2 h ha hb
end Go.Proofs.YtacbjbnocepnaaaGreatDoor
