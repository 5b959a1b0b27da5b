/- Contracts of the reference implementation: quotients and comparison of fractions. -/
import Derived.Test.YtgcmogldiahdpaaGreatDoorQHK
namespace Go.Proofs.YtgcmogldiahdpaaGreatDoor
open Go.RowKit Fm
theorem rat_div (a b : Rat) : a / b = Rat.divInt (a.num * b.den) (a.den * b.num) := by
  rw [Rat.div_def, Rat.inv_def]
  conv => lhs; lhs; rw [← Rat.num_divInt_den a]
  rw [Rat.divInt_mul_divInt]
set_option maxHeartbeats 2000000 in
set_option maxRecDepth 10000 in
theorem refRatSign_any (v : Value) (p q : Int) (w : World) (h : RR w v p q) :
    Calls Tryz.prog 106 #[v] w fun e w' => e = .returned (.int .i64 p.sign) ∧ Up w w' := by
  obtain ⟨s, s2, g, g2, A, A2, n, c, n2, c2, rfl, hp1, hp2⟩ := h
  have HS := Lib.hid (fun W (hu : Up w W) => refSign_any _ p W (hp1.up hu))
  clear hp1 hp2
  go_enter Tryz.func106, Tryz.ntmps106
  go_wp2_with fail
  refine Calls.mono (HS.out _ (by (repeat (first | exact Below.refl _ _ | exact Go.RowKit.Hid.out (by assumption) | refine Up.trans ?_ (Up.drew _) | refine Up.trans ?_ (Up.drewN _ _) | refine Up.trans ?_ (Up.alloc _ _) | refine Up.trans ?_ (Go.RowKit.Hid.out (by assumption)))))) ?_
  rintro e w1 ⟨rfl, hu1⟩
  have HU1 := Lib.hid hu1
  clear hu1
  go_wp2
  go_ret
  exact ⟨rfl, by (repeat (first | exact Below.refl _ _ | exact Go.RowKit.Hid.out (by assumption) | refine Up.trans ?_ (Up.drew _) | refine Up.trans ?_ (Up.drewN _ _) | refine Up.trans ?_ (Up.alloc _ _) | refine Up.trans ?_ (Go.RowKit.Hid.out (by assumption))))⟩

set_option maxHeartbeats 2000000 in
set_option maxRecDepth 10000 in
theorem refRatMinus_any (v : Value) (p q : Int) (w : World) (h : RR w v p q) :
    Calls Tryz.prog 160 #[v] w fun e w' => ∃ v', e = .returned v' ∧ RR w' v' (-p) q ∧ Up w w' := by
  obtain ⟨s, s2, g, g2, A, A2, n, c, n2, c2, rfl, hp1, hp2⟩ := h
  have HM := Lib.hid (fun W (hu : Up w W) => refMinus_any _ p W (hp1.up hu))
  have HQ := Lib.hid hp2
  clear hp1 hp2
  go_enter Tryz.func160, Tryz.ntmps160
  go_upto_region 1 with fail
  obtain ⟨wB, hwB⟩ : ∃ wB, wB = (w.alloc (.cells #[.int .i64 s, .bool g, .slice A n c, .int .i64 s2, .bool g2, .slice A2 n2 c2] 63)).alloc (.cells #[.int .i64 0, .bool false, .slice none 0 0, .int .i64 0, .bool false, .slice none 0 0] 63) := ⟨_, rfl⟩
  have HA := Lib.hid (show CellR wB w.heap.size s g (.slice A n c) s2 g2 (.slice A2 n2 c2) by rw [hwB]; exact (CellR.new w _ _ _ _ _ _).up (Up.alloc _ _))
  have HR := Lib.hid (show CellR wB (w.heap.size + 1) 0 false (.slice none 0 0) 0 false (.slice none 0 0) by
    rw [hwB]
    have := CellR.new (w.alloc (.cells #[.int .i64 s, .bool g, .slice A n c, .int .i64 s2, .bool g2, .slice A2 n2 c2] 63)) 0 false (.slice none 0 0) 0 false (.slice none 0 0)
    simpa using this)
  have HU := Lib.hid (show Up w wB by rw [hwB]; exact (Up.alloc _ _).trans (Up.alloc _ _))
  rw [← hwB]
  clear hwB
  obtain ⟨a0, a1, a2, a3, a4, a5, la⟩ := HA.out.facts
  go_region_held3 (fun w' => w'.cell? ⟨w.heap.size, 0, none⟩ = some (.int .i64 s) ∧ w'.cell? ⟨w.heap.size, 1, none⟩ = some (.bool g) ∧ w'.cell? ⟨w.heap.size, 2, none⟩ = some (.slice A n c) ∧ w'.cell? ⟨w.heap.size, 3, none⟩ = some (.int .i64 s2) ∧ w'.cell? ⟨w.heap.size, 4, none⟩ = some (.bool g2) ∧ w'.cell? ⟨w.heap.size, 5, none⟩ = some (.slice A2 n2 c2)) (go_keep)
    ((go_at_call_of 70 (Value.agg #[.int .i64 s, .bool g, .slice A n c])
      refine Calls.mono (HM.out _ (by (repeat (first | exact Below.refl _ _ | exact Go.RowKit.Hid.out (by assumption) | refine Up.trans ?_ (Up.drew _) | refine Up.trans ?_ (Up.drewN _ _) | refine Up.trans ?_ (Up.alloc _ _) | refine Up.trans ?_ (Go.RowKit.Hid.out (by assumption)))))) ?_
      rintro e w2 ⟨u2, rfl, hv2, hu2⟩
      have HU2 := Lib.hid hu2
      have HV2 := Lib.hid hv2
      obtain ⟨s3, g3, A3, n3, c3, rfl, -⟩ := hv2
      clear hu2
      have HX := Lib.hid (HR.out.up (w' := w2) (by (repeat (first | exact Below.refl _ _ | exact Go.RowKit.Hid.out (by assumption) | refine Up.trans ?_ (Up.drew _) | refine Up.trans ?_ (Up.drewN _ _) | refine Up.trans ?_ (Up.alloc _ _) | refine Up.trans ?_ (Go.RowKit.Hid.out (by assumption))))))
      obtain ⟨r0, r1, r2, r3, r4, r5, lr⟩ := HX.out.facts
      have f0 := HX.out.frozen 0
      have f1 := HX.out.frozen 1
      have f2 := HX.out.frozen 2
      have f3 := HX.out.frozen 3
      have f4 := HX.out.frozen 4
      have f5 := HX.out.frozen 5
      obtain ⟨a0, a1, a2, a3, a4, a5, la⟩ := (HA.out.up (w' := w2) (by (repeat (first | exact Below.refl _ _ | exact Go.RowKit.Hid.out (by assumption) | refine Up.trans ?_ (Up.drew _) | refine Up.trans ?_ (Up.drewN _ _) | refine Up.trans ?_ (Up.alloc _ _) | refine Up.trans ?_ (Go.RowKit.Hid.out (by assumption)))))).facts))
  have HF := Lib.hid (HX.out.set s3 g3 (.slice A3 n3 c3) s2 g2 (.slice A2 n2 c2))
  have HP := Lib.hid (HV2.out.put6 HX.out (.int .i64 s3) (.bool g3) (.slice A3 n3 c3) (.int .i64 s2) (.bool g2) (.slice A2 n2 c2))
  have HQ2 := Lib.hid ((HQ.out.up (show Up w w2 by (repeat (first | exact Below.refl _ _ | exact Go.RowKit.Hid.out (by assumption) | refine Up.trans ?_ (Up.drew _) | refine Up.trans ?_ (Up.drewN _ _) | refine Up.trans ?_ (Up.alloc _ _) | refine Up.trans ?_ (Go.RowKit.Hid.out (by assumption)))))).put6 HX.out (.int .i64 s3) (.bool g3) (.slice A3 n3 c3) (.int .i64 s2) (.bool g2) (.slice A2 n2 c2))
  have HUF := Lib.hid ((show Up w w2 by (repeat (first | exact Below.refl _ _ | exact Go.RowKit.Hid.out (by assumption) | refine Up.trans ?_ (Up.drew _) | refine Up.trans ?_ (Up.drewN _ _) | refine Up.trans ?_ (Up.alloc _ _) | refine Up.trans ?_ (Go.RowKit.Hid.out (by assumption))))).put6 (show w.heap.size ≤ w.heap.size + 1 by omega) (.int .i64 s3) (.bool g3) (.slice A3 n3 c3) (.int .i64 s2) (.bool g2) (.slice A2 n2 c2))
  go_wp2
  obtain ⟨z0, z1, z2, z3, z4, z5, -⟩ := HF.out.facts
  refine bodyPost_ret (by simp [results, Tryz.results160, go_sem, z0, z1, z2, z3, z4, z5]; try rfl) rfl ?_
  exact ⟨_, rfl, ⟨s3, s2, g3, g2, A3, A2, n3, c3, n2, c2, rfl, HP.out, HQ2.out⟩, HUF.out⟩
set_option maxHeartbeats 4000000 in
set_option maxRecDepth 10000 in
theorem refRatOver_any (v1 v2 : Value) (a b c d : Int) (w : World) (h1 : RR w v1 a b) (h2 : RR w v2 c d) (ha : rl a ≤ 536870912) (hb : rl b ≤ 536870912) (hc : rl c ≤ 536870912) (hd : rl d ≤ 536870912)
    (hac : rl (a * d) ≤ 536870912) (hbd : rl (b * c) ≤ 536870912) (h0 : b * c ≠ 0) :
    Calls Tryz.prog 47 #[v1, v2] w fun e w' => ∃ v', e = .returned v' ∧ Made w' v' (a * d) (b * c) ∧ Up w w' := by
  obtain ⟨s, s2, g, g2, A, A2, n, k, n2, k2, rfl, hp1, hp2⟩ := h1
  obtain ⟨t, t2, f, f2, B, B2, m, j, m2, j2, rfl, hq1, hq2⟩ := h2
  have HT1 := Lib.hid (fun W (hu : Up w W) => refTimes_any _ _ a d W (hp1.up hu) (hq2.up hu) ha hd)
  have HT2 := Lib.hid (fun W (hu : Up w W) => refTimes_any _ _ b c W (hp2.up hu) (hq1.up hu) hb hc)
  have HMA : Hid (∀ W u1 u2, RI W u1 (a * d) → RI W u2 (b * c) → Calls Tryz.prog 72 #[u1, u2] W fun e w' => ∃ v, e = .returned v ∧ Made w' v (a * d) (b * c) ∧ Up W w') :=
    Lib.hid (fun W u1 u2 h1 h2 => refMake_any u1 u2 _ _ W h1 h2 h0 hac hbd)
  clear hp1 hp2 hq1 hq2 ha hb hc hd hac hbd h0
  generalize a * d = x at *
  generalize b * c = y at *
  go_enter Tryz.func47, Tryz.ntmps47
  go_upto_region 1 with fail
  obtain ⟨wB, hwB, hx, hy, hr, hu⟩ := startRR w s g (.slice A n k) s2 g2 (.slice A2 n2 k2) t f (.slice B m j) t2 f2 (.slice B2 m2 j2)
  rw [hwB]
  clear hwB
  have HX := Lib.hid hx
  have HY := Lib.hid hy
  have HR := Lib.hid hr
  have HU := Lib.hid hu
  obtain ⟨a0, a1, a2, a3, a4, a5, la⟩ := hx.facts
  obtain ⟨b0, b1, b2, b3, b4, b5, lb⟩ := hy.facts
  clear hx hy hr hu
  have hne1 : (w.heap.size = w.heap.size + 1 + 1) = False := eq_false (by omega)
  have hne2 : (w.heap.size + 1 + 1 = w.heap.size) = False := eq_false (by omega)
  have hne3 : (w.heap.size + 1 = w.heap.size + 1 + 1) = False := eq_false (by omega)
  have hne4 : (w.heap.size + 1 + 1 = w.heap.size + 1) = False := eq_false (by omega)
  go_region_held3 (fun w' => w'.cell? ⟨w.heap.size, 0, none⟩ = some (.int .i64 s) ∧ w'.cell? ⟨w.heap.size, 1, none⟩ = some (.bool g) ∧ w'.cell? ⟨w.heap.size, 2, none⟩ = some (.slice A n k) ∧ w'.cell? ⟨w.heap.size, 3, none⟩ = some (.int .i64 s2) ∧ w'.cell? ⟨w.heap.size, 4, none⟩ = some (.bool g2) ∧ w'.cell? ⟨w.heap.size, 5, none⟩ = some (.slice A2 n2 k2) ∧ w'.cell? ⟨w.heap.size + 1, 0, none⟩ = some (.int .i64 t) ∧ w'.cell? ⟨w.heap.size + 1, 1, none⟩ = some (.bool f) ∧ w'.cell? ⟨w.heap.size + 1, 2, none⟩ = some (.slice B m j) ∧ w'.cell? ⟨w.heap.size + 1, 3, none⟩ = some (.int .i64 t2) ∧ w'.cell? ⟨w.heap.size + 1, 4, none⟩ = some (.bool f2) ∧ w'.cell? ⟨w.heap.size + 1, 5, none⟩ = some (.slice B2 m2 j2)) (go_keep)
    ((first
      | (go_at_call 72
         refine Calls.mono (HMA.out _ _ _ HV2b.out HV3.out) ?_
         rintro e w4 ⟨u4, rfl, hv4, hu4⟩
         have HU4 := Lib.hid hu4
         have HV4 := Lib.hid hv4
         obtain ⟨s5, s6, g5, g6, A5, A6, n5, k5, n6, k6, rfl, -⟩ := hv4
         clear hu4
         have HZ := Lib.hid (HR.out.up (w' := w4) (by (repeat (first | exact Below.refl _ _ | exact Go.RowKit.Hid.out (by assumption) | refine Up.trans ?_ (Up.drew _) | refine Up.trans ?_ (Up.drewN _ _) | refine Up.trans ?_ (Up.alloc _ _) | refine Up.trans ?_ (Go.RowKit.Hid.out (by assumption))))))
         obtain ⟨r0, r1, r2, r3, r4, r5, lr⟩ := HZ.out.facts
         have f0 := HZ.out.frozen 0
         have f1 := HZ.out.frozen 1
         have f2 := HZ.out.frozen 2
         have f3 := HZ.out.frozen 3
         have f4 := HZ.out.frozen 4
         have f5 := HZ.out.frozen 5
         obtain ⟨a0, a1, a2, a3, a4, a5, la⟩ := (HX.out.up (w' := w4) (by (repeat (first | exact Below.refl _ _ | exact Go.RowKit.Hid.out (by assumption) | refine Up.trans ?_ (Up.drew _) | refine Up.trans ?_ (Up.drewN _ _) | refine Up.trans ?_ (Up.alloc _ _) | refine Up.trans ?_ (Go.RowKit.Hid.out (by assumption)))))).facts
         obtain ⟨b0, b1, b2, b3, b4, b5, lb⟩ := (HY.out.up (w' := w4) (by (repeat (first | exact Below.refl _ _ | exact Go.RowKit.Hid.out (by assumption) | refine Up.trans ?_ (Up.drew _) | refine Up.trans ?_ (Up.drewN _ _) | refine Up.trans ?_ (Up.alloc _ _) | refine Up.trans ?_ (Go.RowKit.Hid.out (by assumption)))))).facts)
      | (go_at_call_of 108 (Value.agg #[.int .i64 s, .bool g, .slice A n k])
         refine Calls.mono (HT1.out _ (by (repeat (first | exact Below.refl _ _ | exact Go.RowKit.Hid.out (by assumption) | refine Up.trans ?_ (Up.drew _) | refine Up.trans ?_ (Up.drewN _ _) | refine Up.trans ?_ (Up.alloc _ _) | refine Up.trans ?_ (Go.RowKit.Hid.out (by assumption)))))) ?_
         rintro e w2 ⟨u2, rfl, hv2, hu2⟩
         have HU2 := Lib.hid hu2
         have HV2 := Lib.hid hv2
         clear hu2 hv2
         obtain ⟨a0, a1, a2, a3, a4, a5, la⟩ := (HX.out.up (w' := w2) (by (repeat (first | exact Below.refl _ _ | exact Go.RowKit.Hid.out (by assumption) | refine Up.trans ?_ (Up.drew _) | refine Up.trans ?_ (Up.drewN _ _) | refine Up.trans ?_ (Up.alloc _ _) | refine Up.trans ?_ (Go.RowKit.Hid.out (by assumption)))))).facts
         obtain ⟨b0, b1, b2, b3, b4, b5, lb⟩ := (HY.out.up (w' := w2) (by (repeat (first | exact Below.refl _ _ | exact Go.RowKit.Hid.out (by assumption) | refine Up.trans ?_ (Up.drew _) | refine Up.trans ?_ (Up.drewN _ _) | refine Up.trans ?_ (Up.alloc _ _) | refine Up.trans ?_ (Go.RowKit.Hid.out (by assumption)))))).facts)
      | (go_at_call_of 108 (Value.agg #[.int .i64 s2, .bool g2, .slice A2 n2 k2])
         refine Calls.mono (HT2.out _ (by (repeat (first | exact Below.refl _ _ | exact Go.RowKit.Hid.out (by assumption) | refine Up.trans ?_ (Up.drew _) | refine Up.trans ?_ (Up.drewN _ _) | refine Up.trans ?_ (Up.alloc _ _) | refine Up.trans ?_ (Go.RowKit.Hid.out (by assumption)))))) ?_
         rintro e w3 ⟨u3, rfl, hv3, hu3⟩
         have HU3 := Lib.hid hu3
         have HV3 := Lib.hid hv3
         have HV2b := Lib.hid (HV2.out.up hu3)
         clear hu3 hv3
         obtain ⟨a0, a1, a2, a3, a4, a5, la⟩ := (HX.out.up (w' := w3) (by (repeat (first | exact Below.refl _ _ | exact Go.RowKit.Hid.out (by assumption) | refine Up.trans ?_ (Up.drew _) | refine Up.trans ?_ (Up.drewN _ _) | refine Up.trans ?_ (Up.alloc _ _) | refine Up.trans ?_ (Go.RowKit.Hid.out (by assumption)))))).facts
         obtain ⟨b0, b1, b2, b3, b4, b5, lb⟩ := (HY.out.up (w' := w3) (by (repeat (first | exact Below.refl _ _ | exact Go.RowKit.Hid.out (by assumption) | refine Up.trans ?_ (Up.drew _) | refine Up.trans ?_ (Up.drewN _ _) | refine Up.trans ?_ (Up.alloc _ _) | refine Up.trans ?_ (Go.RowKit.Hid.out (by assumption)))))).facts)))
  have HF := Lib.hid (HZ.out.set s5 g5 (.slice A5 n5 k5) s6 g6 (.slice A6 n6 k6))
  have HM : Hid (Made (put6 w4 (w.heap.size + 1 + 1) (.int .i64 s5) (.bool g5) (.slice A5 n5 k5) (.int .i64 s6) (.bool g6) (.slice A6 n6 k6)) (.agg #[.int .i64 s5, .bool g5, .slice A5 n5 k5, .int .i64 s6, .bool g6, .slice A6 n6 k6]) x y) := Lib.hid (by
    obtain ⟨s7, s8, g7, g8, A7, A8, n7, k7, n8, k8, he, h1, h2⟩ := HV4.out
    exact ⟨s7, s8, g7, g8, A7, A8, n7, k7, n8, k8, he, h1.put6 HZ.out _ _ _ _ _ _, h2.put6 HZ.out _ _ _ _ _ _⟩)
  have HUF := Lib.hid ((show Up w w4 by (repeat (first | exact Below.refl _ _ | exact Go.RowKit.Hid.out (by assumption) | refine Up.trans ?_ (Up.drew _) | refine Up.trans ?_ (Up.drewN _ _) | refine Up.trans ?_ (Up.alloc _ _) | refine Up.trans ?_ (Go.RowKit.Hid.out (by assumption))))).put6 (show w.heap.size ≤ w.heap.size + 1 + 1 by omega) (.int .i64 s5) (.bool g5) (.slice A5 n5 k5) (.int .i64 s6) (.bool g6) (.slice A6 n6 k6))
  go_wp2
  obtain ⟨z0, z1, z2, z3, z4, z5, -⟩ := HF.out.facts
  refine bodyPost_ret (by simp [results, Tryz.results47, go_sem, z0, z1, z2, z3, z4, z5]; try rfl) rfl ?_
  exact ⟨_, rfl, HM.out, HUF.out⟩
theorem rl_neg {x : Int} : rl (-x) = rl x := by unfold rl; rw [Int.natAbs_neg]
theorem num_ne {b : Rat} (h : b ≠ 0) : b.num ≠ 0 := fun e => h (Rat.num_eq_zero.1 e)
theorem QB.neg {a : Rat} {n : Nat} (ha : QB a n) : QB (-a) n := by
  unfold QB
  rw [Rat.neg_num, Rat.neg_den, rl_neg]
  exact ha
theorem refRatOver_q (v1 v2 : Value) (a b : Rat) (n m : Nat) (w : World) (h1 : RQ w v1 a) (h2 : RQ w v2 b) (ha : QB a n) (hb : QB b m) (hn : n + m + 1 ≤ 536870912) (hb0 : b ≠ 0) :
    Calls Tryz.prog 47 #[v1, v2] w fun e w' => ∃ v', e = .returned v' ∧ RQ w' v' (a / b) ∧ Up w w' := by
  have h0 : (a.den : Int) * b.num ≠ 0 := Int.mul_ne_zero (den_ne a) (num_ne hb0)
  refine Calls.mono (refRatOver_any v1 v2 _ _ _ _ w h1 h2 (Nat.le_trans ha.1 (by omega)) (Nat.le_trans ha.2 (by omega)) (Nat.le_trans hb.1 (by omega)) (Nat.le_trans hb.2 (by omega))
    (rl_mul ha.1 hb.2 (by omega)) (rl_mul ha.2 hb.1 (by omega)) h0) ?_
  rintro e w1 ⟨v, rfl, hv, hu⟩
  exact ⟨v, rfl, rat_div a b ▸ hv.rq h0, hu⟩
theorem refRatMinus_q (v1 : Value) (a : Rat) (w : World) (h1 : RQ w v1 a) :
    Calls Tryz.prog 160 #[v1] w fun e w' => ∃ v', e = .returned v' ∧ RQ w' v' (-a) ∧ Up w w' := by
  refine Calls.mono (refRatMinus_any v1 _ _ w h1) ?_
  rintro e w1 ⟨v, rfl, hv, hu⟩
  exact ⟨v, rfl, by unfold RQ; rw [Rat.neg_num, Rat.neg_den]; exact hv, hu⟩

set_option maxHeartbeats 4000000 in
set_option maxRecDepth 10000 in
theorem refRatLess_q (v1 v2 : Value) (a b : Rat) (n0 m0 : Nat) (w : World) (h1 : RQ w v1 a) (h2 : RQ w v2 b) (ha : QB a n0) (hb : QB b m0) (hn : n0 + m0 + 1 ≤ 536870912) :
    Calls Tryz.prog 110 #[v1, v2] w fun e w' => ∃ v', e = .returned v' ∧ RQ w' v' (a - b) ∧ Up w w' := by
  have HMI := Lib.hid (fun W (hu : Up w W) => refRatMinus_q v2 b W (h2.up hu))
  have HPL := Lib.hid (fun W v (hu : Up w W) (hv : RQ W v (-b)) => refRatPlus_q v1 v a (-b) n0 m0 W (h1.up hu) hv ha hb.neg hn)
  rw [← Rat.sub_eq_add_neg] at HPL
  obtain ⟨s, s2, g, g2, A, A2, n, k, n2, k2, rfl, -⟩ := h1
  obtain ⟨t, t2, f, f2, B, B2, m, j, m2, j2, rfl, -⟩ := h2
  clear ha hb hn
  generalize a - b = x at *
  go_enter Tryz.func110, Tryz.ntmps110
  go_upto_region 1 with fail
  obtain ⟨wB, hwB, hx, hy, hr, hu⟩ := startRR w s g (.slice A n k) s2 g2 (.slice A2 n2 k2) t f (.slice B m j) t2 f2 (.slice B2 m2 j2)
  rw [hwB]
  clear hwB
  have HX := Lib.hid hx
  have HY := Lib.hid hy
  have HR := Lib.hid hr
  have HU := Lib.hid hu
  obtain ⟨a0, a1, a2, a3, a4, a5, la⟩ := hx.facts
  obtain ⟨b0, b1, b2, b3, b4, b5, lb⟩ := hy.facts
  clear hx hy hr hu
  have hne1 : (w.heap.size = w.heap.size + 1 + 1) = False := eq_false (by omega)
  have hne2 : (w.heap.size + 1 + 1 = w.heap.size) = False := eq_false (by omega)
  have hne3 : (w.heap.size + 1 = w.heap.size + 1 + 1) = False := eq_false (by omega)
  have hne4 : (w.heap.size + 1 + 1 = w.heap.size + 1) = False := eq_false (by omega)
  go_region_held3 (fun w' => w'.cell? ⟨w.heap.size, 0, none⟩ = some (.int .i64 s) ∧ w'.cell? ⟨w.heap.size, 1, none⟩ = some (.bool g) ∧ w'.cell? ⟨w.heap.size, 2, none⟩ = some (.slice A n k) ∧ w'.cell? ⟨w.heap.size, 3, none⟩ = some (.int .i64 s2) ∧ w'.cell? ⟨w.heap.size, 4, none⟩ = some (.bool g2) ∧ w'.cell? ⟨w.heap.size, 5, none⟩ = some (.slice A2 n2 k2) ∧ w'.cell? ⟨w.heap.size + 1, 0, none⟩ = some (.int .i64 t) ∧ w'.cell? ⟨w.heap.size + 1, 1, none⟩ = some (.bool f) ∧ w'.cell? ⟨w.heap.size + 1, 2, none⟩ = some (.slice B m j) ∧ w'.cell? ⟨w.heap.size + 1, 3, none⟩ = some (.int .i64 t2) ∧ w'.cell? ⟨w.heap.size + 1, 4, none⟩ = some (.bool f2) ∧ w'.cell? ⟨w.heap.size + 1, 5, none⟩ = some (.slice B2 m2 j2)) (go_keep)
    ((first
      | (go_at_call 160
         refine Calls.mono (HMI.out _ (by (repeat (first | exact Below.refl _ _ | exact Go.RowKit.Hid.out (by assumption) | refine Up.trans ?_ (Up.drew _) | refine Up.trans ?_ (Up.drewN _ _) | refine Up.trans ?_ (Up.alloc _ _) | refine Up.trans ?_ (Go.RowKit.Hid.out (by assumption)))))) ?_
         rintro e w2 ⟨u2, rfl, hv2, hu2⟩
         have HU2 := Lib.hid hu2
         have HV2 := Lib.hid hv2
         clear hu2 hv2
         obtain ⟨a0, a1, a2, a3, a4, a5, la⟩ := (HX.out.up (w' := w2) (by (repeat (first | exact Below.refl _ _ | exact Go.RowKit.Hid.out (by assumption) | refine Up.trans ?_ (Up.drew _) | refine Up.trans ?_ (Up.drewN _ _) | refine Up.trans ?_ (Up.alloc _ _) | refine Up.trans ?_ (Go.RowKit.Hid.out (by assumption)))))).facts
         obtain ⟨b0, b1, b2, b3, b4, b5, lb⟩ := (HY.out.up (w' := w2) (by (repeat (first | exact Below.refl _ _ | exact Go.RowKit.Hid.out (by assumption) | refine Up.trans ?_ (Up.drew _) | refine Up.trans ?_ (Up.drewN _ _) | refine Up.trans ?_ (Up.alloc _ _) | refine Up.trans ?_ (Go.RowKit.Hid.out (by assumption)))))).facts)
      | (go_at_call 41
         refine Calls.mono (HPL.out _ _ (by (repeat (first | exact Below.refl _ _ | exact Go.RowKit.Hid.out (by assumption) | refine Up.trans ?_ (Up.drew _) | refine Up.trans ?_ (Up.drewN _ _) | refine Up.trans ?_ (Up.alloc _ _) | refine Up.trans ?_ (Go.RowKit.Hid.out (by assumption))))) HV2.out) ?_
         rintro e w4 ⟨u4, rfl, hv4, hu4⟩
         have HU4 := Lib.hid hu4
         have HV4 := Lib.hid hv4
         obtain ⟨s5, s6, g5, g6, A5, A6, n5, k5, n6, k6, rfl, -⟩ := hv4
         clear hu4
         have HZ := Lib.hid (HR.out.up (w' := w4) (by (repeat (first | exact Below.refl _ _ | exact Go.RowKit.Hid.out (by assumption) | refine Up.trans ?_ (Up.drew _) | refine Up.trans ?_ (Up.drewN _ _) | refine Up.trans ?_ (Up.alloc _ _) | refine Up.trans ?_ (Go.RowKit.Hid.out (by assumption))))))
         obtain ⟨r0, r1, r2, r3, r4, r5, lr⟩ := HZ.out.facts
         have f0 := HZ.out.frozen 0
         have f1 := HZ.out.frozen 1
         have f2 := HZ.out.frozen 2
         have f3 := HZ.out.frozen 3
         have f4 := HZ.out.frozen 4
         have f5 := HZ.out.frozen 5
         obtain ⟨a0, a1, a2, a3, a4, a5, la⟩ := (HX.out.up (w' := w4) (by (repeat (first | exact Below.refl _ _ | exact Go.RowKit.Hid.out (by assumption) | refine Up.trans ?_ (Up.drew _) | refine Up.trans ?_ (Up.drewN _ _) | refine Up.trans ?_ (Up.alloc _ _) | refine Up.trans ?_ (Go.RowKit.Hid.out (by assumption)))))).facts
         obtain ⟨b0, b1, b2, b3, b4, b5, lb⟩ := (HY.out.up (w' := w4) (by (repeat (first | exact Below.refl _ _ | exact Go.RowKit.Hid.out (by assumption) | refine Up.trans ?_ (Up.drew _) | refine Up.trans ?_ (Up.drewN _ _) | refine Up.trans ?_ (Up.alloc _ _) | refine Up.trans ?_ (Go.RowKit.Hid.out (by assumption)))))).facts)))
  have HF := Lib.hid (HZ.out.set s5 g5 (.slice A5 n5 k5) s6 g6 (.slice A6 n6 k6))
  have HM : Hid (RQ (put6 w4 (w.heap.size + 1 + 1) (.int .i64 s5) (.bool g5) (.slice A5 n5 k5) (.int .i64 s6) (.bool g6) (.slice A6 n6 k6)) (.agg #[.int .i64 s5, .bool g5, .slice A5 n5 k5, .int .i64 s6, .bool g6, .slice A6 n6 k6]) x) := Lib.hid (by
    obtain ⟨s7, s8, g7, g8, A7, A8, n7, k7, n8, k8, he, h1, h2⟩ := HV4.out
    exact ⟨s7, s8, g7, g8, A7, A8, n7, k7, n8, k8, he, h1.put6 HZ.out _ _ _ _ _ _, h2.put6 HZ.out _ _ _ _ _ _⟩)
  have HUF := Lib.hid ((show Up w w4 by (repeat (first | exact Below.refl _ _ | exact Go.RowKit.Hid.out (by assumption) | refine Up.trans ?_ (Up.drew _) | refine Up.trans ?_ (Up.drewN _ _) | refine Up.trans ?_ (Up.alloc _ _) | refine Up.trans ?_ (Go.RowKit.Hid.out (by assumption))))).put6 (show w.heap.size ≤ w.heap.size + 1 + 1 by omega) (.int .i64 s5) (.bool g5) (.slice A5 n5 k5) (.int .i64 s6) (.bool g6) (.slice A6 n6 k6))
  go_wp2
  obtain ⟨z0, z1, z2, z3, z4, z5, -⟩ := HF.out.facts
  refine bodyPost_ret (by simp [results, Tryz.results110, go_sem, z0, z1, z2, z3, z4, z5]; try rfl) rfl ?_
  exact ⟨_, rfl, HM.out, HUF.out⟩

set_option maxHeartbeats 1000000 in
set_option maxRecDepth 10000 in
theorem refRatCompare_q (v1 v2 : Value) (a b : Rat) (n0 m0 : Nat) (w : World) (h1 : RQ w v1 a) (h2 : RQ w v2 b) (ha : QB a n0) (hb : QB b m0) (hn : n0 + m0 + 1 ≤ 536870912) :
    Calls Tryz.prog 48 #[v1, v2] w fun e w' => e = .returned (.int .i64 (a - b).num.sign) ∧ Up w w' := by
  have HLE := Lib.hid (fun W (hu : Up w W) => refRatLess_q v1 v2 a b n0 m0 W (h1.up hu) (h2.up hu) ha hb hn)
  obtain ⟨s, s2, g, g2, A, A2, n, k, n2, k2, rfl, -⟩ := h1
  obtain ⟨t, t2, f, f2, B, B2, m, j, m2, j2, rfl, -⟩ := h2
  clear ha hb hn
  generalize a - b = x at *
  go_enter Tryz.func48, Tryz.ntmps48
  go_wp2_with fail
  refine Calls.mono (HLE.out _ (by (repeat (first | exact Below.refl _ _ | exact Go.RowKit.Hid.out (by assumption) | refine Up.trans ?_ (Up.drew _) | refine Up.trans ?_ (Up.drewN _ _) | refine Up.trans ?_ (Up.alloc _ _) | refine Up.trans ?_ (Go.RowKit.Hid.out (by assumption)))))) ?_
  rintro e w3 ⟨v3, rfl, hv3, hu3⟩
  have HSI := Lib.hid (refRatSign_any v3 _ _ w3 hv3)
  have HU3 := Lib.hid hu3
  clear hv3 hu3
  go_wp2_with fail
  refine Calls.mono HSI.out ?_
  rintro e w4 ⟨rfl, hu4⟩
  have HU4 := Lib.hid hu4
  clear hu4
  go_wp2
  go_ret
  exact ⟨rfl, by (repeat (first | exact Below.refl _ _ | exact Go.RowKit.Hid.out (by assumption) | refine Up.trans ?_ (Up.drew _) | refine Up.trans ?_ (Up.drewN _ _) | refine Up.trans ?_ (Up.alloc _ _) | refine Up.trans ?_ (Go.RowKit.Hid.out (by assumption))))⟩
end Go.Proofs.YtgcmogldiahdpaaGreatDoor
