/- Contracts of the reference implementation: fractions as rational numbers. -/
import Derived.Test.YtgcmogldiahdpaaGreatDoorGP
import Derived.Test.YtgcmogldiahdpaaGreatDoorGI
namespace Go.Proofs.YtgcmogldiahdpaaGreatDoor
open Go.RowKit Fm

/-- The value is this fraction, of the reference's type. -/
def RQ (w : World) (v : Value) (q : Rat) : Prop := RR w v q.num q.den
theorem RQ.up {w w' : World} {v : Value} {q : Rat} (h : RQ w v q) (hu : Up w w') : RQ w' v q := RR.up h hu
theorem Made.rq {w : World} {v : Value} {a b : Int} (h : Made w v a b) (hb : b ≠ 0) : RQ w v (ratOf a b) := by
  unfold Made at h
  unfold RQ ratOf
  rcases Int.lt_or_gt_of_ne hb with hb | hb
  · have := new_neg (top := a) hb
    rw [← this.1, ← this.2, Int.tdiv_neg, Int.tdiv_neg]
    rw [Int.sign_eq_neg_one_of_neg hb, Int.neg_one_mul, Int.neg_one_mul, Int.neg_tdiv, Int.neg_tdiv] at h
    exact h
  · have := new_pos (top := a) hb
    rw [← this.1, ← this.2]
    rw [Int.sign_eq_one_of_pos hb, Int.one_mul, Int.one_mul] at h
    exact h

theorem rl_mul {x y : Int} {k l m : Nat} (hx : rl x ≤ k) (hy : rl y ≤ l) (hm : k + l ≤ m) : rl (x * y) ≤ m := by
  unfold rl at *
  rw [Int.natAbs_mul]
  refine Nat.le_trans ?_ hm
  have h1 := val_lt (B := 1073741824) (by omega) (digs_ok (B := 1073741824) (by omega) x.natAbs)
  have h2 := val_lt (B := 1073741824) (by omega) (digs_ok (B := 1073741824) (by omega) y.natAbs)
  rw [val_digs (by omega)] at h1 h2
  have h3 := Nat.pow_le_pow_right (n := 1073741824) (by omega) hx
  have h4 := Nat.pow_le_pow_right (n := 1073741824) (by omega) hy
  apply digs_length_le (by omega)
  rw [Nat.pow_add]
  exact Nat.mul_lt_mul'' (Nat.lt_of_lt_of_le h1 h3) (Nat.lt_of_lt_of_le h2 h4)
theorem rl_lt {z : Int} {k : Nat} (h : rl z ≤ k) : z.natAbs < 1073741824 ^ k := by
  unfold rl at h
  have h1 := val_lt (B := 1073741824) (by omega) (digs_ok (B := 1073741824) (by omega) z.natAbs)
  rw [val_digs (by omega)] at h1
  exact Nat.lt_of_lt_of_le h1 (Nat.pow_le_pow_right (n := 1073741824) (by omega) h)
theorem rl_of_lt {z : Int} {k : Nat} (h : z.natAbs < 1073741824 ^ k) : rl z ≤ k := digs_length_le (by omega) h
theorem rl_add {x y : Int} {k m : Nat} (hx : rl x ≤ k) (hy : rl y ≤ k) (hm : k + 1 ≤ m) : rl (x + y) ≤ m := by
  have h1 := rl_lt hx
  have h2 := rl_lt hy
  refine Nat.le_trans (rl_of_lt (k := k + 1) ?_) hm
  have := Int.natAbs_add_le x y
  rw [Nat.pow_succ]
  generalize 1073741824 ^ k = K at *
  omega
theorem rl_neg {x : Int} : rl (-x) = rl x := by unfold rl; rw [Int.natAbs_neg]
theorem rl_tdiv {x y : Int} {k : Nat} (h : rl x ≤ k) : rl (x.tdiv y) ≤ k := by
  unfold rl at *
  rw [Int.natAbs_tdiv]
  exact Nat.le_trans (digs_len_le (Nat.div_le_self _ _)) h
/-- Both integers of a fraction have at most n digits. -/
def QB (q : Rat) (n : Nat) : Prop := rl q.num ≤ n ∧ rl (q.den : Int) ≤ n
theorem QB.mono {q : Rat} {n m : Nat} (h : QB q n) (hm : n ≤ m) : QB q m := ⟨Nat.le_trans h.1 hm, Nat.le_trans h.2 hm⟩
theorem QB.divInt {a b : Int} {n : Nat} (ha : rl a ≤ n) (hb : rl b ≤ n) (h0 : b ≠ 0) : QB (ratOf a b) n := by
  unfold QB ratOf
  rcases Int.lt_or_gt_of_ne h0 with h | h
  · have := new_neg (top := a) h
    rw [← this.1, ← this.2]
    exact ⟨rl_tdiv ha, rl_tdiv hb⟩
  · have := new_pos (top := a) h
    rw [← this.1, ← this.2]
    exact ⟨rl_tdiv ha, rl_tdiv hb⟩
theorem den_ne (q : Rat) : (q.den : Int) ≠ 0 := by have := q.den_nz; omega
theorem rat_add (a b : Rat) : ratOf (a.num * b.den + b.num * a.den) (a.den * b.den) = a + b := by
  unfold ratOf
  conv => rhs; rw [← Rat.num_divInt_den a, ← Rat.num_divInt_den b]
  rw [Rat.divInt_add_divInt _ _ (den_ne a) (den_ne b)]
theorem QB.add {a b : Rat} {n m k : Nat} (ha : QB a n) (hb : QB b m) (hk : n + m + 1 ≤ k) : QB (a + b) k := by
  rw [← rat_add]
  refine QB.divInt (rl_add (k := n + m) (rl_mul ha.1 hb.2 (Nat.le_refl _)) (rl_mul hb.1 ha.2 (by omega)) hk) (rl_mul ha.2 hb.2 (by omega)) ?_
  exact Int.mul_ne_zero (den_ne a) (den_ne b)
theorem QB.mul {a b : Rat} {n m k : Nat} (ha : QB a n) (hb : QB b m) (hk : n + m ≤ k) : QB (a * b) k := by
  rw [rat_mul]
  exact QB.divInt (rl_mul ha.1 hb.1 hk) (rl_mul ha.2 hb.2 hk) (Int.mul_ne_zero (den_ne a) (den_ne b))
theorem num_ne {b : Rat} (h : b ≠ 0) : b.num ≠ 0 := fun e => h (Rat.num_eq_zero.1 e)
theorem QB.div {a b : Rat} {n m k : Nat} (ha : QB a n) (hb : QB b m) (h0 : b ≠ 0) (hk : n + m ≤ k) : QB (a / b) k := by
  rw [rat_div]
  exact QB.divInt (rl_mul ha.1 hb.2 hk) (rl_mul ha.2 hb.1 hk) (Int.mul_ne_zero (den_ne a) (num_ne h0))
theorem QB.neg {a : Rat} {n : Nat} (ha : QB a n) : QB (-a) n := by
  unfold QB
  rw [Rat.neg_num, Rat.neg_den, rl_neg]
  exact ha
theorem QB.sub {a b : Rat} {n m k : Nat} (ha : QB a n) (hb : QB b m) (hk : n + m + 1 ≤ k) : QB (a - b) k := by
  rw [Rat.sub_eq_add_neg]
  exact ha.add hb.neg hk

theorem refRatPlus_q (v1 v2 : Value) (a b : Rat) (n m : Nat) (w : World) (h1 : RQ w v1 a) (h2 : RQ w v2 b) (ha : QB a n) (hb : QB b m) (hn : n + m + 1 ≤ 536870912) :
    Calls Tryz.prog 41 #[v1, v2] w fun e w' => ∃ v', e = .returned v' ∧ RQ w' v' (a + b) ∧ Up w w' := by
  have h0 : (a.den : Int) * b.den ≠ 0 := Int.mul_ne_zero (den_ne a) (den_ne b)
  refine Calls.mono (refRatPlus_any v1 v2 _ _ _ _ w h1 h2 (Nat.le_trans ha.1 (by omega)) (Nat.le_trans ha.2 (by omega)) (Nat.le_trans hb.1 (by omega)) (Nat.le_trans hb.2 (by omega))
    (rl_mul ha.1 hb.2 (by omega)) (rl_mul hb.1 ha.2 (by omega)) (rl_add (k := n + m) (rl_mul ha.1 hb.2 (Nat.le_refl _)) (rl_mul hb.1 ha.2 (by omega)) hn) (rl_mul ha.2 hb.2 (by omega)) h0) ?_
  rintro e w1 ⟨v, rfl, hv, hu⟩
  exact ⟨v, rfl, rat_add a b ▸ hv.rq h0, hu⟩
theorem refRatTimes_q (v1 v2 : Value) (a b : Rat) (n m : Nat) (w : World) (h1 : RQ w v1 a) (h2 : RQ w v2 b) (ha : QB a n) (hb : QB b m) (hn : n + m + 1 ≤ 536870912) :
    Calls Tryz.prog 43 #[v1, v2] w fun e w' => ∃ v', e = .returned v' ∧ RQ w' v' (a * b) ∧ Up w w' := by
  have h0 : (a.den : Int) * b.den ≠ 0 := Int.mul_ne_zero (den_ne a) (den_ne b)
  refine Calls.mono (refRatTimes_any v1 v2 _ _ _ _ w h1 h2 (Nat.le_trans ha.1 (by omega)) (Nat.le_trans ha.2 (by omega)) (Nat.le_trans hb.1 (by omega)) (Nat.le_trans hb.2 (by omega))
    (rl_mul ha.1 hb.1 (by omega)) (rl_mul ha.2 hb.2 (by omega)) h0) ?_
  rintro e w1 ⟨v, rfl, hv, hu⟩
  exact ⟨v, rfl, rat_mul a b ▸ hv.rq h0, hu⟩
theorem refRatOver_q (v1 v2 : Value) (a b : Rat) (n m : Nat) (w : World) (h1 : RQ w v1 a) (h2 : RQ w v2 b) (ha : QB a n) (hb : QB b m) (hn : n + m + 1 ≤ 536870912) (hb0 : b ≠ 0) :
    Calls Tryz.prog 47 #[v1, v2] w fun e w' => ∃ v', e = .returned v' ∧ RQ w' v' (a / b) ∧ Up w w' := by
  have h0 : (a.den : Int) * b.num ≠ 0 := Int.mul_ne_zero (den_ne a) (num_ne hb0)
  refine Calls.mono (refRatOver_any v1 v2 _ _ _ _ w h1 h2 (Nat.le_trans ha.1 (by omega)) (Nat.le_trans ha.2 (by omega)) (Nat.le_trans hb.1 (by omega)) (Nat.le_trans hb.2 (by omega))
    (rl_mul ha.1 hb.2 (by omega)) (rl_mul ha.2 hb.1 (by omega)) h0) ?_
  rintro e w1 ⟨v, rfl, hv, hu⟩
  exact ⟨v, rfl, rat_div a b ▸ hv.rq h0, hu⟩
theorem refRatMinus_q (v1 : Value) (a : Rat) (w : World) (h1 : RQ w v1 a) :
    Calls Tryz.prog 160 #[v1] w fun e w' => ∃ v', e = .returned v' ∧ RQ w' v' (-a) ∧ Up w w' := by
  refine Calls.mono (refRatMinus_any v1 _ _ w h1) ?_
  rintro e w1 ⟨v, rfl, hv, hu⟩
  exact ⟨v, rfl, by unfold RQ; rw [Rat.neg_num, Rat.neg_den]; exact hv, hu⟩

set_option maxHeartbeats 4000000 in
set_option maxRecDepth 10000 in
theorem refRatLess_q (v1 v2 : Value) (a b : Rat) (n0 m0 : Nat) (w : World) (h1 : RQ w v1 a) (h2 : RQ w v2 b) (ha : QB a n0) (hb : QB b m0) (hn : n0 + m0 + 1 ≤ 536870912) :
    Calls Tryz.prog 110 #[v1, v2] w fun e w' => ∃ v', e = .returned v' ∧ RQ w' v' (a - b) ∧ Up w w' := by
  have HMI := Lib.hid (fun W (hu : Up w W) => refRatMinus_q v2 b W (h2.up hu))
  have HPL := Lib.hid (fun W v (hu : Up w W) (hv : RQ W v (-b)) => refRatPlus_q v1 v a (-b) n0 m0 W (h1.up hu) hv ha hb.neg hn)
  rw [← Rat.sub_eq_add_neg] at HPL
  obtain ⟨s, s2, g, g2, A, A2, n, k, n2, k2, rfl, -⟩ := h1
  obtain ⟨t, t2, f, f2, B, B2, m, j, m2, j2, rfl, -⟩ := h2
  clear ha hb hn
  generalize a - b = x at *
  go_enter Tryz.func110, Tryz.ntmps110
  go_upto_region 1 with fail
  obtain ⟨wB, hwB, hx, hy, hr, hu⟩ := startRR w s g (.slice A n k) s2 g2 (.slice A2 n2 k2) t f (.slice B m j) t2 f2 (.slice B2 m2 j2)
  rw [hwB]
  clear hwB
  have HX := Lib.hid hx
  have HY := Lib.hid hy
  have HR := Lib.hid hr
  have HU := Lib.hid hu
  obtain ⟨a0, a1, a2, a3, a4, a5, la⟩ := hx.facts
  obtain ⟨b0, b1, b2, b3, b4, b5, lb⟩ := hy.facts
  clear hx hy hr hu
  have hne1 : (w.heap.size = w.heap.size + 1 + 1) = False := eq_false (by omega)
  have hne2 : (w.heap.size + 1 + 1 = w.heap.size) = False := eq_false (by omega)
  have hne3 : (w.heap.size + 1 = w.heap.size + 1 + 1) = False := eq_false (by omega)
  have hne4 : (w.heap.size + 1 + 1 = w.heap.size + 1) = False := eq_false (by omega)
  go_region_held3 (fun w' => w'.cell? ⟨w.heap.size, 0, none⟩ = some (.int .i64 s) ∧ w'.cell? ⟨w.heap.size, 1, none⟩ = some (.bool g) ∧ w'.cell? ⟨w.heap.size, 2, none⟩ = some (.slice A n k) ∧ w'.cell? ⟨w.heap.size, 3, none⟩ = some (.int .i64 s2) ∧ w'.cell? ⟨w.heap.size, 4, none⟩ = some (.bool g2) ∧ w'.cell? ⟨w.heap.size, 5, none⟩ = some (.slice A2 n2 k2) ∧ w'.cell? ⟨w.heap.size + 1, 0, none⟩ = some (.int .i64 t) ∧ w'.cell? ⟨w.heap.size + 1, 1, none⟩ = some (.bool f) ∧ w'.cell? ⟨w.heap.size + 1, 2, none⟩ = some (.slice B m j) ∧ w'.cell? ⟨w.heap.size + 1, 3, none⟩ = some (.int .i64 t2) ∧ w'.cell? ⟨w.heap.size + 1, 4, none⟩ = some (.bool f2) ∧ w'.cell? ⟨w.heap.size + 1, 5, none⟩ = some (.slice B2 m2 j2)) (go_keep)
    ((first
      | (go_at_call 160
         refine Calls.mono (HMI.out _ (by (repeat (first | exact Below.refl _ _ | exact Go.RowKit.Hid.out (by assumption) | refine Up.trans ?_ (Up.drew _) | refine Up.trans ?_ (Up.drewN _ _) | refine Up.trans ?_ (Up.alloc _ _) | refine Up.trans ?_ (Go.RowKit.Hid.out (by assumption)))))) ?_
         rintro e w2 ⟨u2, rfl, hv2, hu2⟩
         have HU2 := Lib.hid hu2
         have HV2 := Lib.hid hv2
         clear hu2 hv2
         obtain ⟨a0, a1, a2, a3, a4, a5, la⟩ := (HX.out.up (w' := w2) (by (repeat (first | exact Below.refl _ _ | exact Go.RowKit.Hid.out (by assumption) | refine Up.trans ?_ (Up.drew _) | refine Up.trans ?_ (Up.drewN _ _) | refine Up.trans ?_ (Up.alloc _ _) | refine Up.trans ?_ (Go.RowKit.Hid.out (by assumption)))))).facts
         obtain ⟨b0, b1, b2, b3, b4, b5, lb⟩ := (HY.out.up (w' := w2) (by (repeat (first | exact Below.refl _ _ | exact Go.RowKit.Hid.out (by assumption) | refine Up.trans ?_ (Up.drew _) | refine Up.trans ?_ (Up.drewN _ _) | refine Up.trans ?_ (Up.alloc _ _) | refine Up.trans ?_ (Go.RowKit.Hid.out (by assumption)))))).facts)
      | (go_at_call 41
         refine Calls.mono (HPL.out _ _ (by (repeat (first | exact Below.refl _ _ | exact Go.RowKit.Hid.out (by assumption) | refine Up.trans ?_ (Up.drew _) | refine Up.trans ?_ (Up.drewN _ _) | refine Up.trans ?_ (Up.alloc _ _) | refine Up.trans ?_ (Go.RowKit.Hid.out (by assumption))))) HV2.out) ?_
         rintro e w4 ⟨u4, rfl, hv4, hu4⟩
         have HU4 := Lib.hid hu4
         have HV4 := Lib.hid hv4
         obtain ⟨s5, s6, g5, g6, A5, A6, n5, k5, n6, k6, rfl, -⟩ := hv4
         clear hu4
         have HZ := Lib.hid (HR.out.up (w' := w4) (by (repeat (first | exact Below.refl _ _ | exact Go.RowKit.Hid.out (by assumption) | refine Up.trans ?_ (Up.drew _) | refine Up.trans ?_ (Up.drewN _ _) | refine Up.trans ?_ (Up.alloc _ _) | refine Up.trans ?_ (Go.RowKit.Hid.out (by assumption))))))
         obtain ⟨r0, r1, r2, r3, r4, r5, lr⟩ := HZ.out.facts
         have f0 := HZ.out.frozen 0
         have f1 := HZ.out.frozen 1
         have f2 := HZ.out.frozen 2
         have f3 := HZ.out.frozen 3
         have f4 := HZ.out.frozen 4
         have f5 := HZ.out.frozen 5
         obtain ⟨a0, a1, a2, a3, a4, a5, la⟩ := (HX.out.up (w' := w4) (by (repeat (first | exact Below.refl _ _ | exact Go.RowKit.Hid.out (by assumption) | refine Up.trans ?_ (Up.drew _) | refine Up.trans ?_ (Up.drewN _ _) | refine Up.trans ?_ (Up.alloc _ _) | refine Up.trans ?_ (Go.RowKit.Hid.out (by assumption)))))).facts
         obtain ⟨b0, b1, b2, b3, b4, b5, lb⟩ := (HY.out.up (w' := w4) (by (repeat (first | exact Below.refl _ _ | exact Go.RowKit.Hid.out (by assumption) | refine Up.trans ?_ (Up.drew _) | refine Up.trans ?_ (Up.drewN _ _) | refine Up.trans ?_ (Up.alloc _ _) | refine Up.trans ?_ (Go.RowKit.Hid.out (by assumption)))))).facts)))
  have HF := Lib.hid (HZ.out.set s5 g5 (.slice A5 n5 k5) s6 g6 (.slice A6 n6 k6))
  have HM : Hid (RQ (put6 w4 (w.heap.size + 1 + 1) (.int .i64 s5) (.bool g5) (.slice A5 n5 k5) (.int .i64 s6) (.bool g6) (.slice A6 n6 k6)) (.agg #[.int .i64 s5, .bool g5, .slice A5 n5 k5, .int .i64 s6, .bool g6, .slice A6 n6 k6]) x) := Lib.hid (by
    obtain ⟨s7, s8, g7, g8, A7, A8, n7, k7, n8, k8, he, h1, h2⟩ := HV4.out
    exact ⟨s7, s8, g7, g8, A7, A8, n7, k7, n8, k8, he, h1.put6 HZ.out _ _ _ _ _ _, h2.put6 HZ.out _ _ _ _ _ _⟩)
  have HUF := Lib.hid ((show Up w w4 by (repeat (first | exact Below.refl _ _ | exact Go.RowKit.Hid.out (by assumption) | refine Up.trans ?_ (Up.drew _) | refine Up.trans ?_ (Up.drewN _ _) | refine Up.trans ?_ (Up.alloc _ _) | refine Up.trans ?_ (Go.RowKit.Hid.out (by assumption))))).put6 (show w.heap.size ≤ w.heap.size + 1 + 1 by omega) (.int .i64 s5) (.bool g5) (.slice A5 n5 k5) (.int .i64 s6) (.bool g6) (.slice A6 n6 k6))
  go_wp2
  obtain ⟨z0, z1, z2, z3, z4, z5, -⟩ := HF.out.facts
  refine bodyPost_ret (by simp [results, Tryz.results110, go_sem, z0, z1, z2, z3, z4, z5]; try rfl) rfl ?_
  exact ⟨_, rfl, HM.out, HUF.out⟩

set_option maxHeartbeats 1000000 in
set_option maxRecDepth 10000 in
theorem refRatCompare_q (v1 v2 : Value) (a b : Rat) (n0 m0 : Nat) (w : World) (h1 : RQ w v1 a) (h2 : RQ w v2 b) (ha : QB a n0) (hb : QB b m0) (hn : n0 + m0 + 1 ≤ 536870912) :
    Calls Tryz.prog 48 #[v1, v2] w fun e w' => e = .returned (.int .i64 (a - b).num.sign) ∧ Up w w' := by
  have HLE := Lib.hid (fun W (hu : Up w W) => refRatLess_q v1 v2 a b n0 m0 W (h1.up hu) (h2.up hu) ha hb hn)
  obtain ⟨s, s2, g, g2, A, A2, n, k, n2, k2, rfl, -⟩ := h1
  obtain ⟨t, t2, f, f2, B, B2, m, j, m2, j2, rfl, -⟩ := h2
  clear ha hb hn
  generalize a - b = x at *
  go_enter Tryz.func48, Tryz.ntmps48
  go_wp2_with fail
  refine Calls.mono (HLE.out _ (by (repeat (first | exact Below.refl _ _ | exact Go.RowKit.Hid.out (by assumption) | refine Up.trans ?_ (Up.drew _) | refine Up.trans ?_ (Up.drewN _ _) | refine Up.trans ?_ (Up.alloc _ _) | refine Up.trans ?_ (Go.RowKit.Hid.out (by assumption)))))) ?_
  rintro e w3 ⟨v3, rfl, hv3, hu3⟩
  have HSI := Lib.hid (refRatSign_any v3 _ _ w3 hv3)
  have HU3 := Lib.hid hu3
  clear hv3 hu3
  go_wp2_with fail
  refine Calls.mono HSI.out ?_
  rintro e w4 ⟨rfl, hu4⟩
  have HU4 := Lib.hid hu4
  clear hu4
  go_wp2
  go_ret
  exact ⟨rfl, by (repeat (first | exact Below.refl _ _ | exact Go.RowKit.Hid.out (by assumption) | refine Up.trans ?_ (Up.drew _) | refine Up.trans ?_ (Up.drewN _ _) | refine Up.trans ?_ (Up.alloc _ _) | refine Up.trans ?_ (Go.RowKit.Hid.out (by assumption))))⟩
theorem divInt_sign {n d : Int} (h : 0 < d) : (Rat.divInt n d).num.sign = n.sign := by
  rw [Rat.num_divInt, Int.sign_eq_one_of_pos h, Int.one_mul]
  obtain ⟨k, hk⟩ : ((Int.gcd d n : Nat) : Int) ∣ n := Int.gcd_dvd_right ..
  have hg : (0 : Int) < (Int.gcd d n : Nat) := by
    have := Int.gcd_pos_of_ne_zero_left n (show d ≠ 0 by omega)
    omega
  generalize ((Int.gcd d n : Nat) : Int) = g at *
  rw [hk, Int.mul_ediv_cancel_left _ (by omega), Int.sign_mul, Int.sign_eq_one_of_pos hg, Int.one_mul]
theorem sub_sign (a b : Rat) : (a - b).num.sign = (a.num * b.den - b.num * a.den).sign := by
  have ha := a.den_nz
  have hb := b.den_nz
  have h : a - b = Rat.divInt (a.num * b.den - b.num * a.den) (a.den * b.den) := by
    conv => lhs; rw [← Rat.num_divInt_den a, ← Rat.num_divInt_den b]
    rw [Rat.divInt_sub_divInt _ _ (by omega) (by omega)]
  rw [h, divInt_sign (Int.mul_pos (by omega) (by omega))]
end Go.Proofs.YtgcmogldiahdpaaGreatDoor
namespace Go.Proofs.YtgcmogldiahdpaaGreatDoor
open Go.RowKit Fm

theorem refOk_eq (x y : Int) : refOk x y = okNum x y := by
  unfold refOk okNum
  apply decide_eq_decide.2
  constructor
  · rintro ⟨a, b, c, d, e⟩; exact ⟨a, b, d, c, e⟩
  · rintro ⟨a, b, c, d, e⟩; exact ⟨a, b, d, c, e⟩
theorem smallOk_fits (q : Rat) : (smallOk q.num && smallOk q.den) = fits q := rfl
theorem refNum_q (v : Value) (q : Rat) (w : World) (h : RQ w v q) :
    Calls Tryz.prog 71 #[v] w fun e w' => e = .returned (.tuple #[.agg #[.int .i64 (numX true q), .int .i64 (numY true q)], .int .i64 (numE true q)]) ∧ Up w w' := by
  have := refNum_any v _ _ w h
  rw [smallOk_fits] at this
  simpa only [numX, numY, numE, Bool.true_and, if_true] using this
theorem refTo_q (x y : Int) (w : World) (h : okNum x y = true) :
    Calls Tryz.prog 42 #[.agg #[.int .i64 x, .int .i64 y]] w fun e w' => ∃ v, e = .returned v ∧ RQ w' v (ratOf x y) ∧ Up w w' := by
  have hb := ok_bounds h
  obtain ⟨e1, e2⟩ := ratOf_ok h
  unfold RQ
  rw [e1, e2]
  exact refTo_any x y w (by omega) (by omega) (by omega) (by omega)
theorem ok_QB {x y : Int} (h : okNum x y = true) : QB (ratOf x y) 3 := by
  have hb := ok_bounds h
  obtain ⟨e1, e2⟩ := ratOf_ok h
  unfold QB
  rw [e1, e2]
  exact ⟨rl_int (by omega) (by omega), rl_int (by omega) (by omega)⟩

theorem refMake_q (v1 v2 : Value) (a b : Int) (w : World) (h1 : RI w v1 a) (h2 : RI w v2 b) (hb0 : b ≠ 0) (ha : rl a ≤ 536870912) (hb : rl b ≤ 536870912) :
    Calls Tryz.prog 72 #[v1, v2] w fun e w' => ∃ v, e = .returned v ∧ RQ w' v (ratOf a b) ∧ Up w w' := by
  refine Calls.mono (refMake_any v1 v2 a b w h1 h2 hb0 ha hb) ?_
  rintro e w' ⟨v, rfl, hv, hu⟩
  exact ⟨v, rfl, Made.rq hv hb0, hu⟩

end Go.Proofs.YtgcmogldiahdpaaGreatDoor
namespace Go.Proofs.YtgcmogldiahdpaaGreatDoor
open Go.RowKit Fm

/-- An address (nil for an empty list) at which the list of pairs lies. -/
def RdN (w : World) (A : Option Addr) (xs : List (Int × Int)) : Prop :=
  xs ≠ [] → ∃ b off, A = some ⟨b, off, none⟩ ∧ b < w.heap.size ∧ ∀ i (h : i < xs.length), w.cell? ⟨b, off + i * 2, none⟩ = some (.int .i64 xs[i].1) ∧ w.cell? ⟨b, off + i * 2 + 1, none⟩ = some (.int .i64 xs[i].2)
theorem RdN.up {w w' : World} {A : Option Addr} {xs : List (Int × Int)} (h : RdN w A xs) (hu : Up w w') : RdN w' A xs := fun hn => by
  obtain ⟨b, off, hA, hb, hc⟩ := h hn
  exact ⟨b, off, hA, Nat.lt_of_lt_of_le hb hu.size, fun i hi => ⟨(hu.cells.1 b _ hb).trans (hc i hi).1, (hu.cells.1 b _ hb).trans (hc i hi).2⟩⟩
theorem RdN.at_ {w : World} {A : Option Addr} {xs : List (Int × Int)} (h : RdN w A xs) {i : Nat} (hi : i < xs.length) : ∃ b off, A = some ⟨b, off, none⟩ ∧ b < w.heap.size ∧ w.cell? ⟨b, off + i * 2, none⟩ = some (.int .i64 xs[i].1) ∧ w.cell? ⟨b, off + i * 2 + 1, none⟩ = some (.int .i64 xs[i].2) := by
  obtain ⟨b, off, hA, hb, hc⟩ := h (by intro e; subst e; simp at hi)
  exact ⟨b, off, hA, hb, (hc i hi).1, (hc i hi).2⟩
theorem len_le {n c : Nat} (h : n ≤ c) (hm : c ≤ maxLen) : n ≤ 9223372036854775807 := by
  unfold maxLen at hm; omega
/-- Whether all pairs of a list are numbers. -/
def okAll (xs : List (Int × Int)) : Bool := xs.all fun p => okNum p.1 p.2

set_option maxHeartbeats 1000000 in
set_option maxRecDepth 10000 in
theorem refAll_any (A : Option Addr) (c : Nat) (xs : List (Int × Int)) (w : World) (hc : xs.length ≤ c) (hcm : c ≤ maxLen) (hr : RdN w A xs) (hx : ∀ p, p ∈ xs → Rng p.1 p.2) :
    Calls Tryz.prog 82 #[.slice A xs.length c] w fun e w' => e = .returned (.bool (okAll xs)) ∧ Up w w' := by
  have hlen := len_le hc hcm
  clear hcm hc
  go_enter Tryz.func82, Tryz.ntmps82
  go_wp2
  go_loopw [7] (fun i wr => ∃ k : Nat, k ≤ xs.length ∧ i = .int .i64 k ∧ Hid (okAll (xs.take k) = true) ∧ Up w wr) (fun i _ => xs.length - (intOf i).toNat)
  case atStart => exact ⟨0, by omega, rfl, rfl, Up.refl _⟩
  case round =>
    obtain ⟨k, hk, rfl, HK, hup⟩ := hrel
    have HU := Lib.hid hup
    have hrA := hr.up hup
    clear hup
    by_cases hkl : k < xs.length
    · obtain ⟨b, off, rfl, hbb, hcell⟩ := hrA.at_ hkl
      have hR := hx xs[k] (List.getElem_mem hkl)
      obtain ⟨x, hxx⟩ : ∃ x, x = xs[k].1 := ⟨_, rfl⟩
      obtain ⟨y, hyy⟩ : ∃ y, y = xs[k].2 := ⟨_, rfl⟩
      rw [← hxx, ← hyy] at hcell hR
      obtain ⟨c0, c1⟩ := hcell
      have HV := Lib.hid (fun W => refValid_any x y W hR.1 hR.2.1 hR.2.2.1 hR.2.2.2)
      rw [refOk_eq] at HV
      have HNEXT : Hid (okAll (xs.take (k + 1)) = okNum x y) := by
        unfold Hid
        rw [hxx, hyy]
        have := HK.out
        unfold okAll at this ⊢
        rw [List.take_succ_eq_append_getElem hkl, List.all_append, this]
        simp
      have HFALSE : Hid (okNum x y = false → okAll xs = false) := Lib.hid (fun h => by
        rw [hxx, hyy] at h
        unfold okAll
        rw [List.all_eq_false]
        exact ⟨xs[k], List.getElem_mem hkl, by simp [h]⟩)
      clear hxx hyy hR hrA HK
      go_wp2_with fail
      have HUA := Lib.hid (Up.alloc wr (.cells #[.int .i64 x, .int .i64 y] 23))
      refine Calls.mono (HV.out _) ?_
      rintro e w1 ⟨rfl, hu1⟩
      have HU1 := Lib.hid hu1
      clear hu1 c0 c1 hbb hr
      rcases hv : okNum x y with _ | _
      · have HA := Lib.hid (HFALSE.out hv)
        clear HNEXT HFALSE hv
        go_wp2
        go_ret
        exact ⟨by rw [HA.out]; rfl, by (repeat (first | exact Below.refl _ _ | exact Go.RowKit.Hid.out (by assumption) | refine Up.trans ?_ (Up.drew _) | refine Up.trans ?_ (Up.drewN _ _) | refine Up.trans ?_ (Up.alloc _ _) | refine Up.trans ?_ (Go.RowKit.Hid.out (by assumption))))⟩
      · rw [hv] at HNEXT
        clear HFALSE hv
        go_wp2_with fail
        go_roundw
        case rel => exact ⟨k + 1, hkl, by simp, HNEXT, by (repeat (first | exact Below.refl _ _ | exact Go.RowKit.Hid.out (by assumption) | refine Up.trans ?_ (Up.drew _) | refine Up.trans ?_ (Up.drewN _ _) | refine Up.trans ?_ (Up.alloc _ _) | refine Up.trans ?_ (Go.RowKit.Hid.out (by assumption))))⟩
        case measure => simp [intOf]; omega
    · have HE : Hid (okAll xs = true) := by
        have := HK.out
        rw [List.take_of_length_le (by omega)] at this
        exact this
      clear HK
      go_wp2
      go_ret
      exact ⟨by rw [HE.out]; rfl, HU.out⟩
end Go.Proofs.YtgcmogldiahdpaaGreatDoor
namespace Go.Proofs.YtgcmogldiahdpaaGreatDoor
open Go.RowKit Fm

theorem two_rdN (w : World) (x1 y1 x2 y2 : Int) : RdN (w.alloc (.cells #[.int .i64 x1, .int .i64 y1, .int .i64 x2, .int .i64 y2] 23)) (some ⟨w.heap.size, 0, none⟩) [(x1, y1), (x2, y2)] := fun _ => by
  have h := heap_alloc_new w (.cells #[.int .i64 x1, .int .i64 y1, .int .i64 x2, .int .i64 y2] 23)
  refine ⟨_, 0, rfl, ?_, fun i hi => ?_⟩
  · rcases Nat.lt_or_ge w.heap.size (w.alloc (.cells #[.int .i64 x1, .int .i64 y1, .int .i64 x2, .int .i64 y2] 23)).heap.size with h1 | h1
    · exact h1
    · rw [Array.getElem?_eq_none h1] at h; cases h
  · rcases i with _ | _ | i
    · exact ⟨by rw [cell_of_row _ _ _ _ _ _ h]; rfl, by rw [cell_of_row _ _ _ _ _ _ h]; rfl⟩
    · exact ⟨by rw [cell_of_row _ _ _ _ _ _ h]; rfl, by rw [cell_of_row _ _ _ _ _ _ h]; rfl⟩
    · simp at hi
      omega
theorem two_all (w : World) (x1 y1 x2 y2 : Int) (h1 : Rng x1 y1) (h2 : Rng x2 y2) (g : Nat) (hg : g = w.heap.size) :
    Calls Tryz.prog 82 #[.slice (some ⟨g, 0, none⟩) 2 2] (w.alloc (.cells #[.int .i64 x1, .int .i64 y1, .int .i64 x2, .int .i64 y2] 23)) fun e w' =>
      e = .returned (.bool (okNum x1 y1 && okNum x2 y2)) ∧ Up (w.alloc (.cells #[.int .i64 x1, .int .i64 y1, .int .i64 x2, .int .i64 y2] 23)) w' := by
  subst hg
  have h := refAll_any (some ⟨w.heap.size, 0, none⟩) 2 [(x1, y1), (x2, y2)] _ (Nat.le_refl 2) (by decide) (two_rdN w x1 y1 x2 y2) (by
    intro p hp
    rcases List.mem_cons.1 hp with rfl | hp
    · exact h1
    · rcases List.mem_cons.1 hp with rfl | hp
      · exact h2
      · cases hp)
  have e : okAll [(x1, y1), (x2, y2)] = (okNum x1 y1 && okNum x2 y2) := by simp [okAll]
  rw [e] at h
  exact h
/-- The boxes of two numbers, a result variable, and the slice of both. -/
theorem startAll (w : World) (x1 y1 x2 y2 : Int) (h1 : Rng x1 y1) (h2 : Rng x2 y2) :
    ∃ wB, (((w.alloc (.cells #[.int .i64 x1, .int .i64 y1] 23)).alloc (.cells #[.int .i64 x2, .int .i64 y2] 23)).alloc (.cells #[.int .i64 0, .int .i64 0] 23)).alloc (.cells #[.int .i64 x1, .int .i64 y1, .int .i64 x2, .int .i64 y2] 23) = wB ∧
      CellN wB w.heap.size x1 y1 ∧ CellN wB (w.heap.size + 1) x2 y2 ∧ CellN wB (w.heap.size + 1 + 1) 0 0 ∧ Up w wB ∧
      Calls Tryz.prog 82 #[.slice (some ⟨w.heap.size + 1 + 1 + 1, 0, none⟩) 2 2] wB fun e w' => e = .returned (.bool (okNum x1 y1 && okNum x2 y2)) ∧ Up wB w' := by
  obtain ⟨wA, hA, a1, a2, a3, a4⟩ := startNN w x1 y1 x2 y2
  have hs : w.heap.size + 1 + 1 + 1 = wA.heap.size := by rw [← hA]; simp
  rw [hA]
  exact ⟨_, rfl, a1.up (Up.alloc _ _), a2.up (Up.alloc _ _), a3.up (Up.alloc _ _), a4.trans (Up.alloc _ _), two_all wA x1 y1 x2 y2 h1 h2 _ hs⟩
theorem num_self {X Y : Int} (h : okNum X Y = true) : numX true (ratOf X Y) = X ∧ numY true (ratOf X Y) = Y ∧ numE true (ratOf X Y) = 0 := by
  obtain ⟨e1, e2⟩ := ratOf_ok h
  have hb := ok_bounds h
  have hf : fits (ratOf X Y) = true := by
    unfold fits within
    rw [e1, e2]
    simp only [Bool.and_eq_true, decide_eq_true_eq]
    omega
  simp only [numX, numY, numE, hf, Bool.true_and, if_true, e1, e2, and_self]
theorem ratOf_neg (x y : Int) : -(ratOf x y) = ratOf (-x) y := by unfold ratOf; exact Rat.neg_divInt x y
end Go.Proofs.YtgcmogldiahdpaaGreatDoor
