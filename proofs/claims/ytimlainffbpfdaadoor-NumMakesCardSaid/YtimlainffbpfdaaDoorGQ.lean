/- Contracts of the reference implementation: fractions as rational numbers, and rounding. -/
import Derived.Test.YtimlainffbpfdaaDoorGP
import Derived.Test.YtimlainffbpfdaaDoorGI
namespace Go.Proofs.YtimlainffbpfdaaDoor
open Go.RowKit Fm

/-- The value is this fraction, of the reference's type. -/
def RQ (w : World) (v : Value) (q : Rat) : Prop := RR w v q.num q.den
theorem RQ.up {w w' : World} {v : Value} {q : Rat} (h : RQ w v q) (hu : Up w w') : RQ w' v q := RR.up h hu
theorem Made.rq {w : World} {v : Value} {a b : Int} (h : Made w v a b) (hb : b ≠ 0) : RQ w v (ratOf a b) := by
  unfold Made at h
  unfold RQ ratOf
  rcases Int.lt_or_gt_of_ne hb with hb | hb
  · have := new_neg (top := a) hb
    rw [← this.1, ← this.2, Int.tdiv_neg, Int.tdiv_neg]
    rw [Int.sign_eq_neg_one_of_neg hb, Int.neg_one_mul, Int.neg_one_mul, Int.neg_tdiv, Int.neg_tdiv] at h
    exact h
  · have := new_pos (top := a) hb
    rw [← this.1, ← this.2]
    rw [Int.sign_eq_one_of_pos hb, Int.one_mul, Int.one_mul] at h
    exact h

theorem rl_mul {x y : Int} {k l m : Nat} (hx : rl x ≤ k) (hy : rl y ≤ l) (hm : k + l ≤ m) : rl (x * y) ≤ m := by
  unfold rl at *
  rw [Int.natAbs_mul]
  refine Nat.le_trans ?_ hm
  have h1 := val_lt (B := 1073741824) (by omega) (digs_ok (B := 1073741824) (by omega) x.natAbs)
  have h2 := val_lt (B := 1073741824) (by omega) (digs_ok (B := 1073741824) (by omega) y.natAbs)
  rw [val_digs (by omega)] at h1 h2
  have h3 := Nat.pow_le_pow_right (n := 1073741824) (by omega) hx
  have h4 := Nat.pow_le_pow_right (n := 1073741824) (by omega) hy
  apply digs_length_le (by omega)
  rw [Nat.pow_add]
  exact Nat.mul_lt_mul'' (Nat.lt_of_lt_of_le h1 h3) (Nat.lt_of_lt_of_le h2 h4)
theorem rl_lt {z : Int} {k : Nat} (h : rl z ≤ k) : z.natAbs < 1073741824 ^ k := by
  unfold rl at h
  have h1 := val_lt (B := 1073741824) (by omega) (digs_ok (B := 1073741824) (by omega) z.natAbs)
  rw [val_digs (by omega)] at h1
  exact Nat.lt_of_lt_of_le h1 (Nat.pow_le_pow_right (n := 1073741824) (by omega) h)
theorem rl_of_lt {z : Int} {k : Nat} (h : z.natAbs < 1073741824 ^ k) : rl z ≤ k := digs_length_le (by omega) h
theorem rl_add {x y : Int} {k m : Nat} (hx : rl x ≤ k) (hy : rl y ≤ k) (hm : k + 1 ≤ m) : rl (x + y) ≤ m := by
  have h1 := rl_lt hx
  have h2 := rl_lt hy
  refine Nat.le_trans (rl_of_lt (k := k + 1) ?_) hm
  have := Int.natAbs_add_le x y
  rw [Nat.pow_succ]
  generalize 1073741824 ^ k = K at *
  omega
theorem rl_neg {x : Int} : rl (-x) = rl x := by unfold rl; rw [Int.natAbs_neg]
theorem rl_tdiv {x y : Int} {k : Nat} (h : rl x ≤ k) : rl (x.tdiv y) ≤ k := by
  unfold rl at *
  rw [Int.natAbs_tdiv]
  exact Nat.le_trans (digs_len_le (Nat.div_le_self _ _)) h
/-- Both integers of a fraction have at most n digits. -/
def QB (q : Rat) (n : Nat) : Prop := rl q.num ≤ n ∧ rl (q.den : Int) ≤ n
theorem QB.mono {q : Rat} {n m : Nat} (h : QB q n) (hm : n ≤ m) : QB q m := ⟨Nat.le_trans h.1 hm, Nat.le_trans h.2 hm⟩
theorem QB.divInt {a b : Int} {n : Nat} (ha : rl a ≤ n) (hb : rl b ≤ n) (h0 : b ≠ 0) : QB (ratOf a b) n := by
  unfold QB ratOf
  rcases Int.lt_or_gt_of_ne h0 with h | h
  · have := new_neg (top := a) h
    rw [← this.1, ← this.2]
    exact ⟨rl_tdiv ha, rl_tdiv hb⟩
  · have := new_pos (top := a) h
    rw [← this.1, ← this.2]
    exact ⟨rl_tdiv ha, rl_tdiv hb⟩
theorem den_ne (q : Rat) : (q.den : Int) ≠ 0 := by have := q.den_nz; omega
theorem rat_add (a b : Rat) : ratOf (a.num * b.den + b.num * a.den) (a.den * b.den) = a + b := by
  unfold ratOf
  conv => rhs; rw [← Rat.num_divInt_den a, ← Rat.num_divInt_den b]
  rw [Rat.divInt_add_divInt _ _ (den_ne a) (den_ne b)]
theorem QB.add {a b : Rat} {n m k : Nat} (ha : QB a n) (hb : QB b m) (hk : n + m + 1 ≤ k) : QB (a + b) k := by
  rw [← rat_add]
  refine QB.divInt (rl_add (k := n + m) (rl_mul ha.1 hb.2 (Nat.le_refl _)) (rl_mul hb.1 ha.2 (by omega)) hk) (rl_mul ha.2 hb.2 (by omega)) ?_
  exact Int.mul_ne_zero (den_ne a) (den_ne b)
theorem QB.mul {a b : Rat} {n m k : Nat} (ha : QB a n) (hb : QB b m) (hk : n + m ≤ k) : QB (a * b) k := by
  rw [rat_mul]
  exact QB.divInt (rl_mul ha.1 hb.1 hk) (rl_mul ha.2 hb.2 hk) (Int.mul_ne_zero (den_ne a) (den_ne b))
theorem num_ne {b : Rat} (h : b ≠ 0) : b.num ≠ 0 := fun e => h (Rat.num_eq_zero.1 e)
theorem QB.div {a b : Rat} {n m k : Nat} (ha : QB a n) (hb : QB b m) (h0 : b ≠ 0) (hk : n + m ≤ k) : QB (a / b) k := by
  rw [rat_div]
  exact QB.divInt (rl_mul ha.1 hb.2 hk) (rl_mul ha.2 hb.1 hk) (Int.mul_ne_zero (den_ne a) (num_ne h0))
theorem QB.neg {a : Rat} {n : Nat} (ha : QB a n) : QB (-a) n := by
  unfold QB
  rw [Rat.neg_num, Rat.neg_den, rl_neg]
  exact ha
theorem QB.sub {a b : Rat} {n m k : Nat} (ha : QB a n) (hb : QB b m) (hk : n + m + 1 ≤ k) : QB (a - b) k := by
  rw [Rat.sub_eq_add_neg]
  exact ha.add hb.neg hk

theorem refRatPlus_q (v1 v2 : Value) (a b : Rat) (n m : Nat) (w : World) (h1 : RQ w v1 a) (h2 : RQ w v2 b) (ha : QB a n) (hb : QB b m) (hn : n + m + 1 ≤ 536870912) :
    Calls Tryd.prog 51 #[v1, v2] w fun e w' => ∃ v', e = .returned v' ∧ RQ w' v' (a + b) ∧ Up w w' := by
  have h0 : (a.den : Int) * b.den ≠ 0 := Int.mul_ne_zero (den_ne a) (den_ne b)
  refine Calls.mono (refRatPlus_any v1 v2 _ _ _ _ w h1 h2 (Nat.le_trans ha.1 (by omega)) (Nat.le_trans ha.2 (by omega)) (Nat.le_trans hb.1 (by omega)) (Nat.le_trans hb.2 (by omega))
    (rl_mul ha.1 hb.2 (by omega)) (rl_mul hb.1 ha.2 (by omega)) (rl_add (k := n + m) (rl_mul ha.1 hb.2 (Nat.le_refl _)) (rl_mul hb.1 ha.2 (by omega)) hn) (rl_mul ha.2 hb.2 (by omega)) h0) ?_
  rintro e w1 ⟨v, rfl, hv, hu⟩
  exact ⟨v, rfl, rat_add a b ▸ hv.rq h0, hu⟩
theorem refRatTimes_q (v1 v2 : Value) (a b : Rat) (n m : Nat) (w : World) (h1 : RQ w v1 a) (h2 : RQ w v2 b) (ha : QB a n) (hb : QB b m) (hn : n + m + 1 ≤ 536870912) :
    Calls Tryd.prog 52 #[v1, v2] w fun e w' => ∃ v', e = .returned v' ∧ RQ w' v' (a * b) ∧ Up w w' := by
  have h0 : (a.den : Int) * b.den ≠ 0 := Int.mul_ne_zero (den_ne a) (den_ne b)
  refine Calls.mono (refRatTimes_any v1 v2 _ _ _ _ w h1 h2 (Nat.le_trans ha.1 (by omega)) (Nat.le_trans ha.2 (by omega)) (Nat.le_trans hb.1 (by omega)) (Nat.le_trans hb.2 (by omega))
    (rl_mul ha.1 hb.1 (by omega)) (rl_mul ha.2 hb.2 (by omega)) h0) ?_
  rintro e w1 ⟨v, rfl, hv, hu⟩
  exact ⟨v, rfl, rat_mul a b ▸ hv.rq h0, hu⟩
theorem refRatOver_q (v1 v2 : Value) (a b : Rat) (n m : Nat) (w : World) (h1 : RQ w v1 a) (h2 : RQ w v2 b) (ha : QB a n) (hb : QB b m) (hn : n + m + 1 ≤ 536870912) (hb0 : b ≠ 0) :
    Calls Tryd.prog 75 #[v1, v2] w fun e w' => ∃ v', e = .returned v' ∧ RQ w' v' (a / b) ∧ Up w w' := by
  have h0 : (a.den : Int) * b.num ≠ 0 := Int.mul_ne_zero (den_ne a) (num_ne hb0)
  refine Calls.mono (refRatOver_any v1 v2 _ _ _ _ w h1 h2 (Nat.le_trans ha.1 (by omega)) (Nat.le_trans ha.2 (by omega)) (Nat.le_trans hb.1 (by omega)) (Nat.le_trans hb.2 (by omega))
    (rl_mul ha.1 hb.2 (by omega)) (rl_mul ha.2 hb.1 (by omega)) h0) ?_
  rintro e w1 ⟨v, rfl, hv, hu⟩
  exact ⟨v, rfl, rat_div a b ▸ hv.rq h0, hu⟩
theorem refRatMinus_q (v1 : Value) (a : Rat) (w : World) (h1 : RQ w v1 a) :
    Calls Tryd.prog 38 #[v1] w fun e w' => ∃ v', e = .returned v' ∧ RQ w' v' (-a) ∧ Up w w' := by
  refine Calls.mono (refRatMinus_any v1 _ _ w h1) ?_
  rintro e w1 ⟨v, rfl, hv, hu⟩
  exact ⟨v, rfl, by unfold RQ; rw [Rat.neg_num, Rat.neg_den]; exact hv, hu⟩

set_option maxHeartbeats 4000000 in
set_option maxRecDepth 10000 in
theorem refRatLess_q (v1 v2 : Value) (a b : Rat) (n0 m0 : Nat) (w : World) (h1 : RQ w v1 a) (h2 : RQ w v2 b) (ha : QB a n0) (hb : QB b m0) (hn : n0 + m0 + 1 ≤ 536870912) :
    Calls Tryd.prog 48 #[v1, v2] w fun e w' => ∃ v', e = .returned v' ∧ RQ w' v' (a - b) ∧ Up w w' := by
  have HMI := Lib.hid (fun W (hu : Up w W) => refRatMinus_q v2 b W (h2.up hu))
  have HPL := Lib.hid (fun W v (hu : Up w W) (hv : RQ W v (-b)) => refRatPlus_q v1 v a (-b) n0 m0 W (h1.up hu) hv ha hb.neg hn)
  rw [← Rat.sub_eq_add_neg] at HPL
  obtain ⟨s, s2, g, g2, A, A2, n, k, n2, k2, rfl, -⟩ := h1
  obtain ⟨t, t2, f, f2, B, B2, m, j, m2, j2, rfl, -⟩ := h2
  clear ha hb hn
  generalize a - b = x at *
  go_enter Tryd.func48, Tryd.ntmps48
  go_upto_region 1 with fail
  obtain ⟨wB, hwB, hx, hy, hr, hu⟩ := startRR w s g (.slice A n k) s2 g2 (.slice A2 n2 k2) t f (.slice B m j) t2 f2 (.slice B2 m2 j2)
  rw [hwB]
  clear hwB
  have HX := Lib.hid hx
  have HY := Lib.hid hy
  have HR := Lib.hid hr
  have HU := Lib.hid hu
  obtain ⟨a0, a1, a2, a3, a4, a5, la⟩ := hx.facts
  obtain ⟨b0, b1, b2, b3, b4, b5, lb⟩ := hy.facts
  clear hx hy hr hu
  have hne1 : (w.heap.size = w.heap.size + 1 + 1) = False := eq_false (by omega)
  have hne2 : (w.heap.size + 1 + 1 = w.heap.size) = False := eq_false (by omega)
  have hne3 : (w.heap.size + 1 = w.heap.size + 1 + 1) = False := eq_false (by omega)
  have hne4 : (w.heap.size + 1 + 1 = w.heap.size + 1) = False := eq_false (by omega)
  go_region_held3 (fun w' => w'.cell? ⟨w.heap.size, 0, none⟩ = some (.int .i64 s) ∧ w'.cell? ⟨w.heap.size, 1, none⟩ = some (.bool g) ∧ w'.cell? ⟨w.heap.size, 2, none⟩ = some (.slice A n k) ∧ w'.cell? ⟨w.heap.size, 3, none⟩ = some (.int .i64 s2) ∧ w'.cell? ⟨w.heap.size, 4, none⟩ = some (.bool g2) ∧ w'.cell? ⟨w.heap.size, 5, none⟩ = some (.slice A2 n2 k2) ∧ w'.cell? ⟨w.heap.size + 1, 0, none⟩ = some (.int .i64 t) ∧ w'.cell? ⟨w.heap.size + 1, 1, none⟩ = some (.bool f) ∧ w'.cell? ⟨w.heap.size + 1, 2, none⟩ = some (.slice B m j) ∧ w'.cell? ⟨w.heap.size + 1, 3, none⟩ = some (.int .i64 t2) ∧ w'.cell? ⟨w.heap.size + 1, 4, none⟩ = some (.bool f2) ∧ w'.cell? ⟨w.heap.size + 1, 5, none⟩ = some (.slice B2 m2 j2)) (go_keep)
    ((first
      | (go_at_call 38
         refine Calls.mono (HMI.out _ (by (repeat (first | exact Below.refl _ _ | exact Go.RowKit.Hid.out (by assumption) | refine Up.trans ?_ (Up.drew _) | refine Up.trans ?_ (Up.drewN _ _) | refine Up.trans ?_ (Up.alloc _ _) | refine Up.trans ?_ (Go.RowKit.Hid.out (by assumption)))))) ?_
         rintro e w2 ⟨u2, rfl, hv2, hu2⟩
         have HU2 := Lib.hid hu2
         have HV2 := Lib.hid hv2
         clear hu2 hv2
         obtain ⟨a0, a1, a2, a3, a4, a5, la⟩ := (HX.out.up (w' := w2) (by (repeat (first | exact Below.refl _ _ | exact Go.RowKit.Hid.out (by assumption) | refine Up.trans ?_ (Up.drew _) | refine Up.trans ?_ (Up.drewN _ _) | refine Up.trans ?_ (Up.alloc _ _) | refine Up.trans ?_ (Go.RowKit.Hid.out (by assumption)))))).facts
         obtain ⟨b0, b1, b2, b3, b4, b5, lb⟩ := (HY.out.up (w' := w2) (by (repeat (first | exact Below.refl _ _ | exact Go.RowKit.Hid.out (by assumption) | refine Up.trans ?_ (Up.drew _) | refine Up.trans ?_ (Up.drewN _ _) | refine Up.trans ?_ (Up.alloc _ _) | refine Up.trans ?_ (Go.RowKit.Hid.out (by assumption)))))).facts)
      | (go_at_call 51
         refine Calls.mono (HPL.out _ _ (by (repeat (first | exact Below.refl _ _ | exact Go.RowKit.Hid.out (by assumption) | refine Up.trans ?_ (Up.drew _) | refine Up.trans ?_ (Up.drewN _ _) | refine Up.trans ?_ (Up.alloc _ _) | refine Up.trans ?_ (Go.RowKit.Hid.out (by assumption))))) HV2.out) ?_
         rintro e w4 ⟨u4, rfl, hv4, hu4⟩
         have HU4 := Lib.hid hu4
         have HV4 := Lib.hid hv4
         obtain ⟨s5, s6, g5, g6, A5, A6, n5, k5, n6, k6, rfl, -⟩ := hv4
         clear hu4
         have HZ := Lib.hid (HR.out.up (w' := w4) (by (repeat (first | exact Below.refl _ _ | exact Go.RowKit.Hid.out (by assumption) | refine Up.trans ?_ (Up.drew _) | refine Up.trans ?_ (Up.drewN _ _) | refine Up.trans ?_ (Up.alloc _ _) | refine Up.trans ?_ (Go.RowKit.Hid.out (by assumption))))))
         obtain ⟨r0, r1, r2, r3, r4, r5, lr⟩ := HZ.out.facts
         have f0 := HZ.out.frozen 0
         have f1 := HZ.out.frozen 1
         have f2 := HZ.out.frozen 2
         have f3 := HZ.out.frozen 3
         have f4 := HZ.out.frozen 4
         have f5 := HZ.out.frozen 5
         obtain ⟨a0, a1, a2, a3, a4, a5, la⟩ := (HX.out.up (w' := w4) (by (repeat (first | exact Below.refl _ _ | exact Go.RowKit.Hid.out (by assumption) | refine Up.trans ?_ (Up.drew _) | refine Up.trans ?_ (Up.drewN _ _) | refine Up.trans ?_ (Up.alloc _ _) | refine Up.trans ?_ (Go.RowKit.Hid.out (by assumption)))))).facts
         obtain ⟨b0, b1, b2, b3, b4, b5, lb⟩ := (HY.out.up (w' := w4) (by (repeat (first | exact Below.refl _ _ | exact Go.RowKit.Hid.out (by assumption) | refine Up.trans ?_ (Up.drew _) | refine Up.trans ?_ (Up.drewN _ _) | refine Up.trans ?_ (Up.alloc _ _) | refine Up.trans ?_ (Go.RowKit.Hid.out (by assumption)))))).facts)))
  have HF := Lib.hid (HZ.out.set s5 g5 (.slice A5 n5 k5) s6 g6 (.slice A6 n6 k6))
  have HM : Hid (RQ (put6 w4 (w.heap.size + 1 + 1) (.int .i64 s5) (.bool g5) (.slice A5 n5 k5) (.int .i64 s6) (.bool g6) (.slice A6 n6 k6)) (.agg #[.int .i64 s5, .bool g5, .slice A5 n5 k5, .int .i64 s6, .bool g6, .slice A6 n6 k6]) x) := Lib.hid (by
    obtain ⟨s7, s8, g7, g8, A7, A8, n7, k7, n8, k8, he, h1, h2⟩ := HV4.out
    exact ⟨s7, s8, g7, g8, A7, A8, n7, k7, n8, k8, he, h1.put6 HZ.out _ _ _ _ _ _, h2.put6 HZ.out _ _ _ _ _ _⟩)
  have HUF := Lib.hid ((show Up w w4 by (repeat (first | exact Below.refl _ _ | exact Go.RowKit.Hid.out (by assumption) | refine Up.trans ?_ (Up.drew _) | refine Up.trans ?_ (Up.drewN _ _) | refine Up.trans ?_ (Up.alloc _ _) | refine Up.trans ?_ (Go.RowKit.Hid.out (by assumption))))).put6 (show w.heap.size ≤ w.heap.size + 1 + 1 by omega) (.int .i64 s5) (.bool g5) (.slice A5 n5 k5) (.int .i64 s6) (.bool g6) (.slice A6 n6 k6))
  go_wp2
  obtain ⟨z0, z1, z2, z3, z4, z5, -⟩ := HF.out.facts
  refine bodyPost_ret (by simp [results, Tryd.results48, go_sem, z0, z1, z2, z3, z4, z5]; try rfl) rfl ?_
  exact ⟨_, rfl, HM.out, HUF.out⟩

set_option maxHeartbeats 1000000 in
set_option maxRecDepth 10000 in
theorem refRatCompare_q (v1 v2 : Value) (a b : Rat) (n0 m0 : Nat) (w : World) (h1 : RQ w v1 a) (h2 : RQ w v2 b) (ha : QB a n0) (hb : QB b m0) (hn : n0 + m0 + 1 ≤ 536870912) :
    Calls Tryd.prog 19 #[v1, v2] w fun e w' => e = .returned (.int .i64 (a - b).num.sign) ∧ Up w w' := by
  have HLE := Lib.hid (fun W (hu : Up w W) => refRatLess_q v1 v2 a b n0 m0 W (h1.up hu) (h2.up hu) ha hb hn)
  obtain ⟨s, s2, g, g2, A, A2, n, k, n2, k2, rfl, -⟩ := h1
  obtain ⟨t, t2, f, f2, B, B2, m, j, m2, j2, rfl, -⟩ := h2
  clear ha hb hn
  generalize a - b = x at *
  go_enter Tryd.func19, Tryd.ntmps19
  go_wp2_with fail
  refine Calls.mono (HLE.out _ (by (repeat (first | exact Below.refl _ _ | exact Go.RowKit.Hid.out (by assumption) | refine Up.trans ?_ (Up.drew _) | refine Up.trans ?_ (Up.drewN _ _) | refine Up.trans ?_ (Up.alloc _ _) | refine Up.trans ?_ (Go.RowKit.Hid.out (by assumption)))))) ?_
  rintro e w3 ⟨v3, rfl, hv3, hu3⟩
  have HSI := Lib.hid (refRatSign_any v3 _ _ w3 hv3)
  have HU3 := Lib.hid hu3
  clear hv3 hu3
  go_wp2_with fail
  refine Calls.mono HSI.out ?_
  rintro e w4 ⟨rfl, hu4⟩
  have HU4 := Lib.hid hu4
  clear hu4
  go_wp2
  go_ret
  exact ⟨rfl, by (repeat (first | exact Below.refl _ _ | exact Go.RowKit.Hid.out (by assumption) | refine Up.trans ?_ (Up.drew _) | refine Up.trans ?_ (Up.drewN _ _) | refine Up.trans ?_ (Up.alloc _ _) | refine Up.trans ?_ (Go.RowKit.Hid.out (by assumption))))⟩
theorem divInt_sign {n d : Int} (h : 0 < d) : (Rat.divInt n d).num.sign = n.sign := by
  rw [Rat.num_divInt, Int.sign_eq_one_of_pos h, Int.one_mul]
  obtain ⟨k, hk⟩ : ((Int.gcd d n : Nat) : Int) ∣ n := Int.gcd_dvd_right ..
  have hg : (0 : Int) < (Int.gcd d n : Nat) := by
    have := Int.gcd_pos_of_ne_zero_left n (show d ≠ 0 by omega)
    omega
  generalize ((Int.gcd d n : Nat) : Int) = g at *
  rw [hk, Int.mul_ediv_cancel_left _ (by omega), Int.sign_mul, Int.sign_eq_one_of_pos hg, Int.one_mul]
theorem sub_sign (a b : Rat) : (a - b).num.sign = (a.num * b.den - b.num * a.den).sign := by
  have ha := a.den_nz
  have hb := b.den_nz
  have h : a - b = Rat.divInt (a.num * b.den - b.num * a.den) (a.den * b.den) := by
    conv => lhs; rw [← Rat.num_divInt_den a, ← Rat.num_divInt_den b]
    rw [Rat.divInt_sub_divInt _ _ (by omega) (by omega)]
  rw [h, divInt_sign (Int.mul_pos (by omega) (by omega))]
end Go.Proofs.YtimlainffbpfdaaDoor
namespace Go.Proofs.YtimlainffbpfdaaDoor
open Go.RowKit Fm

theorem refOk_eq (x y : Int) : refOk x y = okNum x y := by
  unfold refOk okNum
  apply decide_eq_decide.2
  constructor
  · rintro ⟨a, b, c, d, e⟩; exact ⟨a, b, d, c, e⟩
  · rintro ⟨a, b, c, d, e⟩; exact ⟨a, b, d, c, e⟩
theorem smallOk_fits (q : Rat) : (smallOk q.num && smallOk q.den) = fits q := rfl
theorem refNum_q (v : Value) (q : Rat) (w : World) (h : RQ w v q) :
    Calls Tryd.prog 30 #[v] w fun e w' => e = .returned (.tuple #[.agg #[.int .i64 (numX true q), .int .i64 (numY true q)], .int .i64 (numE true q)]) ∧ Up w w' := by
  have := refNum_any v _ _ w h
  rw [smallOk_fits] at this
  simpa only [numX, numY, numE, Bool.true_and, if_true] using this
theorem refTo_q (x y : Int) (w : World) (h : okNum x y = true) :
    Calls Tryd.prog 18 #[.agg #[.int .i64 x, .int .i64 y]] w fun e w' => ∃ v, e = .returned v ∧ RQ w' v (ratOf x y) ∧ Up w w' := by
  have hb := ok_bounds h
  obtain ⟨e1, e2⟩ := ratOf_ok h
  unfold RQ
  rw [e1, e2]
  exact refTo_any x y w (by omega) (by omega) (by omega) (by omega)
theorem ok_QB {x y : Int} (h : okNum x y = true) : QB (ratOf x y) 3 := by
  have hb := ok_bounds h
  obtain ⟨e1, e2⟩ := ratOf_ok h
  unfold QB
  rw [e1, e2]
  exact ⟨rl_int (by omega) (by omega), rl_int (by omega) (by omega)⟩

theorem refMake_q (v1 v2 : Value) (a b : Int) (w : World) (h1 : RI w v1 a) (h2 : RI w v2 b) (hb0 : b ≠ 0) (ha : rl a ≤ 536870912) (hb : rl b ≤ 536870912) :
    Calls Tryd.prog 31 #[v1, v2] w fun e w' => ∃ v, e = .returned v ∧ RQ w' v (ratOf a b) ∧ Up w w' := by
  refine Calls.mono (refMake_any v1 v2 a b w h1 h2 hb0 ha hb) ?_
  rintro e w' ⟨v, rfl, hv, hu⟩
  exact ⟨v, rfl, Made.rq hv hb0, hu⟩

set_option maxHeartbeats 1000000 in
set_option maxRecDepth 10000 in
theorem refFraction_ok (x y : Int) (w : World) (hr : Rng x y) (h0 : y ≠ 0) :
    Calls Tryd.prog 9 #[.int .i64 x, .int .i64 y] w fun e w' => e = .returned (.tuple #[.agg #[.int .i64 (numX true (ratOf x y)), .int .i64 (numY true (ratOf x y))], .int .i64 (numE true (ratOf x y))]) ∧ Up w w' := by
  obtain ⟨r1, r2, r3, r4⟩ := hr
  have HO1 := Lib.hid (fun W => refOf_any x W r1 r2)
  have HO2 := Lib.hid (fun W => refOf_any y W r3 r4)
  have HN := Lib.hid (fun W u1 u2 (hv1 : RI W u1 x) (hv2 : RI W u2 y) => refMake_q u1 u2 x y W hv1 hv2 h0 (Nat.le_trans (rl_int r1 r2) (by omega)) (Nat.le_trans (rl_int r3 r4) (by omega)))
  have HL := Lib.hid (fun W u (hv : RQ W u (ratOf x y)) => refNum_q u _ W hv)
  have hz : (y == 0) = false := by simp [h0]
  generalize ratOf x y = q at *
  generalize numX true q = rx at *
  generalize numY true q = ry at *
  generalize numE true q = re at *
  clear r1 r2 r3 r4
  go_enter Tryd.func9, Tryd.ntmps9
  go_wp2_with fail
  have HU := Lib.hid (Up.alloc w (.cells #[.int .i64 0, .int .i64 0] 23))
  have HR := Lib.hid (CellN.new w 0 0)
  generalize w.alloc (.cells #[.int .i64 0, .int .i64 0] 23) = wB at *
  refine Calls.mono (HO1.out _) ?_
  rintro e w1 ⟨v1, rfl, hv1, hu1⟩
  have HU1 := Lib.hid hu1
  have HV1 := Lib.hid hv1
  clear hu1 hv1
  go_wp2_with fail
  refine Calls.mono (HO2.out _) ?_
  rintro e w2 ⟨v2, rfl, hv2, hu2⟩
  have HU2 := Lib.hid hu2
  have HV2 := Lib.hid hv2
  have HV1b := Lib.hid (HV1.out.up hu2)
  clear hu2 hv2
  go_wp2_with fail
  refine Calls.mono (HN.out _ _ _ HV1b.out HV2.out) ?_
  rintro e w3 ⟨v3, rfl, hv3, hu3⟩
  have HU3 := Lib.hid hu3
  have HV3 := Lib.hid hv3
  clear hu3 hv3
  go_wp2_with fail
  refine Calls.mono (HL.out _ _ HV3.out) ?_
  rintro e w4 ⟨rfl, hu4⟩
  have HU4 := Lib.hid hu4
  clear hu4
  have HR4 := Lib.hid (HR.out.up (w' := w4) (by (repeat (first | exact Below.refl _ _ | exact Go.RowKit.Hid.out (by assumption) | refine Up.trans ?_ (Up.drew _) | refine Up.trans ?_ (Up.drewN _ _) | refine Up.trans ?_ (Up.alloc _ _) | refine Up.trans ?_ (Go.RowKit.Hid.out (by assumption))))))
  obtain ⟨r0, r1, g0, g1, lr⟩ := HR4.out.facts
  have HFF := Lib.hid ((HR4.out.set rx ry).facts)
  have HUF := Lib.hid ((show Up w w4 by (repeat (first | exact Below.refl _ _ | exact Go.RowKit.Hid.out (by assumption) | refine Up.trans ?_ (Up.drew _) | refine Up.trans ?_ (Up.drewN _ _) | refine Up.trans ?_ (Up.alloc _ _) | refine Up.trans ?_ (Go.RowKit.Hid.out (by assumption))))).stored (show w.heap.size ≤ w.heap.size by omega) (.int .i64 rx) (.int .i64 ry))
  go_wp2
  obtain ⟨z0, z1, -, -, -⟩ := HFF.out
  refine bodyPost_ret (by simp [results, Tryd.results9, go_sem, z0, z1]; try rfl) rfl ?_
  exact ⟨rfl, HUF.out⟩

set_option maxRecDepth 10000 in
theorem refFraction_none (x : Int) (w : World) :
    Calls Tryd.prog 9 #[.int .i64 x, .int .i64 0] w fun e w' => e = .returned (.tuple #[.agg #[.int .i64 0, .int .i64 0], .int .i64 6]) ∧ Up w w' := by
  go_enter Tryd.func9, Tryd.ntmps9
  go_wp2
  refine bodyPost_ret (by simp [results, Tryd.results9, go_sem]; try rfl) rfl ?_
  exact ⟨rfl, Up.alloc _ _⟩

theorem floor_of (x y : Int) (hy : 0 < y) : x / y = if (x.tmod y).sign < 0 then x.tdiv y - 1 else x.tdiv y := by
  by_cases h : x.tmod y < 0
  · rw [if_pos (Int.sign_neg_iff.2 h), floor_neg hy h]
  · rw [if_neg (by rw [Int.sign_neg_iff]; exact h), floor_pos hy h]

set_option maxHeartbeats 2000000 in
set_option maxRecDepth 10000 in
theorem refDown_any (v : Value) (p q : Int) (w : World) (h : RR w v p q) (hq : 0 < q) (hp : rl p ≤ 536870912) :
    Calls Tryd.prog 35 #[v] w fun e w' => ∃ v', e = .returned v' ∧ RI w' v' (p / q) ∧ Up w w' := by
  have hpt : rl (p.tdiv q) ≤ 536870912 := rl_tdiv hp
  have HLE := Lib.hid (fun W u1 u2 (h1 : RI W u1 (p.tdiv q)) (h2 : RI W u2 1) => refLess_any u1 u2 _ _ W h1 h2 hpt (Nat.le_trans (rl_int (z := 1) (by omega) (by omega)) (by omega)))
  have HO1 := Lib.hid (fun W => refOf_any 1 W (by omega) (by omega))
  obtain ⟨s, s2, g, g2, A, A2, n, c, n2, c2, rfl, hp1, hp2⟩ := h
  have HOV := Lib.hid (fun W (hu : Up w W) => refOver_any _ _ p q W (hp1.up hu) (hp2.up hu) (by omega) hp)
  have HSI := Lib.hid (fun W u (hv : RI W u (p.tmod q)) => refSign_any u _ W hv)
  have HFL := Lib.hid (floor_of p q hq)
  obtain ⟨sg, hsg⟩ : ∃ sg, sg = (p.tmod q).sign := ⟨_, rfl⟩
  rw [← hsg] at HSI HFL
  generalize p.tdiv q = z at *
  generalize p.tmod q = r at *
  generalize p / q = f at *
  clear hp1 hp2 hp hpt hsg hq
  go_enter Tryd.func35, Tryd.ntmps35
  go_wp2_with fail
  have HC := Lib.hid (CellR.new w s g (.slice A n c) s2 g2 (.slice A2 n2 c2))
  obtain ⟨wB, hwB⟩ : ∃ wB, wB = (w.alloc (.cells #[.int .i64 s, .bool g, .slice A n c, .int .i64 s2, .bool g2, .slice A2 n2 c2] 38)).alloc (.cells #[.int .i64 0, .bool false, .slice none 0 0] 36) := ⟨_, rfl⟩
  have HR := Lib.hid (show Res3 wB (w.heap.size + 1) by rw [hwB]; have := Res3.new (w.alloc (.cells #[.int .i64 s, .bool g, .slice A n c, .int .i64 s2, .bool g2, .slice A2 n2 c2] 38)); simpa using this)
  have HU := Lib.hid (show Up w wB by rw [hwB]; exact (Up.alloc _ _).trans (Up.alloc _ _))
  rw [← hwB]
  clear hwB
  refine Calls.mono (HOV.out _ (by (repeat (first | exact Below.refl _ _ | exact Go.RowKit.Hid.out (by assumption) | refine Up.trans ?_ (Up.drew _) | refine Up.trans ?_ (Up.drewN _ _) | refine Up.trans ?_ (Up.alloc _ _) | refine Up.trans ?_ (Go.RowKit.Hid.out (by assumption)))))) ?_
  rintro e w1 ⟨q', r', rfl, hq', hr', hu1⟩
  have HU1 := Lib.hid hu1
  have HV1 := Lib.hid hq'
  have HV2 := Lib.hid hr'
  obtain ⟨s3, g3, A3, n3, c3, rfl, -⟩ := hq'
  obtain ⟨s4, g4, A4, n4, c4, rfl, -⟩ := hr'
  clear hu1
  obtain ⟨wC, hwC⟩ : ∃ wC, wC = (w1.alloc (.cells #[.int .i64 s3, .bool g3, .slice A3 n3 c3] 36)).alloc (.cells #[.int .i64 s4, .bool g4, .slice A4 n4 c4] 36) := ⟨_, rfl⟩
  have HUC := Lib.hid (show Up w1 wC by rw [hwC]; exact (Up.alloc _ _).trans (Up.alloc _ _))
  have HQ := Lib.hid (show CellI wC w1.heap.size s3 g3 (.slice A3 n3 c3) by rw [hwC]; exact (CellI.new _ _ _ _).up (Up.alloc _ _))
  have hbs : w.heap.size + 1 < w1.heap.size := Nat.lt_of_lt_of_le HR.out.lt (show Up wB w1 by (repeat (first | exact Below.refl _ _ | exact Go.RowKit.Hid.out (by assumption) | refine Up.trans ?_ (Up.drew _) | refine Up.trans ?_ (Up.drewN _ _) | refine Up.trans ?_ (Up.alloc _ _) | refine Up.trans ?_ (Go.RowKit.Hid.out (by assumption))))).size
  go_wp2_with fail
  rw [← hwC]
  clear hwC
  refine Calls.mono (HSI.out _ _ (HV2.out.up HUC.out)) ?_
  rintro e w2 ⟨rfl, hu2⟩
  have HU2 := Lib.hid hu2
  have HV1b := Lib.hid ((HV1.out.up HUC.out).up hu2)
  clear hu2
  have hne1 : (w1.heap.size = w.heap.size + 1) = False := eq_false (by omega)
  have hne2 : (w.heap.size + 1 = w1.heap.size) = False := eq_false (by omega)
  obtain ⟨c0, c1, c2, lc⟩ := (HQ.out.up (w' := w2) (by (repeat (first | exact Below.refl _ _ | exact Go.RowKit.Hid.out (by assumption) | refine Up.trans ?_ (Up.drew _) | refine Up.trans ?_ (Up.drewN _ _) | refine Up.trans ?_ (Up.alloc _ _) | refine Up.trans ?_ (Go.RowKit.Hid.out (by assumption)))))).facts
  by_cases hs : sg < 0
  · have HFE : Hid (f = z - 1) := Lib.hid (by rw [HFL.out, if_pos hs])
    clear HFL
    go_upto_region 3 with fail
    go_region_held3 (fun w' => w'.cell? ⟨w1.heap.size, 0, none⟩ = some (.int .i64 s3) ∧ w'.cell? ⟨w1.heap.size, 1, none⟩ = some (.bool g3) ∧ w'.cell? ⟨w1.heap.size, 2, none⟩ = some (.slice A3 n3 c3)) (go_keep)
      ((first
        | (go_at_call 72
           refine Calls.mono (HLE.out _ _ _ HV1c.out HV3.out) ?_
           rintro e w5 ⟨v5, rfl, hv5, hu5⟩
           have HU5 := Lib.hid hu5
           have HV5 := Lib.hid hv5
           obtain ⟨s5, g5, A5, n5, c5, rfl, -⟩ := hv5
           clear hu5
           have HR5 := Lib.hid (HR.out.up (w' := w5) (by (repeat (first | exact Below.refl _ _ | exact Go.RowKit.Hid.out (by assumption) | refine Up.trans ?_ (Up.drew _) | refine Up.trans ?_ (Up.drewN _ _) | refine Up.trans ?_ (Up.alloc _ _) | refine Up.trans ?_ (Go.RowKit.Hid.out (by assumption))))))
           obtain ⟨r0, r1, r2, f0, f1, f2, lr⟩ := HR5.out.facts
           obtain ⟨c0, c1, c2, lc⟩ := (HQ.out.up (w' := w5) (by (repeat (first | exact Below.refl _ _ | exact Go.RowKit.Hid.out (by assumption) | refine Up.trans ?_ (Up.drew _) | refine Up.trans ?_ (Up.drewN _ _) | refine Up.trans ?_ (Up.alloc _ _) | refine Up.trans ?_ (Go.RowKit.Hid.out (by assumption)))))).facts)
        | (go_at_call 32
           refine Calls.mono (HO1.out _) ?_
           rintro e w3 ⟨v3, rfl, hv3, hu3⟩
           have HU3 := Lib.hid hu3
           have HV3 := Lib.hid hv3
           have HV1c := Lib.hid (HV1b.out.up (w' := w3) (by (repeat (first | exact Below.refl _ _ | exact Go.RowKit.Hid.out (by assumption) | refine Up.trans ?_ (Up.drew _) | refine Up.trans ?_ (Up.drewN _ _) | refine Up.trans ?_ (Up.alloc _ _) | refine Up.trans ?_ (Go.RowKit.Hid.out (by assumption))))))
           clear hu3 hv3
           obtain ⟨c0, c1, c2, lc⟩ := (HQ.out.up (w' := w3) (by (repeat (first | exact Below.refl _ _ | exact Go.RowKit.Hid.out (by assumption) | refine Up.trans ?_ (Up.drew _) | refine Up.trans ?_ (Up.drewN _ _) | refine Up.trans ?_ (Up.alloc _ _) | refine Up.trans ?_ (Go.RowKit.Hid.out (by assumption)))))).facts)))
    have HRES := Lib.hid (HV5.out.put HR5.out (.int .i64 s5) (.bool g5) (.slice A5 n5 c5))
    have HF := Lib.hid (HR5.out.stored (.int .i64 s5) (.bool g5) (.slice A5 n5 c5))
    have HUF := Lib.hid ((show Up w w5 by (repeat (first | exact Below.refl _ _ | exact Go.RowKit.Hid.out (by assumption) | refine Up.trans ?_ (Up.drew _) | refine Up.trans ?_ (Up.drewN _ _) | refine Up.trans ?_ (Up.alloc _ _) | refine Up.trans ?_ (Go.RowKit.Hid.out (by assumption))))).put3 (show w.heap.size ≤ w.heap.size + 1 by omega) (.int .i64 s5) (.bool g5) (.slice A5 n5 c5))
    go_wp2
    obtain ⟨z0, z1, z2⟩ := HF.out
    refine bodyPost_ret (by simp [results, Tryd.results35, go_sem, z0, z1, z2]; try rfl) rfl ?_
    refine ⟨_, rfl, ?_, HUF.out⟩
    rw [HFE.out]
    exact HRES.out
  · have HFE : Hid (f = z) := Lib.hid (by rw [HFL.out, if_neg hs])
    have hsd : decide (sg < 0) = false := decide_eq_false hs
    clear HFL
    have HR5 := Lib.hid (HR.out.up (w' := w2) (by (repeat (first | exact Below.refl _ _ | exact Go.RowKit.Hid.out (by assumption) | refine Up.trans ?_ (Up.drew _) | refine Up.trans ?_ (Up.drewN _ _) | refine Up.trans ?_ (Up.alloc _ _) | refine Up.trans ?_ (Go.RowKit.Hid.out (by assumption))))))
    obtain ⟨r0, r1, r2, f0, f1, f2, lr⟩ := HR5.out.facts
    have HRES := Lib.hid (HV1b.out.put HR5.out (.int .i64 s3) (.bool g3) (.slice A3 n3 c3))
    have HF := Lib.hid (HR5.out.stored (.int .i64 s3) (.bool g3) (.slice A3 n3 c3))
    have HUF := Lib.hid ((show Up w w2 by (repeat (first | exact Below.refl _ _ | exact Go.RowKit.Hid.out (by assumption) | refine Up.trans ?_ (Up.drew _) | refine Up.trans ?_ (Up.drewN _ _) | refine Up.trans ?_ (Up.alloc _ _) | refine Up.trans ?_ (Go.RowKit.Hid.out (by assumption))))).put3 (show w.heap.size ≤ w.heap.size + 1 by omega) (.int .i64 s3) (.bool g3) (.slice A3 n3 c3))
    go_wp2
    obtain ⟨z0, z1, z2⟩ := HF.out
    refine bodyPost_ret (by simp [results, Tryd.results35, go_sem, z0, z1, z2]; try rfl) rfl ?_
    refine ⟨_, rfl, ?_, HUF.out⟩
    rw [HFE.out]
    exact HRES.out
end Go.Proofs.YtimlainffbpfdaaDoor
namespace Go.Proofs.YtimlainffbpfdaaDoor
open Go.RowKit Fm

theorem div_small {x y : Int} (h1 : -1152921504606846976 ≤ x) (h2 : x ≤ 1152921504606846976) (hy : 1 ≤ y) : -1152921504606846976 ≤ x / y ∧ x / y ≤ 1152921504606846976 := by
  constructor
  · rw [Int.le_ediv_iff_mul_le (by omega)]
    have : -1152921504606846976 * y ≤ -1152921504606846976 * 1 := Int.mul_le_mul_of_nonpos_left (by omega) hy
    omega
  · have h3 := Int.ediv_mul_le x (b := y) (by omega)
    rcases Int.lt_or_le (x / y) 0 with h | h
    · omega
    · have : x / y * 1 ≤ x / y * y := Int.mul_le_mul_of_nonneg_left hy h
      omega

set_option maxHeartbeats 1000000 in
set_option maxRecDepth 10000 in
theorem refFloor_any (x y : Int) (w : World) (hr : Rng x y) :
    Calls Tryd.prog 11 #[.agg #[.int .i64 x, .int .i64 y]] w fun e w' => e = .returned (.tuple #[.int .i64 (if okNum x y then x / y else 0), .int .i64 (if okNum x y then 0 else 1)]) ∧ Up w w' := by
  have HV := Lib.hid (fun W => refValid_any x y W hr.1 hr.2.1 hr.2.2.1 hr.2.2.2)
  rw [refOk_eq] at HV
  rcases hk : okNum x y with _ | _
  · rw [hk] at HV
    simp only [if_false, Bool.false_eq_true]
    clear hk hr
    go_enter Tryd.func11, Tryd.ntmps11
    go_wp2_with fail
    have HU := Lib.hid (Up.alloc w (.cells #[.int .i64 x, .int .i64 y] 23))
    refine Calls.mono (HV.out _) ?_
    rintro e w1 ⟨rfl, hu1⟩
    have HU1 := Lib.hid hu1
    clear hu1
    go_wp2
    refine bodyPost_ret (by simp [results, Tryd.results11, go_sem]; try rfl) rfl ?_
    exact ⟨rfl, by (repeat (first | exact Below.refl _ _ | exact Go.RowKit.Hid.out (by assumption) | refine Up.trans ?_ (Up.drew _) | refine Up.trans ?_ (Up.drewN _ _) | refine Up.trans ?_ (Up.alloc _ _) | refine Up.trans ?_ (Go.RowKit.Hid.out (by assumption))))⟩
  · have hb := ok_bounds hk
    have HT := Lib.hid (fun W => refTo_any x y W hr.1 hr.2.1 hr.2.2.1 hr.2.2.2)
    have HD := Lib.hid (fun W v (h : RR W v x y) => refDown_any v x y W h (by omega) (Nat.le_trans (rl_int hr.1 hr.2.1) (by omega)))
    have HS := Lib.hid (fun W v (h : RI W v (x / y)) => refSmall_any' v _ W h)
    have hs : smallOk (x / y) = true := by unfold smallOk; exact decide_eq_true (div_small hb.2.2.1 hb.2.2.2 hb.1)
    rw [hs] at HS
    rw [hk] at HV
    simp only [if_true] at HS ⊢
    generalize x / y = z at *
    clear hk hr hb hs
    go_enter Tryd.func11, Tryd.ntmps11
    go_wp2_with fail
    have HN := Lib.hid (CellN.new w x y)
    have HU := Lib.hid (Up.alloc w (.cells #[.int .i64 x, .int .i64 y] 23))
    generalize w.alloc (.cells #[.int .i64 x, .int .i64 y] 23) = wB at *
    refine Calls.mono (HV.out _) ?_
    rintro e w1 ⟨rfl, hu1⟩
    have HU1 := Lib.hid hu1
    clear hu1
    obtain ⟨a0, a1, -, -, la⟩ := (HN.out.up (w' := w1) (by (repeat (first | exact Below.refl _ _ | exact Go.RowKit.Hid.out (by assumption) | refine Up.trans ?_ (Up.drew _) | refine Up.trans ?_ (Up.drewN _ _) | refine Up.trans ?_ (Up.alloc _ _) | refine Up.trans ?_ (Go.RowKit.Hid.out (by assumption)))))).facts
    go_wp2_with fail
    refine Calls.mono (HT.out _) ?_
    rintro e w2 ⟨v2, rfl, hv2, hu2⟩
    have HU2 := Lib.hid hu2
    have HV2 := Lib.hid hv2
    clear hu2 hv2
    go_wp2_with fail
    refine Calls.mono (HD.out _ _ HV2.out) ?_
    rintro e w3 ⟨v3, rfl, hv3, hu3⟩
    have HU3 := Lib.hid hu3
    have HV3 := Lib.hid hv3
    clear hu3 hv3
    go_wp2_with fail
    refine Calls.mono (HS.out _ _ HV3.out) ?_
    rintro e w4 ⟨rfl, hu4⟩
    have HU4 := Lib.hid hu4
    clear hu4
    go_wp2
    refine bodyPost_ret (by simp [results, Tryd.results11, go_sem]; try rfl) rfl ?_
    exact ⟨rfl, by (repeat (first | exact Below.refl _ _ | exact Go.RowKit.Hid.out (by assumption) | refine Up.trans ?_ (Up.drew _) | refine Up.trans ?_ (Up.drewN _ _) | refine Up.trans ?_ (Up.alloc _ _) | refine Up.trans ?_ (Go.RowKit.Hid.out (by assumption))))⟩

set_option maxHeartbeats 1000000 in
set_option maxRecDepth 10000 in
theorem refCeil_any (x y : Int) (w : World) (hr : Rng x y) :
    Calls Tryd.prog 13 #[.agg #[.int .i64 x, .int .i64 y]] w fun e w' => e = .returned (.tuple #[.int .i64 (if okNum x y then -(-x / y) else 0), .int .i64 (if okNum x y then 0 else 1)]) ∧ Up w w' := by
  have HV := Lib.hid (fun W => refValid_any x y W hr.1 hr.2.1 hr.2.2.1 hr.2.2.2)
  rw [refOk_eq] at HV
  rcases hk : okNum x y with _ | _
  · rw [hk] at HV
    simp only [if_false, Bool.false_eq_true]
    clear hk hr
    go_enter Tryd.func13, Tryd.ntmps13
    go_wp2_with fail
    have HU := Lib.hid (Up.alloc w (.cells #[.int .i64 x, .int .i64 y] 23))
    refine Calls.mono (HV.out _) ?_
    rintro e w1 ⟨rfl, hu1⟩
    have HU1 := Lib.hid hu1
    clear hu1
    go_wp2
    refine bodyPost_ret (by simp [results, Tryd.results13, go_sem]; try rfl) rfl ?_
    exact ⟨rfl, by (repeat (first | exact Below.refl _ _ | exact Go.RowKit.Hid.out (by assumption) | refine Up.trans ?_ (Up.drew _) | refine Up.trans ?_ (Up.drewN _ _) | refine Up.trans ?_ (Up.alloc _ _) | refine Up.trans ?_ (Go.RowKit.Hid.out (by assumption))))⟩
  · have hb := ok_bounds hk
    have HT := Lib.hid (fun W => refTo_any x y W hr.1 hr.2.1 hr.2.2.1 hr.2.2.2)
    have HM := Lib.hid (fun W v (h : RR W v x y) => refRatMinus_any v x y W h)
    have HD := Lib.hid (fun W v (h : RR W v (-x) y) => refDown_any v (-x) y W h (by omega) (by rw [rl_neg]; exact Nat.le_trans (rl_int hr.1 hr.2.1) (by omega)))
    have HI := Lib.hid (fun W v (h : RI W v (-x / y)) => refMinus_any v _ W h)
    have HS := Lib.hid (fun W v (h : RI W v (-(-x / y))) => refSmall_any' v _ W h)
    have hs : smallOk (-(-x / y)) = true := by
      have := div_small (x := -x) (y := y) (by omega) (by omega) hb.1
      unfold smallOk; exact decide_eq_true (by omega)
    rw [hs] at HS
    rw [hk] at HV
    simp only [if_true] at HS ⊢
    generalize -x / y = z at *
    obtain ⟨z', hz'⟩ : ∃ z', z' = -z := ⟨_, rfl⟩
    rw [← hz'] at HI HS ⊢
    obtain ⟨x', hx'⟩ : ∃ x', x' = -x := ⟨_, rfl⟩
    rw [← hx'] at HM HD
    clear hk hr hb hs hz' hx'
    go_enter Tryd.func13, Tryd.ntmps13
    go_wp2_with fail
    have HN := Lib.hid (CellN.new w x y)
    have HU := Lib.hid (Up.alloc w (.cells #[.int .i64 x, .int .i64 y] 23))
    generalize w.alloc (.cells #[.int .i64 x, .int .i64 y] 23) = wB at *
    refine Calls.mono (HV.out _) ?_
    rintro e w1 ⟨rfl, hu1⟩
    have HU1 := Lib.hid hu1
    clear hu1
    obtain ⟨a0, a1, -, -, la⟩ := (HN.out.up (w' := w1) (by (repeat (first | exact Below.refl _ _ | exact Go.RowKit.Hid.out (by assumption) | refine Up.trans ?_ (Up.drew _) | refine Up.trans ?_ (Up.drewN _ _) | refine Up.trans ?_ (Up.alloc _ _) | refine Up.trans ?_ (Go.RowKit.Hid.out (by assumption)))))).facts
    go_wp2_with fail
    refine Calls.mono (HT.out _) ?_
    rintro e w2 ⟨v2, rfl, hv2, hu2⟩
    have HU2 := Lib.hid hu2
    have HV2 := Lib.hid hv2
    clear hu2 hv2
    go_wp2_with fail
    refine Calls.mono (HM.out _ _ HV2.out) ?_
    rintro e w5 ⟨v5, rfl, hv5, hu5⟩
    have HU5 := Lib.hid hu5
    have HV5 := Lib.hid hv5
    clear hu5 hv5
    go_wp2_with fail
    refine Calls.mono (HD.out _ _ HV5.out) ?_
    rintro e w3 ⟨v3, rfl, hv3, hu3⟩
    have HU3 := Lib.hid hu3
    have HV3 := Lib.hid hv3
    clear hu3 hv3
    go_wp2_with fail
    refine Calls.mono (HI.out _ _ HV3.out) ?_
    rintro e w6 ⟨v6, rfl, hv6, hu6⟩
    have HU6 := Lib.hid hu6
    have HV6 := Lib.hid hv6
    clear hu6 hv6
    go_wp2_with fail
    refine Calls.mono (HS.out _ _ HV6.out) ?_
    rintro e w4 ⟨rfl, hu4⟩
    have HU4 := Lib.hid hu4
    clear hu4
    go_wp2
    refine bodyPost_ret (by simp [results, Tryd.results13, go_sem]; try rfl) rfl ?_
    exact ⟨rfl, by (repeat (first | exact Below.refl _ _ | exact Go.RowKit.Hid.out (by assumption) | refine Up.trans ?_ (Up.drew _) | refine Up.trans ?_ (Up.drewN _ _) | refine Up.trans ?_ (Up.alloc _ _) | refine Up.trans ?_ (Go.RowKit.Hid.out (by assumption))))⟩
end Go.Proofs.YtimlainffbpfdaaDoor
