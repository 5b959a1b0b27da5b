/- Contracts of the reference implementation: fractions as rational numbers. -/
import Derived.Test.YtacbjbnocepnaaaGreatDoorQGP
import Derived.Test.YtacbjbnocepnaaaGreatDoorQGH
namespace Go.Proofs.YtacbjbnocepnaaaGreatDoor
open Go.RowKit Fm
def RQ (w : World) (v : Value) (q : Rat) : Prop := RR w v q.num q.den
theorem RQ.up {w w' : World} {v : Value} {q : Rat} (h : RQ w v q) (hu : Up w w') : RQ w' v q := RR.up h hu
theorem Made.rq {w : World} {v : Value} {a b : Int} (h : Made w v a b) (hb : b ≠ 0) : RQ w v (ratOf a b) := by
  unfold Made at h
  unfold RQ ratOf
  rcases Int.lt_or_gt_of_ne hb with hb | hb
  · have := new_neg (top := a) hb
    rw [← this.1, ← this.2, Int.tdiv_neg, Int.tdiv_neg]
    rw [Int.sign_eq_neg_one_of_neg hb, Int.neg_one_mul, Int.neg_one_mul, Int.neg_tdiv, Int.neg_tdiv] at h
    exact h
  · have := new_pos (top := a) hb
    rw [← this.1, ← this.2]
    rw [Int.sign_eq_one_of_pos hb, Int.one_mul, Int.one_mul] at h
    exact h
theorem rl_mul {x y : Int} {k l m : Nat} (hx : rl x ≤ k) (hy : rl y ≤ l) (hm : k + l ≤ m) : rl (x * y) ≤ m := by
  unfold rl at *
  rw [Int.natAbs_mul]
  refine Nat.le_trans ?_ hm
  have h1 := val_lt (B := 1073741824) (by omega) (digs_ok (B := 1073741824) (by omega) x.natAbs)
  have h2 := val_lt (B := 1073741824) (by omega) (digs_ok (B := 1073741824) (by omega) y.natAbs)
  rw [val_digs (by omega)] at h1 h2
  have h3 := Nat.pow_le_pow_right (n := 1073741824) (by omega) hx
  have h4 := Nat.pow_le_pow_right (n := 1073741824) (by omega) hy
  apply digs_length_le (by omega)
  rw [Nat.pow_add]
  exact Nat.mul_lt_mul'' (Nat.lt_of_lt_of_le h1 h3) (Nat.lt_of_lt_of_le h2 h4)
theorem rl_lt {z : Int} {k : Nat} (h : rl z ≤ k) : z.natAbs < 1073741824 ^ k := by
  unfold rl at h
  have h1 := val_lt (B := 1073741824) (by omega) (digs_ok (B := 1073741824) (by omega) z.natAbs)
  rw [val_digs (by omega)] at h1
  exact Nat.lt_of_lt_of_le h1 (Nat.pow_le_pow_right (n := 1073741824) (by omega) h)
theorem rl_of_lt {z : Int} {k : Nat} (h : z.natAbs < 1073741824 ^ k) : rl z ≤ k := digs_length_le (by omega) h
theorem rl_add {x y : Int} {k m : Nat} (hx : rl x ≤ k) (hy : rl y ≤ k) (hm : k + 1 ≤ m) : rl (x + y) ≤ m := by
  have h1 := rl_lt hx
  have h2 := rl_lt hy
  refine Nat.le_trans (rl_of_lt (k := k + 1) ?_) hm
  have := Int.natAbs_add_le x y
  rw [Nat.pow_succ]
  generalize 1073741824 ^ k = K at *
  omega
theorem rl_neg {x : Int} : rl (-x) = rl x := by unfold rl; rw [Int.natAbs_neg]
theorem rl_tdiv {x y : Int} {k : Nat} (h : rl x ≤ k) : rl (x.tdiv y) ≤ k := by
  unfold rl at *
  rw [Int.natAbs_tdiv]
  exact Nat.le_trans (digs_len_le (Nat.div_le_self _ _)) h
def QB (q : Rat) (n : Nat) : Prop := rl q.num ≤ n ∧ rl (q.den : Int) ≤ n
theorem QB.mono {q : Rat} {n m : Nat} (h : QB q n) (hm : n ≤ m) : QB q m := ⟨Nat.le_trans h.1 hm, Nat.le_trans h.2 hm⟩
theorem QB.divInt {a b : Int} {n : Nat} (ha : rl a ≤ n) (hb : rl b ≤ n) (h0 : b ≠ 0) : QB (ratOf a b) n := by
  unfold QB ratOf
  rcases Int.lt_or_gt_of_ne h0 with h | h
  · have := new_neg (top := a) h
    rw [← this.1, ← this.2]
    exact ⟨rl_tdiv ha, rl_tdiv hb⟩
  · have := new_pos (top := a) h
    rw [← this.1, ← this.2]
    exact ⟨rl_tdiv ha, rl_tdiv hb⟩
theorem den_ne (q : Rat) : (q.den : Int) ≠ 0 := by have := q.den_nz; omega
theorem rat_add (a b : Rat) : ratOf (a.num * b.den + b.num * a.den) (a.den * b.den) = a + b := by
  unfold ratOf
  conv => rhs; rw [← Rat.num_divInt_den a, ← Rat.num_divInt_den b]
  rw [Rat.divInt_add_divInt _ _ (den_ne a) (den_ne b)]
theorem QB.add {a b : Rat} {n m k : Nat} (ha : QB a n) (hb : QB b m) (hk : n + m + 1 ≤ k) : QB (a + b) k := by
  rw [← rat_add]
  refine QB.divInt (rl_add (k := n + m) (rl_mul ha.1 hb.2 (Nat.le_refl _)) (rl_mul hb.1 ha.2 (by omega)) hk) (rl_mul ha.2 hb.2 (by omega)) ?_
  exact Int.mul_ne_zero (den_ne a) (den_ne b)
end Go.Proofs.YtacbjbnocepnaaaGreatDoor
namespace Go.Proofs.YtacbjbnocepnaaaGreatDoor
open Go.RowKit Fm
theorem smallOk_fits (q : Rat) : (smallOk q.num && smallOk q.den) = fits q := rfl
theorem refMake_q (v1 v2 : Value) (a b : Int) (w : World) (h1 : RI w v1 a) (h2 : RI w v2 b) (hb0 : b ≠ 0) (ha : rl a ≤ 536870912) (hb : rl b ≤ 536870912) :
    Calls Tryz.prog 70 #[v1, v2] w fun e w' => ∃ v, e = .returned v ∧ RQ w' v (ratOf a b) ∧ Up w w' := by
  refine Calls.mono (refMake_any v1 v2 a b w h1 h2 hb0 ha hb) ?_
  rintro e w' ⟨v, rfl, hv, hu⟩
  exact ⟨v, rfl, Made.rq hv hb0, hu⟩
end Go.Proofs.YtacbjbnocepnaaaGreatDoor
namespace Go.Proofs.YtacbjbnocepnaaaGreatDoor
open Go.RowKit Fm
def RdN (w : World) (A : Option Addr) (xs : List (Int × Int)) : Prop :=
  xs ≠ [] → ∃ b off, A = some ⟨b, off, none⟩ ∧ b < w.heap.size ∧ ∀ i (h : i < xs.length), w.cell? ⟨b, off + i * 2, none⟩ = some (.int .i64 xs[i].1) ∧ w.cell? ⟨b, off + i * 2 + 1, none⟩ = some (.int .i64 xs[i].2)
theorem RdN.up {w w' : World} {A : Option Addr} {xs : List (Int × Int)} (h : RdN w A xs) (hu : Up w w') : RdN w' A xs := fun hn => by
  obtain ⟨b, off, hA, hb, hc⟩ := h hn
  exact ⟨b, off, hA, Nat.lt_of_lt_of_le hb hu.size, fun i hi => ⟨(hu.cells.1 b _ hb).trans (hc i hi).1, (hu.cells.1 b _ hb).trans (hc i hi).2⟩⟩
theorem RdN.at_ {w : World} {A : Option Addr} {xs : List (Int × Int)} (h : RdN w A xs) {i : Nat} (hi : i < xs.length) : ∃ b off, A = some ⟨b, off, none⟩ ∧ b < w.heap.size ∧ w.cell? ⟨b, off + i * 2, none⟩ = some (.int .i64 xs[i].1) ∧ w.cell? ⟨b, off + i * 2 + 1, none⟩ = some (.int .i64 xs[i].2) := by
  obtain ⟨b, off, hA, hb, hc⟩ := h (by intro e; subst e; simp at hi)
  exact ⟨b, off, hA, hb, (hc i hi).1, (hc i hi).2⟩
theorem len_le {n c : Nat} (h : n ≤ c) (hm : c ≤ maxLen) : n ≤ 9223372036854775807 := by
  unfold maxLen at hm; omega
end Go.Proofs.YtacbjbnocepnaaaGreatDoor
namespace Go.Proofs.YtacbjbnocepnaaaGreatDoor
open Go.RowKit Fm
theorem two_rdN (w : World) (x1 y1 x2 y2 : Int) : RdN (w.alloc (.cells #[.int .i64 x1, .int .i64 y1, .int .i64 x2, .int .i64 y2] 55)) (some ⟨w.heap.size, 0, none⟩) [(x1, y1), (x2, y2)] := fun _ => by
  have h := heap_alloc_new w (.cells #[.int .i64 x1, .int .i64 y1, .int .i64 x2, .int .i64 y2] 55)
  refine ⟨_, 0, rfl, ?_, fun i hi => ?_⟩
  · rcases Nat.lt_or_ge w.heap.size (w.alloc (.cells #[.int .i64 x1, .int .i64 y1, .int .i64 x2, .int .i64 y2] 55)).heap.size with h1 | h1
    · exact h1
    · rw [Array.getElem?_eq_none h1] at h; cases h
  · rcases i with _ | _ | i
    · exact ⟨by rw [cell_of_row _ _ _ _ _ _ h]; rfl, by rw [cell_of_row _ _ _ _ _ _ h]; rfl⟩
    · exact ⟨by rw [cell_of_row _ _ _ _ _ _ h]; rfl, by rw [cell_of_row _ _ _ _ _ _ h]; rfl⟩
    · simp at hi
      omega
end Go.Proofs.YtacbjbnocepnaaaGreatDoor
