/- Contracts of the reference implementation: fractions as rational numbers. -/
import Derived.Test.YtgcmogldiahdpaaGreatDoorQGP
import Derived.Test.YtgcmogldiahdpaaGreatDoorQGI
namespace Go.Proofs.YtgcmogldiahdpaaGreatDoor
open Go.RowKit Fm

/-- The value is this fraction, of the reference's type. -/
def RQ (w : World) (v : Value) (q : Rat) : Prop := RR w v q.num q.den
theorem RQ.up {w w' : World} {v : Value} {q : Rat} (h : RQ w v q) (hu : Up w w') : RQ w' v q := RR.up h hu
theorem rl_mul {x y : Int} {k l m : Nat} (hx : rl x ≤ k) (hy : rl y ≤ l) (hm : k + l ≤ m) : rl (x * y) ≤ m := by
  unfold rl at *
  rw [Int.natAbs_mul]
  refine Nat.le_trans ?_ hm
  have h1 := val_lt (B := 1073741824) (by omega) (digs_ok (B := 1073741824) (by omega) x.natAbs)
  have h2 := val_lt (B := 1073741824) (by omega) (digs_ok (B := 1073741824) (by omega) y.natAbs)
  rw [val_digs (by omega)] at h1 h2
  have h3 := Nat.pow_le_pow_right (n := 1073741824) (by omega) hx
  have h4 := Nat.pow_le_pow_right (n := 1073741824) (by omega) hy
  apply digs_length_le (by omega)
  rw [Nat.pow_add]
  exact Nat.mul_lt_mul'' (Nat.lt_of_lt_of_le h1 h3) (Nat.lt_of_lt_of_le h2 h4)
theorem rl_lt {z : Int} {k : Nat} (h : rl z ≤ k) : z.natAbs < 1073741824 ^ k := by
  unfold rl at h
  have h1 := val_lt (B := 1073741824) (by omega) (digs_ok (B := 1073741824) (by omega) z.natAbs)
  rw [val_digs (by omega)] at h1
  exact Nat.lt_of_lt_of_le h1 (Nat.pow_le_pow_right (n := 1073741824) (by omega) h)
theorem rl_of_lt {z : Int} {k : Nat} (h : z.natAbs < 1073741824 ^ k) : rl z ≤ k := digs_length_le (by omega) h
theorem rl_add {x y : Int} {k m : Nat} (hx : rl x ≤ k) (hy : rl y ≤ k) (hm : k + 1 ≤ m) : rl (x + y) ≤ m := by
  have h1 := rl_lt hx
  have h2 := rl_lt hy
  refine Nat.le_trans (rl_of_lt (k := k + 1) ?_) hm
  have := Int.natAbs_add_le x y
  rw [Nat.pow_succ]
  generalize 1073741824 ^ k = K at *
  omega
theorem rl_tdiv {x y : Int} {k : Nat} (h : rl x ≤ k) : rl (x.tdiv y) ≤ k := by
  unfold rl at *
  rw [Int.natAbs_tdiv]
  exact Nat.le_trans (digs_len_le (Nat.div_le_self _ _)) h
/-- Both integers of a fraction have at most n digits. -/
def QB (q : Rat) (n : Nat) : Prop := rl q.num ≤ n ∧ rl (q.den : Int) ≤ n
theorem QB.mono {q : Rat} {n m : Nat} (h : QB q n) (hm : n ≤ m) : QB q m := ⟨Nat.le_trans h.1 hm, Nat.le_trans h.2 hm⟩
theorem QB.divInt {a b : Int} {n : Nat} (ha : rl a ≤ n) (hb : rl b ≤ n) (h0 : b ≠ 0) : QB (ratOf a b) n := by
  unfold QB ratOf
  rcases Int.lt_or_gt_of_ne h0 with h | h
  · have := new_neg (top := a) h
    rw [← this.1, ← this.2]
    exact ⟨rl_tdiv ha, rl_tdiv hb⟩
  · have := new_pos (top := a) h
    rw [← this.1, ← this.2]
    exact ⟨rl_tdiv ha, rl_tdiv hb⟩
theorem den_ne (q : Rat) : (q.den : Int) ≠ 0 := by have := q.den_nz; omega
theorem rat_add (a b : Rat) : ratOf (a.num * b.den + b.num * a.den) (a.den * b.den) = a + b := by
  unfold ratOf
  conv => rhs; rw [← Rat.num_divInt_den a, ← Rat.num_divInt_den b]
  rw [Rat.divInt_add_divInt _ _ (den_ne a) (den_ne b)]
theorem QB.add {a b : Rat} {n m k : Nat} (ha : QB a n) (hb : QB b m) (hk : n + m + 1 ≤ k) : QB (a + b) k := by
  rw [← rat_add]
  refine QB.divInt (rl_add (k := n + m) (rl_mul ha.1 hb.2 (Nat.le_refl _)) (rl_mul hb.1 ha.2 (by omega)) hk) (rl_mul ha.2 hb.2 (by omega)) ?_
  exact Int.mul_ne_zero (den_ne a) (den_ne b)
theorem QB.mul {a b : Rat} {n m k : Nat} (ha : QB a n) (hb : QB b m) (hk : n + m ≤ k) : QB (a * b) k := by
  rw [rat_mul]
  exact QB.divInt (rl_mul ha.1 hb.1 hk) (rl_mul ha.2 hb.2 hk) (Int.mul_ne_zero (den_ne a) (den_ne b))
end Go.Proofs.YtgcmogldiahdpaaGreatDoor
namespace Go.Proofs.YtgcmogldiahdpaaGreatDoor
open Go.RowKit Fm

theorem refOk_eq (x y : Int) : refOk x y = okNum x y := by
  unfold refOk okNum
  apply decide_eq_decide.2
  constructor
  · rintro ⟨a, b, c, d, e⟩; exact ⟨a, b, d, c, e⟩
  · rintro ⟨a, b, c, d, e⟩; exact ⟨a, b, d, c, e⟩
theorem refTo_q (x y : Int) (w : World) (h : okNum x y = true) :
    Calls Tryz.prog 42 #[.agg #[.int .i64 x, .int .i64 y]] w fun e w' => ∃ v, e = .returned v ∧ RQ w' v (ratOf x y) ∧ Up w w' := by
  have hb := ok_bounds h
  obtain ⟨e1, e2⟩ := ratOf_ok h
  unfold RQ
  rw [e1, e2]
  exact refTo_any x y w (by omega) (by omega) (by omega) (by omega)
theorem ok_QB {x y : Int} (h : okNum x y = true) : QB (ratOf x y) 3 := by
  have hb := ok_bounds h
  obtain ⟨e1, e2⟩ := ratOf_ok h
  unfold QB
  rw [e1, e2]
  exact ⟨rl_int (by omega) (by omega), rl_int (by omega) (by omega)⟩

end Go.Proofs.YtgcmogldiahdpaaGreatDoor
namespace Go.Proofs.YtgcmogldiahdpaaGreatDoor
open Go.RowKit Fm

/-- An address (nil for an empty list) at which the list of pairs lies. -/
def RdN (w : World) (A : Option Addr) (xs : List (Int × Int)) : Prop :=
  xs ≠ [] → ∃ b off, A = some ⟨b, off, none⟩ ∧ b < w.heap.size ∧ ∀ i (h : i < xs.length), w.cell? ⟨b, off + i * 2, none⟩ = some (.int .i64 xs[i].1) ∧ w.cell? ⟨b, off + i * 2 + 1, none⟩ = some (.int .i64 xs[i].2)
theorem RdN.up {w w' : World} {A : Option Addr} {xs : List (Int × Int)} (h : RdN w A xs) (hu : Up w w') : RdN w' A xs := fun hn => by
  obtain ⟨b, off, hA, hb, hc⟩ := h hn
  exact ⟨b, off, hA, Nat.lt_of_lt_of_le hb hu.size, fun i hi => ⟨(hu.cells.1 b _ hb).trans (hc i hi).1, (hu.cells.1 b _ hb).trans (hc i hi).2⟩⟩
theorem RdN.at_ {w : World} {A : Option Addr} {xs : List (Int × Int)} (h : RdN w A xs) {i : Nat} (hi : i < xs.length) : ∃ b off, A = some ⟨b, off, none⟩ ∧ b < w.heap.size ∧ w.cell? ⟨b, off + i * 2, none⟩ = some (.int .i64 xs[i].1) ∧ w.cell? ⟨b, off + i * 2 + 1, none⟩ = some (.int .i64 xs[i].2) := by
  obtain ⟨b, off, hA, hb, hc⟩ := h (by intro e; subst e; simp at hi)
  exact ⟨b, off, hA, hb, (hc i hi).1, (hc i hi).2⟩
theorem len_le {n c : Nat} (h : n ≤ c) (hm : c ≤ maxLen) : n ≤ 9223372036854775807 := by
  unfold maxLen at hm; omega
/-- Whether all pairs of a list are numbers. -/
def okAll (xs : List (Int × Int)) : Bool := xs.all fun p => okNum p.1 p.2

set_option maxHeartbeats 1000000 in
set_option maxRecDepth 10000 in
theorem refAll_any (A : Option Addr) (c : Nat) (xs : List (Int × Int)) (w : World) (hc : xs.length ≤ c) (hcm : c ≤ maxLen) (hr : RdN w A xs) (hx : ∀ p, p ∈ xs → Rng p.1 p.2) :
    Calls Tryz.prog 82 #[.slice A xs.length c] w fun e w' => e = .returned (.bool (okAll xs)) ∧ Up w w' := by
  have hlen := len_le hc hcm
  clear hcm hc
  go_enter Tryz.func82, Tryz.ntmps82
  go_wp2
  go_loopw [7] (fun i wr => ∃ k : Nat, k ≤ xs.length ∧ i = .int .i64 k ∧ Hid (okAll (xs.take k) = true) ∧ Up w wr) (fun i _ => xs.length - (intOf i).toNat)
  case atStart => exact ⟨0, by omega, rfl, rfl, Up.refl _⟩
  case round =>
    obtain ⟨k, hk, rfl, HK, hup⟩ := hrel
    have HU := Lib.hid hup
    have hrA := hr.up hup
    clear hup
    by_cases hkl : k < xs.length
    · obtain ⟨b, off, rfl, hbb, hcell⟩ := hrA.at_ hkl
      have hR := hx xs[k] (List.getElem_mem hkl)
      obtain ⟨x, hxx⟩ : ∃ x, x = xs[k].1 := ⟨_, rfl⟩
      obtain ⟨y, hyy⟩ : ∃ y, y = xs[k].2 := ⟨_, rfl⟩
      rw [← hxx, ← hyy] at hcell hR
      obtain ⟨c0, c1⟩ := hcell
      have HV := Lib.hid (fun W => refValid_any x y W hR.1 hR.2.1 hR.2.2.1 hR.2.2.2)
      rw [refOk_eq] at HV
      have HNEXT : Hid (okAll (xs.take (k + 1)) = okNum x y) := by
        unfold Hid
        rw [hxx, hyy]
        have := HK.out
        unfold okAll at this ⊢
        rw [List.take_succ_eq_append_getElem hkl, List.all_append, this]
        simp
      have HFALSE : Hid (okNum x y = false → okAll xs = false) := Lib.hid (fun h => by
        rw [hxx, hyy] at h
        unfold okAll
        rw [List.all_eq_false]
        exact ⟨xs[k], List.getElem_mem hkl, by simp [h]⟩)
      clear hxx hyy hR hrA HK
      go_wp2_with fail
      have HUA := Lib.hid (Up.alloc wr (.cells #[.int .i64 x, .int .i64 y] 23))
      refine Calls.mono (HV.out _) ?_
      rintro e w1 ⟨rfl, hu1⟩
      have HU1 := Lib.hid hu1
      clear hu1 c0 c1 hbb hr
      rcases hv : okNum x y with _ | _
      · have HA := Lib.hid (HFALSE.out hv)
        clear HNEXT HFALSE hv
        go_wp2
        go_ret
        exact ⟨by rw [HA.out]; rfl, by (repeat (first | exact Below.refl _ _ | exact Go.RowKit.Hid.out (by assumption) | refine Up.trans ?_ (Up.drew _) | refine Up.trans ?_ (Up.drewN _ _) | refine Up.trans ?_ (Up.alloc _ _) | refine Up.trans ?_ (Go.RowKit.Hid.out (by assumption))))⟩
      · rw [hv] at HNEXT
        clear HFALSE hv
        go_wp2_with fail
        go_roundw
        case rel => exact ⟨k + 1, hkl, by simp, HNEXT, by (repeat (first | exact Below.refl _ _ | exact Go.RowKit.Hid.out (by assumption) | refine Up.trans ?_ (Up.drew _) | refine Up.trans ?_ (Up.drewN _ _) | refine Up.trans ?_ (Up.alloc _ _) | refine Up.trans ?_ (Go.RowKit.Hid.out (by assumption))))⟩
        case measure => simp [intOf]; omega
    · have HE : Hid (okAll xs = true) := by
        have := HK.out
        rw [List.take_of_length_le (by omega)] at this
        exact this
      clear HK
      go_wp2
      go_ret
      exact ⟨by rw [HE.out]; rfl, HU.out⟩
end Go.Proofs.YtgcmogldiahdpaaGreatDoor
namespace Go.Proofs.YtgcmogldiahdpaaGreatDoor
open Go.RowKit Fm

theorem two_rdN (w : World) (x1 y1 x2 y2 : Int) : RdN (w.alloc (.cells #[.int .i64 x1, .int .i64 y1, .int .i64 x2, .int .i64 y2] 23)) (some ⟨w.heap.size, 0, none⟩) [(x1, y1), (x2, y2)] := fun _ => by
  have h := heap_alloc_new w (.cells #[.int .i64 x1, .int .i64 y1, .int .i64 x2, .int .i64 y2] 23)
  refine ⟨_, 0, rfl, ?_, fun i hi => ?_⟩
  · rcases Nat.lt_or_ge w.heap.size (w.alloc (.cells #[.int .i64 x1, .int .i64 y1, .int .i64 x2, .int .i64 y2] 23)).heap.size with h1 | h1
    · exact h1
    · rw [Array.getElem?_eq_none h1] at h; cases h
  · rcases i with _ | _ | i
    · exact ⟨by rw [cell_of_row _ _ _ _ _ _ h]; rfl, by rw [cell_of_row _ _ _ _ _ _ h]; rfl⟩
    · exact ⟨by rw [cell_of_row _ _ _ _ _ _ h]; rfl, by rw [cell_of_row _ _ _ _ _ _ h]; rfl⟩
    · simp at hi
      omega
end Go.Proofs.YtgcmogldiahdpaaGreatDoor
