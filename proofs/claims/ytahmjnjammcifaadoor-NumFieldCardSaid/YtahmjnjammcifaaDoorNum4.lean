import Derived.Test.YtahmjnjammcifaaDoorNum3
namespace Go.Proofs.YtahmjnjammcifaaDoor
open Go.RowKit Fm

theorem floor_neg {x y : Int} (hy : 0 < y) (h : x.tmod y < 0) : x.tdiv y - 1 = x / y := by
  have h1 := Int.mul_tdiv_add_tmod x y
  have h2 := Int.lt_tmod_of_pos x hy
  rw [eq_comm, Int.ediv_eq_iff_of_pos hy]
  have : (x.tdiv y - 1) * y = y * x.tdiv y - y := by rw [Int.sub_mul, Int.mul_comm]; simp
  constructor
  · rw [this]; omega
  · rw [this]; omega
theorem floor_pos {x y : Int} (hy : 0 < y) (h : ¬ x.tmod y < 0) : x.tdiv y = x / y := by
  have h1 := Int.mul_tdiv_add_tmod x y
  have h2 := Int.tmod_lt_of_pos x hy
  rw [eq_comm, Int.ediv_eq_iff_of_pos hy]
  have : x.tdiv y * y = y * x.tdiv y := Int.mul_comm _ _
  constructor
  · rw [this]; omega
  · rw [this]; omega

set_option maxRecDepth 10000 in
theorem floor_any (x y : Int) (w : World) (hx1 : -1152921504606846976 ≤ x) (hx2 : x ≤ 1152921504606846976) (hy : 0 < y) :
    Calls Tryd.prog 34 #[.agg #[.int .i64 x, .int .i64 y]] w fun e w' => e = .returned (.int .i64 (x / y)) ∧ Up w w' := by
  have hb : (x.tdiv y).natAbs ≤ x.natAbs := by rw [Int.natAbs_tdiv]; exact Nat.div_le_self _ _
  have HW := Lib.hid (show wrap64 (x.tdiv y) = x.tdiv y by unfold wrap64; omega)
  have HW1 := Lib.hid (show wrap64 (x.tdiv y - 1) = x.tdiv y - 1 by unfold wrap64; omega)
  have hz : (y == 0) = false := by simp; omega
  have hz' : y ≠ 0 := by omega
  by_cases h : x.tmod y < 0
  · have HF := Lib.hid (floor_neg hy h)
    clear hb hx1 hx2 hy
    go_enter Tryd.func34, Tryd.ntmps34
    go_wp2
    refine bodyPost_ret (by simp [results, Tryd.results34, go_sem]; try rfl) rfl ?_
    exact ⟨ret_int (by first | rw [HW.out, HW1.out, HF.out] | rw [HW1.out, HF.out] | rw [HF.out]), Up.alloc _ _⟩
  · have HF := Lib.hid (floor_pos hy h)
    have hd : decide (x.tmod y < 0) = false := decide_eq_false h
    clear hb hx1 hx2 hy
    go_enter Tryd.func34, Tryd.ntmps34
    go_wp2
    refine bodyPost_ret (by simp [results, Tryd.results34, go_sem]; try rfl) rfl ?_
    exact ⟨ret_int (by first | rw [HW.out, HF.out] | rw [HF.out]), Up.alloc _ _⟩

set_option maxRecDepth 10000 in
theorem negative_any (x y : Int) (w : World) (hx1 : -1152921504606846976 ≤ x) (hx2 : x ≤ 1152921504606846976) :
    Calls Tryd.prog 43 #[.agg #[.int .i64 x, .int .i64 y]] w fun e w' => e = .returned (.agg #[.int .i64 (-x), .int .i64 y]) ∧ Up w w' := by
  go_enter Tryd.func43, Tryd.ntmps43
  go_wp2
  refine bodyPost_ret (by simp [results, Tryd.results43, go_sem]; try rfl) rfl ?_
  exact ⟨rfl, (Up.alloc _ _).trans (Up.alloc _ _)⟩

set_option maxRecDepth 10000 in
theorem ceil_any (x y : Int) (w : World) (hx1 : -1152921504606846976 ≤ x) (hx2 : x ≤ 1152921504606846976) (hy : 0 < y) :
    Calls Tryd.prog 37 #[.agg #[.int .i64 x, .int .i64 y]] w fun e w' => e = .returned (.int .i64 (-(-x / y))) ∧ Up w w' := by
  have HN := Lib.hid (fun W => negative_any x y W hx1 hx2)
  have HF := Lib.hid (fun W => floor_any (-x) y W (by omega) (by omega) hy)
  have hb1 : (-x / y).natAbs ≤ 1152921504606846977 := by
    by_cases h : (-x).tmod y < 0
    · rw [← floor_neg hy h]
      have hb : ((-x).tdiv y).natAbs ≤ (-x).natAbs := by rw [Int.natAbs_tdiv]; exact Nat.div_le_self _ _
      omega
    · rw [← floor_pos hy h]
      have hb : ((-x).tdiv y).natAbs ≤ (-x).natAbs := by rw [Int.natAbs_tdiv]; exact Nat.div_le_self _ _
      omega
  obtain ⟨z, hz⟩ : ∃ z, z = -x / y := ⟨_, rfl⟩
  rw [← hz] at hb1 HF ⊢
  have hz1 : -1152921504606846977 ≤ z := by omega
  have hz2 : z ≤ 1152921504606846977 := by omega
  clear hz hb1
  clear hx1 hx2 hy
  go_enter Tryd.func37, Tryd.ntmps37
  go_wp2_with fail
  refine Calls.mono (HN.out _) ?_
  rintro e w1 ⟨rfl, hu1⟩
  have HU1 := Lib.hid hu1
  clear hu1
  go_wp2_with fail
  refine Calls.mono (HF.out _) ?_
  rintro e w2 ⟨rfl, hu2⟩
  have HU2 := Lib.hid hu2
  clear hu2
  go_wp2
  refine bodyPost_ret (by simp [results, Tryd.results37, go_sem]; try rfl) rfl ?_
  exact ⟨ret_int (by first | rfl | omega | (unfold wrap64; omega)), by (repeat (first | exact Below.refl _ _ | exact Go.RowKit.Hid.out (by assumption) | refine Up.trans ?_ (Up.drew _) | refine Up.trans ?_ (Up.drewN _ _) | refine Up.trans ?_ (Up.alloc _ _) | refine Up.trans ?_ (Go.RowKit.Hid.out (by assumption))))⟩
end Go.Proofs.YtahmjnjammcifaaDoor
