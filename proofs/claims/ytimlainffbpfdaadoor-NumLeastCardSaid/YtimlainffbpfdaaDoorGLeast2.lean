/- Walks of a law. -/
import Derived.Test.YtimlainffbpfdaaDoorGLeast1
namespace Go.Proofs.YtimlainffbpfdaaDoor
open Go.RowKit Fm

theorem to_hid (x y : Int) (h : okNum x y = true) : Hid (∀ W, Calls Tryd.prog 18 #[.agg #[.int .i64 x, .int .i64 y]] W fun e w' => ∃ v, e = .returned v ∧ RQ w' v (ratOf x y) ∧ Up W w') :=
  Lib.hid fun W => refTo_q x y W h
theorem valid_hid (x y : Int) (h : Rng x y) (b : Bool) (hb : okNum x y = b) : Hid (∀ W, Calls Tryd.prog 17 #[.agg #[.int .i64 x, .int .i64 y]] W fun e w' => e = .returned (.bool b) ∧ Up W w') :=
  Lib.hid fun W => by
    have := refValid_any x y W h.1 h.2.1 h.2.2.1 h.2.2.2
    rw [refOk_eq, hb] at this
    exact this
theorem cmp_hid (x y x' y' : Int) (h : okNum x y = true) (h' : okNum x' y' = true) : Hid (∀ W u1 u2, RQ W u1 (ratOf x y) → RQ W u2 (ratOf x' y') → Calls Tryd.prog 19 #[u1, u2] W fun e w' => e = .returned (.int .i64 (x * y' - x' * y).sign) ∧ Up W w') :=
  Lib.hid fun W u1 u2 k1 k2 => by
    have := refRatCompare_q u1 u2 _ _ 3 3 W k1 k2 (ok_QB h) (ok_QB h') (by omega)
    rw [sub_sign, (ratOf_ok h).1, (ratOf_ok h).2, (ratOf_ok h').1, (ratOf_ok h').2] at this
    exact this
theorem not_sign {z : Int} (h : z ≤ 0) : ¬ 0 < z.sign := fun h1 => by have := Int.sign_pos_iff.1 h1; omega

set_option maxRecDepth 10000 in
theorem numLeast_any (x1 y1 x2 y2 z1 z2 : Int) (w : World) (ha : Rng x1 y1) (hb : Rng x2 y2) (hc : Rng z1 z2) (ht : Tab w) :
    Calls Tryd.prog 5 #[.agg #[.int .i64 x1, .int .i64 y1], .agg #[.int .i64 x2, .int .i64 y2], .agg #[.int .i64 z1, .int .i64 z2]] w fun e w' => e = .returned (.bool true) ∧ Up w w' := by
  have HW := Lib.hid (fun W (hu : Up w W) => awake_any W (ht.up hu))
  obtain ⟨X, Y, E, hB, HB⟩ := numBetween_any x1 y1 x2 y2 w ha hb ht
  by_cases hE : E = 0
  · obtain ⟨k1, k2, k3, l1, l2, lm⟩ := hB.least hE
    subst hE
    have bX := ok_bounds k3
    rcases hz : okNum z1 z2 with _ | _
    · exact least_inv _ _ x1 y1 x2 y2 z1 z2 X Y w HB HW (to_hid _ _ k1) (to_hid _ _ k2) (to_hid _ _ k3) (valid_hid _ _ hB.rng _ k3) (cmp_hid _ _ _ _ k1 k3) (cmp_hid _ _ _ _ k3 k2) (not_sign l1) (not_sign l2) (valid_hid _ _ hc _ hz)
    · have bz := ok_bounds hz
      by_cases h3 : 0 < x1 * z2 - z1 * y1
      · exact least_low _ _ _ x1 y1 x2 y2 z1 z2 X Y w HB HW (to_hid _ _ k1) (to_hid _ _ k2) (to_hid _ _ k3) (valid_hid _ _ hB.rng _ k3) (cmp_hid _ _ _ _ k1 k3) (cmp_hid _ _ _ _ k3 k2) (not_sign l1) (not_sign l2) (valid_hid _ _ hc _ hz) (to_hid _ _ hz) (cmp_hid _ _ _ _ k1 hz) (Int.sign_pos_iff.2 h3)
      · by_cases h4 : 0 < z1 * y2 - x2 * z2
        · exact least_high _ _ _ _ x1 y1 x2 y2 z1 z2 X Y w HB HW (to_hid _ _ k1) (to_hid _ _ k2) (to_hid _ _ k3) (valid_hid _ _ hB.rng _ k3) (cmp_hid _ _ _ _ k1 k3) (cmp_hid _ _ _ _ k3 k2) (not_sign l1) (not_sign l2) (valid_hid _ _ hc _ hz) (to_hid _ _ hz) (cmp_hid _ _ _ _ k1 hz) (cmp_hid _ _ _ _ hz k2) (not_sign (by omega)) (Int.sign_pos_iff.2 h4)
        · exact least_in _ _ _ _ x1 y1 x2 y2 z1 z2 X Y w HB HW (to_hid _ _ k1) (to_hid _ _ k2) (to_hid _ _ k3) (valid_hid _ _ hB.rng _ k3) (cmp_hid _ _ _ _ k1 k3) (cmp_hid _ _ _ _ k3 k2) (not_sign l1) (not_sign l2) (valid_hid _ _ hc _ hz) (to_hid _ _ hz) (cmp_hid _ _ _ _ k1 hz) (cmp_hid _ _ _ _ hz k2) (not_sign (by omega)) (not_sign (by omega))
            ⟨by omega, by omega⟩ ⟨by omega, by omega⟩ (lm z1 z2 (by omega) (by omega) (by omega))
  · exact least_err x1 y1 x2 y2 z1 z2 X Y E w HB HW (by simp [hE])
end Go.Proofs.YtimlainffbpfdaaDoor
