/- Walks of a law. -/
import Derived.Test.YtimlainffbpfdaaDoorGR
import Derived.Test.YtimlainffbpfdaaDoorGQ
namespace Go.Proofs.YtimlainffbpfdaaDoor
open Go.RowKit Fm

set_option maxHeartbeats 8000000 in
set_option maxRecDepth 10000 in
theorem refBetween_arg (x1 y1 x2 y2 : Int) (w : World) (h1 : Rng x1 y1) (h2 : Rng x2 y2) (hk : (okNum x1 y1 && okNum x2 y2) = false) :
    Calls Tryd.prog 16 #[.agg #[.int .i64 x1, .int .i64 y1], .agg #[.int .i64 x2, .int .i64 y2]] w fun e w' => e = .returned (.tuple #[.agg #[.int .i64 0, .int .i64 0], .int .i64 1]) ∧ Up w w' := by
  obtain ⟨wB, hwB, hn1, hn2, hr, hu0, hall⟩ := startAll w x1 y1 x2 y2 h1 h2
  rw [hk] at hall
  have HALL := Lib.hid hall
  have HN1 := Lib.hid hn1
  have HN2 := Lib.hid hn2
  have HR := Lib.hid hr
  have HU := Lib.hid hu0
  have HWB := Lib.hid hwB
  clear hk hall hn1 hn2 hr hu0 hwB
  go_enter Tryd.func16, Tryd.ntmps16
  go_wp2_with fail
  rw [HWB.out]
  refine Calls.mono HALL.out ?_
  rintro e w1 ⟨rfl, hu1⟩
  have HU1 := Lib.hid hu1
  clear hu1 HWB HALL
  have HR8 := Lib.hid (HR.out.up (w' := w1) (by (repeat (first | exact Below.refl _ _ | exact Go.RowKit.Hid.out (by assumption) | refine Up.trans ?_ (Up.drew _) | refine Up.trans ?_ (Up.drewN _ _) | refine Up.trans ?_ (Up.alloc _ _) | refine Up.trans ?_ (Go.RowKit.Hid.out (by assumption))))))
  obtain ⟨r0, r1, g0, g1, lr⟩ := HR8.out.facts
  have HFF := Lib.hid ((HR8.out.set 0 0).facts)
  have HUF := Lib.hid ((show Up w w1 by (repeat (first | exact Below.refl _ _ | exact Go.RowKit.Hid.out (by assumption) | refine Up.trans ?_ (Up.drew _) | refine Up.trans ?_ (Up.drewN _ _) | refine Up.trans ?_ (Up.alloc _ _) | refine Up.trans ?_ (Go.RowKit.Hid.out (by assumption))))).stored (show w.heap.size ≤ w.heap.size + 1 + 1 by omega) (.int .i64 0) (.int .i64 0))
  go_wp2
  obtain ⟨z0, z1, -, -, -⟩ := HFF.out
  refine bodyPost_ret (by simp [results, Tryd.results16, go_sem, z0, z1]; try rfl) rfl ?_
  exact ⟨rfl, HUF.out⟩

set_option maxHeartbeats 8000000 in
set_option maxRecDepth 10000 in
theorem refBetween_range (x1 y1 x2 y2 : Int) (w : World) (hk1 : okNum x1 y1 = true) (hk2 : okNum x2 y2 = true) (hgt : 0 < x1 * y2 - x2 * y1) :
    Calls Tryd.prog 16 #[.agg #[.int .i64 x1, .int .i64 y1], .agg #[.int .i64 x2, .int .i64 y2]] w fun e w' => e = .returned (.tuple #[.agg #[.int .i64 0, .int .i64 0], .int .i64 6]) ∧ Up w w' := by
  have h1 : Rng x1 y1 := by have := ok_bounds hk1; exact ⟨by omega, by omega, by omega, by omega⟩
  have h2 : Rng x2 y2 := by have := ok_bounds hk2; exact ⟨by omega, by omega, by omega, by omega⟩
  have hk : (okNum x1 y1 && okNum x2 y2) = true := by rw [hk1, hk2]; rfl
  have HTa := Lib.hid (fun W => refTo_q x1 y1 W hk1)
  have HTb := Lib.hid (fun W => refTo_q x2 y2 W hk2)
  obtain ⟨sg, hsg⟩ : ∃ sg, sg = (ratOf x1 y1 - ratOf x2 y2).num.sign := ⟨_, rfl⟩
  have HC := Lib.hid (fun W u1 u2 (k1 : RQ W u1 (ratOf x1 y1)) (k2 : RQ W u2 (ratOf x2 y2)) => refRatCompare_q u1 u2 _ _ 3 3 W k1 k2 (ok_QB hk1) (ok_QB hk2) (by omega))
  rw [← hsg] at HC
  rw [sub_sign, (ratOf_ok hk1).1, (ratOf_ok hk1).2, (ratOf_ok hk2).1, (ratOf_ok hk2).2] at hsg
  have hsg0 : 0 < sg := by rw [hsg]; exact Int.sign_pos_iff.2 hgt
  clear hgt
  clear hk1 hk2 hsg
  obtain ⟨wB, hwB, hn1, hn2, hr, hu0, hall⟩ := startAll w x1 y1 x2 y2 h1 h2
  rw [hk] at hall
  have HALL := Lib.hid hall
  have HN1 := Lib.hid hn1
  have HN2 := Lib.hid hn2
  have HR := Lib.hid hr
  have HU := Lib.hid hu0
  have HWB := Lib.hid hwB
  clear hk hall hn1 hn2 hr hu0 hwB
  go_enter Tryd.func16, Tryd.ntmps16
  go_wp2_with fail
  rw [HWB.out]
  refine Calls.mono HALL.out ?_
  rintro e w1 ⟨rfl, hu1⟩
  have HU1 := Lib.hid hu1
  clear hu1 HWB HALL
  go_upto_region 3 with fail
  obtain ⟨a0, a1, -, -, la⟩ := (HN1.out.up (w' := w1) (by (repeat (first | exact Below.refl _ _ | exact Go.RowKit.Hid.out (by assumption) | refine Up.trans ?_ (Up.drew _) | refine Up.trans ?_ (Up.drewN _ _) | refine Up.trans ?_ (Up.alloc _ _) | refine Up.trans ?_ (Go.RowKit.Hid.out (by assumption)))))).facts
  obtain ⟨b0, b1, -, -, lb⟩ := (HN2.out.up (w' := w1) (by (repeat (first | exact Below.refl _ _ | exact Go.RowKit.Hid.out (by assumption) | refine Up.trans ?_ (Up.drew _) | refine Up.trans ?_ (Up.drewN _ _) | refine Up.trans ?_ (Up.alloc _ _) | refine Up.trans ?_ (Go.RowKit.Hid.out (by assumption)))))).facts
  go_region_held3 (fun w' => w'.cell? ⟨w.heap.size, 0, none⟩ = some (.int .i64 x1) ∧ w'.cell? ⟨w.heap.size, 1, none⟩ = some (.int .i64 y1) ∧ w'.cell? ⟨w.heap.size + 1, 0, none⟩ = some (.int .i64 x2) ∧ w'.cell? ⟨w.heap.size + 1, 1, none⟩ = some (.int .i64 y2)) (go_keep)
    ((first
      | (have HGUARD := HVw3; go_at_call 19
         refine Calls.mono (HC.out _ _ _ (HVw2.out.up (by (repeat (first | exact Below.refl _ _ | exact Go.RowKit.Hid.out (by assumption) | refine Up.trans ?_ (Up.drew _) | refine Up.trans ?_ (Up.drewN _ _) | refine Up.trans ?_ (Up.alloc _ _) | refine Up.trans ?_ (Go.RowKit.Hid.out (by assumption)))))) (HVw3.out.up (by (repeat (first | exact Below.refl _ _ | exact Go.RowKit.Hid.out (by assumption) | refine Up.trans ?_ (Up.drew _) | refine Up.trans ?_ (Up.drewN _ _) | refine Up.trans ?_ (Up.alloc _ _) | refine Up.trans ?_ (Go.RowKit.Hid.out (by assumption))))))) ?_
         rintro e w4 ⟨rfl, hu⟩
         have HUw4 := Lib.hid hu
         clear hu
         obtain ⟨a0, a1, -, -, la⟩ := (HN1.out.up (w' := w4) (by (repeat (first | exact Below.refl _ _ | exact Go.RowKit.Hid.out (by assumption) | refine Up.trans ?_ (Up.drew _) | refine Up.trans ?_ (Up.drewN _ _) | refine Up.trans ?_ (Up.alloc _ _) | refine Up.trans ?_ (Go.RowKit.Hid.out (by assumption)))))).facts
         obtain ⟨b0, b1, -, -, lb⟩ := (HN2.out.up (w' := w4) (by (repeat (first | exact Below.refl _ _ | exact Go.RowKit.Hid.out (by assumption) | refine Up.trans ?_ (Up.drew _) | refine Up.trans ?_ (Up.drewN _ _) | refine Up.trans ?_ (Up.alloc _ _) | refine Up.trans ?_ (Go.RowKit.Hid.out (by assumption)))))).facts)
      | (have HGUARD := HVw2; go_at_call_of 18 (Value.agg #[.int .i64 x2, .int .i64 y2])
         refine Calls.mono (HTb.out _) ?_
         rintro e w3 ⟨v, rfl, hv, hu⟩
         have HUw3 := Lib.hid hu
         have HVw3 := Lib.hid hv
         clear hu hv
         obtain ⟨a0, a1, -, -, la⟩ := (HN1.out.up (w' := w3) (by (repeat (first | exact Below.refl _ _ | exact Go.RowKit.Hid.out (by assumption) | refine Up.trans ?_ (Up.drew _) | refine Up.trans ?_ (Up.drewN _ _) | refine Up.trans ?_ (Up.alloc _ _) | refine Up.trans ?_ (Go.RowKit.Hid.out (by assumption)))))).facts
         obtain ⟨b0, b1, -, -, lb⟩ := (HN2.out.up (w' := w3) (by (repeat (first | exact Below.refl _ _ | exact Go.RowKit.Hid.out (by assumption) | refine Up.trans ?_ (Up.drew _) | refine Up.trans ?_ (Up.drewN _ _) | refine Up.trans ?_ (Up.alloc _ _) | refine Up.trans ?_ (Go.RowKit.Hid.out (by assumption)))))).facts)
      | (go_at_call_of 18 (Value.agg #[.int .i64 x1, .int .i64 y1])
         refine Calls.mono (HTa.out _) ?_
         rintro e w2 ⟨v, rfl, hv, hu⟩
         have HUw2 := Lib.hid hu
         have HVw2 := Lib.hid hv
         clear hu hv
         obtain ⟨a0, a1, -, -, la⟩ := (HN1.out.up (w' := w2) (by (repeat (first | exact Below.refl _ _ | exact Go.RowKit.Hid.out (by assumption) | refine Up.trans ?_ (Up.drew _) | refine Up.trans ?_ (Up.drewN _ _) | refine Up.trans ?_ (Up.alloc _ _) | refine Up.trans ?_ (Go.RowKit.Hid.out (by assumption)))))).facts
         obtain ⟨b0, b1, -, -, lb⟩ := (HN2.out.up (w' := w2) (by (repeat (first | exact Below.refl _ _ | exact Go.RowKit.Hid.out (by assumption) | refine Up.trans ?_ (Up.drew _) | refine Up.trans ?_ (Up.drewN _ _) | refine Up.trans ?_ (Up.alloc _ _) | refine Up.trans ?_ (Go.RowKit.Hid.out (by assumption)))))).facts)))
  have HR8 := Lib.hid (HR.out.up (w' := w4) (by (repeat (first | exact Below.refl _ _ | exact Go.RowKit.Hid.out (by assumption) | refine Up.trans ?_ (Up.drew _) | refine Up.trans ?_ (Up.drewN _ _) | refine Up.trans ?_ (Up.alloc _ _) | refine Up.trans ?_ (Go.RowKit.Hid.out (by assumption))))))
  obtain ⟨r0, r1, g0, g1, lr⟩ := HR8.out.facts
  have HFF := Lib.hid ((HR8.out.set 0 0).facts)
  have HUF := Lib.hid ((show Up w w4 by (repeat (first | exact Below.refl _ _ | exact Go.RowKit.Hid.out (by assumption) | refine Up.trans ?_ (Up.drew _) | refine Up.trans ?_ (Up.drewN _ _) | refine Up.trans ?_ (Up.alloc _ _) | refine Up.trans ?_ (Go.RowKit.Hid.out (by assumption))))).stored (show w.heap.size ≤ w.heap.size + 1 + 1 by omega) (.int .i64 0) (.int .i64 0))
  go_wp2
  obtain ⟨z0, z1, -, -, -⟩ := HFF.out
  refine bodyPost_ret (by simp [results, Tryd.results16, go_sem, z0, z1]; try rfl) rfl ?_
  exact ⟨rfl, HUF.out⟩

set_option maxHeartbeats 8000000 in
set_option maxRecDepth 10000 in
theorem refBetween_zero (x1 y1 x2 y2 : Int) (w : World) (hk1 : okNum x1 y1 = true) (hk2 : okNum x2 y2 = true) (hle : x1 * y2 - x2 * y1 ≤ 0) (hp : ¬ 0 < x1) (hq : ¬ x2 < 0) :
    Calls Tryd.prog 16 #[.agg #[.int .i64 x1, .int .i64 y1], .agg #[.int .i64 x2, .int .i64 y2]] w fun e w' => e = .returned (.tuple #[.agg #[.int .i64 0, .int .i64 1], .int .i64 0]) ∧ Up w w' := by
  have h1 : Rng x1 y1 := by have := ok_bounds hk1; exact ⟨by omega, by omega, by omega, by omega⟩
  have h2 : Rng x2 y2 := by have := ok_bounds hk2; exact ⟨by omega, by omega, by omega, by omega⟩
  have hk : (okNum x1 y1 && okNum x2 y2) = true := by rw [hk1, hk2]; rfl
  have HTa := Lib.hid (fun W => refTo_q x1 y1 W hk1)
  have HTb := Lib.hid (fun W => refTo_q x2 y2 W hk2)
  obtain ⟨sg, hsg⟩ : ∃ sg, sg = (ratOf x1 y1 - ratOf x2 y2).num.sign := ⟨_, rfl⟩
  have HC := Lib.hid (fun W u1 u2 (k1 : RQ W u1 (ratOf x1 y1)) (k2 : RQ W u2 (ratOf x2 y2)) => refRatCompare_q u1 u2 _ _ 3 3 W k1 k2 (ok_QB hk1) (ok_QB hk2) (by omega))
  rw [← hsg] at HC
  rw [sub_sign, (ratOf_ok hk1).1, (ratOf_ok hk1).2, (ratOf_ok hk2).1, (ratOf_ok hk2).2] at hsg
  have hsg0 : ¬ 0 < sg := by
    rw [hsg]; intro h; have := Int.sign_pos_iff.1 h; omega
  have hsd : decide (0 < sg) = false := decide_eq_false hsg0
  have hp' : x1 ≤ 0 := by omega
  have hq' : 0 ≤ x2 := by omega
  clear hle hp hq
  clear hk1 hk2 hsg
  obtain ⟨wB, hwB, hn1, hn2, hr, hu0, hall⟩ := startAll w x1 y1 x2 y2 h1 h2
  rw [hk] at hall
  have HALL := Lib.hid hall
  have HN1 := Lib.hid hn1
  have HN2 := Lib.hid hn2
  have HR := Lib.hid hr
  have HU := Lib.hid hu0
  have HWB := Lib.hid hwB
  clear hk hall hn1 hn2 hr hu0 hwB
  go_enter Tryd.func16, Tryd.ntmps16
  go_wp2_with fail
  rw [HWB.out]
  refine Calls.mono HALL.out ?_
  rintro e w1 ⟨rfl, hu1⟩
  have HU1 := Lib.hid hu1
  clear hu1 HWB HALL
  go_upto_region 3 with fail
  obtain ⟨a0, a1, -, -, la⟩ := (HN1.out.up (w' := w1) (by (repeat (first | exact Below.refl _ _ | exact Go.RowKit.Hid.out (by assumption) | refine Up.trans ?_ (Up.drew _) | refine Up.trans ?_ (Up.drewN _ _) | refine Up.trans ?_ (Up.alloc _ _) | refine Up.trans ?_ (Go.RowKit.Hid.out (by assumption)))))).facts
  obtain ⟨b0, b1, -, -, lb⟩ := (HN2.out.up (w' := w1) (by (repeat (first | exact Below.refl _ _ | exact Go.RowKit.Hid.out (by assumption) | refine Up.trans ?_ (Up.drew _) | refine Up.trans ?_ (Up.drewN _ _) | refine Up.trans ?_ (Up.alloc _ _) | refine Up.trans ?_ (Go.RowKit.Hid.out (by assumption)))))).facts
  go_region_held3 (fun w' => w'.cell? ⟨w.heap.size, 0, none⟩ = some (.int .i64 x1) ∧ w'.cell? ⟨w.heap.size, 1, none⟩ = some (.int .i64 y1) ∧ w'.cell? ⟨w.heap.size + 1, 0, none⟩ = some (.int .i64 x2) ∧ w'.cell? ⟨w.heap.size + 1, 1, none⟩ = some (.int .i64 y2)) (go_keep)
    ((first
      | (have HGUARD := HVw3; go_at_call 19
         refine Calls.mono (HC.out _ _ _ (HVw2.out.up (by (repeat (first | exact Below.refl _ _ | exact Go.RowKit.Hid.out (by assumption) | refine Up.trans ?_ (Up.drew _) | refine Up.trans ?_ (Up.drewN _ _) | refine Up.trans ?_ (Up.alloc _ _) | refine Up.trans ?_ (Go.RowKit.Hid.out (by assumption)))))) (HVw3.out.up (by (repeat (first | exact Below.refl _ _ | exact Go.RowKit.Hid.out (by assumption) | refine Up.trans ?_ (Up.drew _) | refine Up.trans ?_ (Up.drewN _ _) | refine Up.trans ?_ (Up.alloc _ _) | refine Up.trans ?_ (Go.RowKit.Hid.out (by assumption))))))) ?_
         rintro e w4 ⟨rfl, hu⟩
         have HUw4 := Lib.hid hu
         clear hu
         obtain ⟨a0, a1, -, -, la⟩ := (HN1.out.up (w' := w4) (by (repeat (first | exact Below.refl _ _ | exact Go.RowKit.Hid.out (by assumption) | refine Up.trans ?_ (Up.drew _) | refine Up.trans ?_ (Up.drewN _ _) | refine Up.trans ?_ (Up.alloc _ _) | refine Up.trans ?_ (Go.RowKit.Hid.out (by assumption)))))).facts
         obtain ⟨b0, b1, -, -, lb⟩ := (HN2.out.up (w' := w4) (by (repeat (first | exact Below.refl _ _ | exact Go.RowKit.Hid.out (by assumption) | refine Up.trans ?_ (Up.drew _) | refine Up.trans ?_ (Up.drewN _ _) | refine Up.trans ?_ (Up.alloc _ _) | refine Up.trans ?_ (Go.RowKit.Hid.out (by assumption)))))).facts)
      | (have HGUARD := HVw2; go_at_call_of 18 (Value.agg #[.int .i64 x2, .int .i64 y2])
         refine Calls.mono (HTb.out _) ?_
         rintro e w3 ⟨v, rfl, hv, hu⟩
         have HUw3 := Lib.hid hu
         have HVw3 := Lib.hid hv
         clear hu hv
         obtain ⟨a0, a1, -, -, la⟩ := (HN1.out.up (w' := w3) (by (repeat (first | exact Below.refl _ _ | exact Go.RowKit.Hid.out (by assumption) | refine Up.trans ?_ (Up.drew _) | refine Up.trans ?_ (Up.drewN _ _) | refine Up.trans ?_ (Up.alloc _ _) | refine Up.trans ?_ (Go.RowKit.Hid.out (by assumption)))))).facts
         obtain ⟨b0, b1, -, -, lb⟩ := (HN2.out.up (w' := w3) (by (repeat (first | exact Below.refl _ _ | exact Go.RowKit.Hid.out (by assumption) | refine Up.trans ?_ (Up.drew _) | refine Up.trans ?_ (Up.drewN _ _) | refine Up.trans ?_ (Up.alloc _ _) | refine Up.trans ?_ (Go.RowKit.Hid.out (by assumption)))))).facts)
      | (go_at_call_of 18 (Value.agg #[.int .i64 x1, .int .i64 y1])
         refine Calls.mono (HTa.out _) ?_
         rintro e w2 ⟨v, rfl, hv, hu⟩
         have HUw2 := Lib.hid hu
         have HVw2 := Lib.hid hv
         clear hu hv
         obtain ⟨a0, a1, -, -, la⟩ := (HN1.out.up (w' := w2) (by (repeat (first | exact Below.refl _ _ | exact Go.RowKit.Hid.out (by assumption) | refine Up.trans ?_ (Up.drew _) | refine Up.trans ?_ (Up.drewN _ _) | refine Up.trans ?_ (Up.alloc _ _) | refine Up.trans ?_ (Go.RowKit.Hid.out (by assumption)))))).facts
         obtain ⟨b0, b1, -, -, lb⟩ := (HN2.out.up (w' := w2) (by (repeat (first | exact Below.refl _ _ | exact Go.RowKit.Hid.out (by assumption) | refine Up.trans ?_ (Up.drew _) | refine Up.trans ?_ (Up.drewN _ _) | refine Up.trans ?_ (Up.alloc _ _) | refine Up.trans ?_ (Go.RowKit.Hid.out (by assumption)))))).facts)))
  have HR8 := Lib.hid (HR.out.up (w' := w4) (by (repeat (first | exact Below.refl _ _ | exact Go.RowKit.Hid.out (by assumption) | refine Up.trans ?_ (Up.drew _) | refine Up.trans ?_ (Up.drewN _ _) | refine Up.trans ?_ (Up.alloc _ _) | refine Up.trans ?_ (Go.RowKit.Hid.out (by assumption))))))
  obtain ⟨r0, r1, g0, g1, lr⟩ := HR8.out.facts
  have HFF := Lib.hid ((HR8.out.set 0 1).facts)
  have HUF := Lib.hid ((show Up w w4 by (repeat (first | exact Below.refl _ _ | exact Go.RowKit.Hid.out (by assumption) | refine Up.trans ?_ (Up.drew _) | refine Up.trans ?_ (Up.drewN _ _) | refine Up.trans ?_ (Up.alloc _ _) | refine Up.trans ?_ (Go.RowKit.Hid.out (by assumption))))).stored (show w.heap.size ≤ w.heap.size + 1 + 1 by omega) (.int .i64 0) (.int .i64 1))
  go_wp2
  obtain ⟨z0, z1, -, -, -⟩ := HFF.out
  refine bodyPost_ret (by simp [results, Tryd.results16, go_sem, z0, z1]; try rfl) rfl ?_
  exact ⟨rfl, HUF.out⟩

set_option maxHeartbeats 8000000 in
set_option maxRecDepth 10000 in
theorem refBetween_pos (x1 y1 x2 y2 X Y : Int) (w : World) (hk1 : okNum x1 y1 = true) (hk2 : okNum x2 y2 = true) (hle : x1 * y2 - x2 * y1 ≤ 0) (hp : 0 < x1)
    (hrec : ∀ W u1 u2, RQ W u1 (ratOf x1 y1) → RQ W u2 (ratOf x2 y2) → Calls Tryd.prog 45 #[u1, u2] W fun e w' => ∃ v, e = .returned v ∧ RQ w' v (ratOf X Y) ∧ Up W w') (hX : okNum X Y = true) :
    Calls Tryd.prog 16 #[.agg #[.int .i64 x1, .int .i64 y1], .agg #[.int .i64 x2, .int .i64 y2]] w fun e w' => e = .returned (.tuple #[.agg #[.int .i64 X, .int .i64 Y], .int .i64 0]) ∧ Up w w' := by
  have h1 : Rng x1 y1 := by have := ok_bounds hk1; exact ⟨by omega, by omega, by omega, by omega⟩
  have h2 : Rng x2 y2 := by have := ok_bounds hk2; exact ⟨by omega, by omega, by omega, by omega⟩
  have hk : (okNum x1 y1 && okNum x2 y2) = true := by rw [hk1, hk2]; rfl
  have HTa := Lib.hid (fun W => refTo_q x1 y1 W hk1)
  have HTb := Lib.hid (fun W => refTo_q x2 y2 W hk2)
  obtain ⟨sg, hsg⟩ : ∃ sg, sg = (ratOf x1 y1 - ratOf x2 y2).num.sign := ⟨_, rfl⟩
  have HC := Lib.hid (fun W u1 u2 (k1 : RQ W u1 (ratOf x1 y1)) (k2 : RQ W u2 (ratOf x2 y2)) => refRatCompare_q u1 u2 _ _ 3 3 W k1 k2 (ok_QB hk1) (ok_QB hk2) (by omega))
  rw [← hsg] at HC
  rw [sub_sign, (ratOf_ok hk1).1, (ratOf_ok hk1).2, (ratOf_ok hk2).1, (ratOf_ok hk2).2] at hsg
  have hsg0 : ¬ 0 < sg := by
    rw [hsg]; intro h; have := Int.sign_pos_iff.1 h; omega
  have hsd : decide (0 < sg) = false := decide_eq_false hsg0
  have hpd : decide (x1 ≤ 0) = false := decide_eq_false (by omega)
  have hpd' : ¬ x1 ≤ 0 := by omega
  have HREC := Lib.hid hrec
  have HNUM := Lib.hid (fun W u (k : RQ W u (ratOf X Y)) => refNum_q u _ W k)
  rw [(num_self hX).1, (num_self hX).2.1, (num_self hX).2.2] at HNUM
  generalize ratOf X Y = q at *
  generalize ratOf x1 y1 = qa at *
  generalize ratOf x2 y2 = qb at *
  clear hle hrec hX
  clear hk1 hk2 hsg
  obtain ⟨wB, hwB, hn1, hn2, hr, hu0, hall⟩ := startAll w x1 y1 x2 y2 h1 h2
  rw [hk] at hall
  have HALL := Lib.hid hall
  have HN1 := Lib.hid hn1
  have HN2 := Lib.hid hn2
  have HR := Lib.hid hr
  have HU := Lib.hid hu0
  have HWB := Lib.hid hwB
  clear hk hall hn1 hn2 hr hu0 hwB
  go_enter Tryd.func16, Tryd.ntmps16
  go_wp2_with fail
  rw [HWB.out]
  refine Calls.mono HALL.out ?_
  rintro e w1 ⟨rfl, hu1⟩
  have HU1 := Lib.hid hu1
  clear hu1 HWB HALL
  go_upto_region 3 with fail
  obtain ⟨a0, a1, -, -, la⟩ := (HN1.out.up (w' := w1) (by (repeat (first | exact Below.refl _ _ | exact Go.RowKit.Hid.out (by assumption) | refine Up.trans ?_ (Up.drew _) | refine Up.trans ?_ (Up.drewN _ _) | refine Up.trans ?_ (Up.alloc _ _) | refine Up.trans ?_ (Go.RowKit.Hid.out (by assumption)))))).facts
  obtain ⟨b0, b1, -, -, lb⟩ := (HN2.out.up (w' := w1) (by (repeat (first | exact Below.refl _ _ | exact Go.RowKit.Hid.out (by assumption) | refine Up.trans ?_ (Up.drew _) | refine Up.trans ?_ (Up.drewN _ _) | refine Up.trans ?_ (Up.alloc _ _) | refine Up.trans ?_ (Go.RowKit.Hid.out (by assumption)))))).facts
  go_region_held3 (fun w' => w'.cell? ⟨w.heap.size, 0, none⟩ = some (.int .i64 x1) ∧ w'.cell? ⟨w.heap.size, 1, none⟩ = some (.int .i64 y1) ∧ w'.cell? ⟨w.heap.size + 1, 0, none⟩ = some (.int .i64 x2) ∧ w'.cell? ⟨w.heap.size + 1, 1, none⟩ = some (.int .i64 y2)) (go_keep)
    ((first
      | (have HGUARD := HVw3; go_at_call 19
         refine Calls.mono (HC.out _ _ _ (HVw2.out.up (by (repeat (first | exact Below.refl _ _ | exact Go.RowKit.Hid.out (by assumption) | refine Up.trans ?_ (Up.drew _) | refine Up.trans ?_ (Up.drewN _ _) | refine Up.trans ?_ (Up.alloc _ _) | refine Up.trans ?_ (Go.RowKit.Hid.out (by assumption)))))) (HVw3.out.up (by (repeat (first | exact Below.refl _ _ | exact Go.RowKit.Hid.out (by assumption) | refine Up.trans ?_ (Up.drew _) | refine Up.trans ?_ (Up.drewN _ _) | refine Up.trans ?_ (Up.alloc _ _) | refine Up.trans ?_ (Go.RowKit.Hid.out (by assumption))))))) ?_
         rintro e w4 ⟨rfl, hu⟩
         have HUw4 := Lib.hid hu
         clear hu
         obtain ⟨a0, a1, -, -, la⟩ := (HN1.out.up (w' := w4) (by (repeat (first | exact Below.refl _ _ | exact Go.RowKit.Hid.out (by assumption) | refine Up.trans ?_ (Up.drew _) | refine Up.trans ?_ (Up.drewN _ _) | refine Up.trans ?_ (Up.alloc _ _) | refine Up.trans ?_ (Go.RowKit.Hid.out (by assumption)))))).facts
         obtain ⟨b0, b1, -, -, lb⟩ := (HN2.out.up (w' := w4) (by (repeat (first | exact Below.refl _ _ | exact Go.RowKit.Hid.out (by assumption) | refine Up.trans ?_ (Up.drew _) | refine Up.trans ?_ (Up.drewN _ _) | refine Up.trans ?_ (Up.alloc _ _) | refine Up.trans ?_ (Go.RowKit.Hid.out (by assumption)))))).facts)
      | (have HGUARD := HVw2; go_at_call_of 18 (Value.agg #[.int .i64 x2, .int .i64 y2])
         refine Calls.mono (HTb.out _) ?_
         rintro e w3 ⟨v, rfl, hv, hu⟩
         have HUw3 := Lib.hid hu
         have HVw3 := Lib.hid hv
         clear hu hv
         obtain ⟨a0, a1, -, -, la⟩ := (HN1.out.up (w' := w3) (by (repeat (first | exact Below.refl _ _ | exact Go.RowKit.Hid.out (by assumption) | refine Up.trans ?_ (Up.drew _) | refine Up.trans ?_ (Up.drewN _ _) | refine Up.trans ?_ (Up.alloc _ _) | refine Up.trans ?_ (Go.RowKit.Hid.out (by assumption)))))).facts
         obtain ⟨b0, b1, -, -, lb⟩ := (HN2.out.up (w' := w3) (by (repeat (first | exact Below.refl _ _ | exact Go.RowKit.Hid.out (by assumption) | refine Up.trans ?_ (Up.drew _) | refine Up.trans ?_ (Up.drewN _ _) | refine Up.trans ?_ (Up.alloc _ _) | refine Up.trans ?_ (Go.RowKit.Hid.out (by assumption)))))).facts)
      | (go_at_call_of 18 (Value.agg #[.int .i64 x1, .int .i64 y1])
         refine Calls.mono (HTa.out _) ?_
         rintro e w2 ⟨v, rfl, hv, hu⟩
         have HUw2 := Lib.hid hu
         have HVw2 := Lib.hid hv
         clear hu hv
         obtain ⟨a0, a1, -, -, la⟩ := (HN1.out.up (w' := w2) (by (repeat (first | exact Below.refl _ _ | exact Go.RowKit.Hid.out (by assumption) | refine Up.trans ?_ (Up.drew _) | refine Up.trans ?_ (Up.drewN _ _) | refine Up.trans ?_ (Up.alloc _ _) | refine Up.trans ?_ (Go.RowKit.Hid.out (by assumption)))))).facts
         obtain ⟨b0, b1, -, -, lb⟩ := (HN2.out.up (w' := w2) (by (repeat (first | exact Below.refl _ _ | exact Go.RowKit.Hid.out (by assumption) | refine Up.trans ?_ (Up.drew _) | refine Up.trans ?_ (Up.drewN _ _) | refine Up.trans ?_ (Up.alloc _ _) | refine Up.trans ?_ (Go.RowKit.Hid.out (by assumption)))))).facts)))
  have hne1 : (w.heap.size = w.heap.size + 1 + 1) = False := by simp; omega
  have hne2 : (w.heap.size + 1 + 1 = w.heap.size) = False := by simp; omega
  clear a0 a1 la b0 b1 lb
  obtain ⟨a0, a1, -, -, la⟩ := (HN1.out.up (w' := w4) (by (repeat (first | exact Below.refl _ _ | exact Go.RowKit.Hid.out (by assumption) | refine Up.trans ?_ (Up.drew _) | refine Up.trans ?_ (Up.drewN _ _) | refine Up.trans ?_ (Up.alloc _ _) | refine Up.trans ?_ (Go.RowKit.Hid.out (by assumption)))))).facts
  obtain ⟨b0, b1, -, -, lb⟩ := (HN2.out.up (w' := w4) (by (repeat (first | exact Below.refl _ _ | exact Go.RowKit.Hid.out (by assumption) | refine Up.trans ?_ (Up.drew _) | refine Up.trans ?_ (Up.drewN _ _) | refine Up.trans ?_ (Up.alloc _ _) | refine Up.trans ?_ (Go.RowKit.Hid.out (by assumption)))))).facts
  go_upto_region 8 with fail
  go_region_held3 (fun w' => w'.cell? ⟨w.heap.size, 0, none⟩ = some (.int .i64 x1) ∧ w'.cell? ⟨w.heap.size, 1, none⟩ = some (.int .i64 y1) ∧ w'.cell? ⟨w.heap.size + 1, 0, none⟩ = some (.int .i64 x2) ∧ w'.cell? ⟨w.heap.size + 1, 1, none⟩ = some (.int .i64 y2)) (go_keep)
    ((first
      | (have HGUARD := HVw7; go_at_call 30
         refine Calls.mono (HNUM.out _ _ (HVw7.out.up (by (repeat (first | exact Below.refl _ _ | exact Go.RowKit.Hid.out (by assumption) | refine Up.trans ?_ (Up.drew _) | refine Up.trans ?_ (Up.drewN _ _) | refine Up.trans ?_ (Up.alloc _ _) | refine Up.trans ?_ (Go.RowKit.Hid.out (by assumption))))))) ?_
         rintro e w8 ⟨rfl, hu⟩
         have HUw8 := Lib.hid hu
         clear hu
         obtain ⟨a0, a1, -, -, la⟩ := (HN1.out.up (w' := w8) (by (repeat (first | exact Below.refl _ _ | exact Go.RowKit.Hid.out (by assumption) | refine Up.trans ?_ (Up.drew _) | refine Up.trans ?_ (Up.drewN _ _) | refine Up.trans ?_ (Up.alloc _ _) | refine Up.trans ?_ (Go.RowKit.Hid.out (by assumption)))))).facts
         obtain ⟨b0, b1, -, -, lb⟩ := (HN2.out.up (w' := w8) (by (repeat (first | exact Below.refl _ _ | exact Go.RowKit.Hid.out (by assumption) | refine Up.trans ?_ (Up.drew _) | refine Up.trans ?_ (Up.drewN _ _) | refine Up.trans ?_ (Up.alloc _ _) | refine Up.trans ?_ (Go.RowKit.Hid.out (by assumption)))))).facts
         have HR8 := Lib.hid (HR.out.up (w' := w8) (by (repeat (first | exact Below.refl _ _ | exact Go.RowKit.Hid.out (by assumption) | refine Up.trans ?_ (Up.drew _) | refine Up.trans ?_ (Up.drewN _ _) | refine Up.trans ?_ (Up.alloc _ _) | refine Up.trans ?_ (Go.RowKit.Hid.out (by assumption))))))
         obtain ⟨r0, r1, g0, g1, lr⟩ := HR8.out.facts)
      | (have HGUARD := HVw6; go_at_call 45
         refine Calls.mono (HREC.out _ _ _ (HVw5.out.up (by (repeat (first | exact Below.refl _ _ | exact Go.RowKit.Hid.out (by assumption) | refine Up.trans ?_ (Up.drew _) | refine Up.trans ?_ (Up.drewN _ _) | refine Up.trans ?_ (Up.alloc _ _) | refine Up.trans ?_ (Go.RowKit.Hid.out (by assumption)))))) (HVw6.out.up (by (repeat (first | exact Below.refl _ _ | exact Go.RowKit.Hid.out (by assumption) | refine Up.trans ?_ (Up.drew _) | refine Up.trans ?_ (Up.drewN _ _) | refine Up.trans ?_ (Up.alloc _ _) | refine Up.trans ?_ (Go.RowKit.Hid.out (by assumption))))))) ?_
         rintro e w7 ⟨v, rfl, hv, hu⟩
         have HUw7 := Lib.hid hu
         have HVw7 := Lib.hid hv
         clear hu hv
         obtain ⟨a0, a1, -, -, la⟩ := (HN1.out.up (w' := w7) (by (repeat (first | exact Below.refl _ _ | exact Go.RowKit.Hid.out (by assumption) | refine Up.trans ?_ (Up.drew _) | refine Up.trans ?_ (Up.drewN _ _) | refine Up.trans ?_ (Up.alloc _ _) | refine Up.trans ?_ (Go.RowKit.Hid.out (by assumption)))))).facts
         obtain ⟨b0, b1, -, -, lb⟩ := (HN2.out.up (w' := w7) (by (repeat (first | exact Below.refl _ _ | exact Go.RowKit.Hid.out (by assumption) | refine Up.trans ?_ (Up.drew _) | refine Up.trans ?_ (Up.drewN _ _) | refine Up.trans ?_ (Up.alloc _ _) | refine Up.trans ?_ (Go.RowKit.Hid.out (by assumption)))))).facts)
      | (have HGUARD := HVw5; go_at_call_of 18 (Value.agg #[.int .i64 x2, .int .i64 y2])
         refine Calls.mono (HTb.out _) ?_
         rintro e w6 ⟨v, rfl, hv, hu⟩
         have HUw6 := Lib.hid hu
         have HVw6 := Lib.hid hv
         clear hu hv
         obtain ⟨a0, a1, -, -, la⟩ := (HN1.out.up (w' := w6) (by (repeat (first | exact Below.refl _ _ | exact Go.RowKit.Hid.out (by assumption) | refine Up.trans ?_ (Up.drew _) | refine Up.trans ?_ (Up.drewN _ _) | refine Up.trans ?_ (Up.alloc _ _) | refine Up.trans ?_ (Go.RowKit.Hid.out (by assumption)))))).facts
         obtain ⟨b0, b1, -, -, lb⟩ := (HN2.out.up (w' := w6) (by (repeat (first | exact Below.refl _ _ | exact Go.RowKit.Hid.out (by assumption) | refine Up.trans ?_ (Up.drew _) | refine Up.trans ?_ (Up.drewN _ _) | refine Up.trans ?_ (Up.alloc _ _) | refine Up.trans ?_ (Go.RowKit.Hid.out (by assumption)))))).facts)
      | (go_at_call_of 18 (Value.agg #[.int .i64 x1, .int .i64 y1])
         refine Calls.mono (HTa.out _) ?_
         rintro e w5 ⟨v, rfl, hv, hu⟩
         have HUw5 := Lib.hid hu
         have HVw5 := Lib.hid hv
         clear hu hv
         obtain ⟨a0, a1, -, -, la⟩ := (HN1.out.up (w' := w5) (by (repeat (first | exact Below.refl _ _ | exact Go.RowKit.Hid.out (by assumption) | refine Up.trans ?_ (Up.drew _) | refine Up.trans ?_ (Up.drewN _ _) | refine Up.trans ?_ (Up.alloc _ _) | refine Up.trans ?_ (Go.RowKit.Hid.out (by assumption)))))).facts
         obtain ⟨b0, b1, -, -, lb⟩ := (HN2.out.up (w' := w5) (by (repeat (first | exact Below.refl _ _ | exact Go.RowKit.Hid.out (by assumption) | refine Up.trans ?_ (Up.drew _) | refine Up.trans ?_ (Up.drewN _ _) | refine Up.trans ?_ (Up.alloc _ _) | refine Up.trans ?_ (Go.RowKit.Hid.out (by assumption)))))).facts)))
  have HFF := Lib.hid ((HR8.out.set X Y).facts)
  have HUF := Lib.hid ((show Up w w8 by (repeat (first | exact Below.refl _ _ | exact Go.RowKit.Hid.out (by assumption) | refine Up.trans ?_ (Up.drew _) | refine Up.trans ?_ (Up.drewN _ _) | refine Up.trans ?_ (Up.alloc _ _) | refine Up.trans ?_ (Go.RowKit.Hid.out (by assumption))))).stored (show w.heap.size ≤ w.heap.size + 1 + 1 by omega) (.int .i64 X) (.int .i64 Y))
  go_wp2
  obtain ⟨z0, z1, -, -, -⟩ := HFF.out
  refine bodyPost_ret (by simp [results, Tryd.results16, go_sem, z0, z1]; try rfl) rfl ?_
  exact ⟨rfl, HUF.out⟩

set_option maxHeartbeats 8000000 in
set_option maxRecDepth 10000 in
theorem refBetween_neg (x1 y1 x2 y2 X Y : Int) (w : World) (hk1 : okNum x1 y1 = true) (hk2 : okNum x2 y2 = true) (hle : x1 * y2 - x2 * y1 ≤ 0) (hp : ¬ 0 < x1) (hq : x2 < 0)
    (hrec : ∀ W u1 u2, RQ W u1 (-(ratOf x2 y2)) → RQ W u2 (-(ratOf x1 y1)) → Calls Tryd.prog 45 #[u1, u2] W fun e w' => ∃ v, e = .returned v ∧ RQ w' v (ratOf X Y) ∧ Up W w') (hX : okNum (-X) Y = true) :
    Calls Tryd.prog 16 #[.agg #[.int .i64 x1, .int .i64 y1], .agg #[.int .i64 x2, .int .i64 y2]] w fun e w' => e = .returned (.tuple #[.agg #[.int .i64 (-X), .int .i64 Y], .int .i64 0]) ∧ Up w w' := by
  have h1 : Rng x1 y1 := by have := ok_bounds hk1; exact ⟨by omega, by omega, by omega, by omega⟩
  have h2 : Rng x2 y2 := by have := ok_bounds hk2; exact ⟨by omega, by omega, by omega, by omega⟩
  have hk : (okNum x1 y1 && okNum x2 y2) = true := by rw [hk1, hk2]; rfl
  have HTa := Lib.hid (fun W => refTo_q x1 y1 W hk1)
  have HTb := Lib.hid (fun W => refTo_q x2 y2 W hk2)
  obtain ⟨sg, hsg⟩ : ∃ sg, sg = (ratOf x1 y1 - ratOf x2 y2).num.sign := ⟨_, rfl⟩
  have HC := Lib.hid (fun W u1 u2 (k1 : RQ W u1 (ratOf x1 y1)) (k2 : RQ W u2 (ratOf x2 y2)) => refRatCompare_q u1 u2 _ _ 3 3 W k1 k2 (ok_QB hk1) (ok_QB hk2) (by omega))
  rw [← hsg] at HC
  rw [sub_sign, (ratOf_ok hk1).1, (ratOf_ok hk1).2, (ratOf_ok hk2).1, (ratOf_ok hk2).2] at hsg
  have hsg0 : ¬ 0 < sg := by
    rw [hsg]; intro h; have := Int.sign_pos_iff.1 h; omega
  have hsd : decide (0 < sg) = false := decide_eq_false hsg0
  have hp' : x1 ≤ 0 := by omega
  have hqd : decide (0 ≤ x2) = false := decide_eq_false (by omega)
  have hqd' : ¬ 0 ≤ x2 := by omega
  have hpd : decide (0 < x1) = false := decide_eq_false hp
  have HREC := Lib.hid hrec
  have HM1 := Lib.hid (fun W u (k : RQ W u (ratOf x1 y1)) => refRatMinus_q u _ W k)
  have HM2 := Lib.hid (fun W u (k : RQ W u (ratOf x2 y2)) => refRatMinus_q u _ W k)
  have HM3 := Lib.hid (fun W u (k : RQ W u (ratOf X Y)) => refRatMinus_q u _ W k)
  have HNUM := Lib.hid (fun W u (k : RQ W u (ratOf (-X) Y)) => refNum_q u _ W k)
  rw [(num_self hX).1, (num_self hX).2.1, (num_self hX).2.2] at HNUM
  rw [← ratOf_neg] at HNUM
  generalize -(ratOf X Y) = nq at *
  generalize -(ratOf x1 y1) = na at *
  generalize -(ratOf x2 y2) = nb at *
  generalize ratOf X Y = q at *
  generalize ratOf x1 y1 = qa at *
  generalize ratOf x2 y2 = qb at *
  generalize -X = X' at *
  clear hle hrec hX
  clear hk1 hk2 hsg
  obtain ⟨wB, hwB, hn1, hn2, hr, hu0, hall⟩ := startAll w x1 y1 x2 y2 h1 h2
  rw [hk] at hall
  have HALL := Lib.hid hall
  have HN1 := Lib.hid hn1
  have HN2 := Lib.hid hn2
  have HR := Lib.hid hr
  have HU := Lib.hid hu0
  have HWB := Lib.hid hwB
  clear hk hall hn1 hn2 hr hu0 hwB
  go_enter Tryd.func16, Tryd.ntmps16
  go_wp2_with fail
  rw [HWB.out]
  refine Calls.mono HALL.out ?_
  rintro e w1 ⟨rfl, hu1⟩
  have HU1 := Lib.hid hu1
  clear hu1 HWB HALL
  go_upto_region 3 with fail
  obtain ⟨a0, a1, -, -, la⟩ := (HN1.out.up (w' := w1) (by (repeat (first | exact Below.refl _ _ | exact Go.RowKit.Hid.out (by assumption) | refine Up.trans ?_ (Up.drew _) | refine Up.trans ?_ (Up.drewN _ _) | refine Up.trans ?_ (Up.alloc _ _) | refine Up.trans ?_ (Go.RowKit.Hid.out (by assumption)))))).facts
  obtain ⟨b0, b1, -, -, lb⟩ := (HN2.out.up (w' := w1) (by (repeat (first | exact Below.refl _ _ | exact Go.RowKit.Hid.out (by assumption) | refine Up.trans ?_ (Up.drew _) | refine Up.trans ?_ (Up.drewN _ _) | refine Up.trans ?_ (Up.alloc _ _) | refine Up.trans ?_ (Go.RowKit.Hid.out (by assumption)))))).facts
  go_region_held3 (fun w' => w'.cell? ⟨w.heap.size, 0, none⟩ = some (.int .i64 x1) ∧ w'.cell? ⟨w.heap.size, 1, none⟩ = some (.int .i64 y1) ∧ w'.cell? ⟨w.heap.size + 1, 0, none⟩ = some (.int .i64 x2) ∧ w'.cell? ⟨w.heap.size + 1, 1, none⟩ = some (.int .i64 y2)) (go_keep)
    ((first
      | (have HGUARD := HVw3; go_at_call 19
         refine Calls.mono (HC.out _ _ _ (HVw2.out.up (by (repeat (first | exact Below.refl _ _ | exact Go.RowKit.Hid.out (by assumption) | refine Up.trans ?_ (Up.drew _) | refine Up.trans ?_ (Up.drewN _ _) | refine Up.trans ?_ (Up.alloc _ _) | refine Up.trans ?_ (Go.RowKit.Hid.out (by assumption)))))) (HVw3.out.up (by (repeat (first | exact Below.refl _ _ | exact Go.RowKit.Hid.out (by assumption) | refine Up.trans ?_ (Up.drew _) | refine Up.trans ?_ (Up.drewN _ _) | refine Up.trans ?_ (Up.alloc _ _) | refine Up.trans ?_ (Go.RowKit.Hid.out (by assumption))))))) ?_
         rintro e w4 ⟨rfl, hu⟩
         have HUw4 := Lib.hid hu
         clear hu
         obtain ⟨a0, a1, -, -, la⟩ := (HN1.out.up (w' := w4) (by (repeat (first | exact Below.refl _ _ | exact Go.RowKit.Hid.out (by assumption) | refine Up.trans ?_ (Up.drew _) | refine Up.trans ?_ (Up.drewN _ _) | refine Up.trans ?_ (Up.alloc _ _) | refine Up.trans ?_ (Go.RowKit.Hid.out (by assumption)))))).facts
         obtain ⟨b0, b1, -, -, lb⟩ := (HN2.out.up (w' := w4) (by (repeat (first | exact Below.refl _ _ | exact Go.RowKit.Hid.out (by assumption) | refine Up.trans ?_ (Up.drew _) | refine Up.trans ?_ (Up.drewN _ _) | refine Up.trans ?_ (Up.alloc _ _) | refine Up.trans ?_ (Go.RowKit.Hid.out (by assumption)))))).facts)
      | (have HGUARD := HVw2; go_at_call_of 18 (Value.agg #[.int .i64 x2, .int .i64 y2])
         refine Calls.mono (HTb.out _) ?_
         rintro e w3 ⟨v, rfl, hv, hu⟩
         have HUw3 := Lib.hid hu
         have HVw3 := Lib.hid hv
         clear hu hv
         obtain ⟨a0, a1, -, -, la⟩ := (HN1.out.up (w' := w3) (by (repeat (first | exact Below.refl _ _ | exact Go.RowKit.Hid.out (by assumption) | refine Up.trans ?_ (Up.drew _) | refine Up.trans ?_ (Up.drewN _ _) | refine Up.trans ?_ (Up.alloc _ _) | refine Up.trans ?_ (Go.RowKit.Hid.out (by assumption)))))).facts
         obtain ⟨b0, b1, -, -, lb⟩ := (HN2.out.up (w' := w3) (by (repeat (first | exact Below.refl _ _ | exact Go.RowKit.Hid.out (by assumption) | refine Up.trans ?_ (Up.drew _) | refine Up.trans ?_ (Up.drewN _ _) | refine Up.trans ?_ (Up.alloc _ _) | refine Up.trans ?_ (Go.RowKit.Hid.out (by assumption)))))).facts)
      | (go_at_call_of 18 (Value.agg #[.int .i64 x1, .int .i64 y1])
         refine Calls.mono (HTa.out _) ?_
         rintro e w2 ⟨v, rfl, hv, hu⟩
         have HUw2 := Lib.hid hu
         have HVw2 := Lib.hid hv
         clear hu hv
         obtain ⟨a0, a1, -, -, la⟩ := (HN1.out.up (w' := w2) (by (repeat (first | exact Below.refl _ _ | exact Go.RowKit.Hid.out (by assumption) | refine Up.trans ?_ (Up.drew _) | refine Up.trans ?_ (Up.drewN _ _) | refine Up.trans ?_ (Up.alloc _ _) | refine Up.trans ?_ (Go.RowKit.Hid.out (by assumption)))))).facts
         obtain ⟨b0, b1, -, -, lb⟩ := (HN2.out.up (w' := w2) (by (repeat (first | exact Below.refl _ _ | exact Go.RowKit.Hid.out (by assumption) | refine Up.trans ?_ (Up.drew _) | refine Up.trans ?_ (Up.drewN _ _) | refine Up.trans ?_ (Up.alloc _ _) | refine Up.trans ?_ (Go.RowKit.Hid.out (by assumption)))))).facts)))
  have hne1 : (w.heap.size = w.heap.size + 1 + 1) = False := by simp; omega
  have hne2 : (w.heap.size + 1 + 1 = w.heap.size) = False := by simp; omega
  clear a0 a1 la b0 b1 lb
  obtain ⟨a0, a1, -, -, la⟩ := (HN1.out.up (w' := w4) (by (repeat (first | exact Below.refl _ _ | exact Go.RowKit.Hid.out (by assumption) | refine Up.trans ?_ (Up.drew _) | refine Up.trans ?_ (Up.drewN _ _) | refine Up.trans ?_ (Up.alloc _ _) | refine Up.trans ?_ (Go.RowKit.Hid.out (by assumption)))))).facts
  obtain ⟨b0, b1, -, -, lb⟩ := (HN2.out.up (w' := w4) (by (repeat (first | exact Below.refl _ _ | exact Go.RowKit.Hid.out (by assumption) | refine Up.trans ?_ (Up.drew _) | refine Up.trans ?_ (Up.drewN _ _) | refine Up.trans ?_ (Up.alloc _ _) | refine Up.trans ?_ (Go.RowKit.Hid.out (by assumption)))))).facts
  go_upto_region 9 with fail
  go_region_held3 (fun w' => w'.cell? ⟨w.heap.size, 0, none⟩ = some (.int .i64 x1) ∧ w'.cell? ⟨w.heap.size, 1, none⟩ = some (.int .i64 y1) ∧ w'.cell? ⟨w.heap.size + 1, 0, none⟩ = some (.int .i64 x2) ∧ w'.cell? ⟨w.heap.size + 1, 1, none⟩ = some (.int .i64 y2)) (go_keep)
    ((first
      | (have HGUARD := HVw10; go_at_call 30
         refine Calls.mono (HNUM.out _ _ (HVw10.out.up (by (repeat (first | exact Below.refl _ _ | exact Go.RowKit.Hid.out (by assumption) | refine Up.trans ?_ (Up.drew _) | refine Up.trans ?_ (Up.drewN _ _) | refine Up.trans ?_ (Up.alloc _ _) | refine Up.trans ?_ (Go.RowKit.Hid.out (by assumption))))))) ?_
         rintro e w11 ⟨rfl, hu⟩
         have HUw11 := Lib.hid hu
         clear hu
         obtain ⟨a0, a1, -, -, la⟩ := (HN1.out.up (w' := w11) (by (repeat (first | exact Below.refl _ _ | exact Go.RowKit.Hid.out (by assumption) | refine Up.trans ?_ (Up.drew _) | refine Up.trans ?_ (Up.drewN _ _) | refine Up.trans ?_ (Up.alloc _ _) | refine Up.trans ?_ (Go.RowKit.Hid.out (by assumption)))))).facts
         obtain ⟨b0, b1, -, -, lb⟩ := (HN2.out.up (w' := w11) (by (repeat (first | exact Below.refl _ _ | exact Go.RowKit.Hid.out (by assumption) | refine Up.trans ?_ (Up.drew _) | refine Up.trans ?_ (Up.drewN _ _) | refine Up.trans ?_ (Up.alloc _ _) | refine Up.trans ?_ (Go.RowKit.Hid.out (by assumption)))))).facts
         have HR8 := Lib.hid (HR.out.up (w' := w11) (by (repeat (first | exact Below.refl _ _ | exact Go.RowKit.Hid.out (by assumption) | refine Up.trans ?_ (Up.drew _) | refine Up.trans ?_ (Up.drewN _ _) | refine Up.trans ?_ (Up.alloc _ _) | refine Up.trans ?_ (Go.RowKit.Hid.out (by assumption))))))
         obtain ⟨r0, r1, g0, g1, lr⟩ := HR8.out.facts)
      | (have HGUARD := HVw9; go_at_call 38
         refine Calls.mono (HM3.out _ _ (HVw9.out.up (by (repeat (first | exact Below.refl _ _ | exact Go.RowKit.Hid.out (by assumption) | refine Up.trans ?_ (Up.drew _) | refine Up.trans ?_ (Up.drewN _ _) | refine Up.trans ?_ (Up.alloc _ _) | refine Up.trans ?_ (Go.RowKit.Hid.out (by assumption))))))) ?_
         rintro e w10 ⟨v, rfl, hv, hu⟩
         have HUw10 := Lib.hid hu
         have HVw10 := Lib.hid hv
         clear hu hv
         obtain ⟨a0, a1, -, -, la⟩ := (HN1.out.up (w' := w10) (by (repeat (first | exact Below.refl _ _ | exact Go.RowKit.Hid.out (by assumption) | refine Up.trans ?_ (Up.drew _) | refine Up.trans ?_ (Up.drewN _ _) | refine Up.trans ?_ (Up.alloc _ _) | refine Up.trans ?_ (Go.RowKit.Hid.out (by assumption)))))).facts
         obtain ⟨b0, b1, -, -, lb⟩ := (HN2.out.up (w' := w10) (by (repeat (first | exact Below.refl _ _ | exact Go.RowKit.Hid.out (by assumption) | refine Up.trans ?_ (Up.drew _) | refine Up.trans ?_ (Up.drewN _ _) | refine Up.trans ?_ (Up.alloc _ _) | refine Up.trans ?_ (Go.RowKit.Hid.out (by assumption)))))).facts)
      | (have HGUARD := HVw8; go_at_call 45
         refine Calls.mono (HREC.out _ _ _ (HVw6.out.up (by (repeat (first | exact Below.refl _ _ | exact Go.RowKit.Hid.out (by assumption) | refine Up.trans ?_ (Up.drew _) | refine Up.trans ?_ (Up.drewN _ _) | refine Up.trans ?_ (Up.alloc _ _) | refine Up.trans ?_ (Go.RowKit.Hid.out (by assumption)))))) (HVw8.out.up (by (repeat (first | exact Below.refl _ _ | exact Go.RowKit.Hid.out (by assumption) | refine Up.trans ?_ (Up.drew _) | refine Up.trans ?_ (Up.drewN _ _) | refine Up.trans ?_ (Up.alloc _ _) | refine Up.trans ?_ (Go.RowKit.Hid.out (by assumption))))))) ?_
         rintro e w9 ⟨v, rfl, hv, hu⟩
         have HUw9 := Lib.hid hu
         have HVw9 := Lib.hid hv
         clear hu hv
         obtain ⟨a0, a1, -, -, la⟩ := (HN1.out.up (w' := w9) (by (repeat (first | exact Below.refl _ _ | exact Go.RowKit.Hid.out (by assumption) | refine Up.trans ?_ (Up.drew _) | refine Up.trans ?_ (Up.drewN _ _) | refine Up.trans ?_ (Up.alloc _ _) | refine Up.trans ?_ (Go.RowKit.Hid.out (by assumption)))))).facts
         obtain ⟨b0, b1, -, -, lb⟩ := (HN2.out.up (w' := w9) (by (repeat (first | exact Below.refl _ _ | exact Go.RowKit.Hid.out (by assumption) | refine Up.trans ?_ (Up.drew _) | refine Up.trans ?_ (Up.drewN _ _) | refine Up.trans ?_ (Up.alloc _ _) | refine Up.trans ?_ (Go.RowKit.Hid.out (by assumption)))))).facts)
      | (have HGUARD := HVw7; go_at_call 38
         refine Calls.mono (HM1.out _ _ (HVw7.out.up (by (repeat (first | exact Below.refl _ _ | exact Go.RowKit.Hid.out (by assumption) | refine Up.trans ?_ (Up.drew _) | refine Up.trans ?_ (Up.drewN _ _) | refine Up.trans ?_ (Up.alloc _ _) | refine Up.trans ?_ (Go.RowKit.Hid.out (by assumption))))))) ?_
         rintro e w8 ⟨v, rfl, hv, hu⟩
         have HUw8 := Lib.hid hu
         have HVw8 := Lib.hid hv
         clear hu hv
         obtain ⟨a0, a1, -, -, la⟩ := (HN1.out.up (w' := w8) (by (repeat (first | exact Below.refl _ _ | exact Go.RowKit.Hid.out (by assumption) | refine Up.trans ?_ (Up.drew _) | refine Up.trans ?_ (Up.drewN _ _) | refine Up.trans ?_ (Up.alloc _ _) | refine Up.trans ?_ (Go.RowKit.Hid.out (by assumption)))))).facts
         obtain ⟨b0, b1, -, -, lb⟩ := (HN2.out.up (w' := w8) (by (repeat (first | exact Below.refl _ _ | exact Go.RowKit.Hid.out (by assumption) | refine Up.trans ?_ (Up.drew _) | refine Up.trans ?_ (Up.drewN _ _) | refine Up.trans ?_ (Up.alloc _ _) | refine Up.trans ?_ (Go.RowKit.Hid.out (by assumption)))))).facts)
      | (have HGUARD := HVw6; go_at_call_of 18 (Value.agg #[.int .i64 x1, .int .i64 y1])
         refine Calls.mono (HTa.out _) ?_
         rintro e w7 ⟨v, rfl, hv, hu⟩
         have HUw7 := Lib.hid hu
         have HVw7 := Lib.hid hv
         clear hu hv
         obtain ⟨a0, a1, -, -, la⟩ := (HN1.out.up (w' := w7) (by (repeat (first | exact Below.refl _ _ | exact Go.RowKit.Hid.out (by assumption) | refine Up.trans ?_ (Up.drew _) | refine Up.trans ?_ (Up.drewN _ _) | refine Up.trans ?_ (Up.alloc _ _) | refine Up.trans ?_ (Go.RowKit.Hid.out (by assumption)))))).facts
         obtain ⟨b0, b1, -, -, lb⟩ := (HN2.out.up (w' := w7) (by (repeat (first | exact Below.refl _ _ | exact Go.RowKit.Hid.out (by assumption) | refine Up.trans ?_ (Up.drew _) | refine Up.trans ?_ (Up.drewN _ _) | refine Up.trans ?_ (Up.alloc _ _) | refine Up.trans ?_ (Go.RowKit.Hid.out (by assumption)))))).facts)
      | (have HGUARD := HVw5; go_at_call 38
         refine Calls.mono (HM2.out _ _ (HVw5.out.up (by (repeat (first | exact Below.refl _ _ | exact Go.RowKit.Hid.out (by assumption) | refine Up.trans ?_ (Up.drew _) | refine Up.trans ?_ (Up.drewN _ _) | refine Up.trans ?_ (Up.alloc _ _) | refine Up.trans ?_ (Go.RowKit.Hid.out (by assumption))))))) ?_
         rintro e w6 ⟨v, rfl, hv, hu⟩
         have HUw6 := Lib.hid hu
         have HVw6 := Lib.hid hv
         clear hu hv
         obtain ⟨a0, a1, -, -, la⟩ := (HN1.out.up (w' := w6) (by (repeat (first | exact Below.refl _ _ | exact Go.RowKit.Hid.out (by assumption) | refine Up.trans ?_ (Up.drew _) | refine Up.trans ?_ (Up.drewN _ _) | refine Up.trans ?_ (Up.alloc _ _) | refine Up.trans ?_ (Go.RowKit.Hid.out (by assumption)))))).facts
         obtain ⟨b0, b1, -, -, lb⟩ := (HN2.out.up (w' := w6) (by (repeat (first | exact Below.refl _ _ | exact Go.RowKit.Hid.out (by assumption) | refine Up.trans ?_ (Up.drew _) | refine Up.trans ?_ (Up.drewN _ _) | refine Up.trans ?_ (Up.alloc _ _) | refine Up.trans ?_ (Go.RowKit.Hid.out (by assumption)))))).facts)
      | (go_at_call_of 18 (Value.agg #[.int .i64 x2, .int .i64 y2])
         refine Calls.mono (HTb.out _) ?_
         rintro e w5 ⟨v, rfl, hv, hu⟩
         have HUw5 := Lib.hid hu
         have HVw5 := Lib.hid hv
         clear hu hv
         obtain ⟨a0, a1, -, -, la⟩ := (HN1.out.up (w' := w5) (by (repeat (first | exact Below.refl _ _ | exact Go.RowKit.Hid.out (by assumption) | refine Up.trans ?_ (Up.drew _) | refine Up.trans ?_ (Up.drewN _ _) | refine Up.trans ?_ (Up.alloc _ _) | refine Up.trans ?_ (Go.RowKit.Hid.out (by assumption)))))).facts
         obtain ⟨b0, b1, -, -, lb⟩ := (HN2.out.up (w' := w5) (by (repeat (first | exact Below.refl _ _ | exact Go.RowKit.Hid.out (by assumption) | refine Up.trans ?_ (Up.drew _) | refine Up.trans ?_ (Up.drewN _ _) | refine Up.trans ?_ (Up.alloc _ _) | refine Up.trans ?_ (Go.RowKit.Hid.out (by assumption)))))).facts)))
  have HFF := Lib.hid ((HR8.out.set X' Y).facts)
  have HUF := Lib.hid ((show Up w w11 by (repeat (first | exact Below.refl _ _ | exact Go.RowKit.Hid.out (by assumption) | refine Up.trans ?_ (Up.drew _) | refine Up.trans ?_ (Up.drewN _ _) | refine Up.trans ?_ (Up.alloc _ _) | refine Up.trans ?_ (Go.RowKit.Hid.out (by assumption))))).stored (show w.heap.size ≤ w.heap.size + 1 + 1 by omega) (.int .i64 X') (.int .i64 Y))
  go_wp2
  obtain ⟨z0, z1, -, -, -⟩ := HFF.out
  refine bodyPost_ret (by simp [results, Tryd.results16, go_sem, z0, z1]; try rfl) rfl ?_
  exact ⟨rfl, HUF.out⟩

end Go.Proofs.YtimlainffbpfdaaDoor