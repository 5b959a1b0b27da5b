/- Contracts of Between. -/
import Derived.Test.YtimlainffbpfdaaDoorGI
namespace Go.Proofs.YtimlainffbpfdaaDoor
open Go.RowKit Fm

set_option maxHeartbeats 1000000 in
set_option maxRecDepth 10000 in
theorem between_arg (x1 y1 x2 y2 : Int) (w : World) (h1 : Rng x1 y1) (h2 : Rng x2 y2) (hk : (okNum x1 y1 && okNum x2 y2) = false) (ht : Tab w) :
    Calls Tryd.prog 15 #[.agg #[.int .i64 x1, .int .i64 y1], .agg #[.int .i64 x2, .int .i64 y2]] w fun e w' => e = .returned (.tuple #[.agg #[.int .i64 0, .int .i64 0], .int .i64 1]) ∧ Up w w' := by
  have HV1 := Lib.hid (fun W (hu : Up w W) => valid_any x1 y1 W h1.1 h1.2.1 h1.2.2.1 h1.2.2.2 (ht.up hu))
  have HV2 := Lib.hid (fun W (hu : Up w W) => valid_any x2 y2 W h2.1 h2.2.1 h2.2.2.1 h2.2.2.2 (ht.up hu))
  rcases hk1 : okNum x1 y1 with _ | _
  · rw [hk1] at HV1
    clear hk hk1 ht h1 h2
    go_enter Tryd.func15, Tryd.ntmps15
    go_wp2_with fail
    obtain ⟨wB, hwB, hn1, hn2, hr, hu0⟩ := startNN w x1 y1 x2 y2
    rw [hwB]
    clear hwB
    have HN1 := Lib.hid hn1
    have HN2 := Lib.hid hn2
    have HR := Lib.hid hr
    have HU := Lib.hid hu0
    clear hn1 hn2 hr hu0
    refine Calls.mono (HV1.out _ (by (repeat (first | exact Below.refl _ _ | exact Go.RowKit.Hid.out (by assumption) | refine Up.trans ?_ (Up.drew _) | refine Up.trans ?_ (Up.drewN _ _) | refine Up.trans ?_ (Up.alloc _ _) | refine Up.trans ?_ (Go.RowKit.Hid.out (by assumption)))))) ?_
    rintro e w1 ⟨rfl, hu1⟩
    have HU1 := Lib.hid hu1
    clear hu1
    have HR8 := Lib.hid (HR.out.up (w' := w1) (by (repeat (first | exact Below.refl _ _ | exact Go.RowKit.Hid.out (by assumption) | refine Up.trans ?_ (Up.drew _) | refine Up.trans ?_ (Up.drewN _ _) | refine Up.trans ?_ (Up.alloc _ _) | refine Up.trans ?_ (Go.RowKit.Hid.out (by assumption))))))
    obtain ⟨r0, r1, g0, g1, lr⟩ := HR8.out.facts
    have HFF := Lib.hid ((HR8.out.set 0 0).facts)
    have HUF := Lib.hid ((show Up w w1 by (repeat (first | exact Below.refl _ _ | exact Go.RowKit.Hid.out (by assumption) | refine Up.trans ?_ (Up.drew _) | refine Up.trans ?_ (Up.drewN _ _) | refine Up.trans ?_ (Up.alloc _ _) | refine Up.trans ?_ (Go.RowKit.Hid.out (by assumption))))).stored (show w.heap.size ≤ w.heap.size + 1 + 1 by omega) (.int .i64 0) (.int .i64 0))
    go_wp2
    obtain ⟨z0, z1, -, -, -⟩ := HFF.out
    refine bodyPost_ret (by simp [results, Tryd.results15, go_sem, z0, z1]; try rfl) rfl ?_
    exact ⟨rfl, HUF.out⟩
  · rw [hk1] at HV1 hk
    rw [Bool.true_and] at hk
    rw [hk] at HV2
    clear hk hk1 ht h1 h2
    go_enter Tryd.func15, Tryd.ntmps15
    go_wp2_with fail
    obtain ⟨wB, hwB, hn1, hn2, hr, hu0⟩ := startNN w x1 y1 x2 y2
    rw [hwB]
    clear hwB
    have HN1 := Lib.hid hn1
    have HN2 := Lib.hid hn2
    have HR := Lib.hid hr
    have HU := Lib.hid hu0
    clear hn1 hn2 hr hu0
    refine Calls.mono (HV1.out _ (by (repeat (first | exact Below.refl _ _ | exact Go.RowKit.Hid.out (by assumption) | refine Up.trans ?_ (Up.drew _) | refine Up.trans ?_ (Up.drewN _ _) | refine Up.trans ?_ (Up.alloc _ _) | refine Up.trans ?_ (Go.RowKit.Hid.out (by assumption)))))) ?_
    rintro e w1 ⟨rfl, hu1⟩
    have HU1 := Lib.hid hu1
    clear hu1
    obtain ⟨b0, b1, -, -, lb⟩ := (HN2.out.up (w' := w1) (by (repeat (first | exact Below.refl _ _ | exact Go.RowKit.Hid.out (by assumption) | refine Up.trans ?_ (Up.drew _) | refine Up.trans ?_ (Up.drewN _ _) | refine Up.trans ?_ (Up.alloc _ _) | refine Up.trans ?_ (Go.RowKit.Hid.out (by assumption)))))).facts
    go_wp2_with fail
    refine Calls.mono (HV2.out _ (by (repeat (first | exact Below.refl _ _ | exact Go.RowKit.Hid.out (by assumption) | refine Up.trans ?_ (Up.drew _) | refine Up.trans ?_ (Up.drewN _ _) | refine Up.trans ?_ (Up.alloc _ _) | refine Up.trans ?_ (Go.RowKit.Hid.out (by assumption)))))) ?_
    rintro e w2 ⟨rfl, hu2⟩
    have HU2 := Lib.hid hu2
    clear hu2
    have HR8 := Lib.hid (HR.out.up (w' := w2) (by (repeat (first | exact Below.refl _ _ | exact Go.RowKit.Hid.out (by assumption) | refine Up.trans ?_ (Up.drew _) | refine Up.trans ?_ (Up.drewN _ _) | refine Up.trans ?_ (Up.alloc _ _) | refine Up.trans ?_ (Go.RowKit.Hid.out (by assumption))))))
    obtain ⟨r0, r1, g0, g1, lr⟩ := HR8.out.facts
    have HFF := Lib.hid ((HR8.out.set 0 0).facts)
    have HUF := Lib.hid ((show Up w w2 by (repeat (first | exact Below.refl _ _ | exact Go.RowKit.Hid.out (by assumption) | refine Up.trans ?_ (Up.drew _) | refine Up.trans ?_ (Up.drewN _ _) | refine Up.trans ?_ (Up.alloc _ _) | refine Up.trans ?_ (Go.RowKit.Hid.out (by assumption))))).stored (show w.heap.size ≤ w.heap.size + 1 + 1 by omega) (.int .i64 0) (.int .i64 0))
    go_wp2
    obtain ⟨z0, z1, -, -, -⟩ := HFF.out
    refine bodyPost_ret (by simp [results, Tryd.results15, go_sem, z0, z1]; try rfl) rfl ?_
    exact ⟨rfl, HUF.out⟩

set_option maxHeartbeats 1000000 in
set_option maxRecDepth 10000 in
/-- Between of two numbers that are not in their order. -/
theorem between_range (x1 y1 x2 y2 : Int) (w : World) (hk1 : okNum x1 y1 = true) (hk2 : okNum x2 y2 = true) (hgt : 0 < x1 * y2 - x2 * y1) (ht : Tab w) :
    Calls Tryd.prog 15 #[.agg #[.int .i64 x1, .int .i64 y1], .agg #[.int .i64 x2, .int .i64 y2]] w fun e w' => e = .returned (.tuple #[.agg #[.int .i64 0, .int .i64 0], .int .i64 6]) ∧ Up w w' := by
  have q1 := ok_bounds hk1
  have q2 := ok_bounds hk2
  have HV1 := Lib.hid (fun W (hu : Up w W) => valid_any x1 y1 W (by omega) (by omega) (by omega) (by omega) (ht.up hu))
  have HV2 := Lib.hid (fun W (hu : Up w W) => valid_any x2 y2 W (by omega) (by omega) (by omega) (by omega) (ht.up hu))
  rw [hk1] at HV1
  rw [hk2] at HV2
  obtain ⟨e1, e2⟩ := ratOf_ok hk1
  obtain ⟨e3, e4⟩ := ratOf_ok hk2
  have f1 := ok_FB hk1
  have f2 := ok_FB hk2
  have HO1 := Lib.hid (fun W => fracOf_any x1 y1 (ratOf x1 y1) W e1 e2 (by omega) (by omega) (by omega) (by omega))
  have HO2 := Lib.hid (fun W => fracOf_any x2 y2 (ratOf x2 y2) W e3 e4 (by omega) (by omega) (by omega) (by omega))
  have HC := Lib.hid (fun W u1 u2 (hv1 : FV W u1 (ratOf x1 y1)) (hv2 : FV W u2 (ratOf x2 y2)) => fracCmp_any u1 u2 (ratOf x1 y1) (ratOf x2 y2) W hv1 hv2 f1 f2)
  rw [e1, e2, e3, e4] at HC
  obtain ⟨sg, hsg⟩ : ∃ sg, sg = (x1 * y2 - x2 * y1).sign := ⟨_, rfl⟩
  rw [← hsg] at HC
  have hsg0 : 0 < sg := by
    rw [hsg]; exact Int.sign_pos_iff.2 hgt
  clear hgt
  clear hk1 hk2 ht q1 q2 e1 e2 e3 e4 f1 f2 hsg
  go_enter Tryd.func15, Tryd.ntmps15
  go_wp2_with fail
  obtain ⟨wB, hwB, hn1, hn2, hr, hu0⟩ := startNN w x1 y1 x2 y2
  rw [hwB]
  clear hwB
  have HN1 := Lib.hid hn1
  have HN2 := Lib.hid hn2
  have HR := Lib.hid hr
  have HU := Lib.hid hu0
  clear hn1 hn2 hr hu0
  refine Calls.mono (HV1.out _ (by (repeat (first | exact Below.refl _ _ | exact Go.RowKit.Hid.out (by assumption) | refine Up.trans ?_ (Up.drew _) | refine Up.trans ?_ (Up.drewN _ _) | refine Up.trans ?_ (Up.alloc _ _) | refine Up.trans ?_ (Go.RowKit.Hid.out (by assumption)))))) ?_
  rintro e w1 ⟨rfl, hu1⟩
  have HU1 := Lib.hid hu1
  clear hu1
  obtain ⟨b0, b1, -, -, lb⟩ := (HN2.out.up (w' := w1) (by (repeat (first | exact Below.refl _ _ | exact Go.RowKit.Hid.out (by assumption) | refine Up.trans ?_ (Up.drew _) | refine Up.trans ?_ (Up.drewN _ _) | refine Up.trans ?_ (Up.alloc _ _) | refine Up.trans ?_ (Go.RowKit.Hid.out (by assumption)))))).facts
  go_wp2_with fail
  refine Calls.mono (HV2.out _ (by (repeat (first | exact Below.refl _ _ | exact Go.RowKit.Hid.out (by assumption) | refine Up.trans ?_ (Up.drew _) | refine Up.trans ?_ (Up.drewN _ _) | refine Up.trans ?_ (Up.alloc _ _) | refine Up.trans ?_ (Go.RowKit.Hid.out (by assumption)))))) ?_
  rintro e w2 ⟨rfl, hu2⟩
  have HU2 := Lib.hid hu2
  clear hu2
  obtain ⟨a0, a1, -, -, la⟩ := (HN1.out.up (w' := w2) (by (repeat (first | exact Below.refl _ _ | exact Go.RowKit.Hid.out (by assumption) | refine Up.trans ?_ (Up.drew _) | refine Up.trans ?_ (Up.drewN _ _) | refine Up.trans ?_ (Up.alloc _ _) | refine Up.trans ?_ (Go.RowKit.Hid.out (by assumption)))))).facts
  obtain ⟨b0, b1, -, -, lb⟩ := (HN2.out.up (w' := w2) (by (repeat (first | exact Below.refl _ _ | exact Go.RowKit.Hid.out (by assumption) | refine Up.trans ?_ (Up.drew _) | refine Up.trans ?_ (Up.drewN _ _) | refine Up.trans ?_ (Up.alloc _ _) | refine Up.trans ?_ (Go.RowKit.Hid.out (by assumption)))))).facts
  go_wp2_with fail
  go_region_held3 (fun w' => w'.cell? ⟨w.heap.size, 0, none⟩ = some (.int .i64 x1) ∧ w'.cell? ⟨w.heap.size, 1, none⟩ = some (.int .i64 y1) ∧ w'.cell? ⟨w.heap.size + 1, 0, none⟩ = some (.int .i64 x2) ∧ w'.cell? ⟨w.heap.size + 1, 1, none⟩ = some (.int .i64 y2)) (go_keep)
    ((first
      | (go_at_call_of 40 (Value.int IntKind.i64 x1)
         refine Calls.mono (HO1.out _) ?_
         rintro e w5 ⟨v5, rfl, hv5, hu5⟩
         have HU5 := Lib.hid hu5
         obtain ⟨a0, a1, -, -, la⟩ := (HN1.out.up (w' := w5) (by (repeat (first | exact Below.refl _ _ | exact Go.RowKit.Hid.out (by assumption) | refine Up.trans ?_ (Up.drew _) | refine Up.trans ?_ (Up.drewN _ _) | refine Up.trans ?_ (Up.alloc _ _) | refine Up.trans ?_ (Go.RowKit.Hid.out (by assumption)))))).facts
         obtain ⟨b0, b1, -, -, lb⟩ := (HN2.out.up (w' := w5) (by (repeat (first | exact Below.refl _ _ | exact Go.RowKit.Hid.out (by assumption) | refine Up.trans ?_ (Up.drew _) | refine Up.trans ?_ (Up.drewN _ _) | refine Up.trans ?_ (Up.alloc _ _) | refine Up.trans ?_ (Go.RowKit.Hid.out (by assumption)))))).facts
         have HV5 := Lib.hid hv5
         clear hv5 hu5)
      | (go_at_call_of 40 (Value.int IntKind.i64 x2)
         refine Calls.mono (HO2.out _) ?_
         rintro e w6 ⟨v6, rfl, hv6, hu6⟩
         have HU6 := Lib.hid hu6
         obtain ⟨a0, a1, -, -, la⟩ := (HN1.out.up (w' := w6) (by (repeat (first | exact Below.refl _ _ | exact Go.RowKit.Hid.out (by assumption) | refine Up.trans ?_ (Up.drew _) | refine Up.trans ?_ (Up.drewN _ _) | refine Up.trans ?_ (Up.alloc _ _) | refine Up.trans ?_ (Go.RowKit.Hid.out (by assumption)))))).facts
         obtain ⟨b0, b1, -, -, lb⟩ := (HN2.out.up (w' := w6) (by (repeat (first | exact Below.refl _ _ | exact Go.RowKit.Hid.out (by assumption) | refine Up.trans ?_ (Up.drew _) | refine Up.trans ?_ (Up.drewN _ _) | refine Up.trans ?_ (Up.alloc _ _) | refine Up.trans ?_ (Go.RowKit.Hid.out (by assumption)))))).facts
         have HV6 := Lib.hid hv6
         have HV5b := Lib.hid (HV5.out.up hu6)
         clear hv6 hu6)
      | (go_at_call 41
         refine Calls.mono (HC.out _ _ _ HV5b.out HV6.out) ?_
         rintro e w7 ⟨rfl, hu7⟩
         have HU7 := Lib.hid hu7
         obtain ⟨a0, a1, -, -, la⟩ := (HN1.out.up (w' := w7) (by (repeat (first | exact Below.refl _ _ | exact Go.RowKit.Hid.out (by assumption) | refine Up.trans ?_ (Up.drew _) | refine Up.trans ?_ (Up.drewN _ _) | refine Up.trans ?_ (Up.alloc _ _) | refine Up.trans ?_ (Go.RowKit.Hid.out (by assumption)))))).facts
         obtain ⟨b0, b1, -, -, lb⟩ := (HN2.out.up (w' := w7) (by (repeat (first | exact Below.refl _ _ | exact Go.RowKit.Hid.out (by assumption) | refine Up.trans ?_ (Up.drew _) | refine Up.trans ?_ (Up.drewN _ _) | refine Up.trans ?_ (Up.alloc _ _) | refine Up.trans ?_ (Go.RowKit.Hid.out (by assumption)))))).facts
         clear hu7)))
  have HR8 := Lib.hid (HR.out.up (w' := w7) (by (repeat (first | exact Below.refl _ _ | exact Go.RowKit.Hid.out (by assumption) | refine Up.trans ?_ (Up.drew _) | refine Up.trans ?_ (Up.drewN _ _) | refine Up.trans ?_ (Up.alloc _ _) | refine Up.trans ?_ (Go.RowKit.Hid.out (by assumption))))))
  obtain ⟨r0, r1, g0, g1, lr⟩ := HR8.out.facts
  have HFF := Lib.hid ((HR8.out.set 0 0).facts)
  have HUF := Lib.hid ((show Up w w7 by (repeat (first | exact Below.refl _ _ | exact Go.RowKit.Hid.out (by assumption) | refine Up.trans ?_ (Up.drew _) | refine Up.trans ?_ (Up.drewN _ _) | refine Up.trans ?_ (Up.alloc _ _) | refine Up.trans ?_ (Go.RowKit.Hid.out (by assumption))))).stored (show w.heap.size ≤ w.heap.size + 1 + 1 by omega) (.int .i64 0) (.int .i64 0))
  go_wp2
  obtain ⟨z0, z1, -, -, -⟩ := HFF.out
  refine bodyPost_ret (by simp [results, Tryd.results15, go_sem, z0, z1]; try rfl) rfl ?_
  exact ⟨rfl, HUF.out⟩

set_option maxHeartbeats 1000000 in
set_option maxRecDepth 10000 in
/-- Between of a number that is at most 0 and one that is at least 0. -/
theorem between_zero (x1 y1 x2 y2 : Int) (w : World) (hk1 : okNum x1 y1 = true) (hk2 : okNum x2 y2 = true) (hle : x1 * y2 - x2 * y1 ≤ 0) (hp : ¬ 0 < x1) (hq : ¬ x2 < 0) (ht : Tab w) :
    Calls Tryd.prog 15 #[.agg #[.int .i64 x1, .int .i64 y1], .agg #[.int .i64 x2, .int .i64 y2]] w fun e w' => e = .returned (.tuple #[.agg #[.int .i64 0, .int .i64 1], .int .i64 0]) ∧ Up w w' := by
  have q1 := ok_bounds hk1
  have q2 := ok_bounds hk2
  have HV1 := Lib.hid (fun W (hu : Up w W) => valid_any x1 y1 W (by omega) (by omega) (by omega) (by omega) (ht.up hu))
  have HV2 := Lib.hid (fun W (hu : Up w W) => valid_any x2 y2 W (by omega) (by omega) (by omega) (by omega) (ht.up hu))
  rw [hk1] at HV1
  rw [hk2] at HV2
  obtain ⟨e1, e2⟩ := ratOf_ok hk1
  obtain ⟨e3, e4⟩ := ratOf_ok hk2
  have f1 := ok_FB hk1
  have f2 := ok_FB hk2
  have HO1 := Lib.hid (fun W => fracOf_any x1 y1 (ratOf x1 y1) W e1 e2 (by omega) (by omega) (by omega) (by omega))
  have HO2 := Lib.hid (fun W => fracOf_any x2 y2 (ratOf x2 y2) W e3 e4 (by omega) (by omega) (by omega) (by omega))
  have HC := Lib.hid (fun W u1 u2 (hv1 : FV W u1 (ratOf x1 y1)) (hv2 : FV W u2 (ratOf x2 y2)) => fracCmp_any u1 u2 (ratOf x1 y1) (ratOf x2 y2) W hv1 hv2 f1 f2)
  rw [e1, e2, e3, e4] at HC
  obtain ⟨sg, hsg⟩ : ∃ sg, sg = (x1 * y2 - x2 * y1).sign := ⟨_, rfl⟩
  rw [← hsg] at HC
  have hsg0 : ¬ 0 < sg := by
    rw [hsg]; intro h; have := Int.sign_pos_iff.1 h; omega
  have hsd : decide (0 < sg) = false := decide_eq_false hsg0
  have hpd : decide (0 < x1) = false := decide_eq_false hp
  have hqd : decide (x2 < 0) = false := decide_eq_false hq
  clear hle
  clear hk1 hk2 ht q1 q2 e1 e2 e3 e4 f1 f2 hsg
  go_enter Tryd.func15, Tryd.ntmps15
  go_wp2_with fail
  obtain ⟨wB, hwB, hn1, hn2, hr, hu0⟩ := startNN w x1 y1 x2 y2
  rw [hwB]
  clear hwB
  have HN1 := Lib.hid hn1
  have HN2 := Lib.hid hn2
  have HR := Lib.hid hr
  have HU := Lib.hid hu0
  clear hn1 hn2 hr hu0
  refine Calls.mono (HV1.out _ (by (repeat (first | exact Below.refl _ _ | exact Go.RowKit.Hid.out (by assumption) | refine Up.trans ?_ (Up.drew _) | refine Up.trans ?_ (Up.drewN _ _) | refine Up.trans ?_ (Up.alloc _ _) | refine Up.trans ?_ (Go.RowKit.Hid.out (by assumption)))))) ?_
  rintro e w1 ⟨rfl, hu1⟩
  have HU1 := Lib.hid hu1
  clear hu1
  obtain ⟨b0, b1, -, -, lb⟩ := (HN2.out.up (w' := w1) (by (repeat (first | exact Below.refl _ _ | exact Go.RowKit.Hid.out (by assumption) | refine Up.trans ?_ (Up.drew _) | refine Up.trans ?_ (Up.drewN _ _) | refine Up.trans ?_ (Up.alloc _ _) | refine Up.trans ?_ (Go.RowKit.Hid.out (by assumption)))))).facts
  go_wp2_with fail
  refine Calls.mono (HV2.out _ (by (repeat (first | exact Below.refl _ _ | exact Go.RowKit.Hid.out (by assumption) | refine Up.trans ?_ (Up.drew _) | refine Up.trans ?_ (Up.drewN _ _) | refine Up.trans ?_ (Up.alloc _ _) | refine Up.trans ?_ (Go.RowKit.Hid.out (by assumption)))))) ?_
  rintro e w2 ⟨rfl, hu2⟩
  have HU2 := Lib.hid hu2
  clear hu2
  obtain ⟨a0, a1, -, -, la⟩ := (HN1.out.up (w' := w2) (by (repeat (first | exact Below.refl _ _ | exact Go.RowKit.Hid.out (by assumption) | refine Up.trans ?_ (Up.drew _) | refine Up.trans ?_ (Up.drewN _ _) | refine Up.trans ?_ (Up.alloc _ _) | refine Up.trans ?_ (Go.RowKit.Hid.out (by assumption)))))).facts
  obtain ⟨b0, b1, -, -, lb⟩ := (HN2.out.up (w' := w2) (by (repeat (first | exact Below.refl _ _ | exact Go.RowKit.Hid.out (by assumption) | refine Up.trans ?_ (Up.drew _) | refine Up.trans ?_ (Up.drewN _ _) | refine Up.trans ?_ (Up.alloc _ _) | refine Up.trans ?_ (Go.RowKit.Hid.out (by assumption)))))).facts
  go_wp2_with fail
  go_region_held3 (fun w' => w'.cell? ⟨w.heap.size, 0, none⟩ = some (.int .i64 x1) ∧ w'.cell? ⟨w.heap.size, 1, none⟩ = some (.int .i64 y1) ∧ w'.cell? ⟨w.heap.size + 1, 0, none⟩ = some (.int .i64 x2) ∧ w'.cell? ⟨w.heap.size + 1, 1, none⟩ = some (.int .i64 y2)) (go_keep)
    ((first
      | (go_at_call_of 40 (Value.int IntKind.i64 x1)
         refine Calls.mono (HO1.out _) ?_
         rintro e w5 ⟨v5, rfl, hv5, hu5⟩
         have HU5 := Lib.hid hu5
         obtain ⟨a0, a1, -, -, la⟩ := (HN1.out.up (w' := w5) (by (repeat (first | exact Below.refl _ _ | exact Go.RowKit.Hid.out (by assumption) | refine Up.trans ?_ (Up.drew _) | refine Up.trans ?_ (Up.drewN _ _) | refine Up.trans ?_ (Up.alloc _ _) | refine Up.trans ?_ (Go.RowKit.Hid.out (by assumption)))))).facts
         obtain ⟨b0, b1, -, -, lb⟩ := (HN2.out.up (w' := w5) (by (repeat (first | exact Below.refl _ _ | exact Go.RowKit.Hid.out (by assumption) | refine Up.trans ?_ (Up.drew _) | refine Up.trans ?_ (Up.drewN _ _) | refine Up.trans ?_ (Up.alloc _ _) | refine Up.trans ?_ (Go.RowKit.Hid.out (by assumption)))))).facts
         have HV5 := Lib.hid hv5
         clear hv5 hu5)
      | (go_at_call_of 40 (Value.int IntKind.i64 x2)
         refine Calls.mono (HO2.out _) ?_
         rintro e w6 ⟨v6, rfl, hv6, hu6⟩
         have HU6 := Lib.hid hu6
         obtain ⟨a0, a1, -, -, la⟩ := (HN1.out.up (w' := w6) (by (repeat (first | exact Below.refl _ _ | exact Go.RowKit.Hid.out (by assumption) | refine Up.trans ?_ (Up.drew _) | refine Up.trans ?_ (Up.drewN _ _) | refine Up.trans ?_ (Up.alloc _ _) | refine Up.trans ?_ (Go.RowKit.Hid.out (by assumption)))))).facts
         obtain ⟨b0, b1, -, -, lb⟩ := (HN2.out.up (w' := w6) (by (repeat (first | exact Below.refl _ _ | exact Go.RowKit.Hid.out (by assumption) | refine Up.trans ?_ (Up.drew _) | refine Up.trans ?_ (Up.drewN _ _) | refine Up.trans ?_ (Up.alloc _ _) | refine Up.trans ?_ (Go.RowKit.Hid.out (by assumption)))))).facts
         have HV6 := Lib.hid hv6
         have HV5b := Lib.hid (HV5.out.up hu6)
         clear hv6 hu6)
      | (go_at_call 41
         refine Calls.mono (HC.out _ _ _ HV5b.out HV6.out) ?_
         rintro e w7 ⟨rfl, hu7⟩
         have HU7 := Lib.hid hu7
         obtain ⟨a0, a1, -, -, la⟩ := (HN1.out.up (w' := w7) (by (repeat (first | exact Below.refl _ _ | exact Go.RowKit.Hid.out (by assumption) | refine Up.trans ?_ (Up.drew _) | refine Up.trans ?_ (Up.drewN _ _) | refine Up.trans ?_ (Up.alloc _ _) | refine Up.trans ?_ (Go.RowKit.Hid.out (by assumption)))))).facts
         obtain ⟨b0, b1, -, -, lb⟩ := (HN2.out.up (w' := w7) (by (repeat (first | exact Below.refl _ _ | exact Go.RowKit.Hid.out (by assumption) | refine Up.trans ?_ (Up.drew _) | refine Up.trans ?_ (Up.drewN _ _) | refine Up.trans ?_ (Up.alloc _ _) | refine Up.trans ?_ (Go.RowKit.Hid.out (by assumption)))))).facts
         clear hu7)))
  have HR8 := Lib.hid (HR.out.up (w' := w7) (by (repeat (first | exact Below.refl _ _ | exact Go.RowKit.Hid.out (by assumption) | refine Up.trans ?_ (Up.drew _) | refine Up.trans ?_ (Up.drewN _ _) | refine Up.trans ?_ (Up.alloc _ _) | refine Up.trans ?_ (Go.RowKit.Hid.out (by assumption))))))
  obtain ⟨r0, r1, g0, g1, lr⟩ := HR8.out.facts
  have HFF := Lib.hid ((HR8.out.set 0 1).facts)
  have HUF := Lib.hid ((show Up w w7 by (repeat (first | exact Below.refl _ _ | exact Go.RowKit.Hid.out (by assumption) | refine Up.trans ?_ (Up.drew _) | refine Up.trans ?_ (Up.drewN _ _) | refine Up.trans ?_ (Up.alloc _ _) | refine Up.trans ?_ (Go.RowKit.Hid.out (by assumption))))).stored (show w.heap.size ≤ w.heap.size + 1 + 1 by omega) (.int .i64 0) (.int .i64 1))
  go_wp2
  obtain ⟨z0, z1, -, -, -⟩ := HFF.out
  refine bodyPost_ret (by simp [results, Tryd.results15, go_sem, z0, z1]; try rfl) rfl ?_
  exact ⟨rfl, HUF.out⟩

set_option maxHeartbeats 1000000 in
set_option maxRecDepth 10000 in
/-- Between of two numbers that are less than 0, in their order. -/
theorem between_neg (x1 y1 x2 y2 X Y : Int) (w : World) (hk1 : okNum x1 y1 = true) (hk2 : okNum x2 y2 = true) (hle : x1 * y2 - x2 * y1 ≤ 0) (hp : ¬ 0 < x1) (hq : x2 < 0) (hX1 : -1152921504606846976 ≤ X) (hX2 : X ≤ 1152921504606846976) (ht : Tab w)
    (hrec : ∀ W, Up w W → Calls Tryd.prog 42 #[.agg #[.int .i64 (-x2), .int .i64 y2], .agg #[.int .i64 (-x1), .int .i64 y1]] W fun e w' => e = .returned (.agg #[.int .i64 X, .int .i64 Y]) ∧ Up W w') :
    Calls Tryd.prog 15 #[.agg #[.int .i64 x1, .int .i64 y1], .agg #[.int .i64 x2, .int .i64 y2]] w fun e w' => e = .returned (.tuple #[.agg #[.int .i64 (-X), .int .i64 Y], .int .i64 0]) ∧ Up w w' := by
  have q1 := ok_bounds hk1
  have q2 := ok_bounds hk2
  have HV1 := Lib.hid (fun W (hu : Up w W) => valid_any x1 y1 W (by omega) (by omega) (by omega) (by omega) (ht.up hu))
  have HV2 := Lib.hid (fun W (hu : Up w W) => valid_any x2 y2 W (by omega) (by omega) (by omega) (by omega) (ht.up hu))
  rw [hk1] at HV1
  rw [hk2] at HV2
  obtain ⟨e1, e2⟩ := ratOf_ok hk1
  obtain ⟨e3, e4⟩ := ratOf_ok hk2
  have f1 := ok_FB hk1
  have f2 := ok_FB hk2
  have HO1 := Lib.hid (fun W => fracOf_any x1 y1 (ratOf x1 y1) W e1 e2 (by omega) (by omega) (by omega) (by omega))
  have HO2 := Lib.hid (fun W => fracOf_any x2 y2 (ratOf x2 y2) W e3 e4 (by omega) (by omega) (by omega) (by omega))
  have HC := Lib.hid (fun W u1 u2 (hv1 : FV W u1 (ratOf x1 y1)) (hv2 : FV W u2 (ratOf x2 y2)) => fracCmp_any u1 u2 (ratOf x1 y1) (ratOf x2 y2) W hv1 hv2 f1 f2)
  rw [e1, e2, e3, e4] at HC
  obtain ⟨sg, hsg⟩ : ∃ sg, sg = (x1 * y2 - x2 * y1).sign := ⟨_, rfl⟩
  rw [← hsg] at HC
  have hsg0 : ¬ 0 < sg := by
    rw [hsg]; intro h; have := Int.sign_pos_iff.1 h; omega
  have hsd : decide (0 < sg) = false := decide_eq_false hsg0
  have hpd : decide (0 < x1) = false := decide_eq_false hp
  have HN1' := Lib.hid (fun W => negative_any x1 y1 W (by omega) (by omega))
  have HN2' := Lib.hid (fun W => negative_any x2 y2 W (by omega) (by omega))
  have HN3' := Lib.hid (fun W => negative_any X Y W hX1 hX2)
  have HREC := Lib.hid hrec
  obtain ⟨X', hX'⟩ : ∃ X', X' = -X := ⟨_, rfl⟩
  rw [← hX'] at HN3' ⊢
  obtain ⟨m1, hm1⟩ : ∃ m1, m1 = -x1 := ⟨_, rfl⟩
  obtain ⟨m2, hm2⟩ : ∃ m2, m2 = -x2 := ⟨_, rfl⟩
  rw [← hm1] at HN1' HREC
  rw [← hm2] at HN2' HREC
  clear hle hrec hX' hm1 hm2 hX1 hX2
  clear hk1 hk2 ht q1 q2 e1 e2 e3 e4 f1 f2 hsg
  go_enter Tryd.func15, Tryd.ntmps15
  go_wp2_with fail
  obtain ⟨wB, hwB, hn1, hn2, hr, hu0⟩ := startNN w x1 y1 x2 y2
  rw [hwB]
  clear hwB
  have HN1 := Lib.hid hn1
  have HN2 := Lib.hid hn2
  have HR := Lib.hid hr
  have HU := Lib.hid hu0
  clear hn1 hn2 hr hu0
  refine Calls.mono (HV1.out _ (by (repeat (first | exact Below.refl _ _ | exact Go.RowKit.Hid.out (by assumption) | refine Up.trans ?_ (Up.drew _) | refine Up.trans ?_ (Up.drewN _ _) | refine Up.trans ?_ (Up.alloc _ _) | refine Up.trans ?_ (Go.RowKit.Hid.out (by assumption)))))) ?_
  rintro e w1 ⟨rfl, hu1⟩
  have HU1 := Lib.hid hu1
  clear hu1
  obtain ⟨b0, b1, -, -, lb⟩ := (HN2.out.up (w' := w1) (by (repeat (first | exact Below.refl _ _ | exact Go.RowKit.Hid.out (by assumption) | refine Up.trans ?_ (Up.drew _) | refine Up.trans ?_ (Up.drewN _ _) | refine Up.trans ?_ (Up.alloc _ _) | refine Up.trans ?_ (Go.RowKit.Hid.out (by assumption)))))).facts
  go_wp2_with fail
  refine Calls.mono (HV2.out _ (by (repeat (first | exact Below.refl _ _ | exact Go.RowKit.Hid.out (by assumption) | refine Up.trans ?_ (Up.drew _) | refine Up.trans ?_ (Up.drewN _ _) | refine Up.trans ?_ (Up.alloc _ _) | refine Up.trans ?_ (Go.RowKit.Hid.out (by assumption)))))) ?_
  rintro e w2 ⟨rfl, hu2⟩
  have HU2 := Lib.hid hu2
  clear hu2
  obtain ⟨a0, a1, -, -, la⟩ := (HN1.out.up (w' := w2) (by (repeat (first | exact Below.refl _ _ | exact Go.RowKit.Hid.out (by assumption) | refine Up.trans ?_ (Up.drew _) | refine Up.trans ?_ (Up.drewN _ _) | refine Up.trans ?_ (Up.alloc _ _) | refine Up.trans ?_ (Go.RowKit.Hid.out (by assumption)))))).facts
  obtain ⟨b0, b1, -, -, lb⟩ := (HN2.out.up (w' := w2) (by (repeat (first | exact Below.refl _ _ | exact Go.RowKit.Hid.out (by assumption) | refine Up.trans ?_ (Up.drew _) | refine Up.trans ?_ (Up.drewN _ _) | refine Up.trans ?_ (Up.alloc _ _) | refine Up.trans ?_ (Go.RowKit.Hid.out (by assumption)))))).facts
  go_wp2_with fail
  go_region_held3 (fun w' => w'.cell? ⟨w.heap.size, 0, none⟩ = some (.int .i64 x1) ∧ w'.cell? ⟨w.heap.size, 1, none⟩ = some (.int .i64 y1) ∧ w'.cell? ⟨w.heap.size + 1, 0, none⟩ = some (.int .i64 x2) ∧ w'.cell? ⟨w.heap.size + 1, 1, none⟩ = some (.int .i64 y2)) (go_keep)
    ((first
      | (go_at_call_of 40 (Value.int IntKind.i64 x1)
         refine Calls.mono (HO1.out _) ?_
         rintro e w5 ⟨v5, rfl, hv5, hu5⟩
         have HU5 := Lib.hid hu5
         obtain ⟨a0, a1, -, -, la⟩ := (HN1.out.up (w' := w5) (by (repeat (first | exact Below.refl _ _ | exact Go.RowKit.Hid.out (by assumption) | refine Up.trans ?_ (Up.drew _) | refine Up.trans ?_ (Up.drewN _ _) | refine Up.trans ?_ (Up.alloc _ _) | refine Up.trans ?_ (Go.RowKit.Hid.out (by assumption)))))).facts
         obtain ⟨b0, b1, -, -, lb⟩ := (HN2.out.up (w' := w5) (by (repeat (first | exact Below.refl _ _ | exact Go.RowKit.Hid.out (by assumption) | refine Up.trans ?_ (Up.drew _) | refine Up.trans ?_ (Up.drewN _ _) | refine Up.trans ?_ (Up.alloc _ _) | refine Up.trans ?_ (Go.RowKit.Hid.out (by assumption)))))).facts
         have HV5 := Lib.hid hv5
         clear hv5 hu5)
      | (go_at_call_of 40 (Value.int IntKind.i64 x2)
         refine Calls.mono (HO2.out _) ?_
         rintro e w6 ⟨v6, rfl, hv6, hu6⟩
         have HU6 := Lib.hid hu6
         obtain ⟨a0, a1, -, -, la⟩ := (HN1.out.up (w' := w6) (by (repeat (first | exact Below.refl _ _ | exact Go.RowKit.Hid.out (by assumption) | refine Up.trans ?_ (Up.drew _) | refine Up.trans ?_ (Up.drewN _ _) | refine Up.trans ?_ (Up.alloc _ _) | refine Up.trans ?_ (Go.RowKit.Hid.out (by assumption)))))).facts
         obtain ⟨b0, b1, -, -, lb⟩ := (HN2.out.up (w' := w6) (by (repeat (first | exact Below.refl _ _ | exact Go.RowKit.Hid.out (by assumption) | refine Up.trans ?_ (Up.drew _) | refine Up.trans ?_ (Up.drewN _ _) | refine Up.trans ?_ (Up.alloc _ _) | refine Up.trans ?_ (Go.RowKit.Hid.out (by assumption)))))).facts
         have HV6 := Lib.hid hv6
         have HV5b := Lib.hid (HV5.out.up hu6)
         clear hv6 hu6)
      | (go_at_call 41
         refine Calls.mono (HC.out _ _ _ HV5b.out HV6.out) ?_
         rintro e w7 ⟨rfl, hu7⟩
         have HU7 := Lib.hid hu7
         obtain ⟨a0, a1, -, -, la⟩ := (HN1.out.up (w' := w7) (by (repeat (first | exact Below.refl _ _ | exact Go.RowKit.Hid.out (by assumption) | refine Up.trans ?_ (Up.drew _) | refine Up.trans ?_ (Up.drewN _ _) | refine Up.trans ?_ (Up.alloc _ _) | refine Up.trans ?_ (Go.RowKit.Hid.out (by assumption)))))).facts
         obtain ⟨b0, b1, -, -, lb⟩ := (HN2.out.up (w' := w7) (by (repeat (first | exact Below.refl _ _ | exact Go.RowKit.Hid.out (by assumption) | refine Up.trans ?_ (Up.drew _) | refine Up.trans ?_ (Up.drewN _ _) | refine Up.trans ?_ (Up.alloc _ _) | refine Up.trans ?_ (Go.RowKit.Hid.out (by assumption)))))).facts
         clear hu7)))
  go_wp2_with fail
  have hne1 : (w.heap.size = w.heap.size + 1 + 1) = False := by simp; omega
  have hne2 : (w.heap.size + 1 + 1 = w.heap.size) = False := by simp; omega
  go_region_held3 (fun w' => w'.cell? ⟨w.heap.size, 0, none⟩ = some (.int .i64 x1) ∧ w'.cell? ⟨w.heap.size, 1, none⟩ = some (.int .i64 y1) ∧ w'.cell? ⟨w.heap.size + 1, 0, none⟩ = some (.int .i64 x2) ∧ w'.cell? ⟨w.heap.size + 1, 1, none⟩ = some (.int .i64 y2)) (go_keep)
    ((first
      | (go_at_call_of 43 (Value.agg #[.int .i64 x2, .int .i64 y2])
         refine Calls.mono (HN2'.out _) ?_
         rintro e w8 ⟨rfl, hu8⟩
         have HU8 := Lib.hid hu8
         obtain ⟨a0, a1, -, -, la⟩ := (HN1.out.up (w' := w8) (by (repeat (first | exact Below.refl _ _ | exact Go.RowKit.Hid.out (by assumption) | refine Up.trans ?_ (Up.drew _) | refine Up.trans ?_ (Up.drewN _ _) | refine Up.trans ?_ (Up.alloc _ _) | refine Up.trans ?_ (Go.RowKit.Hid.out (by assumption)))))).facts
         obtain ⟨b0, b1, -, -, lb⟩ := (HN2.out.up (w' := w8) (by (repeat (first | exact Below.refl _ _ | exact Go.RowKit.Hid.out (by assumption) | refine Up.trans ?_ (Up.drew _) | refine Up.trans ?_ (Up.drewN _ _) | refine Up.trans ?_ (Up.alloc _ _) | refine Up.trans ?_ (Go.RowKit.Hid.out (by assumption)))))).facts
         clear hu8)
      | (go_at_call_of 43 (Value.agg #[.int .i64 x1, .int .i64 y1])
         refine Calls.mono (HN1'.out _) ?_
         rintro e w9 ⟨rfl, hu9⟩
         have HU9 := Lib.hid hu9
         obtain ⟨a0, a1, -, -, la⟩ := (HN1.out.up (w' := w9) (by (repeat (first | exact Below.refl _ _ | exact Go.RowKit.Hid.out (by assumption) | refine Up.trans ?_ (Up.drew _) | refine Up.trans ?_ (Up.drewN _ _) | refine Up.trans ?_ (Up.alloc _ _) | refine Up.trans ?_ (Go.RowKit.Hid.out (by assumption)))))).facts
         obtain ⟨b0, b1, -, -, lb⟩ := (HN2.out.up (w' := w9) (by (repeat (first | exact Below.refl _ _ | exact Go.RowKit.Hid.out (by assumption) | refine Up.trans ?_ (Up.drew _) | refine Up.trans ?_ (Up.drewN _ _) | refine Up.trans ?_ (Up.alloc _ _) | refine Up.trans ?_ (Go.RowKit.Hid.out (by assumption)))))).facts
         clear hu9)
      | (go_at_call 42
         refine Calls.mono (HREC.out _ (by (repeat (first | exact Below.refl _ _ | exact Go.RowKit.Hid.out (by assumption) | refine Up.trans ?_ (Up.drew _) | refine Up.trans ?_ (Up.drewN _ _) | refine Up.trans ?_ (Up.alloc _ _) | refine Up.trans ?_ (Go.RowKit.Hid.out (by assumption)))))) ?_
         rintro e w10 ⟨rfl, hu10⟩
         have HU10 := Lib.hid hu10
         obtain ⟨a0, a1, -, -, la⟩ := (HN1.out.up (w' := w10) (by (repeat (first | exact Below.refl _ _ | exact Go.RowKit.Hid.out (by assumption) | refine Up.trans ?_ (Up.drew _) | refine Up.trans ?_ (Up.drewN _ _) | refine Up.trans ?_ (Up.alloc _ _) | refine Up.trans ?_ (Go.RowKit.Hid.out (by assumption)))))).facts
         obtain ⟨b0, b1, -, -, lb⟩ := (HN2.out.up (w' := w10) (by (repeat (first | exact Below.refl _ _ | exact Go.RowKit.Hid.out (by assumption) | refine Up.trans ?_ (Up.drew _) | refine Up.trans ?_ (Up.drewN _ _) | refine Up.trans ?_ (Up.alloc _ _) | refine Up.trans ?_ (Go.RowKit.Hid.out (by assumption)))))).facts
         clear hu10)
      | (go_at_call_of 43 (Value.agg #[.int .i64 X, .int .i64 Y])
         refine Calls.mono (HN3'.out _) ?_
         rintro e w11 ⟨rfl, hu11⟩
         have HU11 := Lib.hid hu11
         obtain ⟨a0, a1, -, -, la⟩ := (HN1.out.up (w' := w11) (by (repeat (first | exact Below.refl _ _ | exact Go.RowKit.Hid.out (by assumption) | refine Up.trans ?_ (Up.drew _) | refine Up.trans ?_ (Up.drewN _ _) | refine Up.trans ?_ (Up.alloc _ _) | refine Up.trans ?_ (Go.RowKit.Hid.out (by assumption)))))).facts
         obtain ⟨b0, b1, -, -, lb⟩ := (HN2.out.up (w' := w11) (by (repeat (first | exact Below.refl _ _ | exact Go.RowKit.Hid.out (by assumption) | refine Up.trans ?_ (Up.drew _) | refine Up.trans ?_ (Up.drewN _ _) | refine Up.trans ?_ (Up.alloc _ _) | refine Up.trans ?_ (Go.RowKit.Hid.out (by assumption)))))).facts
         have HR8 := Lib.hid (HR.out.up (w' := w11) (by (repeat (first | exact Below.refl _ _ | exact Go.RowKit.Hid.out (by assumption) | refine Up.trans ?_ (Up.drew _) | refine Up.trans ?_ (Up.drewN _ _) | refine Up.trans ?_ (Up.alloc _ _) | refine Up.trans ?_ (Go.RowKit.Hid.out (by assumption))))))
         obtain ⟨r0, r1, g0, g1, lr⟩ := HR8.out.facts
         clear hu11)))
  have HFF := Lib.hid ((HR8.out.set X' Y).facts)
  have HUF := Lib.hid ((show Up w w11 by (repeat (first | exact Below.refl _ _ | exact Go.RowKit.Hid.out (by assumption) | refine Up.trans ?_ (Up.drew _) | refine Up.trans ?_ (Up.drewN _ _) | refine Up.trans ?_ (Up.alloc _ _) | refine Up.trans ?_ (Go.RowKit.Hid.out (by assumption))))).stored (show w.heap.size ≤ w.heap.size + 1 + 1 by omega) (.int .i64 X') (.int .i64 Y))
  go_wp2
  obtain ⟨z0, z1, -, -, -⟩ := HFF.out
  refine bodyPost_ret (by simp [results, Tryd.results15, go_sem, z0, z1]; try rfl) rfl ?_
  exact ⟨rfl, HUF.out⟩

end Go.Proofs.YtimlainffbpfdaaDoor
namespace Go.Proofs.YtimlainffbpfdaaDoor
open Go.RowKit Fm

/-- What Between answers. -/
inductive Btw (x1 y1 x2 y2 : Int) : Int → Int → Int → Prop
  | arg (h : (okNum x1 y1 && okNum x2 y2) = false) : Btw x1 y1 x2 y2 0 0 1
  | range (h1 : okNum x1 y1 = true) (h2 : okNum x2 y2 = true) (h : 0 < x1 * y2 - x2 * y1) : Btw x1 y1 x2 y2 0 0 6
  | pos (X Y : Int) (h1 : okNum x1 y1 = true) (h2 : okNum x2 y2 = true) (h : x1 * y2 - x2 * y1 ≤ 0) (hp : 0 < x1) (s : Cfr x1 y1 x2 y2 X Y) : Btw x1 y1 x2 y2 X Y 0
  | neg (X Y : Int) (h1 : okNum x1 y1 = true) (h2 : okNum x2 y2 = true) (h : x1 * y2 - x2 * y1 ≤ 0) (hp : ¬ 0 < x1) (hq : x2 < 0) (s : Cfr (-x2) y2 (-x1) y1 X Y) : Btw x1 y1 x2 y2 (-X) Y 0
  | zero (h1 : okNum x1 y1 = true) (h2 : okNum x2 y2 = true) (h : x1 * y2 - x2 * y1 ≤ 0) (hp : ¬ 0 < x1) (hq : ¬ x2 < 0) : Btw x1 y1 x2 y2 0 1 0

theorem prs_pos {x1 y1 x2 y2 : Int} (h1 : okNum x1 y1 = true) (h2 : okNum x2 y2 = true) (h : x1 * y2 - x2 * y1 ≤ 0) (hp : 0 < x1) : Prs x1 y1 x2 y2 := by
  have b1 := ok_bounds h1
  have b2 := ok_bounds h2
  refine ⟨hp, by omega, ?_, by omega, by omega⟩
  have h3 : 0 < x1 * y2 := Int.mul_pos hp (by omega)
  have h4 : 0 < x2 * y1 := by omega
  exact Int.pos_of_mul_pos_left h4 (by omega)
theorem prs_neg {x1 y1 x2 y2 : Int} (h1 : okNum x1 y1 = true) (h2 : okNum x2 y2 = true) (h : x1 * y2 - x2 * y1 ≤ 0) (hq : x2 < 0) : Prs (-x2) y2 (-x1) y1 := by
  have b1 := ok_bounds h1
  have b2 := ok_bounds h2
  have h3 : 0 < -x2 * y1 := Int.mul_pos (by omega) (by omega)
  have h4 : 0 < -x1 * y2 := by rw [Int.neg_mul] at *; omega
  refine ⟨by omega, by omega, Int.pos_of_mul_pos_left h4 (by omega), by omega, ?_⟩
  rw [Int.neg_mul, Int.neg_mul]; omega
/-- The answer without an error: a number between, with the least Low and with it the least absolute value. -/
theorem Btw.least {x1 y1 x2 y2 X Y E : Int} (h : Btw x1 y1 x2 y2 X Y E) (h0 : E = 0) :
    okNum x1 y1 = true ∧ okNum x2 y2 = true ∧ okNum X Y = true ∧ x1 * Y - X * y1 ≤ 0 ∧ X * y2 - x2 * Y ≤ 0 ∧
      ∀ p q, 0 < q → x1 * q - p * y1 ≤ 0 → p * y2 - x2 * q ≤ 0 → Y < q ∨ (q = Y ∧ X.natAbs ≤ p.natAbs) := by
  cases h with
  | arg h => omega
  | range h1 h2 h => omega
  | pos _ _ h1 h2 h hp s =>
    have o := prs_pos h1 h2 h hp
    obtain ⟨l1, l2, l3, l4, l5, l6⟩ := s.least o
    have b1 := ok_bounds h1
    obtain ⟨m1, m2⟩ := l6 x1 y1 o.q1 (Int.le_refl _) o.le
    refine ⟨h1, h2, ?_, by omega, by omega, fun p q hq hp1 hp2 => ?_⟩
    · unfold okNum
      exact decide_eq_true ⟨by omega, by omega, by omega, by omega, l5⟩
    · obtain ⟨n1, n2⟩ := l6 p q hq (by omega) (by omega)
      omega
  | neg X Y h1 h2 h hp hq s =>
    have o := prs_neg h1 h2 h hq
    obtain ⟨l1, l2, l3, l4, l5, l6⟩ := s.least o
    have b2 := ok_bounds h2
    obtain ⟨m1, m2⟩ := l6 (-x2) y2 o.q1 (Int.le_refl _) o.le
    refine ⟨h1, h2, ?_, ?_, ?_, fun p q hq hp1 hp2 => ?_⟩
    · unfold okNum
      exact decide_eq_true ⟨by omega, by omega, by omega, by omega, by simpa using l5⟩
    · rw [Int.neg_mul] at *; omega
    · rw [Int.neg_mul] at *; omega
    · obtain ⟨n1, n2⟩ := l6 (-p) q hq (by rw [Int.neg_mul, Int.neg_mul]; omega) (by rw [Int.neg_mul, Int.neg_mul]; omega)
      omega
  | zero h1 h2 h hp hq =>
    refine ⟨h1, h2, by decide, by omega, by omega, fun p q hq hp1 hp2 => by omega⟩
theorem Btw.rng {x1 y1 x2 y2 X Y E : Int} (h : Btw x1 y1 x2 y2 X Y E) : Rng X Y := by
  by_cases h0 : E = 0
  · have := ok_bounds (h.least h0).2.2.1
    exact ⟨by omega, by omega, by omega, by omega⟩
  · cases h with
    | arg h => exact ⟨by omega, by omega, by omega, by omega⟩
    | range h1 h2 h => exact ⟨by omega, by omega, by omega, by omega⟩
    | pos _ _ h1 h2 h hp s => omega
    | neg X Y h1 h2 h hp hq s => omega
    | zero h1 h2 h hp hq => omega

theorem numBetween_any (x1 y1 x2 y2 : Int) (w : World) (h1 : Rng x1 y1) (h2 : Rng x2 y2) (ht : Tab w) : ∃ X Y E, Btw x1 y1 x2 y2 X Y E ∧
    Hid (∀ W, Up w W → Calls Tryd.prog 15 #[.agg #[.int .i64 x1, .int .i64 y1], .agg #[.int .i64 x2, .int .i64 y2]] W fun e w' => e = .returned (.tuple #[.agg #[.int .i64 X, .int .i64 Y], .int .i64 E]) ∧ Up W w') := by
  rcases hk : okNum x1 y1 && okNum x2 y2 with _ | _
  · exact ⟨_, _, _, .arg hk, Lib.hid fun W hu => between_arg x1 y1 x2 y2 W h1 h2 hk (ht.up hu)⟩
  · rw [Bool.and_eq_true] at hk
    obtain ⟨hk1, hk2⟩ := hk
    have b1 := ok_bounds hk1
    have b2 := ok_bounds hk2
    by_cases hle : x1 * y2 - x2 * y1 ≤ 0
    · by_cases hp : 0 < x1
      · have o := prs_pos hk1 hk2 hle hp
        obtain ⟨X, Y, hs⟩ := Cfr.exists_ o
        exact ⟨X, Y, 0, .pos _ _ hk1 hk2 hle hp hs, Lib.hid fun W hu => between_pos x1 y1 x2 y2 X Y W hk1 hk2 hle hp (ht.up hu) (fun W' _ => numSimplest_any hs o (by omega) (by omega) (by omega) (by omega) W')⟩
      · by_cases hq : x2 < 0
        · have o := prs_neg hk1 hk2 hle hq
          obtain ⟨X, Y, hs⟩ := Cfr.exists_ o
          have hb := Btw.neg _ _ hk1 hk2 hle hp hq hs
          have hX := ok_bounds (hb.least rfl).2.2.1
          exact ⟨-X, Y, 0, hb, Lib.hid fun W hu => between_neg x1 y1 x2 y2 X Y W hk1 hk2 hle hp hq (by omega) (by omega) (ht.up hu) (fun W' _ => numSimplest_any hs o (by omega) (by omega) (by omega) (by omega) W')⟩
        · exact ⟨0, 1, 0, .zero hk1 hk2 hle hp hq, Lib.hid fun W hu => between_zero x1 y1 x2 y2 W hk1 hk2 hle hp hq (ht.up hu)⟩
    · exact ⟨0, 0, 6, .range hk1 hk2 (by omega), Lib.hid fun W hu => between_range x1 y1 x2 y2 W hk1 hk2 (by omega) (ht.up hu)⟩
end Go.Proofs.YtimlainffbpfdaaDoor
