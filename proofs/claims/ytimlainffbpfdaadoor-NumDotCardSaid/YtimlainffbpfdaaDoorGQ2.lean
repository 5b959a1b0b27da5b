/- Contracts of the reference implementation: rounding. -/
import Derived.Test.YtimlainffbpfdaaDoorGQ
namespace Go.Proofs.YtimlainffbpfdaaDoor
open Go.RowKit Fm

set_option maxHeartbeats 1000000 in
set_option maxRecDepth 10000 in
theorem refFraction_ok (x y : Int) (w : World) (hr : Rng x y) (h0 : y ≠ 0) :
    Calls Tryd.prog 9 #[.int .i64 x, .int .i64 y] w fun e w' => e = .returned (.tuple #[.agg #[.int .i64 (numX true (ratOf x y)), .int .i64 (numY true (ratOf x y))], .int .i64 (numE true (ratOf x y))]) ∧ Up w w' := by
  obtain ⟨r1, r2, r3, r4⟩ := hr
  have HO1 := Lib.hid (fun W => refOf_any x W r1 r2)
  have HO2 := Lib.hid (fun W => refOf_any y W r3 r4)
  have HN := Lib.hid (fun W u1 u2 (hv1 : RI W u1 x) (hv2 : RI W u2 y) => refMake_q u1 u2 x y W hv1 hv2 h0 (Nat.le_trans (rl_int r1 r2) (by omega)) (Nat.le_trans (rl_int r3 r4) (by omega)))
  have HL := Lib.hid (fun W u (hv : RQ W u (ratOf x y)) => refNum_q u _ W hv)
  have hz : (y == 0) = false := by simp [h0]
  generalize ratOf x y = q at *
  generalize numX true q = rx at *
  generalize numY true q = ry at *
  generalize numE true q = re at *
  clear r1 r2 r3 r4
  go_enter Tryd.func9, Tryd.ntmps9
  go_wp2_with fail
  have HU := Lib.hid (Up.alloc w (.cells #[.int .i64 0, .int .i64 0] 23))
  have HR := Lib.hid (CellN.new w 0 0)
  generalize w.alloc (.cells #[.int .i64 0, .int .i64 0] 23) = wB at *
  refine Calls.mono (HO1.out _) ?_
  rintro e w1 ⟨v1, rfl, hv1, hu1⟩
  have HU1 := Lib.hid hu1
  have HV1 := Lib.hid hv1
  clear hu1 hv1
  go_wp2_with fail
  refine Calls.mono (HO2.out _) ?_
  rintro e w2 ⟨v2, rfl, hv2, hu2⟩
  have HU2 := Lib.hid hu2
  have HV2 := Lib.hid hv2
  have HV1b := Lib.hid (HV1.out.up hu2)
  clear hu2 hv2
  go_wp2_with fail
  refine Calls.mono (HN.out _ _ _ HV1b.out HV2.out) ?_
  rintro e w3 ⟨v3, rfl, hv3, hu3⟩
  have HU3 := Lib.hid hu3
  have HV3 := Lib.hid hv3
  clear hu3 hv3
  go_wp2_with fail
  refine Calls.mono (HL.out _ _ HV3.out) ?_
  rintro e w4 ⟨rfl, hu4⟩
  have HU4 := Lib.hid hu4
  clear hu4
  have HR4 := Lib.hid (HR.out.up (w' := w4) (by (repeat (first | exact Below.refl _ _ | exact Go.RowKit.Hid.out (by assumption) | refine Up.trans ?_ (Up.drew _) | refine Up.trans ?_ (Up.drewN _ _) | refine Up.trans ?_ (Up.alloc _ _) | refine Up.trans ?_ (Go.RowKit.Hid.out (by assumption))))))
  obtain ⟨r0, r1, g0, g1, lr⟩ := HR4.out.facts
  have HFF := Lib.hid ((HR4.out.set rx ry).facts)
  have HUF := Lib.hid ((show Up w w4 by (repeat (first | exact Below.refl _ _ | exact Go.RowKit.Hid.out (by assumption) | refine Up.trans ?_ (Up.drew _) | refine Up.trans ?_ (Up.drewN _ _) | refine Up.trans ?_ (Up.alloc _ _) | refine Up.trans ?_ (Go.RowKit.Hid.out (by assumption))))).stored (show w.heap.size ≤ w.heap.size by omega) (.int .i64 rx) (.int .i64 ry))
  go_wp2
  obtain ⟨z0, z1, -, -, -⟩ := HFF.out
  refine bodyPost_ret (by simp [results, Tryd.results9, go_sem, z0, z1]; try rfl) rfl ?_
  exact ⟨rfl, HUF.out⟩

set_option maxRecDepth 10000 in
theorem refFraction_none (x : Int) (w : World) :
    Calls Tryd.prog 9 #[.int .i64 x, .int .i64 0] w fun e w' => e = .returned (.tuple #[.agg #[.int .i64 0, .int .i64 0], .int .i64 6]) ∧ Up w w' := by
  go_enter Tryd.func9, Tryd.ntmps9
  go_wp2
  refine bodyPost_ret (by simp [results, Tryd.results9, go_sem]; try rfl) rfl ?_
  exact ⟨rfl, Up.alloc _ _⟩

theorem floor_of (x y : Int) (hy : 0 < y) : x / y = if (x.tmod y).sign < 0 then x.tdiv y - 1 else x.tdiv y := by
  by_cases h : x.tmod y < 0
  · rw [if_pos (Int.sign_neg_iff.2 h), floor_neg hy h]
  · rw [if_neg (by rw [Int.sign_neg_iff]; exact h), floor_pos hy h]

set_option maxHeartbeats 2000000 in
set_option maxRecDepth 10000 in
theorem refDown_any (v : Value) (p q : Int) (w : World) (h : RR w v p q) (hq : 0 < q) (hp : rl p ≤ 536870912) :
    Calls Tryd.prog 35 #[v] w fun e w' => ∃ v', e = .returned v' ∧ RI w' v' (p / q) ∧ Up w w' := by
  have hpt : rl (p.tdiv q) ≤ 536870912 := rl_tdiv hp
  have HLE := Lib.hid (fun W u1 u2 (h1 : RI W u1 (p.tdiv q)) (h2 : RI W u2 1) => refLess_any u1 u2 _ _ W h1 h2 hpt (Nat.le_trans (rl_int (z := 1) (by omega) (by omega)) (by omega)))
  have HO1 := Lib.hid (fun W => refOf_any 1 W (by omega) (by omega))
  obtain ⟨s, s2, g, g2, A, A2, n, c, n2, c2, rfl, hp1, hp2⟩ := h
  have HOV := Lib.hid (fun W (hu : Up w W) => refOver_any _ _ p q W (hp1.up hu) (hp2.up hu) (by omega) hp)
  have HSI := Lib.hid (fun W u (hv : RI W u (p.tmod q)) => refSign_any u _ W hv)
  have HFL := Lib.hid (floor_of p q hq)
  obtain ⟨sg, hsg⟩ : ∃ sg, sg = (p.tmod q).sign := ⟨_, rfl⟩
  rw [← hsg] at HSI HFL
  generalize p.tdiv q = z at *
  generalize p.tmod q = r at *
  generalize p / q = f at *
  clear hp1 hp2 hp hpt hsg hq
  go_enter Tryd.func35, Tryd.ntmps35
  go_wp2_with fail
  have HC := Lib.hid (CellR.new w s g (.slice A n c) s2 g2 (.slice A2 n2 c2))
  obtain ⟨wB, hwB⟩ : ∃ wB, wB = (w.alloc (.cells #[.int .i64 s, .bool g, .slice A n c, .int .i64 s2, .bool g2, .slice A2 n2 c2] 38)).alloc (.cells #[.int .i64 0, .bool false, .slice none 0 0] 36) := ⟨_, rfl⟩
  have HR := Lib.hid (show Res3 wB (w.heap.size + 1) by rw [hwB]; have := Res3.new (w.alloc (.cells #[.int .i64 s, .bool g, .slice A n c, .int .i64 s2, .bool g2, .slice A2 n2 c2] 38)); simpa using this)
  have HU := Lib.hid (show Up w wB by rw [hwB]; exact (Up.alloc _ _).trans (Up.alloc _ _))
  rw [← hwB]
  clear hwB
  refine Calls.mono (HOV.out _ (by (repeat (first | exact Below.refl _ _ | exact Go.RowKit.Hid.out (by assumption) | refine Up.trans ?_ (Up.drew _) | refine Up.trans ?_ (Up.drewN _ _) | refine Up.trans ?_ (Up.alloc _ _) | refine Up.trans ?_ (Go.RowKit.Hid.out (by assumption)))))) ?_
  rintro e w1 ⟨q', r', rfl, hq', hr', hu1⟩
  have HU1 := Lib.hid hu1
  have HV1 := Lib.hid hq'
  have HV2 := Lib.hid hr'
  obtain ⟨s3, g3, A3, n3, c3, rfl, -⟩ := hq'
  obtain ⟨s4, g4, A4, n4, c4, rfl, -⟩ := hr'
  clear hu1
  obtain ⟨wC, hwC⟩ : ∃ wC, wC = (w1.alloc (.cells #[.int .i64 s3, .bool g3, .slice A3 n3 c3] 36)).alloc (.cells #[.int .i64 s4, .bool g4, .slice A4 n4 c4] 36) := ⟨_, rfl⟩
  have HUC := Lib.hid (show Up w1 wC by rw [hwC]; exact (Up.alloc _ _).trans (Up.alloc _ _))
  have HQ := Lib.hid (show CellI wC w1.heap.size s3 g3 (.slice A3 n3 c3) by rw [hwC]; exact (CellI.new _ _ _ _).up (Up.alloc _ _))
  have hbs : w.heap.size + 1 < w1.heap.size := Nat.lt_of_lt_of_le HR.out.lt (show Up wB w1 by (repeat (first | exact Below.refl _ _ | exact Go.RowKit.Hid.out (by assumption) | refine Up.trans ?_ (Up.drew _) | refine Up.trans ?_ (Up.drewN _ _) | refine Up.trans ?_ (Up.alloc _ _) | refine Up.trans ?_ (Go.RowKit.Hid.out (by assumption))))).size
  go_wp2_with fail
  rw [← hwC]
  clear hwC
  refine Calls.mono (HSI.out _ _ (HV2.out.up HUC.out)) ?_
  rintro e w2 ⟨rfl, hu2⟩
  have HU2 := Lib.hid hu2
  have HV1b := Lib.hid ((HV1.out.up HUC.out).up hu2)
  clear hu2
  have hne1 : (w1.heap.size = w.heap.size + 1) = False := eq_false (by omega)
  have hne2 : (w.heap.size + 1 = w1.heap.size) = False := eq_false (by omega)
  obtain ⟨c0, c1, c2, lc⟩ := (HQ.out.up (w' := w2) (by (repeat (first | exact Below.refl _ _ | exact Go.RowKit.Hid.out (by assumption) | refine Up.trans ?_ (Up.drew _) | refine Up.trans ?_ (Up.drewN _ _) | refine Up.trans ?_ (Up.alloc _ _) | refine Up.trans ?_ (Go.RowKit.Hid.out (by assumption)))))).facts
  by_cases hs : sg < 0
  · have HFE : Hid (f = z - 1) := Lib.hid (by rw [HFL.out, if_pos hs])
    clear HFL
    go_upto_region 3 with fail
    go_region_held3 (fun w' => w'.cell? ⟨w1.heap.size, 0, none⟩ = some (.int .i64 s3) ∧ w'.cell? ⟨w1.heap.size, 1, none⟩ = some (.bool g3) ∧ w'.cell? ⟨w1.heap.size, 2, none⟩ = some (.slice A3 n3 c3)) (go_keep)
      ((first
        | (go_at_call 72
           refine Calls.mono (HLE.out _ _ _ HV1c.out HV3.out) ?_
           rintro e w5 ⟨v5, rfl, hv5, hu5⟩
           have HU5 := Lib.hid hu5
           have HV5 := Lib.hid hv5
           obtain ⟨s5, g5, A5, n5, c5, rfl, -⟩ := hv5
           clear hu5
           have HR5 := Lib.hid (HR.out.up (w' := w5) (by (repeat (first | exact Below.refl _ _ | exact Go.RowKit.Hid.out (by assumption) | refine Up.trans ?_ (Up.drew _) | refine Up.trans ?_ (Up.drewN _ _) | refine Up.trans ?_ (Up.alloc _ _) | refine Up.trans ?_ (Go.RowKit.Hid.out (by assumption))))))
           obtain ⟨r0, r1, r2, f0, f1, f2, lr⟩ := HR5.out.facts
           obtain ⟨c0, c1, c2, lc⟩ := (HQ.out.up (w' := w5) (by (repeat (first | exact Below.refl _ _ | exact Go.RowKit.Hid.out (by assumption) | refine Up.trans ?_ (Up.drew _) | refine Up.trans ?_ (Up.drewN _ _) | refine Up.trans ?_ (Up.alloc _ _) | refine Up.trans ?_ (Go.RowKit.Hid.out (by assumption)))))).facts)
        | (go_at_call 32
           refine Calls.mono (HO1.out _) ?_
           rintro e w3 ⟨v3, rfl, hv3, hu3⟩
           have HU3 := Lib.hid hu3
           have HV3 := Lib.hid hv3
           have HV1c := Lib.hid (HV1b.out.up (w' := w3) (by (repeat (first | exact Below.refl _ _ | exact Go.RowKit.Hid.out (by assumption) | refine Up.trans ?_ (Up.drew _) | refine Up.trans ?_ (Up.drewN _ _) | refine Up.trans ?_ (Up.alloc _ _) | refine Up.trans ?_ (Go.RowKit.Hid.out (by assumption))))))
           clear hu3 hv3
           obtain ⟨c0, c1, c2, lc⟩ := (HQ.out.up (w' := w3) (by (repeat (first | exact Below.refl _ _ | exact Go.RowKit.Hid.out (by assumption) | refine Up.trans ?_ (Up.drew _) | refine Up.trans ?_ (Up.drewN _ _) | refine Up.trans ?_ (Up.alloc _ _) | refine Up.trans ?_ (Go.RowKit.Hid.out (by assumption)))))).facts)))
    have HRES := Lib.hid (HV5.out.put HR5.out (.int .i64 s5) (.bool g5) (.slice A5 n5 c5))
    have HF := Lib.hid (HR5.out.stored (.int .i64 s5) (.bool g5) (.slice A5 n5 c5))
    have HUF := Lib.hid ((show Up w w5 by (repeat (first | exact Below.refl _ _ | exact Go.RowKit.Hid.out (by assumption) | refine Up.trans ?_ (Up.drew _) | refine Up.trans ?_ (Up.drewN _ _) | refine Up.trans ?_ (Up.alloc _ _) | refine Up.trans ?_ (Go.RowKit.Hid.out (by assumption))))).put3 (show w.heap.size ≤ w.heap.size + 1 by omega) (.int .i64 s5) (.bool g5) (.slice A5 n5 c5))
    go_wp2
    obtain ⟨z0, z1, z2⟩ := HF.out
    refine bodyPost_ret (by simp [results, Tryd.results35, go_sem, z0, z1, z2]; try rfl) rfl ?_
    refine ⟨_, rfl, ?_, HUF.out⟩
    rw [HFE.out]
    exact HRES.out
  · have HFE : Hid (f = z) := Lib.hid (by rw [HFL.out, if_neg hs])
    have hsd : decide (sg < 0) = false := decide_eq_false hs
    clear HFL
    have HR5 := Lib.hid (HR.out.up (w' := w2) (by (repeat (first | exact Below.refl _ _ | exact Go.RowKit.Hid.out (by assumption) | refine Up.trans ?_ (Up.drew _) | refine Up.trans ?_ (Up.drewN _ _) | refine Up.trans ?_ (Up.alloc _ _) | refine Up.trans ?_ (Go.RowKit.Hid.out (by assumption))))))
    obtain ⟨r0, r1, r2, f0, f1, f2, lr⟩ := HR5.out.facts
    have HRES := Lib.hid (HV1b.out.put HR5.out (.int .i64 s3) (.bool g3) (.slice A3 n3 c3))
    have HF := Lib.hid (HR5.out.stored (.int .i64 s3) (.bool g3) (.slice A3 n3 c3))
    have HUF := Lib.hid ((show Up w w2 by (repeat (first | exact Below.refl _ _ | exact Go.RowKit.Hid.out (by assumption) | refine Up.trans ?_ (Up.drew _) | refine Up.trans ?_ (Up.drewN _ _) | refine Up.trans ?_ (Up.alloc _ _) | refine Up.trans ?_ (Go.RowKit.Hid.out (by assumption))))).put3 (show w.heap.size ≤ w.heap.size + 1 by omega) (.int .i64 s3) (.bool g3) (.slice A3 n3 c3))
    go_wp2
    obtain ⟨z0, z1, z2⟩ := HF.out
    refine bodyPost_ret (by simp [results, Tryd.results35, go_sem, z0, z1, z2]; try rfl) rfl ?_
    refine ⟨_, rfl, ?_, HUF.out⟩
    rw [HFE.out]
    exact HRES.out
end Go.Proofs.YtimlainffbpfdaaDoor
namespace Go.Proofs.YtimlainffbpfdaaDoor
open Go.RowKit Fm

theorem div_small {x y : Int} (h1 : -1152921504606846976 ≤ x) (h2 : x ≤ 1152921504606846976) (hy : 1 ≤ y) : -1152921504606846976 ≤ x / y ∧ x / y ≤ 1152921504606846976 := by
  constructor
  · rw [Int.le_ediv_iff_mul_le (by omega)]
    have : -1152921504606846976 * y ≤ -1152921504606846976 * 1 := Int.mul_le_mul_of_nonpos_left (by omega) hy
    omega
  · have h3 := Int.ediv_mul_le x (b := y) (by omega)
    rcases Int.lt_or_le (x / y) 0 with h | h
    · omega
    · have : x / y * 1 ≤ x / y * y := Int.mul_le_mul_of_nonneg_left hy h
      omega

set_option maxHeartbeats 1000000 in
set_option maxRecDepth 10000 in
theorem refFloor_any (x y : Int) (w : World) (hr : Rng x y) :
    Calls Tryd.prog 11 #[.agg #[.int .i64 x, .int .i64 y]] w fun e w' => e = .returned (.tuple #[.int .i64 (if okNum x y then x / y else 0), .int .i64 (if okNum x y then 0 else 1)]) ∧ Up w w' := by
  have HV := Lib.hid (fun W => refValid_any x y W hr.1 hr.2.1 hr.2.2.1 hr.2.2.2)
  rw [refOk_eq] at HV
  rcases hk : okNum x y with _ | _
  · rw [hk] at HV
    simp only [if_false, Bool.false_eq_true]
    clear hk hr
    go_enter Tryd.func11, Tryd.ntmps11
    go_wp2_with fail
    have HU := Lib.hid (Up.alloc w (.cells #[.int .i64 x, .int .i64 y] 23))
    refine Calls.mono (HV.out _) ?_
    rintro e w1 ⟨rfl, hu1⟩
    have HU1 := Lib.hid hu1
    clear hu1
    go_wp2
    refine bodyPost_ret (by simp [results, Tryd.results11, go_sem]; try rfl) rfl ?_
    exact ⟨rfl, by (repeat (first | exact Below.refl _ _ | exact Go.RowKit.Hid.out (by assumption) | refine Up.trans ?_ (Up.drew _) | refine Up.trans ?_ (Up.drewN _ _) | refine Up.trans ?_ (Up.alloc _ _) | refine Up.trans ?_ (Go.RowKit.Hid.out (by assumption))))⟩
  · have hb := ok_bounds hk
    have HT := Lib.hid (fun W => refTo_any x y W hr.1 hr.2.1 hr.2.2.1 hr.2.2.2)
    have HD := Lib.hid (fun W v (h : RR W v x y) => refDown_any v x y W h (by omega) (Nat.le_trans (rl_int hr.1 hr.2.1) (by omega)))
    have HS := Lib.hid (fun W v (h : RI W v (x / y)) => refSmall_any' v _ W h)
    have hs : smallOk (x / y) = true := by unfold smallOk; exact decide_eq_true (div_small hb.2.2.1 hb.2.2.2 hb.1)
    rw [hs] at HS
    rw [hk] at HV
    simp only [if_true] at HS ⊢
    generalize x / y = z at *
    clear hk hr hb hs
    go_enter Tryd.func11, Tryd.ntmps11
    go_wp2_with fail
    have HN := Lib.hid (CellN.new w x y)
    have HU := Lib.hid (Up.alloc w (.cells #[.int .i64 x, .int .i64 y] 23))
    generalize w.alloc (.cells #[.int .i64 x, .int .i64 y] 23) = wB at *
    refine Calls.mono (HV.out _) ?_
    rintro e w1 ⟨rfl, hu1⟩
    have HU1 := Lib.hid hu1
    clear hu1
    obtain ⟨a0, a1, -, -, la⟩ := (HN.out.up (w' := w1) (by (repeat (first | exact Below.refl _ _ | exact Go.RowKit.Hid.out (by assumption) | refine Up.trans ?_ (Up.drew _) | refine Up.trans ?_ (Up.drewN _ _) | refine Up.trans ?_ (Up.alloc _ _) | refine Up.trans ?_ (Go.RowKit.Hid.out (by assumption)))))).facts
    go_wp2_with fail
    refine Calls.mono (HT.out _) ?_
    rintro e w2 ⟨v2, rfl, hv2, hu2⟩
    have HU2 := Lib.hid hu2
    have HV2 := Lib.hid hv2
    clear hu2 hv2
    go_wp2_with fail
    refine Calls.mono (HD.out _ _ HV2.out) ?_
    rintro e w3 ⟨v3, rfl, hv3, hu3⟩
    have HU3 := Lib.hid hu3
    have HV3 := Lib.hid hv3
    clear hu3 hv3
    go_wp2_with fail
    refine Calls.mono (HS.out _ _ HV3.out) ?_
    rintro e w4 ⟨rfl, hu4⟩
    have HU4 := Lib.hid hu4
    clear hu4
    go_wp2
    refine bodyPost_ret (by simp [results, Tryd.results11, go_sem]; try rfl) rfl ?_
    exact ⟨rfl, by (repeat (first | exact Below.refl _ _ | exact Go.RowKit.Hid.out (by assumption) | refine Up.trans ?_ (Up.drew _) | refine Up.trans ?_ (Up.drewN _ _) | refine Up.trans ?_ (Up.alloc _ _) | refine Up.trans ?_ (Go.RowKit.Hid.out (by assumption))))⟩

set_option maxHeartbeats 1000000 in
set_option maxRecDepth 10000 in
theorem refCeil_any (x y : Int) (w : World) (hr : Rng x y) :
    Calls Tryd.prog 13 #[.agg #[.int .i64 x, .int .i64 y]] w fun e w' => e = .returned (.tuple #[.int .i64 (if okNum x y then -(-x / y) else 0), .int .i64 (if okNum x y then 0 else 1)]) ∧ Up w w' := by
  have HV := Lib.hid (fun W => refValid_any x y W hr.1 hr.2.1 hr.2.2.1 hr.2.2.2)
  rw [refOk_eq] at HV
  rcases hk : okNum x y with _ | _
  · rw [hk] at HV
    simp only [if_false, Bool.false_eq_true]
    clear hk hr
    go_enter Tryd.func13, Tryd.ntmps13
    go_wp2_with fail
    have HU := Lib.hid (Up.alloc w (.cells #[.int .i64 x, .int .i64 y] 23))
    refine Calls.mono (HV.out _) ?_
    rintro e w1 ⟨rfl, hu1⟩
    have HU1 := Lib.hid hu1
    clear hu1
    go_wp2
    refine bodyPost_ret (by simp [results, Tryd.results13, go_sem]; try rfl) rfl ?_
    exact ⟨rfl, by (repeat (first | exact Below.refl _ _ | exact Go.RowKit.Hid.out (by assumption) | refine Up.trans ?_ (Up.drew _) | refine Up.trans ?_ (Up.drewN _ _) | refine Up.trans ?_ (Up.alloc _ _) | refine Up.trans ?_ (Go.RowKit.Hid.out (by assumption))))⟩
  · have hb := ok_bounds hk
    have HT := Lib.hid (fun W => refTo_any x y W hr.1 hr.2.1 hr.2.2.1 hr.2.2.2)
    have HM := Lib.hid (fun W v (h : RR W v x y) => refRatMinus_any v x y W h)
    have HD := Lib.hid (fun W v (h : RR W v (-x) y) => refDown_any v (-x) y W h (by omega) (by rw [rl_neg]; exact Nat.le_trans (rl_int hr.1 hr.2.1) (by omega)))
    have HI := Lib.hid (fun W v (h : RI W v (-x / y)) => refMinus_any v _ W h)
    have HS := Lib.hid (fun W v (h : RI W v (-(-x / y))) => refSmall_any' v _ W h)
    have hs : smallOk (-(-x / y)) = true := by
      have := div_small (x := -x) (y := y) (by omega) (by omega) hb.1
      unfold smallOk; exact decide_eq_true (by omega)
    rw [hs] at HS
    rw [hk] at HV
    simp only [if_true] at HS ⊢
    generalize -x / y = z at *
    obtain ⟨z', hz'⟩ : ∃ z', z' = -z := ⟨_, rfl⟩
    rw [← hz'] at HI HS ⊢
    obtain ⟨x', hx'⟩ : ∃ x', x' = -x := ⟨_, rfl⟩
    rw [← hx'] at HM HD
    clear hk hr hb hs hz' hx'
    go_enter Tryd.func13, Tryd.ntmps13
    go_wp2_with fail
    have HN := Lib.hid (CellN.new w x y)
    have HU := Lib.hid (Up.alloc w (.cells #[.int .i64 x, .int .i64 y] 23))
    generalize w.alloc (.cells #[.int .i64 x, .int .i64 y] 23) = wB at *
    refine Calls.mono (HV.out _) ?_
    rintro e w1 ⟨rfl, hu1⟩
    have HU1 := Lib.hid hu1
    clear hu1
    obtain ⟨a0, a1, -, -, la⟩ := (HN.out.up (w' := w1) (by (repeat (first | exact Below.refl _ _ | exact Go.RowKit.Hid.out (by assumption) | refine Up.trans ?_ (Up.drew _) | refine Up.trans ?_ (Up.drewN _ _) | refine Up.trans ?_ (Up.alloc _ _) | refine Up.trans ?_ (Go.RowKit.Hid.out (by assumption)))))).facts
    go_wp2_with fail
    refine Calls.mono (HT.out _) ?_
    rintro e w2 ⟨v2, rfl, hv2, hu2⟩
    have HU2 := Lib.hid hu2
    have HV2 := Lib.hid hv2
    clear hu2 hv2
    go_wp2_with fail
    refine Calls.mono (HM.out _ _ HV2.out) ?_
    rintro e w5 ⟨v5, rfl, hv5, hu5⟩
    have HU5 := Lib.hid hu5
    have HV5 := Lib.hid hv5
    clear hu5 hv5
    go_wp2_with fail
    refine Calls.mono (HD.out _ _ HV5.out) ?_
    rintro e w3 ⟨v3, rfl, hv3, hu3⟩
    have HU3 := Lib.hid hu3
    have HV3 := Lib.hid hv3
    clear hu3 hv3
    go_wp2_with fail
    refine Calls.mono (HI.out _ _ HV3.out) ?_
    rintro e w6 ⟨v6, rfl, hv6, hu6⟩
    have HU6 := Lib.hid hu6
    have HV6 := Lib.hid hv6
    clear hu6 hv6
    go_wp2_with fail
    refine Calls.mono (HS.out _ _ HV6.out) ?_
    rintro e w4 ⟨rfl, hu4⟩
    have HU4 := Lib.hid hu4
    clear hu4
    go_wp2
    refine bodyPost_ret (by simp [results, Tryd.results13, go_sem]; try rfl) rfl ?_
    exact ⟨rfl, by (repeat (first | exact Below.refl _ _ | exact Go.RowKit.Hid.out (by assumption) | refine Up.trans ?_ (Up.drew _) | refine Up.trans ?_ (Up.drewN _ _) | refine Up.trans ?_ (Up.alloc _ _) | refine Up.trans ?_ (Go.RowKit.Hid.out (by assumption))))⟩
end Go.Proofs.YtimlainffbpfdaaDoor
