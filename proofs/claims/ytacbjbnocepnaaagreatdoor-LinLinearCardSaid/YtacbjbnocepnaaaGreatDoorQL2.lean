/- What a further law needs. -/
import Derived.Test.YtacbjbnocepnaaaGreatDoorQL1
import Derived.Test.YtacbjbnocepnaaaGreatDoorQGO
import Derived.Test.YtacbjbnocepnaaaGreatDoorQGP
import Derived.Test.YtacbjbnocepnaaaGreatDoorQGQ
import Derived.Test.YtacbjbnocepnaaaGreatDoorQGR
namespace Go.Proofs.YtacbjbnocepnaaaGreatDoor
open Go.RowKit Fm
def refOk (x y : Int) : Bool := decide (1 ≤ y ∧ y ≤ 1152921504606846976 ∧ x ≤ 1152921504606846976 ∧ -1152921504606846976 ≤ x ∧ Int.gcd x y = 1)
set_option maxHeartbeats 2000000 in
set_option maxRecDepth 10000 in
theorem refValid_any (x y : Int) (w : World) (hx1 : -9223372036854775808 ≤ x) (hx2 : x ≤ 9223372036854775807) (hy1 : -9223372036854775808 ≤ y) (hy2 : y ≤ 9223372036854775807) :
    Calls Tryz.prog 88 #[.agg #[.int .i64 x, .int .i64 y]] w fun e w' => e = .returned (.bool (refOk x y)) ∧ Up w w' := by
  by_cases h1 : 1 ≤ y
  · by_cases h2 : y ≤ 1152921504606846976
    · by_cases h3 : x ≤ 1152921504606846976
      · by_cases h4 : -1152921504606846976 ≤ x
        · have hk : refOk x y = decide (Int.gcd x y = 1) := by unfold refOk; simp [h1, h2, h3, h4]
          rw [hk]
          have HO1 := Lib.hid (fun W => refOf_any x W hx1 hx2)
          have HO2 := Lib.hid (fun W => refOf_any y W hy1 hy2)
          have HO3 := Lib.hid (fun W => refOf_any 1 W (by omega) (by omega))
          have HG := Lib.hid (fun W u v (hu : RI W u x) (hv : RI W v y) => refGcd_any u v x y W hu hv (Nat.le_trans (rl_int hx1 hx2) (by omega)) (Nat.le_trans (rl_int hy1 hy2) (by omega)))
          have hgl : rl (Int.gcd x y : Int) ≤ 536870912 := by
            have h5 : (Int.gcd x y : Int) ≤ y := Int.le_of_dvd (by omega) (Int.gcd_dvd_right ..)
            exact Nat.le_trans (rl_int (z := (Int.gcd x y : Int)) (by omega) (by omega)) (by omega)
          have HC := Lib.hid (fun W u v (hu : RI W u (Int.gcd x y : Int)) (hv : RI W v 1) => refCompare_any u v _ 1 W hu hv hgl (Nat.le_trans (rl_int (z := 1) (by omega) (by omega)) (by omega)))
          obtain ⟨s, hs⟩ : ∃ s : Int, s = ((Int.gcd x y : Int) - 1).sign := ⟨_, rfl⟩
          rw [← hs] at HC
          have HS : Hid ((s == 0) = decide (Int.gcd x y = 1)) := by
            unfold Hid
            rw [hs]
            by_cases h5 : Int.gcd x y = 1
            · rw [h5]; rfl
            · rw [decide_eq_false h5]
              have : ((Int.gcd x y : Int) - 1).sign ≠ 0 := fun h => h5 (by have := Int.sign_eq_zero_iff_zero.1 h; omega)
              simp [this]
          clear hs hgl hk
          go_enter Tryz.func88, Tryz.ntmps88
          go_upto_region 3 with fail
          obtain ⟨wB, hwB⟩ : ∃ wB, wB = w.alloc (.cells #[.int .i64 x, .int .i64 y] 55) := ⟨_, rfl⟩
          have HN := Lib.hid (show CellN wB w.heap.size x y by rw [hwB]; exact CellN.new w x y)
          have HU := Lib.hid (show Up w wB by rw [hwB]; exact Up.alloc _ _)
          rw [← hwB]
          clear hwB
          obtain ⟨a0, a1, -, -, la⟩ := HN.out.facts
          go_region_held3 (fun w' => w'.cell? ⟨w.heap.size, 0, none⟩ = some (.int .i64 x) ∧ w'.cell? ⟨w.heap.size, 1, none⟩ = some (.int .i64 y)) (go_keep)
            ((first
              | (go_at_call_of 90 u1
                 refine Calls.mono (HG.out _ _ _ HV1b.out HV2.out) ?_
                 rintro e w3 ⟨u3, rfl, hv3, hu3⟩
                 have HU3 := Lib.hid hu3
                 have HV3 := Lib.hid hv3
                 clear hv3 hu3
                 obtain ⟨a0, a1, -, -, la⟩ := (HN.out.up (w' := w3) (by (repeat (first | exact Below.refl _ _ | exact Hid.out (by assumption) | refine Up.trans ?_ (Up.drew _) | refine Up.trans ?_ (Up.drewN _ _) | refine Up.trans ?_ (Up.alloc _ _) | refine Up.trans ?_ (Hid.out (by assumption)))))).facts)
              | (go_at_call_of 108 u3
                 refine Calls.mono (HC.out _ _ _ HV3b.out HV4.out) ?_
                 rintro e w5 ⟨rfl, hu5⟩
                 have HU5 := Lib.hid hu5
                 clear hu5
                 obtain ⟨a0, a1, -, -, la⟩ := (HN.out.up (w' := w5) (by (repeat (first | exact Below.refl _ _ | exact Hid.out (by assumption) | refine Up.trans ?_ (Up.drew _) | refine Up.trans ?_ (Up.drewN _ _) | refine Up.trans ?_ (Up.alloc _ _) | refine Up.trans ?_ (Hid.out (by assumption)))))).facts)
              | (go_at_call_of 69 (Value.int IntKind.i64 1)
                 refine Calls.mono (HO3.out _) ?_
                 rintro e w4 ⟨u4, rfl, hv4, hu4⟩
                 have HU4 := Lib.hid hu4
                 have HV4 := Lib.hid hv4
                 have HV3b := Lib.hid (HV3.out.up hu4)
                 clear hv4 hu4
                 obtain ⟨a0, a1, -, -, la⟩ := (HN.out.up (w' := w4) (by (repeat (first | exact Below.refl _ _ | exact Hid.out (by assumption) | refine Up.trans ?_ (Up.drew _) | refine Up.trans ?_ (Up.drewN _ _) | refine Up.trans ?_ (Up.alloc _ _) | refine Up.trans ?_ (Hid.out (by assumption)))))).facts)
              | (go_at_call_of 69 (Value.int IntKind.i64 x)
                 refine Calls.mono (HO1.out _) ?_
                 rintro e w1 ⟨u1, rfl, hv1, hu1⟩
                 have HU1 := Lib.hid hu1
                 have HV1 := Lib.hid hv1
                 clear hv1 hu1
                 obtain ⟨a0, a1, -, -, la⟩ := (HN.out.up (w' := w1) (by (repeat (first | exact Below.refl _ _ | exact Hid.out (by assumption) | refine Up.trans ?_ (Up.drew _) | refine Up.trans ?_ (Up.drewN _ _) | refine Up.trans ?_ (Up.alloc _ _) | refine Up.trans ?_ (Hid.out (by assumption)))))).facts)
              | (go_at_call_of 69 (Value.int IntKind.i64 y)
                 refine Calls.mono (HO2.out _) ?_
                 rintro e w2 ⟨u2, rfl, hv2, hu2⟩
                 have HU2 := Lib.hid hu2
                 have HV2 := Lib.hid hv2
                 have HV1b := Lib.hid (HV1.out.up hu2)
                 clear hv2 hu2
                 obtain ⟨a0, a1, -, -, la⟩ := (HN.out.up (w' := w2) (by (repeat (first | exact Below.refl _ _ | exact Hid.out (by assumption) | refine Up.trans ?_ (Up.drew _) | refine Up.trans ?_ (Up.drewN _ _) | refine Up.trans ?_ (Up.alloc _ _) | refine Up.trans ?_ (Hid.out (by assumption)))))).facts)))
          go_wp2
          go_ret
          exact ⟨by rw [← HS.out]; rfl, by (repeat (first | exact Below.refl _ _ | exact Hid.out (by assumption) | refine Up.trans ?_ (Up.drew _) | refine Up.trans ?_ (Up.drewN _ _) | refine Up.trans ?_ (Up.alloc _ _) | refine Up.trans ?_ (Hid.out (by assumption))))⟩
        · have hk : refOk x y = false := by unfold refOk; simp [h4]
          rw [hk]
          go_enter Tryz.func88, Tryz.ntmps88
          go_wp2
          go_ret
          exact ⟨rfl, by (repeat (first | exact Below.refl _ _ | exact Hid.out (by assumption) | refine Up.trans ?_ (Up.drew _) | refine Up.trans ?_ (Up.drewN _ _) | refine Up.trans ?_ (Up.alloc _ _) | refine Up.trans ?_ (Hid.out (by assumption))))⟩
      · have hk : refOk x y = false := by unfold refOk; simp [h3]
        rw [hk]
        go_enter Tryz.func88, Tryz.ntmps88
        go_wp2
        go_ret
        exact ⟨rfl, by (repeat (first | exact Below.refl _ _ | exact Hid.out (by assumption) | refine Up.trans ?_ (Up.drew _) | refine Up.trans ?_ (Up.drewN _ _) | refine Up.trans ?_ (Up.alloc _ _) | refine Up.trans ?_ (Hid.out (by assumption))))⟩
    · have hk : refOk x y = false := by unfold refOk; simp [h2]
      rw [hk]
      go_enter Tryz.func88, Tryz.ntmps88
      go_wp2
      go_ret
      exact ⟨rfl, by (repeat (first | exact Below.refl _ _ | exact Hid.out (by assumption) | refine Up.trans ?_ (Up.drew _) | refine Up.trans ?_ (Up.drewN _ _) | refine Up.trans ?_ (Up.alloc _ _) | refine Up.trans ?_ (Hid.out (by assumption))))⟩
  · have hk : refOk x y = false := by unfold refOk; simp [h1]
    rw [hk]
    go_enter Tryz.func88, Tryz.ntmps88
    go_wp2
    go_ret
    exact ⟨rfl, by (repeat (first | exact Below.refl _ _ | exact Hid.out (by assumption) | refine Up.trans ?_ (Up.drew _) | refine Up.trans ?_ (Up.drewN _ _) | refine Up.trans ?_ (Up.alloc _ _) | refine Up.trans ?_ (Hid.out (by assumption))))⟩
end Go.Proofs.YtacbjbnocepnaaaGreatDoor
namespace Go.Proofs.YtacbjbnocepnaaaGreatDoor
open Go.RowKit Fm
section
variable {w w' : World} {g : Nat} {s s2 : Int} {b b2 : Bool} {v v2 : Value}
end
set_option maxHeartbeats 2000000 in
set_option maxRecDepth 10000 in
theorem refTo_any (x y : Int) (w : World) (hx1 : -9223372036854775808 ≤ x) (hx2 : x ≤ 9223372036854775807) (hy1 : -9223372036854775808 ≤ y) (hy2 : y ≤ 9223372036854775807) :
    Calls Tryz.prog 26 #[.agg #[.int .i64 x, .int .i64 y]] w fun e w' => ∃ v, e = .returned v ∧ RR w' v x y ∧ Up w w' := by
  have HO1 := Lib.hid (fun W => refOf_any x W hx1 hx2)
  have HO2 := Lib.hid (fun W => refOf_any y W hy1 hy2)
  clear hx1 hx2 hy1 hy2
  go_enter Tryz.func26, Tryz.ntmps26
  go_upto_region 1 with fail
  obtain ⟨wB, hwB⟩ : ∃ wB, wB = (w.alloc (.cells #[.int .i64 x, .int .i64 y] 55)).alloc (.cells #[.int .i64 0, .bool false, .slice none 0 0, .int .i64 0, .bool false, .slice none 0 0] 50) := ⟨_, rfl⟩
  have HN := Lib.hid (show CellN wB w.heap.size x y by rw [hwB]; exact (CellN.new w x y).up (Up.alloc _ _))
  have HR := Lib.hid (show CellR wB (w.heap.size + 1) 0 false (.slice none 0 0) 0 false (.slice none 0 0) by
    rw [hwB]
    have := CellR.new (w.alloc (.cells #[.int .i64 x, .int .i64 y] 55)) 0 false (.slice none 0 0) 0 false (.slice none 0 0)
    simpa using this)
  have HU := Lib.hid (show Up w wB by rw [hwB]; exact (Up.alloc _ _).trans (Up.alloc _ _))
  rw [← hwB]
  clear hwB
  obtain ⟨a0, a1, -, -, la⟩ := HN.out.facts
  go_region_held3 (fun w' => w'.cell? ⟨w.heap.size, 0, none⟩ = some (.int .i64 x) ∧ w'.cell? ⟨w.heap.size, 1, none⟩ = some (.int .i64 y)) (go_keep)
    ((first
      | (go_at_call_of 69 (Value.int IntKind.i64 x)
         refine Calls.mono (HO1.out _) ?_
         rintro e w1 ⟨u1, rfl, hv1, hu1⟩
         have HU1 := Lib.hid hu1
         have HV1 := Lib.hid hv1
         obtain ⟨s1, g1, A1, n1, c1, rfl, -⟩ := hv1
         clear hu1
         obtain ⟨a0, a1, -, -, la⟩ := (HN.out.up (w' := w1) (by (repeat (first | exact Below.refl _ _ | exact Hid.out (by assumption) | refine Up.trans ?_ (Up.drew _) | refine Up.trans ?_ (Up.drewN _ _) | refine Up.trans ?_ (Up.alloc _ _) | refine Up.trans ?_ (Hid.out (by assumption)))))).facts)
      | (go_at_call_of 69 (Value.int IntKind.i64 y)
         refine Calls.mono (HO2.out _) ?_
         rintro e w2 ⟨u2, rfl, hv2, hu2⟩
         have HU2 := Lib.hid hu2
         have HV2 := Lib.hid hv2
         have HV1b := Lib.hid (HV1.out.up hu2)
         obtain ⟨s2, g2, A2, n2, c2, rfl, -⟩ := hv2
         clear hu2
         have HX := Lib.hid (HR.out.up (w' := w2) (by (repeat (first | exact Below.refl _ _ | exact Hid.out (by assumption) | refine Up.trans ?_ (Up.drew _) | refine Up.trans ?_ (Up.drewN _ _) | refine Up.trans ?_ (Up.alloc _ _) | refine Up.trans ?_ (Hid.out (by assumption))))))
         obtain ⟨r0, r1, r2, r3, r4, r5, lr⟩ := HX.out.facts
         have f0 := HX.out.frozen 0
         have f1 := HX.out.frozen 1
         have f2 := HX.out.frozen 2
         have f3 := HX.out.frozen 3
         have f4 := HX.out.frozen 4
         have f5 := HX.out.frozen 5
         obtain ⟨a0, a1, -, -, la⟩ := (HN.out.up (w' := w2) (by (repeat (first | exact Below.refl _ _ | exact Hid.out (by assumption) | refine Up.trans ?_ (Up.drew _) | refine Up.trans ?_ (Up.drewN _ _) | refine Up.trans ?_ (Up.alloc _ _) | refine Up.trans ?_ (Hid.out (by assumption)))))).facts)))
  have HF := Lib.hid (HX.out.set s1 g1 (.slice A1 n1 c1) s2 g2 (.slice A2 n2 c2))
  have HP := Lib.hid (HV1b.out.put6 HX.out (.int .i64 s1) (.bool g1) (.slice A1 n1 c1) (.int .i64 s2) (.bool g2) (.slice A2 n2 c2))
  have HQ := Lib.hid (HV2.out.put6 HX.out (.int .i64 s1) (.bool g1) (.slice A1 n1 c1) (.int .i64 s2) (.bool g2) (.slice A2 n2 c2))
  have HUF := Lib.hid ((show Up w w2 by (repeat (first | exact Below.refl _ _ | exact Hid.out (by assumption) | refine Up.trans ?_ (Up.drew _) | refine Up.trans ?_ (Up.drewN _ _) | refine Up.trans ?_ (Up.alloc _ _) | refine Up.trans ?_ (Hid.out (by assumption))))).put6 (show w.heap.size ≤ w.heap.size + 1 by omega) (.int .i64 s1) (.bool g1) (.slice A1 n1 c1) (.int .i64 s2) (.bool g2) (.slice A2 n2 c2))
  go_wp2
  obtain ⟨z0, z1, z2, z3, z4, z5, -⟩ := HF.out.facts
  refine bodyPost_ret (by simp [results, Tryz.results26, go_sem, z0, z1, z2, z3, z4, z5]; try rfl) rfl ?_
  exact ⟨_, rfl, ⟨s1, s2, g1, g2, A1, A2, n1, c1, n2, c2, rfl, HP.out, HQ.out⟩, HUF.out⟩
end Go.Proofs.YtacbjbnocepnaaaGreatDoor
namespace Go.Proofs.YtacbjbnocepnaaaGreatDoor
open Go.RowKit Fm
end Go.Proofs.YtacbjbnocepnaaaGreatDoor
namespace Go.Proofs.YtacbjbnocepnaaaGreatDoor
open Go.RowKit Fm
end Go.Proofs.YtacbjbnocepnaaaGreatDoor
namespace Go.Proofs.YtacbjbnocepnaaaGreatDoor
open Go.RowKit Fm
set_option maxHeartbeats 2000000 in
set_option maxRecDepth 10000 in
theorem refRatSign_any (v : Value) (p q : Int) (w : World) (h : RR w v p q) :
    Calls Tryz.prog 75 #[v] w fun e w' => e = .returned (.int .i64 p.sign) ∧ Up w w' := by
  obtain ⟨s, s2, g, g2, A, A2, n, c, n2, c2, rfl, hp1, hp2⟩ := h
  have HS := Lib.hid (fun W (hu : Up w W) => refSign_any _ p W (hp1.up hu))
  clear hp1 hp2
  go_enter Tryz.func75, Tryz.ntmps75
  go_wp2_with fail
  refine Calls.mono (HS.out _ (by (repeat (first | exact Below.refl _ _ | exact Hid.out (by assumption) | refine Up.trans ?_ (Up.drew _) | refine Up.trans ?_ (Up.drewN _ _) | refine Up.trans ?_ (Up.alloc _ _) | refine Up.trans ?_ (Hid.out (by assumption)))))) ?_
  rintro e w1 ⟨rfl, hu1⟩
  have HU1 := Lib.hid hu1
  clear hu1
  go_wp2
  go_ret
  exact ⟨rfl, by (repeat (first | exact Below.refl _ _ | exact Hid.out (by assumption) | refine Up.trans ?_ (Up.drew _) | refine Up.trans ?_ (Up.drewN _ _) | refine Up.trans ?_ (Up.alloc _ _) | refine Up.trans ?_ (Hid.out (by assumption))))⟩
set_option maxHeartbeats 2000000 in
set_option maxRecDepth 10000 in
theorem refRatMinus_any (v : Value) (p q : Int) (w : World) (h : RR w v p q) :
    Calls Tryz.prog 114 #[v] w fun e w' => ∃ v', e = .returned v' ∧ RR w' v' (-p) q ∧ Up w w' := by
  obtain ⟨s, s2, g, g2, A, A2, n, c, n2, c2, rfl, hp1, hp2⟩ := h
  have HM := Lib.hid (fun W (hu : Up w W) => refMinus_any _ p W (hp1.up hu))
  have HQ := Lib.hid hp2
  clear hp1 hp2
  go_enter Tryz.func114, Tryz.ntmps114
  go_upto_region 1 with fail
  obtain ⟨wB, hwB⟩ : ∃ wB, wB = (w.alloc (.cells #[.int .i64 s, .bool g, .slice A n c, .int .i64 s2, .bool g2, .slice A2 n2 c2] 50)).alloc (.cells #[.int .i64 0, .bool false, .slice none 0 0, .int .i64 0, .bool false, .slice none 0 0] 50) := ⟨_, rfl⟩
  have HA := Lib.hid (show CellR wB w.heap.size s g (.slice A n c) s2 g2 (.slice A2 n2 c2) by rw [hwB]; exact (CellR.new w _ _ _ _ _ _).up (Up.alloc _ _))
  have HR := Lib.hid (show CellR wB (w.heap.size + 1) 0 false (.slice none 0 0) 0 false (.slice none 0 0) by
    rw [hwB]
    have := CellR.new (w.alloc (.cells #[.int .i64 s, .bool g, .slice A n c, .int .i64 s2, .bool g2, .slice A2 n2 c2] 50)) 0 false (.slice none 0 0) 0 false (.slice none 0 0)
    simpa using this)
  have HU := Lib.hid (show Up w wB by rw [hwB]; exact (Up.alloc _ _).trans (Up.alloc _ _))
  rw [← hwB]
  clear hwB
  obtain ⟨a0, a1, a2, a3, a4, a5, la⟩ := HA.out.facts
  go_region_held3 (fun w' => w'.cell? ⟨w.heap.size, 0, none⟩ = some (.int .i64 s) ∧ w'.cell? ⟨w.heap.size, 1, none⟩ = some (.bool g) ∧ w'.cell? ⟨w.heap.size, 2, none⟩ = some (.slice A n c) ∧ w'.cell? ⟨w.heap.size, 3, none⟩ = some (.int .i64 s2) ∧ w'.cell? ⟨w.heap.size, 4, none⟩ = some (.bool g2) ∧ w'.cell? ⟨w.heap.size, 5, none⟩ = some (.slice A2 n2 c2)) (go_keep)
    ((go_at_call_of 105 (Value.agg #[.int .i64 s, .bool g, .slice A n c])
      refine Calls.mono (HM.out _ (by (repeat (first | exact Below.refl _ _ | exact Hid.out (by assumption) | refine Up.trans ?_ (Up.drew _) | refine Up.trans ?_ (Up.drewN _ _) | refine Up.trans ?_ (Up.alloc _ _) | refine Up.trans ?_ (Hid.out (by assumption)))))) ?_
      rintro e w2 ⟨u2, rfl, hv2, hu2⟩
      have HU2 := Lib.hid hu2
      have HV2 := Lib.hid hv2
      obtain ⟨s3, g3, A3, n3, c3, rfl, -⟩ := hv2
      clear hu2
      have HX := Lib.hid (HR.out.up (w' := w2) (by (repeat (first | exact Below.refl _ _ | exact Hid.out (by assumption) | refine Up.trans ?_ (Up.drew _) | refine Up.trans ?_ (Up.drewN _ _) | refine Up.trans ?_ (Up.alloc _ _) | refine Up.trans ?_ (Hid.out (by assumption))))))
      obtain ⟨r0, r1, r2, r3, r4, r5, lr⟩ := HX.out.facts
      have f0 := HX.out.frozen 0
      have f1 := HX.out.frozen 1
      have f2 := HX.out.frozen 2
      have f3 := HX.out.frozen 3
      have f4 := HX.out.frozen 4
      have f5 := HX.out.frozen 5
      obtain ⟨a0, a1, a2, a3, a4, a5, la⟩ := (HA.out.up (w' := w2) (by (repeat (first | exact Below.refl _ _ | exact Hid.out (by assumption) | refine Up.trans ?_ (Up.drew _) | refine Up.trans ?_ (Up.drewN _ _) | refine Up.trans ?_ (Up.alloc _ _) | refine Up.trans ?_ (Hid.out (by assumption)))))).facts))
  have HF := Lib.hid (HX.out.set s3 g3 (.slice A3 n3 c3) s2 g2 (.slice A2 n2 c2))
  have HP := Lib.hid (HV2.out.put6 HX.out (.int .i64 s3) (.bool g3) (.slice A3 n3 c3) (.int .i64 s2) (.bool g2) (.slice A2 n2 c2))
  have HQ2 := Lib.hid ((HQ.out.up (show Up w w2 by (repeat (first | exact Below.refl _ _ | exact Hid.out (by assumption) | refine Up.trans ?_ (Up.drew _) | refine Up.trans ?_ (Up.drewN _ _) | refine Up.trans ?_ (Up.alloc _ _) | refine Up.trans ?_ (Hid.out (by assumption)))))).put6 HX.out (.int .i64 s3) (.bool g3) (.slice A3 n3 c3) (.int .i64 s2) (.bool g2) (.slice A2 n2 c2))
  have HUF := Lib.hid ((show Up w w2 by (repeat (first | exact Below.refl _ _ | exact Hid.out (by assumption) | refine Up.trans ?_ (Up.drew _) | refine Up.trans ?_ (Up.drewN _ _) | refine Up.trans ?_ (Up.alloc _ _) | refine Up.trans ?_ (Hid.out (by assumption))))).put6 (show w.heap.size ≤ w.heap.size + 1 by omega) (.int .i64 s3) (.bool g3) (.slice A3 n3 c3) (.int .i64 s2) (.bool g2) (.slice A2 n2 c2))
  go_wp2
  obtain ⟨z0, z1, z2, z3, z4, z5, -⟩ := HF.out.facts
  refine bodyPost_ret (by simp [results, Tryz.results114, go_sem, z0, z1, z2, z3, z4, z5]; try rfl) rfl ?_
  exact ⟨_, rfl, ⟨s3, s2, g3, g2, A3, A2, n3, c3, n2, c2, rfl, HP.out, HQ2.out⟩, HUF.out⟩
end Go.Proofs.YtacbjbnocepnaaaGreatDoor
namespace Go.Proofs.YtacbjbnocepnaaaGreatDoor
open Go.RowKit Fm
end Go.Proofs.YtacbjbnocepnaaaGreatDoor
namespace Go.Proofs.YtacbjbnocepnaaaGreatDoor
open Go.RowKit Fm
theorem startRR (w : World) (s : Int) (b : Bool) (v : Value) (s2 : Int) (b2 : Bool) (v2 : Value) (t : Int) (d : Bool) (u : Value) (t2 : Int) (d2 : Bool) (u2 : Value) :
    ∃ wB, ((w.alloc (.cells #[.int .i64 s, .bool b, v, .int .i64 s2, .bool b2, v2] 50)).alloc (.cells #[.int .i64 t, .bool d, u, .int .i64 t2, .bool d2, u2] 50)).alloc (.cells #[.int .i64 0, .bool false, .slice none 0 0, .int .i64 0, .bool false, .slice none 0 0] 50) = wB ∧
      CellR wB w.heap.size s b v s2 b2 v2 ∧ CellR wB (w.heap.size + 1) t d u t2 d2 u2 ∧ CellR wB (w.heap.size + 1 + 1) 0 false (.slice none 0 0) 0 false (.slice none 0 0) ∧ Up w wB := by
  refine ⟨_, rfl, ((CellR.new w s b v s2 b2 v2).up (Up.alloc _ _)).up (Up.alloc _ _), ?_, ?_, ((Up.alloc _ _).trans (Up.alloc _ _)).trans (Up.alloc _ _)⟩
  · have := (CellR.new (w.alloc (.cells #[.int .i64 s, .bool b, v, .int .i64 s2, .bool b2, v2] 50)) t d u t2 d2 u2).up (Up.alloc _ (.cells #[.int .i64 0, .bool false, .slice none 0 0, .int .i64 0, .bool false, .slice none 0 0] 50)); simpa using this
  · have := CellR.new ((w.alloc (.cells #[.int .i64 s, .bool b, v, .int .i64 s2, .bool b2, v2] 50)).alloc (.cells #[.int .i64 t, .bool d, u, .int .i64 t2, .bool d2, u2] 50)) 0 false (.slice none 0 0) 0 false (.slice none 0 0); simpa using this
set_option maxHeartbeats 4000000 in
set_option maxRecDepth 10000 in
theorem refRatTimes_any (v1 v2 : Value) (a b c d : Int) (w : World) (h1 : RR w v1 a b) (h2 : RR w v2 c d) (ha : rl a ≤ 536870912) (hb : rl b ≤ 536870912) (hc : rl c ≤ 536870912) (hd : rl d ≤ 536870912)
    (hac : rl (a * c) ≤ 536870912) (hbd : rl (b * d) ≤ 536870912) (h0 : b * d ≠ 0) :
    Calls Tryz.prog 27 #[v1, v2] w fun e w' => ∃ v', e = .returned v' ∧ Made w' v' (a * c) (b * d) ∧ Up w w' := by
  obtain ⟨s, s2, g, g2, A, A2, n, k, n2, k2, rfl, hp1, hp2⟩ := h1
  obtain ⟨t, t2, f, f2, B, B2, m, j, m2, j2, rfl, hq1, hq2⟩ := h2
  have HT1 := Lib.hid (fun W (hu : Up w W) => refTimes_any _ _ a c W (hp1.up hu) (hq1.up hu) ha hc)
  have HT2 := Lib.hid (fun W (hu : Up w W) => refTimes_any _ _ b d W (hp2.up hu) (hq2.up hu) hb hd)
  have HMA : Hid (∀ W u1 u2, RI W u1 (a * c) → RI W u2 (b * d) → Calls Tryz.prog 70 #[u1, u2] W fun e w' => ∃ v, e = .returned v ∧ Made w' v (a * c) (b * d) ∧ Up W w') :=
    Lib.hid (fun W u1 u2 h1 h2 => refMake_any u1 u2 _ _ W h1 h2 h0 hac hbd)
  clear hp1 hp2 hq1 hq2 ha hb hc hd hac hbd h0
  generalize a * c = x at *
  generalize b * d = y at *
  go_enter Tryz.func27, Tryz.ntmps27
  go_upto_region 1 with fail
  obtain ⟨wB, hwB, hx, hy, hr, hu⟩ := startRR w s g (.slice A n k) s2 g2 (.slice A2 n2 k2) t f (.slice B m j) t2 f2 (.slice B2 m2 j2)
  rw [hwB]
  clear hwB
  have HX := Lib.hid hx
  have HY := Lib.hid hy
  have HR := Lib.hid hr
  have HU := Lib.hid hu
  obtain ⟨a0, a1, a2, a3, a4, a5, la⟩ := hx.facts
  obtain ⟨b0, b1, b2, b3, b4, b5, lb⟩ := hy.facts
  clear hx hy hr hu
  have hne1 : (w.heap.size = w.heap.size + 1 + 1) = False := eq_false (by omega)
  have hne2 : (w.heap.size + 1 + 1 = w.heap.size) = False := eq_false (by omega)
  have hne3 : (w.heap.size + 1 = w.heap.size + 1 + 1) = False := eq_false (by omega)
  have hne4 : (w.heap.size + 1 + 1 = w.heap.size + 1) = False := eq_false (by omega)
  go_region_held3 (fun w' => w'.cell? ⟨w.heap.size, 0, none⟩ = some (.int .i64 s) ∧ w'.cell? ⟨w.heap.size, 1, none⟩ = some (.bool g) ∧ w'.cell? ⟨w.heap.size, 2, none⟩ = some (.slice A n k) ∧ w'.cell? ⟨w.heap.size, 3, none⟩ = some (.int .i64 s2) ∧ w'.cell? ⟨w.heap.size, 4, none⟩ = some (.bool g2) ∧ w'.cell? ⟨w.heap.size, 5, none⟩ = some (.slice A2 n2 k2) ∧ w'.cell? ⟨w.heap.size + 1, 0, none⟩ = some (.int .i64 t) ∧ w'.cell? ⟨w.heap.size + 1, 1, none⟩ = some (.bool f) ∧ w'.cell? ⟨w.heap.size + 1, 2, none⟩ = some (.slice B m j) ∧ w'.cell? ⟨w.heap.size + 1, 3, none⟩ = some (.int .i64 t2) ∧ w'.cell? ⟨w.heap.size + 1, 4, none⟩ = some (.bool f2) ∧ w'.cell? ⟨w.heap.size + 1, 5, none⟩ = some (.slice B2 m2 j2)) (go_keep)
    ((first
      | (go_at_call 70
         refine Calls.mono (HMA.out _ _ _ HV2b.out HV3.out) ?_
         rintro e w4 ⟨u4, rfl, hv4, hu4⟩
         have HU4 := Lib.hid hu4
         have HV4 := Lib.hid hv4
         obtain ⟨s5, s6, g5, g6, A5, A6, n5, k5, n6, k6, rfl, -⟩ := hv4
         clear hu4
         have HZ := Lib.hid (HR.out.up (w' := w4) (by (repeat (first | exact Below.refl _ _ | exact Hid.out (by assumption) | refine Up.trans ?_ (Up.drew _) | refine Up.trans ?_ (Up.drewN _ _) | refine Up.trans ?_ (Up.alloc _ _) | refine Up.trans ?_ (Hid.out (by assumption))))))
         obtain ⟨r0, r1, r2, r3, r4, r5, lr⟩ := HZ.out.facts
         have f0 := HZ.out.frozen 0
         have f1 := HZ.out.frozen 1
         have f2 := HZ.out.frozen 2
         have f3 := HZ.out.frozen 3
         have f4 := HZ.out.frozen 4
         have f5 := HZ.out.frozen 5
         obtain ⟨a0, a1, a2, a3, a4, a5, la⟩ := (HX.out.up (w' := w4) (by (repeat (first | exact Below.refl _ _ | exact Hid.out (by assumption) | refine Up.trans ?_ (Up.drew _) | refine Up.trans ?_ (Up.drewN _ _) | refine Up.trans ?_ (Up.alloc _ _) | refine Up.trans ?_ (Hid.out (by assumption)))))).facts
         obtain ⟨b0, b1, b2, b3, b4, b5, lb⟩ := (HY.out.up (w' := w4) (by (repeat (first | exact Below.refl _ _ | exact Hid.out (by assumption) | refine Up.trans ?_ (Up.drew _) | refine Up.trans ?_ (Up.drewN _ _) | refine Up.trans ?_ (Up.alloc _ _) | refine Up.trans ?_ (Hid.out (by assumption)))))).facts)
      | (go_at_call_of 71 (Value.agg #[.int .i64 s, .bool g, .slice A n k])
         refine Calls.mono (HT1.out _ (by (repeat (first | exact Below.refl _ _ | exact Hid.out (by assumption) | refine Up.trans ?_ (Up.drew _) | refine Up.trans ?_ (Up.drewN _ _) | refine Up.trans ?_ (Up.alloc _ _) | refine Up.trans ?_ (Hid.out (by assumption)))))) ?_
         rintro e w2 ⟨u2, rfl, hv2, hu2⟩
         have HU2 := Lib.hid hu2
         have HV2 := Lib.hid hv2
         clear hu2 hv2
         obtain ⟨a0, a1, a2, a3, a4, a5, la⟩ := (HX.out.up (w' := w2) (by (repeat (first | exact Below.refl _ _ | exact Hid.out (by assumption) | refine Up.trans ?_ (Up.drew _) | refine Up.trans ?_ (Up.drewN _ _) | refine Up.trans ?_ (Up.alloc _ _) | refine Up.trans ?_ (Hid.out (by assumption)))))).facts
         obtain ⟨b0, b1, b2, b3, b4, b5, lb⟩ := (HY.out.up (w' := w2) (by (repeat (first | exact Below.refl _ _ | exact Hid.out (by assumption) | refine Up.trans ?_ (Up.drew _) | refine Up.trans ?_ (Up.drewN _ _) | refine Up.trans ?_ (Up.alloc _ _) | refine Up.trans ?_ (Hid.out (by assumption)))))).facts)
      | (go_at_call_of 71 (Value.agg #[.int .i64 s2, .bool g2, .slice A2 n2 k2])
         refine Calls.mono (HT2.out _ (by (repeat (first | exact Below.refl _ _ | exact Hid.out (by assumption) | refine Up.trans ?_ (Up.drew _) | refine Up.trans ?_ (Up.drewN _ _) | refine Up.trans ?_ (Up.alloc _ _) | refine Up.trans ?_ (Hid.out (by assumption)))))) ?_
         rintro e w3 ⟨u3, rfl, hv3, hu3⟩
         have HU3 := Lib.hid hu3
         have HV3 := Lib.hid hv3
         have HV2b := Lib.hid (HV2.out.up hu3)
         clear hu3 hv3
         obtain ⟨a0, a1, a2, a3, a4, a5, la⟩ := (HX.out.up (w' := w3) (by (repeat (first | exact Below.refl _ _ | exact Hid.out (by assumption) | refine Up.trans ?_ (Up.drew _) | refine Up.trans ?_ (Up.drewN _ _) | refine Up.trans ?_ (Up.alloc _ _) | refine Up.trans ?_ (Hid.out (by assumption)))))).facts
         obtain ⟨b0, b1, b2, b3, b4, b5, lb⟩ := (HY.out.up (w' := w3) (by (repeat (first | exact Below.refl _ _ | exact Hid.out (by assumption) | refine Up.trans ?_ (Up.drew _) | refine Up.trans ?_ (Up.drewN _ _) | refine Up.trans ?_ (Up.alloc _ _) | refine Up.trans ?_ (Hid.out (by assumption)))))).facts)))
  have HF := Lib.hid (HZ.out.set s5 g5 (.slice A5 n5 k5) s6 g6 (.slice A6 n6 k6))
  have HM : Hid (Made (put6 w4 (w.heap.size + 1 + 1) (.int .i64 s5) (.bool g5) (.slice A5 n5 k5) (.int .i64 s6) (.bool g6) (.slice A6 n6 k6)) (.agg #[.int .i64 s5, .bool g5, .slice A5 n5 k5, .int .i64 s6, .bool g6, .slice A6 n6 k6]) x y) := Lib.hid (by
    obtain ⟨s7, s8, g7, g8, A7, A8, n7, k7, n8, k8, he, h1, h2⟩ := HV4.out
    exact ⟨s7, s8, g7, g8, A7, A8, n7, k7, n8, k8, he, h1.put6 HZ.out _ _ _ _ _ _, h2.put6 HZ.out _ _ _ _ _ _⟩)
  have HUF := Lib.hid ((show Up w w4 by (repeat (first | exact Below.refl _ _ | exact Hid.out (by assumption) | refine Up.trans ?_ (Up.drew _) | refine Up.trans ?_ (Up.drewN _ _) | refine Up.trans ?_ (Up.alloc _ _) | refine Up.trans ?_ (Hid.out (by assumption))))).put6 (show w.heap.size ≤ w.heap.size + 1 + 1 by omega) (.int .i64 s5) (.bool g5) (.slice A5 n5 k5) (.int .i64 s6) (.bool g6) (.slice A6 n6 k6))
  go_wp2
  obtain ⟨z0, z1, z2, z3, z4, z5, -⟩ := HF.out.facts
  refine bodyPost_ret (by simp [results, Tryz.results27, go_sem, z0, z1, z2, z3, z4, z5]; try rfl) rfl ?_
  exact ⟨_, rfl, HM.out, HUF.out⟩
end Go.Proofs.YtacbjbnocepnaaaGreatDoor
namespace Go.Proofs.YtacbjbnocepnaaaGreatDoor
open Go.RowKit Fm
set_option maxHeartbeats 4000000 in
set_option maxRecDepth 10000 in
theorem refRatOver_any (v1 v2 : Value) (a b c d : Int) (w : World) (h1 : RR w v1 a b) (h2 : RR w v2 c d) (ha : rl a ≤ 536870912) (hb : rl b ≤ 536870912) (hc : rl c ≤ 536870912) (hd : rl d ≤ 536870912)
    (hac : rl (a * d) ≤ 536870912) (hbd : rl (b * c) ≤ 536870912) (h0 : b * c ≠ 0) :
    Calls Tryz.prog 31 #[v1, v2] w fun e w' => ∃ v', e = .returned v' ∧ Made w' v' (a * d) (b * c) ∧ Up w w' := by
  obtain ⟨s, s2, g, g2, A, A2, n, k, n2, k2, rfl, hp1, hp2⟩ := h1
  obtain ⟨t, t2, f, f2, B, B2, m, j, m2, j2, rfl, hq1, hq2⟩ := h2
  have HT1 := Lib.hid (fun W (hu : Up w W) => refTimes_any _ _ a d W (hp1.up hu) (hq2.up hu) ha hd)
  have HT2 := Lib.hid (fun W (hu : Up w W) => refTimes_any _ _ b c W (hp2.up hu) (hq1.up hu) hb hc)
  have HMA : Hid (∀ W u1 u2, RI W u1 (a * d) → RI W u2 (b * c) → Calls Tryz.prog 70 #[u1, u2] W fun e w' => ∃ v, e = .returned v ∧ Made w' v (a * d) (b * c) ∧ Up W w') :=
    Lib.hid (fun W u1 u2 h1 h2 => refMake_any u1 u2 _ _ W h1 h2 h0 hac hbd)
  clear hp1 hp2 hq1 hq2 ha hb hc hd hac hbd h0
  generalize a * d = x at *
  generalize b * c = y at *
  go_enter Tryz.func31, Tryz.ntmps31
  go_upto_region 1 with fail
  obtain ⟨wB, hwB, hx, hy, hr, hu⟩ := startRR w s g (.slice A n k) s2 g2 (.slice A2 n2 k2) t f (.slice B m j) t2 f2 (.slice B2 m2 j2)
  rw [hwB]
  clear hwB
  have HX := Lib.hid hx
  have HY := Lib.hid hy
  have HR := Lib.hid hr
  have HU := Lib.hid hu
  obtain ⟨a0, a1, a2, a3, a4, a5, la⟩ := hx.facts
  obtain ⟨b0, b1, b2, b3, b4, b5, lb⟩ := hy.facts
  clear hx hy hr hu
  have hne1 : (w.heap.size = w.heap.size + 1 + 1) = False := eq_false (by omega)
  have hne2 : (w.heap.size + 1 + 1 = w.heap.size) = False := eq_false (by omega)
  have hne3 : (w.heap.size + 1 = w.heap.size + 1 + 1) = False := eq_false (by omega)
  have hne4 : (w.heap.size + 1 + 1 = w.heap.size + 1) = False := eq_false (by omega)
  go_region_held3 (fun w' => w'.cell? ⟨w.heap.size, 0, none⟩ = some (.int .i64 s) ∧ w'.cell? ⟨w.heap.size, 1, none⟩ = some (.bool g) ∧ w'.cell? ⟨w.heap.size, 2, none⟩ = some (.slice A n k) ∧ w'.cell? ⟨w.heap.size, 3, none⟩ = some (.int .i64 s2) ∧ w'.cell? ⟨w.heap.size, 4, none⟩ = some (.bool g2) ∧ w'.cell? ⟨w.heap.size, 5, none⟩ = some (.slice A2 n2 k2) ∧ w'.cell? ⟨w.heap.size + 1, 0, none⟩ = some (.int .i64 t) ∧ w'.cell? ⟨w.heap.size + 1, 1, none⟩ = some (.bool f) ∧ w'.cell? ⟨w.heap.size + 1, 2, none⟩ = some (.slice B m j) ∧ w'.cell? ⟨w.heap.size + 1, 3, none⟩ = some (.int .i64 t2) ∧ w'.cell? ⟨w.heap.size + 1, 4, none⟩ = some (.bool f2) ∧ w'.cell? ⟨w.heap.size + 1, 5, none⟩ = some (.slice B2 m2 j2)) (go_keep)
    ((first
      | (go_at_call 70
         refine Calls.mono (HMA.out _ _ _ HV2b.out HV3.out) ?_
         rintro e w4 ⟨u4, rfl, hv4, hu4⟩
         have HU4 := Lib.hid hu4
         have HV4 := Lib.hid hv4
         obtain ⟨s5, s6, g5, g6, A5, A6, n5, k5, n6, k6, rfl, -⟩ := hv4
         clear hu4
         have HZ := Lib.hid (HR.out.up (w' := w4) (by (repeat (first | exact Below.refl _ _ | exact Hid.out (by assumption) | refine Up.trans ?_ (Up.drew _) | refine Up.trans ?_ (Up.drewN _ _) | refine Up.trans ?_ (Up.alloc _ _) | refine Up.trans ?_ (Hid.out (by assumption))))))
         obtain ⟨r0, r1, r2, r3, r4, r5, lr⟩ := HZ.out.facts
         have f0 := HZ.out.frozen 0
         have f1 := HZ.out.frozen 1
         have f2 := HZ.out.frozen 2
         have f3 := HZ.out.frozen 3
         have f4 := HZ.out.frozen 4
         have f5 := HZ.out.frozen 5
         obtain ⟨a0, a1, a2, a3, a4, a5, la⟩ := (HX.out.up (w' := w4) (by (repeat (first | exact Below.refl _ _ | exact Hid.out (by assumption) | refine Up.trans ?_ (Up.drew _) | refine Up.trans ?_ (Up.drewN _ _) | refine Up.trans ?_ (Up.alloc _ _) | refine Up.trans ?_ (Hid.out (by assumption)))))).facts
         obtain ⟨b0, b1, b2, b3, b4, b5, lb⟩ := (HY.out.up (w' := w4) (by (repeat (first | exact Below.refl _ _ | exact Hid.out (by assumption) | refine Up.trans ?_ (Up.drew _) | refine Up.trans ?_ (Up.drewN _ _) | refine Up.trans ?_ (Up.alloc _ _) | refine Up.trans ?_ (Hid.out (by assumption)))))).facts)
      | (go_at_call_of 71 (Value.agg #[.int .i64 s, .bool g, .slice A n k])
         refine Calls.mono (HT1.out _ (by (repeat (first | exact Below.refl _ _ | exact Hid.out (by assumption) | refine Up.trans ?_ (Up.drew _) | refine Up.trans ?_ (Up.drewN _ _) | refine Up.trans ?_ (Up.alloc _ _) | refine Up.trans ?_ (Hid.out (by assumption)))))) ?_
         rintro e w2 ⟨u2, rfl, hv2, hu2⟩
         have HU2 := Lib.hid hu2
         have HV2 := Lib.hid hv2
         clear hu2 hv2
         obtain ⟨a0, a1, a2, a3, a4, a5, la⟩ := (HX.out.up (w' := w2) (by (repeat (first | exact Below.refl _ _ | exact Hid.out (by assumption) | refine Up.trans ?_ (Up.drew _) | refine Up.trans ?_ (Up.drewN _ _) | refine Up.trans ?_ (Up.alloc _ _) | refine Up.trans ?_ (Hid.out (by assumption)))))).facts
         obtain ⟨b0, b1, b2, b3, b4, b5, lb⟩ := (HY.out.up (w' := w2) (by (repeat (first | exact Below.refl _ _ | exact Hid.out (by assumption) | refine Up.trans ?_ (Up.drew _) | refine Up.trans ?_ (Up.drewN _ _) | refine Up.trans ?_ (Up.alloc _ _) | refine Up.trans ?_ (Hid.out (by assumption)))))).facts)
      | (go_at_call_of 71 (Value.agg #[.int .i64 s2, .bool g2, .slice A2 n2 k2])
         refine Calls.mono (HT2.out _ (by (repeat (first | exact Below.refl _ _ | exact Hid.out (by assumption) | refine Up.trans ?_ (Up.drew _) | refine Up.trans ?_ (Up.drewN _ _) | refine Up.trans ?_ (Up.alloc _ _) | refine Up.trans ?_ (Hid.out (by assumption)))))) ?_
         rintro e w3 ⟨u3, rfl, hv3, hu3⟩
         have HU3 := Lib.hid hu3
         have HV3 := Lib.hid hv3
         have HV2b := Lib.hid (HV2.out.up hu3)
         clear hu3 hv3
         obtain ⟨a0, a1, a2, a3, a4, a5, la⟩ := (HX.out.up (w' := w3) (by (repeat (first | exact Below.refl _ _ | exact Hid.out (by assumption) | refine Up.trans ?_ (Up.drew _) | refine Up.trans ?_ (Up.drewN _ _) | refine Up.trans ?_ (Up.alloc _ _) | refine Up.trans ?_ (Hid.out (by assumption)))))).facts
         obtain ⟨b0, b1, b2, b3, b4, b5, lb⟩ := (HY.out.up (w' := w3) (by (repeat (first | exact Below.refl _ _ | exact Hid.out (by assumption) | refine Up.trans ?_ (Up.drew _) | refine Up.trans ?_ (Up.drewN _ _) | refine Up.trans ?_ (Up.alloc _ _) | refine Up.trans ?_ (Hid.out (by assumption)))))).facts)))
  have HF := Lib.hid (HZ.out.set s5 g5 (.slice A5 n5 k5) s6 g6 (.slice A6 n6 k6))
  have HM : Hid (Made (put6 w4 (w.heap.size + 1 + 1) (.int .i64 s5) (.bool g5) (.slice A5 n5 k5) (.int .i64 s6) (.bool g6) (.slice A6 n6 k6)) (.agg #[.int .i64 s5, .bool g5, .slice A5 n5 k5, .int .i64 s6, .bool g6, .slice A6 n6 k6]) x y) := Lib.hid (by
    obtain ⟨s7, s8, g7, g8, A7, A8, n7, k7, n8, k8, he, h1, h2⟩ := HV4.out
    exact ⟨s7, s8, g7, g8, A7, A8, n7, k7, n8, k8, he, h1.put6 HZ.out _ _ _ _ _ _, h2.put6 HZ.out _ _ _ _ _ _⟩)
  have HUF := Lib.hid ((show Up w w4 by (repeat (first | exact Below.refl _ _ | exact Hid.out (by assumption) | refine Up.trans ?_ (Up.drew _) | refine Up.trans ?_ (Up.drewN _ _) | refine Up.trans ?_ (Up.alloc _ _) | refine Up.trans ?_ (Hid.out (by assumption))))).put6 (show w.heap.size ≤ w.heap.size + 1 + 1 by omega) (.int .i64 s5) (.bool g5) (.slice A5 n5 k5) (.int .i64 s6) (.bool g6) (.slice A6 n6 k6))
  go_wp2
  obtain ⟨z0, z1, z2, z3, z4, z5, -⟩ := HF.out.facts
  refine bodyPost_ret (by simp [results, Tryz.results31, go_sem, z0, z1, z2, z3, z4, z5]; try rfl) rfl ?_
  exact ⟨_, rfl, HM.out, HUF.out⟩
end Go.Proofs.YtacbjbnocepnaaaGreatDoor
namespace Go.Proofs.YtacbjbnocepnaaaGreatDoor
open Go.RowKit Fm
set_option maxHeartbeats 4000000 in
set_option maxRecDepth 10000 in
theorem refRatPlus_any (v1 v2 : Value) (a b c d : Int) (w : World) (h1 : RR w v1 a b) (h2 : RR w v2 c d) (ha : rl a ≤ 536870912) (hb : rl b ≤ 536870912) (hc : rl c ≤ 536870912) (hd : rl d ≤ 536870912)
    (had : rl (a * d) ≤ 536870912) (hcb : rl (c * b) ≤ 536870912) (hac : rl (a * d + c * b) ≤ 536870912) (hbd : rl (b * d) ≤ 536870912) (h0 : b * d ≠ 0) :
    Calls Tryz.prog 25 #[v1, v2] w fun e w' => ∃ v', e = .returned v' ∧ Made w' v' (a * d + c * b) (b * d) ∧ Up w w' := by
  obtain ⟨s, s2, g, g2, A, A2, n, k, n2, k2, rfl, hp1, hp2⟩ := h1
  obtain ⟨t, t2, f, f2, B, B2, m, j, m2, j2, rfl, hq1, hq2⟩ := h2
  have HT1 := Lib.hid (fun W (hu : Up w W) => refTimes_any _ _ a d W (hp1.up hu) (hq2.up hu) ha hd)
  have HT3 := Lib.hid (fun W (hu : Up w W) => refTimes_any _ _ c b W (hq1.up hu) (hp2.up hu) hc hb)
  have HPL := Lib.hid (fun W u1 u2 (h1 : RI W u1 (a * d)) (h2 : RI W u2 (c * b)) => refPlus_any u1 u2 _ _ W h1 h2 had hcb)
  have HT2 := Lib.hid (fun W (hu : Up w W) => refTimes_any _ _ b d W (hp2.up hu) (hq2.up hu) hb hd)
  have HMA : Hid (∀ W u1 u2, RI W u1 (a * d + c * b) → RI W u2 (b * d) → Calls Tryz.prog 70 #[u1, u2] W fun e w' => ∃ v, e = .returned v ∧ Made w' v (a * d + c * b) (b * d) ∧ Up W w') :=
    Lib.hid (fun W u1 u2 h1 h2 => refMake_any u1 u2 _ _ W h1 h2 h0 hac hbd)
  clear hp1 hp2 hq1 hq2 ha hb hc hd had hcb hac hbd h0
  generalize a * d + c * b = x at *
  generalize a * d = x1 at *
  generalize c * b = x2 at *
  generalize b * d = y at *
  go_enter Tryz.func25, Tryz.ntmps25
  go_upto_region 1 with fail
  obtain ⟨wB, hwB, hx, hy, hr, hu⟩ := startRR w s g (.slice A n k) s2 g2 (.slice A2 n2 k2) t f (.slice B m j) t2 f2 (.slice B2 m2 j2)
  rw [hwB]
  clear hwB
  have HX := Lib.hid hx
  have HY := Lib.hid hy
  have HR := Lib.hid hr
  have HU := Lib.hid hu
  obtain ⟨a0, a1, a2, a3, a4, a5, la⟩ := hx.facts
  obtain ⟨b0, b1, b2, b3, b4, b5, lb⟩ := hy.facts
  clear hx hy hr hu
  have hne1 : (w.heap.size = w.heap.size + 1 + 1) = False := eq_false (by omega)
  have hne2 : (w.heap.size + 1 + 1 = w.heap.size) = False := eq_false (by omega)
  have hne3 : (w.heap.size + 1 = w.heap.size + 1 + 1) = False := eq_false (by omega)
  have hne4 : (w.heap.size + 1 + 1 = w.heap.size + 1) = False := eq_false (by omega)
  go_region_held3 (fun w' => w'.cell? ⟨w.heap.size, 0, none⟩ = some (.int .i64 s) ∧ w'.cell? ⟨w.heap.size, 1, none⟩ = some (.bool g) ∧ w'.cell? ⟨w.heap.size, 2, none⟩ = some (.slice A n k) ∧ w'.cell? ⟨w.heap.size, 3, none⟩ = some (.int .i64 s2) ∧ w'.cell? ⟨w.heap.size, 4, none⟩ = some (.bool g2) ∧ w'.cell? ⟨w.heap.size, 5, none⟩ = some (.slice A2 n2 k2) ∧ w'.cell? ⟨w.heap.size + 1, 0, none⟩ = some (.int .i64 t) ∧ w'.cell? ⟨w.heap.size + 1, 1, none⟩ = some (.bool f) ∧ w'.cell? ⟨w.heap.size + 1, 2, none⟩ = some (.slice B m j) ∧ w'.cell? ⟨w.heap.size + 1, 3, none⟩ = some (.int .i64 t2) ∧ w'.cell? ⟨w.heap.size + 1, 4, none⟩ = some (.bool f2) ∧ w'.cell? ⟨w.heap.size + 1, 5, none⟩ = some (.slice B2 m2 j2)) (go_keep)
    ((first
      | (go_at_call 70
         refine Calls.mono (HMA.out _ _ _ HV7b.out HV3.out) ?_
         rintro e w4 ⟨u4, rfl, hv4, hu4⟩
         have HU4 := Lib.hid hu4
         have HV4 := Lib.hid hv4
         obtain ⟨s5, s6, g5, g6, A5, A6, n5, k5, n6, k6, rfl, -⟩ := hv4
         clear hu4
         have HZ := Lib.hid (HR.out.up (w' := w4) (by (repeat (first | exact Below.refl _ _ | exact Hid.out (by assumption) | refine Up.trans ?_ (Up.drew _) | refine Up.trans ?_ (Up.drewN _ _) | refine Up.trans ?_ (Up.alloc _ _) | refine Up.trans ?_ (Hid.out (by assumption))))))
         obtain ⟨r0, r1, r2, r3, r4, r5, lr⟩ := HZ.out.facts
         have f0 := HZ.out.frozen 0
         have f1 := HZ.out.frozen 1
         have f2 := HZ.out.frozen 2
         have f3 := HZ.out.frozen 3
         have f4 := HZ.out.frozen 4
         have f5 := HZ.out.frozen 5
         obtain ⟨a0, a1, a2, a3, a4, a5, la⟩ := (HX.out.up (w' := w4) (by (repeat (first | exact Below.refl _ _ | exact Hid.out (by assumption) | refine Up.trans ?_ (Up.drew _) | refine Up.trans ?_ (Up.drewN _ _) | refine Up.trans ?_ (Up.alloc _ _) | refine Up.trans ?_ (Hid.out (by assumption)))))).facts
         obtain ⟨b0, b1, b2, b3, b4, b5, lb⟩ := (HY.out.up (w' := w4) (by (repeat (first | exact Below.refl _ _ | exact Hid.out (by assumption) | refine Up.trans ?_ (Up.drew _) | refine Up.trans ?_ (Up.drewN _ _) | refine Up.trans ?_ (Up.alloc _ _) | refine Up.trans ?_ (Hid.out (by assumption)))))).facts)
      | (go_at_call_of 71 (Value.agg #[.int .i64 s, .bool g, .slice A n k])
         refine Calls.mono (HT1.out _ (by (repeat (first | exact Below.refl _ _ | exact Hid.out (by assumption) | refine Up.trans ?_ (Up.drew _) | refine Up.trans ?_ (Up.drewN _ _) | refine Up.trans ?_ (Up.alloc _ _) | refine Up.trans ?_ (Hid.out (by assumption)))))) ?_
         rintro e w2 ⟨u2, rfl, hv2, hu2⟩
         have HU2 := Lib.hid hu2
         have HV2 := Lib.hid hv2
         clear hu2 hv2
         obtain ⟨a0, a1, a2, a3, a4, a5, la⟩ := (HX.out.up (w' := w2) (by (repeat (first | exact Below.refl _ _ | exact Hid.out (by assumption) | refine Up.trans ?_ (Up.drew _) | refine Up.trans ?_ (Up.drewN _ _) | refine Up.trans ?_ (Up.alloc _ _) | refine Up.trans ?_ (Hid.out (by assumption)))))).facts
         obtain ⟨b0, b1, b2, b3, b4, b5, lb⟩ := (HY.out.up (w' := w2) (by (repeat (first | exact Below.refl _ _ | exact Hid.out (by assumption) | refine Up.trans ?_ (Up.drew _) | refine Up.trans ?_ (Up.drewN _ _) | refine Up.trans ?_ (Up.alloc _ _) | refine Up.trans ?_ (Hid.out (by assumption)))))).facts)
      | (go_at_call_of 71 (Value.agg #[.int .i64 t, .bool f, .slice B m j])
         refine Calls.mono (HT3.out _ (by (repeat (first | exact Below.refl _ _ | exact Hid.out (by assumption) | refine Up.trans ?_ (Up.drew _) | refine Up.trans ?_ (Up.drewN _ _) | refine Up.trans ?_ (Up.alloc _ _) | refine Up.trans ?_ (Hid.out (by assumption)))))) ?_
         rintro e w6 ⟨u6, rfl, hv6, hu6⟩
         have HU6 := Lib.hid hu6
         have HV6 := Lib.hid hv6
         have HV2b := Lib.hid (HV2.out.up hu6)
         clear hu6 hv6
         obtain ⟨a0, a1, a2, a3, a4, a5, la⟩ := (HX.out.up (w' := w6) (by (repeat (first | exact Below.refl _ _ | exact Hid.out (by assumption) | refine Up.trans ?_ (Up.drew _) | refine Up.trans ?_ (Up.drewN _ _) | refine Up.trans ?_ (Up.alloc _ _) | refine Up.trans ?_ (Hid.out (by assumption)))))).facts
         obtain ⟨b0, b1, b2, b3, b4, b5, lb⟩ := (HY.out.up (w' := w6) (by (repeat (first | exact Below.refl _ _ | exact Hid.out (by assumption) | refine Up.trans ?_ (Up.drew _) | refine Up.trans ?_ (Up.drewN _ _) | refine Up.trans ?_ (Up.alloc _ _) | refine Up.trans ?_ (Hid.out (by assumption)))))).facts)
      | (go_at_call 72
         refine Calls.mono (HPL.out _ _ _ HV2b.out HV6.out) ?_
         rintro e w7 ⟨u7, rfl, hv7, hu7⟩
         have HU7 := Lib.hid hu7
         have HV7 := Lib.hid hv7
         clear hu7 hv7
         obtain ⟨a0, a1, a2, a3, a4, a5, la⟩ := (HX.out.up (w' := w7) (by (repeat (first | exact Below.refl _ _ | exact Hid.out (by assumption) | refine Up.trans ?_ (Up.drew _) | refine Up.trans ?_ (Up.drewN _ _) | refine Up.trans ?_ (Up.alloc _ _) | refine Up.trans ?_ (Hid.out (by assumption)))))).facts
         obtain ⟨b0, b1, b2, b3, b4, b5, lb⟩ := (HY.out.up (w' := w7) (by (repeat (first | exact Below.refl _ _ | exact Hid.out (by assumption) | refine Up.trans ?_ (Up.drew _) | refine Up.trans ?_ (Up.drewN _ _) | refine Up.trans ?_ (Up.alloc _ _) | refine Up.trans ?_ (Hid.out (by assumption)))))).facts)
      | (go_at_call_of 71 (Value.agg #[.int .i64 s2, .bool g2, .slice A2 n2 k2])
         refine Calls.mono (HT2.out _ (by (repeat (first | exact Below.refl _ _ | exact Hid.out (by assumption) | refine Up.trans ?_ (Up.drew _) | refine Up.trans ?_ (Up.drewN _ _) | refine Up.trans ?_ (Up.alloc _ _) | refine Up.trans ?_ (Hid.out (by assumption)))))) ?_
         rintro e w3 ⟨u3, rfl, hv3, hu3⟩
         have HU3 := Lib.hid hu3
         have HV3 := Lib.hid hv3
         have HV7b := Lib.hid (HV7.out.up hu3)
         clear hu3 hv3
         obtain ⟨a0, a1, a2, a3, a4, a5, la⟩ := (HX.out.up (w' := w3) (by (repeat (first | exact Below.refl _ _ | exact Hid.out (by assumption) | refine Up.trans ?_ (Up.drew _) | refine Up.trans ?_ (Up.drewN _ _) | refine Up.trans ?_ (Up.alloc _ _) | refine Up.trans ?_ (Hid.out (by assumption)))))).facts
         obtain ⟨b0, b1, b2, b3, b4, b5, lb⟩ := (HY.out.up (w' := w3) (by (repeat (first | exact Below.refl _ _ | exact Hid.out (by assumption) | refine Up.trans ?_ (Up.drew _) | refine Up.trans ?_ (Up.drewN _ _) | refine Up.trans ?_ (Up.alloc _ _) | refine Up.trans ?_ (Hid.out (by assumption)))))).facts)))
  have HF := Lib.hid (HZ.out.set s5 g5 (.slice A5 n5 k5) s6 g6 (.slice A6 n6 k6))
  have HM : Hid (Made (put6 w4 (w.heap.size + 1 + 1) (.int .i64 s5) (.bool g5) (.slice A5 n5 k5) (.int .i64 s6) (.bool g6) (.slice A6 n6 k6)) (.agg #[.int .i64 s5, .bool g5, .slice A5 n5 k5, .int .i64 s6, .bool g6, .slice A6 n6 k6]) x y) := Lib.hid (by
    obtain ⟨s7, s8, g7, g8, A7, A8, n7, k7, n8, k8, he, h1, h2⟩ := HV4.out
    exact ⟨s7, s8, g7, g8, A7, A8, n7, k7, n8, k8, he, h1.put6 HZ.out _ _ _ _ _ _, h2.put6 HZ.out _ _ _ _ _ _⟩)
  have HUF := Lib.hid ((show Up w w4 by (repeat (first | exact Below.refl _ _ | exact Hid.out (by assumption) | refine Up.trans ?_ (Up.drew _) | refine Up.trans ?_ (Up.drewN _ _) | refine Up.trans ?_ (Up.alloc _ _) | refine Up.trans ?_ (Hid.out (by assumption))))).put6 (show w.heap.size ≤ w.heap.size + 1 + 1 by omega) (.int .i64 s5) (.bool g5) (.slice A5 n5 k5) (.int .i64 s6) (.bool g6) (.slice A6 n6 k6))
  go_wp2
  obtain ⟨z0, z1, z2, z3, z4, z5, -⟩ := HF.out.facts
  refine bodyPost_ret (by simp [results, Tryz.results25, go_sem, z0, z1, z2, z3, z4, z5]; try rfl) rfl ?_
  exact ⟨_, rfl, HM.out, HUF.out⟩
end Go.Proofs.YtacbjbnocepnaaaGreatDoor
namespace Go.Proofs.YtacbjbnocepnaaaGreatDoor
open Go.RowKit Fm
theorem QB.mul {a b : Rat} {n m k : Nat} (ha : QB a n) (hb : QB b m) (hk : n + m ≤ k) : QB (a * b) k := by
  rw [rat_mul]
  exact QB.divInt (rl_mul ha.1 hb.1 hk) (rl_mul ha.2 hb.2 hk) (Int.mul_ne_zero (den_ne a) (den_ne b))
theorem num_ne {b : Rat} (h : b ≠ 0) : b.num ≠ 0 := fun e => h (Rat.num_eq_zero.1 e)
theorem QB.neg {a : Rat} {n : Nat} (ha : QB a n) : QB (-a) n := by
  unfold QB
  rw [Rat.neg_num, Rat.neg_den, rl_neg]
  exact ha
theorem refRatPlus_q (v1 v2 : Value) (a b : Rat) (n m : Nat) (w : World) (h1 : RQ w v1 a) (h2 : RQ w v2 b) (ha : QB a n) (hb : QB b m) (hn : n + m + 1 ≤ 536870912) :
    Calls Tryz.prog 25 #[v1, v2] w fun e w' => ∃ v', e = .returned v' ∧ RQ w' v' (a + b) ∧ Up w w' := by
  have h0 : (a.den : Int) * b.den ≠ 0 := Int.mul_ne_zero (den_ne a) (den_ne b)
  refine Calls.mono (refRatPlus_any v1 v2 _ _ _ _ w h1 h2 (Nat.le_trans ha.1 (by omega)) (Nat.le_trans ha.2 (by omega)) (Nat.le_trans hb.1 (by omega)) (Nat.le_trans hb.2 (by omega))
    (rl_mul ha.1 hb.2 (by omega)) (rl_mul hb.1 ha.2 (by omega)) (rl_add (k := n + m) (rl_mul ha.1 hb.2 (Nat.le_refl _)) (rl_mul hb.1 ha.2 (by omega)) hn) (rl_mul ha.2 hb.2 (by omega)) h0) ?_
  rintro e w1 ⟨v, rfl, hv, hu⟩
  exact ⟨v, rfl, rat_add a b ▸ hv.rq h0, hu⟩
theorem refRatTimes_q (v1 v2 : Value) (a b : Rat) (n m : Nat) (w : World) (h1 : RQ w v1 a) (h2 : RQ w v2 b) (ha : QB a n) (hb : QB b m) (hn : n + m + 1 ≤ 536870912) :
    Calls Tryz.prog 27 #[v1, v2] w fun e w' => ∃ v', e = .returned v' ∧ RQ w' v' (a * b) ∧ Up w w' := by
  have h0 : (a.den : Int) * b.den ≠ 0 := Int.mul_ne_zero (den_ne a) (den_ne b)
  refine Calls.mono (refRatTimes_any v1 v2 _ _ _ _ w h1 h2 (Nat.le_trans ha.1 (by omega)) (Nat.le_trans ha.2 (by omega)) (Nat.le_trans hb.1 (by omega)) (Nat.le_trans hb.2 (by omega))
    (rl_mul ha.1 hb.1 (by omega)) (rl_mul ha.2 hb.2 (by omega)) h0) ?_
  rintro e w1 ⟨v, rfl, hv, hu⟩
  exact ⟨v, rfl, rat_mul a b ▸ hv.rq h0, hu⟩
theorem refRatOver_q (v1 v2 : Value) (a b : Rat) (n m : Nat) (w : World) (h1 : RQ w v1 a) (h2 : RQ w v2 b) (ha : QB a n) (hb : QB b m) (hn : n + m + 1 ≤ 536870912) (hb0 : b ≠ 0) :
    Calls Tryz.prog 31 #[v1, v2] w fun e w' => ∃ v', e = .returned v' ∧ RQ w' v' (a / b) ∧ Up w w' := by
  have h0 : (a.den : Int) * b.num ≠ 0 := Int.mul_ne_zero (den_ne a) (num_ne hb0)
  refine Calls.mono (refRatOver_any v1 v2 _ _ _ _ w h1 h2 (Nat.le_trans ha.1 (by omega)) (Nat.le_trans ha.2 (by omega)) (Nat.le_trans hb.1 (by omega)) (Nat.le_trans hb.2 (by omega))
    (rl_mul ha.1 hb.2 (by omega)) (rl_mul ha.2 hb.1 (by omega)) h0) ?_
  rintro e w1 ⟨v, rfl, hv, hu⟩
  exact ⟨v, rfl, rat_div a b ▸ hv.rq h0, hu⟩
theorem refRatMinus_q (v1 : Value) (a : Rat) (w : World) (h1 : RQ w v1 a) :
    Calls Tryz.prog 114 #[v1] w fun e w' => ∃ v', e = .returned v' ∧ RQ w' v' (-a) ∧ Up w w' := by
  refine Calls.mono (refRatMinus_any v1 _ _ w h1) ?_
  rintro e w1 ⟨v, rfl, hv, hu⟩
  exact ⟨v, rfl, by unfold RQ; rw [Rat.neg_num, Rat.neg_den]; exact hv, hu⟩
set_option maxHeartbeats 4000000 in
set_option maxRecDepth 10000 in
theorem refRatLess_q (v1 v2 : Value) (a b : Rat) (n0 m0 : Nat) (w : World) (h1 : RQ w v1 a) (h2 : RQ w v2 b) (ha : QB a n0) (hb : QB b m0) (hn : n0 + m0 + 1 ≤ 536870912) :
    Calls Tryz.prog 74 #[v1, v2] w fun e w' => ∃ v', e = .returned v' ∧ RQ w' v' (a - b) ∧ Up w w' := by
  have HMI := Lib.hid (fun W (hu : Up w W) => refRatMinus_q v2 b W (h2.up hu))
  have HPL := Lib.hid (fun W v (hu : Up w W) (hv : RQ W v (-b)) => refRatPlus_q v1 v a (-b) n0 m0 W (h1.up hu) hv ha hb.neg hn)
  rw [← Rat.sub_eq_add_neg] at HPL
  obtain ⟨s, s2, g, g2, A, A2, n, k, n2, k2, rfl, -⟩ := h1
  obtain ⟨t, t2, f, f2, B, B2, m, j, m2, j2, rfl, -⟩ := h2
  clear ha hb hn
  generalize a - b = x at *
  go_enter Tryz.func74, Tryz.ntmps74
  go_upto_region 1 with fail
  obtain ⟨wB, hwB, hx, hy, hr, hu⟩ := startRR w s g (.slice A n k) s2 g2 (.slice A2 n2 k2) t f (.slice B m j) t2 f2 (.slice B2 m2 j2)
  rw [hwB]
  clear hwB
  have HX := Lib.hid hx
  have HY := Lib.hid hy
  have HR := Lib.hid hr
  have HU := Lib.hid hu
  obtain ⟨a0, a1, a2, a3, a4, a5, la⟩ := hx.facts
  obtain ⟨b0, b1, b2, b3, b4, b5, lb⟩ := hy.facts
  clear hx hy hr hu
  have hne1 : (w.heap.size = w.heap.size + 1 + 1) = False := eq_false (by omega)
  have hne2 : (w.heap.size + 1 + 1 = w.heap.size) = False := eq_false (by omega)
  have hne3 : (w.heap.size + 1 = w.heap.size + 1 + 1) = False := eq_false (by omega)
  have hne4 : (w.heap.size + 1 + 1 = w.heap.size + 1) = False := eq_false (by omega)
  go_region_held3 (fun w' => w'.cell? ⟨w.heap.size, 0, none⟩ = some (.int .i64 s) ∧ w'.cell? ⟨w.heap.size, 1, none⟩ = some (.bool g) ∧ w'.cell? ⟨w.heap.size, 2, none⟩ = some (.slice A n k) ∧ w'.cell? ⟨w.heap.size, 3, none⟩ = some (.int .i64 s2) ∧ w'.cell? ⟨w.heap.size, 4, none⟩ = some (.bool g2) ∧ w'.cell? ⟨w.heap.size, 5, none⟩ = some (.slice A2 n2 k2) ∧ w'.cell? ⟨w.heap.size + 1, 0, none⟩ = some (.int .i64 t) ∧ w'.cell? ⟨w.heap.size + 1, 1, none⟩ = some (.bool f) ∧ w'.cell? ⟨w.heap.size + 1, 2, none⟩ = some (.slice B m j) ∧ w'.cell? ⟨w.heap.size + 1, 3, none⟩ = some (.int .i64 t2) ∧ w'.cell? ⟨w.heap.size + 1, 4, none⟩ = some (.bool f2) ∧ w'.cell? ⟨w.heap.size + 1, 5, none⟩ = some (.slice B2 m2 j2)) (go_keep)
    ((first
      | (go_at_call 114
         refine Calls.mono (HMI.out _ (by (repeat (first | exact Below.refl _ _ | exact Hid.out (by assumption) | refine Up.trans ?_ (Up.drew _) | refine Up.trans ?_ (Up.drewN _ _) | refine Up.trans ?_ (Up.alloc _ _) | refine Up.trans ?_ (Hid.out (by assumption)))))) ?_
         rintro e w2 ⟨u2, rfl, hv2, hu2⟩
         have HU2 := Lib.hid hu2
         have HV2 := Lib.hid hv2
         clear hu2 hv2
         obtain ⟨a0, a1, a2, a3, a4, a5, la⟩ := (HX.out.up (w' := w2) (by (repeat (first | exact Below.refl _ _ | exact Hid.out (by assumption) | refine Up.trans ?_ (Up.drew _) | refine Up.trans ?_ (Up.drewN _ _) | refine Up.trans ?_ (Up.alloc _ _) | refine Up.trans ?_ (Hid.out (by assumption)))))).facts
         obtain ⟨b0, b1, b2, b3, b4, b5, lb⟩ := (HY.out.up (w' := w2) (by (repeat (first | exact Below.refl _ _ | exact Hid.out (by assumption) | refine Up.trans ?_ (Up.drew _) | refine Up.trans ?_ (Up.drewN _ _) | refine Up.trans ?_ (Up.alloc _ _) | refine Up.trans ?_ (Hid.out (by assumption)))))).facts)
      | (go_at_call 25
         refine Calls.mono (HPL.out _ _ (by (repeat (first | exact Below.refl _ _ | exact Hid.out (by assumption) | refine Up.trans ?_ (Up.drew _) | refine Up.trans ?_ (Up.drewN _ _) | refine Up.trans ?_ (Up.alloc _ _) | refine Up.trans ?_ (Hid.out (by assumption))))) HV2.out) ?_
         rintro e w4 ⟨u4, rfl, hv4, hu4⟩
         have HU4 := Lib.hid hu4
         have HV4 := Lib.hid hv4
         obtain ⟨s5, s6, g5, g6, A5, A6, n5, k5, n6, k6, rfl, -⟩ := hv4
         clear hu4
         have HZ := Lib.hid (HR.out.up (w' := w4) (by (repeat (first | exact Below.refl _ _ | exact Hid.out (by assumption) | refine Up.trans ?_ (Up.drew _) | refine Up.trans ?_ (Up.drewN _ _) | refine Up.trans ?_ (Up.alloc _ _) | refine Up.trans ?_ (Hid.out (by assumption))))))
         obtain ⟨r0, r1, r2, r3, r4, r5, lr⟩ := HZ.out.facts
         have f0 := HZ.out.frozen 0
         have f1 := HZ.out.frozen 1
         have f2 := HZ.out.frozen 2
         have f3 := HZ.out.frozen 3
         have f4 := HZ.out.frozen 4
         have f5 := HZ.out.frozen 5
         obtain ⟨a0, a1, a2, a3, a4, a5, la⟩ := (HX.out.up (w' := w4) (by (repeat (first | exact Below.refl _ _ | exact Hid.out (by assumption) | refine Up.trans ?_ (Up.drew _) | refine Up.trans ?_ (Up.drewN _ _) | refine Up.trans ?_ (Up.alloc _ _) | refine Up.trans ?_ (Hid.out (by assumption)))))).facts
         obtain ⟨b0, b1, b2, b3, b4, b5, lb⟩ := (HY.out.up (w' := w4) (by (repeat (first | exact Below.refl _ _ | exact Hid.out (by assumption) | refine Up.trans ?_ (Up.drew _) | refine Up.trans ?_ (Up.drewN _ _) | refine Up.trans ?_ (Up.alloc _ _) | refine Up.trans ?_ (Hid.out (by assumption)))))).facts)))
  have HF := Lib.hid (HZ.out.set s5 g5 (.slice A5 n5 k5) s6 g6 (.slice A6 n6 k6))
  have HM : Hid (RQ (put6 w4 (w.heap.size + 1 + 1) (.int .i64 s5) (.bool g5) (.slice A5 n5 k5) (.int .i64 s6) (.bool g6) (.slice A6 n6 k6)) (.agg #[.int .i64 s5, .bool g5, .slice A5 n5 k5, .int .i64 s6, .bool g6, .slice A6 n6 k6]) x) := Lib.hid (by
    obtain ⟨s7, s8, g7, g8, A7, A8, n7, k7, n8, k8, he, h1, h2⟩ := HV4.out
    exact ⟨s7, s8, g7, g8, A7, A8, n7, k7, n8, k8, he, h1.put6 HZ.out _ _ _ _ _ _, h2.put6 HZ.out _ _ _ _ _ _⟩)
  have HUF := Lib.hid ((show Up w w4 by (repeat (first | exact Below.refl _ _ | exact Hid.out (by assumption) | refine Up.trans ?_ (Up.drew _) | refine Up.trans ?_ (Up.drewN _ _) | refine Up.trans ?_ (Up.alloc _ _) | refine Up.trans ?_ (Hid.out (by assumption))))).put6 (show w.heap.size ≤ w.heap.size + 1 + 1 by omega) (.int .i64 s5) (.bool g5) (.slice A5 n5 k5) (.int .i64 s6) (.bool g6) (.slice A6 n6 k6))
  go_wp2
  obtain ⟨z0, z1, z2, z3, z4, z5, -⟩ := HF.out.facts
  refine bodyPost_ret (by simp [results, Tryz.results74, go_sem, z0, z1, z2, z3, z4, z5]; try rfl) rfl ?_
  exact ⟨_, rfl, HM.out, HUF.out⟩
set_option maxHeartbeats 1000000 in
set_option maxRecDepth 10000 in
theorem refRatCompare_q (v1 v2 : Value) (a b : Rat) (n0 m0 : Nat) (w : World) (h1 : RQ w v1 a) (h2 : RQ w v2 b) (ha : QB a n0) (hb : QB b m0) (hn : n0 + m0 + 1 ≤ 536870912) :
    Calls Tryz.prog 32 #[v1, v2] w fun e w' => e = .returned (.int .i64 (a - b).num.sign) ∧ Up w w' := by
  have HLE := Lib.hid (fun W (hu : Up w W) => refRatLess_q v1 v2 a b n0 m0 W (h1.up hu) (h2.up hu) ha hb hn)
  obtain ⟨s, s2, g, g2, A, A2, n, k, n2, k2, rfl, -⟩ := h1
  obtain ⟨t, t2, f, f2, B, B2, m, j, m2, j2, rfl, -⟩ := h2
  clear ha hb hn
  generalize a - b = x at *
  go_enter Tryz.func32, Tryz.ntmps32
  go_wp2_with fail
  refine Calls.mono (HLE.out _ (by (repeat (first | exact Below.refl _ _ | exact Hid.out (by assumption) | refine Up.trans ?_ (Up.drew _) | refine Up.trans ?_ (Up.drewN _ _) | refine Up.trans ?_ (Up.alloc _ _) | refine Up.trans ?_ (Hid.out (by assumption)))))) ?_
  rintro e w3 ⟨v3, rfl, hv3, hu3⟩
  have HSI := Lib.hid (refRatSign_any v3 _ _ w3 hv3)
  have HU3 := Lib.hid hu3
  clear hv3 hu3
  go_wp2_with fail
  refine Calls.mono HSI.out ?_
  rintro e w4 ⟨rfl, hu4⟩
  have HU4 := Lib.hid hu4
  clear hu4
  go_wp2
  go_ret
  exact ⟨rfl, by (repeat (first | exact Below.refl _ _ | exact Hid.out (by assumption) | refine Up.trans ?_ (Up.drew _) | refine Up.trans ?_ (Up.drewN _ _) | refine Up.trans ?_ (Up.alloc _ _) | refine Up.trans ?_ (Hid.out (by assumption))))⟩
end Go.Proofs.YtacbjbnocepnaaaGreatDoor
namespace Go.Proofs.YtacbjbnocepnaaaGreatDoor
open Go.RowKit Fm
theorem refOk_eq (x y : Int) : refOk x y = okNum x y := by
  unfold refOk okNum
  apply decide_eq_decide.2
  constructor
  · rintro ⟨a, b, c, d, e⟩; exact ⟨a, b, d, c, e⟩
  · rintro ⟨a, b, c, d, e⟩; exact ⟨a, b, d, c, e⟩
theorem refTo_q (x y : Int) (w : World) (h : okNum x y = true) :
    Calls Tryz.prog 26 #[.agg #[.int .i64 x, .int .i64 y]] w fun e w' => ∃ v, e = .returned v ∧ RQ w' v (ratOf x y) ∧ Up w w' := by
  have hb := ok_bounds h
  obtain ⟨e1, e2⟩ := ratOf_ok h
  unfold RQ
  rw [e1, e2]
  exact refTo_any x y w (by omega) (by omega) (by omega) (by omega)
theorem ok_QB {x y : Int} (h : okNum x y = true) : QB (ratOf x y) 3 := by
  have hb := ok_bounds h
  obtain ⟨e1, e2⟩ := ratOf_ok h
  unfold QB
  rw [e1, e2]
  exact ⟨rl_int (by omega) (by omega), rl_int (by omega) (by omega)⟩
end Go.Proofs.YtacbjbnocepnaaaGreatDoor
namespace Go.Proofs.YtacbjbnocepnaaaGreatDoor
open Go.RowKit Fm
def okAll (xs : List (Int × Int)) : Bool := xs.all fun p => okNum p.1 p.2
set_option maxHeartbeats 1000000 in
set_option maxRecDepth 10000 in
theorem refAll_any (A : Option Addr) (c : Nat) (xs : List (Int × Int)) (w : World) (hc : xs.length ≤ c) (hcm : c ≤ maxLen) (hr : RdN w A xs) (hx : ∀ p, p ∈ xs → Rng p.1 p.2) :
    Calls Tryz.prog 46 #[.slice A xs.length c] w fun e w' => e = .returned (.bool (okAll xs)) ∧ Up w w' := by
  have hlen := len_le hc hcm
  clear hcm hc
  go_enter Tryz.func46, Tryz.ntmps46
  go_wp2
  go_loopw [7] (fun i wr => ∃ k : Nat, k ≤ xs.length ∧ i = .int .i64 k ∧ Hid (okAll (xs.take k) = true) ∧ Up w wr) (fun i _ => xs.length - (intOf i).toNat)
  case atStart => exact ⟨0, by omega, rfl, rfl, Up.refl _⟩
  case round =>
    obtain ⟨k, hk, rfl, HK, hup⟩ := hrel
    have HU := Lib.hid hup
    have hrA := hr.up hup
    clear hup
    by_cases hkl : k < xs.length
    · obtain ⟨b, off, rfl, hbb, hcell⟩ := hrA.at_ hkl
      have hR := hx xs[k] (List.getElem_mem hkl)
      obtain ⟨x, hxx⟩ : ∃ x, x = xs[k].1 := ⟨_, rfl⟩
      obtain ⟨y, hyy⟩ : ∃ y, y = xs[k].2 := ⟨_, rfl⟩
      rw [← hxx, ← hyy] at hcell hR
      obtain ⟨c0, c1⟩ := hcell
      have HV := Lib.hid (fun W => refValid_any x y W hR.1 hR.2.1 hR.2.2.1 hR.2.2.2)
      rw [refOk_eq] at HV
      have HNEXT : Hid (okAll (xs.take (k + 1)) = okNum x y) := by
        unfold Hid
        rw [hxx, hyy]
        have := HK.out
        unfold okAll at this ⊢
        rw [List.take_succ_eq_append_getElem hkl, List.all_append, this]
        simp
      have HFALSE : Hid (okNum x y = false → okAll xs = false) := Lib.hid (fun h => by
        rw [hxx, hyy] at h
        unfold okAll
        rw [List.all_eq_false]
        exact ⟨xs[k], List.getElem_mem hkl, by simp [h]⟩)
      clear hxx hyy hR hrA HK
      go_wp2_with fail
      have HUA := Lib.hid (Up.alloc wr (.cells #[.int .i64 x, .int .i64 y] 55))
      refine Calls.mono (HV.out _) ?_
      rintro e w1 ⟨rfl, hu1⟩
      have HU1 := Lib.hid hu1
      clear hu1 c0 c1 hbb hr
      rcases hv : okNum x y with _ | _
      · have HA := Lib.hid (HFALSE.out hv)
        clear HNEXT HFALSE hv
        go_wp2
        go_ret
        exact ⟨by rw [HA.out]; rfl, by (repeat (first | exact Below.refl _ _ | exact Hid.out (by assumption) | refine Up.trans ?_ (Up.drew _) | refine Up.trans ?_ (Up.drewN _ _) | refine Up.trans ?_ (Up.alloc _ _) | refine Up.trans ?_ (Hid.out (by assumption))))⟩
      · rw [hv] at HNEXT
        clear HFALSE hv
        go_wp2_with fail
        go_roundw
        case rel => exact ⟨k + 1, hkl, by simp, HNEXT, by (repeat (first | exact Below.refl _ _ | exact Hid.out (by assumption) | refine Up.trans ?_ (Up.drew _) | refine Up.trans ?_ (Up.drewN _ _) | refine Up.trans ?_ (Up.alloc _ _) | refine Up.trans ?_ (Hid.out (by assumption))))⟩
        case measure => simp [intOf]; omega
    · have HE : Hid (okAll xs = true) := by
        have := HK.out
        rw [List.take_of_length_le (by omega)] at this
        exact this
      clear HK
      go_wp2
      go_ret
      exact ⟨by rw [HE.out]; rfl, HU.out⟩
end Go.Proofs.YtacbjbnocepnaaaGreatDoor
namespace Go.Proofs.YtacbjbnocepnaaaGreatDoor
open Go.RowKit Fm
end Go.Proofs.YtacbjbnocepnaaaGreatDoor
namespace Go.Proofs.YtacbjbnocepnaaaGreatDoor
open Go.RowKit Fm
theorem CellR.frozen6 {w : World} {g : Nat} {s s2 : Int} {b b2 : Bool} {v v2 : Value} (h : CellR w g s b v s2 b2 v2) : w.frozen? ⟨g, 0, none⟩ = false ∧ w.frozen? ⟨g, 1, none⟩ = false ∧ w.frozen? ⟨g, 2, none⟩ = false ∧ w.frozen? ⟨g, 3, none⟩ = false ∧ w.frozen? ⟨g, 4, none⟩ = false ∧ w.frozen? ⟨g, 5, none⟩ = false :=
  ⟨h.frozen 0, h.frozen 1, h.frozen 2, h.frozen 3, h.frozen 4, h.frozen 5⟩
theorem RQ.put6 {w : World} {u : Value} {q : Rat} (h : RQ w u q) {g : Nat} {s s2 : Int} {b b2 : Bool} {A A2 : Option Addr} {n c n2 c2 : Nat} (hg : CellR w g s b (.slice A n c) s2 b2 (.slice A2 n2 c2)) (x y t x2 y2 t2 : Value) : RQ (put6 w g x y t x2 y2 t2) u q := by
  obtain ⟨s7, s8, g7, g8, A7, A8, n7, k7, n8, k8, he, h1, h2⟩ := h
  exact ⟨s7, s8, g7, g8, A7, A8, n7, k7, n8, k8, he, h1.put6 hg _ _ _ _ _ _, h2.put6 hg _ _ _ _ _ _⟩
end Go.Proofs.YtacbjbnocepnaaaGreatDoor
namespace Go.Proofs.YtacbjbnocepnaaaGreatDoor
open Go.RowKit Fm
theorem int_divInt (n : Int) : (n : Rat) = Rat.divInt n 1 := (Rat.num_divInt_den (n : Rat)).symm
theorem ratOf_one (n : Int) : ratOf n 1 = (n : Rat) := by
  unfold ratOf; exact (int_divInt n).symm
theorem int_QB {n : Int} (h1 : -9223372036854775808 ≤ n) (h2 : n ≤ 9223372036854775807) : QB (n : Rat) 3 :=
  ⟨rl_int h1 h2, rl_int (z := ((n : Rat).den : Int)) (by show (-9223372036854775808 : Int) ≤ 1; omega) (by show (1 : Int) ≤ 9223372036854775807; omega)⟩
end Go.Proofs.YtacbjbnocepnaaaGreatDoor
