/- Contract of the reference implementation's Whole. -/
import Derived.Test.YtimlainffbpfdaaDoorGP
namespace Go.Proofs.YtimlainffbpfdaaDoor
open Go.RowKit Fm

set_option maxHeartbeats 2000000 in
set_option maxRecDepth 10000 in
theorem refWhole_any (x : Int) (w : World) (hx1 : -9223372036854775808 ≤ x) (hx2 : x ≤ 9223372036854775807) :
    Calls Tryd.prog 50 #[.int .i64 x] w fun e w' => ∃ v, e = .returned v ∧ RR w' v x 1 ∧ Up w w' := by
  have HO1 := Lib.hid (fun W => refOf_any x W hx1 hx2)
  have HO2 := Lib.hid (fun W => refOf_any 1 W (by omega) (by omega))
  clear hx1 hx2
  go_enter Tryd.func50, Tryd.ntmps50
  go_wp2_with fail
  obtain ⟨wB, hwB⟩ : ∃ wB, wB = w.alloc (.cells #[.int .i64 0, .bool false, .slice none 0 0, .int .i64 0, .bool false, .slice none 0 0] 38) := ⟨_, rfl⟩
  have HR := Lib.hid (show CellR wB w.heap.size 0 false (.slice none 0 0) 0 false (.slice none 0 0) by rw [hwB]; exact CellR.new _ _ _ _ _ _ _)
  have HU := Lib.hid (show Up w wB by rw [hwB]; exact Up.alloc _ _)
  rw [← hwB]
  clear hwB
  refine Calls.mono (HO1.out _) ?_
  rintro e w1 ⟨u1, rfl, hv1, hu1⟩
  have HU1 := Lib.hid hu1
  have HV1 := Lib.hid hv1
  obtain ⟨s1, g1, A1, n1, c1, rfl, -⟩ := hv1
  clear hu1
  go_wp2_with fail
  refine Calls.mono (HO2.out _) ?_
  rintro e w2 ⟨u2, rfl, hv2, hu2⟩
  have HU2 := Lib.hid hu2
  have HV2 := Lib.hid hv2
  have HV1b := Lib.hid (HV1.out.up hu2)
  obtain ⟨s2, g2, A2, n2, c2, rfl, -⟩ := hv2
  clear hu2
  have HX := Lib.hid (HR.out.up (w' := w2) (by (repeat (first | exact Below.refl _ _ | exact Go.RowKit.Hid.out (by assumption) | refine Up.trans ?_ (Up.drew _) | refine Up.trans ?_ (Up.drewN _ _) | refine Up.trans ?_ (Up.alloc _ _) | refine Up.trans ?_ (Go.RowKit.Hid.out (by assumption))))))
  obtain ⟨r0, r1, r2, r3, r4, r5, lr⟩ := HX.out.facts
  have f0 := HX.out.frozen 0
  have f1 := HX.out.frozen 1
  have f2 := HX.out.frozen 2
  have f3 := HX.out.frozen 3
  have f4 := HX.out.frozen 4
  have f5 := HX.out.frozen 5
  have HF := Lib.hid (HX.out.set s1 g1 (.slice A1 n1 c1) s2 g2 (.slice A2 n2 c2))
  have HP := Lib.hid (HV1b.out.put6 HX.out (.int .i64 s1) (.bool g1) (.slice A1 n1 c1) (.int .i64 s2) (.bool g2) (.slice A2 n2 c2))
  have HQ := Lib.hid (HV2.out.put6 HX.out (.int .i64 s1) (.bool g1) (.slice A1 n1 c1) (.int .i64 s2) (.bool g2) (.slice A2 n2 c2))
  have HUF := Lib.hid ((show Up w w2 by (repeat (first | exact Below.refl _ _ | exact Go.RowKit.Hid.out (by assumption) | refine Up.trans ?_ (Up.drew _) | refine Up.trans ?_ (Up.drewN _ _) | refine Up.trans ?_ (Up.alloc _ _) | refine Up.trans ?_ (Go.RowKit.Hid.out (by assumption))))).put6 (show w.heap.size ≤ w.heap.size by omega) (.int .i64 s1) (.bool g1) (.slice A1 n1 c1) (.int .i64 s2) (.bool g2) (.slice A2 n2 c2))
  go_wp2
  obtain ⟨z0, z1, z2, z3, z4, z5, -⟩ := HF.out.facts
  refine bodyPost_ret (by simp [results, Tryd.results50, go_sem, z0, z1, z2, z3, z4, z5]; try rfl) rfl ?_
  exact ⟨_, rfl, ⟨s1, s2, g1, g2, A1, A2, n1, c1, n2, c2, rfl, HP.out, HQ.out⟩, HUF.out⟩
end Go.Proofs.YtimlainffbpfdaaDoor
