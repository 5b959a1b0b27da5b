/- Contract of the reference implementation's search by continued fractions. -/
import Derived.Test.YtimlainffbpfdaaDoorGQ
import Derived.Test.YtimlainffbpfdaaDoorGI
import Derived.Test.YtimlainffbpfdaaDoorGH
import Derived.Test.YtimlainffbpfdaaDoorGP2
import Derived.Test.YtimlainffbpfdaaDoorGQ2
import Derived.Test.YtimlainffbpfdaaDoorGI3
namespace Go.Proofs.YtimlainffbpfdaaDoor
open Go.RowKit Fm

theorem CellR.frozen6 {w : World} {g : Nat} {s s2 : Int} {b b2 : Bool} {v v2 : Value} (h : CellR w g s b v s2 b2 v2) : w.frozen? ⟨g, 0, none⟩ = false ∧ w.frozen? ⟨g, 1, none⟩ = false ∧ w.frozen? ⟨g, 2, none⟩ = false ∧ w.frozen? ⟨g, 3, none⟩ = false ∧ w.frozen? ⟨g, 4, none⟩ = false ∧ w.frozen? ⟨g, 5, none⟩ = false :=
  ⟨h.frozen 0, h.frozen 1, h.frozen 2, h.frozen 3, h.frozen 4, h.frozen 5⟩
theorem RQ.put6 {w : World} {u : Value} {q : Rat} (h : RQ w u q) {g : Nat} {s s2 : Int} {b b2 : Bool} {A A2 : Option Addr} {n c n2 c2 : Nat} (hg : CellR w g s b (.slice A n c) s2 b2 (.slice A2 n2 c2)) (x y t x2 y2 t2 : Value) : RQ (put6 w g x y t x2 y2 t2) u q := by
  obtain ⟨s7, s8, g7, g8, A7, A8, n7, k7, n8, k8, he, h1, h2⟩ := h
  exact ⟨s7, s8, g7, g8, A7, A8, n7, k7, n8, k8, he, h1.put6 hg _ _ _ _ _ _, h2.put6 hg _ _ _ _ _ _⟩

set_option maxHeartbeats 8000000 in
set_option maxRecDepth 10000 in
theorem refSimp_whole (sg : Int) (hsg : sg = 0) (v1 v2 : Value) (a b : Rat) (x : Int) (w : World) (h1 : RQ w v1 a) (h2 : RQ w v2 b)
    (HD : Hid (∀ W, Up w W → Calls Tryd.prog 35 #[v1] W fun e w' => ∃ v, e = .returned v ∧ RI w' v x ∧ Up W w'))
    (HC1 : Hid (∀ W v, Up w W → RQ W v (x : Rat) → Calls Tryd.prog 19 #[v1, v] W fun e w' => e = .returned (.int .i64 sg) ∧ Up W w')) :
    Calls Tryd.prog 45 #[v1, v2] w fun e w' => ∃ v, e = .returned v ∧ RQ w' v (x : Rat) ∧ Up w w' := by
  subst hsg
  obtain ⟨s, s2, g, g2, A, A2, n, k, n2, k2, rfl, hp1, hp2⟩ := h1
  obtain ⟨t, t2, f, f2, B, B2, m, j, m2, j2, rfl, hq1, hq2⟩ := h2
  have HO1 := Lib.hid (fun W => refOf_any 1 W (by omega) (by omega))
  have HVA : Hid (RQ w (.agg #[.int .i64 s, .bool g, .slice A n k, .int .i64 s2, .bool g2, .slice A2 n2 k2]) a) := Lib.hid ⟨_, _, _, _, _, _, _, _, _, _, rfl, hp1, hp2⟩
  have HVB : Hid (RQ w (.agg #[.int .i64 t, .bool f, .slice B m j, .int .i64 t2, .bool f2, .slice B2 m2 j2]) b) := Lib.hid ⟨_, _, _, _, _, _, _, _, _, _, rfl, hq1, hq2⟩
  clear hp1 hp2 hq1 hq2
  go_enter Tryd.func45, Tryd.ntmps45
  go_upto_region 1 with fail
  obtain ⟨wB, hwB, hx, hy, hr, hu⟩ := startRR w s g (.slice A n k) s2 g2 (.slice A2 n2 k2) t f (.slice B m j) t2 f2 (.slice B2 m2 j2)
  rw [hwB]
  clear hwB
  have HX := Lib.hid hx
  have HY := Lib.hid hy
  have HR := Lib.hid hr
  have HU := Lib.hid hu
  obtain ⟨a0, a1, a2, a3, a4, a5, la⟩ := hx.facts
  clear hx hy hr hu
  go_wp2_with fail
  clear a0 a1 a2 a3 a4 a5 la
  refine Calls.mono (HD.out _ (by (repeat (first | exact Below.refl _ _ | exact Go.RowKit.Hid.out (by assumption) | refine Up.trans ?_ (Up.drew _) | refine Up.trans ?_ (Up.drewN _ _) | refine Up.trans ?_ (Up.alloc _ _) | refine Up.trans ?_ (Go.RowKit.Hid.out (by assumption)))))) ?_
  rintro e w1 ⟨u1, rfl, hv1, hu1⟩
  have HU1 := Lib.hid hu1
  have HV1 := Lib.hid hv1
  obtain ⟨s3, g3, A3, n3, k3, rfl, -⟩ := hv1
  clear hu1
  go_wp2_with fail
  refine Calls.mono (HO1.out _) ?_
  rintro e w2 ⟨u2, rfl, hv2, hu2⟩
  have HU2 := Lib.hid hu2
  have HV2 := Lib.hid hv2
  have HV1b := Lib.hid (HV1.out.up hu2)
  obtain ⟨s4, g4, A4, n4, k4, rfl, -⟩ := hv2
  have hbs : w.heap.size + 1 + 1 < w2.heap.size := Nat.lt_of_lt_of_le HR.out.lt (show Up wB w2 by (repeat (first | exact Below.refl _ _ | exact Go.RowKit.Hid.out (by assumption) | refine Up.trans ?_ (Up.drew _) | refine Up.trans ?_ (Up.drewN _ _) | refine Up.trans ?_ (Up.alloc _ _) | refine Up.trans ?_ (Go.RowKit.Hid.out (by assumption))))).size
  clear hu2
  go_upto_region 2 with fail
  obtain ⟨wC, hwC⟩ : ∃ wC, wC = w2.alloc (.cells #[.int .i64 s3, .bool g3, .slice A3 n3 k3, .int .i64 s4, .bool g4, .slice A4 n4 k4] 38) := ⟨_, rfl⟩
  have HNX := Lib.hid (show CellR wC w2.heap.size s3 g3 (.slice A3 n3 k3) s4 g4 (.slice A4 n4 k4) by rw [hwC]; exact CellR.new _ _ _ _ _ _ _)
  have HUC := Lib.hid (show Up w2 wC by rw [hwC]; exact Up.alloc _ _)
  have HVN : Hid (RQ wC (.agg #[.int .i64 s3, .bool g3, .slice A3 n3 k3, .int .i64 s4, .bool g4, .slice A4 n4 k4]) (x : Rat)) := Lib.hid ⟨_, _, _, _, _, _, _, _, _, _, rfl, HV1b.out.up HUC.out, HV2.out.up HUC.out⟩
  rw [← hwC]
  clear hwC HV1 HV1b HV2
  have hne1 : (w.heap.size = w.heap.size + 1 + 1) = False := eq_false (by omega)
  have hne2 : (w.heap.size + 1 + 1 = w.heap.size) = False := eq_false (by omega)
  have hne3 : (w.heap.size + 1 = w.heap.size + 1 + 1) = False := eq_false (by omega)
  have hne4 : (w.heap.size + 1 + 1 = w.heap.size + 1) = False := eq_false (by omega)
  have hne5 : (w2.heap.size = w.heap.size + 1 + 1) = False := eq_false (by omega)
  have hne6 : (w.heap.size + 1 + 1 = w2.heap.size) = False := eq_false (by omega)
  obtain ⟨a0, a1, a2, a3, a4, a5, la⟩ := (HX.out.up (w' := wC) (by (repeat (first | exact Below.refl _ _ | exact Go.RowKit.Hid.out (by assumption) | refine Up.trans ?_ (Up.drew _) | refine Up.trans ?_ (Up.drewN _ _) | refine Up.trans ?_ (Up.alloc _ _) | refine Up.trans ?_ (Go.RowKit.Hid.out (by assumption)))))).facts
  obtain ⟨c0, c1, c2, c3, c4, c5, lc⟩ := (HNX.out.up (w' := wC) (by (repeat (first | exact Below.refl _ _ | exact Go.RowKit.Hid.out (by assumption) | refine Up.trans ?_ (Up.drew _) | refine Up.trans ?_ (Up.drewN _ _) | refine Up.trans ?_ (Up.alloc _ _) | refine Up.trans ?_ (Go.RowKit.Hid.out (by assumption)))))).facts
  go_wp2_with fail
  refine Calls.mono (HC1.out _ _ (by (repeat (first | exact Below.refl _ _ | exact Go.RowKit.Hid.out (by assumption) | refine Up.trans ?_ (Up.drew _) | refine Up.trans ?_ (Up.drewN _ _) | refine Up.trans ?_ (Up.alloc _ _) | refine Up.trans ?_ (Go.RowKit.Hid.out (by assumption))))) HVN.out) ?_
  rintro e w3 ⟨rfl, hu3⟩
  have HU3 := Lib.hid hu3
  clear hu3 a0 a1 a2 a3 a4 a5 la c0 c1 c2 c3 c4 c5 lc
  obtain ⟨c0, c1, c2, c3, c4, c5, lc⟩ := (HNX.out.up (w' := w3) (by (repeat (first | exact Below.refl _ _ | exact Go.RowKit.Hid.out (by assumption) | refine Up.trans ?_ (Up.drew _) | refine Up.trans ?_ (Up.drewN _ _) | refine Up.trans ?_ (Up.alloc _ _) | refine Up.trans ?_ (Go.RowKit.Hid.out (by assumption)))))).facts
  obtain ⟨r0, r1, r2, r3, r4, r5, lr⟩ := (HR.out.up (w' := w3) (by (repeat (first | exact Below.refl _ _ | exact Go.RowKit.Hid.out (by assumption) | refine Up.trans ?_ (Up.drew _) | refine Up.trans ?_ (Up.drewN _ _) | refine Up.trans ?_ (Up.alloc _ _) | refine Up.trans ?_ (Go.RowKit.Hid.out (by assumption)))))).facts
  have HZ := Lib.hid (HR.out.up (w' := w3) (by (repeat (first | exact Below.refl _ _ | exact Go.RowKit.Hid.out (by assumption) | refine Up.trans ?_ (Up.drew _) | refine Up.trans ?_ (Up.drewN _ _) | refine Up.trans ?_ (Up.alloc _ _) | refine Up.trans ?_ (Go.RowKit.Hid.out (by assumption))))))
  have HF := Lib.hid (HZ.out.set (s3) (g3) (.slice A3 n3 k3) (s4) (g4) (.slice A4 n4 k4))
  have HM : Hid (RQ (put6 w3 (w.heap.size + 1 + 1) (.int .i64 s3) (.bool g3) (.slice A3 n3 k3) (.int .i64 s4) (.bool g4) (.slice A4 n4 k4)) (.agg #[.int .i64 s3, .bool g3, .slice A3 n3 k3, .int .i64 s4, .bool g4, .slice A4 n4 k4]) (x : Rat)) := Lib.hid (by
    obtain ⟨s7, s8, g7, g8, A7, A8, n7, k7, n8, k8, he, h1, h2⟩ := HVN.out.up (show Up wC w3 by (repeat (first | exact Below.refl _ _ | exact Go.RowKit.Hid.out (by assumption) | refine Up.trans ?_ (Up.drew _) | refine Up.trans ?_ (Up.drewN _ _) | refine Up.trans ?_ (Up.alloc _ _) | refine Up.trans ?_ (Go.RowKit.Hid.out (by assumption)))))
    exact ⟨s7, s8, g7, g8, A7, A8, n7, k7, n8, k8, he, h1.put6 HZ.out _ _ _ _ _ _, h2.put6 HZ.out _ _ _ _ _ _⟩)
  have HUF := Lib.hid ((show Up w w3 by (repeat (first | exact Below.refl _ _ | exact Go.RowKit.Hid.out (by assumption) | refine Up.trans ?_ (Up.drew _) | refine Up.trans ?_ (Up.drewN _ _) | refine Up.trans ?_ (Up.alloc _ _) | refine Up.trans ?_ (Go.RowKit.Hid.out (by assumption))))).put6 (show w.heap.size ≤ w.heap.size + 1 + 1 by omega) (.int .i64 s3) (.bool g3) (.slice A3 n3 k3) (.int .i64 s4) (.bool g4) (.slice A4 n4 k4))
  have f0 := HZ.out.frozen 0
  have f1 := HZ.out.frozen 1
  have f2 := HZ.out.frozen 2
  have f3 := HZ.out.frozen 3
  have f4 := HZ.out.frozen 4
  have f5 := HZ.out.frozen 5
  go_wp2
  obtain ⟨z0, z1, z2, z3, z4, z5, -⟩ := HF.out.facts
  refine bodyPost_ret (by simp [results, Tryd.results45, go_sem, z0, z1, z2, z3, z4, z5]; try rfl) rfl ?_
  exact ⟨_, rfl, HM.out, HUF.out⟩

set_option maxHeartbeats 8000000 in
set_option maxRecDepth 10000 in
theorem refSimp_next (sg sh y : Int) (hsg : (sg == 0) = false) (hsh : sh ≤ 0) (v1 v2 : Value) (a b : Rat) (x : Int) (w : World) (h1 : RQ w v1 a) (h2 : RQ w v2 b)
    (HD : Hid (∀ W, Up w W → Calls Tryd.prog 35 #[v1] W fun e w' => ∃ v, e = .returned v ∧ RI w' v x ∧ Up W w'))
    (HC1 : Hid (∀ W v, Up w W → RQ W v (x : Rat) → Calls Tryd.prog 19 #[v1, v] W fun e w' => e = .returned (.int .i64 sg) ∧ Up W w'))
    (HW : Hid (∀ W, Calls Tryd.prog 50 #[.int .i64 1] W fun e w' => ∃ v, e = .returned v ∧ RQ w' v ((1 : Int) : Rat) ∧ Up W w'))
    (HP : Hid (∀ W u1 u2, RQ W u1 (x : Rat) → RQ W u2 ((1 : Int) : Rat) → Calls Tryd.prog 51 #[u1, u2] W fun e w' => ∃ v, e = .returned v ∧ RQ w' v (y : Rat) ∧ Up W w'))
    (HC2 : Hid (∀ W v, Up w W → RQ W v (y : Rat) → Calls Tryd.prog 19 #[v, v2] W fun e w' => e = .returned (.int .i64 sh) ∧ Up W w')) :
    Calls Tryd.prog 45 #[v1, v2] w fun e w' => ∃ v, e = .returned v ∧ RQ w' v (y : Rat) ∧ Up w w' := by
  obtain ⟨s, s2, g, g2, A, A2, n, k, n2, k2, rfl, hp1, hp2⟩ := h1
  obtain ⟨t, t2, f, f2, B, B2, m, j, m2, j2, rfl, hq1, hq2⟩ := h2
  have HO1 := Lib.hid (fun W => refOf_any 1 W (by omega) (by omega))
  have HVA : Hid (RQ w (.agg #[.int .i64 s, .bool g, .slice A n k, .int .i64 s2, .bool g2, .slice A2 n2 k2]) a) := Lib.hid ⟨_, _, _, _, _, _, _, _, _, _, rfl, hp1, hp2⟩
  have HVB : Hid (RQ w (.agg #[.int .i64 t, .bool f, .slice B m j, .int .i64 t2, .bool f2, .slice B2 m2 j2]) b) := Lib.hid ⟨_, _, _, _, _, _, _, _, _, _, rfl, hq1, hq2⟩
  clear hp1 hp2 hq1 hq2
  go_enter Tryd.func45, Tryd.ntmps45
  go_upto_region 1 with fail
  obtain ⟨wB, hwB, hx, hy, hr, hu⟩ := startRR w s g (.slice A n k) s2 g2 (.slice A2 n2 k2) t f (.slice B m j) t2 f2 (.slice B2 m2 j2)
  rw [hwB]
  clear hwB
  have HX := Lib.hid hx
  have HY := Lib.hid hy
  have HR := Lib.hid hr
  have HU := Lib.hid hu
  obtain ⟨a0, a1, a2, a3, a4, a5, la⟩ := hx.facts
  clear hx hy hr hu
  go_wp2_with fail
  clear a0 a1 a2 a3 a4 a5 la
  refine Calls.mono (HD.out _ (by (repeat (first | exact Below.refl _ _ | exact Go.RowKit.Hid.out (by assumption) | refine Up.trans ?_ (Up.drew _) | refine Up.trans ?_ (Up.drewN _ _) | refine Up.trans ?_ (Up.alloc _ _) | refine Up.trans ?_ (Go.RowKit.Hid.out (by assumption)))))) ?_
  rintro e w1 ⟨u1, rfl, hv1, hu1⟩
  have HU1 := Lib.hid hu1
  have HV1 := Lib.hid hv1
  obtain ⟨s3, g3, A3, n3, k3, rfl, -⟩ := hv1
  clear hu1
  go_wp2_with fail
  refine Calls.mono (HO1.out _) ?_
  rintro e w2 ⟨u2, rfl, hv2, hu2⟩
  have HU2 := Lib.hid hu2
  have HV2 := Lib.hid hv2
  have HV1b := Lib.hid (HV1.out.up hu2)
  obtain ⟨s4, g4, A4, n4, k4, rfl, -⟩ := hv2
  have hbs : w.heap.size + 1 + 1 < w2.heap.size := Nat.lt_of_lt_of_le HR.out.lt (show Up wB w2 by (repeat (first | exact Below.refl _ _ | exact Go.RowKit.Hid.out (by assumption) | refine Up.trans ?_ (Up.drew _) | refine Up.trans ?_ (Up.drewN _ _) | refine Up.trans ?_ (Up.alloc _ _) | refine Up.trans ?_ (Go.RowKit.Hid.out (by assumption))))).size
  clear hu2
  go_upto_region 2 with fail
  obtain ⟨wC, hwC⟩ : ∃ wC, wC = w2.alloc (.cells #[.int .i64 s3, .bool g3, .slice A3 n3 k3, .int .i64 s4, .bool g4, .slice A4 n4 k4] 38) := ⟨_, rfl⟩
  have HNX := Lib.hid (show CellR wC w2.heap.size s3 g3 (.slice A3 n3 k3) s4 g4 (.slice A4 n4 k4) by rw [hwC]; exact CellR.new _ _ _ _ _ _ _)
  have HUC := Lib.hid (show Up w2 wC by rw [hwC]; exact Up.alloc _ _)
  have HVN : Hid (RQ wC (.agg #[.int .i64 s3, .bool g3, .slice A3 n3 k3, .int .i64 s4, .bool g4, .slice A4 n4 k4]) (x : Rat)) := Lib.hid ⟨_, _, _, _, _, _, _, _, _, _, rfl, HV1b.out.up HUC.out, HV2.out.up HUC.out⟩
  rw [← hwC]
  clear hwC HV1 HV1b HV2
  have hne1 : (w.heap.size = w.heap.size + 1 + 1) = False := eq_false (by omega)
  have hne2 : (w.heap.size + 1 + 1 = w.heap.size) = False := eq_false (by omega)
  have hne3 : (w.heap.size + 1 = w.heap.size + 1 + 1) = False := eq_false (by omega)
  have hne4 : (w.heap.size + 1 + 1 = w.heap.size + 1) = False := eq_false (by omega)
  have hne5 : (w2.heap.size = w.heap.size + 1 + 1) = False := eq_false (by omega)
  have hne6 : (w.heap.size + 1 + 1 = w2.heap.size) = False := eq_false (by omega)
  obtain ⟨a0, a1, a2, a3, a4, a5, la⟩ := (HX.out.up (w' := wC) (by (repeat (first | exact Below.refl _ _ | exact Go.RowKit.Hid.out (by assumption) | refine Up.trans ?_ (Up.drew _) | refine Up.trans ?_ (Up.drewN _ _) | refine Up.trans ?_ (Up.alloc _ _) | refine Up.trans ?_ (Go.RowKit.Hid.out (by assumption)))))).facts
  obtain ⟨c0, c1, c2, c3, c4, c5, lc⟩ := (HNX.out.up (w' := wC) (by (repeat (first | exact Below.refl _ _ | exact Go.RowKit.Hid.out (by assumption) | refine Up.trans ?_ (Up.drew _) | refine Up.trans ?_ (Up.drewN _ _) | refine Up.trans ?_ (Up.alloc _ _) | refine Up.trans ?_ (Go.RowKit.Hid.out (by assumption)))))).facts
  go_wp2_with fail
  refine Calls.mono (HC1.out _ _ (by (repeat (first | exact Below.refl _ _ | exact Go.RowKit.Hid.out (by assumption) | refine Up.trans ?_ (Up.drew _) | refine Up.trans ?_ (Up.drewN _ _) | refine Up.trans ?_ (Up.alloc _ _) | refine Up.trans ?_ (Go.RowKit.Hid.out (by assumption))))) HVN.out) ?_
  rintro e w3 ⟨rfl, hu3⟩
  have HU3 := Lib.hid hu3
  clear hu3 a0 a1 a2 a3 a4 a5 la c0 c1 c2 c3 c4 c5 lc
  obtain ⟨b0, b1, b2, b3, b4, b5, lb⟩ := (HY.out.up (w' := w3) (by (repeat (first | exact Below.refl _ _ | exact Go.RowKit.Hid.out (by assumption) | refine Up.trans ?_ (Up.drew _) | refine Up.trans ?_ (Up.drewN _ _) | refine Up.trans ?_ (Up.alloc _ _) | refine Up.trans ?_ (Go.RowKit.Hid.out (by assumption)))))).facts
  obtain ⟨c0, c1, c2, c3, c4, c5, lc⟩ := (HNX.out.up (w' := w3) (by (repeat (first | exact Below.refl _ _ | exact Go.RowKit.Hid.out (by assumption) | refine Up.trans ?_ (Up.drew _) | refine Up.trans ?_ (Up.drewN _ _) | refine Up.trans ?_ (Up.alloc _ _) | refine Up.trans ?_ (Go.RowKit.Hid.out (by assumption)))))).facts
  go_upto_region 4 with fail
  go_region_held3 (fun w' => w'.cell? ⟨w.heap.size + 1, 0, none⟩ = some (.int .i64 t) ∧ w'.cell? ⟨w.heap.size + 1, 1, none⟩ = some (.bool f) ∧ w'.cell? ⟨w.heap.size + 1, 2, none⟩ = some (.slice B m j) ∧ w'.cell? ⟨w.heap.size + 1, 3, none⟩ = some (.int .i64 t2) ∧ w'.cell? ⟨w.heap.size + 1, 4, none⟩ = some (.bool f2) ∧ w'.cell? ⟨w.heap.size + 1, 5, none⟩ = some (.slice B2 m2 j2) ∧ w'.cell? ⟨w2.heap.size, 0, none⟩ = some (.int .i64 s3) ∧ w'.cell? ⟨w2.heap.size, 1, none⟩ = some (.bool g3) ∧ w'.cell? ⟨w2.heap.size, 2, none⟩ = some (.slice A3 n3 k3) ∧ w'.cell? ⟨w2.heap.size, 3, none⟩ = some (.int .i64 s4) ∧ w'.cell? ⟨w2.heap.size, 4, none⟩ = some (.bool g4) ∧ w'.cell? ⟨w2.heap.size, 5, none⟩ = some (.slice A4 n4 k4)) (go_keep)
    ((first
      | (go_at_call 19
         refine Calls.mono (HC2.out _ _ (by (repeat (first | exact Below.refl _ _ | exact Go.RowKit.Hid.out (by assumption) | refine Up.trans ?_ (Up.drew _) | refine Up.trans ?_ (Up.drewN _ _) | refine Up.trans ?_ (Up.alloc _ _) | refine Up.trans ?_ (Go.RowKit.Hid.out (by assumption))))) HVw5.out) ?_
         rintro e w6 ⟨rfl, hu⟩
         have HUw6 := Lib.hid hu
         clear hu
         obtain ⟨b0, b1, b2, b3, b4, b5, lb⟩ := (HY.out.up (w' := w6) (by (repeat (first | exact Below.refl _ _ | exact Go.RowKit.Hid.out (by assumption) | refine Up.trans ?_ (Up.drew _) | refine Up.trans ?_ (Up.drewN _ _) | refine Up.trans ?_ (Up.alloc _ _) | refine Up.trans ?_ (Go.RowKit.Hid.out (by assumption)))))).facts
         obtain ⟨c0, c1, c2, c3, c4, c5, lc⟩ := (HNX.out.up (w' := w6) (by (repeat (first | exact Below.refl _ _ | exact Go.RowKit.Hid.out (by assumption) | refine Up.trans ?_ (Up.drew _) | refine Up.trans ?_ (Up.drewN _ _) | refine Up.trans ?_ (Up.alloc _ _) | refine Up.trans ?_ (Go.RowKit.Hid.out (by assumption)))))).facts)
      | (go_at_call 51
         refine Calls.mono (HP.out _ _ _ (HVN.out.up (by (repeat (first | exact Below.refl _ _ | exact Go.RowKit.Hid.out (by assumption) | refine Up.trans ?_ (Up.drew _) | refine Up.trans ?_ (Up.drewN _ _) | refine Up.trans ?_ (Up.alloc _ _) | refine Up.trans ?_ (Go.RowKit.Hid.out (by assumption)))))) HVw4.out) ?_
         rintro e w5 ⟨v, rfl, hv, hu⟩
         have HUw5 := Lib.hid hu
         have HVw5 := Lib.hid hv
         obtain ⟨p1, p2, p3, p4, p5, p6, p7, p8, p9, p0, rfl, -⟩ := hv
         clear hu
         obtain ⟨b0, b1, b2, b3, b4, b5, lb⟩ := (HY.out.up (w' := w5) (by (repeat (first | exact Below.refl _ _ | exact Go.RowKit.Hid.out (by assumption) | refine Up.trans ?_ (Up.drew _) | refine Up.trans ?_ (Up.drewN _ _) | refine Up.trans ?_ (Up.alloc _ _) | refine Up.trans ?_ (Go.RowKit.Hid.out (by assumption)))))).facts
         obtain ⟨c0, c1, c2, c3, c4, c5, lc⟩ := (HNX.out.up (w' := w5) (by (repeat (first | exact Below.refl _ _ | exact Go.RowKit.Hid.out (by assumption) | refine Up.trans ?_ (Up.drew _) | refine Up.trans ?_ (Up.drewN _ _) | refine Up.trans ?_ (Up.alloc _ _) | refine Up.trans ?_ (Go.RowKit.Hid.out (by assumption)))))).facts)
      | (go_at_call 50
         refine Calls.mono (HW.out _) ?_
         rintro e w4 ⟨v, rfl, hv, hu⟩
         have HUw4 := Lib.hid hu
         have HVw4 := Lib.hid hv
         clear hu hv
         obtain ⟨b0, b1, b2, b3, b4, b5, lb⟩ := (HY.out.up (w' := w4) (by (repeat (first | exact Below.refl _ _ | exact Go.RowKit.Hid.out (by assumption) | refine Up.trans ?_ (Up.drew _) | refine Up.trans ?_ (Up.drewN _ _) | refine Up.trans ?_ (Up.alloc _ _) | refine Up.trans ?_ (Go.RowKit.Hid.out (by assumption)))))).facts
         obtain ⟨c0, c1, c2, c3, c4, c5, lc⟩ := (HNX.out.up (w' := w4) (by (repeat (first | exact Below.refl _ _ | exact Go.RowKit.Hid.out (by assumption) | refine Up.trans ?_ (Up.drew _) | refine Up.trans ?_ (Up.drewN _ _) | refine Up.trans ?_ (Up.alloc _ _) | refine Up.trans ?_ (Go.RowKit.Hid.out (by assumption)))))).facts)))
  clear b0 b1 b2 b3 b4 b5 lb c0 c1 c2 c3 c4 c5 lc
  obtain ⟨c0, c1, c2, c3, c4, c5, lc⟩ := (HNX.out.up (w' := w6) (by (repeat (first | exact Below.refl _ _ | exact Go.RowKit.Hid.out (by assumption) | refine Up.trans ?_ (Up.drew _) | refine Up.trans ?_ (Up.drewN _ _) | refine Up.trans ?_ (Up.alloc _ _) | refine Up.trans ?_ (Go.RowKit.Hid.out (by assumption)))))).facts
  go_upto_region 5 with fail
  go_region_held3 (fun w' => w'.cell? ⟨w2.heap.size, 0, none⟩ = some (.int .i64 s3) ∧ w'.cell? ⟨w2.heap.size, 1, none⟩ = some (.bool g3) ∧ w'.cell? ⟨w2.heap.size, 2, none⟩ = some (.slice A3 n3 k3) ∧ w'.cell? ⟨w2.heap.size, 3, none⟩ = some (.int .i64 s4) ∧ w'.cell? ⟨w2.heap.size, 4, none⟩ = some (.bool g4) ∧ w'.cell? ⟨w2.heap.size, 5, none⟩ = some (.slice A4 n4 k4)) (go_keep)
    ((first
      | (go_at_call 51
         refine Calls.mono (HP.out _ _ _ (HVN.out.up (by (repeat (first | exact Below.refl _ _ | exact Go.RowKit.Hid.out (by assumption) | refine Up.trans ?_ (Up.drew _) | refine Up.trans ?_ (Up.drewN _ _) | refine Up.trans ?_ (Up.alloc _ _) | refine Up.trans ?_ (Go.RowKit.Hid.out (by assumption)))))) HVw7.out) ?_
         rintro e w8 ⟨v, rfl, hv, hu⟩
         have HUw8 := Lib.hid hu
         have HVw8 := Lib.hid hv
         obtain ⟨p1, p2, p3, p4, p5, p6, p7, p8, p9, p0, rfl, -⟩ := hv
         clear hu
         obtain ⟨c0, c1, c2, c3, c4, c5, lc⟩ := (HNX.out.up (w' := w8) (by (repeat (first | exact Below.refl _ _ | exact Go.RowKit.Hid.out (by assumption) | refine Up.trans ?_ (Up.drew _) | refine Up.trans ?_ (Up.drewN _ _) | refine Up.trans ?_ (Up.alloc _ _) | refine Up.trans ?_ (Go.RowKit.Hid.out (by assumption)))))).facts
         have HZ := Lib.hid (HR.out.up (w' := w8) (by (repeat (first | exact Below.refl _ _ | exact Go.RowKit.Hid.out (by assumption) | refine Up.trans ?_ (Up.drew _) | refine Up.trans ?_ (Up.drewN _ _) | refine Up.trans ?_ (Up.alloc _ _) | refine Up.trans ?_ (Go.RowKit.Hid.out (by assumption))))))
         obtain ⟨r0, r1, r2, r3, r4, r5, lr⟩ := HZ.out.facts
         have f0 := HZ.out.frozen 0
         have f1 := HZ.out.frozen 1
         have f2 := HZ.out.frozen 2
         have f3 := HZ.out.frozen 3
         have f4 := HZ.out.frozen 4
         have f5 := HZ.out.frozen 5)
      | (go_at_call 50
         refine Calls.mono (HW.out _) ?_
         rintro e w7 ⟨v, rfl, hv, hu⟩
         have HUw7 := Lib.hid hu
         have HVw7 := Lib.hid hv
         clear hu hv
         obtain ⟨c0, c1, c2, c3, c4, c5, lc⟩ := (HNX.out.up (w' := w7) (by (repeat (first | exact Below.refl _ _ | exact Go.RowKit.Hid.out (by assumption) | refine Up.trans ?_ (Up.drew _) | refine Up.trans ?_ (Up.drewN _ _) | refine Up.trans ?_ (Up.alloc _ _) | refine Up.trans ?_ (Go.RowKit.Hid.out (by assumption)))))).facts)))
  have HF := Lib.hid (HZ.out.set (p1) (p3) (.slice p5 p7 p8) (p2) (p4) (.slice p6 p9 p0))
  have HM : Hid (RQ (put6 w8 (w.heap.size + 1 + 1) (.int .i64 p1) (.bool p3) (.slice p5 p7 p8) (.int .i64 p2) (.bool p4) (.slice p6 p9 p0)) (.agg #[.int .i64 p1, .bool p3, .slice p5 p7 p8, .int .i64 p2, .bool p4, .slice p6 p9 p0]) (y : Rat)) := Lib.hid (by
    obtain ⟨s7, s8, g7, g8, A7, A8, n7, k7, n8, k8, he, h1, h2⟩ := HVw8.out
    exact ⟨s7, s8, g7, g8, A7, A8, n7, k7, n8, k8, he, h1.put6 HZ.out _ _ _ _ _ _, h2.put6 HZ.out _ _ _ _ _ _⟩)
  have HUF := Lib.hid ((show Up w w8 by (repeat (first | exact Below.refl _ _ | exact Go.RowKit.Hid.out (by assumption) | refine Up.trans ?_ (Up.drew _) | refine Up.trans ?_ (Up.drewN _ _) | refine Up.trans ?_ (Up.alloc _ _) | refine Up.trans ?_ (Go.RowKit.Hid.out (by assumption))))).put6 (show w.heap.size ≤ w.heap.size + 1 + 1 by omega) (.int .i64 p1) (.bool p3) (.slice p5 p7 p8) (.int .i64 p2) (.bool p4) (.slice p6 p9 p0))
  go_wp2
  obtain ⟨z0, z1, z2, z3, z4, z5, -⟩ := HF.out.facts
  refine bodyPost_ret (by simp [results, Tryd.results45, go_sem, z0, z1, z2, z3, z4, z5]; try rfl) rfl ?_
  exact ⟨_, rfl, HM.out, HUF.out⟩

set_option maxHeartbeats 8000000 in
set_option maxRecDepth 10000 in
theorem refSimp_step (sg sh y : Int) (hsg : (sg == 0) = false) (hsh : ¬ sh ≤ 0) (c d c' d' z z' q : Rat) (v1 v2 : Value) (a b : Rat) (x : Int) (w : World) (h1 : RQ w v1 a) (h2 : RQ w v2 b)
    (HD : Hid (∀ W, Up w W → Calls Tryd.prog 35 #[v1] W fun e w' => ∃ v, e = .returned v ∧ RI w' v x ∧ Up W w'))
    (HC1 : Hid (∀ W v, Up w W → RQ W v (x : Rat) → Calls Tryd.prog 19 #[v1, v] W fun e w' => e = .returned (.int .i64 sg) ∧ Up W w'))
    (HW : Hid (∀ W, Calls Tryd.prog 50 #[.int .i64 1] W fun e w' => ∃ v, e = .returned v ∧ RQ w' v ((1 : Int) : Rat) ∧ Up W w'))
    (HP : Hid (∀ W u1 u2, RQ W u1 (x : Rat) → RQ W u2 ((1 : Int) : Rat) → Calls Tryd.prog 51 #[u1, u2] W fun e w' => ∃ v, e = .returned v ∧ RQ w' v (y : Rat) ∧ Up W w'))
    (HC2 : Hid (∀ W v, Up w W → RQ W v (y : Rat) → Calls Tryd.prog 19 #[v, v2] W fun e w' => e = .returned (.int .i64 sh) ∧ Up W w'))
    (HL1 : Hid (∀ W v, Up w W → RQ W v (x : Rat) → Calls Tryd.prog 48 #[v2, v] W fun e w' => ∃ v, e = .returned v ∧ RQ w' v c ∧ Up W w'))
    (HL2 : Hid (∀ W v, Up w W → RQ W v (x : Rat) → Calls Tryd.prog 48 #[v1, v] W fun e w' => ∃ v, e = .returned v ∧ RQ w' v d ∧ Up W w'))
    (HO2 : Hid (∀ W u1 u2, RQ W u1 ((1 : Int) : Rat) → RQ W u2 c → Calls Tryd.prog 75 #[u1, u2] W fun e w' => ∃ v, e = .returned v ∧ RQ w' v c' ∧ Up W w'))
    (HO3 : Hid (∀ W u1 u2, RQ W u1 ((1 : Int) : Rat) → RQ W u2 d → Calls Tryd.prog 75 #[u1, u2] W fun e w' => ∃ v, e = .returned v ∧ RQ w' v d' ∧ Up W w'))
    (HREC : Hid (∀ W u1 u2, RQ W u1 c' → RQ W u2 d' → Calls Tryd.prog 45 #[u1, u2] W fun e w' => ∃ v, e = .returned v ∧ RQ w' v z ∧ Up W w'))
    (HO4 : Hid (∀ W u1 u2, RQ W u1 ((1 : Int) : Rat) → RQ W u2 z → Calls Tryd.prog 75 #[u1, u2] W fun e w' => ∃ v, e = .returned v ∧ RQ w' v z' ∧ Up W w'))
    (HP2 : Hid (∀ W u1 u2, RQ W u1 (x : Rat) → RQ W u2 z' → Calls Tryd.prog 51 #[u1, u2] W fun e w' => ∃ v, e = .returned v ∧ RQ w' v q ∧ Up W w')) :
    Calls Tryd.prog 45 #[v1, v2] w fun e w' => ∃ v, e = .returned v ∧ RQ w' v q ∧ Up w w' := by
  have hshd : decide (sh ≤ 0) = false := decide_eq_false hsh
  obtain ⟨s, s2, g, g2, A, A2, n, k, n2, k2, rfl, hp1, hp2⟩ := h1
  obtain ⟨t, t2, f, f2, B, B2, m, j, m2, j2, rfl, hq1, hq2⟩ := h2
  have HO1 := Lib.hid (fun W => refOf_any 1 W (by omega) (by omega))
  have HVA : Hid (RQ w (.agg #[.int .i64 s, .bool g, .slice A n k, .int .i64 s2, .bool g2, .slice A2 n2 k2]) a) := Lib.hid ⟨_, _, _, _, _, _, _, _, _, _, rfl, hp1, hp2⟩
  have HVB : Hid (RQ w (.agg #[.int .i64 t, .bool f, .slice B m j, .int .i64 t2, .bool f2, .slice B2 m2 j2]) b) := Lib.hid ⟨_, _, _, _, _, _, _, _, _, _, rfl, hq1, hq2⟩
  clear hp1 hp2 hq1 hq2
  go_enter Tryd.func45, Tryd.ntmps45
  go_upto_region 1 with fail
  obtain ⟨wB, hwB, hx, hy, hr, hu⟩ := startRR w s g (.slice A n k) s2 g2 (.slice A2 n2 k2) t f (.slice B m j) t2 f2 (.slice B2 m2 j2)
  rw [hwB]
  clear hwB
  have HX := Lib.hid hx
  have HY := Lib.hid hy
  have HR := Lib.hid hr
  have HU := Lib.hid hu
  obtain ⟨a0, a1, a2, a3, a4, a5, la⟩ := hx.facts
  clear hx hy hr hu
  go_wp2_with fail
  clear a0 a1 a2 a3 a4 a5 la
  refine Calls.mono (HD.out _ (by (repeat (first | exact Below.refl _ _ | exact Go.RowKit.Hid.out (by assumption) | refine Up.trans ?_ (Up.drew _) | refine Up.trans ?_ (Up.drewN _ _) | refine Up.trans ?_ (Up.alloc _ _) | refine Up.trans ?_ (Go.RowKit.Hid.out (by assumption)))))) ?_
  rintro e w1 ⟨u1, rfl, hv1, hu1⟩
  have HU1 := Lib.hid hu1
  have HV1 := Lib.hid hv1
  obtain ⟨s3, g3, A3, n3, k3, rfl, -⟩ := hv1
  clear hu1
  go_wp2_with fail
  refine Calls.mono (HO1.out _) ?_
  rintro e w2 ⟨u2, rfl, hv2, hu2⟩
  have HU2 := Lib.hid hu2
  have HV2 := Lib.hid hv2
  have HV1b := Lib.hid (HV1.out.up hu2)
  obtain ⟨s4, g4, A4, n4, k4, rfl, -⟩ := hv2
  have hbs : w.heap.size + 1 + 1 < w2.heap.size := Nat.lt_of_lt_of_le HR.out.lt (show Up wB w2 by (repeat (first | exact Below.refl _ _ | exact Go.RowKit.Hid.out (by assumption) | refine Up.trans ?_ (Up.drew _) | refine Up.trans ?_ (Up.drewN _ _) | refine Up.trans ?_ (Up.alloc _ _) | refine Up.trans ?_ (Go.RowKit.Hid.out (by assumption))))).size
  clear hu2
  go_upto_region 2 with fail
  obtain ⟨wC, hwC⟩ : ∃ wC, wC = w2.alloc (.cells #[.int .i64 s3, .bool g3, .slice A3 n3 k3, .int .i64 s4, .bool g4, .slice A4 n4 k4] 38) := ⟨_, rfl⟩
  have HNX := Lib.hid (show CellR wC w2.heap.size s3 g3 (.slice A3 n3 k3) s4 g4 (.slice A4 n4 k4) by rw [hwC]; exact CellR.new _ _ _ _ _ _ _)
  have HUC := Lib.hid (show Up w2 wC by rw [hwC]; exact Up.alloc _ _)
  have HVN : Hid (RQ wC (.agg #[.int .i64 s3, .bool g3, .slice A3 n3 k3, .int .i64 s4, .bool g4, .slice A4 n4 k4]) (x : Rat)) := Lib.hid ⟨_, _, _, _, _, _, _, _, _, _, rfl, HV1b.out.up HUC.out, HV2.out.up HUC.out⟩
  rw [← hwC]
  clear hwC HV1 HV1b HV2
  have hne1 : (w.heap.size = w.heap.size + 1 + 1) = False := eq_false (by omega)
  have hne2 : (w.heap.size + 1 + 1 = w.heap.size) = False := eq_false (by omega)
  have hne3 : (w.heap.size + 1 = w.heap.size + 1 + 1) = False := eq_false (by omega)
  have hne4 : (w.heap.size + 1 + 1 = w.heap.size + 1) = False := eq_false (by omega)
  have hne5 : (w2.heap.size = w.heap.size + 1 + 1) = False := eq_false (by omega)
  have hne6 : (w.heap.size + 1 + 1 = w2.heap.size) = False := eq_false (by omega)
  obtain ⟨a0, a1, a2, a3, a4, a5, la⟩ := (HX.out.up (w' := wC) (by (repeat (first | exact Below.refl _ _ | exact Go.RowKit.Hid.out (by assumption) | refine Up.trans ?_ (Up.drew _) | refine Up.trans ?_ (Up.drewN _ _) | refine Up.trans ?_ (Up.alloc _ _) | refine Up.trans ?_ (Go.RowKit.Hid.out (by assumption)))))).facts
  obtain ⟨c0, c1, c2, c3, c4, c5, lc⟩ := (HNX.out.up (w' := wC) (by (repeat (first | exact Below.refl _ _ | exact Go.RowKit.Hid.out (by assumption) | refine Up.trans ?_ (Up.drew _) | refine Up.trans ?_ (Up.drewN _ _) | refine Up.trans ?_ (Up.alloc _ _) | refine Up.trans ?_ (Go.RowKit.Hid.out (by assumption)))))).facts
  go_wp2_with fail
  refine Calls.mono (HC1.out _ _ (by (repeat (first | exact Below.refl _ _ | exact Go.RowKit.Hid.out (by assumption) | refine Up.trans ?_ (Up.drew _) | refine Up.trans ?_ (Up.drewN _ _) | refine Up.trans ?_ (Up.alloc _ _) | refine Up.trans ?_ (Go.RowKit.Hid.out (by assumption))))) HVN.out) ?_
  rintro e w3 ⟨rfl, hu3⟩
  have HU3 := Lib.hid hu3
  clear hu3 a0 a1 a2 a3 a4 a5 la c0 c1 c2 c3 c4 c5 lc
  obtain ⟨b0, b1, b2, b3, b4, b5, lb⟩ := (HY.out.up (w' := w3) (by (repeat (first | exact Below.refl _ _ | exact Go.RowKit.Hid.out (by assumption) | refine Up.trans ?_ (Up.drew _) | refine Up.trans ?_ (Up.drewN _ _) | refine Up.trans ?_ (Up.alloc _ _) | refine Up.trans ?_ (Go.RowKit.Hid.out (by assumption)))))).facts
  obtain ⟨c0, c1, c2, c3, c4, c5, lc⟩ := (HNX.out.up (w' := w3) (by (repeat (first | exact Below.refl _ _ | exact Go.RowKit.Hid.out (by assumption) | refine Up.trans ?_ (Up.drew _) | refine Up.trans ?_ (Up.drewN _ _) | refine Up.trans ?_ (Up.alloc _ _) | refine Up.trans ?_ (Go.RowKit.Hid.out (by assumption)))))).facts
  go_upto_region 4 with fail
  go_region_held3 (fun w' => w'.cell? ⟨w.heap.size + 1, 0, none⟩ = some (.int .i64 t) ∧ w'.cell? ⟨w.heap.size + 1, 1, none⟩ = some (.bool f) ∧ w'.cell? ⟨w.heap.size + 1, 2, none⟩ = some (.slice B m j) ∧ w'.cell? ⟨w.heap.size + 1, 3, none⟩ = some (.int .i64 t2) ∧ w'.cell? ⟨w.heap.size + 1, 4, none⟩ = some (.bool f2) ∧ w'.cell? ⟨w.heap.size + 1, 5, none⟩ = some (.slice B2 m2 j2) ∧ w'.cell? ⟨w2.heap.size, 0, none⟩ = some (.int .i64 s3) ∧ w'.cell? ⟨w2.heap.size, 1, none⟩ = some (.bool g3) ∧ w'.cell? ⟨w2.heap.size, 2, none⟩ = some (.slice A3 n3 k3) ∧ w'.cell? ⟨w2.heap.size, 3, none⟩ = some (.int .i64 s4) ∧ w'.cell? ⟨w2.heap.size, 4, none⟩ = some (.bool g4) ∧ w'.cell? ⟨w2.heap.size, 5, none⟩ = some (.slice A4 n4 k4)) (go_keep)
    ((first
      | (go_at_call 19
         refine Calls.mono (HC2.out _ _ (by (repeat (first | exact Below.refl _ _ | exact Go.RowKit.Hid.out (by assumption) | refine Up.trans ?_ (Up.drew _) | refine Up.trans ?_ (Up.drewN _ _) | refine Up.trans ?_ (Up.alloc _ _) | refine Up.trans ?_ (Go.RowKit.Hid.out (by assumption))))) HVw5.out) ?_
         rintro e w6 ⟨rfl, hu⟩
         have HUw6 := Lib.hid hu
         clear hu
         obtain ⟨b0, b1, b2, b3, b4, b5, lb⟩ := (HY.out.up (w' := w6) (by (repeat (first | exact Below.refl _ _ | exact Go.RowKit.Hid.out (by assumption) | refine Up.trans ?_ (Up.drew _) | refine Up.trans ?_ (Up.drewN _ _) | refine Up.trans ?_ (Up.alloc _ _) | refine Up.trans ?_ (Go.RowKit.Hid.out (by assumption)))))).facts
         obtain ⟨c0, c1, c2, c3, c4, c5, lc⟩ := (HNX.out.up (w' := w6) (by (repeat (first | exact Below.refl _ _ | exact Go.RowKit.Hid.out (by assumption) | refine Up.trans ?_ (Up.drew _) | refine Up.trans ?_ (Up.drewN _ _) | refine Up.trans ?_ (Up.alloc _ _) | refine Up.trans ?_ (Go.RowKit.Hid.out (by assumption)))))).facts)
      | (go_at_call 51
         refine Calls.mono (HP.out _ _ _ (HVN.out.up (by (repeat (first | exact Below.refl _ _ | exact Go.RowKit.Hid.out (by assumption) | refine Up.trans ?_ (Up.drew _) | refine Up.trans ?_ (Up.drewN _ _) | refine Up.trans ?_ (Up.alloc _ _) | refine Up.trans ?_ (Go.RowKit.Hid.out (by assumption)))))) HVw4.out) ?_
         rintro e w5 ⟨v, rfl, hv, hu⟩
         have HUw5 := Lib.hid hu
         have HVw5 := Lib.hid hv
         obtain ⟨p1, p2, p3, p4, p5, p6, p7, p8, p9, p0, rfl, -⟩ := hv
         clear hu
         obtain ⟨b0, b1, b2, b3, b4, b5, lb⟩ := (HY.out.up (w' := w5) (by (repeat (first | exact Below.refl _ _ | exact Go.RowKit.Hid.out (by assumption) | refine Up.trans ?_ (Up.drew _) | refine Up.trans ?_ (Up.drewN _ _) | refine Up.trans ?_ (Up.alloc _ _) | refine Up.trans ?_ (Go.RowKit.Hid.out (by assumption)))))).facts
         obtain ⟨c0, c1, c2, c3, c4, c5, lc⟩ := (HNX.out.up (w' := w5) (by (repeat (first | exact Below.refl _ _ | exact Go.RowKit.Hid.out (by assumption) | refine Up.trans ?_ (Up.drew _) | refine Up.trans ?_ (Up.drewN _ _) | refine Up.trans ?_ (Up.alloc _ _) | refine Up.trans ?_ (Go.RowKit.Hid.out (by assumption)))))).facts)
      | (go_at_call 50
         refine Calls.mono (HW.out _) ?_
         rintro e w4 ⟨v, rfl, hv, hu⟩
         have HUw4 := Lib.hid hu
         have HVw4 := Lib.hid hv
         clear hu hv
         obtain ⟨b0, b1, b2, b3, b4, b5, lb⟩ := (HY.out.up (w' := w4) (by (repeat (first | exact Below.refl _ _ | exact Go.RowKit.Hid.out (by assumption) | refine Up.trans ?_ (Up.drew _) | refine Up.trans ?_ (Up.drewN _ _) | refine Up.trans ?_ (Up.alloc _ _) | refine Up.trans ?_ (Go.RowKit.Hid.out (by assumption)))))).facts
         obtain ⟨c0, c1, c2, c3, c4, c5, lc⟩ := (HNX.out.up (w' := w4) (by (repeat (first | exact Below.refl _ _ | exact Go.RowKit.Hid.out (by assumption) | refine Up.trans ?_ (Up.drew _) | refine Up.trans ?_ (Up.drewN _ _) | refine Up.trans ?_ (Up.alloc _ _) | refine Up.trans ?_ (Go.RowKit.Hid.out (by assumption)))))).facts)))
  clear b0 b1 b2 b3 b4 b5 lb c0 c1 c2 c3 c4 c5 lc
  obtain ⟨a0, a1, a2, a3, a4, a5, la⟩ := (HX.out.up (w' := w6) (by (repeat (first | exact Below.refl _ _ | exact Go.RowKit.Hid.out (by assumption) | refine Up.trans ?_ (Up.drew _) | refine Up.trans ?_ (Up.drewN _ _) | refine Up.trans ?_ (Up.alloc _ _) | refine Up.trans ?_ (Go.RowKit.Hid.out (by assumption)))))).facts
  obtain ⟨b0, b1, b2, b3, b4, b5, lb⟩ := (HY.out.up (w' := w6) (by (repeat (first | exact Below.refl _ _ | exact Go.RowKit.Hid.out (by assumption) | refine Up.trans ?_ (Up.drew _) | refine Up.trans ?_ (Up.drewN _ _) | refine Up.trans ?_ (Up.alloc _ _) | refine Up.trans ?_ (Go.RowKit.Hid.out (by assumption)))))).facts
  obtain ⟨c0, c1, c2, c3, c4, c5, lc⟩ := (HNX.out.up (w' := w6) (by (repeat (first | exact Below.refl _ _ | exact Go.RowKit.Hid.out (by assumption) | refine Up.trans ?_ (Up.drew _) | refine Up.trans ?_ (Up.drewN _ _) | refine Up.trans ?_ (Up.alloc _ _) | refine Up.trans ?_ (Go.RowKit.Hid.out (by assumption)))))).facts
  go_upto_region 6 with fail
  obtain ⟨nx1, nx2⟩ := And.intro (lt_ne la) (lt_ne' la)
  obtain ⟨nx3, nx4⟩ := And.intro (lt_ne lb) (lt_ne' lb)
  obtain ⟨nx5, nx6⟩ := And.intro (lt_ne lc) (lt_ne' lc)
  go_cut [6] (fun p6 wx => ∃ g6 q1 q2 q3 q4 q5 q6 q7 q8 q9 q0, p6 = .pointer (some ⟨g6, 0, none⟩) ∧ CellR wx g6 q1 q3 (.slice q5 q7 q8) q2 q4 (.slice q6 q9 q0) ∧ RQ wx (.agg #[.int .i64 q1, .bool q3, .slice q5 q7 q8, .int .i64 q2, .bool q4, .slice q6 q9 q0]) z ∧ Up w6 wx ∧ w6.heap.size ≤ g6)
  case first =>
    go_region_held3 (fun w' => w'.cell? ⟨w.heap.size, 0, none⟩ = some (.int .i64 s) ∧ w'.cell? ⟨w.heap.size, 1, none⟩ = some (.bool g) ∧ w'.cell? ⟨w.heap.size, 2, none⟩ = some (.slice A n k) ∧ w'.cell? ⟨w.heap.size, 3, none⟩ = some (.int .i64 s2) ∧ w'.cell? ⟨w.heap.size, 4, none⟩ = some (.bool g2) ∧ w'.cell? ⟨w.heap.size, 5, none⟩ = some (.slice A2 n2 k2) ∧ w'.cell? ⟨w.heap.size + 1, 0, none⟩ = some (.int .i64 t) ∧ w'.cell? ⟨w.heap.size + 1, 1, none⟩ = some (.bool f) ∧ w'.cell? ⟨w.heap.size + 1, 2, none⟩ = some (.slice B m j) ∧ w'.cell? ⟨w.heap.size + 1, 3, none⟩ = some (.int .i64 t2) ∧ w'.cell? ⟨w.heap.size + 1, 4, none⟩ = some (.bool f2) ∧ w'.cell? ⟨w.heap.size + 1, 5, none⟩ = some (.slice B2 m2 j2) ∧ w'.cell? ⟨w2.heap.size, 0, none⟩ = some (.int .i64 s3) ∧ w'.cell? ⟨w2.heap.size, 1, none⟩ = some (.bool g3) ∧ w'.cell? ⟨w2.heap.size, 2, none⟩ = some (.slice A3 n3 k3) ∧ w'.cell? ⟨w2.heap.size, 3, none⟩ = some (.int .i64 s4) ∧ w'.cell? ⟨w2.heap.size, 4, none⟩ = some (.bool g4) ∧ w'.cell? ⟨w2.heap.size, 5, none⟩ = some (.slice A4 n4 k4)) (go_keep)
      ((first
        | (go_at_call 45
           refine Calls.mono (HREC.out _ _ _ (HVw9.out.up (by (repeat (first | exact Below.refl _ _ | exact Go.RowKit.Hid.out (by assumption) | refine Up.trans ?_ (Up.drew _) | refine Up.trans ?_ (Up.drewN _ _) | refine Up.trans ?_ (Up.alloc _ _) | refine Up.trans ?_ (Go.RowKit.Hid.out (by assumption)))))) (HVw12.out.up (by (repeat (first | exact Below.refl _ _ | exact Go.RowKit.Hid.out (by assumption) | refine Up.trans ?_ (Up.drew _) | refine Up.trans ?_ (Up.drewN _ _) | refine Up.trans ?_ (Up.alloc _ _) | refine Up.trans ?_ (Go.RowKit.Hid.out (by assumption))))))) ?_
           rintro e w13 ⟨v, rfl, hv, hu⟩
           try (have HZ : Go.RowKit.Hid (CellR w13 w6.heap.size 0 false (.slice none 0 0) 0 false (.slice none 0 0)) := CellR.up (CellR.new w6.drew 0 false (.slice none 0 0) 0 false (.slice none 0 0)) hu)
           try (have HZ := Lib.hid (CellR.up (CellR.new _ 0 false (.slice none 0 0) 0 false (.slice none 0 0)) hu))
           try (have HZ := Lib.hid (CellR.up HZ.out hu))
           try (obtain ⟨z0, z1, z2, z3, z4, z5, lz⟩ := HZ.out.facts)
           try (obtain ⟨y0, y1, y2, y3, y4, y5⟩ := HZ.out.frozen6)
           have HUw13 := Lib.hid hu
           have HVw13 := Lib.hid hv
           obtain ⟨p1, p2, p3, p4, p5, p6, p7, p8, p9, p0, rfl, -⟩ := hv
           clear hu
           obtain ⟨a0, a1, a2, a3, a4, a5, la⟩ := (HX.out.up (w' := w13) (by (repeat (first | exact Below.refl _ _ | exact Go.RowKit.Hid.out (by assumption) | refine Up.trans ?_ (Up.drew _) | refine Up.trans ?_ (Up.drewN _ _) | refine Up.trans ?_ (Up.alloc _ _) | refine Up.trans ?_ (Go.RowKit.Hid.out (by assumption)))))).facts
           obtain ⟨b0, b1, b2, b3, b4, b5, lb⟩ := (HY.out.up (w' := w13) (by (repeat (first | exact Below.refl _ _ | exact Go.RowKit.Hid.out (by assumption) | refine Up.trans ?_ (Up.drew _) | refine Up.trans ?_ (Up.drewN _ _) | refine Up.trans ?_ (Up.alloc _ _) | refine Up.trans ?_ (Go.RowKit.Hid.out (by assumption)))))).facts
           obtain ⟨c0, c1, c2, c3, c4, c5, lc⟩ := (HNX.out.up (w' := w13) (by (repeat (first | exact Below.refl _ _ | exact Go.RowKit.Hid.out (by assumption) | refine Up.trans ?_ (Up.drew _) | refine Up.trans ?_ (Up.drewN _ _) | refine Up.trans ?_ (Up.alloc _ _) | refine Up.trans ?_ (Go.RowKit.Hid.out (by assumption)))))).facts
           obtain ⟨nx1, nx2⟩ := And.intro (lt_ne la) (lt_ne' la)
           obtain ⟨nx3, nx4⟩ := And.intro (lt_ne lb) (lt_ne' lb)
           obtain ⟨nx5, nx6⟩ := And.intro (lt_ne lc) (lt_ne' lc))
        | (go_at_call 75
           refine Calls.mono (HO3.out _ _ _ (HVw10.out.up (by (repeat (first | exact Below.refl _ _ | exact Go.RowKit.Hid.out (by assumption) | refine Up.trans ?_ (Up.drew _) | refine Up.trans ?_ (Up.drewN _ _) | refine Up.trans ?_ (Up.alloc _ _) | refine Up.trans ?_ (Go.RowKit.Hid.out (by assumption)))))) (HVw11.out.up (by (repeat (first | exact Below.refl _ _ | exact Go.RowKit.Hid.out (by assumption) | refine Up.trans ?_ (Up.drew _) | refine Up.trans ?_ (Up.drewN _ _) | refine Up.trans ?_ (Up.alloc _ _) | refine Up.trans ?_ (Go.RowKit.Hid.out (by assumption))))))) ?_
           rintro e w12 ⟨v, rfl, hv, hu⟩
           try (have HZ : Go.RowKit.Hid (CellR w12 w6.heap.size 0 false (.slice none 0 0) 0 false (.slice none 0 0)) := CellR.up (CellR.new w6.drew 0 false (.slice none 0 0) 0 false (.slice none 0 0)) hu)
           try (have HZ := Lib.hid (CellR.up (CellR.new _ 0 false (.slice none 0 0) 0 false (.slice none 0 0)) hu))
           try (have HZ := Lib.hid (CellR.up HZ.out hu))
           try (obtain ⟨z0, z1, z2, z3, z4, z5, lz⟩ := HZ.out.facts)
           try (obtain ⟨y0, y1, y2, y3, y4, y5⟩ := HZ.out.frozen6)
           have HUw12 := Lib.hid hu
           have HVw12 := Lib.hid hv
           have HVw9 := Lib.hid (HVw9.out.up (w' := w12) (by (repeat (first | exact Below.refl _ _ | exact Go.RowKit.Hid.out (by assumption) | refine Up.trans ?_ (Up.drew _) | refine Up.trans ?_ (Up.drewN _ _) | refine Up.trans ?_ (Up.alloc _ _) | refine Up.trans ?_ (Go.RowKit.Hid.out (by assumption))))))
           clear hu hv
           obtain ⟨a0, a1, a2, a3, a4, a5, la⟩ := (HX.out.up (w' := w12) (by (repeat (first | exact Below.refl _ _ | exact Go.RowKit.Hid.out (by assumption) | refine Up.trans ?_ (Up.drew _) | refine Up.trans ?_ (Up.drewN _ _) | refine Up.trans ?_ (Up.alloc _ _) | refine Up.trans ?_ (Go.RowKit.Hid.out (by assumption)))))).facts
           obtain ⟨b0, b1, b2, b3, b4, b5, lb⟩ := (HY.out.up (w' := w12) (by (repeat (first | exact Below.refl _ _ | exact Go.RowKit.Hid.out (by assumption) | refine Up.trans ?_ (Up.drew _) | refine Up.trans ?_ (Up.drewN _ _) | refine Up.trans ?_ (Up.alloc _ _) | refine Up.trans ?_ (Go.RowKit.Hid.out (by assumption)))))).facts
           obtain ⟨c0, c1, c2, c3, c4, c5, lc⟩ := (HNX.out.up (w' := w12) (by (repeat (first | exact Below.refl _ _ | exact Go.RowKit.Hid.out (by assumption) | refine Up.trans ?_ (Up.drew _) | refine Up.trans ?_ (Up.drewN _ _) | refine Up.trans ?_ (Up.alloc _ _) | refine Up.trans ?_ (Go.RowKit.Hid.out (by assumption)))))).facts
           obtain ⟨nx1, nx2⟩ := And.intro (lt_ne la) (lt_ne' la)
           obtain ⟨nx3, nx4⟩ := And.intro (lt_ne lb) (lt_ne' lb)
           obtain ⟨nx5, nx6⟩ := And.intro (lt_ne lc) (lt_ne' lc))
        | (go_at_call_of 48 (Value.agg #[.int .i64 s, .bool g, .slice A n k, .int .i64 s2, .bool g2, .slice A2 n2 k2])
           refine Calls.mono (HL2.out _ _ (by (repeat (first | exact Below.refl _ _ | exact Go.RowKit.Hid.out (by assumption) | refine Up.trans ?_ (Up.drew _) | refine Up.trans ?_ (Up.drewN _ _) | refine Up.trans ?_ (Up.alloc _ _) | refine Up.trans ?_ (Go.RowKit.Hid.out (by assumption))))) (HVN.out.up (by (repeat (first | exact Below.refl _ _ | exact Go.RowKit.Hid.out (by assumption) | refine Up.trans ?_ (Up.drew _) | refine Up.trans ?_ (Up.drewN _ _) | refine Up.trans ?_ (Up.alloc _ _) | refine Up.trans ?_ (Go.RowKit.Hid.out (by assumption))))))) ?_
           rintro e w11 ⟨v, rfl, hv, hu⟩
           try (have HZ : Go.RowKit.Hid (CellR w11 w6.heap.size 0 false (.slice none 0 0) 0 false (.slice none 0 0)) := CellR.up (CellR.new w6.drew 0 false (.slice none 0 0) 0 false (.slice none 0 0)) hu)
           try (have HZ := Lib.hid (CellR.up (CellR.new _ 0 false (.slice none 0 0) 0 false (.slice none 0 0)) hu))
           try (have HZ := Lib.hid (CellR.up HZ.out hu))
           try (obtain ⟨z0, z1, z2, z3, z4, z5, lz⟩ := HZ.out.facts)
           try (obtain ⟨y0, y1, y2, y3, y4, y5⟩ := HZ.out.frozen6)
           have HUw11 := Lib.hid hu
           have HVw11 := Lib.hid hv
           have HVw9 := Lib.hid (HVw9.out.up (w' := w11) (by (repeat (first | exact Below.refl _ _ | exact Go.RowKit.Hid.out (by assumption) | refine Up.trans ?_ (Up.drew _) | refine Up.trans ?_ (Up.drewN _ _) | refine Up.trans ?_ (Up.alloc _ _) | refine Up.trans ?_ (Go.RowKit.Hid.out (by assumption))))))
           have HVw10 := Lib.hid (HVw10.out.up (w' := w11) (by (repeat (first | exact Below.refl _ _ | exact Go.RowKit.Hid.out (by assumption) | refine Up.trans ?_ (Up.drew _) | refine Up.trans ?_ (Up.drewN _ _) | refine Up.trans ?_ (Up.alloc _ _) | refine Up.trans ?_ (Go.RowKit.Hid.out (by assumption))))))
           clear hu hv
           obtain ⟨a0, a1, a2, a3, a4, a5, la⟩ := (HX.out.up (w' := w11) (by (repeat (first | exact Below.refl _ _ | exact Go.RowKit.Hid.out (by assumption) | refine Up.trans ?_ (Up.drew _) | refine Up.trans ?_ (Up.drewN _ _) | refine Up.trans ?_ (Up.alloc _ _) | refine Up.trans ?_ (Go.RowKit.Hid.out (by assumption)))))).facts
           obtain ⟨b0, b1, b2, b3, b4, b5, lb⟩ := (HY.out.up (w' := w11) (by (repeat (first | exact Below.refl _ _ | exact Go.RowKit.Hid.out (by assumption) | refine Up.trans ?_ (Up.drew _) | refine Up.trans ?_ (Up.drewN _ _) | refine Up.trans ?_ (Up.alloc _ _) | refine Up.trans ?_ (Go.RowKit.Hid.out (by assumption)))))).facts
           obtain ⟨c0, c1, c2, c3, c4, c5, lc⟩ := (HNX.out.up (w' := w11) (by (repeat (first | exact Below.refl _ _ | exact Go.RowKit.Hid.out (by assumption) | refine Up.trans ?_ (Up.drew _) | refine Up.trans ?_ (Up.drewN _ _) | refine Up.trans ?_ (Up.alloc _ _) | refine Up.trans ?_ (Go.RowKit.Hid.out (by assumption)))))).facts
           obtain ⟨nx1, nx2⟩ := And.intro (lt_ne la) (lt_ne' la)
           obtain ⟨nx3, nx4⟩ := And.intro (lt_ne lb) (lt_ne' lb)
           obtain ⟨nx5, nx6⟩ := And.intro (lt_ne lc) (lt_ne' lc))
        | (have HGUARD := HVw9; go_at_call 50
           refine Calls.mono (HW.out _) ?_
           rintro e w10 ⟨v, rfl, hv, hu⟩
           try (have HZ : Go.RowKit.Hid (CellR w10 w6.heap.size 0 false (.slice none 0 0) 0 false (.slice none 0 0)) := CellR.up (CellR.new w6.drew 0 false (.slice none 0 0) 0 false (.slice none 0 0)) hu)
           try (have HZ := Lib.hid (CellR.up (CellR.new _ 0 false (.slice none 0 0) 0 false (.slice none 0 0)) hu))
           try (have HZ := Lib.hid (CellR.up HZ.out hu))
           try (obtain ⟨z0, z1, z2, z3, z4, z5, lz⟩ := HZ.out.facts)
           try (obtain ⟨y0, y1, y2, y3, y4, y5⟩ := HZ.out.frozen6)
           have HUw10 := Lib.hid hu
           have HVw10 := Lib.hid hv
           have HVw9 := Lib.hid (HVw9.out.up (w' := w10) (by (repeat (first | exact Below.refl _ _ | exact Go.RowKit.Hid.out (by assumption) | refine Up.trans ?_ (Up.drew _) | refine Up.trans ?_ (Up.drewN _ _) | refine Up.trans ?_ (Up.alloc _ _) | refine Up.trans ?_ (Go.RowKit.Hid.out (by assumption))))))
           clear hu hv
           obtain ⟨a0, a1, a2, a3, a4, a5, la⟩ := (HX.out.up (w' := w10) (by (repeat (first | exact Below.refl _ _ | exact Go.RowKit.Hid.out (by assumption) | refine Up.trans ?_ (Up.drew _) | refine Up.trans ?_ (Up.drewN _ _) | refine Up.trans ?_ (Up.alloc _ _) | refine Up.trans ?_ (Go.RowKit.Hid.out (by assumption)))))).facts
           obtain ⟨b0, b1, b2, b3, b4, b5, lb⟩ := (HY.out.up (w' := w10) (by (repeat (first | exact Below.refl _ _ | exact Go.RowKit.Hid.out (by assumption) | refine Up.trans ?_ (Up.drew _) | refine Up.trans ?_ (Up.drewN _ _) | refine Up.trans ?_ (Up.alloc _ _) | refine Up.trans ?_ (Go.RowKit.Hid.out (by assumption)))))).facts
           obtain ⟨c0, c1, c2, c3, c4, c5, lc⟩ := (HNX.out.up (w' := w10) (by (repeat (first | exact Below.refl _ _ | exact Go.RowKit.Hid.out (by assumption) | refine Up.trans ?_ (Up.drew _) | refine Up.trans ?_ (Up.drewN _ _) | refine Up.trans ?_ (Up.alloc _ _) | refine Up.trans ?_ (Go.RowKit.Hid.out (by assumption)))))).facts
           obtain ⟨nx1, nx2⟩ := And.intro (lt_ne la) (lt_ne' la)
           obtain ⟨nx3, nx4⟩ := And.intro (lt_ne lb) (lt_ne' lb)
           obtain ⟨nx5, nx6⟩ := And.intro (lt_ne lc) (lt_ne' lc))
        | (go_at_call 75
           refine Calls.mono (HO2.out _ _ _ (HVw7.out.up (by (repeat (first | exact Below.refl _ _ | exact Go.RowKit.Hid.out (by assumption) | refine Up.trans ?_ (Up.drew _) | refine Up.trans ?_ (Up.drewN _ _) | refine Up.trans ?_ (Up.alloc _ _) | refine Up.trans ?_ (Go.RowKit.Hid.out (by assumption)))))) (HVw8.out.up (by (repeat (first | exact Below.refl _ _ | exact Go.RowKit.Hid.out (by assumption) | refine Up.trans ?_ (Up.drew _) | refine Up.trans ?_ (Up.drewN _ _) | refine Up.trans ?_ (Up.alloc _ _) | refine Up.trans ?_ (Go.RowKit.Hid.out (by assumption))))))) ?_
           rintro e w9 ⟨v, rfl, hv, hu⟩
           try (have HZ : Go.RowKit.Hid (CellR w9 w6.heap.size 0 false (.slice none 0 0) 0 false (.slice none 0 0)) := CellR.up (CellR.new w6.drew 0 false (.slice none 0 0) 0 false (.slice none 0 0)) hu)
           try (have HZ := Lib.hid (CellR.up (CellR.new _ 0 false (.slice none 0 0) 0 false (.slice none 0 0)) hu))
           try (have HZ := Lib.hid (CellR.up HZ.out hu))
           try (obtain ⟨z0, z1, z2, z3, z4, z5, lz⟩ := HZ.out.facts)
           try (obtain ⟨y0, y1, y2, y3, y4, y5⟩ := HZ.out.frozen6)
           have HUw9 := Lib.hid hu
           have HVw9 := Lib.hid hv
           clear hu hv
           obtain ⟨a0, a1, a2, a3, a4, a5, la⟩ := (HX.out.up (w' := w9) (by (repeat (first | exact Below.refl _ _ | exact Go.RowKit.Hid.out (by assumption) | refine Up.trans ?_ (Up.drew _) | refine Up.trans ?_ (Up.drewN _ _) | refine Up.trans ?_ (Up.alloc _ _) | refine Up.trans ?_ (Go.RowKit.Hid.out (by assumption)))))).facts
           obtain ⟨b0, b1, b2, b3, b4, b5, lb⟩ := (HY.out.up (w' := w9) (by (repeat (first | exact Below.refl _ _ | exact Go.RowKit.Hid.out (by assumption) | refine Up.trans ?_ (Up.drew _) | refine Up.trans ?_ (Up.drewN _ _) | refine Up.trans ?_ (Up.alloc _ _) | refine Up.trans ?_ (Go.RowKit.Hid.out (by assumption)))))).facts
           obtain ⟨c0, c1, c2, c3, c4, c5, lc⟩ := (HNX.out.up (w' := w9) (by (repeat (first | exact Below.refl _ _ | exact Go.RowKit.Hid.out (by assumption) | refine Up.trans ?_ (Up.drew _) | refine Up.trans ?_ (Up.drewN _ _) | refine Up.trans ?_ (Up.alloc _ _) | refine Up.trans ?_ (Go.RowKit.Hid.out (by assumption)))))).facts
           obtain ⟨nx1, nx2⟩ := And.intro (lt_ne la) (lt_ne' la)
           obtain ⟨nx3, nx4⟩ := And.intro (lt_ne lb) (lt_ne' lb)
           obtain ⟨nx5, nx6⟩ := And.intro (lt_ne lc) (lt_ne' lc))
        | (go_at_call_of 48 (Value.agg #[.int .i64 t, .bool f, .slice B m j, .int .i64 t2, .bool f2, .slice B2 m2 j2])
           refine Calls.mono (HL1.out _ _ (by (repeat (first | exact Below.refl _ _ | exact Go.RowKit.Hid.out (by assumption) | refine Up.trans ?_ (Up.drew _) | refine Up.trans ?_ (Up.drewN _ _) | refine Up.trans ?_ (Up.alloc _ _) | refine Up.trans ?_ (Go.RowKit.Hid.out (by assumption))))) (HVN.out.up (by (repeat (first | exact Below.refl _ _ | exact Go.RowKit.Hid.out (by assumption) | refine Up.trans ?_ (Up.drew _) | refine Up.trans ?_ (Up.drewN _ _) | refine Up.trans ?_ (Up.alloc _ _) | refine Up.trans ?_ (Go.RowKit.Hid.out (by assumption))))))) ?_
           rintro e w8 ⟨v, rfl, hv, hu⟩
           try (have HZ : Go.RowKit.Hid (CellR w8 w6.heap.size 0 false (.slice none 0 0) 0 false (.slice none 0 0)) := CellR.up (CellR.new w6.drew 0 false (.slice none 0 0) 0 false (.slice none 0 0)) hu)
           try (have HZ := Lib.hid (CellR.up (CellR.new _ 0 false (.slice none 0 0) 0 false (.slice none 0 0)) hu))
           try (have HZ := Lib.hid (CellR.up HZ.out hu))
           try (obtain ⟨z0, z1, z2, z3, z4, z5, lz⟩ := HZ.out.facts)
           try (obtain ⟨y0, y1, y2, y3, y4, y5⟩ := HZ.out.frozen6)
           have HUw8 := Lib.hid hu
           have HVw8 := Lib.hid hv
           have HVw7 := Lib.hid (HVw7.out.up (w' := w8) (by (repeat (first | exact Below.refl _ _ | exact Go.RowKit.Hid.out (by assumption) | refine Up.trans ?_ (Up.drew _) | refine Up.trans ?_ (Up.drewN _ _) | refine Up.trans ?_ (Up.alloc _ _) | refine Up.trans ?_ (Go.RowKit.Hid.out (by assumption))))))
           clear hu hv
           obtain ⟨a0, a1, a2, a3, a4, a5, la⟩ := (HX.out.up (w' := w8) (by (repeat (first | exact Below.refl _ _ | exact Go.RowKit.Hid.out (by assumption) | refine Up.trans ?_ (Up.drew _) | refine Up.trans ?_ (Up.drewN _ _) | refine Up.trans ?_ (Up.alloc _ _) | refine Up.trans ?_ (Go.RowKit.Hid.out (by assumption)))))).facts
           obtain ⟨b0, b1, b2, b3, b4, b5, lb⟩ := (HY.out.up (w' := w8) (by (repeat (first | exact Below.refl _ _ | exact Go.RowKit.Hid.out (by assumption) | refine Up.trans ?_ (Up.drew _) | refine Up.trans ?_ (Up.drewN _ _) | refine Up.trans ?_ (Up.alloc _ _) | refine Up.trans ?_ (Go.RowKit.Hid.out (by assumption)))))).facts
           obtain ⟨c0, c1, c2, c3, c4, c5, lc⟩ := (HNX.out.up (w' := w8) (by (repeat (first | exact Below.refl _ _ | exact Go.RowKit.Hid.out (by assumption) | refine Up.trans ?_ (Up.drew _) | refine Up.trans ?_ (Up.drewN _ _) | refine Up.trans ?_ (Up.alloc _ _) | refine Up.trans ?_ (Go.RowKit.Hid.out (by assumption)))))).facts
           obtain ⟨nx1, nx2⟩ := And.intro (lt_ne la) (lt_ne' la)
           obtain ⟨nx3, nx4⟩ := And.intro (lt_ne lb) (lt_ne' lb)
           obtain ⟨nx5, nx6⟩ := And.intro (lt_ne lc) (lt_ne' lc))
        | (go_at_call 50
           refine Calls.mono (HW.out _) ?_
           rintro e w7 ⟨v, rfl, hv, hu⟩
           try (have HZ : Go.RowKit.Hid (CellR w7 w6.heap.size 0 false (.slice none 0 0) 0 false (.slice none 0 0)) := CellR.up (CellR.new w6.drew 0 false (.slice none 0 0) 0 false (.slice none 0 0)) hu)
           try (have HZ := Lib.hid (CellR.up (CellR.new _ 0 false (.slice none 0 0) 0 false (.slice none 0 0)) hu))
           try (have HZ := Lib.hid (CellR.up HZ.out hu))
           try (obtain ⟨z0, z1, z2, z3, z4, z5, lz⟩ := HZ.out.facts)
           try (obtain ⟨y0, y1, y2, y3, y4, y5⟩ := HZ.out.frozen6)
           have HUw7 := Lib.hid hu
           have HVw7 := Lib.hid hv
           clear hu hv
           obtain ⟨a0, a1, a2, a3, a4, a5, la⟩ := (HX.out.up (w' := w7) (by (repeat (first | exact Below.refl _ _ | exact Go.RowKit.Hid.out (by assumption) | refine Up.trans ?_ (Up.drew _) | refine Up.trans ?_ (Up.drewN _ _) | refine Up.trans ?_ (Up.alloc _ _) | refine Up.trans ?_ (Go.RowKit.Hid.out (by assumption)))))).facts
           obtain ⟨b0, b1, b2, b3, b4, b5, lb⟩ := (HY.out.up (w' := w7) (by (repeat (first | exact Below.refl _ _ | exact Go.RowKit.Hid.out (by assumption) | refine Up.trans ?_ (Up.drew _) | refine Up.trans ?_ (Up.drewN _ _) | refine Up.trans ?_ (Up.alloc _ _) | refine Up.trans ?_ (Go.RowKit.Hid.out (by assumption)))))).facts
           obtain ⟨c0, c1, c2, c3, c4, c5, lc⟩ := (HNX.out.up (w' := w7) (by (repeat (first | exact Below.refl _ _ | exact Go.RowKit.Hid.out (by assumption) | refine Up.trans ?_ (Up.drew _) | refine Up.trans ?_ (Up.drewN _ _) | refine Up.trans ?_ (Up.alloc _ _) | refine Up.trans ?_ (Go.RowKit.Hid.out (by assumption)))))).facts
           obtain ⟨nx1, nx2⟩ := And.intro (lt_ne la) (lt_ne' la)
           obtain ⟨nx3, nx4⟩ := And.intro (lt_ne lb) (lt_ne' lb)
           obtain ⟨nx5, nx6⟩ := And.intro (lt_ne lc) (lt_ne' lc))))
    all_goals (go_wp2_with fail; go_meet)
    all_goals first
      | with_reducible exact ⟨_, _, _, _, _, _, _, _, _, _, _, rfl, CellR.new _ _ _ _ _ _ _, HVw13.out.up (Up.alloc _ _), by (repeat (first | exact Below.refl _ _ | exact Go.RowKit.Hid.out (by assumption) | refine Up.trans ?_ (Up.drew _) | refine Up.trans ?_ (Up.drewN _ _) | refine Up.trans ?_ (Up.alloc _ _) | refine Up.trans ?_ (Go.RowKit.Hid.out (by assumption)))), (by first | exact Nat.le_refl _ | exact (show Up w6 w7 by (repeat (first | exact Below.refl _ _ | exact Go.RowKit.Hid.out (by assumption) | refine Up.trans ?_ (Up.drew _) | refine Up.trans ?_ (Up.drewN _ _) | refine Up.trans ?_ (Up.alloc _ _) | refine Up.trans ?_ (Go.RowKit.Hid.out (by assumption))))).size | exact (show Up w6 w8 by (repeat (first | exact Below.refl _ _ | exact Go.RowKit.Hid.out (by assumption) | refine Up.trans ?_ (Up.drew _) | refine Up.trans ?_ (Up.drewN _ _) | refine Up.trans ?_ (Up.alloc _ _) | refine Up.trans ?_ (Go.RowKit.Hid.out (by assumption))))).size | exact (show Up w6 w9 by (repeat (first | exact Below.refl _ _ | exact Go.RowKit.Hid.out (by assumption) | refine Up.trans ?_ (Up.drew _) | refine Up.trans ?_ (Up.drewN _ _) | refine Up.trans ?_ (Up.alloc _ _) | refine Up.trans ?_ (Go.RowKit.Hid.out (by assumption))))).size | exact (show Up w6 w10 by (repeat (first | exact Below.refl _ _ | exact Go.RowKit.Hid.out (by assumption) | refine Up.trans ?_ (Up.drew _) | refine Up.trans ?_ (Up.drewN _ _) | refine Up.trans ?_ (Up.alloc _ _) | refine Up.trans ?_ (Go.RowKit.Hid.out (by assumption))))).size | exact (show Up w6 w11 by (repeat (first | exact Below.refl _ _ | exact Go.RowKit.Hid.out (by assumption) | refine Up.trans ?_ (Up.drew _) | refine Up.trans ?_ (Up.drewN _ _) | refine Up.trans ?_ (Up.alloc _ _) | refine Up.trans ?_ (Go.RowKit.Hid.out (by assumption))))).size | exact (show Up w6 w12 by (repeat (first | exact Below.refl _ _ | exact Go.RowKit.Hid.out (by assumption) | refine Up.trans ?_ (Up.drew _) | refine Up.trans ?_ (Up.drewN _ _) | refine Up.trans ?_ (Up.alloc _ _) | refine Up.trans ?_ (Go.RowKit.Hid.out (by assumption))))).size | exact (show Up w6 w13 by (repeat (first | exact Below.refl _ _ | exact Go.RowKit.Hid.out (by assumption) | refine Up.trans ?_ (Up.drew _) | refine Up.trans ?_ (Up.drewN _ _) | refine Up.trans ?_ (Up.alloc _ _) | refine Up.trans ?_ (Go.RowKit.Hid.out (by assumption))))).size)⟩
      | with_reducible exact ⟨_, _, _, _, _, _, _, _, _, _, _, rfl, HZ.out.set _ _ _ _ _ _, HVw13.out.put6 HZ.out _ _ _ _ _ _, Up.put6 (show Up w6 w13 by (repeat (first | exact Below.refl _ _ | exact Go.RowKit.Hid.out (by assumption) | refine Up.trans ?_ (Up.drew _) | refine Up.trans ?_ (Up.drewN _ _) | refine Up.trans ?_ (Up.alloc _ _) | refine Up.trans ?_ (Go.RowKit.Hid.out (by assumption))))) (by first | exact Nat.le_refl _ | exact (show Up w6 w7 by (repeat (first | exact Below.refl _ _ | exact Go.RowKit.Hid.out (by assumption) | refine Up.trans ?_ (Up.drew _) | refine Up.trans ?_ (Up.drewN _ _) | refine Up.trans ?_ (Up.alloc _ _) | refine Up.trans ?_ (Go.RowKit.Hid.out (by assumption))))).size | exact (show Up w6 w8 by (repeat (first | exact Below.refl _ _ | exact Go.RowKit.Hid.out (by assumption) | refine Up.trans ?_ (Up.drew _) | refine Up.trans ?_ (Up.drewN _ _) | refine Up.trans ?_ (Up.alloc _ _) | refine Up.trans ?_ (Go.RowKit.Hid.out (by assumption))))).size | exact (show Up w6 w9 by (repeat (first | exact Below.refl _ _ | exact Go.RowKit.Hid.out (by assumption) | refine Up.trans ?_ (Up.drew _) | refine Up.trans ?_ (Up.drewN _ _) | refine Up.trans ?_ (Up.alloc _ _) | refine Up.trans ?_ (Go.RowKit.Hid.out (by assumption))))).size | exact (show Up w6 w10 by (repeat (first | exact Below.refl _ _ | exact Go.RowKit.Hid.out (by assumption) | refine Up.trans ?_ (Up.drew _) | refine Up.trans ?_ (Up.drewN _ _) | refine Up.trans ?_ (Up.alloc _ _) | refine Up.trans ?_ (Go.RowKit.Hid.out (by assumption))))).size | exact (show Up w6 w11 by (repeat (first | exact Below.refl _ _ | exact Go.RowKit.Hid.out (by assumption) | refine Up.trans ?_ (Up.drew _) | refine Up.trans ?_ (Up.drewN _ _) | refine Up.trans ?_ (Up.alloc _ _) | refine Up.trans ?_ (Go.RowKit.Hid.out (by assumption))))).size | exact (show Up w6 w12 by (repeat (first | exact Below.refl _ _ | exact Go.RowKit.Hid.out (by assumption) | refine Up.trans ?_ (Up.drew _) | refine Up.trans ?_ (Up.drewN _ _) | refine Up.trans ?_ (Up.alloc _ _) | refine Up.trans ?_ (Go.RowKit.Hid.out (by assumption))))).size | exact (show Up w6 w13 by (repeat (first | exact Below.refl _ _ | exact Go.RowKit.Hid.out (by assumption) | refine Up.trans ?_ (Up.drew _) | refine Up.trans ?_ (Up.drewN _ _) | refine Up.trans ?_ (Up.alloc _ _) | refine Up.trans ?_ (Go.RowKit.Hid.out (by assumption))))).size) _ _ _ _ _ _, (by first | exact Nat.le_refl _ | exact (show Up w6 w7 by (repeat (first | exact Below.refl _ _ | exact Go.RowKit.Hid.out (by assumption) | refine Up.trans ?_ (Up.drew _) | refine Up.trans ?_ (Up.drewN _ _) | refine Up.trans ?_ (Up.alloc _ _) | refine Up.trans ?_ (Go.RowKit.Hid.out (by assumption))))).size | exact (show Up w6 w8 by (repeat (first | exact Below.refl _ _ | exact Go.RowKit.Hid.out (by assumption) | refine Up.trans ?_ (Up.drew _) | refine Up.trans ?_ (Up.drewN _ _) | refine Up.trans ?_ (Up.alloc _ _) | refine Up.trans ?_ (Go.RowKit.Hid.out (by assumption))))).size | exact (show Up w6 w9 by (repeat (first | exact Below.refl _ _ | exact Go.RowKit.Hid.out (by assumption) | refine Up.trans ?_ (Up.drew _) | refine Up.trans ?_ (Up.drewN _ _) | refine Up.trans ?_ (Up.alloc _ _) | refine Up.trans ?_ (Go.RowKit.Hid.out (by assumption))))).size | exact (show Up w6 w10 by (repeat (first | exact Below.refl _ _ | exact Go.RowKit.Hid.out (by assumption) | refine Up.trans ?_ (Up.drew _) | refine Up.trans ?_ (Up.drewN _ _) | refine Up.trans ?_ (Up.alloc _ _) | refine Up.trans ?_ (Go.RowKit.Hid.out (by assumption))))).size | exact (show Up w6 w11 by (repeat (first | exact Below.refl _ _ | exact Go.RowKit.Hid.out (by assumption) | refine Up.trans ?_ (Up.drew _) | refine Up.trans ?_ (Up.drewN _ _) | refine Up.trans ?_ (Up.alloc _ _) | refine Up.trans ?_ (Go.RowKit.Hid.out (by assumption))))).size | exact (show Up w6 w12 by (repeat (first | exact Below.refl _ _ | exact Go.RowKit.Hid.out (by assumption) | refine Up.trans ?_ (Up.drew _) | refine Up.trans ?_ (Up.drewN _ _) | refine Up.trans ?_ (Up.alloc _ _) | refine Up.trans ?_ (Go.RowKit.Hid.out (by assumption))))).size | exact (show Up w6 w13 by (repeat (first | exact Below.refl _ _ | exact Go.RowKit.Hid.out (by assumption) | refine Up.trans ?_ (Up.drew _) | refine Up.trans ?_ (Up.drewN _ _) | refine Up.trans ?_ (Up.alloc _ _) | refine Up.trans ?_ (Go.RowKit.Hid.out (by assumption))))).size)⟩
  case rest =>
    obtain ⟨g6, q1, q2, q3, q4, q5, q6, q7, q8, q9, q0, rfl, hc7, hv7, hu7, hg7⟩ := hcut
    have HC7 := Lib.hid hc7
    have HV7 := Lib.hid hv7
    have HU7 := Lib.hid hu7
    have hs6 : w2.heap.size < w6.heap.size := lc
    clear hc7 hv7 hu7 a0 a1 a2 a3 a4 a5 la b0 b1 b2 b3 b4 b5 lb c0 c1 c2 c3 c4 c5 lc nx1 nx2 nx3 nx4 nx5 nx6
    have hne7 : (g6 = w.heap.size + 1 + 1) = False := eq_false (by omega)
    have hne8 : (w.heap.size + 1 + 1 = g6) = False := eq_false (by omega)
    obtain ⟨c0, c1, c2, c3, c4, c5, lc⟩ := (HNX.out.up (w' := wc) (by (repeat (first | exact Below.refl _ _ | exact Go.RowKit.Hid.out (by assumption) | refine Up.trans ?_ (Up.drew _) | refine Up.trans ?_ (Up.drewN _ _) | refine Up.trans ?_ (Up.alloc _ _) | refine Up.trans ?_ (Go.RowKit.Hid.out (by assumption)))))).facts
    obtain ⟨d0, d1, d2, d3, d4, d5, ld⟩ := HC7.out.facts
    go_upto_region 7 with fail
    go_region_held3 (fun w' => w'.cell? ⟨w2.heap.size, 0, none⟩ = some (.int .i64 s3) ∧ w'.cell? ⟨w2.heap.size, 1, none⟩ = some (.bool g3) ∧ w'.cell? ⟨w2.heap.size, 2, none⟩ = some (.slice A3 n3 k3) ∧ w'.cell? ⟨w2.heap.size, 3, none⟩ = some (.int .i64 s4) ∧ w'.cell? ⟨w2.heap.size, 4, none⟩ = some (.bool g4) ∧ w'.cell? ⟨w2.heap.size, 5, none⟩ = some (.slice A4 n4 k4) ∧ w'.cell? ⟨g6, 0, none⟩ = some (.int .i64 q1) ∧ w'.cell? ⟨g6, 1, none⟩ = some (.bool q3) ∧ w'.cell? ⟨g6, 2, none⟩ = some (.slice q5 q7 q8) ∧ w'.cell? ⟨g6, 3, none⟩ = some (.int .i64 q2) ∧ w'.cell? ⟨g6, 4, none⟩ = some (.bool q4) ∧ w'.cell? ⟨g6, 5, none⟩ = some (.slice q6 q9 q0)) (go_keep)
      ((first
        | (go_at_call 51
           refine Calls.mono (HP2.out _ _ _ (HVN.out.up (by (repeat (first | exact Below.refl _ _ | exact Go.RowKit.Hid.out (by assumption) | refine Up.trans ?_ (Up.drew _) | refine Up.trans ?_ (Up.drewN _ _) | refine Up.trans ?_ (Up.alloc _ _) | refine Up.trans ?_ (Go.RowKit.Hid.out (by assumption)))))) (HVw15.out.up (by (repeat (first | exact Below.refl _ _ | exact Go.RowKit.Hid.out (by assumption) | refine Up.trans ?_ (Up.drew _) | refine Up.trans ?_ (Up.drewN _ _) | refine Up.trans ?_ (Up.alloc _ _) | refine Up.trans ?_ (Go.RowKit.Hid.out (by assumption))))))) ?_
           rintro e w16 ⟨v, rfl, hv, hu⟩
           have HUw16 := Lib.hid hu
           have HVw16 := Lib.hid hv
           obtain ⟨p1, p2, p3, p4, p5, p6, p7, p8, p9, p0, rfl, -⟩ := hv
           clear hu
           obtain ⟨c0, c1, c2, c3, c4, c5, lc⟩ := (HNX.out.up (w' := w16) (by (repeat (first | exact Below.refl _ _ | exact Go.RowKit.Hid.out (by assumption) | refine Up.trans ?_ (Up.drew _) | refine Up.trans ?_ (Up.drewN _ _) | refine Up.trans ?_ (Up.alloc _ _) | refine Up.trans ?_ (Go.RowKit.Hid.out (by assumption)))))).facts
           obtain ⟨d0, d1, d2, d3, d4, d5, ld⟩ := (HC7.out.up (w' := w16) (by (repeat (first | exact Below.refl _ _ | exact Go.RowKit.Hid.out (by assumption) | refine Up.trans ?_ (Up.drew _) | refine Up.trans ?_ (Up.drewN _ _) | refine Up.trans ?_ (Up.alloc _ _) | refine Up.trans ?_ (Go.RowKit.Hid.out (by assumption)))))).facts
           have HZ := Lib.hid (HR.out.up (w' := w16) (by (repeat (first | exact Below.refl _ _ | exact Go.RowKit.Hid.out (by assumption) | refine Up.trans ?_ (Up.drew _) | refine Up.trans ?_ (Up.drewN _ _) | refine Up.trans ?_ (Up.alloc _ _) | refine Up.trans ?_ (Go.RowKit.Hid.out (by assumption))))))
           obtain ⟨r0, r1, r2, r3, r4, r5, lr⟩ := HZ.out.facts
           obtain ⟨f0, f1, f2, f3, f4, f5⟩ := HZ.out.frozen6)
        | (go_at_call 75
           refine Calls.mono (HO4.out _ _ _ (HVw14.out.up (by (repeat (first | exact Below.refl _ _ | exact Go.RowKit.Hid.out (by assumption) | refine Up.trans ?_ (Up.drew _) | refine Up.trans ?_ (Up.drewN _ _) | refine Up.trans ?_ (Up.alloc _ _) | refine Up.trans ?_ (Go.RowKit.Hid.out (by assumption)))))) (HV7.out.up (by (repeat (first | exact Below.refl _ _ | exact Go.RowKit.Hid.out (by assumption) | refine Up.trans ?_ (Up.drew _) | refine Up.trans ?_ (Up.drewN _ _) | refine Up.trans ?_ (Up.alloc _ _) | refine Up.trans ?_ (Go.RowKit.Hid.out (by assumption))))))) ?_
           rintro e w15 ⟨v, rfl, hv, hu⟩
           have HUw15 := Lib.hid hu
           have HVw15 := Lib.hid hv
           clear hu hv
           obtain ⟨c0, c1, c2, c3, c4, c5, lc⟩ := (HNX.out.up (w' := w15) (by (repeat (first | exact Below.refl _ _ | exact Go.RowKit.Hid.out (by assumption) | refine Up.trans ?_ (Up.drew _) | refine Up.trans ?_ (Up.drewN _ _) | refine Up.trans ?_ (Up.alloc _ _) | refine Up.trans ?_ (Go.RowKit.Hid.out (by assumption)))))).facts
           obtain ⟨d0, d1, d2, d3, d4, d5, ld⟩ := (HC7.out.up (w' := w15) (by (repeat (first | exact Below.refl _ _ | exact Go.RowKit.Hid.out (by assumption) | refine Up.trans ?_ (Up.drew _) | refine Up.trans ?_ (Up.drewN _ _) | refine Up.trans ?_ (Up.alloc _ _) | refine Up.trans ?_ (Go.RowKit.Hid.out (by assumption)))))).facts)
        | (go_at_call 50
           refine Calls.mono (HW.out _) ?_
           rintro e w14 ⟨v, rfl, hv, hu⟩
           have HUw14 := Lib.hid hu
           have HVw14 := Lib.hid hv
           clear hu hv
           obtain ⟨c0, c1, c2, c3, c4, c5, lc⟩ := (HNX.out.up (w' := w14) (by (repeat (first | exact Below.refl _ _ | exact Go.RowKit.Hid.out (by assumption) | refine Up.trans ?_ (Up.drew _) | refine Up.trans ?_ (Up.drewN _ _) | refine Up.trans ?_ (Up.alloc _ _) | refine Up.trans ?_ (Go.RowKit.Hid.out (by assumption)))))).facts
           obtain ⟨d0, d1, d2, d3, d4, d5, ld⟩ := (HC7.out.up (w' := w14) (by (repeat (first | exact Below.refl _ _ | exact Go.RowKit.Hid.out (by assumption) | refine Up.trans ?_ (Up.drew _) | refine Up.trans ?_ (Up.drewN _ _) | refine Up.trans ?_ (Up.alloc _ _) | refine Up.trans ?_ (Go.RowKit.Hid.out (by assumption)))))).facts)))
    have HF := Lib.hid (HZ.out.set (p1) (p3) (.slice p5 p7 p8) (p2) (p4) (.slice p6 p9 p0))
    have HM : Hid (RQ (put6 w16 (w.heap.size + 1 + 1) (.int .i64 p1) (.bool p3) (.slice p5 p7 p8) (.int .i64 p2) (.bool p4) (.slice p6 p9 p0)) (.agg #[.int .i64 p1, .bool p3, .slice p5 p7 p8, .int .i64 p2, .bool p4, .slice p6 p9 p0]) q) := Lib.hid (by
      obtain ⟨s7, s8, g7, g8, A7, A8, n7, k7, n8, k8, he, h1, h2⟩ := HVw16.out
      exact ⟨s7, s8, g7, g8, A7, A8, n7, k7, n8, k8, he, h1.put6 HZ.out _ _ _ _ _ _, h2.put6 HZ.out _ _ _ _ _ _⟩)
    have HUF := Lib.hid ((show Up w w16 by (repeat (first | exact Below.refl _ _ | exact Go.RowKit.Hid.out (by assumption) | refine Up.trans ?_ (Up.drew _) | refine Up.trans ?_ (Up.drewN _ _) | refine Up.trans ?_ (Up.alloc _ _) | refine Up.trans ?_ (Go.RowKit.Hid.out (by assumption))))).put6 (show w.heap.size ≤ w.heap.size + 1 + 1 by omega) (.int .i64 p1) (.bool p3) (.slice p5 p7 p8) (.int .i64 p2) (.bool p4) (.slice p6 p9 p0))
    go_wp2
    obtain ⟨z0, z1, z2, z3, z4, z5, -⟩ := HF.out.facts
    refine bodyPost_ret (by simp [results, Tryd.results45, go_sem, z0, z1, z2, z3, z4, z5]; try rfl) rfl ?_
    exact ⟨_, rfl, HM.out, HUF.out⟩

end Go.Proofs.YtimlainffbpfdaaDoor
namespace Go.Proofs.YtimlainffbpfdaaDoor
open Go.RowKit Fm

theorem int_divInt (n : Int) : (n : Rat) = Rat.divInt n 1 := (Rat.num_divInt_den (n : Rat)).symm
theorem ratOf_one (n : Int) : ratOf n 1 = (n : Rat) := by
  unfold ratOf; exact (int_divInt n).symm
theorem ratOf_sub (x y n : Int) (hy : 0 < y) : ratOf x y - (n : Rat) = ratOf (x - n * y) y := by
  unfold ratOf
  rw [int_divInt, Rat.divInt_sub_divInt _ _ (by omega) (by omega), Int.mul_one, Int.mul_one]
theorem ratOf_sub' (x y n : Int) (hy : 0 < y) : (n : Rat) - ratOf x y = ratOf (n * y - x) y := by
  unfold ratOf
  rw [int_divInt, Rat.divInt_sub_divInt _ _ (by omega) (by omega), Int.mul_one, Int.one_mul]
theorem ratOf_inv (x y : Int) : ((1 : Int) : Rat) / ratOf x y = ratOf y x := by
  unfold ratOf
  rw [Rat.div_def, Rat.inv_divInt, int_divInt, Rat.divInt_mul_divInt, Int.one_mul, Int.one_mul]
theorem ratOf_add (x y n : Int) (hy : 0 < y) : (n : Rat) + ratOf x y = ratOf (n * y + x) y := by
  unfold ratOf
  rw [int_divInt, Rat.divInt_add_divInt _ _ (by omega) (by omega), Int.mul_one, Int.one_mul]
theorem ratOf_floor (x y : Int) (hy : 0 < y) : (ratOf x y).num / ((ratOf x y).den : Int) = x / y := by
  unfold ratOf
  have hg : (0 : Int) < (Int.gcd y x : Nat) := by
    have := Int.gcd_pos_of_ne_zero_left x (show y ≠ 0 by omega)
    omega
  have e1 : (Rat.divInt x y).num = x / (Int.gcd y x : Nat) := by rw [Rat.num_divInt, Int.sign_eq_one_of_pos hy, Int.one_mul]
  have e2 : ((Rat.divInt x y).den : Int) = y / (Int.gcd y x : Nat) := by
    rw [Rat.den_divInt, if_neg (by omega), Int.natCast_ediv]
    congr 1; omega
  rw [e1, e2]
  obtain ⟨a, ha⟩ : ((Int.gcd y x : Nat) : Int) ∣ x := Int.gcd_dvd_right ..
  obtain ⟨b, hb⟩ : ((Int.gcd y x : Nat) : Int) ∣ y := Int.gcd_dvd_left ..
  generalize ((Int.gcd y x : Nat) : Int) = g at *
  rw [ha, hb, Int.mul_ediv_cancel_left _ (by omega), Int.mul_ediv_cancel_left _ (by omega), Int.mul_ediv_mul_of_pos _ _ hg]

/-- The numbers of the search stay within the limits. -/
theorem ratOf_QB {x y : Int} (hx0 : 0 < x) (hx : x ≤ 1152921504606846976) (hy0 : 0 < y) (hy : y ≤ 1152921504606846976) : QB (ratOf x y) 3 :=
  QB.divInt (rl_int (by omega) (by omega)) (rl_int (by omega) (by omega)) (by omega)
theorem int_QB {n : Int} (h1 : -9223372036854775808 ≤ n) (h2 : n ≤ 9223372036854775807) : QB (n : Rat) 3 :=
  ⟨rl_int h1 h2, rl_int (z := ((n : Rat).den : Int)) (by show (-9223372036854775808 : Int) ≤ 1; omega) (by show (1 : Int) ≤ 9223372036854775807; omega)⟩
theorem ratOf_ne {x y : Int} (hx : 0 < x) (hy : 0 < y) : ratOf x y ≠ 0 := by
  intro h
  have := divInt_sign (n := x) hy
  unfold ratOf at h
  rw [h, Int.sign_eq_one_of_pos hx] at this
  exact absurd this (by decide)
theorem sub_sign_int (x y n : Int) (hy : 0 < y) : (ratOf x y - (n : Rat)).num.sign = (x - n * y).sign := by
  rw [ratOf_sub _ _ _ hy]; exact divInt_sign hy
theorem int_sub_sign (x y n : Int) (hy : 0 < y) : ((n : Rat) - ratOf x y).num.sign = (n * y - x).sign := by
  rw [ratOf_sub' _ _ _ hy]; exact divInt_sign hy

theorem refWhole_q (n : Int) (w : World) (h1 : -9223372036854775808 ≤ n) (h2 : n ≤ 9223372036854775807) :
    Calls Tryd.prog 50 #[.int .i64 n] w fun e w' => ∃ v, e = .returned v ∧ RQ w' v (n : Rat) ∧ Up w w' := refWhole_any n w h1 h2

theorem refSimplest_any {x1 y1 x2 y2 X Y : Int} (s : Cfr x1 y1 x2 y2 X Y) (o : Prs x1 y1 x2 y2) (b1 : x1 ≤ 1152921504606846976) (b2 : y1 ≤ 1152921504606846976) (b3 : x2 ≤ 1152921504606846976) (b4 : y2 ≤ 1152921504606846976)
    (v1 v2 : Value) (w : World) (h1 : RQ w v1 (ratOf x1 y1)) (h2 : RQ w v2 (ratOf x2 y2)) :
    Calls Tryd.prog 45 #[v1, v2] w fun e w' => ∃ v, e = .returned v ∧ RQ w' v (ratOf X Y) ∧ Up w w' := by
  induction s generalizing v1 v2 w with
  | int x1 y1 x2 y2 h =>
    obtain ⟨p1, q1, p2, q2, le⟩ := o
    have hB1 := ratOf_QB p1 b1 q1 b2
    have hB2 := ratOf_QB p2 b3 q2 b4
    have hds := div_small (x := x1) (y := y1) (by omega) b1 (by omega)
    have hn0 : 0 ≤ x1 / y1 := Int.ediv_nonneg (by omega) (by omega)
    have hf1 := Int.ediv_mul_le x1 (b := y1) (by omega)
    have hf2 := Int.lt_ediv_add_one_mul_self x1 q1
    have hD : Hid (∀ W, Up w W → Calls Tryd.prog 35 #[v1] W fun e w' => ∃ v, e = .returned v ∧ RI w' v (x1 / y1) ∧ Up W w') := Lib.hid fun W hu => by
      have := refDown_any v1 _ _ W (h1.up hu) (by have := (ratOf x1 y1).den_nz; omega) (Nat.le_trans hB1.1 (by omega))
      rw [ratOf_floor _ _ q1] at this
      exact this
    have hC : Hid (∀ W v, Up w W → RQ W v ((x1 / y1 : Int) : Rat) → Calls Tryd.prog 19 #[v1, v] W fun e w' => e = .returned (.int .i64 (x1 - x1 / y1 * y1).sign) ∧ Up W w') := Lib.hid fun W v hu hv => by
      have := refRatCompare_q v1 v _ _ 3 3 W (h1.up hu) hv hB1 (int_QB (by omega) (by omega)) (by omega)
      rw [sub_sign_int _ _ _ q1] at this
      exact this
    have hc := (ceil_le (x := x1) (c := -(-x1 / y1)) q1).1 (Int.le_refl _)
    have hm : ∀ c, x1 ≤ c * y1 → -(-x1 / y1) ≤ c := fun c => (ceil_le q1).2
    have hf := (Int.le_ediv_iff_mul_le q2).1 h
    rw [Int.add_mul, Int.one_mul] at hf2
    generalize -(-x1 / y1) = c at *
    generalize x1 / y1 = n at *
    by_cases hz : x1 - n * y1 = 0
    · have hcn : c = n := by
        have h3 := hm n (by omega)
        have h4 : n * y1 ≤ c * y1 := by omega
        have := Int.le_of_mul_le_mul_right h4 q1
        omega
      rw [hcn, ratOf_one]
      exact refSimp_whole _ (by rw [hz]; rfl) v1 v2 _ _ n w h1 h2 hD hC
    · have hcn : c = n + 1 := by
        have h3 := hm (n + 1) (by rw [Int.add_mul, Int.one_mul]; omega)
        have h4 : n * y1 < c * y1 := by omega
        have := Int.lt_of_mul_lt_mul_right h4 (by omega)
        omega
      rw [hcn, ratOf_one]
      rw [hcn] at hf
      refine refSimp_next (x1 - n * y1).sign ((n + 1) * y2 - x2).sign (n + 1) (by simpa using hz) (by
        have := Int.sign_nonpos_iff.2 (show (n + 1) * y2 - x2 ≤ 0 by omega); exact this) v1 v2 _ _ n w h1 h2 hD hC (Lib.hid fun W => refWhole_q 1 W (by omega) (by omega)) (Lib.hid fun W u1 u2 k1 k2 => ?_) (Lib.hid fun W v hu hv => ?_)
      · have := refRatPlus_q u1 u2 _ _ 3 3 W k1 k2 (int_QB (by omega) (by omega)) (int_QB (by omega) (by omega)) (by omega)
        rw [← Rat.intCast_add] at this
        exact this
      · have := refRatCompare_q v v2 _ _ 3 3 W hv (h2.up hu) (int_QB (by omega) (by omega)) hB2 (by omega)
        rw [int_sub_sign _ _ _ q2] at this
        exact this
  | step x1 y1 x2 y2 X Y h r ih =>
    obtain ⟨s0, s1, s2, s3, s4, ho⟩ := o.step h
    obtain ⟨-, -, -, -, -, lm⟩ := (Cfr.step _ _ _ _ _ _ h r).least o
    obtain ⟨iX, iY, -⟩ := r.least ho
    obtain ⟨p1, q1, p2, q2, le⟩ := o
    obtain ⟨l1, l2⟩ := lm x1 y1 q1 (Int.le_refl _) le
    have hB1 := ratOf_QB p1 b1 q1 b2
    have hB2 := ratOf_QB p2 b3 q2 b4
    have hds := div_small (x := x1) (y := y1) (by omega) b1 (by omega)
    have hD : Hid (∀ W, Up w W → Calls Tryd.prog 35 #[v1] W fun e w' => ∃ v, e = .returned v ∧ RI w' v (x1 / y1) ∧ Up W w') := Lib.hid fun W hu => by
      have := refDown_any v1 _ _ W (h1.up hu) (by have := (ratOf x1 y1).den_nz; omega) (Nat.le_trans hB1.1 (by omega))
      rw [ratOf_floor _ _ q1] at this
      exact this
    have hC : Hid (∀ W v, Up w W → RQ W v ((x1 / y1 : Int) : Rat) → Calls Tryd.prog 19 #[v1, v] W fun e w' => e = .returned (.int .i64 (x1 - x1 / y1 * y1).sign) ∧ Up W w') := Lib.hid fun W v hu hv => by
      have := refRatCompare_q v1 v _ _ 3 3 W (h1.up hu) hv hB1 (int_QB (by omega) (by omega)) (by omega)
      rw [sub_sign_int _ _ _ q1] at this
      exact this
    have ihr := fun W u1 u2 k1 k2 => ih ho b4 (by omega) b2 (by omega) u1 u2 W k1 k2
    clear ih r lm h
    generalize x1 / y1 = n at *
    have hXY : 0 ≤ n * X := Int.mul_nonneg s0 (Int.le_of_lt iX)
    have hz1 := Int.mul_nonneg s0 (Int.le_of_lt q1)
    have hz2 := Int.mul_nonneg s0 (Int.le_of_lt q2)
    refine refSimp_step (x1 - n * y1).sign ((n + 1) * y2 - x2).sign (n + 1) (by have : (x1 - n * y1).sign = 1 := Int.sign_eq_one_of_pos s1; rw [this]; rfl) (by
      have : ((n + 1) * y2 - x2).sign = 1 := Int.sign_eq_one_of_pos (by rw [Int.add_mul, Int.one_mul]; omega)
      rw [this]; decide)
      (ratOf (x2 - n * y2) y2) (ratOf (x1 - n * y1) y1) (ratOf y2 (x2 - n * y2)) (ratOf y1 (x1 - n * y1)) (ratOf X Y) (ratOf Y X) (ratOf (n * X + Y) X) v1 v2 _ _ n w h1 h2 hD hC
      (Lib.hid fun W => refWhole_q 1 W (by omega) (by omega)) (Lib.hid fun W u1 u2 k1 k2 => ?_) (Lib.hid fun W v hu hv => ?_) (Lib.hid fun W v hu hv => ?_) (Lib.hid fun W v hu hv => ?_) (Lib.hid fun W u1 u2 k1 k2 => ?_) (Lib.hid fun W u1 u2 k1 k2 => ?_)
      (Lib.hid fun W u1 u2 k1 k2 => ihr W u1 u2 k1 k2) (Lib.hid fun W u1 u2 k1 k2 => ?_) (Lib.hid fun W u1 u2 k1 k2 => ?_)
    · have := refRatPlus_q u1 u2 _ _ 3 3 W k1 k2 (int_QB (by omega) (by omega)) (int_QB (by omega) (by omega)) (by omega)
      rw [← Rat.intCast_add] at this
      exact this
    · have := refRatCompare_q v v2 _ _ 3 3 W hv (h2.up hu) (int_QB (by omega) (by omega)) hB2 (by omega)
      rw [int_sub_sign _ _ _ q2] at this
      exact this
    · have := refRatLess_q v2 v _ _ 3 3 W (h2.up hu) hv hB2 (int_QB (by omega) (by omega)) (by omega)
      rw [ratOf_sub _ _ _ q2] at this
      exact this
    · have := refRatLess_q v1 v _ _ 3 3 W (h1.up hu) hv hB1 (int_QB (by omega) (by omega)) (by omega)
      rw [ratOf_sub _ _ _ q1] at this
      exact this
    · have := refRatOver_q u1 u2 _ _ 3 3 W k1 k2 (int_QB (by omega) (by omega)) (ratOf_QB s3 (by omega) q2 b4) (by omega) (ratOf_ne s3 q2)
      rw [ratOf_inv] at this
      exact this
    · have := refRatOver_q u1 u2 _ _ 3 3 W k1 k2 (int_QB (by omega) (by omega)) (ratOf_QB s1 (by omega) q1 b2) (by omega) (ratOf_ne s1 q1)
      rw [ratOf_inv] at this
      exact this
    · have := refRatOver_q u1 u2 _ _ 3 3 W k1 k2 (int_QB (by omega) (by omega)) (ratOf_QB iX (by omega) iY (by omega)) (by omega) (ratOf_ne iX iY)
      rw [ratOf_inv] at this
      exact this
    · have := refRatPlus_q u1 u2 _ _ 3 3 W k1 k2 (int_QB (by omega) (by omega)) (ratOf_QB iY (by omega) iX (by omega)) (by omega)
      rw [ratOf_add _ _ _ iX] at this
      exact this
end Go.Proofs.YtimlainffbpfdaaDoor
