/- Walks of a law. -/
import Derived.Test.YtimlainffbpfdaaGreatDoorGArith1
namespace Go.Proofs.YtimlainffbpfdaaGreatDoor
open Go.RowKit Fm

set_option maxHeartbeats 8000000 in
set_option maxRecDepth 10000 in
theorem arith_walk (vb : Bool) (x1 y1 x2 y2 A1 A2 A3 S1 S2 S3 M1 M2 M3 D1 D2 D3 C1 C2 : Int) (w : World)
    (HO0 : Hid (∀ W, Up w W → Calls Tryz.prog 5 #[.agg #[.int .i64 x1, .int .i64 y1], .agg #[.int .i64 x2, .int .i64 y2]] W fun e w' => e = .returned (.tuple #[.agg #[.int .i64 A1, .int .i64 A2], .int .i64 A3]) ∧ Up W w'))
    (HO1 : Hid (∀ W, Up w W → Calls Tryz.prog 6 #[.agg #[.int .i64 x1, .int .i64 y1], .agg #[.int .i64 x2, .int .i64 y2]] W fun e w' => e = .returned (.tuple #[.agg #[.int .i64 A1, .int .i64 A2], .int .i64 A3]) ∧ Up W w'))
    (HO2 : Hid (∀ W, Up w W → Calls Tryz.prog 7 #[.agg #[.int .i64 x1, .int .i64 y1], .agg #[.int .i64 x2, .int .i64 y2]] W fun e w' => e = .returned (.tuple #[.agg #[.int .i64 S1, .int .i64 S2], .int .i64 S3]) ∧ Up W w'))
    (HO3 : Hid (∀ W, Up w W → Calls Tryz.prog 8 #[.agg #[.int .i64 x1, .int .i64 y1], .agg #[.int .i64 x2, .int .i64 y2]] W fun e w' => e = .returned (.tuple #[.agg #[.int .i64 S1, .int .i64 S2], .int .i64 S3]) ∧ Up W w'))
    (HO4 : Hid (∀ W, Up w W → Calls Tryz.prog 9 #[.agg #[.int .i64 x1, .int .i64 y1], .agg #[.int .i64 x2, .int .i64 y2]] W fun e w' => e = .returned (.tuple #[.agg #[.int .i64 M1, .int .i64 M2], .int .i64 M3]) ∧ Up W w'))
    (HO5 : Hid (∀ W, Up w W → Calls Tryz.prog 10 #[.agg #[.int .i64 x1, .int .i64 y1], .agg #[.int .i64 x2, .int .i64 y2]] W fun e w' => e = .returned (.tuple #[.agg #[.int .i64 M1, .int .i64 M2], .int .i64 M3]) ∧ Up W w'))
    (HO6 : Hid (∀ W, Up w W → Calls Tryz.prog 11 #[.agg #[.int .i64 x1, .int .i64 y1], .agg #[.int .i64 x2, .int .i64 y2]] W fun e w' => e = .returned (.tuple #[.agg #[.int .i64 D1, .int .i64 D2], .int .i64 D3]) ∧ Up W w'))
    (HO7 : Hid (∀ W, Up w W → Calls Tryz.prog 12 #[.agg #[.int .i64 x1, .int .i64 y1], .agg #[.int .i64 x2, .int .i64 y2]] W fun e w' => e = .returned (.tuple #[.agg #[.int .i64 D1, .int .i64 D2], .int .i64 D3]) ∧ Up W w'))
    (HO8 : Hid (∀ W, Up w W → Calls Tryz.prog 13 #[.agg #[.int .i64 x1, .int .i64 y1], .agg #[.int .i64 x2, .int .i64 y2]] W fun e w' => e = .returned (.tuple #[.int .i64 C1, .int .i64 C2]) ∧ Up W w'))
    (HO9 : Hid (∀ W, Up w W → Calls Tryz.prog 14 #[.agg #[.int .i64 x1, .int .i64 y1], .agg #[.int .i64 x2, .int .i64 y2]] W fun e w' => e = .returned (.tuple #[.int .i64 C1, .int .i64 C2]) ∧ Up W w'))
    (HV1 : Hid (∀ W, Up w W → Calls Tryz.prog 15 #[.agg #[.int .i64 x1, .int .i64 y1]] W fun e w' => e = .returned (.bool vb) ∧ Up W w'))
    (HV2 : Hid (∀ W, Up w W → Calls Tryz.prog 16 #[.agg #[.int .i64 x1, .int .i64 y1]] W fun e w' => e = .returned (.bool vb) ∧ Up W w'))
    (HW : Hid (∀ W, Up w W → Calls Tryz.prog 17 #[] W fun e w' => e = .returned (.bool true) ∧ Up W w')) :
    Calls Tryz.prog 3 #[.agg #[.int .i64 x1, .int .i64 y1], .agg #[.int .i64 x2, .int .i64 y2]] w fun e w' => e = .returned (.bool true) ∧ Up w w' := by
  obtain ⟨wB, hwB, hn1, hn2, hu0, -⟩ := startN2 w x1 y1 x2 y2
  have HN1 := Lib.hid hn1
  have HN2 := Lib.hid hn2
  have HU := Lib.hid hu0
  have HWB := Lib.hid hwB
  clear hn1 hn2 hu0 hwB
  go_enter Tryz.func3, Tryz.ntmps3
  go_wp2_with fail
  rw [HWB.out]
  clear HWB
  refine Calls.mono (HO0.out _ (by (repeat (first | exact Below.refl _ _ | exact Go.RowKit.Hid.out (by assumption) | refine Up.trans ?_ (Up.drew _) | refine Up.trans ?_ (Up.drewN _ _) | refine Up.trans ?_ (Up.alloc _ _) | refine Up.trans ?_ (Go.RowKit.Hid.out (by assumption)))))) ?_
  rintro e w1 ⟨rfl, hu⟩
  have HU1 := Lib.hid hu
  clear hu
  obtain ⟨wC, hwC⟩ : ∃ wC, wC = w1.alloc (.cells #[.int .i64 A1, .int .i64 A2] 23) := ⟨_, rfl⟩
  have HP0 := Lib.hid (show CellN wC w1.heap.size A1 A2 by rw [hwC]; exact CellN.new _ _ _)
  have HUC0 := Lib.hid (show Up w1 wC by rw [hwC]; exact Up.alloc _ _)
  obtain ⟨a0, a1, -, -, la⟩ := (HN1.out.up (w' := wC) (by (repeat (first | exact Below.refl _ _ | exact Go.RowKit.Hid.out (by assumption) | refine Up.trans ?_ (Up.drew _) | refine Up.trans ?_ (Up.drewN _ _) | refine Up.trans ?_ (Up.alloc _ _) | refine Up.trans ?_ (Go.RowKit.Hid.out (by assumption)))))).facts
  obtain ⟨b0, b1, -, -, lb⟩ := (HN2.out.up (w' := wC) (by (repeat (first | exact Below.refl _ _ | exact Go.RowKit.Hid.out (by assumption) | refine Up.trans ?_ (Up.drew _) | refine Up.trans ?_ (Up.drewN _ _) | refine Up.trans ?_ (Up.alloc _ _) | refine Up.trans ?_ (Go.RowKit.Hid.out (by assumption)))))).facts
  rw [hwC] at a0 a1 b0 b1
  go_wp2_with fail
  rw [← hwC]
  clear hwC a0 a1 b0 b1 la lb
  refine Calls.mono (HO1.out _ (by (repeat (first | exact Below.refl _ _ | exact Go.RowKit.Hid.out (by assumption) | refine Up.trans ?_ (Up.drew _) | refine Up.trans ?_ (Up.drewN _ _) | refine Up.trans ?_ (Up.alloc _ _) | refine Up.trans ?_ (Go.RowKit.Hid.out (by assumption)))))) ?_
  rintro e w2 ⟨rfl, hu⟩
  have HU2 := Lib.hid hu
  clear hu
  obtain ⟨wC, hwC⟩ : ∃ wC, wC = w2.alloc (.cells #[.int .i64 A1, .int .i64 A2] 23) := ⟨_, rfl⟩
  have HP1 := Lib.hid (show CellN wC w2.heap.size A1 A2 by rw [hwC]; exact CellN.new _ _ _)
  have HUC1 := Lib.hid (show Up w2 wC by rw [hwC]; exact Up.alloc _ _)
  obtain ⟨a0, a1, -, -, la⟩ := (HN1.out.up (w' := wC) (by (repeat (first | exact Below.refl _ _ | exact Go.RowKit.Hid.out (by assumption) | refine Up.trans ?_ (Up.drew _) | refine Up.trans ?_ (Up.drewN _ _) | refine Up.trans ?_ (Up.alloc _ _) | refine Up.trans ?_ (Go.RowKit.Hid.out (by assumption)))))).facts
  obtain ⟨b0, b1, -, -, lb⟩ := (HN2.out.up (w' := wC) (by (repeat (first | exact Below.refl _ _ | exact Go.RowKit.Hid.out (by assumption) | refine Up.trans ?_ (Up.drew _) | refine Up.trans ?_ (Up.drewN _ _) | refine Up.trans ?_ (Up.alloc _ _) | refine Up.trans ?_ (Go.RowKit.Hid.out (by assumption)))))).facts
  rw [hwC] at a0 a1 b0 b1
  go_wp2_with fail
  rw [← hwC]
  clear hwC a0 a1 b0 b1 la lb
  refine Calls.mono (HO2.out _ (by (repeat (first | exact Below.refl _ _ | exact Go.RowKit.Hid.out (by assumption) | refine Up.trans ?_ (Up.drew _) | refine Up.trans ?_ (Up.drewN _ _) | refine Up.trans ?_ (Up.alloc _ _) | refine Up.trans ?_ (Go.RowKit.Hid.out (by assumption)))))) ?_
  rintro e w3 ⟨rfl, hu⟩
  have HU3 := Lib.hid hu
  clear hu
  obtain ⟨wC, hwC⟩ : ∃ wC, wC = w3.alloc (.cells #[.int .i64 S1, .int .i64 S2] 23) := ⟨_, rfl⟩
  have HP2 := Lib.hid (show CellN wC w3.heap.size S1 S2 by rw [hwC]; exact CellN.new _ _ _)
  have HUC2 := Lib.hid (show Up w3 wC by rw [hwC]; exact Up.alloc _ _)
  obtain ⟨a0, a1, -, -, la⟩ := (HN1.out.up (w' := wC) (by (repeat (first | exact Below.refl _ _ | exact Go.RowKit.Hid.out (by assumption) | refine Up.trans ?_ (Up.drew _) | refine Up.trans ?_ (Up.drewN _ _) | refine Up.trans ?_ (Up.alloc _ _) | refine Up.trans ?_ (Go.RowKit.Hid.out (by assumption)))))).facts
  obtain ⟨b0, b1, -, -, lb⟩ := (HN2.out.up (w' := wC) (by (repeat (first | exact Below.refl _ _ | exact Go.RowKit.Hid.out (by assumption) | refine Up.trans ?_ (Up.drew _) | refine Up.trans ?_ (Up.drewN _ _) | refine Up.trans ?_ (Up.alloc _ _) | refine Up.trans ?_ (Go.RowKit.Hid.out (by assumption)))))).facts
  rw [hwC] at a0 a1 b0 b1
  go_wp2_with fail
  rw [← hwC]
  clear hwC a0 a1 b0 b1 la lb
  refine Calls.mono (HO3.out _ (by (repeat (first | exact Below.refl _ _ | exact Go.RowKit.Hid.out (by assumption) | refine Up.trans ?_ (Up.drew _) | refine Up.trans ?_ (Up.drewN _ _) | refine Up.trans ?_ (Up.alloc _ _) | refine Up.trans ?_ (Go.RowKit.Hid.out (by assumption)))))) ?_
  rintro e w4 ⟨rfl, hu⟩
  have HU4 := Lib.hid hu
  clear hu
  obtain ⟨wC, hwC⟩ : ∃ wC, wC = w4.alloc (.cells #[.int .i64 S1, .int .i64 S2] 23) := ⟨_, rfl⟩
  have HP3 := Lib.hid (show CellN wC w4.heap.size S1 S2 by rw [hwC]; exact CellN.new _ _ _)
  have HUC3 := Lib.hid (show Up w4 wC by rw [hwC]; exact Up.alloc _ _)
  obtain ⟨a0, a1, -, -, la⟩ := (HN1.out.up (w' := wC) (by (repeat (first | exact Below.refl _ _ | exact Go.RowKit.Hid.out (by assumption) | refine Up.trans ?_ (Up.drew _) | refine Up.trans ?_ (Up.drewN _ _) | refine Up.trans ?_ (Up.alloc _ _) | refine Up.trans ?_ (Go.RowKit.Hid.out (by assumption)))))).facts
  obtain ⟨b0, b1, -, -, lb⟩ := (HN2.out.up (w' := wC) (by (repeat (first | exact Below.refl _ _ | exact Go.RowKit.Hid.out (by assumption) | refine Up.trans ?_ (Up.drew _) | refine Up.trans ?_ (Up.drewN _ _) | refine Up.trans ?_ (Up.alloc _ _) | refine Up.trans ?_ (Go.RowKit.Hid.out (by assumption)))))).facts
  rw [hwC] at a0 a1 b0 b1
  go_wp2_with fail
  rw [← hwC]
  clear hwC a0 a1 b0 b1 la lb
  refine Calls.mono (HO4.out _ (by (repeat (first | exact Below.refl _ _ | exact Go.RowKit.Hid.out (by assumption) | refine Up.trans ?_ (Up.drew _) | refine Up.trans ?_ (Up.drewN _ _) | refine Up.trans ?_ (Up.alloc _ _) | refine Up.trans ?_ (Go.RowKit.Hid.out (by assumption)))))) ?_
  rintro e w5 ⟨rfl, hu⟩
  have HU5 := Lib.hid hu
  clear hu
  obtain ⟨wC, hwC⟩ : ∃ wC, wC = w5.alloc (.cells #[.int .i64 M1, .int .i64 M2] 23) := ⟨_, rfl⟩
  have HP4 := Lib.hid (show CellN wC w5.heap.size M1 M2 by rw [hwC]; exact CellN.new _ _ _)
  have HUC4 := Lib.hid (show Up w5 wC by rw [hwC]; exact Up.alloc _ _)
  obtain ⟨a0, a1, -, -, la⟩ := (HN1.out.up (w' := wC) (by (repeat (first | exact Below.refl _ _ | exact Go.RowKit.Hid.out (by assumption) | refine Up.trans ?_ (Up.drew _) | refine Up.trans ?_ (Up.drewN _ _) | refine Up.trans ?_ (Up.alloc _ _) | refine Up.trans ?_ (Go.RowKit.Hid.out (by assumption)))))).facts
  obtain ⟨b0, b1, -, -, lb⟩ := (HN2.out.up (w' := wC) (by (repeat (first | exact Below.refl _ _ | exact Go.RowKit.Hid.out (by assumption) | refine Up.trans ?_ (Up.drew _) | refine Up.trans ?_ (Up.drewN _ _) | refine Up.trans ?_ (Up.alloc _ _) | refine Up.trans ?_ (Go.RowKit.Hid.out (by assumption)))))).facts
  rw [hwC] at a0 a1 b0 b1
  go_wp2_with fail
  rw [← hwC]
  clear hwC a0 a1 b0 b1 la lb
  refine Calls.mono (HO5.out _ (by (repeat (first | exact Below.refl _ _ | exact Go.RowKit.Hid.out (by assumption) | refine Up.trans ?_ (Up.drew _) | refine Up.trans ?_ (Up.drewN _ _) | refine Up.trans ?_ (Up.alloc _ _) | refine Up.trans ?_ (Go.RowKit.Hid.out (by assumption)))))) ?_
  rintro e w6 ⟨rfl, hu⟩
  have HU6 := Lib.hid hu
  clear hu
  obtain ⟨wC, hwC⟩ : ∃ wC, wC = w6.alloc (.cells #[.int .i64 M1, .int .i64 M2] 23) := ⟨_, rfl⟩
  have HP5 := Lib.hid (show CellN wC w6.heap.size M1 M2 by rw [hwC]; exact CellN.new _ _ _)
  have HUC5 := Lib.hid (show Up w6 wC by rw [hwC]; exact Up.alloc _ _)
  obtain ⟨a0, a1, -, -, la⟩ := (HN1.out.up (w' := wC) (by (repeat (first | exact Below.refl _ _ | exact Go.RowKit.Hid.out (by assumption) | refine Up.trans ?_ (Up.drew _) | refine Up.trans ?_ (Up.drewN _ _) | refine Up.trans ?_ (Up.alloc _ _) | refine Up.trans ?_ (Go.RowKit.Hid.out (by assumption)))))).facts
  obtain ⟨b0, b1, -, -, lb⟩ := (HN2.out.up (w' := wC) (by (repeat (first | exact Below.refl _ _ | exact Go.RowKit.Hid.out (by assumption) | refine Up.trans ?_ (Up.drew _) | refine Up.trans ?_ (Up.drewN _ _) | refine Up.trans ?_ (Up.alloc _ _) | refine Up.trans ?_ (Go.RowKit.Hid.out (by assumption)))))).facts
  rw [hwC] at a0 a1 b0 b1
  go_wp2_with fail
  rw [← hwC]
  clear hwC a0 a1 b0 b1 la lb
  refine Calls.mono (HO6.out _ (by (repeat (first | exact Below.refl _ _ | exact Go.RowKit.Hid.out (by assumption) | refine Up.trans ?_ (Up.drew _) | refine Up.trans ?_ (Up.drewN _ _) | refine Up.trans ?_ (Up.alloc _ _) | refine Up.trans ?_ (Go.RowKit.Hid.out (by assumption)))))) ?_
  rintro e w7 ⟨rfl, hu⟩
  have HU7 := Lib.hid hu
  clear hu
  obtain ⟨wC, hwC⟩ : ∃ wC, wC = w7.alloc (.cells #[.int .i64 D1, .int .i64 D2] 23) := ⟨_, rfl⟩
  have HP6 := Lib.hid (show CellN wC w7.heap.size D1 D2 by rw [hwC]; exact CellN.new _ _ _)
  have HUC6 := Lib.hid (show Up w7 wC by rw [hwC]; exact Up.alloc _ _)
  obtain ⟨a0, a1, -, -, la⟩ := (HN1.out.up (w' := wC) (by (repeat (first | exact Below.refl _ _ | exact Go.RowKit.Hid.out (by assumption) | refine Up.trans ?_ (Up.drew _) | refine Up.trans ?_ (Up.drewN _ _) | refine Up.trans ?_ (Up.alloc _ _) | refine Up.trans ?_ (Go.RowKit.Hid.out (by assumption)))))).facts
  obtain ⟨b0, b1, -, -, lb⟩ := (HN2.out.up (w' := wC) (by (repeat (first | exact Below.refl _ _ | exact Go.RowKit.Hid.out (by assumption) | refine Up.trans ?_ (Up.drew _) | refine Up.trans ?_ (Up.drewN _ _) | refine Up.trans ?_ (Up.alloc _ _) | refine Up.trans ?_ (Go.RowKit.Hid.out (by assumption)))))).facts
  rw [hwC] at a0 a1 b0 b1
  go_wp2_with fail
  rw [← hwC]
  clear hwC a0 a1 b0 b1 la lb
  refine Calls.mono (HO7.out _ (by (repeat (first | exact Below.refl _ _ | exact Go.RowKit.Hid.out (by assumption) | refine Up.trans ?_ (Up.drew _) | refine Up.trans ?_ (Up.drewN _ _) | refine Up.trans ?_ (Up.alloc _ _) | refine Up.trans ?_ (Go.RowKit.Hid.out (by assumption)))))) ?_
  rintro e w8 ⟨rfl, hu⟩
  have HU8 := Lib.hid hu
  clear hu
  obtain ⟨wC, hwC⟩ : ∃ wC, wC = w8.alloc (.cells #[.int .i64 D1, .int .i64 D2] 23) := ⟨_, rfl⟩
  have HP7 := Lib.hid (show CellN wC w8.heap.size D1 D2 by rw [hwC]; exact CellN.new _ _ _)
  have HUC7 := Lib.hid (show Up w8 wC by rw [hwC]; exact Up.alloc _ _)
  obtain ⟨a0, a1, -, -, la⟩ := (HN1.out.up (w' := wC) (by (repeat (first | exact Below.refl _ _ | exact Go.RowKit.Hid.out (by assumption) | refine Up.trans ?_ (Up.drew _) | refine Up.trans ?_ (Up.drewN _ _) | refine Up.trans ?_ (Up.alloc _ _) | refine Up.trans ?_ (Go.RowKit.Hid.out (by assumption)))))).facts
  obtain ⟨b0, b1, -, -, lb⟩ := (HN2.out.up (w' := wC) (by (repeat (first | exact Below.refl _ _ | exact Go.RowKit.Hid.out (by assumption) | refine Up.trans ?_ (Up.drew _) | refine Up.trans ?_ (Up.drewN _ _) | refine Up.trans ?_ (Up.alloc _ _) | refine Up.trans ?_ (Go.RowKit.Hid.out (by assumption)))))).facts
  rw [hwC] at a0 a1 b0 b1
  go_wp2_with fail
  rw [← hwC]
  clear hwC a0 a1 b0 b1 la lb
  refine Calls.mono (HO8.out _ (by (repeat (first | exact Below.refl _ _ | exact Go.RowKit.Hid.out (by assumption) | refine Up.trans ?_ (Up.drew _) | refine Up.trans ?_ (Up.drewN _ _) | refine Up.trans ?_ (Up.alloc _ _) | refine Up.trans ?_ (Go.RowKit.Hid.out (by assumption)))))) ?_
  rintro e w9 ⟨rfl, hu⟩
  have HU9 := Lib.hid hu
  clear hu
  obtain ⟨a0, a1, -, -, la⟩ := (HN1.out.up (w' := w9) (by (repeat (first | exact Below.refl _ _ | exact Go.RowKit.Hid.out (by assumption) | refine Up.trans ?_ (Up.drew _) | refine Up.trans ?_ (Up.drewN _ _) | refine Up.trans ?_ (Up.alloc _ _) | refine Up.trans ?_ (Go.RowKit.Hid.out (by assumption)))))).facts
  obtain ⟨b0, b1, -, -, lb⟩ := (HN2.out.up (w' := w9) (by (repeat (first | exact Below.refl _ _ | exact Go.RowKit.Hid.out (by assumption) | refine Up.trans ?_ (Up.drew _) | refine Up.trans ?_ (Up.drewN _ _) | refine Up.trans ?_ (Up.alloc _ _) | refine Up.trans ?_ (Go.RowKit.Hid.out (by assumption)))))).facts
  go_wp2_with fail
  clear a0 a1 b0 b1 la lb
  refine Calls.mono (HO9.out _ (by (repeat (first | exact Below.refl _ _ | exact Go.RowKit.Hid.out (by assumption) | refine Up.trans ?_ (Up.drew _) | refine Up.trans ?_ (Up.drewN _ _) | refine Up.trans ?_ (Up.alloc _ _) | refine Up.trans ?_ (Go.RowKit.Hid.out (by assumption)))))) ?_
  rintro e w10 ⟨rfl, hu⟩
  have HU10 := Lib.hid hu
  clear hu
  obtain ⟨a0, a1, -, -, la⟩ := (HN1.out.up (w' := w10) (by (repeat (first | exact Below.refl _ _ | exact Go.RowKit.Hid.out (by assumption) | refine Up.trans ?_ (Up.drew _) | refine Up.trans ?_ (Up.drewN _ _) | refine Up.trans ?_ (Up.alloc _ _) | refine Up.trans ?_ (Go.RowKit.Hid.out (by assumption)))))).facts
  obtain ⟨b0, b1, -, -, lb⟩ := (HP0.out.up (w' := w10) (by (repeat (first | exact Below.refl _ _ | exact Go.RowKit.Hid.out (by assumption) | refine Up.trans ?_ (Up.drew _) | refine Up.trans ?_ (Up.drewN _ _) | refine Up.trans ?_ (Up.alloc _ _) | refine Up.trans ?_ (Go.RowKit.Hid.out (by assumption)))))).facts
  obtain ⟨c0, c1, -, -, lc⟩ := (HP1.out.up (w' := w10) (by (repeat (first | exact Below.refl _ _ | exact Go.RowKit.Hid.out (by assumption) | refine Up.trans ?_ (Up.drew _) | refine Up.trans ?_ (Up.drewN _ _) | refine Up.trans ?_ (Up.alloc _ _) | refine Up.trans ?_ (Go.RowKit.Hid.out (by assumption)))))).facts
  obtain ⟨d0, d1, -, -, ld⟩ := (HP2.out.up (w' := w10) (by (repeat (first | exact Below.refl _ _ | exact Go.RowKit.Hid.out (by assumption) | refine Up.trans ?_ (Up.drew _) | refine Up.trans ?_ (Up.drewN _ _) | refine Up.trans ?_ (Up.alloc _ _) | refine Up.trans ?_ (Go.RowKit.Hid.out (by assumption)))))).facts
  obtain ⟨e0, e1, -, -, le⟩ := (HP3.out.up (w' := w10) (by (repeat (first | exact Below.refl _ _ | exact Go.RowKit.Hid.out (by assumption) | refine Up.trans ?_ (Up.drew _) | refine Up.trans ?_ (Up.drewN _ _) | refine Up.trans ?_ (Up.alloc _ _) | refine Up.trans ?_ (Go.RowKit.Hid.out (by assumption)))))).facts
  obtain ⟨f0, f1, -, -, lf⟩ := (HP4.out.up (w' := w10) (by (repeat (first | exact Below.refl _ _ | exact Go.RowKit.Hid.out (by assumption) | refine Up.trans ?_ (Up.drew _) | refine Up.trans ?_ (Up.drewN _ _) | refine Up.trans ?_ (Up.alloc _ _) | refine Up.trans ?_ (Go.RowKit.Hid.out (by assumption)))))).facts
  obtain ⟨g0, g1, -, -, lg⟩ := (HP5.out.up (w' := w10) (by (repeat (first | exact Below.refl _ _ | exact Go.RowKit.Hid.out (by assumption) | refine Up.trans ?_ (Up.drew _) | refine Up.trans ?_ (Up.drewN _ _) | refine Up.trans ?_ (Up.alloc _ _) | refine Up.trans ?_ (Go.RowKit.Hid.out (by assumption)))))).facts
  obtain ⟨h0, h1, -, -, lh⟩ := (HP6.out.up (w' := w10) (by (repeat (first | exact Below.refl _ _ | exact Go.RowKit.Hid.out (by assumption) | refine Up.trans ?_ (Up.drew _) | refine Up.trans ?_ (Up.drewN _ _) | refine Up.trans ?_ (Up.alloc _ _) | refine Up.trans ?_ (Go.RowKit.Hid.out (by assumption)))))).facts
  obtain ⟨i0, i1, -, -, li⟩ := (HP7.out.up (w' := w10) (by (repeat (first | exact Below.refl _ _ | exact Go.RowKit.Hid.out (by assumption) | refine Up.trans ?_ (Up.drew _) | refine Up.trans ?_ (Up.drewN _ _) | refine Up.trans ?_ (Up.alloc _ _) | refine Up.trans ?_ (Go.RowKit.Hid.out (by assumption)))))).facts
  go_upto_region 11 with fail
  go_region_held3 (fun w' => w'.cell? ⟨w.heap.size, 0, none⟩ = some (.int .i64 x1) ∧ w'.cell? ⟨w.heap.size, 1, none⟩ = some (.int .i64 y1) ∧ w'.cell? ⟨w1.heap.size, 0, none⟩ = some (.int .i64 A1) ∧ w'.cell? ⟨w1.heap.size, 1, none⟩ = some (.int .i64 A2) ∧ w'.cell? ⟨w2.heap.size, 0, none⟩ = some (.int .i64 A1) ∧ w'.cell? ⟨w2.heap.size, 1, none⟩ = some (.int .i64 A2) ∧ w'.cell? ⟨w3.heap.size, 0, none⟩ = some (.int .i64 S1) ∧ w'.cell? ⟨w3.heap.size, 1, none⟩ = some (.int .i64 S2) ∧ w'.cell? ⟨w4.heap.size, 0, none⟩ = some (.int .i64 S1) ∧ w'.cell? ⟨w4.heap.size, 1, none⟩ = some (.int .i64 S2) ∧ w'.cell? ⟨w5.heap.size, 0, none⟩ = some (.int .i64 M1) ∧ w'.cell? ⟨w5.heap.size, 1, none⟩ = some (.int .i64 M2) ∧ w'.cell? ⟨w6.heap.size, 0, none⟩ = some (.int .i64 M1) ∧ w'.cell? ⟨w6.heap.size, 1, none⟩ = some (.int .i64 M2) ∧ w'.cell? ⟨w7.heap.size, 0, none⟩ = some (.int .i64 D1) ∧ w'.cell? ⟨w7.heap.size, 1, none⟩ = some (.int .i64 D2) ∧ w'.cell? ⟨w8.heap.size, 0, none⟩ = some (.int .i64 D1) ∧ w'.cell? ⟨w8.heap.size, 1, none⟩ = some (.int .i64 D2)) (go_keep)
    ((first
      | (go_at_call 17
         refine Calls.mono (HW.out _ (by (repeat (first | exact Below.refl _ _ | exact Go.RowKit.Hid.out (by assumption) | refine Up.trans ?_ (Up.drew _) | refine Up.trans ?_ (Up.drewN _ _) | refine Up.trans ?_ (Up.alloc _ _) | refine Up.trans ?_ (Go.RowKit.Hid.out (by assumption)))))) ?_
         rintro e w13 ⟨rfl, hu⟩
         have HU13 := Lib.hid hu
         clear hu
         obtain ⟨a0, a1, -, -, la⟩ := (HN1.out.up (w' := w13) (by (repeat (first | exact Below.refl _ _ | exact Go.RowKit.Hid.out (by assumption) | refine Up.trans ?_ (Up.drew _) | refine Up.trans ?_ (Up.drewN _ _) | refine Up.trans ?_ (Up.alloc _ _) | refine Up.trans ?_ (Go.RowKit.Hid.out (by assumption)))))).facts
         obtain ⟨b0, b1, -, -, lb⟩ := (HP0.out.up (w' := w13) (by (repeat (first | exact Below.refl _ _ | exact Go.RowKit.Hid.out (by assumption) | refine Up.trans ?_ (Up.drew _) | refine Up.trans ?_ (Up.drewN _ _) | refine Up.trans ?_ (Up.alloc _ _) | refine Up.trans ?_ (Go.RowKit.Hid.out (by assumption)))))).facts
         obtain ⟨c0, c1, -, -, lc⟩ := (HP1.out.up (w' := w13) (by (repeat (first | exact Below.refl _ _ | exact Go.RowKit.Hid.out (by assumption) | refine Up.trans ?_ (Up.drew _) | refine Up.trans ?_ (Up.drewN _ _) | refine Up.trans ?_ (Up.alloc _ _) | refine Up.trans ?_ (Go.RowKit.Hid.out (by assumption)))))).facts
         obtain ⟨d0, d1, -, -, ld⟩ := (HP2.out.up (w' := w13) (by (repeat (first | exact Below.refl _ _ | exact Go.RowKit.Hid.out (by assumption) | refine Up.trans ?_ (Up.drew _) | refine Up.trans ?_ (Up.drewN _ _) | refine Up.trans ?_ (Up.alloc _ _) | refine Up.trans ?_ (Go.RowKit.Hid.out (by assumption)))))).facts
         obtain ⟨e0, e1, -, -, le⟩ := (HP3.out.up (w' := w13) (by (repeat (first | exact Below.refl _ _ | exact Go.RowKit.Hid.out (by assumption) | refine Up.trans ?_ (Up.drew _) | refine Up.trans ?_ (Up.drewN _ _) | refine Up.trans ?_ (Up.alloc _ _) | refine Up.trans ?_ (Go.RowKit.Hid.out (by assumption)))))).facts
         obtain ⟨f0, f1, -, -, lf⟩ := (HP4.out.up (w' := w13) (by (repeat (first | exact Below.refl _ _ | exact Go.RowKit.Hid.out (by assumption) | refine Up.trans ?_ (Up.drew _) | refine Up.trans ?_ (Up.drewN _ _) | refine Up.trans ?_ (Up.alloc _ _) | refine Up.trans ?_ (Go.RowKit.Hid.out (by assumption)))))).facts
         obtain ⟨g0, g1, -, -, lg⟩ := (HP5.out.up (w' := w13) (by (repeat (first | exact Below.refl _ _ | exact Go.RowKit.Hid.out (by assumption) | refine Up.trans ?_ (Up.drew _) | refine Up.trans ?_ (Up.drewN _ _) | refine Up.trans ?_ (Up.alloc _ _) | refine Up.trans ?_ (Go.RowKit.Hid.out (by assumption)))))).facts
         obtain ⟨h0, h1, -, -, lh⟩ := (HP6.out.up (w' := w13) (by (repeat (first | exact Below.refl _ _ | exact Go.RowKit.Hid.out (by assumption) | refine Up.trans ?_ (Up.drew _) | refine Up.trans ?_ (Up.drewN _ _) | refine Up.trans ?_ (Up.alloc _ _) | refine Up.trans ?_ (Go.RowKit.Hid.out (by assumption)))))).facts
         obtain ⟨i0, i1, -, -, li⟩ := (HP7.out.up (w' := w13) (by (repeat (first | exact Below.refl _ _ | exact Go.RowKit.Hid.out (by assumption) | refine Up.trans ?_ (Up.drew _) | refine Up.trans ?_ (Up.drewN _ _) | refine Up.trans ?_ (Up.alloc _ _) | refine Up.trans ?_ (Go.RowKit.Hid.out (by assumption)))))).facts)
      | (go_at_call 16
         refine Calls.mono (HV2.out _ (by (repeat (first | exact Below.refl _ _ | exact Go.RowKit.Hid.out (by assumption) | refine Up.trans ?_ (Up.drew _) | refine Up.trans ?_ (Up.drewN _ _) | refine Up.trans ?_ (Up.alloc _ _) | refine Up.trans ?_ (Go.RowKit.Hid.out (by assumption)))))) ?_
         rintro e w12 ⟨rfl, hu⟩
         have HU12 := Lib.hid hu
         clear hu
         obtain ⟨a0, a1, -, -, la⟩ := (HN1.out.up (w' := w12) (by (repeat (first | exact Below.refl _ _ | exact Go.RowKit.Hid.out (by assumption) | refine Up.trans ?_ (Up.drew _) | refine Up.trans ?_ (Up.drewN _ _) | refine Up.trans ?_ (Up.alloc _ _) | refine Up.trans ?_ (Go.RowKit.Hid.out (by assumption)))))).facts
         obtain ⟨b0, b1, -, -, lb⟩ := (HP0.out.up (w' := w12) (by (repeat (first | exact Below.refl _ _ | exact Go.RowKit.Hid.out (by assumption) | refine Up.trans ?_ (Up.drew _) | refine Up.trans ?_ (Up.drewN _ _) | refine Up.trans ?_ (Up.alloc _ _) | refine Up.trans ?_ (Go.RowKit.Hid.out (by assumption)))))).facts
         obtain ⟨c0, c1, -, -, lc⟩ := (HP1.out.up (w' := w12) (by (repeat (first | exact Below.refl _ _ | exact Go.RowKit.Hid.out (by assumption) | refine Up.trans ?_ (Up.drew _) | refine Up.trans ?_ (Up.drewN _ _) | refine Up.trans ?_ (Up.alloc _ _) | refine Up.trans ?_ (Go.RowKit.Hid.out (by assumption)))))).facts
         obtain ⟨d0, d1, -, -, ld⟩ := (HP2.out.up (w' := w12) (by (repeat (first | exact Below.refl _ _ | exact Go.RowKit.Hid.out (by assumption) | refine Up.trans ?_ (Up.drew _) | refine Up.trans ?_ (Up.drewN _ _) | refine Up.trans ?_ (Up.alloc _ _) | refine Up.trans ?_ (Go.RowKit.Hid.out (by assumption)))))).facts
         obtain ⟨e0, e1, -, -, le⟩ := (HP3.out.up (w' := w12) (by (repeat (first | exact Below.refl _ _ | exact Go.RowKit.Hid.out (by assumption) | refine Up.trans ?_ (Up.drew _) | refine Up.trans ?_ (Up.drewN _ _) | refine Up.trans ?_ (Up.alloc _ _) | refine Up.trans ?_ (Go.RowKit.Hid.out (by assumption)))))).facts
         obtain ⟨f0, f1, -, -, lf⟩ := (HP4.out.up (w' := w12) (by (repeat (first | exact Below.refl _ _ | exact Go.RowKit.Hid.out (by assumption) | refine Up.trans ?_ (Up.drew _) | refine Up.trans ?_ (Up.drewN _ _) | refine Up.trans ?_ (Up.alloc _ _) | refine Up.trans ?_ (Go.RowKit.Hid.out (by assumption)))))).facts
         obtain ⟨g0, g1, -, -, lg⟩ := (HP5.out.up (w' := w12) (by (repeat (first | exact Below.refl _ _ | exact Go.RowKit.Hid.out (by assumption) | refine Up.trans ?_ (Up.drew _) | refine Up.trans ?_ (Up.drewN _ _) | refine Up.trans ?_ (Up.alloc _ _) | refine Up.trans ?_ (Go.RowKit.Hid.out (by assumption)))))).facts
         obtain ⟨h0, h1, -, -, lh⟩ := (HP6.out.up (w' := w12) (by (repeat (first | exact Below.refl _ _ | exact Go.RowKit.Hid.out (by assumption) | refine Up.trans ?_ (Up.drew _) | refine Up.trans ?_ (Up.drewN _ _) | refine Up.trans ?_ (Up.alloc _ _) | refine Up.trans ?_ (Go.RowKit.Hid.out (by assumption)))))).facts
         obtain ⟨i0, i1, -, -, li⟩ := (HP7.out.up (w' := w12) (by (repeat (first | exact Below.refl _ _ | exact Go.RowKit.Hid.out (by assumption) | refine Up.trans ?_ (Up.drew _) | refine Up.trans ?_ (Up.drewN _ _) | refine Up.trans ?_ (Up.alloc _ _) | refine Up.trans ?_ (Go.RowKit.Hid.out (by assumption)))))).facts)
      | (go_at_call 15
         refine Calls.mono (HV1.out _ (by (repeat (first | exact Below.refl _ _ | exact Go.RowKit.Hid.out (by assumption) | refine Up.trans ?_ (Up.drew _) | refine Up.trans ?_ (Up.drewN _ _) | refine Up.trans ?_ (Up.alloc _ _) | refine Up.trans ?_ (Go.RowKit.Hid.out (by assumption)))))) ?_
         rintro e w11 ⟨rfl, hu⟩
         have HU11 := Lib.hid hu
         clear hu
         obtain ⟨a0, a1, -, -, la⟩ := (HN1.out.up (w' := w11) (by (repeat (first | exact Below.refl _ _ | exact Go.RowKit.Hid.out (by assumption) | refine Up.trans ?_ (Up.drew _) | refine Up.trans ?_ (Up.drewN _ _) | refine Up.trans ?_ (Up.alloc _ _) | refine Up.trans ?_ (Go.RowKit.Hid.out (by assumption)))))).facts
         obtain ⟨b0, b1, -, -, lb⟩ := (HP0.out.up (w' := w11) (by (repeat (first | exact Below.refl _ _ | exact Go.RowKit.Hid.out (by assumption) | refine Up.trans ?_ (Up.drew _) | refine Up.trans ?_ (Up.drewN _ _) | refine Up.trans ?_ (Up.alloc _ _) | refine Up.trans ?_ (Go.RowKit.Hid.out (by assumption)))))).facts
         obtain ⟨c0, c1, -, -, lc⟩ := (HP1.out.up (w' := w11) (by (repeat (first | exact Below.refl _ _ | exact Go.RowKit.Hid.out (by assumption) | refine Up.trans ?_ (Up.drew _) | refine Up.trans ?_ (Up.drewN _ _) | refine Up.trans ?_ (Up.alloc _ _) | refine Up.trans ?_ (Go.RowKit.Hid.out (by assumption)))))).facts
         obtain ⟨d0, d1, -, -, ld⟩ := (HP2.out.up (w' := w11) (by (repeat (first | exact Below.refl _ _ | exact Go.RowKit.Hid.out (by assumption) | refine Up.trans ?_ (Up.drew _) | refine Up.trans ?_ (Up.drewN _ _) | refine Up.trans ?_ (Up.alloc _ _) | refine Up.trans ?_ (Go.RowKit.Hid.out (by assumption)))))).facts
         obtain ⟨e0, e1, -, -, le⟩ := (HP3.out.up (w' := w11) (by (repeat (first | exact Below.refl _ _ | exact Go.RowKit.Hid.out (by assumption) | refine Up.trans ?_ (Up.drew _) | refine Up.trans ?_ (Up.drewN _ _) | refine Up.trans ?_ (Up.alloc _ _) | refine Up.trans ?_ (Go.RowKit.Hid.out (by assumption)))))).facts
         obtain ⟨f0, f1, -, -, lf⟩ := (HP4.out.up (w' := w11) (by (repeat (first | exact Below.refl _ _ | exact Go.RowKit.Hid.out (by assumption) | refine Up.trans ?_ (Up.drew _) | refine Up.trans ?_ (Up.drewN _ _) | refine Up.trans ?_ (Up.alloc _ _) | refine Up.trans ?_ (Go.RowKit.Hid.out (by assumption)))))).facts
         obtain ⟨g0, g1, -, -, lg⟩ := (HP5.out.up (w' := w11) (by (repeat (first | exact Below.refl _ _ | exact Go.RowKit.Hid.out (by assumption) | refine Up.trans ?_ (Up.drew _) | refine Up.trans ?_ (Up.drewN _ _) | refine Up.trans ?_ (Up.alloc _ _) | refine Up.trans ?_ (Go.RowKit.Hid.out (by assumption)))))).facts
         obtain ⟨h0, h1, -, -, lh⟩ := (HP6.out.up (w' := w11) (by (repeat (first | exact Below.refl _ _ | exact Go.RowKit.Hid.out (by assumption) | refine Up.trans ?_ (Up.drew _) | refine Up.trans ?_ (Up.drewN _ _) | refine Up.trans ?_ (Up.alloc _ _) | refine Up.trans ?_ (Go.RowKit.Hid.out (by assumption)))))).facts
         obtain ⟨i0, i1, -, -, li⟩ := (HP7.out.up (w' := w11) (by (repeat (first | exact Below.refl _ _ | exact Go.RowKit.Hid.out (by assumption) | refine Up.trans ?_ (Up.drew _) | refine Up.trans ?_ (Up.drewN _ _) | refine Up.trans ?_ (Up.alloc _ _) | refine Up.trans ?_ (Go.RowKit.Hid.out (by assumption)))))).facts)))
  go_wp2
  go_ret
  exact ⟨rfl, by (repeat (first | exact Below.refl _ _ | exact Go.RowKit.Hid.out (by assumption) | refine Up.trans ?_ (Up.drew _) | refine Up.trans ?_ (Up.drewN _ _) | refine Up.trans ?_ (Up.alloc _ _) | refine Up.trans ?_ (Go.RowKit.Hid.out (by assumption))))⟩

theorem numX_false (q : Rat) : numX false q = 0 ∧ numY false q = 0 ∧ numE false q = 1 := ⟨rfl, rfl, rfl⟩
set_option maxRecDepth 10000 in
theorem numArith_any (x1 y1 x2 y2 : Int) (w : World) (h1 : Rng x1 y1) (h2 : Rng x2 y2) (ht : Tab w) :
    Calls Tryz.prog 3 #[.agg #[.int .i64 x1, .int .i64 y1], .agg #[.int .i64 x2, .int .i64 y2]] w fun e w' => e = .returned (.bool true) ∧ Up w w' := by
  have HW := Lib.hid (fun W (hu : Up w W) => awake_any W (ht.up hu))
  have HV1 := Lib.hid (fun W (hu : Up w W) => valid_any x1 y1 W h1.1 h1.2.1 h1.2.2.1 h1.2.2.2 (ht.up hu))
  have HV2 := Lib.hid (fun W (_ : Up w W) => refValid_any x1 y1 W h1.1 h1.2.1 h1.2.2.1 h1.2.2.2)
  rw [refOk_eq] at HV2
  have HA := Lib.hid (fun W (hu : Up w W) => numAdd_any x1 y1 x2 y2 W h1.1 h1.2.1 h1.2.2.1 h1.2.2.2 h2.1 h2.2.1 h2.2.2.1 h2.2.2.2 (ht.up hu))
  have HS := Lib.hid (fun W (hu : Up w W) => numSub_any x1 y1 x2 y2 W h1.1 h1.2.1 h1.2.2.1 h1.2.2.2 h2.1 h2.2.1 h2.2.2.1 h2.2.2.2 (ht.up hu))
  have HM := Lib.hid (fun W (hu : Up w W) => numMul_any x1 y1 x2 y2 W h1.1 h1.2.1 h1.2.2.1 h1.2.2.2 h2.1 h2.2.1 h2.2.2.1 h2.2.2.2 (ht.up hu))
  have HD := Lib.hid (fun W (hu : Up w W) => numDiv_any x1 y1 x2 y2 W h1.1 h1.2.1 h1.2.2.1 h1.2.2.2 h2.1 h2.2.1 h2.2.2.1 h2.2.2.2 (ht.up hu))
  rcases hk : okNum x1 y1 && okNum x2 y2 with _ | _
  · have hd : divNone x1 y1 x2 y2 = false := by unfold divNone; rw [hk]; rfl
    rw [hk] at HA HS HM HD
    rw [hd] at HD
    exact arith_walk _ x1 y1 x2 y2 _ _ _ _ _ _ _ _ _ _ _ _ _ _ w HA (Lib.hid fun W _ => refAdd_arg x1 y1 x2 y2 W h1 h2 hk) HS (Lib.hid fun W _ => refSub_arg x1 y1 x2 y2 W h1 h2 hk) HM (Lib.hid fun W _ => refMul_arg x1 y1 x2 y2 W h1 h2 hk) HD (Lib.hid fun W _ => refDiv_arg x1 y1 x2 y2 W h1 h2 hk)
      (Lib.hid fun W hu => numCmp_arg x1 y1 x2 y2 W h1 h2 hk (ht.up hu)) (Lib.hid fun W _ => refCmp_arg x1 y1 x2 y2 W h1 h2 hk) HV1 HV2 HW
  · rw [hk] at HA HS HM HD
    have hk' := hk
    rw [Bool.and_eq_true] at hk'
    obtain ⟨hk1, hk2⟩ := hk'
    by_cases h0 : x2 = 0
    · have hd : divNone x1 y1 x2 y2 = true := by unfold divNone; rw [hk, h0]; rfl
      rw [hd] at HD
      exact arith_walk _ x1 y1 x2 y2 _ _ _ _ _ _ _ _ _ _ _ _ _ _ w HA (Lib.hid fun W _ => refAdd_ok x1 y1 x2 y2 W hk1 hk2) HS (Lib.hid fun W _ => refSub_ok x1 y1 x2 y2 W hk1 hk2) HM (Lib.hid fun W _ => refMul_ok x1 y1 x2 y2 W hk1 hk2) HD (Lib.hid fun W _ => refDiv_none x1 y1 x2 y2 W hk1 hk2 h0)
        (Lib.hid fun W hu => numCmp_ok x1 y1 x2 y2 W hk1 hk2 (ht.up hu)) (Lib.hid fun W _ => refCmp_ok x1 y1 x2 y2 W hk1 hk2) HV1 HV2 HW
    · have hd : divNone x1 y1 x2 y2 = false := by unfold divNone; simp [h0]
      rw [hd] at HD
      exact arith_walk _ x1 y1 x2 y2 _ _ _ _ _ _ _ _ _ _ _ _ _ _ w HA (Lib.hid fun W _ => refAdd_ok x1 y1 x2 y2 W hk1 hk2) HS (Lib.hid fun W _ => refSub_ok x1 y1 x2 y2 W hk1 hk2) HM (Lib.hid fun W _ => refMul_ok x1 y1 x2 y2 W hk1 hk2) HD (Lib.hid fun W _ => refDiv_ok x1 y1 x2 y2 W hk1 hk2 h0)
        (Lib.hid fun W hu => numCmp_ok x1 y1 x2 y2 W hk1 hk2 (ht.up hu)) (Lib.hid fun W _ => refCmp_ok x1 y1 x2 y2 W hk1 hk2) HV1 HV2 HW
end Go.Proofs.YtimlainffbpfdaaGreatDoor