/- Walks of a law. -/
import Derived.Test.YtimlainffbpfdaaDoorGI3
import Derived.Test.YtimlainffbpfdaaDoorGR
import Derived.Deep.RegionWith
namespace Go.Proofs.YtimlainffbpfdaaDoor
open Go.RowKit Fm

set_option maxHeartbeats 8000000 in
set_option maxRecDepth 10000 in
theorem least_err (x1 y1 x2 y2 z1 z2 X Y E : Int) (w : World)
    (HB : Hid (∀ W, Up w W → Calls Tryd.prog 15 #[.agg #[.int .i64 x1, .int .i64 y1], .agg #[.int .i64 x2, .int .i64 y2]] W fun e w' => e = .returned (.tuple #[.agg #[.int .i64 X, .int .i64 Y], .int .i64 E]) ∧ Up W w'))
    (HW : Hid (∀ W, Up w W → Calls Tryd.prog 14 #[] W fun e w' => e = .returned (.bool true) ∧ Up W w'))
    (hE : (E == 0) = false) : Calls Tryd.prog 5 #[.agg #[.int .i64 x1, .int .i64 y1], .agg #[.int .i64 x2, .int .i64 y2], .agg #[.int .i64 z1, .int .i64 z2]] w fun e w' => e = .returned (.bool true) ∧ Up w w' := by
  have hE' : ¬ E = 0 := by simpa using hE
  go_enter Tryd.func5, Tryd.ntmps5
  go_wp2_with fail
  obtain ⟨wB, hwB⟩ : ∃ wB, wB = ((w.alloc (.cells #[.int .i64 x1, .int .i64 y1] 23)).alloc (.cells #[.int .i64 x2, .int .i64 y2] 23)).alloc (.cells #[.int .i64 z1, .int .i64 z2] 23) := ⟨_, rfl⟩
  have HNA := Lib.hid (show CellN wB w.heap.size x1 y1 by rw [hwB]; exact ((CellN.new w x1 y1).up (Up.alloc _ _)).up (Up.alloc _ _))
  have HNB := Lib.hid (show CellN wB (w.heap.size + 1) x2 y2 by rw [hwB]; have := (CellN.new (w.alloc (.cells #[.int .i64 x1, .int .i64 y1] 23)) x2 y2).up (Up.alloc _ (.cells #[.int .i64 z1, .int .i64 z2] 23)); simpa using this)
  have HNC := Lib.hid (show CellN wB (w.heap.size + 1 + 1) z1 z2 by rw [hwB]; have := CellN.new ((w.alloc (.cells #[.int .i64 x1, .int .i64 y1] 23)).alloc (.cells #[.int .i64 x2, .int .i64 y2] 23)) z1 z2; simpa using this)
  have HU := Lib.hid (show Up w wB by rw [hwB]; exact Up.three w _ _ _)
  rw [← hwB]
  clear hwB
  refine Calls.mono (HB.out _ (by (repeat (first | exact Below.refl _ _ | exact Go.RowKit.Hid.out (by assumption) | refine Up.trans ?_ (Up.drew _) | refine Up.trans ?_ (Up.drewN _ _) | refine Up.trans ?_ (Up.alloc _ _) | refine Up.trans ?_ (Go.RowKit.Hid.out (by assumption)))))) ?_
  rintro e w1 ⟨rfl, hu1⟩
  have HU1 := Lib.hid hu1
  clear hu1
  go_wp2_with fail
  refine Calls.mono (HW.out _ (by (repeat (first | exact Below.refl _ _ | exact Go.RowKit.Hid.out (by assumption) | refine Up.trans ?_ (Up.drew _) | refine Up.trans ?_ (Up.drewN _ _) | refine Up.trans ?_ (Up.alloc _ _) | refine Up.trans ?_ (Go.RowKit.Hid.out (by assumption)))))) ?_
  rintro e w9 ⟨rfl, hu9⟩
  have HU9 := Lib.hid hu9
  clear hu9
  go_wp2
  go_ret
  exact ⟨rfl, by (repeat (first | exact Below.refl _ _ | exact Go.RowKit.Hid.out (by assumption) | refine Up.trans ?_ (Up.drew _) | refine Up.trans ?_ (Up.drewN _ _) | refine Up.trans ?_ (Up.alloc _ _) | refine Up.trans ?_ (Go.RowKit.Hid.out (by assumption))))⟩

set_option maxHeartbeats 8000000 in
set_option maxRecDepth 10000 in
theorem least_inv (s1 s2 : Int) (x1 y1 x2 y2 z1 z2 X Y : Int) (w : World)
    (HB : Hid (∀ W, Up w W → Calls Tryd.prog 15 #[.agg #[.int .i64 x1, .int .i64 y1], .agg #[.int .i64 x2, .int .i64 y2]] W fun e w' => e = .returned (.tuple #[.agg #[.int .i64 X, .int .i64 Y], .int .i64 0]) ∧ Up W w'))
    (HW : Hid (∀ W, Up w W → Calls Tryd.prog 14 #[] W fun e w' => e = .returned (.bool true) ∧ Up W w'))
    (HTa : Hid (∀ W, Calls Tryd.prog 18 #[.agg #[.int .i64 x1, .int .i64 y1]] W fun e w' => ∃ v, e = .returned v ∧ RQ w' v (ratOf x1 y1) ∧ Up W w'))
    (HTb : Hid (∀ W, Calls Tryd.prog 18 #[.agg #[.int .i64 x2, .int .i64 y2]] W fun e w' => ∃ v, e = .returned v ∧ RQ w' v (ratOf x2 y2) ∧ Up W w'))
    (HTp : Hid (∀ W, Calls Tryd.prog 18 #[.agg #[.int .i64 X, .int .i64 Y]] W fun e w' => ∃ v, e = .returned v ∧ RQ w' v (ratOf X Y) ∧ Up W w'))
    (HVp : Hid (∀ W, Calls Tryd.prog 17 #[.agg #[.int .i64 X, .int .i64 Y]] W fun e w' => e = .returned (.bool true) ∧ Up W w'))
    (HCp1 : Hid (∀ W u1 u2, RQ W u1 (ratOf x1 y1) → RQ W u2 (ratOf X Y) → Calls Tryd.prog 19 #[u1, u2] W fun e w' => e = .returned (.int .i64 s1) ∧ Up W w'))
    (HCp2 : Hid (∀ W u1 u2, RQ W u1 (ratOf X Y) → RQ W u2 (ratOf x2 y2) → Calls Tryd.prog 19 #[u1, u2] W fun e w' => e = .returned (.int .i64 s2) ∧ Up W w'))
    (hs1 : ¬ 0 < s1) (hs2 : ¬ 0 < s2) (HVc : Hid (∀ W, Calls Tryd.prog 17 #[.agg #[.int .i64 z1, .int .i64 z2]] W fun e w' => e = .returned (.bool false) ∧ Up W w')) : Calls Tryd.prog 5 #[.agg #[.int .i64 x1, .int .i64 y1], .agg #[.int .i64 x2, .int .i64 y2], .agg #[.int .i64 z1, .int .i64 z2]] w fun e w' => e = .returned (.bool true) ∧ Up w w' := by
  have hd1 : decide (0 < s1) = false := decide_eq_false hs1
  have hd2 : decide (0 < s2) = false := decide_eq_false hs2
  go_enter Tryd.func5, Tryd.ntmps5
  go_wp2_with fail
  obtain ⟨wB, hwB⟩ : ∃ wB, wB = ((w.alloc (.cells #[.int .i64 x1, .int .i64 y1] 23)).alloc (.cells #[.int .i64 x2, .int .i64 y2] 23)).alloc (.cells #[.int .i64 z1, .int .i64 z2] 23) := ⟨_, rfl⟩
  have HNA := Lib.hid (show CellN wB w.heap.size x1 y1 by rw [hwB]; exact ((CellN.new w x1 y1).up (Up.alloc _ _)).up (Up.alloc _ _))
  have HNB := Lib.hid (show CellN wB (w.heap.size + 1) x2 y2 by rw [hwB]; have := (CellN.new (w.alloc (.cells #[.int .i64 x1, .int .i64 y1] 23)) x2 y2).up (Up.alloc _ (.cells #[.int .i64 z1, .int .i64 z2] 23)); simpa using this)
  have HNC := Lib.hid (show CellN wB (w.heap.size + 1 + 1) z1 z2 by rw [hwB]; have := CellN.new ((w.alloc (.cells #[.int .i64 x1, .int .i64 y1] 23)).alloc (.cells #[.int .i64 x2, .int .i64 y2] 23)) z1 z2; simpa using this)
  have HU := Lib.hid (show Up w wB by rw [hwB]; exact Up.three w _ _ _)
  rw [← hwB]
  clear hwB
  refine Calls.mono (HB.out _ (by (repeat (first | exact Below.refl _ _ | exact Go.RowKit.Hid.out (by assumption) | refine Up.trans ?_ (Up.drew _) | refine Up.trans ?_ (Up.drewN _ _) | refine Up.trans ?_ (Up.alloc _ _) | refine Up.trans ?_ (Go.RowKit.Hid.out (by assumption)))))) ?_
  rintro e w1 ⟨rfl, hu1⟩
  have HU1 := Lib.hid hu1
  clear hu1
  go_upto_region 4 with fail
  obtain ⟨wC, hwC⟩ : ∃ wC, wC = w1.alloc (.cells #[.int .i64 X, .int .i64 Y] 23) := ⟨_, rfl⟩
  have HNP := Lib.hid (show CellN wC w1.heap.size X Y by rw [hwC]; exact CellN.new _ _ _)
  have HUC := Lib.hid (show Up w1 wC by rw [hwC]; exact Up.alloc _ _)
  rw [← hwC]
  clear hwC
  obtain ⟨a0, a1, -, -, la⟩ := (HNA.out.up (w' := wC) (by (repeat (first | exact Below.refl _ _ | exact Go.RowKit.Hid.out (by assumption) | refine Up.trans ?_ (Up.drew _) | refine Up.trans ?_ (Up.drewN _ _) | refine Up.trans ?_ (Up.alloc _ _) | refine Up.trans ?_ (Go.RowKit.Hid.out (by assumption)))))).facts
  obtain ⟨b0, b1, -, -, lb⟩ := (HNB.out.up (w' := wC) (by (repeat (first | exact Below.refl _ _ | exact Go.RowKit.Hid.out (by assumption) | refine Up.trans ?_ (Up.drew _) | refine Up.trans ?_ (Up.drewN _ _) | refine Up.trans ?_ (Up.alloc _ _) | refine Up.trans ?_ (Go.RowKit.Hid.out (by assumption)))))).facts
  obtain ⟨p0, p1, -, -, lp⟩ := (HNP.out.up (w' := wC) (by (repeat (first | exact Below.refl _ _ | exact Go.RowKit.Hid.out (by assumption) | refine Up.trans ?_ (Up.drew _) | refine Up.trans ?_ (Up.drewN _ _) | refine Up.trans ?_ (Up.alloc _ _) | refine Up.trans ?_ (Go.RowKit.Hid.out (by assumption)))))).facts
  go_region_held3 (fun w' => w'.cell? ⟨w.heap.size, 0, none⟩ = some (.int .i64 x1) ∧ w'.cell? ⟨w.heap.size, 1, none⟩ = some (.int .i64 y1) ∧ w'.cell? ⟨w.heap.size + 1, 0, none⟩ = some (.int .i64 x2) ∧ w'.cell? ⟨w.heap.size + 1, 1, none⟩ = some (.int .i64 y2) ∧ w'.cell? ⟨w1.heap.size, 0, none⟩ = some (.int .i64 X) ∧ w'.cell? ⟨w1.heap.size, 1, none⟩ = some (.int .i64 Y)) (go_keep)
    ((first
      | (have HGUARD := HVw25; go_at_call 19
         refine Calls.mono (HCp2.out _ _ _ (HVw24.out.up (by (repeat (first | exact Below.refl _ _ | exact Go.RowKit.Hid.out (by assumption) | refine Up.trans ?_ (Up.drew _) | refine Up.trans ?_ (Up.drewN _ _) | refine Up.trans ?_ (Up.alloc _ _) | refine Up.trans ?_ (Go.RowKit.Hid.out (by assumption)))))) (HVw25.out.up (by (repeat (first | exact Below.refl _ _ | exact Go.RowKit.Hid.out (by assumption) | refine Up.trans ?_ (Up.drew _) | refine Up.trans ?_ (Up.drewN _ _) | refine Up.trans ?_ (Up.alloc _ _) | refine Up.trans ?_ (Go.RowKit.Hid.out (by assumption))))))) ?_
         rintro e w26 ⟨rfl, hu⟩
         have HUw26 := Lib.hid hu
         clear hu
         obtain ⟨a0, a1, -, -, la⟩ := (HNA.out.up (w' := w26) (by (repeat (first | exact Below.refl _ _ | exact Go.RowKit.Hid.out (by assumption) | refine Up.trans ?_ (Up.drew _) | refine Up.trans ?_ (Up.drewN _ _) | refine Up.trans ?_ (Up.alloc _ _) | refine Up.trans ?_ (Go.RowKit.Hid.out (by assumption)))))).facts
         obtain ⟨b0, b1, -, -, lb⟩ := (HNB.out.up (w' := w26) (by (repeat (first | exact Below.refl _ _ | exact Go.RowKit.Hid.out (by assumption) | refine Up.trans ?_ (Up.drew _) | refine Up.trans ?_ (Up.drewN _ _) | refine Up.trans ?_ (Up.alloc _ _) | refine Up.trans ?_ (Go.RowKit.Hid.out (by assumption)))))).facts
         obtain ⟨p0, p1, -, -, lp⟩ := (HNP.out.up (w' := w26) (by (repeat (first | exact Below.refl _ _ | exact Go.RowKit.Hid.out (by assumption) | refine Up.trans ?_ (Up.drew _) | refine Up.trans ?_ (Up.drewN _ _) | refine Up.trans ?_ (Up.alloc _ _) | refine Up.trans ?_ (Go.RowKit.Hid.out (by assumption)))))).facts)
      | (have HGUARD := HVw24; go_at_call_of 18 (Value.agg #[.int .i64 x2, .int .i64 y2])
         refine Calls.mono (HTb.out _) ?_
         rintro e w25 ⟨v, rfl, hv, hu⟩
         have HUw25 := Lib.hid hu
         have HVw25 := Lib.hid hv
         clear hu hv
         obtain ⟨a0, a1, -, -, la⟩ := (HNA.out.up (w' := w25) (by (repeat (first | exact Below.refl _ _ | exact Go.RowKit.Hid.out (by assumption) | refine Up.trans ?_ (Up.drew _) | refine Up.trans ?_ (Up.drewN _ _) | refine Up.trans ?_ (Up.alloc _ _) | refine Up.trans ?_ (Go.RowKit.Hid.out (by assumption)))))).facts
         obtain ⟨b0, b1, -, -, lb⟩ := (HNB.out.up (w' := w25) (by (repeat (first | exact Below.refl _ _ | exact Go.RowKit.Hid.out (by assumption) | refine Up.trans ?_ (Up.drew _) | refine Up.trans ?_ (Up.drewN _ _) | refine Up.trans ?_ (Up.alloc _ _) | refine Up.trans ?_ (Go.RowKit.Hid.out (by assumption)))))).facts
         obtain ⟨p0, p1, -, -, lp⟩ := (HNP.out.up (w' := w25) (by (repeat (first | exact Below.refl _ _ | exact Go.RowKit.Hid.out (by assumption) | refine Up.trans ?_ (Up.drew _) | refine Up.trans ?_ (Up.drewN _ _) | refine Up.trans ?_ (Up.alloc _ _) | refine Up.trans ?_ (Go.RowKit.Hid.out (by assumption)))))).facts)
      | (have HGUARD := HUw23; go_at_call_of 18 (Value.agg #[.int .i64 X, .int .i64 Y])
         refine Calls.mono (HTp.out _) ?_
         rintro e w24 ⟨v, rfl, hv, hu⟩
         have HUw24 := Lib.hid hu
         have HVw24 := Lib.hid hv
         clear hu hv
         obtain ⟨a0, a1, -, -, la⟩ := (HNA.out.up (w' := w24) (by (repeat (first | exact Below.refl _ _ | exact Go.RowKit.Hid.out (by assumption) | refine Up.trans ?_ (Up.drew _) | refine Up.trans ?_ (Up.drewN _ _) | refine Up.trans ?_ (Up.alloc _ _) | refine Up.trans ?_ (Go.RowKit.Hid.out (by assumption)))))).facts
         obtain ⟨b0, b1, -, -, lb⟩ := (HNB.out.up (w' := w24) (by (repeat (first | exact Below.refl _ _ | exact Go.RowKit.Hid.out (by assumption) | refine Up.trans ?_ (Up.drew _) | refine Up.trans ?_ (Up.drewN _ _) | refine Up.trans ?_ (Up.alloc _ _) | refine Up.trans ?_ (Go.RowKit.Hid.out (by assumption)))))).facts
         obtain ⟨p0, p1, -, -, lp⟩ := (HNP.out.up (w' := w24) (by (repeat (first | exact Below.refl _ _ | exact Go.RowKit.Hid.out (by assumption) | refine Up.trans ?_ (Up.drew _) | refine Up.trans ?_ (Up.drewN _ _) | refine Up.trans ?_ (Up.alloc _ _) | refine Up.trans ?_ (Go.RowKit.Hid.out (by assumption)))))).facts)
      | (have HGUARD := HVw22; go_at_call 19
         refine Calls.mono (HCp1.out _ _ _ (HVw21.out.up (by (repeat (first | exact Below.refl _ _ | exact Go.RowKit.Hid.out (by assumption) | refine Up.trans ?_ (Up.drew _) | refine Up.trans ?_ (Up.drewN _ _) | refine Up.trans ?_ (Up.alloc _ _) | refine Up.trans ?_ (Go.RowKit.Hid.out (by assumption)))))) (HVw22.out.up (by (repeat (first | exact Below.refl _ _ | exact Go.RowKit.Hid.out (by assumption) | refine Up.trans ?_ (Up.drew _) | refine Up.trans ?_ (Up.drewN _ _) | refine Up.trans ?_ (Up.alloc _ _) | refine Up.trans ?_ (Go.RowKit.Hid.out (by assumption))))))) ?_
         rintro e w23 ⟨rfl, hu⟩
         have HUw23 := Lib.hid hu
         clear hu
         obtain ⟨a0, a1, -, -, la⟩ := (HNA.out.up (w' := w23) (by (repeat (first | exact Below.refl _ _ | exact Go.RowKit.Hid.out (by assumption) | refine Up.trans ?_ (Up.drew _) | refine Up.trans ?_ (Up.drewN _ _) | refine Up.trans ?_ (Up.alloc _ _) | refine Up.trans ?_ (Go.RowKit.Hid.out (by assumption)))))).facts
         obtain ⟨b0, b1, -, -, lb⟩ := (HNB.out.up (w' := w23) (by (repeat (first | exact Below.refl _ _ | exact Go.RowKit.Hid.out (by assumption) | refine Up.trans ?_ (Up.drew _) | refine Up.trans ?_ (Up.drewN _ _) | refine Up.trans ?_ (Up.alloc _ _) | refine Up.trans ?_ (Go.RowKit.Hid.out (by assumption)))))).facts
         obtain ⟨p0, p1, -, -, lp⟩ := (HNP.out.up (w' := w23) (by (repeat (first | exact Below.refl _ _ | exact Go.RowKit.Hid.out (by assumption) | refine Up.trans ?_ (Up.drew _) | refine Up.trans ?_ (Up.drewN _ _) | refine Up.trans ?_ (Up.alloc _ _) | refine Up.trans ?_ (Go.RowKit.Hid.out (by assumption)))))).facts)
      | (have HGUARD := HVw21; go_at_call_of 18 (Value.agg #[.int .i64 X, .int .i64 Y])
         refine Calls.mono (HTp.out _) ?_
         rintro e w22 ⟨v, rfl, hv, hu⟩
         have HUw22 := Lib.hid hu
         have HVw22 := Lib.hid hv
         clear hu hv
         obtain ⟨a0, a1, -, -, la⟩ := (HNA.out.up (w' := w22) (by (repeat (first | exact Below.refl _ _ | exact Go.RowKit.Hid.out (by assumption) | refine Up.trans ?_ (Up.drew _) | refine Up.trans ?_ (Up.drewN _ _) | refine Up.trans ?_ (Up.alloc _ _) | refine Up.trans ?_ (Go.RowKit.Hid.out (by assumption)))))).facts
         obtain ⟨b0, b1, -, -, lb⟩ := (HNB.out.up (w' := w22) (by (repeat (first | exact Below.refl _ _ | exact Go.RowKit.Hid.out (by assumption) | refine Up.trans ?_ (Up.drew _) | refine Up.trans ?_ (Up.drewN _ _) | refine Up.trans ?_ (Up.alloc _ _) | refine Up.trans ?_ (Go.RowKit.Hid.out (by assumption)))))).facts
         obtain ⟨p0, p1, -, -, lp⟩ := (HNP.out.up (w' := w22) (by (repeat (first | exact Below.refl _ _ | exact Go.RowKit.Hid.out (by assumption) | refine Up.trans ?_ (Up.drew _) | refine Up.trans ?_ (Up.drewN _ _) | refine Up.trans ?_ (Up.alloc _ _) | refine Up.trans ?_ (Go.RowKit.Hid.out (by assumption)))))).facts)
      | (have HGUARD := HUw20; go_at_call_of 18 (Value.agg #[.int .i64 x1, .int .i64 y1])
         refine Calls.mono (HTa.out _) ?_
         rintro e w21 ⟨v, rfl, hv, hu⟩
         have HUw21 := Lib.hid hu
         have HVw21 := Lib.hid hv
         clear hu hv
         obtain ⟨a0, a1, -, -, la⟩ := (HNA.out.up (w' := w21) (by (repeat (first | exact Below.refl _ _ | exact Go.RowKit.Hid.out (by assumption) | refine Up.trans ?_ (Up.drew _) | refine Up.trans ?_ (Up.drewN _ _) | refine Up.trans ?_ (Up.alloc _ _) | refine Up.trans ?_ (Go.RowKit.Hid.out (by assumption)))))).facts
         obtain ⟨b0, b1, -, -, lb⟩ := (HNB.out.up (w' := w21) (by (repeat (first | exact Below.refl _ _ | exact Go.RowKit.Hid.out (by assumption) | refine Up.trans ?_ (Up.drew _) | refine Up.trans ?_ (Up.drewN _ _) | refine Up.trans ?_ (Up.alloc _ _) | refine Up.trans ?_ (Go.RowKit.Hid.out (by assumption)))))).facts
         obtain ⟨p0, p1, -, -, lp⟩ := (HNP.out.up (w' := w21) (by (repeat (first | exact Below.refl _ _ | exact Go.RowKit.Hid.out (by assumption) | refine Up.trans ?_ (Up.drew _) | refine Up.trans ?_ (Up.drewN _ _) | refine Up.trans ?_ (Up.alloc _ _) | refine Up.trans ?_ (Go.RowKit.Hid.out (by assumption)))))).facts)
      | (go_at_call 17
         refine Calls.mono (HVp.out _) ?_
         rintro e w20 ⟨rfl, hu⟩
         have HUw20 := Lib.hid hu
         clear hu
         obtain ⟨a0, a1, -, -, la⟩ := (HNA.out.up (w' := w20) (by (repeat (first | exact Below.refl _ _ | exact Go.RowKit.Hid.out (by assumption) | refine Up.trans ?_ (Up.drew _) | refine Up.trans ?_ (Up.drewN _ _) | refine Up.trans ?_ (Up.alloc _ _) | refine Up.trans ?_ (Go.RowKit.Hid.out (by assumption)))))).facts
         obtain ⟨b0, b1, -, -, lb⟩ := (HNB.out.up (w' := w20) (by (repeat (first | exact Below.refl _ _ | exact Go.RowKit.Hid.out (by assumption) | refine Up.trans ?_ (Up.drew _) | refine Up.trans ?_ (Up.drewN _ _) | refine Up.trans ?_ (Up.alloc _ _) | refine Up.trans ?_ (Go.RowKit.Hid.out (by assumption)))))).facts
         obtain ⟨p0, p1, -, -, lp⟩ := (HNP.out.up (w' := w20) (by (repeat (first | exact Below.refl _ _ | exact Go.RowKit.Hid.out (by assumption) | refine Up.trans ?_ (Up.drew _) | refine Up.trans ?_ (Up.drewN _ _) | refine Up.trans ?_ (Up.alloc _ _) | refine Up.trans ?_ (Go.RowKit.Hid.out (by assumption)))))).facts)))
  clear a0 a1 la b0 b1 lb p0 p1 lp
  go_upto_region 6 with fail
  obtain ⟨wD, hwD⟩ : ∃ wD, wD = w26 := ⟨_, rfl⟩
  have HUD := Lib.hid (show Up w26 wD by rw [hwD]; exact Up.refl _)
  rw [← hwD]
  clear hwD
  obtain ⟨a0, a1, -, -, la⟩ := (HNA.out.up (w' := wD) (by (repeat (first | exact Below.refl _ _ | exact Go.RowKit.Hid.out (by assumption) | refine Up.trans ?_ (Up.drew _) | refine Up.trans ?_ (Up.drewN _ _) | refine Up.trans ?_ (Up.alloc _ _) | refine Up.trans ?_ (Go.RowKit.Hid.out (by assumption)))))).facts
  obtain ⟨b0, b1, -, -, lb⟩ := (HNB.out.up (w' := wD) (by (repeat (first | exact Below.refl _ _ | exact Go.RowKit.Hid.out (by assumption) | refine Up.trans ?_ (Up.drew _) | refine Up.trans ?_ (Up.drewN _ _) | refine Up.trans ?_ (Up.alloc _ _) | refine Up.trans ?_ (Go.RowKit.Hid.out (by assumption)))))).facts
  obtain ⟨c0, c1, -, -, lc⟩ := (HNC.out.up (w' := wD) (by (repeat (first | exact Below.refl _ _ | exact Go.RowKit.Hid.out (by assumption) | refine Up.trans ?_ (Up.drew _) | refine Up.trans ?_ (Up.drewN _ _) | refine Up.trans ?_ (Up.alloc _ _) | refine Up.trans ?_ (Go.RowKit.Hid.out (by assumption)))))).facts
  go_cut [55] (fun s55 wx => s55 = .bool true ∧ Up wD wx)
  case first =>
    go_region_with ((first
        | (go_at_call 17
           refine Calls.mono (HVc.out _) ?_
           rintro e w40 ⟨rfl, hu⟩
           have HUw40 := Lib.hid hu
           clear hu
           obtain ⟨a0, a1, -, -, la⟩ := (HNA.out.up (w' := w40) (by (repeat (first | exact Below.refl _ _ | exact Go.RowKit.Hid.out (by assumption) | refine Up.trans ?_ (Up.drew _) | refine Up.trans ?_ (Up.drewN _ _) | refine Up.trans ?_ (Up.alloc _ _) | refine Up.trans ?_ (Go.RowKit.Hid.out (by assumption)))))).facts
           obtain ⟨b0, b1, -, -, lb⟩ := (HNB.out.up (w' := w40) (by (repeat (first | exact Below.refl _ _ | exact Go.RowKit.Hid.out (by assumption) | refine Up.trans ?_ (Up.drew _) | refine Up.trans ?_ (Up.drewN _ _) | refine Up.trans ?_ (Up.alloc _ _) | refine Up.trans ?_ (Go.RowKit.Hid.out (by assumption)))))).facts
           obtain ⟨c0, c1, -, -, lc⟩ := (HNC.out.up (w' := w40) (by (repeat (first | exact Below.refl _ _ | exact Go.RowKit.Hid.out (by assumption) | refine Up.trans ?_ (Up.drew _) | refine Up.trans ?_ (Up.drewN _ _) | refine Up.trans ?_ (Up.alloc _ _) | refine Up.trans ?_ (Go.RowKit.Hid.out (by assumption)))))).facts)))
    all_goals (go_wp2_with fail; go_meet)
    all_goals exact ⟨rfl, by (repeat (first | exact Below.refl _ _ | exact Go.RowKit.Hid.out (by assumption) | refine Up.trans ?_ (Up.drew _) | refine Up.trans ?_ (Up.drewN _ _) | refine Up.trans ?_ (Up.alloc _ _) | refine Up.trans ?_ (Go.RowKit.Hid.out (by assumption))))⟩
  case rest =>
    obtain ⟨rfl, hu⟩ := hcut
    have HU50 := Lib.hid hu
    clear hu a0 a1 la b0 b1 lb c0 c1 lc
    go_wp2_with fail
    refine Calls.mono (HW.out _ (by (repeat (first | exact Below.refl _ _ | exact Go.RowKit.Hid.out (by assumption) | refine Up.trans ?_ (Up.drew _) | refine Up.trans ?_ (Up.drewN _ _) | refine Up.trans ?_ (Up.alloc _ _) | refine Up.trans ?_ (Go.RowKit.Hid.out (by assumption)))))) ?_
    rintro e w9 ⟨rfl, hu9⟩
    have HU9 := Lib.hid hu9
    clear hu9
    go_wp2
    go_ret
    exact ⟨rfl, by (repeat (first | exact Below.refl _ _ | exact Go.RowKit.Hid.out (by assumption) | refine Up.trans ?_ (Up.drew _) | refine Up.trans ?_ (Up.drewN _ _) | refine Up.trans ?_ (Up.alloc _ _) | refine Up.trans ?_ (Go.RowKit.Hid.out (by assumption))))⟩

set_option maxHeartbeats 8000000 in
set_option maxRecDepth 10000 in
theorem least_low (s1 s2 s3 : Int) (x1 y1 x2 y2 z1 z2 X Y : Int) (w : World)
    (HB : Hid (∀ W, Up w W → Calls Tryd.prog 15 #[.agg #[.int .i64 x1, .int .i64 y1], .agg #[.int .i64 x2, .int .i64 y2]] W fun e w' => e = .returned (.tuple #[.agg #[.int .i64 X, .int .i64 Y], .int .i64 0]) ∧ Up W w'))
    (HW : Hid (∀ W, Up w W → Calls Tryd.prog 14 #[] W fun e w' => e = .returned (.bool true) ∧ Up W w'))
    (HTa : Hid (∀ W, Calls Tryd.prog 18 #[.agg #[.int .i64 x1, .int .i64 y1]] W fun e w' => ∃ v, e = .returned v ∧ RQ w' v (ratOf x1 y1) ∧ Up W w'))
    (HTb : Hid (∀ W, Calls Tryd.prog 18 #[.agg #[.int .i64 x2, .int .i64 y2]] W fun e w' => ∃ v, e = .returned v ∧ RQ w' v (ratOf x2 y2) ∧ Up W w'))
    (HTp : Hid (∀ W, Calls Tryd.prog 18 #[.agg #[.int .i64 X, .int .i64 Y]] W fun e w' => ∃ v, e = .returned v ∧ RQ w' v (ratOf X Y) ∧ Up W w'))
    (HVp : Hid (∀ W, Calls Tryd.prog 17 #[.agg #[.int .i64 X, .int .i64 Y]] W fun e w' => e = .returned (.bool true) ∧ Up W w'))
    (HCp1 : Hid (∀ W u1 u2, RQ W u1 (ratOf x1 y1) → RQ W u2 (ratOf X Y) → Calls Tryd.prog 19 #[u1, u2] W fun e w' => e = .returned (.int .i64 s1) ∧ Up W w'))
    (HCp2 : Hid (∀ W u1 u2, RQ W u1 (ratOf X Y) → RQ W u2 (ratOf x2 y2) → Calls Tryd.prog 19 #[u1, u2] W fun e w' => e = .returned (.int .i64 s2) ∧ Up W w'))
    (hs1 : ¬ 0 < s1) (hs2 : ¬ 0 < s2) (HVc : Hid (∀ W, Calls Tryd.prog 17 #[.agg #[.int .i64 z1, .int .i64 z2]] W fun e w' => e = .returned (.bool true) ∧ Up W w'))
    (HTc : Hid (∀ W, Calls Tryd.prog 18 #[.agg #[.int .i64 z1, .int .i64 z2]] W fun e w' => ∃ v, e = .returned v ∧ RQ w' v (ratOf z1 z2) ∧ Up W w'))
    (HCc1 : Hid (∀ W u1 u2, RQ W u1 (ratOf x1 y1) → RQ W u2 (ratOf z1 z2) → Calls Tryd.prog 19 #[u1, u2] W fun e w' => e = .returned (.int .i64 s3) ∧ Up W w')) (hs3 : 0 < s3) : Calls Tryd.prog 5 #[.agg #[.int .i64 x1, .int .i64 y1], .agg #[.int .i64 x2, .int .i64 y2], .agg #[.int .i64 z1, .int .i64 z2]] w fun e w' => e = .returned (.bool true) ∧ Up w w' := by
  have hd1 : decide (0 < s1) = false := decide_eq_false hs1
  have hd2 : decide (0 < s2) = false := decide_eq_false hs2
  go_enter Tryd.func5, Tryd.ntmps5
  go_wp2_with fail
  obtain ⟨wB, hwB⟩ : ∃ wB, wB = ((w.alloc (.cells #[.int .i64 x1, .int .i64 y1] 23)).alloc (.cells #[.int .i64 x2, .int .i64 y2] 23)).alloc (.cells #[.int .i64 z1, .int .i64 z2] 23) := ⟨_, rfl⟩
  have HNA := Lib.hid (show CellN wB w.heap.size x1 y1 by rw [hwB]; exact ((CellN.new w x1 y1).up (Up.alloc _ _)).up (Up.alloc _ _))
  have HNB := Lib.hid (show CellN wB (w.heap.size + 1) x2 y2 by rw [hwB]; have := (CellN.new (w.alloc (.cells #[.int .i64 x1, .int .i64 y1] 23)) x2 y2).up (Up.alloc _ (.cells #[.int .i64 z1, .int .i64 z2] 23)); simpa using this)
  have HNC := Lib.hid (show CellN wB (w.heap.size + 1 + 1) z1 z2 by rw [hwB]; have := CellN.new ((w.alloc (.cells #[.int .i64 x1, .int .i64 y1] 23)).alloc (.cells #[.int .i64 x2, .int .i64 y2] 23)) z1 z2; simpa using this)
  have HU := Lib.hid (show Up w wB by rw [hwB]; exact Up.three w _ _ _)
  rw [← hwB]
  clear hwB
  refine Calls.mono (HB.out _ (by (repeat (first | exact Below.refl _ _ | exact Go.RowKit.Hid.out (by assumption) | refine Up.trans ?_ (Up.drew _) | refine Up.trans ?_ (Up.drewN _ _) | refine Up.trans ?_ (Up.alloc _ _) | refine Up.trans ?_ (Go.RowKit.Hid.out (by assumption)))))) ?_
  rintro e w1 ⟨rfl, hu1⟩
  have HU1 := Lib.hid hu1
  clear hu1
  go_upto_region 4 with fail
  obtain ⟨wC, hwC⟩ : ∃ wC, wC = w1.alloc (.cells #[.int .i64 X, .int .i64 Y] 23) := ⟨_, rfl⟩
  have HNP := Lib.hid (show CellN wC w1.heap.size X Y by rw [hwC]; exact CellN.new _ _ _)
  have HUC := Lib.hid (show Up w1 wC by rw [hwC]; exact Up.alloc _ _)
  rw [← hwC]
  clear hwC
  obtain ⟨a0, a1, -, -, la⟩ := (HNA.out.up (w' := wC) (by (repeat (first | exact Below.refl _ _ | exact Go.RowKit.Hid.out (by assumption) | refine Up.trans ?_ (Up.drew _) | refine Up.trans ?_ (Up.drewN _ _) | refine Up.trans ?_ (Up.alloc _ _) | refine Up.trans ?_ (Go.RowKit.Hid.out (by assumption)))))).facts
  obtain ⟨b0, b1, -, -, lb⟩ := (HNB.out.up (w' := wC) (by (repeat (first | exact Below.refl _ _ | exact Go.RowKit.Hid.out (by assumption) | refine Up.trans ?_ (Up.drew _) | refine Up.trans ?_ (Up.drewN _ _) | refine Up.trans ?_ (Up.alloc _ _) | refine Up.trans ?_ (Go.RowKit.Hid.out (by assumption)))))).facts
  obtain ⟨p0, p1, -, -, lp⟩ := (HNP.out.up (w' := wC) (by (repeat (first | exact Below.refl _ _ | exact Go.RowKit.Hid.out (by assumption) | refine Up.trans ?_ (Up.drew _) | refine Up.trans ?_ (Up.drewN _ _) | refine Up.trans ?_ (Up.alloc _ _) | refine Up.trans ?_ (Go.RowKit.Hid.out (by assumption)))))).facts
  go_region_held3 (fun w' => w'.cell? ⟨w.heap.size, 0, none⟩ = some (.int .i64 x1) ∧ w'.cell? ⟨w.heap.size, 1, none⟩ = some (.int .i64 y1) ∧ w'.cell? ⟨w.heap.size + 1, 0, none⟩ = some (.int .i64 x2) ∧ w'.cell? ⟨w.heap.size + 1, 1, none⟩ = some (.int .i64 y2) ∧ w'.cell? ⟨w1.heap.size, 0, none⟩ = some (.int .i64 X) ∧ w'.cell? ⟨w1.heap.size, 1, none⟩ = some (.int .i64 Y)) (go_keep)
    ((first
      | (have HGUARD := HVw25; go_at_call 19
         refine Calls.mono (HCp2.out _ _ _ (HVw24.out.up (by (repeat (first | exact Below.refl _ _ | exact Go.RowKit.Hid.out (by assumption) | refine Up.trans ?_ (Up.drew _) | refine Up.trans ?_ (Up.drewN _ _) | refine Up.trans ?_ (Up.alloc _ _) | refine Up.trans ?_ (Go.RowKit.Hid.out (by assumption)))))) (HVw25.out.up (by (repeat (first | exact Below.refl _ _ | exact Go.RowKit.Hid.out (by assumption) | refine Up.trans ?_ (Up.drew _) | refine Up.trans ?_ (Up.drewN _ _) | refine Up.trans ?_ (Up.alloc _ _) | refine Up.trans ?_ (Go.RowKit.Hid.out (by assumption))))))) ?_
         rintro e w26 ⟨rfl, hu⟩
         have HUw26 := Lib.hid hu
         clear hu
         obtain ⟨a0, a1, -, -, la⟩ := (HNA.out.up (w' := w26) (by (repeat (first | exact Below.refl _ _ | exact Go.RowKit.Hid.out (by assumption) | refine Up.trans ?_ (Up.drew _) | refine Up.trans ?_ (Up.drewN _ _) | refine Up.trans ?_ (Up.alloc _ _) | refine Up.trans ?_ (Go.RowKit.Hid.out (by assumption)))))).facts
         obtain ⟨b0, b1, -, -, lb⟩ := (HNB.out.up (w' := w26) (by (repeat (first | exact Below.refl _ _ | exact Go.RowKit.Hid.out (by assumption) | refine Up.trans ?_ (Up.drew _) | refine Up.trans ?_ (Up.drewN _ _) | refine Up.trans ?_ (Up.alloc _ _) | refine Up.trans ?_ (Go.RowKit.Hid.out (by assumption)))))).facts
         obtain ⟨p0, p1, -, -, lp⟩ := (HNP.out.up (w' := w26) (by (repeat (first | exact Below.refl _ _ | exact Go.RowKit.Hid.out (by assumption) | refine Up.trans ?_ (Up.drew _) | refine Up.trans ?_ (Up.drewN _ _) | refine Up.trans ?_ (Up.alloc _ _) | refine Up.trans ?_ (Go.RowKit.Hid.out (by assumption)))))).facts)
      | (have HGUARD := HVw24; go_at_call_of 18 (Value.agg #[.int .i64 x2, .int .i64 y2])
         refine Calls.mono (HTb.out _) ?_
         rintro e w25 ⟨v, rfl, hv, hu⟩
         have HUw25 := Lib.hid hu
         have HVw25 := Lib.hid hv
         clear hu hv
         obtain ⟨a0, a1, -, -, la⟩ := (HNA.out.up (w' := w25) (by (repeat (first | exact Below.refl _ _ | exact Go.RowKit.Hid.out (by assumption) | refine Up.trans ?_ (Up.drew _) | refine Up.trans ?_ (Up.drewN _ _) | refine Up.trans ?_ (Up.alloc _ _) | refine Up.trans ?_ (Go.RowKit.Hid.out (by assumption)))))).facts
         obtain ⟨b0, b1, -, -, lb⟩ := (HNB.out.up (w' := w25) (by (repeat (first | exact Below.refl _ _ | exact Go.RowKit.Hid.out (by assumption) | refine Up.trans ?_ (Up.drew _) | refine Up.trans ?_ (Up.drewN _ _) | refine Up.trans ?_ (Up.alloc _ _) | refine Up.trans ?_ (Go.RowKit.Hid.out (by assumption)))))).facts
         obtain ⟨p0, p1, -, -, lp⟩ := (HNP.out.up (w' := w25) (by (repeat (first | exact Below.refl _ _ | exact Go.RowKit.Hid.out (by assumption) | refine Up.trans ?_ (Up.drew _) | refine Up.trans ?_ (Up.drewN _ _) | refine Up.trans ?_ (Up.alloc _ _) | refine Up.trans ?_ (Go.RowKit.Hid.out (by assumption)))))).facts)
      | (have HGUARD := HUw23; go_at_call_of 18 (Value.agg #[.int .i64 X, .int .i64 Y])
         refine Calls.mono (HTp.out _) ?_
         rintro e w24 ⟨v, rfl, hv, hu⟩
         have HUw24 := Lib.hid hu
         have HVw24 := Lib.hid hv
         clear hu hv
         obtain ⟨a0, a1, -, -, la⟩ := (HNA.out.up (w' := w24) (by (repeat (first | exact Below.refl _ _ | exact Go.RowKit.Hid.out (by assumption) | refine Up.trans ?_ (Up.drew _) | refine Up.trans ?_ (Up.drewN _ _) | refine Up.trans ?_ (Up.alloc _ _) | refine Up.trans ?_ (Go.RowKit.Hid.out (by assumption)))))).facts
         obtain ⟨b0, b1, -, -, lb⟩ := (HNB.out.up (w' := w24) (by (repeat (first | exact Below.refl _ _ | exact Go.RowKit.Hid.out (by assumption) | refine Up.trans ?_ (Up.drew _) | refine Up.trans ?_ (Up.drewN _ _) | refine Up.trans ?_ (Up.alloc _ _) | refine Up.trans ?_ (Go.RowKit.Hid.out (by assumption)))))).facts
         obtain ⟨p0, p1, -, -, lp⟩ := (HNP.out.up (w' := w24) (by (repeat (first | exact Below.refl _ _ | exact Go.RowKit.Hid.out (by assumption) | refine Up.trans ?_ (Up.drew _) | refine Up.trans ?_ (Up.drewN _ _) | refine Up.trans ?_ (Up.alloc _ _) | refine Up.trans ?_ (Go.RowKit.Hid.out (by assumption)))))).facts)
      | (have HGUARD := HVw22; go_at_call 19
         refine Calls.mono (HCp1.out _ _ _ (HVw21.out.up (by (repeat (first | exact Below.refl _ _ | exact Go.RowKit.Hid.out (by assumption) | refine Up.trans ?_ (Up.drew _) | refine Up.trans ?_ (Up.drewN _ _) | refine Up.trans ?_ (Up.alloc _ _) | refine Up.trans ?_ (Go.RowKit.Hid.out (by assumption)))))) (HVw22.out.up (by (repeat (first | exact Below.refl _ _ | exact Go.RowKit.Hid.out (by assumption) | refine Up.trans ?_ (Up.drew _) | refine Up.trans ?_ (Up.drewN _ _) | refine Up.trans ?_ (Up.alloc _ _) | refine Up.trans ?_ (Go.RowKit.Hid.out (by assumption))))))) ?_
         rintro e w23 ⟨rfl, hu⟩
         have HUw23 := Lib.hid hu
         clear hu
         obtain ⟨a0, a1, -, -, la⟩ := (HNA.out.up (w' := w23) (by (repeat (first | exact Below.refl _ _ | exact Go.RowKit.Hid.out (by assumption) | refine Up.trans ?_ (Up.drew _) | refine Up.trans ?_ (Up.drewN _ _) | refine Up.trans ?_ (Up.alloc _ _) | refine Up.trans ?_ (Go.RowKit.Hid.out (by assumption)))))).facts
         obtain ⟨b0, b1, -, -, lb⟩ := (HNB.out.up (w' := w23) (by (repeat (first | exact Below.refl _ _ | exact Go.RowKit.Hid.out (by assumption) | refine Up.trans ?_ (Up.drew _) | refine Up.trans ?_ (Up.drewN _ _) | refine Up.trans ?_ (Up.alloc _ _) | refine Up.trans ?_ (Go.RowKit.Hid.out (by assumption)))))).facts
         obtain ⟨p0, p1, -, -, lp⟩ := (HNP.out.up (w' := w23) (by (repeat (first | exact Below.refl _ _ | exact Go.RowKit.Hid.out (by assumption) | refine Up.trans ?_ (Up.drew _) | refine Up.trans ?_ (Up.drewN _ _) | refine Up.trans ?_ (Up.alloc _ _) | refine Up.trans ?_ (Go.RowKit.Hid.out (by assumption)))))).facts)
      | (have HGUARD := HVw21; go_at_call_of 18 (Value.agg #[.int .i64 X, .int .i64 Y])
         refine Calls.mono (HTp.out _) ?_
         rintro e w22 ⟨v, rfl, hv, hu⟩
         have HUw22 := Lib.hid hu
         have HVw22 := Lib.hid hv
         clear hu hv
         obtain ⟨a0, a1, -, -, la⟩ := (HNA.out.up (w' := w22) (by (repeat (first | exact Below.refl _ _ | exact Go.RowKit.Hid.out (by assumption) | refine Up.trans ?_ (Up.drew _) | refine Up.trans ?_ (Up.drewN _ _) | refine Up.trans ?_ (Up.alloc _ _) | refine Up.trans ?_ (Go.RowKit.Hid.out (by assumption)))))).facts
         obtain ⟨b0, b1, -, -, lb⟩ := (HNB.out.up (w' := w22) (by (repeat (first | exact Below.refl _ _ | exact Go.RowKit.Hid.out (by assumption) | refine Up.trans ?_ (Up.drew _) | refine Up.trans ?_ (Up.drewN _ _) | refine Up.trans ?_ (Up.alloc _ _) | refine Up.trans ?_ (Go.RowKit.Hid.out (by assumption)))))).facts
         obtain ⟨p0, p1, -, -, lp⟩ := (HNP.out.up (w' := w22) (by (repeat (first | exact Below.refl _ _ | exact Go.RowKit.Hid.out (by assumption) | refine Up.trans ?_ (Up.drew _) | refine Up.trans ?_ (Up.drewN _ _) | refine Up.trans ?_ (Up.alloc _ _) | refine Up.trans ?_ (Go.RowKit.Hid.out (by assumption)))))).facts)
      | (have HGUARD := HUw20; go_at_call_of 18 (Value.agg #[.int .i64 x1, .int .i64 y1])
         refine Calls.mono (HTa.out _) ?_
         rintro e w21 ⟨v, rfl, hv, hu⟩
         have HUw21 := Lib.hid hu
         have HVw21 := Lib.hid hv
         clear hu hv
         obtain ⟨a0, a1, -, -, la⟩ := (HNA.out.up (w' := w21) (by (repeat (first | exact Below.refl _ _ | exact Go.RowKit.Hid.out (by assumption) | refine Up.trans ?_ (Up.drew _) | refine Up.trans ?_ (Up.drewN _ _) | refine Up.trans ?_ (Up.alloc _ _) | refine Up.trans ?_ (Go.RowKit.Hid.out (by assumption)))))).facts
         obtain ⟨b0, b1, -, -, lb⟩ := (HNB.out.up (w' := w21) (by (repeat (first | exact Below.refl _ _ | exact Go.RowKit.Hid.out (by assumption) | refine Up.trans ?_ (Up.drew _) | refine Up.trans ?_ (Up.drewN _ _) | refine Up.trans ?_ (Up.alloc _ _) | refine Up.trans ?_ (Go.RowKit.Hid.out (by assumption)))))).facts
         obtain ⟨p0, p1, -, -, lp⟩ := (HNP.out.up (w' := w21) (by (repeat (first | exact Below.refl _ _ | exact Go.RowKit.Hid.out (by assumption) | refine Up.trans ?_ (Up.drew _) | refine Up.trans ?_ (Up.drewN _ _) | refine Up.trans ?_ (Up.alloc _ _) | refine Up.trans ?_ (Go.RowKit.Hid.out (by assumption)))))).facts)
      | (go_at_call 17
         refine Calls.mono (HVp.out _) ?_
         rintro e w20 ⟨rfl, hu⟩
         have HUw20 := Lib.hid hu
         clear hu
         obtain ⟨a0, a1, -, -, la⟩ := (HNA.out.up (w' := w20) (by (repeat (first | exact Below.refl _ _ | exact Go.RowKit.Hid.out (by assumption) | refine Up.trans ?_ (Up.drew _) | refine Up.trans ?_ (Up.drewN _ _) | refine Up.trans ?_ (Up.alloc _ _) | refine Up.trans ?_ (Go.RowKit.Hid.out (by assumption)))))).facts
         obtain ⟨b0, b1, -, -, lb⟩ := (HNB.out.up (w' := w20) (by (repeat (first | exact Below.refl _ _ | exact Go.RowKit.Hid.out (by assumption) | refine Up.trans ?_ (Up.drew _) | refine Up.trans ?_ (Up.drewN _ _) | refine Up.trans ?_ (Up.alloc _ _) | refine Up.trans ?_ (Go.RowKit.Hid.out (by assumption)))))).facts
         obtain ⟨p0, p1, -, -, lp⟩ := (HNP.out.up (w' := w20) (by (repeat (first | exact Below.refl _ _ | exact Go.RowKit.Hid.out (by assumption) | refine Up.trans ?_ (Up.drew _) | refine Up.trans ?_ (Up.drewN _ _) | refine Up.trans ?_ (Up.alloc _ _) | refine Up.trans ?_ (Go.RowKit.Hid.out (by assumption)))))).facts)))
  clear a0 a1 la b0 b1 lb p0 p1 lp
  go_upto_region 6 with fail
  obtain ⟨wD, hwD⟩ : ∃ wD, wD = w26 := ⟨_, rfl⟩
  have HUD := Lib.hid (show Up w26 wD by rw [hwD]; exact Up.refl _)
  rw [← hwD]
  clear hwD
  obtain ⟨a0, a1, -, -, la⟩ := (HNA.out.up (w' := wD) (by (repeat (first | exact Below.refl _ _ | exact Go.RowKit.Hid.out (by assumption) | refine Up.trans ?_ (Up.drew _) | refine Up.trans ?_ (Up.drewN _ _) | refine Up.trans ?_ (Up.alloc _ _) | refine Up.trans ?_ (Go.RowKit.Hid.out (by assumption)))))).facts
  obtain ⟨b0, b1, -, -, lb⟩ := (HNB.out.up (w' := wD) (by (repeat (first | exact Below.refl _ _ | exact Go.RowKit.Hid.out (by assumption) | refine Up.trans ?_ (Up.drew _) | refine Up.trans ?_ (Up.drewN _ _) | refine Up.trans ?_ (Up.alloc _ _) | refine Up.trans ?_ (Go.RowKit.Hid.out (by assumption)))))).facts
  obtain ⟨c0, c1, -, -, lc⟩ := (HNC.out.up (w' := wD) (by (repeat (first | exact Below.refl _ _ | exact Go.RowKit.Hid.out (by assumption) | refine Up.trans ?_ (Up.drew _) | refine Up.trans ?_ (Up.drewN _ _) | refine Up.trans ?_ (Up.alloc _ _) | refine Up.trans ?_ (Go.RowKit.Hid.out (by assumption)))))).facts
  go_cut [55] (fun s55 wx => s55 = .bool true ∧ Up wD wx)
  case first =>
    go_region_with ((first
        | (have HGUARD := HVw42; go_at_call 19
           refine Calls.mono (HCc1.out _ _ _ (HVw41.out.up (by (repeat (first | exact Below.refl _ _ | exact Go.RowKit.Hid.out (by assumption) | refine Up.trans ?_ (Up.drew _) | refine Up.trans ?_ (Up.drewN _ _) | refine Up.trans ?_ (Up.alloc _ _) | refine Up.trans ?_ (Go.RowKit.Hid.out (by assumption)))))) (HVw42.out.up (by (repeat (first | exact Below.refl _ _ | exact Go.RowKit.Hid.out (by assumption) | refine Up.trans ?_ (Up.drew _) | refine Up.trans ?_ (Up.drewN _ _) | refine Up.trans ?_ (Up.alloc _ _) | refine Up.trans ?_ (Go.RowKit.Hid.out (by assumption))))))) ?_
           rintro e w43 ⟨rfl, hu⟩
           have HUw43 := Lib.hid hu
           clear hu
           obtain ⟨a0, a1, -, -, la⟩ := (HNA.out.up (w' := w43) (by (repeat (first | exact Below.refl _ _ | exact Go.RowKit.Hid.out (by assumption) | refine Up.trans ?_ (Up.drew _) | refine Up.trans ?_ (Up.drewN _ _) | refine Up.trans ?_ (Up.alloc _ _) | refine Up.trans ?_ (Go.RowKit.Hid.out (by assumption)))))).facts
           obtain ⟨b0, b1, -, -, lb⟩ := (HNB.out.up (w' := w43) (by (repeat (first | exact Below.refl _ _ | exact Go.RowKit.Hid.out (by assumption) | refine Up.trans ?_ (Up.drew _) | refine Up.trans ?_ (Up.drewN _ _) | refine Up.trans ?_ (Up.alloc _ _) | refine Up.trans ?_ (Go.RowKit.Hid.out (by assumption)))))).facts
           obtain ⟨c0, c1, -, -, lc⟩ := (HNC.out.up (w' := w43) (by (repeat (first | exact Below.refl _ _ | exact Go.RowKit.Hid.out (by assumption) | refine Up.trans ?_ (Up.drew _) | refine Up.trans ?_ (Up.drewN _ _) | refine Up.trans ?_ (Up.alloc _ _) | refine Up.trans ?_ (Go.RowKit.Hid.out (by assumption)))))).facts)
        | (have HGUARD := HVw41; go_at_call_of 18 (Value.agg #[.int .i64 z1, .int .i64 z2])
           refine Calls.mono (HTc.out _) ?_
           rintro e w42 ⟨v, rfl, hv, hu⟩
           have HUw42 := Lib.hid hu
           have HVw42 := Lib.hid hv
           clear hu hv
           obtain ⟨a0, a1, -, -, la⟩ := (HNA.out.up (w' := w42) (by (repeat (first | exact Below.refl _ _ | exact Go.RowKit.Hid.out (by assumption) | refine Up.trans ?_ (Up.drew _) | refine Up.trans ?_ (Up.drewN _ _) | refine Up.trans ?_ (Up.alloc _ _) | refine Up.trans ?_ (Go.RowKit.Hid.out (by assumption)))))).facts
           obtain ⟨b0, b1, -, -, lb⟩ := (HNB.out.up (w' := w42) (by (repeat (first | exact Below.refl _ _ | exact Go.RowKit.Hid.out (by assumption) | refine Up.trans ?_ (Up.drew _) | refine Up.trans ?_ (Up.drewN _ _) | refine Up.trans ?_ (Up.alloc _ _) | refine Up.trans ?_ (Go.RowKit.Hid.out (by assumption)))))).facts
           obtain ⟨c0, c1, -, -, lc⟩ := (HNC.out.up (w' := w42) (by (repeat (first | exact Below.refl _ _ | exact Go.RowKit.Hid.out (by assumption) | refine Up.trans ?_ (Up.drew _) | refine Up.trans ?_ (Up.drewN _ _) | refine Up.trans ?_ (Up.alloc _ _) | refine Up.trans ?_ (Go.RowKit.Hid.out (by assumption)))))).facts)
        | (have HGUARD := HUw40; go_at_call_of 18 (Value.agg #[.int .i64 x1, .int .i64 y1])
           refine Calls.mono (HTa.out _) ?_
           rintro e w41 ⟨v, rfl, hv, hu⟩
           have HUw41 := Lib.hid hu
           have HVw41 := Lib.hid hv
           clear hu hv
           obtain ⟨a0, a1, -, -, la⟩ := (HNA.out.up (w' := w41) (by (repeat (first | exact Below.refl _ _ | exact Go.RowKit.Hid.out (by assumption) | refine Up.trans ?_ (Up.drew _) | refine Up.trans ?_ (Up.drewN _ _) | refine Up.trans ?_ (Up.alloc _ _) | refine Up.trans ?_ (Go.RowKit.Hid.out (by assumption)))))).facts
           obtain ⟨b0, b1, -, -, lb⟩ := (HNB.out.up (w' := w41) (by (repeat (first | exact Below.refl _ _ | exact Go.RowKit.Hid.out (by assumption) | refine Up.trans ?_ (Up.drew _) | refine Up.trans ?_ (Up.drewN _ _) | refine Up.trans ?_ (Up.alloc _ _) | refine Up.trans ?_ (Go.RowKit.Hid.out (by assumption)))))).facts
           obtain ⟨c0, c1, -, -, lc⟩ := (HNC.out.up (w' := w41) (by (repeat (first | exact Below.refl _ _ | exact Go.RowKit.Hid.out (by assumption) | refine Up.trans ?_ (Up.drew _) | refine Up.trans ?_ (Up.drewN _ _) | refine Up.trans ?_ (Up.alloc _ _) | refine Up.trans ?_ (Go.RowKit.Hid.out (by assumption)))))).facts)
        | (go_at_call 17
           refine Calls.mono (HVc.out _) ?_
           rintro e w40 ⟨rfl, hu⟩
           have HUw40 := Lib.hid hu
           clear hu
           obtain ⟨a0, a1, -, -, la⟩ := (HNA.out.up (w' := w40) (by (repeat (first | exact Below.refl _ _ | exact Go.RowKit.Hid.out (by assumption) | refine Up.trans ?_ (Up.drew _) | refine Up.trans ?_ (Up.drewN _ _) | refine Up.trans ?_ (Up.alloc _ _) | refine Up.trans ?_ (Go.RowKit.Hid.out (by assumption)))))).facts
           obtain ⟨b0, b1, -, -, lb⟩ := (HNB.out.up (w' := w40) (by (repeat (first | exact Below.refl _ _ | exact Go.RowKit.Hid.out (by assumption) | refine Up.trans ?_ (Up.drew _) | refine Up.trans ?_ (Up.drewN _ _) | refine Up.trans ?_ (Up.alloc _ _) | refine Up.trans ?_ (Go.RowKit.Hid.out (by assumption)))))).facts
           obtain ⟨c0, c1, -, -, lc⟩ := (HNC.out.up (w' := w40) (by (repeat (first | exact Below.refl _ _ | exact Go.RowKit.Hid.out (by assumption) | refine Up.trans ?_ (Up.drew _) | refine Up.trans ?_ (Up.drewN _ _) | refine Up.trans ?_ (Up.alloc _ _) | refine Up.trans ?_ (Go.RowKit.Hid.out (by assumption)))))).facts)))
    all_goals (go_wp2_with fail; go_meet)
    all_goals exact ⟨rfl, by (repeat (first | exact Below.refl _ _ | exact Go.RowKit.Hid.out (by assumption) | refine Up.trans ?_ (Up.drew _) | refine Up.trans ?_ (Up.drewN _ _) | refine Up.trans ?_ (Up.alloc _ _) | refine Up.trans ?_ (Go.RowKit.Hid.out (by assumption))))⟩
  case rest =>
    obtain ⟨rfl, hu⟩ := hcut
    have HU50 := Lib.hid hu
    clear hu a0 a1 la b0 b1 lb c0 c1 lc
    go_wp2_with fail
    refine Calls.mono (HW.out _ (by (repeat (first | exact Below.refl _ _ | exact Go.RowKit.Hid.out (by assumption) | refine Up.trans ?_ (Up.drew _) | refine Up.trans ?_ (Up.drewN _ _) | refine Up.trans ?_ (Up.alloc _ _) | refine Up.trans ?_ (Go.RowKit.Hid.out (by assumption)))))) ?_
    rintro e w9 ⟨rfl, hu9⟩
    have HU9 := Lib.hid hu9
    clear hu9
    go_wp2
    go_ret
    exact ⟨rfl, by (repeat (first | exact Below.refl _ _ | exact Go.RowKit.Hid.out (by assumption) | refine Up.trans ?_ (Up.drew _) | refine Up.trans ?_ (Up.drewN _ _) | refine Up.trans ?_ (Up.alloc _ _) | refine Up.trans ?_ (Go.RowKit.Hid.out (by assumption))))⟩

set_option maxHeartbeats 8000000 in
set_option maxRecDepth 10000 in
theorem least_high (s1 s2 s3 s4 : Int) (x1 y1 x2 y2 z1 z2 X Y : Int) (w : World)
    (HB : Hid (∀ W, Up w W → Calls Tryd.prog 15 #[.agg #[.int .i64 x1, .int .i64 y1], .agg #[.int .i64 x2, .int .i64 y2]] W fun e w' => e = .returned (.tuple #[.agg #[.int .i64 X, .int .i64 Y], .int .i64 0]) ∧ Up W w'))
    (HW : Hid (∀ W, Up w W → Calls Tryd.prog 14 #[] W fun e w' => e = .returned (.bool true) ∧ Up W w'))
    (HTa : Hid (∀ W, Calls Tryd.prog 18 #[.agg #[.int .i64 x1, .int .i64 y1]] W fun e w' => ∃ v, e = .returned v ∧ RQ w' v (ratOf x1 y1) ∧ Up W w'))
    (HTb : Hid (∀ W, Calls Tryd.prog 18 #[.agg #[.int .i64 x2, .int .i64 y2]] W fun e w' => ∃ v, e = .returned v ∧ RQ w' v (ratOf x2 y2) ∧ Up W w'))
    (HTp : Hid (∀ W, Calls Tryd.prog 18 #[.agg #[.int .i64 X, .int .i64 Y]] W fun e w' => ∃ v, e = .returned v ∧ RQ w' v (ratOf X Y) ∧ Up W w'))
    (HVp : Hid (∀ W, Calls Tryd.prog 17 #[.agg #[.int .i64 X, .int .i64 Y]] W fun e w' => e = .returned (.bool true) ∧ Up W w'))
    (HCp1 : Hid (∀ W u1 u2, RQ W u1 (ratOf x1 y1) → RQ W u2 (ratOf X Y) → Calls Tryd.prog 19 #[u1, u2] W fun e w' => e = .returned (.int .i64 s1) ∧ Up W w'))
    (HCp2 : Hid (∀ W u1 u2, RQ W u1 (ratOf X Y) → RQ W u2 (ratOf x2 y2) → Calls Tryd.prog 19 #[u1, u2] W fun e w' => e = .returned (.int .i64 s2) ∧ Up W w'))
    (hs1 : ¬ 0 < s1) (hs2 : ¬ 0 < s2) (HVc : Hid (∀ W, Calls Tryd.prog 17 #[.agg #[.int .i64 z1, .int .i64 z2]] W fun e w' => e = .returned (.bool true) ∧ Up W w'))
    (HTc : Hid (∀ W, Calls Tryd.prog 18 #[.agg #[.int .i64 z1, .int .i64 z2]] W fun e w' => ∃ v, e = .returned v ∧ RQ w' v (ratOf z1 z2) ∧ Up W w'))
    (HCc1 : Hid (∀ W u1 u2, RQ W u1 (ratOf x1 y1) → RQ W u2 (ratOf z1 z2) → Calls Tryd.prog 19 #[u1, u2] W fun e w' => e = .returned (.int .i64 s3) ∧ Up W w'))
    (HCc2 : Hid (∀ W u1 u2, RQ W u1 (ratOf z1 z2) → RQ W u2 (ratOf x2 y2) → Calls Tryd.prog 19 #[u1, u2] W fun e w' => e = .returned (.int .i64 s4) ∧ Up W w')) (hs3 : ¬ 0 < s3) (hs4 : 0 < s4) : Calls Tryd.prog 5 #[.agg #[.int .i64 x1, .int .i64 y1], .agg #[.int .i64 x2, .int .i64 y2], .agg #[.int .i64 z1, .int .i64 z2]] w fun e w' => e = .returned (.bool true) ∧ Up w w' := by
  have hd3 : decide (0 < s3) = false := decide_eq_false hs3
  have hd1 : decide (0 < s1) = false := decide_eq_false hs1
  have hd2 : decide (0 < s2) = false := decide_eq_false hs2
  go_enter Tryd.func5, Tryd.ntmps5
  go_wp2_with fail
  obtain ⟨wB, hwB⟩ : ∃ wB, wB = ((w.alloc (.cells #[.int .i64 x1, .int .i64 y1] 23)).alloc (.cells #[.int .i64 x2, .int .i64 y2] 23)).alloc (.cells #[.int .i64 z1, .int .i64 z2] 23) := ⟨_, rfl⟩
  have HNA := Lib.hid (show CellN wB w.heap.size x1 y1 by rw [hwB]; exact ((CellN.new w x1 y1).up (Up.alloc _ _)).up (Up.alloc _ _))
  have HNB := Lib.hid (show CellN wB (w.heap.size + 1) x2 y2 by rw [hwB]; have := (CellN.new (w.alloc (.cells #[.int .i64 x1, .int .i64 y1] 23)) x2 y2).up (Up.alloc _ (.cells #[.int .i64 z1, .int .i64 z2] 23)); simpa using this)
  have HNC := Lib.hid (show CellN wB (w.heap.size + 1 + 1) z1 z2 by rw [hwB]; have := CellN.new ((w.alloc (.cells #[.int .i64 x1, .int .i64 y1] 23)).alloc (.cells #[.int .i64 x2, .int .i64 y2] 23)) z1 z2; simpa using this)
  have HU := Lib.hid (show Up w wB by rw [hwB]; exact Up.three w _ _ _)
  rw [← hwB]
  clear hwB
  refine Calls.mono (HB.out _ (by (repeat (first | exact Below.refl _ _ | exact Go.RowKit.Hid.out (by assumption) | refine Up.trans ?_ (Up.drew _) | refine Up.trans ?_ (Up.drewN _ _) | refine Up.trans ?_ (Up.alloc _ _) | refine Up.trans ?_ (Go.RowKit.Hid.out (by assumption)))))) ?_
  rintro e w1 ⟨rfl, hu1⟩
  have HU1 := Lib.hid hu1
  clear hu1
  go_upto_region 4 with fail
  obtain ⟨wC, hwC⟩ : ∃ wC, wC = w1.alloc (.cells #[.int .i64 X, .int .i64 Y] 23) := ⟨_, rfl⟩
  have HNP := Lib.hid (show CellN wC w1.heap.size X Y by rw [hwC]; exact CellN.new _ _ _)
  have HUC := Lib.hid (show Up w1 wC by rw [hwC]; exact Up.alloc _ _)
  rw [← hwC]
  clear hwC
  obtain ⟨a0, a1, -, -, la⟩ := (HNA.out.up (w' := wC) (by (repeat (first | exact Below.refl _ _ | exact Go.RowKit.Hid.out (by assumption) | refine Up.trans ?_ (Up.drew _) | refine Up.trans ?_ (Up.drewN _ _) | refine Up.trans ?_ (Up.alloc _ _) | refine Up.trans ?_ (Go.RowKit.Hid.out (by assumption)))))).facts
  obtain ⟨b0, b1, -, -, lb⟩ := (HNB.out.up (w' := wC) (by (repeat (first | exact Below.refl _ _ | exact Go.RowKit.Hid.out (by assumption) | refine Up.trans ?_ (Up.drew _) | refine Up.trans ?_ (Up.drewN _ _) | refine Up.trans ?_ (Up.alloc _ _) | refine Up.trans ?_ (Go.RowKit.Hid.out (by assumption)))))).facts
  obtain ⟨p0, p1, -, -, lp⟩ := (HNP.out.up (w' := wC) (by (repeat (first | exact Below.refl _ _ | exact Go.RowKit.Hid.out (by assumption) | refine Up.trans ?_ (Up.drew _) | refine Up.trans ?_ (Up.drewN _ _) | refine Up.trans ?_ (Up.alloc _ _) | refine Up.trans ?_ (Go.RowKit.Hid.out (by assumption)))))).facts
  go_region_held3 (fun w' => w'.cell? ⟨w.heap.size, 0, none⟩ = some (.int .i64 x1) ∧ w'.cell? ⟨w.heap.size, 1, none⟩ = some (.int .i64 y1) ∧ w'.cell? ⟨w.heap.size + 1, 0, none⟩ = some (.int .i64 x2) ∧ w'.cell? ⟨w.heap.size + 1, 1, none⟩ = some (.int .i64 y2) ∧ w'.cell? ⟨w1.heap.size, 0, none⟩ = some (.int .i64 X) ∧ w'.cell? ⟨w1.heap.size, 1, none⟩ = some (.int .i64 Y)) (go_keep)
    ((first
      | (have HGUARD := HVw25; go_at_call 19
         refine Calls.mono (HCp2.out _ _ _ (HVw24.out.up (by (repeat (first | exact Below.refl _ _ | exact Go.RowKit.Hid.out (by assumption) | refine Up.trans ?_ (Up.drew _) | refine Up.trans ?_ (Up.drewN _ _) | refine Up.trans ?_ (Up.alloc _ _) | refine Up.trans ?_ (Go.RowKit.Hid.out (by assumption)))))) (HVw25.out.up (by (repeat (first | exact Below.refl _ _ | exact Go.RowKit.Hid.out (by assumption) | refine Up.trans ?_ (Up.drew _) | refine Up.trans ?_ (Up.drewN _ _) | refine Up.trans ?_ (Up.alloc _ _) | refine Up.trans ?_ (Go.RowKit.Hid.out (by assumption))))))) ?_
         rintro e w26 ⟨rfl, hu⟩
         have HUw26 := Lib.hid hu
         clear hu
         obtain ⟨a0, a1, -, -, la⟩ := (HNA.out.up (w' := w26) (by (repeat (first | exact Below.refl _ _ | exact Go.RowKit.Hid.out (by assumption) | refine Up.trans ?_ (Up.drew _) | refine Up.trans ?_ (Up.drewN _ _) | refine Up.trans ?_ (Up.alloc _ _) | refine Up.trans ?_ (Go.RowKit.Hid.out (by assumption)))))).facts
         obtain ⟨b0, b1, -, -, lb⟩ := (HNB.out.up (w' := w26) (by (repeat (first | exact Below.refl _ _ | exact Go.RowKit.Hid.out (by assumption) | refine Up.trans ?_ (Up.drew _) | refine Up.trans ?_ (Up.drewN _ _) | refine Up.trans ?_ (Up.alloc _ _) | refine Up.trans ?_ (Go.RowKit.Hid.out (by assumption)))))).facts
         obtain ⟨p0, p1, -, -, lp⟩ := (HNP.out.up (w' := w26) (by (repeat (first | exact Below.refl _ _ | exact Go.RowKit.Hid.out (by assumption) | refine Up.trans ?_ (Up.drew _) | refine Up.trans ?_ (Up.drewN _ _) | refine Up.trans ?_ (Up.alloc _ _) | refine Up.trans ?_ (Go.RowKit.Hid.out (by assumption)))))).facts)
      | (have HGUARD := HVw24; go_at_call_of 18 (Value.agg #[.int .i64 x2, .int .i64 y2])
         refine Calls.mono (HTb.out _) ?_
         rintro e w25 ⟨v, rfl, hv, hu⟩
         have HUw25 := Lib.hid hu
         have HVw25 := Lib.hid hv
         clear hu hv
         obtain ⟨a0, a1, -, -, la⟩ := (HNA.out.up (w' := w25) (by (repeat (first | exact Below.refl _ _ | exact Go.RowKit.Hid.out (by assumption) | refine Up.trans ?_ (Up.drew _) | refine Up.trans ?_ (Up.drewN _ _) | refine Up.trans ?_ (Up.alloc _ _) | refine Up.trans ?_ (Go.RowKit.Hid.out (by assumption)))))).facts
         obtain ⟨b0, b1, -, -, lb⟩ := (HNB.out.up (w' := w25) (by (repeat (first | exact Below.refl _ _ | exact Go.RowKit.Hid.out (by assumption) | refine Up.trans ?_ (Up.drew _) | refine Up.trans ?_ (Up.drewN _ _) | refine Up.trans ?_ (Up.alloc _ _) | refine Up.trans ?_ (Go.RowKit.Hid.out (by assumption)))))).facts
         obtain ⟨p0, p1, -, -, lp⟩ := (HNP.out.up (w' := w25) (by (repeat (first | exact Below.refl _ _ | exact Go.RowKit.Hid.out (by assumption) | refine Up.trans ?_ (Up.drew _) | refine Up.trans ?_ (Up.drewN _ _) | refine Up.trans ?_ (Up.alloc _ _) | refine Up.trans ?_ (Go.RowKit.Hid.out (by assumption)))))).facts)
      | (have HGUARD := HUw23; go_at_call_of 18 (Value.agg #[.int .i64 X, .int .i64 Y])
         refine Calls.mono (HTp.out _) ?_
         rintro e w24 ⟨v, rfl, hv, hu⟩
         have HUw24 := Lib.hid hu
         have HVw24 := Lib.hid hv
         clear hu hv
         obtain ⟨a0, a1, -, -, la⟩ := (HNA.out.up (w' := w24) (by (repeat (first | exact Below.refl _ _ | exact Go.RowKit.Hid.out (by assumption) | refine Up.trans ?_ (Up.drew _) | refine Up.trans ?_ (Up.drewN _ _) | refine Up.trans ?_ (Up.alloc _ _) | refine Up.trans ?_ (Go.RowKit.Hid.out (by assumption)))))).facts
         obtain ⟨b0, b1, -, -, lb⟩ := (HNB.out.up (w' := w24) (by (repeat (first | exact Below.refl _ _ | exact Go.RowKit.Hid.out (by assumption) | refine Up.trans ?_ (Up.drew _) | refine Up.trans ?_ (Up.drewN _ _) | refine Up.trans ?_ (Up.alloc _ _) | refine Up.trans ?_ (Go.RowKit.Hid.out (by assumption)))))).facts
         obtain ⟨p0, p1, -, -, lp⟩ := (HNP.out.up (w' := w24) (by (repeat (first | exact Below.refl _ _ | exact Go.RowKit.Hid.out (by assumption) | refine Up.trans ?_ (Up.drew _) | refine Up.trans ?_ (Up.drewN _ _) | refine Up.trans ?_ (Up.alloc _ _) | refine Up.trans ?_ (Go.RowKit.Hid.out (by assumption)))))).facts)
      | (have HGUARD := HVw22; go_at_call 19
         refine Calls.mono (HCp1.out _ _ _ (HVw21.out.up (by (repeat (first | exact Below.refl _ _ | exact Go.RowKit.Hid.out (by assumption) | refine Up.trans ?_ (Up.drew _) | refine Up.trans ?_ (Up.drewN _ _) | refine Up.trans ?_ (Up.alloc _ _) | refine Up.trans ?_ (Go.RowKit.Hid.out (by assumption)))))) (HVw22.out.up (by (repeat (first | exact Below.refl _ _ | exact Go.RowKit.Hid.out (by assumption) | refine Up.trans ?_ (Up.drew _) | refine Up.trans ?_ (Up.drewN _ _) | refine Up.trans ?_ (Up.alloc _ _) | refine Up.trans ?_ (Go.RowKit.Hid.out (by assumption))))))) ?_
         rintro e w23 ⟨rfl, hu⟩
         have HUw23 := Lib.hid hu
         clear hu
         obtain ⟨a0, a1, -, -, la⟩ := (HNA.out.up (w' := w23) (by (repeat (first | exact Below.refl _ _ | exact Go.RowKit.Hid.out (by assumption) | refine Up.trans ?_ (Up.drew _) | refine Up.trans ?_ (Up.drewN _ _) | refine Up.trans ?_ (Up.alloc _ _) | refine Up.trans ?_ (Go.RowKit.Hid.out (by assumption)))))).facts
         obtain ⟨b0, b1, -, -, lb⟩ := (HNB.out.up (w' := w23) (by (repeat (first | exact Below.refl _ _ | exact Go.RowKit.Hid.out (by assumption) | refine Up.trans ?_ (Up.drew _) | refine Up.trans ?_ (Up.drewN _ _) | refine Up.trans ?_ (Up.alloc _ _) | refine Up.trans ?_ (Go.RowKit.Hid.out (by assumption)))))).facts
         obtain ⟨p0, p1, -, -, lp⟩ := (HNP.out.up (w' := w23) (by (repeat (first | exact Below.refl _ _ | exact Go.RowKit.Hid.out (by assumption) | refine Up.trans ?_ (Up.drew _) | refine Up.trans ?_ (Up.drewN _ _) | refine Up.trans ?_ (Up.alloc _ _) | refine Up.trans ?_ (Go.RowKit.Hid.out (by assumption)))))).facts)
      | (have HGUARD := HVw21; go_at_call_of 18 (Value.agg #[.int .i64 X, .int .i64 Y])
         refine Calls.mono (HTp.out _) ?_
         rintro e w22 ⟨v, rfl, hv, hu⟩
         have HUw22 := Lib.hid hu
         have HVw22 := Lib.hid hv
         clear hu hv
         obtain ⟨a0, a1, -, -, la⟩ := (HNA.out.up (w' := w22) (by (repeat (first | exact Below.refl _ _ | exact Go.RowKit.Hid.out (by assumption) | refine Up.trans ?_ (Up.drew _) | refine Up.trans ?_ (Up.drewN _ _) | refine Up.trans ?_ (Up.alloc _ _) | refine Up.trans ?_ (Go.RowKit.Hid.out (by assumption)))))).facts
         obtain ⟨b0, b1, -, -, lb⟩ := (HNB.out.up (w' := w22) (by (repeat (first | exact Below.refl _ _ | exact Go.RowKit.Hid.out (by assumption) | refine Up.trans ?_ (Up.drew _) | refine Up.trans ?_ (Up.drewN _ _) | refine Up.trans ?_ (Up.alloc _ _) | refine Up.trans ?_ (Go.RowKit.Hid.out (by assumption)))))).facts
         obtain ⟨p0, p1, -, -, lp⟩ := (HNP.out.up (w' := w22) (by (repeat (first | exact Below.refl _ _ | exact Go.RowKit.Hid.out (by assumption) | refine Up.trans ?_ (Up.drew _) | refine Up.trans ?_ (Up.drewN _ _) | refine Up.trans ?_ (Up.alloc _ _) | refine Up.trans ?_ (Go.RowKit.Hid.out (by assumption)))))).facts)
      | (have HGUARD := HUw20; go_at_call_of 18 (Value.agg #[.int .i64 x1, .int .i64 y1])
         refine Calls.mono (HTa.out _) ?_
         rintro e w21 ⟨v, rfl, hv, hu⟩
         have HUw21 := Lib.hid hu
         have HVw21 := Lib.hid hv
         clear hu hv
         obtain ⟨a0, a1, -, -, la⟩ := (HNA.out.up (w' := w21) (by (repeat (first | exact Below.refl _ _ | exact Go.RowKit.Hid.out (by assumption) | refine Up.trans ?_ (Up.drew _) | refine Up.trans ?_ (Up.drewN _ _) | refine Up.trans ?_ (Up.alloc _ _) | refine Up.trans ?_ (Go.RowKit.Hid.out (by assumption)))))).facts
         obtain ⟨b0, b1, -, -, lb⟩ := (HNB.out.up (w' := w21) (by (repeat (first | exact Below.refl _ _ | exact Go.RowKit.Hid.out (by assumption) | refine Up.trans ?_ (Up.drew _) | refine Up.trans ?_ (Up.drewN _ _) | refine Up.trans ?_ (Up.alloc _ _) | refine Up.trans ?_ (Go.RowKit.Hid.out (by assumption)))))).facts
         obtain ⟨p0, p1, -, -, lp⟩ := (HNP.out.up (w' := w21) (by (repeat (first | exact Below.refl _ _ | exact Go.RowKit.Hid.out (by assumption) | refine Up.trans ?_ (Up.drew _) | refine Up.trans ?_ (Up.drewN _ _) | refine Up.trans ?_ (Up.alloc _ _) | refine Up.trans ?_ (Go.RowKit.Hid.out (by assumption)))))).facts)
      | (go_at_call 17
         refine Calls.mono (HVp.out _) ?_
         rintro e w20 ⟨rfl, hu⟩
         have HUw20 := Lib.hid hu
         clear hu
         obtain ⟨a0, a1, -, -, la⟩ := (HNA.out.up (w' := w20) (by (repeat (first | exact Below.refl _ _ | exact Go.RowKit.Hid.out (by assumption) | refine Up.trans ?_ (Up.drew _) | refine Up.trans ?_ (Up.drewN _ _) | refine Up.trans ?_ (Up.alloc _ _) | refine Up.trans ?_ (Go.RowKit.Hid.out (by assumption)))))).facts
         obtain ⟨b0, b1, -, -, lb⟩ := (HNB.out.up (w' := w20) (by (repeat (first | exact Below.refl _ _ | exact Go.RowKit.Hid.out (by assumption) | refine Up.trans ?_ (Up.drew _) | refine Up.trans ?_ (Up.drewN _ _) | refine Up.trans ?_ (Up.alloc _ _) | refine Up.trans ?_ (Go.RowKit.Hid.out (by assumption)))))).facts
         obtain ⟨p0, p1, -, -, lp⟩ := (HNP.out.up (w' := w20) (by (repeat (first | exact Below.refl _ _ | exact Go.RowKit.Hid.out (by assumption) | refine Up.trans ?_ (Up.drew _) | refine Up.trans ?_ (Up.drewN _ _) | refine Up.trans ?_ (Up.alloc _ _) | refine Up.trans ?_ (Go.RowKit.Hid.out (by assumption)))))).facts)))
  clear a0 a1 la b0 b1 lb p0 p1 lp
  go_upto_region 6 with fail
  obtain ⟨wD, hwD⟩ : ∃ wD, wD = w26 := ⟨_, rfl⟩
  have HUD := Lib.hid (show Up w26 wD by rw [hwD]; exact Up.refl _)
  rw [← hwD]
  clear hwD
  obtain ⟨a0, a1, -, -, la⟩ := (HNA.out.up (w' := wD) (by (repeat (first | exact Below.refl _ _ | exact Go.RowKit.Hid.out (by assumption) | refine Up.trans ?_ (Up.drew _) | refine Up.trans ?_ (Up.drewN _ _) | refine Up.trans ?_ (Up.alloc _ _) | refine Up.trans ?_ (Go.RowKit.Hid.out (by assumption)))))).facts
  obtain ⟨b0, b1, -, -, lb⟩ := (HNB.out.up (w' := wD) (by (repeat (first | exact Below.refl _ _ | exact Go.RowKit.Hid.out (by assumption) | refine Up.trans ?_ (Up.drew _) | refine Up.trans ?_ (Up.drewN _ _) | refine Up.trans ?_ (Up.alloc _ _) | refine Up.trans ?_ (Go.RowKit.Hid.out (by assumption)))))).facts
  obtain ⟨c0, c1, -, -, lc⟩ := (HNC.out.up (w' := wD) (by (repeat (first | exact Below.refl _ _ | exact Go.RowKit.Hid.out (by assumption) | refine Up.trans ?_ (Up.drew _) | refine Up.trans ?_ (Up.drewN _ _) | refine Up.trans ?_ (Up.alloc _ _) | refine Up.trans ?_ (Go.RowKit.Hid.out (by assumption)))))).facts
  go_region_held3 (fun w' => w'.cell? ⟨w.heap.size, 0, none⟩ = some (.int .i64 x1) ∧ w'.cell? ⟨w.heap.size, 1, none⟩ = some (.int .i64 y1) ∧ w'.cell? ⟨w.heap.size + 1, 0, none⟩ = some (.int .i64 x2) ∧ w'.cell? ⟨w.heap.size + 1, 1, none⟩ = some (.int .i64 y2) ∧ w'.cell? ⟨w.heap.size + 1 + 1, 0, none⟩ = some (.int .i64 z1) ∧ w'.cell? ⟨w.heap.size + 1 + 1, 1, none⟩ = some (.int .i64 z2)) (go_keep)
    ((first
      | (have HGUARD := HVw45; go_at_call 19
         refine Calls.mono (HCc2.out _ _ _ (HVw44.out.up (by (repeat (first | exact Below.refl _ _ | exact Go.RowKit.Hid.out (by assumption) | refine Up.trans ?_ (Up.drew _) | refine Up.trans ?_ (Up.drewN _ _) | refine Up.trans ?_ (Up.alloc _ _) | refine Up.trans ?_ (Go.RowKit.Hid.out (by assumption)))))) (HVw45.out.up (by (repeat (first | exact Below.refl _ _ | exact Go.RowKit.Hid.out (by assumption) | refine Up.trans ?_ (Up.drew _) | refine Up.trans ?_ (Up.drewN _ _) | refine Up.trans ?_ (Up.alloc _ _) | refine Up.trans ?_ (Go.RowKit.Hid.out (by assumption))))))) ?_
         rintro e w46 ⟨rfl, hu⟩
         have HUw46 := Lib.hid hu
         clear hu
         obtain ⟨a0, a1, -, -, la⟩ := (HNA.out.up (w' := w46) (by (repeat (first | exact Below.refl _ _ | exact Go.RowKit.Hid.out (by assumption) | refine Up.trans ?_ (Up.drew _) | refine Up.trans ?_ (Up.drewN _ _) | refine Up.trans ?_ (Up.alloc _ _) | refine Up.trans ?_ (Go.RowKit.Hid.out (by assumption)))))).facts
         obtain ⟨b0, b1, -, -, lb⟩ := (HNB.out.up (w' := w46) (by (repeat (first | exact Below.refl _ _ | exact Go.RowKit.Hid.out (by assumption) | refine Up.trans ?_ (Up.drew _) | refine Up.trans ?_ (Up.drewN _ _) | refine Up.trans ?_ (Up.alloc _ _) | refine Up.trans ?_ (Go.RowKit.Hid.out (by assumption)))))).facts
         obtain ⟨c0, c1, -, -, lc⟩ := (HNC.out.up (w' := w46) (by (repeat (first | exact Below.refl _ _ | exact Go.RowKit.Hid.out (by assumption) | refine Up.trans ?_ (Up.drew _) | refine Up.trans ?_ (Up.drewN _ _) | refine Up.trans ?_ (Up.alloc _ _) | refine Up.trans ?_ (Go.RowKit.Hid.out (by assumption)))))).facts)
      | (have HGUARD := HVw44; go_at_call_of 18 (Value.agg #[.int .i64 x2, .int .i64 y2])
         refine Calls.mono (HTb.out _) ?_
         rintro e w45 ⟨v, rfl, hv, hu⟩
         have HUw45 := Lib.hid hu
         have HVw45 := Lib.hid hv
         clear hu hv
         obtain ⟨a0, a1, -, -, la⟩ := (HNA.out.up (w' := w45) (by (repeat (first | exact Below.refl _ _ | exact Go.RowKit.Hid.out (by assumption) | refine Up.trans ?_ (Up.drew _) | refine Up.trans ?_ (Up.drewN _ _) | refine Up.trans ?_ (Up.alloc _ _) | refine Up.trans ?_ (Go.RowKit.Hid.out (by assumption)))))).facts
         obtain ⟨b0, b1, -, -, lb⟩ := (HNB.out.up (w' := w45) (by (repeat (first | exact Below.refl _ _ | exact Go.RowKit.Hid.out (by assumption) | refine Up.trans ?_ (Up.drew _) | refine Up.trans ?_ (Up.drewN _ _) | refine Up.trans ?_ (Up.alloc _ _) | refine Up.trans ?_ (Go.RowKit.Hid.out (by assumption)))))).facts
         obtain ⟨c0, c1, -, -, lc⟩ := (HNC.out.up (w' := w45) (by (repeat (first | exact Below.refl _ _ | exact Go.RowKit.Hid.out (by assumption) | refine Up.trans ?_ (Up.drew _) | refine Up.trans ?_ (Up.drewN _ _) | refine Up.trans ?_ (Up.alloc _ _) | refine Up.trans ?_ (Go.RowKit.Hid.out (by assumption)))))).facts)
      | (have HGUARD := HUw43; go_at_call_of 18 (Value.agg #[.int .i64 z1, .int .i64 z2])
         refine Calls.mono (HTc.out _) ?_
         rintro e w44 ⟨v, rfl, hv, hu⟩
         have HUw44 := Lib.hid hu
         have HVw44 := Lib.hid hv
         clear hu hv
         obtain ⟨a0, a1, -, -, la⟩ := (HNA.out.up (w' := w44) (by (repeat (first | exact Below.refl _ _ | exact Go.RowKit.Hid.out (by assumption) | refine Up.trans ?_ (Up.drew _) | refine Up.trans ?_ (Up.drewN _ _) | refine Up.trans ?_ (Up.alloc _ _) | refine Up.trans ?_ (Go.RowKit.Hid.out (by assumption)))))).facts
         obtain ⟨b0, b1, -, -, lb⟩ := (HNB.out.up (w' := w44) (by (repeat (first | exact Below.refl _ _ | exact Go.RowKit.Hid.out (by assumption) | refine Up.trans ?_ (Up.drew _) | refine Up.trans ?_ (Up.drewN _ _) | refine Up.trans ?_ (Up.alloc _ _) | refine Up.trans ?_ (Go.RowKit.Hid.out (by assumption)))))).facts
         obtain ⟨c0, c1, -, -, lc⟩ := (HNC.out.up (w' := w44) (by (repeat (first | exact Below.refl _ _ | exact Go.RowKit.Hid.out (by assumption) | refine Up.trans ?_ (Up.drew _) | refine Up.trans ?_ (Up.drewN _ _) | refine Up.trans ?_ (Up.alloc _ _) | refine Up.trans ?_ (Go.RowKit.Hid.out (by assumption)))))).facts)
      | (have HGUARD := HVw42; go_at_call 19
         refine Calls.mono (HCc1.out _ _ _ (HVw41.out.up (by (repeat (first | exact Below.refl _ _ | exact Go.RowKit.Hid.out (by assumption) | refine Up.trans ?_ (Up.drew _) | refine Up.trans ?_ (Up.drewN _ _) | refine Up.trans ?_ (Up.alloc _ _) | refine Up.trans ?_ (Go.RowKit.Hid.out (by assumption)))))) (HVw42.out.up (by (repeat (first | exact Below.refl _ _ | exact Go.RowKit.Hid.out (by assumption) | refine Up.trans ?_ (Up.drew _) | refine Up.trans ?_ (Up.drewN _ _) | refine Up.trans ?_ (Up.alloc _ _) | refine Up.trans ?_ (Go.RowKit.Hid.out (by assumption))))))) ?_
         rintro e w43 ⟨rfl, hu⟩
         have HUw43 := Lib.hid hu
         clear hu
         obtain ⟨a0, a1, -, -, la⟩ := (HNA.out.up (w' := w43) (by (repeat (first | exact Below.refl _ _ | exact Go.RowKit.Hid.out (by assumption) | refine Up.trans ?_ (Up.drew _) | refine Up.trans ?_ (Up.drewN _ _) | refine Up.trans ?_ (Up.alloc _ _) | refine Up.trans ?_ (Go.RowKit.Hid.out (by assumption)))))).facts
         obtain ⟨b0, b1, -, -, lb⟩ := (HNB.out.up (w' := w43) (by (repeat (first | exact Below.refl _ _ | exact Go.RowKit.Hid.out (by assumption) | refine Up.trans ?_ (Up.drew _) | refine Up.trans ?_ (Up.drewN _ _) | refine Up.trans ?_ (Up.alloc _ _) | refine Up.trans ?_ (Go.RowKit.Hid.out (by assumption)))))).facts
         obtain ⟨c0, c1, -, -, lc⟩ := (HNC.out.up (w' := w43) (by (repeat (first | exact Below.refl _ _ | exact Go.RowKit.Hid.out (by assumption) | refine Up.trans ?_ (Up.drew _) | refine Up.trans ?_ (Up.drewN _ _) | refine Up.trans ?_ (Up.alloc _ _) | refine Up.trans ?_ (Go.RowKit.Hid.out (by assumption)))))).facts)
      | (have HGUARD := HVw41; go_at_call_of 18 (Value.agg #[.int .i64 z1, .int .i64 z2])
         refine Calls.mono (HTc.out _) ?_
         rintro e w42 ⟨v, rfl, hv, hu⟩
         have HUw42 := Lib.hid hu
         have HVw42 := Lib.hid hv
         clear hu hv
         obtain ⟨a0, a1, -, -, la⟩ := (HNA.out.up (w' := w42) (by (repeat (first | exact Below.refl _ _ | exact Go.RowKit.Hid.out (by assumption) | refine Up.trans ?_ (Up.drew _) | refine Up.trans ?_ (Up.drewN _ _) | refine Up.trans ?_ (Up.alloc _ _) | refine Up.trans ?_ (Go.RowKit.Hid.out (by assumption)))))).facts
         obtain ⟨b0, b1, -, -, lb⟩ := (HNB.out.up (w' := w42) (by (repeat (first | exact Below.refl _ _ | exact Go.RowKit.Hid.out (by assumption) | refine Up.trans ?_ (Up.drew _) | refine Up.trans ?_ (Up.drewN _ _) | refine Up.trans ?_ (Up.alloc _ _) | refine Up.trans ?_ (Go.RowKit.Hid.out (by assumption)))))).facts
         obtain ⟨c0, c1, -, -, lc⟩ := (HNC.out.up (w' := w42) (by (repeat (first | exact Below.refl _ _ | exact Go.RowKit.Hid.out (by assumption) | refine Up.trans ?_ (Up.drew _) | refine Up.trans ?_ (Up.drewN _ _) | refine Up.trans ?_ (Up.alloc _ _) | refine Up.trans ?_ (Go.RowKit.Hid.out (by assumption)))))).facts)
      | (have HGUARD := HUw40; go_at_call_of 18 (Value.agg #[.int .i64 x1, .int .i64 y1])
         refine Calls.mono (HTa.out _) ?_
         rintro e w41 ⟨v, rfl, hv, hu⟩
         have HUw41 := Lib.hid hu
         have HVw41 := Lib.hid hv
         clear hu hv
         obtain ⟨a0, a1, -, -, la⟩ := (HNA.out.up (w' := w41) (by (repeat (first | exact Below.refl _ _ | exact Go.RowKit.Hid.out (by assumption) | refine Up.trans ?_ (Up.drew _) | refine Up.trans ?_ (Up.drewN _ _) | refine Up.trans ?_ (Up.alloc _ _) | refine Up.trans ?_ (Go.RowKit.Hid.out (by assumption)))))).facts
         obtain ⟨b0, b1, -, -, lb⟩ := (HNB.out.up (w' := w41) (by (repeat (first | exact Below.refl _ _ | exact Go.RowKit.Hid.out (by assumption) | refine Up.trans ?_ (Up.drew _) | refine Up.trans ?_ (Up.drewN _ _) | refine Up.trans ?_ (Up.alloc _ _) | refine Up.trans ?_ (Go.RowKit.Hid.out (by assumption)))))).facts
         obtain ⟨c0, c1, -, -, lc⟩ := (HNC.out.up (w' := w41) (by (repeat (first | exact Below.refl _ _ | exact Go.RowKit.Hid.out (by assumption) | refine Up.trans ?_ (Up.drew _) | refine Up.trans ?_ (Up.drewN _ _) | refine Up.trans ?_ (Up.alloc _ _) | refine Up.trans ?_ (Go.RowKit.Hid.out (by assumption)))))).facts)
      | (go_at_call 17
         refine Calls.mono (HVc.out _) ?_
         rintro e w40 ⟨rfl, hu⟩
         have HUw40 := Lib.hid hu
         clear hu
         obtain ⟨a0, a1, -, -, la⟩ := (HNA.out.up (w' := w40) (by (repeat (first | exact Below.refl _ _ | exact Go.RowKit.Hid.out (by assumption) | refine Up.trans ?_ (Up.drew _) | refine Up.trans ?_ (Up.drewN _ _) | refine Up.trans ?_ (Up.alloc _ _) | refine Up.trans ?_ (Go.RowKit.Hid.out (by assumption)))))).facts
         obtain ⟨b0, b1, -, -, lb⟩ := (HNB.out.up (w' := w40) (by (repeat (first | exact Below.refl _ _ | exact Go.RowKit.Hid.out (by assumption) | refine Up.trans ?_ (Up.drew _) | refine Up.trans ?_ (Up.drewN _ _) | refine Up.trans ?_ (Up.alloc _ _) | refine Up.trans ?_ (Go.RowKit.Hid.out (by assumption)))))).facts
         obtain ⟨c0, c1, -, -, lc⟩ := (HNC.out.up (w' := w40) (by (repeat (first | exact Below.refl _ _ | exact Go.RowKit.Hid.out (by assumption) | refine Up.trans ?_ (Up.drew _) | refine Up.trans ?_ (Up.drewN _ _) | refine Up.trans ?_ (Up.alloc _ _) | refine Up.trans ?_ (Go.RowKit.Hid.out (by assumption)))))).facts)))
  clear a0 a1 la b0 b1 lb c0 c1 lc
  go_wp2_with fail
  refine Calls.mono (HW.out _ (by (repeat (first | exact Below.refl _ _ | exact Go.RowKit.Hid.out (by assumption) | refine Up.trans ?_ (Up.drew _) | refine Up.trans ?_ (Up.drewN _ _) | refine Up.trans ?_ (Up.alloc _ _) | refine Up.trans ?_ (Go.RowKit.Hid.out (by assumption)))))) ?_
  rintro e w9 ⟨rfl, hu9⟩
  have HU9 := Lib.hid hu9
  clear hu9
  go_wp2
  go_ret
  exact ⟨rfl, by (repeat (first | exact Below.refl _ _ | exact Go.RowKit.Hid.out (by assumption) | refine Up.trans ?_ (Up.drew _) | refine Up.trans ?_ (Up.drewN _ _) | refine Up.trans ?_ (Up.alloc _ _) | refine Up.trans ?_ (Go.RowKit.Hid.out (by assumption))))⟩

set_option maxHeartbeats 8000000 in
set_option maxRecDepth 10000 in
theorem least_in (s1 s2 s3 s4 : Int) (x1 y1 x2 y2 z1 z2 X Y : Int) (w : World)
    (HB : Hid (∀ W, Up w W → Calls Tryd.prog 15 #[.agg #[.int .i64 x1, .int .i64 y1], .agg #[.int .i64 x2, .int .i64 y2]] W fun e w' => e = .returned (.tuple #[.agg #[.int .i64 X, .int .i64 Y], .int .i64 0]) ∧ Up W w'))
    (HW : Hid (∀ W, Up w W → Calls Tryd.prog 14 #[] W fun e w' => e = .returned (.bool true) ∧ Up W w'))
    (HTa : Hid (∀ W, Calls Tryd.prog 18 #[.agg #[.int .i64 x1, .int .i64 y1]] W fun e w' => ∃ v, e = .returned v ∧ RQ w' v (ratOf x1 y1) ∧ Up W w'))
    (HTb : Hid (∀ W, Calls Tryd.prog 18 #[.agg #[.int .i64 x2, .int .i64 y2]] W fun e w' => ∃ v, e = .returned v ∧ RQ w' v (ratOf x2 y2) ∧ Up W w'))
    (HTp : Hid (∀ W, Calls Tryd.prog 18 #[.agg #[.int .i64 X, .int .i64 Y]] W fun e w' => ∃ v, e = .returned v ∧ RQ w' v (ratOf X Y) ∧ Up W w'))
    (HVp : Hid (∀ W, Calls Tryd.prog 17 #[.agg #[.int .i64 X, .int .i64 Y]] W fun e w' => e = .returned (.bool true) ∧ Up W w'))
    (HCp1 : Hid (∀ W u1 u2, RQ W u1 (ratOf x1 y1) → RQ W u2 (ratOf X Y) → Calls Tryd.prog 19 #[u1, u2] W fun e w' => e = .returned (.int .i64 s1) ∧ Up W w'))
    (HCp2 : Hid (∀ W u1 u2, RQ W u1 (ratOf X Y) → RQ W u2 (ratOf x2 y2) → Calls Tryd.prog 19 #[u1, u2] W fun e w' => e = .returned (.int .i64 s2) ∧ Up W w'))
    (hs1 : ¬ 0 < s1) (hs2 : ¬ 0 < s2) (HVc : Hid (∀ W, Calls Tryd.prog 17 #[.agg #[.int .i64 z1, .int .i64 z2]] W fun e w' => e = .returned (.bool true) ∧ Up W w'))
    (HTc : Hid (∀ W, Calls Tryd.prog 18 #[.agg #[.int .i64 z1, .int .i64 z2]] W fun e w' => ∃ v, e = .returned v ∧ RQ w' v (ratOf z1 z2) ∧ Up W w'))
    (HCc1 : Hid (∀ W u1 u2, RQ W u1 (ratOf x1 y1) → RQ W u2 (ratOf z1 z2) → Calls Tryd.prog 19 #[u1, u2] W fun e w' => e = .returned (.int .i64 s3) ∧ Up W w'))
    (HCc2 : Hid (∀ W u1 u2, RQ W u1 (ratOf z1 z2) → RQ W u2 (ratOf x2 y2) → Calls Tryd.prog 19 #[u1, u2] W fun e w' => e = .returned (.int .i64 s4) ∧ Up W w')) (hs3 : ¬ 0 < s3) (hs4 : ¬ 0 < s4)
    (hX : -1152921504606846976 ≤ X ∧ X ≤ 1152921504606846976) (hz : -1152921504606846976 ≤ z1 ∧ z1 ≤ 1152921504606846976) (hl : Y < z2 ∨ (z2 = Y ∧ X.natAbs ≤ z1.natAbs)) : Calls Tryd.prog 5 #[.agg #[.int .i64 x1, .int .i64 y1], .agg #[.int .i64 x2, .int .i64 y2], .agg #[.int .i64 z1, .int .i64 z2]] w fun e w' => e = .returned (.bool true) ∧ Up w w' := by
  have hd3 : decide (0 < s3) = false := decide_eq_false hs3
  have hd4 : decide (0 < s4) = false := decide_eq_false hs4
  have hd1 : decide (0 < s1) = false := decide_eq_false hs1
  have hd2 : decide (0 < s2) = false := decide_eq_false hs2
  go_enter Tryd.func5, Tryd.ntmps5
  go_wp2_with fail
  obtain ⟨wB, hwB⟩ : ∃ wB, wB = ((w.alloc (.cells #[.int .i64 x1, .int .i64 y1] 23)).alloc (.cells #[.int .i64 x2, .int .i64 y2] 23)).alloc (.cells #[.int .i64 z1, .int .i64 z2] 23) := ⟨_, rfl⟩
  have HNA := Lib.hid (show CellN wB w.heap.size x1 y1 by rw [hwB]; exact ((CellN.new w x1 y1).up (Up.alloc _ _)).up (Up.alloc _ _))
  have HNB := Lib.hid (show CellN wB (w.heap.size + 1) x2 y2 by rw [hwB]; have := (CellN.new (w.alloc (.cells #[.int .i64 x1, .int .i64 y1] 23)) x2 y2).up (Up.alloc _ (.cells #[.int .i64 z1, .int .i64 z2] 23)); simpa using this)
  have HNC := Lib.hid (show CellN wB (w.heap.size + 1 + 1) z1 z2 by rw [hwB]; have := CellN.new ((w.alloc (.cells #[.int .i64 x1, .int .i64 y1] 23)).alloc (.cells #[.int .i64 x2, .int .i64 y2] 23)) z1 z2; simpa using this)
  have HU := Lib.hid (show Up w wB by rw [hwB]; exact Up.three w _ _ _)
  rw [← hwB]
  clear hwB
  refine Calls.mono (HB.out _ (by (repeat (first | exact Below.refl _ _ | exact Go.RowKit.Hid.out (by assumption) | refine Up.trans ?_ (Up.drew _) | refine Up.trans ?_ (Up.drewN _ _) | refine Up.trans ?_ (Up.alloc _ _) | refine Up.trans ?_ (Go.RowKit.Hid.out (by assumption)))))) ?_
  rintro e w1 ⟨rfl, hu1⟩
  have HU1 := Lib.hid hu1
  clear hu1
  go_upto_region 4 with fail
  obtain ⟨wC, hwC⟩ : ∃ wC, wC = w1.alloc (.cells #[.int .i64 X, .int .i64 Y] 23) := ⟨_, rfl⟩
  have HNP := Lib.hid (show CellN wC w1.heap.size X Y by rw [hwC]; exact CellN.new _ _ _)
  have HUC := Lib.hid (show Up w1 wC by rw [hwC]; exact Up.alloc _ _)
  rw [← hwC]
  clear hwC
  obtain ⟨a0, a1, -, -, la⟩ := (HNA.out.up (w' := wC) (by (repeat (first | exact Below.refl _ _ | exact Go.RowKit.Hid.out (by assumption) | refine Up.trans ?_ (Up.drew _) | refine Up.trans ?_ (Up.drewN _ _) | refine Up.trans ?_ (Up.alloc _ _) | refine Up.trans ?_ (Go.RowKit.Hid.out (by assumption)))))).facts
  obtain ⟨b0, b1, -, -, lb⟩ := (HNB.out.up (w' := wC) (by (repeat (first | exact Below.refl _ _ | exact Go.RowKit.Hid.out (by assumption) | refine Up.trans ?_ (Up.drew _) | refine Up.trans ?_ (Up.drewN _ _) | refine Up.trans ?_ (Up.alloc _ _) | refine Up.trans ?_ (Go.RowKit.Hid.out (by assumption)))))).facts
  obtain ⟨p0, p1, -, -, lp⟩ := (HNP.out.up (w' := wC) (by (repeat (first | exact Below.refl _ _ | exact Go.RowKit.Hid.out (by assumption) | refine Up.trans ?_ (Up.drew _) | refine Up.trans ?_ (Up.drewN _ _) | refine Up.trans ?_ (Up.alloc _ _) | refine Up.trans ?_ (Go.RowKit.Hid.out (by assumption)))))).facts
  go_region_held3 (fun w' => w'.cell? ⟨w.heap.size, 0, none⟩ = some (.int .i64 x1) ∧ w'.cell? ⟨w.heap.size, 1, none⟩ = some (.int .i64 y1) ∧ w'.cell? ⟨w.heap.size + 1, 0, none⟩ = some (.int .i64 x2) ∧ w'.cell? ⟨w.heap.size + 1, 1, none⟩ = some (.int .i64 y2) ∧ w'.cell? ⟨w1.heap.size, 0, none⟩ = some (.int .i64 X) ∧ w'.cell? ⟨w1.heap.size, 1, none⟩ = some (.int .i64 Y)) (go_keep)
    ((first
      | (have HGUARD := HVw25; go_at_call 19
         refine Calls.mono (HCp2.out _ _ _ (HVw24.out.up (by (repeat (first | exact Below.refl _ _ | exact Go.RowKit.Hid.out (by assumption) | refine Up.trans ?_ (Up.drew _) | refine Up.trans ?_ (Up.drewN _ _) | refine Up.trans ?_ (Up.alloc _ _) | refine Up.trans ?_ (Go.RowKit.Hid.out (by assumption)))))) (HVw25.out.up (by (repeat (first | exact Below.refl _ _ | exact Go.RowKit.Hid.out (by assumption) | refine Up.trans ?_ (Up.drew _) | refine Up.trans ?_ (Up.drewN _ _) | refine Up.trans ?_ (Up.alloc _ _) | refine Up.trans ?_ (Go.RowKit.Hid.out (by assumption))))))) ?_
         rintro e w26 ⟨rfl, hu⟩
         have HUw26 := Lib.hid hu
         clear hu
         obtain ⟨a0, a1, -, -, la⟩ := (HNA.out.up (w' := w26) (by (repeat (first | exact Below.refl _ _ | exact Go.RowKit.Hid.out (by assumption) | refine Up.trans ?_ (Up.drew _) | refine Up.trans ?_ (Up.drewN _ _) | refine Up.trans ?_ (Up.alloc _ _) | refine Up.trans ?_ (Go.RowKit.Hid.out (by assumption)))))).facts
         obtain ⟨b0, b1, -, -, lb⟩ := (HNB.out.up (w' := w26) (by (repeat (first | exact Below.refl _ _ | exact Go.RowKit.Hid.out (by assumption) | refine Up.trans ?_ (Up.drew _) | refine Up.trans ?_ (Up.drewN _ _) | refine Up.trans ?_ (Up.alloc _ _) | refine Up.trans ?_ (Go.RowKit.Hid.out (by assumption)))))).facts
         obtain ⟨p0, p1, -, -, lp⟩ := (HNP.out.up (w' := w26) (by (repeat (first | exact Below.refl _ _ | exact Go.RowKit.Hid.out (by assumption) | refine Up.trans ?_ (Up.drew _) | refine Up.trans ?_ (Up.drewN _ _) | refine Up.trans ?_ (Up.alloc _ _) | refine Up.trans ?_ (Go.RowKit.Hid.out (by assumption)))))).facts)
      | (have HGUARD := HVw24; go_at_call_of 18 (Value.agg #[.int .i64 x2, .int .i64 y2])
         refine Calls.mono (HTb.out _) ?_
         rintro e w25 ⟨v, rfl, hv, hu⟩
         have HUw25 := Lib.hid hu
         have HVw25 := Lib.hid hv
         clear hu hv
         obtain ⟨a0, a1, -, -, la⟩ := (HNA.out.up (w' := w25) (by (repeat (first | exact Below.refl _ _ | exact Go.RowKit.Hid.out (by assumption) | refine Up.trans ?_ (Up.drew _) | refine Up.trans ?_ (Up.drewN _ _) | refine Up.trans ?_ (Up.alloc _ _) | refine Up.trans ?_ (Go.RowKit.Hid.out (by assumption)))))).facts
         obtain ⟨b0, b1, -, -, lb⟩ := (HNB.out.up (w' := w25) (by (repeat (first | exact Below.refl _ _ | exact Go.RowKit.Hid.out (by assumption) | refine Up.trans ?_ (Up.drew _) | refine Up.trans ?_ (Up.drewN _ _) | refine Up.trans ?_ (Up.alloc _ _) | refine Up.trans ?_ (Go.RowKit.Hid.out (by assumption)))))).facts
         obtain ⟨p0, p1, -, -, lp⟩ := (HNP.out.up (w' := w25) (by (repeat (first | exact Below.refl _ _ | exact Go.RowKit.Hid.out (by assumption) | refine Up.trans ?_ (Up.drew _) | refine Up.trans ?_ (Up.drewN _ _) | refine Up.trans ?_ (Up.alloc _ _) | refine Up.trans ?_ (Go.RowKit.Hid.out (by assumption)))))).facts)
      | (have HGUARD := HUw23; go_at_call_of 18 (Value.agg #[.int .i64 X, .int .i64 Y])
         refine Calls.mono (HTp.out _) ?_
         rintro e w24 ⟨v, rfl, hv, hu⟩
         have HUw24 := Lib.hid hu
         have HVw24 := Lib.hid hv
         clear hu hv
         obtain ⟨a0, a1, -, -, la⟩ := (HNA.out.up (w' := w24) (by (repeat (first | exact Below.refl _ _ | exact Go.RowKit.Hid.out (by assumption) | refine Up.trans ?_ (Up.drew _) | refine Up.trans ?_ (Up.drewN _ _) | refine Up.trans ?_ (Up.alloc _ _) | refine Up.trans ?_ (Go.RowKit.Hid.out (by assumption)))))).facts
         obtain ⟨b0, b1, -, -, lb⟩ := (HNB.out.up (w' := w24) (by (repeat (first | exact Below.refl _ _ | exact Go.RowKit.Hid.out (by assumption) | refine Up.trans ?_ (Up.drew _) | refine Up.trans ?_ (Up.drewN _ _) | refine Up.trans ?_ (Up.alloc _ _) | refine Up.trans ?_ (Go.RowKit.Hid.out (by assumption)))))).facts
         obtain ⟨p0, p1, -, -, lp⟩ := (HNP.out.up (w' := w24) (by (repeat (first | exact Below.refl _ _ | exact Go.RowKit.Hid.out (by assumption) | refine Up.trans ?_ (Up.drew _) | refine Up.trans ?_ (Up.drewN _ _) | refine Up.trans ?_ (Up.alloc _ _) | refine Up.trans ?_ (Go.RowKit.Hid.out (by assumption)))))).facts)
      | (have HGUARD := HVw22; go_at_call 19
         refine Calls.mono (HCp1.out _ _ _ (HVw21.out.up (by (repeat (first | exact Below.refl _ _ | exact Go.RowKit.Hid.out (by assumption) | refine Up.trans ?_ (Up.drew _) | refine Up.trans ?_ (Up.drewN _ _) | refine Up.trans ?_ (Up.alloc _ _) | refine Up.trans ?_ (Go.RowKit.Hid.out (by assumption)))))) (HVw22.out.up (by (repeat (first | exact Below.refl _ _ | exact Go.RowKit.Hid.out (by assumption) | refine Up.trans ?_ (Up.drew _) | refine Up.trans ?_ (Up.drewN _ _) | refine Up.trans ?_ (Up.alloc _ _) | refine Up.trans ?_ (Go.RowKit.Hid.out (by assumption))))))) ?_
         rintro e w23 ⟨rfl, hu⟩
         have HUw23 := Lib.hid hu
         clear hu
         obtain ⟨a0, a1, -, -, la⟩ := (HNA.out.up (w' := w23) (by (repeat (first | exact Below.refl _ _ | exact Go.RowKit.Hid.out (by assumption) | refine Up.trans ?_ (Up.drew _) | refine Up.trans ?_ (Up.drewN _ _) | refine Up.trans ?_ (Up.alloc _ _) | refine Up.trans ?_ (Go.RowKit.Hid.out (by assumption)))))).facts
         obtain ⟨b0, b1, -, -, lb⟩ := (HNB.out.up (w' := w23) (by (repeat (first | exact Below.refl _ _ | exact Go.RowKit.Hid.out (by assumption) | refine Up.trans ?_ (Up.drew _) | refine Up.trans ?_ (Up.drewN _ _) | refine Up.trans ?_ (Up.alloc _ _) | refine Up.trans ?_ (Go.RowKit.Hid.out (by assumption)))))).facts
         obtain ⟨p0, p1, -, -, lp⟩ := (HNP.out.up (w' := w23) (by (repeat (first | exact Below.refl _ _ | exact Go.RowKit.Hid.out (by assumption) | refine Up.trans ?_ (Up.drew _) | refine Up.trans ?_ (Up.drewN _ _) | refine Up.trans ?_ (Up.alloc _ _) | refine Up.trans ?_ (Go.RowKit.Hid.out (by assumption)))))).facts)
      | (have HGUARD := HVw21; go_at_call_of 18 (Value.agg #[.int .i64 X, .int .i64 Y])
         refine Calls.mono (HTp.out _) ?_
         rintro e w22 ⟨v, rfl, hv, hu⟩
         have HUw22 := Lib.hid hu
         have HVw22 := Lib.hid hv
         clear hu hv
         obtain ⟨a0, a1, -, -, la⟩ := (HNA.out.up (w' := w22) (by (repeat (first | exact Below.refl _ _ | exact Go.RowKit.Hid.out (by assumption) | refine Up.trans ?_ (Up.drew _) | refine Up.trans ?_ (Up.drewN _ _) | refine Up.trans ?_ (Up.alloc _ _) | refine Up.trans ?_ (Go.RowKit.Hid.out (by assumption)))))).facts
         obtain ⟨b0, b1, -, -, lb⟩ := (HNB.out.up (w' := w22) (by (repeat (first | exact Below.refl _ _ | exact Go.RowKit.Hid.out (by assumption) | refine Up.trans ?_ (Up.drew _) | refine Up.trans ?_ (Up.drewN _ _) | refine Up.trans ?_ (Up.alloc _ _) | refine Up.trans ?_ (Go.RowKit.Hid.out (by assumption)))))).facts
         obtain ⟨p0, p1, -, -, lp⟩ := (HNP.out.up (w' := w22) (by (repeat (first | exact Below.refl _ _ | exact Go.RowKit.Hid.out (by assumption) | refine Up.trans ?_ (Up.drew _) | refine Up.trans ?_ (Up.drewN _ _) | refine Up.trans ?_ (Up.alloc _ _) | refine Up.trans ?_ (Go.RowKit.Hid.out (by assumption)))))).facts)
      | (have HGUARD := HUw20; go_at_call_of 18 (Value.agg #[.int .i64 x1, .int .i64 y1])
         refine Calls.mono (HTa.out _) ?_
         rintro e w21 ⟨v, rfl, hv, hu⟩
         have HUw21 := Lib.hid hu
         have HVw21 := Lib.hid hv
         clear hu hv
         obtain ⟨a0, a1, -, -, la⟩ := (HNA.out.up (w' := w21) (by (repeat (first | exact Below.refl _ _ | exact Go.RowKit.Hid.out (by assumption) | refine Up.trans ?_ (Up.drew _) | refine Up.trans ?_ (Up.drewN _ _) | refine Up.trans ?_ (Up.alloc _ _) | refine Up.trans ?_ (Go.RowKit.Hid.out (by assumption)))))).facts
         obtain ⟨b0, b1, -, -, lb⟩ := (HNB.out.up (w' := w21) (by (repeat (first | exact Below.refl _ _ | exact Go.RowKit.Hid.out (by assumption) | refine Up.trans ?_ (Up.drew _) | refine Up.trans ?_ (Up.drewN _ _) | refine Up.trans ?_ (Up.alloc _ _) | refine Up.trans ?_ (Go.RowKit.Hid.out (by assumption)))))).facts
         obtain ⟨p0, p1, -, -, lp⟩ := (HNP.out.up (w' := w21) (by (repeat (first | exact Below.refl _ _ | exact Go.RowKit.Hid.out (by assumption) | refine Up.trans ?_ (Up.drew _) | refine Up.trans ?_ (Up.drewN _ _) | refine Up.trans ?_ (Up.alloc _ _) | refine Up.trans ?_ (Go.RowKit.Hid.out (by assumption)))))).facts)
      | (go_at_call 17
         refine Calls.mono (HVp.out _) ?_
         rintro e w20 ⟨rfl, hu⟩
         have HUw20 := Lib.hid hu
         clear hu
         obtain ⟨a0, a1, -, -, la⟩ := (HNA.out.up (w' := w20) (by (repeat (first | exact Below.refl _ _ | exact Go.RowKit.Hid.out (by assumption) | refine Up.trans ?_ (Up.drew _) | refine Up.trans ?_ (Up.drewN _ _) | refine Up.trans ?_ (Up.alloc _ _) | refine Up.trans ?_ (Go.RowKit.Hid.out (by assumption)))))).facts
         obtain ⟨b0, b1, -, -, lb⟩ := (HNB.out.up (w' := w20) (by (repeat (first | exact Below.refl _ _ | exact Go.RowKit.Hid.out (by assumption) | refine Up.trans ?_ (Up.drew _) | refine Up.trans ?_ (Up.drewN _ _) | refine Up.trans ?_ (Up.alloc _ _) | refine Up.trans ?_ (Go.RowKit.Hid.out (by assumption)))))).facts
         obtain ⟨p0, p1, -, -, lp⟩ := (HNP.out.up (w' := w20) (by (repeat (first | exact Below.refl _ _ | exact Go.RowKit.Hid.out (by assumption) | refine Up.trans ?_ (Up.drew _) | refine Up.trans ?_ (Up.drewN _ _) | refine Up.trans ?_ (Up.alloc _ _) | refine Up.trans ?_ (Go.RowKit.Hid.out (by assumption)))))).facts)))
  clear a0 a1 la b0 b1 lb p0 p1 lp
  go_upto_region 6 with fail
  obtain ⟨wD, hwD⟩ : ∃ wD, wD = w26 := ⟨_, rfl⟩
  have HUD := Lib.hid (show Up w26 wD by rw [hwD]; exact Up.refl _)
  rw [← hwD]
  clear hwD
  obtain ⟨a0, a1, -, -, la⟩ := (HNA.out.up (w' := wD) (by (repeat (first | exact Below.refl _ _ | exact Go.RowKit.Hid.out (by assumption) | refine Up.trans ?_ (Up.drew _) | refine Up.trans ?_ (Up.drewN _ _) | refine Up.trans ?_ (Up.alloc _ _) | refine Up.trans ?_ (Go.RowKit.Hid.out (by assumption)))))).facts
  obtain ⟨b0, b1, -, -, lb⟩ := (HNB.out.up (w' := wD) (by (repeat (first | exact Below.refl _ _ | exact Go.RowKit.Hid.out (by assumption) | refine Up.trans ?_ (Up.drew _) | refine Up.trans ?_ (Up.drewN _ _) | refine Up.trans ?_ (Up.alloc _ _) | refine Up.trans ?_ (Go.RowKit.Hid.out (by assumption)))))).facts
  obtain ⟨c0, c1, -, -, lc⟩ := (HNC.out.up (w' := wD) (by (repeat (first | exact Below.refl _ _ | exact Go.RowKit.Hid.out (by assumption) | refine Up.trans ?_ (Up.drew _) | refine Up.trans ?_ (Up.drewN _ _) | refine Up.trans ?_ (Up.alloc _ _) | refine Up.trans ?_ (Go.RowKit.Hid.out (by assumption)))))).facts
  go_region_held3 (fun w' => w'.cell? ⟨w.heap.size, 0, none⟩ = some (.int .i64 x1) ∧ w'.cell? ⟨w.heap.size, 1, none⟩ = some (.int .i64 y1) ∧ w'.cell? ⟨w.heap.size + 1, 0, none⟩ = some (.int .i64 x2) ∧ w'.cell? ⟨w.heap.size + 1, 1, none⟩ = some (.int .i64 y2) ∧ w'.cell? ⟨w.heap.size + 1 + 1, 0, none⟩ = some (.int .i64 z1) ∧ w'.cell? ⟨w.heap.size + 1 + 1, 1, none⟩ = some (.int .i64 z2)) (go_keep)
    ((first
      | (have HGUARD := HVw45; go_at_call 19
         refine Calls.mono (HCc2.out _ _ _ (HVw44.out.up (by (repeat (first | exact Below.refl _ _ | exact Go.RowKit.Hid.out (by assumption) | refine Up.trans ?_ (Up.drew _) | refine Up.trans ?_ (Up.drewN _ _) | refine Up.trans ?_ (Up.alloc _ _) | refine Up.trans ?_ (Go.RowKit.Hid.out (by assumption)))))) (HVw45.out.up (by (repeat (first | exact Below.refl _ _ | exact Go.RowKit.Hid.out (by assumption) | refine Up.trans ?_ (Up.drew _) | refine Up.trans ?_ (Up.drewN _ _) | refine Up.trans ?_ (Up.alloc _ _) | refine Up.trans ?_ (Go.RowKit.Hid.out (by assumption))))))) ?_
         rintro e w46 ⟨rfl, hu⟩
         have HUw46 := Lib.hid hu
         clear hu
         obtain ⟨a0, a1, -, -, la⟩ := (HNA.out.up (w' := w46) (by (repeat (first | exact Below.refl _ _ | exact Go.RowKit.Hid.out (by assumption) | refine Up.trans ?_ (Up.drew _) | refine Up.trans ?_ (Up.drewN _ _) | refine Up.trans ?_ (Up.alloc _ _) | refine Up.trans ?_ (Go.RowKit.Hid.out (by assumption)))))).facts
         obtain ⟨b0, b1, -, -, lb⟩ := (HNB.out.up (w' := w46) (by (repeat (first | exact Below.refl _ _ | exact Go.RowKit.Hid.out (by assumption) | refine Up.trans ?_ (Up.drew _) | refine Up.trans ?_ (Up.drewN _ _) | refine Up.trans ?_ (Up.alloc _ _) | refine Up.trans ?_ (Go.RowKit.Hid.out (by assumption)))))).facts
         obtain ⟨c0, c1, -, -, lc⟩ := (HNC.out.up (w' := w46) (by (repeat (first | exact Below.refl _ _ | exact Go.RowKit.Hid.out (by assumption) | refine Up.trans ?_ (Up.drew _) | refine Up.trans ?_ (Up.drewN _ _) | refine Up.trans ?_ (Up.alloc _ _) | refine Up.trans ?_ (Go.RowKit.Hid.out (by assumption)))))).facts)
      | (have HGUARD := HVw44; go_at_call_of 18 (Value.agg #[.int .i64 x2, .int .i64 y2])
         refine Calls.mono (HTb.out _) ?_
         rintro e w45 ⟨v, rfl, hv, hu⟩
         have HUw45 := Lib.hid hu
         have HVw45 := Lib.hid hv
         clear hu hv
         obtain ⟨a0, a1, -, -, la⟩ := (HNA.out.up (w' := w45) (by (repeat (first | exact Below.refl _ _ | exact Go.RowKit.Hid.out (by assumption) | refine Up.trans ?_ (Up.drew _) | refine Up.trans ?_ (Up.drewN _ _) | refine Up.trans ?_ (Up.alloc _ _) | refine Up.trans ?_ (Go.RowKit.Hid.out (by assumption)))))).facts
         obtain ⟨b0, b1, -, -, lb⟩ := (HNB.out.up (w' := w45) (by (repeat (first | exact Below.refl _ _ | exact Go.RowKit.Hid.out (by assumption) | refine Up.trans ?_ (Up.drew _) | refine Up.trans ?_ (Up.drewN _ _) | refine Up.trans ?_ (Up.alloc _ _) | refine Up.trans ?_ (Go.RowKit.Hid.out (by assumption)))))).facts
         obtain ⟨c0, c1, -, -, lc⟩ := (HNC.out.up (w' := w45) (by (repeat (first | exact Below.refl _ _ | exact Go.RowKit.Hid.out (by assumption) | refine Up.trans ?_ (Up.drew _) | refine Up.trans ?_ (Up.drewN _ _) | refine Up.trans ?_ (Up.alloc _ _) | refine Up.trans ?_ (Go.RowKit.Hid.out (by assumption)))))).facts)
      | (have HGUARD := HUw43; go_at_call_of 18 (Value.agg #[.int .i64 z1, .int .i64 z2])
         refine Calls.mono (HTc.out _) ?_
         rintro e w44 ⟨v, rfl, hv, hu⟩
         have HUw44 := Lib.hid hu
         have HVw44 := Lib.hid hv
         clear hu hv
         obtain ⟨a0, a1, -, -, la⟩ := (HNA.out.up (w' := w44) (by (repeat (first | exact Below.refl _ _ | exact Go.RowKit.Hid.out (by assumption) | refine Up.trans ?_ (Up.drew _) | refine Up.trans ?_ (Up.drewN _ _) | refine Up.trans ?_ (Up.alloc _ _) | refine Up.trans ?_ (Go.RowKit.Hid.out (by assumption)))))).facts
         obtain ⟨b0, b1, -, -, lb⟩ := (HNB.out.up (w' := w44) (by (repeat (first | exact Below.refl _ _ | exact Go.RowKit.Hid.out (by assumption) | refine Up.trans ?_ (Up.drew _) | refine Up.trans ?_ (Up.drewN _ _) | refine Up.trans ?_ (Up.alloc _ _) | refine Up.trans ?_ (Go.RowKit.Hid.out (by assumption)))))).facts
         obtain ⟨c0, c1, -, -, lc⟩ := (HNC.out.up (w' := w44) (by (repeat (first | exact Below.refl _ _ | exact Go.RowKit.Hid.out (by assumption) | refine Up.trans ?_ (Up.drew _) | refine Up.trans ?_ (Up.drewN _ _) | refine Up.trans ?_ (Up.alloc _ _) | refine Up.trans ?_ (Go.RowKit.Hid.out (by assumption)))))).facts)
      | (have HGUARD := HVw42; go_at_call 19
         refine Calls.mono (HCc1.out _ _ _ (HVw41.out.up (by (repeat (first | exact Below.refl _ _ | exact Go.RowKit.Hid.out (by assumption) | refine Up.trans ?_ (Up.drew _) | refine Up.trans ?_ (Up.drewN _ _) | refine Up.trans ?_ (Up.alloc _ _) | refine Up.trans ?_ (Go.RowKit.Hid.out (by assumption)))))) (HVw42.out.up (by (repeat (first | exact Below.refl _ _ | exact Go.RowKit.Hid.out (by assumption) | refine Up.trans ?_ (Up.drew _) | refine Up.trans ?_ (Up.drewN _ _) | refine Up.trans ?_ (Up.alloc _ _) | refine Up.trans ?_ (Go.RowKit.Hid.out (by assumption))))))) ?_
         rintro e w43 ⟨rfl, hu⟩
         have HUw43 := Lib.hid hu
         clear hu
         obtain ⟨a0, a1, -, -, la⟩ := (HNA.out.up (w' := w43) (by (repeat (first | exact Below.refl _ _ | exact Go.RowKit.Hid.out (by assumption) | refine Up.trans ?_ (Up.drew _) | refine Up.trans ?_ (Up.drewN _ _) | refine Up.trans ?_ (Up.alloc _ _) | refine Up.trans ?_ (Go.RowKit.Hid.out (by assumption)))))).facts
         obtain ⟨b0, b1, -, -, lb⟩ := (HNB.out.up (w' := w43) (by (repeat (first | exact Below.refl _ _ | exact Go.RowKit.Hid.out (by assumption) | refine Up.trans ?_ (Up.drew _) | refine Up.trans ?_ (Up.drewN _ _) | refine Up.trans ?_ (Up.alloc _ _) | refine Up.trans ?_ (Go.RowKit.Hid.out (by assumption)))))).facts
         obtain ⟨c0, c1, -, -, lc⟩ := (HNC.out.up (w' := w43) (by (repeat (first | exact Below.refl _ _ | exact Go.RowKit.Hid.out (by assumption) | refine Up.trans ?_ (Up.drew _) | refine Up.trans ?_ (Up.drewN _ _) | refine Up.trans ?_ (Up.alloc _ _) | refine Up.trans ?_ (Go.RowKit.Hid.out (by assumption)))))).facts)
      | (have HGUARD := HVw41; go_at_call_of 18 (Value.agg #[.int .i64 z1, .int .i64 z2])
         refine Calls.mono (HTc.out _) ?_
         rintro e w42 ⟨v, rfl, hv, hu⟩
         have HUw42 := Lib.hid hu
         have HVw42 := Lib.hid hv
         clear hu hv
         obtain ⟨a0, a1, -, -, la⟩ := (HNA.out.up (w' := w42) (by (repeat (first | exact Below.refl _ _ | exact Go.RowKit.Hid.out (by assumption) | refine Up.trans ?_ (Up.drew _) | refine Up.trans ?_ (Up.drewN _ _) | refine Up.trans ?_ (Up.alloc _ _) | refine Up.trans ?_ (Go.RowKit.Hid.out (by assumption)))))).facts
         obtain ⟨b0, b1, -, -, lb⟩ := (HNB.out.up (w' := w42) (by (repeat (first | exact Below.refl _ _ | exact Go.RowKit.Hid.out (by assumption) | refine Up.trans ?_ (Up.drew _) | refine Up.trans ?_ (Up.drewN _ _) | refine Up.trans ?_ (Up.alloc _ _) | refine Up.trans ?_ (Go.RowKit.Hid.out (by assumption)))))).facts
         obtain ⟨c0, c1, -, -, lc⟩ := (HNC.out.up (w' := w42) (by (repeat (first | exact Below.refl _ _ | exact Go.RowKit.Hid.out (by assumption) | refine Up.trans ?_ (Up.drew _) | refine Up.trans ?_ (Up.drewN _ _) | refine Up.trans ?_ (Up.alloc _ _) | refine Up.trans ?_ (Go.RowKit.Hid.out (by assumption)))))).facts)
      | (have HGUARD := HUw40; go_at_call_of 18 (Value.agg #[.int .i64 x1, .int .i64 y1])
         refine Calls.mono (HTa.out _) ?_
         rintro e w41 ⟨v, rfl, hv, hu⟩
         have HUw41 := Lib.hid hu
         have HVw41 := Lib.hid hv
         clear hu hv
         obtain ⟨a0, a1, -, -, la⟩ := (HNA.out.up (w' := w41) (by (repeat (first | exact Below.refl _ _ | exact Go.RowKit.Hid.out (by assumption) | refine Up.trans ?_ (Up.drew _) | refine Up.trans ?_ (Up.drewN _ _) | refine Up.trans ?_ (Up.alloc _ _) | refine Up.trans ?_ (Go.RowKit.Hid.out (by assumption)))))).facts
         obtain ⟨b0, b1, -, -, lb⟩ := (HNB.out.up (w' := w41) (by (repeat (first | exact Below.refl _ _ | exact Go.RowKit.Hid.out (by assumption) | refine Up.trans ?_ (Up.drew _) | refine Up.trans ?_ (Up.drewN _ _) | refine Up.trans ?_ (Up.alloc _ _) | refine Up.trans ?_ (Go.RowKit.Hid.out (by assumption)))))).facts
         obtain ⟨c0, c1, -, -, lc⟩ := (HNC.out.up (w' := w41) (by (repeat (first | exact Below.refl _ _ | exact Go.RowKit.Hid.out (by assumption) | refine Up.trans ?_ (Up.drew _) | refine Up.trans ?_ (Up.drewN _ _) | refine Up.trans ?_ (Up.alloc _ _) | refine Up.trans ?_ (Go.RowKit.Hid.out (by assumption)))))).facts)
      | (go_at_call 17
         refine Calls.mono (HVc.out _) ?_
         rintro e w40 ⟨rfl, hu⟩
         have HUw40 := Lib.hid hu
         clear hu
         obtain ⟨a0, a1, -, -, la⟩ := (HNA.out.up (w' := w40) (by (repeat (first | exact Below.refl _ _ | exact Go.RowKit.Hid.out (by assumption) | refine Up.trans ?_ (Up.drew _) | refine Up.trans ?_ (Up.drewN _ _) | refine Up.trans ?_ (Up.alloc _ _) | refine Up.trans ?_ (Go.RowKit.Hid.out (by assumption)))))).facts
         obtain ⟨b0, b1, -, -, lb⟩ := (HNB.out.up (w' := w40) (by (repeat (first | exact Below.refl _ _ | exact Go.RowKit.Hid.out (by assumption) | refine Up.trans ?_ (Up.drew _) | refine Up.trans ?_ (Up.drewN _ _) | refine Up.trans ?_ (Up.alloc _ _) | refine Up.trans ?_ (Go.RowKit.Hid.out (by assumption)))))).facts
         obtain ⟨c0, c1, -, -, lc⟩ := (HNC.out.up (w' := w40) (by (repeat (first | exact Below.refl _ _ | exact Go.RowKit.Hid.out (by assumption) | refine Up.trans ?_ (Up.drew _) | refine Up.trans ?_ (Up.drewN _ _) | refine Up.trans ?_ (Up.alloc _ _) | refine Up.trans ?_ (Go.RowKit.Hid.out (by assumption)))))).facts)))
  clear a0 a1 la b0 b1 lb c0 c1 lc
  obtain ⟨c0, c1, -, -, lc⟩ := (HNC.out.up (w' := w46) (by (repeat (first | exact Below.refl _ _ | exact Go.RowKit.Hid.out (by assumption) | refine Up.trans ?_ (Up.drew _) | refine Up.trans ?_ (Up.drewN _ _) | refine Up.trans ?_ (Up.alloc _ _) | refine Up.trans ?_ (Go.RowKit.Hid.out (by assumption)))))).facts
  obtain ⟨p0, p1, -, -, lp⟩ := (HNP.out.up (w' := w46) (by (repeat (first | exact Below.refl _ _ | exact Go.RowKit.Hid.out (by assumption) | refine Up.trans ?_ (Up.drew _) | refine Up.trans ?_ (Up.drewN _ _) | refine Up.trans ?_ (Up.alloc _ _) | refine Up.trans ?_ (Go.RowKit.Hid.out (by assumption)))))).facts
  rcases hl with hl | ⟨rfl, hl⟩
  · go_wp2_with fail
    refine Calls.mono (HW.out _ (by (repeat (first | exact Below.refl _ _ | exact Go.RowKit.Hid.out (by assumption) | refine Up.trans ?_ (Up.drew _) | refine Up.trans ?_ (Up.drewN _ _) | refine Up.trans ?_ (Up.alloc _ _) | refine Up.trans ?_ (Go.RowKit.Hid.out (by assumption)))))) ?_
    rintro e w9 ⟨rfl, hu9⟩
    have HU9 := Lib.hid hu9
    clear hu9
    go_wp2
    go_ret
    exact ⟨rfl, by (repeat (first | exact Below.refl _ _ | exact Go.RowKit.Hid.out (by assumption) | refine Up.trans ?_ (Up.drew _) | refine Up.trans ?_ (Up.drewN _ _) | refine Up.trans ?_ (Up.alloc _ _) | refine Up.trans ?_ (Go.RowKit.Hid.out (by assumption))))⟩
  · have hn : ¬ z2 < z2 := by omega
    have hnd : decide (z2 < z2) = false := decide_eq_false hn
    go_wp2_with fail
    refine Calls.mono (HW.out _ (by (repeat (first | exact Below.refl _ _ | exact Go.RowKit.Hid.out (by assumption) | refine Up.trans ?_ (Up.drew _) | refine Up.trans ?_ (Up.drewN _ _) | refine Up.trans ?_ (Up.alloc _ _) | refine Up.trans ?_ (Go.RowKit.Hid.out (by assumption)))))) ?_
    rintro e w9 ⟨rfl, hu9⟩
    have HU9 := Lib.hid hu9
    clear hu9
    go_wp2
    go_ret
    exact ⟨rfl, by (repeat (first | exact Below.refl _ _ | exact Go.RowKit.Hid.out (by assumption) | refine Up.trans ?_ (Up.drew _) | refine Up.trans ?_ (Up.drewN _ _) | refine Up.trans ?_ (Up.alloc _ _) | refine Up.trans ?_ (Go.RowKit.Hid.out (by assumption))))⟩

end Go.Proofs.YtimlainffbpfdaaDoor