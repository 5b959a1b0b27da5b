/- Walks of a law. -/
import Derived.Test.YtimlainffbpfdaaDoorGI
import Derived.Test.YtimlainffbpfdaaDoorGQ
namespace Go.Proofs.YtimlainffbpfdaaDoor
open Go.RowKit Fm

set_option maxHeartbeats 4000000 in
set_option maxRecDepth 10000 in
theorem makes_walk (a1 b1 c1 c2 X Y E F G C D : Int) (w : World)
    (HM1 : Hid (∀ W, Up w W → Calls Tryd.prog 8 #[.int .i64 a1, .int .i64 b1] W fun e w' => e = .returned (.tuple #[.agg #[.int .i64 X, .int .i64 Y], .int .i64 E]) ∧ Up W w'))
    (HM2 : Hid (∀ W, Up w W → Calls Tryd.prog 9 #[.int .i64 a1, .int .i64 b1] W fun e w' => e = .returned (.tuple #[.agg #[.int .i64 X, .int .i64 Y], .int .i64 E]) ∧ Up W w'))
    (HF1 : Hid (∀ W, Up w W → Calls Tryd.prog 10 #[.agg #[.int .i64 c1, .int .i64 c2]] W fun e w' => e = .returned (.tuple #[.int .i64 F, .int .i64 G]) ∧ Up W w'))
    (HF2 : Hid (∀ W, Up w W → Calls Tryd.prog 11 #[.agg #[.int .i64 c1, .int .i64 c2]] W fun e w' => e = .returned (.tuple #[.int .i64 F, .int .i64 G]) ∧ Up W w'))
    (HC1 : Hid (∀ W, Up w W → Calls Tryd.prog 12 #[.agg #[.int .i64 c1, .int .i64 c2]] W fun e w' => e = .returned (.tuple #[.int .i64 C, .int .i64 D]) ∧ Up W w'))
    (HC2 : Hid (∀ W, Up w W → Calls Tryd.prog 13 #[.agg #[.int .i64 c1, .int .i64 c2]] W fun e w' => e = .returned (.tuple #[.int .i64 C, .int .i64 D]) ∧ Up W w'))
    (HW : Hid (∀ W, Up w W → Calls Tryd.prog 14 #[] W fun e w' => e = .returned (.bool true) ∧ Up W w')) :
    Calls Tryd.prog 3 #[.int .i64 a1, .int .i64 b1, .agg #[.int .i64 c1, .int .i64 c2]] w fun e w' => e = .returned (.bool true) ∧ Up w w' := by
  go_enter Tryd.func3, Tryd.ntmps3
  go_wp2_with fail
  have HNC := Lib.hid (CellN.new w c1 c2)
  have HU := Lib.hid (Up.alloc w (.cells #[.int .i64 c1, .int .i64 c2] 23))
  generalize w.alloc (.cells #[.int .i64 c1, .int .i64 c2] 23) = wB at *
  refine Calls.mono (HM1.out _ (by (repeat (first | exact Below.refl _ _ | exact Go.RowKit.Hid.out (by assumption) | refine Up.trans ?_ (Up.drew _) | refine Up.trans ?_ (Up.drewN _ _) | refine Up.trans ?_ (Up.alloc _ _) | refine Up.trans ?_ (Go.RowKit.Hid.out (by assumption)))))) ?_
  rintro e w1 ⟨rfl, hu1⟩
  have HU1 := Lib.hid hu1
  clear hu1
  go_wp2_with fail
  have HNP := Lib.hid (CellN.new w1 X Y)
  have HUA := Lib.hid (Up.alloc w1 (.cells #[.int .i64 X, .int .i64 Y] 23))
  generalize w1.alloc (.cells #[.int .i64 X, .int .i64 Y] 23) = w1a at *
  refine Calls.mono (HM2.out _ (by (repeat (first | exact Below.refl _ _ | exact Go.RowKit.Hid.out (by assumption) | refine Up.trans ?_ (Up.drew _) | refine Up.trans ?_ (Up.drewN _ _) | refine Up.trans ?_ (Up.alloc _ _) | refine Up.trans ?_ (Go.RowKit.Hid.out (by assumption)))))) ?_
  rintro e w2 ⟨rfl, hu2⟩
  have HU2 := Lib.hid hu2
  clear hu2
  obtain ⟨wC, hwC⟩ : ∃ wC, wC = w2.alloc (.cells #[.int .i64 X, .int .i64 Y] 23) := ⟨_, rfl⟩
  have HNQ := Lib.hid (show CellN wC w2.heap.size X Y by rw [hwC]; exact CellN.new _ _ _)
  have HUB := Lib.hid (show Up w2 wC by rw [hwC]; exact Up.alloc _ _)
  obtain ⟨c0, c1', -, -, lc⟩ := (HNC.out.up (w' := wC) (by (repeat (first | exact Below.refl _ _ | exact Go.RowKit.Hid.out (by assumption) | refine Up.trans ?_ (Up.drew _) | refine Up.trans ?_ (Up.drewN _ _) | refine Up.trans ?_ (Up.alloc _ _) | refine Up.trans ?_ (Go.RowKit.Hid.out (by assumption)))))).facts
  rw [hwC] at c0 c1'
  go_wp2_with fail
  rw [← hwC]
  clear c0 c1' lc hwC
  refine Calls.mono (HF1.out _ (by (repeat (first | exact Below.refl _ _ | exact Go.RowKit.Hid.out (by assumption) | refine Up.trans ?_ (Up.drew _) | refine Up.trans ?_ (Up.drewN _ _) | refine Up.trans ?_ (Up.alloc _ _) | refine Up.trans ?_ (Go.RowKit.Hid.out (by assumption)))))) ?_
  rintro e w3 ⟨rfl, hu3⟩
  have HU3 := Lib.hid hu3
  clear hu3
  obtain ⟨c0, c1', -, -, lc⟩ := (HNC.out.up (w' := w3) (by (repeat (first | exact Below.refl _ _ | exact Go.RowKit.Hid.out (by assumption) | refine Up.trans ?_ (Up.drew _) | refine Up.trans ?_ (Up.drewN _ _) | refine Up.trans ?_ (Up.alloc _ _) | refine Up.trans ?_ (Go.RowKit.Hid.out (by assumption)))))).facts
  go_wp2_with fail
  clear c0 c1' lc
  refine Calls.mono (HF2.out _ (by (repeat (first | exact Below.refl _ _ | exact Go.RowKit.Hid.out (by assumption) | refine Up.trans ?_ (Up.drew _) | refine Up.trans ?_ (Up.drewN _ _) | refine Up.trans ?_ (Up.alloc _ _) | refine Up.trans ?_ (Go.RowKit.Hid.out (by assumption)))))) ?_
  rintro e w4 ⟨rfl, hu4⟩
  have HU4 := Lib.hid hu4
  clear hu4
  obtain ⟨c0, c1', -, -, lc⟩ := (HNC.out.up (w' := w4) (by (repeat (first | exact Below.refl _ _ | exact Go.RowKit.Hid.out (by assumption) | refine Up.trans ?_ (Up.drew _) | refine Up.trans ?_ (Up.drewN _ _) | refine Up.trans ?_ (Up.alloc _ _) | refine Up.trans ?_ (Go.RowKit.Hid.out (by assumption)))))).facts
  go_wp2_with fail
  clear c0 c1' lc
  refine Calls.mono (HC1.out _ (by (repeat (first | exact Below.refl _ _ | exact Go.RowKit.Hid.out (by assumption) | refine Up.trans ?_ (Up.drew _) | refine Up.trans ?_ (Up.drewN _ _) | refine Up.trans ?_ (Up.alloc _ _) | refine Up.trans ?_ (Go.RowKit.Hid.out (by assumption)))))) ?_
  rintro e w5 ⟨rfl, hu5⟩
  have HU5 := Lib.hid hu5
  clear hu5
  obtain ⟨c0, c1', -, -, lc⟩ := (HNC.out.up (w' := w5) (by (repeat (first | exact Below.refl _ _ | exact Go.RowKit.Hid.out (by assumption) | refine Up.trans ?_ (Up.drew _) | refine Up.trans ?_ (Up.drewN _ _) | refine Up.trans ?_ (Up.alloc _ _) | refine Up.trans ?_ (Go.RowKit.Hid.out (by assumption)))))).facts
  go_wp2_with fail
  clear c0 c1' lc
  refine Calls.mono (HC2.out _ (by (repeat (first | exact Below.refl _ _ | exact Go.RowKit.Hid.out (by assumption) | refine Up.trans ?_ (Up.drew _) | refine Up.trans ?_ (Up.drewN _ _) | refine Up.trans ?_ (Up.alloc _ _) | refine Up.trans ?_ (Go.RowKit.Hid.out (by assumption)))))) ?_
  rintro e w6 ⟨rfl, hu6⟩
  have HU6 := Lib.hid hu6
  clear hu6
  obtain ⟨p0, p1, -, -, lp⟩ := (HNP.out.up (w' := w6) (by (repeat (first | exact Below.refl _ _ | exact Go.RowKit.Hid.out (by assumption) | refine Up.trans ?_ (Up.drew _) | refine Up.trans ?_ (Up.drewN _ _) | refine Up.trans ?_ (Up.alloc _ _) | refine Up.trans ?_ (Go.RowKit.Hid.out (by assumption)))))).facts
  obtain ⟨q0, q1, -, -, lq⟩ := (HNQ.out.up (w' := w6) (by (repeat (first | exact Below.refl _ _ | exact Go.RowKit.Hid.out (by assumption) | refine Up.trans ?_ (Up.drew _) | refine Up.trans ?_ (Up.drewN _ _) | refine Up.trans ?_ (Up.alloc _ _) | refine Up.trans ?_ (Go.RowKit.Hid.out (by assumption)))))).facts
  go_wp2_with fail
  refine Calls.mono (HW.out _ (by (repeat (first | exact Below.refl _ _ | exact Go.RowKit.Hid.out (by assumption) | refine Up.trans ?_ (Up.drew _) | refine Up.trans ?_ (Up.drewN _ _) | refine Up.trans ?_ (Up.alloc _ _) | refine Up.trans ?_ (Go.RowKit.Hid.out (by assumption)))))) ?_
  rintro e w9 ⟨rfl, hu9⟩
  have HU9 := Lib.hid hu9
  clear hu9
  go_wp2
  go_ret
  exact ⟨rfl, by (repeat (first | exact Below.refl _ _ | exact Go.RowKit.Hid.out (by assumption) | refine Up.trans ?_ (Up.drew _) | refine Up.trans ?_ (Up.drewN _ _) | refine Up.trans ?_ (Up.alloc _ _) | refine Up.trans ?_ (Go.RowKit.Hid.out (by assumption))))⟩

set_option maxRecDepth 10000 in
theorem numMakes_any (a1 b1 c1 c2 : Int) (w : World) (ha1 : -9223372036854775808 ≤ a1) (ha2 : a1 ≤ 9223372036854775807) (hb1 : -9223372036854775808 ≤ b1) (hb2 : b1 ≤ 9223372036854775807) (hc : Rng c1 c2) (ht : Tab w) :
    Calls Tryd.prog 3 #[.int .i64 a1, .int .i64 b1, .agg #[.int .i64 c1, .int .i64 c2]] w fun e w' => e = .returned (.bool true) ∧ Up w w' := by
  have HW := Lib.hid (fun W (hu : Up w W) => awake_any W (ht.up hu))
  by_cases h0 : b1 = 0
  · subst h0
    exact makes_walk a1 0 c1 c2 0 0 6 _ _ _ _ w (Lib.hid (fun W hu => numMake_none a1 W)) (Lib.hid (fun W hu => refFraction_none a1 W)) (Lib.hid (fun W hu => numFloor_any c1 c2 W hc (ht.up hu))) (Lib.hid (fun W hu => refFloor_any c1 c2 W hc))
      (Lib.hid (fun W hu => numCeil_any c1 c2 W hc (ht.up hu))) (Lib.hid (fun W hu => refCeil_any c1 c2 W hc)) HW
  · exact makes_walk a1 b1 c1 c2 _ _ _ _ _ _ _ w (Lib.hid (fun W hu => numMake_ok a1 b1 W ⟨ha1, ha2, hb1, hb2⟩ h0 (ht.up hu))) (Lib.hid (fun W hu => refFraction_ok a1 b1 W ⟨ha1, ha2, hb1, hb2⟩ h0)) (Lib.hid (fun W hu => numFloor_any c1 c2 W hc (ht.up hu))) (Lib.hid (fun W hu => refFloor_any c1 c2 W hc))
      (Lib.hid (fun W hu => numCeil_any c1 c2 W hc (ht.up hu))) (Lib.hid (fun W hu => refCeil_any c1 c2 W hc)) HW
end Go.Proofs.YtimlainffbpfdaaDoor
