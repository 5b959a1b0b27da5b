/- Walks of a law. -/
import Derived.Test.YtimlainffbpfdaaDoorGBetw1
namespace Go.Proofs.YtimlainffbpfdaaDoor
open Go.RowKit Fm

theorem refBetween_btw {x1 y1 x2 y2 X Y E : Int} (h : Btw x1 y1 x2 y2 X Y E) (ha : Rng x1 y1) (hb : Rng x2 y2) (W : World) :
    Calls Tryd.prog 16 #[.agg #[.int .i64 x1, .int .i64 y1], .agg #[.int .i64 x2, .int .i64 y2]] W fun e w' => e = .returned (.tuple #[.agg #[.int .i64 X, .int .i64 Y], .int .i64 E]) ∧ Up W w' := by
  have hl := h.least
  cases h with
  | arg h => exact refBetween_arg x1 y1 x2 y2 W ha hb h
  | range h1 h2 h => exact refBetween_range x1 y1 x2 y2 W h1 h2 h
  | pos _ _ h1 h2 h hp s =>
    have b1 := ok_bounds h1
    have b2 := ok_bounds h2
    exact refBetween_pos x1 y1 x2 y2 X Y W h1 h2 h hp (fun W' u1 u2 k1 k2 => refSimplest_any s (prs_pos h1 h2 h hp) (by omega) (by omega) (by omega) (by omega) u1 u2 W' k1 k2) (hl rfl).2.2.1
  | neg X Y h1 h2 h hp hq s =>
    have b1 := ok_bounds h1
    have b2 := ok_bounds h2
    exact refBetween_neg x1 y1 x2 y2 X Y W h1 h2 h hp hq (fun W' u1 u2 k1 k2 => refSimplest_any s (prs_neg h1 h2 h hq) (by omega) (by omega) (by omega) (by omega) u1 u2 W' (ratOf_neg x2 y2 ▸ k1) (ratOf_neg x1 y1 ▸ k2)) (hl rfl).2.2.1
  | zero h1 h2 h hp hq => exact refBetween_zero x1 y1 x2 y2 W h1 h2 h hp hq

set_option maxHeartbeats 4000000 in
set_option maxRecDepth 10000 in
theorem betw_walk (x1 y1 x2 y2 X Y E : Int) (w : World)
    (HB : Hid (∀ W, Up w W → Calls Tryd.prog 15 #[.agg #[.int .i64 x1, .int .i64 y1], .agg #[.int .i64 x2, .int .i64 y2]] W fun e w' => e = .returned (.tuple #[.agg #[.int .i64 X, .int .i64 Y], .int .i64 E]) ∧ Up W w'))
    (HC : Hid (∀ W, Up w W → Calls Tryd.prog 16 #[.agg #[.int .i64 x1, .int .i64 y1], .agg #[.int .i64 x2, .int .i64 y2]] W fun e w' => e = .returned (.tuple #[.agg #[.int .i64 X, .int .i64 Y], .int .i64 E]) ∧ Up W w'))
    (HW : Hid (∀ W, Up w W → Calls Tryd.prog 14 #[] W fun e w' => e = .returned (.bool true) ∧ Up W w')) :
    Calls Tryd.prog 4 #[.agg #[.int .i64 x1, .int .i64 y1], .agg #[.int .i64 x2, .int .i64 y2]] w fun e w' => e = .returned (.bool true) ∧ Up w w' := by
  go_enter Tryd.func4, Tryd.ntmps4
  go_wp2_with fail
  obtain ⟨wB, hwB⟩ : ∃ wB, wB = (w.alloc (.cells #[.int .i64 x1, .int .i64 y1] 23)).alloc (.cells #[.int .i64 x2, .int .i64 y2] 23) := ⟨_, rfl⟩
  have HNA := Lib.hid (show CellN wB w.heap.size x1 y1 by rw [hwB]; exact (CellN.new w x1 y1).up (Up.alloc _ _))
  have HNB := Lib.hid (show CellN wB (w.heap.size + 1) x2 y2 by rw [hwB]; have := CellN.new (w.alloc (.cells #[.int .i64 x1, .int .i64 y1] 23)) x2 y2; simpa using this)
  have HU := Lib.hid (show Up w wB by rw [hwB]; exact (Up.alloc _ _).trans (Up.alloc _ _))
  rw [← hwB]
  clear hwB
  refine Calls.mono (HB.out _ (by (repeat (first | exact Below.refl _ _ | exact Go.RowKit.Hid.out (by assumption) | refine Up.trans ?_ (Up.drew _) | refine Up.trans ?_ (Up.drewN _ _) | refine Up.trans ?_ (Up.alloc _ _) | refine Up.trans ?_ (Go.RowKit.Hid.out (by assumption)))))) ?_
  rintro e w1 ⟨rfl, hu1⟩
  have HU1 := Lib.hid hu1
  clear hu1
  obtain ⟨wC, hwC⟩ : ∃ wC, wC = w1.alloc (.cells #[.int .i64 X, .int .i64 Y] 23) := ⟨_, rfl⟩
  have HNP := Lib.hid (show CellN wC w1.heap.size X Y by rw [hwC]; exact CellN.new _ _ _)
  have HUC := Lib.hid (show Up w1 wC by rw [hwC]; exact Up.alloc _ _)
  obtain ⟨a0, a1, -, -, la⟩ := (HNA.out.up (w' := wC) (by (repeat (first | exact Below.refl _ _ | exact Go.RowKit.Hid.out (by assumption) | refine Up.trans ?_ (Up.drew _) | refine Up.trans ?_ (Up.drewN _ _) | refine Up.trans ?_ (Up.alloc _ _) | refine Up.trans ?_ (Go.RowKit.Hid.out (by assumption)))))).facts
  obtain ⟨b0, b1, -, -, lb⟩ := (HNB.out.up (w' := wC) (by (repeat (first | exact Below.refl _ _ | exact Go.RowKit.Hid.out (by assumption) | refine Up.trans ?_ (Up.drew _) | refine Up.trans ?_ (Up.drewN _ _) | refine Up.trans ?_ (Up.alloc _ _) | refine Up.trans ?_ (Go.RowKit.Hid.out (by assumption)))))).facts
  rw [hwC] at a0 a1 b0 b1
  go_wp2_with fail
  rw [← hwC]
  clear hwC a0 a1 b0 b1 la lb
  refine Calls.mono (HC.out _ (by (repeat (first | exact Below.refl _ _ | exact Go.RowKit.Hid.out (by assumption) | refine Up.trans ?_ (Up.drew _) | refine Up.trans ?_ (Up.drewN _ _) | refine Up.trans ?_ (Up.alloc _ _) | refine Up.trans ?_ (Go.RowKit.Hid.out (by assumption)))))) ?_
  rintro e w2 ⟨rfl, hu2⟩
  have HU2 := Lib.hid hu2
  clear hu2
  obtain ⟨wD, hwD⟩ : ∃ wD, wD = w2.alloc (.cells #[.int .i64 X, .int .i64 Y] 23) := ⟨_, rfl⟩
  have HNQ := Lib.hid (show CellN wD w2.heap.size X Y by rw [hwD]; exact CellN.new _ _ _)
  have HUD := Lib.hid (show Up w2 wD by rw [hwD]; exact Up.alloc _ _)
  obtain ⟨p0, p1, -, -, lp⟩ := (HNP.out.up (w' := wD) (by (repeat (first | exact Below.refl _ _ | exact Go.RowKit.Hid.out (by assumption) | refine Up.trans ?_ (Up.drew _) | refine Up.trans ?_ (Up.drewN _ _) | refine Up.trans ?_ (Up.alloc _ _) | refine Up.trans ?_ (Go.RowKit.Hid.out (by assumption)))))).facts
  obtain ⟨q0, q1, -, -, lq⟩ := HNQ.out.facts
  rw [hwD] at p0 p1 q0 q1
  go_wp2_with fail
  rw [← hwD]
  clear hwD p0 p1 q0 q1 lp lq
  refine Calls.mono (HW.out _ (by (repeat (first | exact Below.refl _ _ | exact Go.RowKit.Hid.out (by assumption) | refine Up.trans ?_ (Up.drew _) | refine Up.trans ?_ (Up.drewN _ _) | refine Up.trans ?_ (Up.alloc _ _) | refine Up.trans ?_ (Go.RowKit.Hid.out (by assumption)))))) ?_
  rintro e w9 ⟨rfl, hu9⟩
  have HU9 := Lib.hid hu9
  clear hu9
  go_wp2
  go_ret
  exact ⟨rfl, by (repeat (first | exact Below.refl _ _ | exact Go.RowKit.Hid.out (by assumption) | refine Up.trans ?_ (Up.drew _) | refine Up.trans ?_ (Up.drewN _ _) | refine Up.trans ?_ (Up.alloc _ _) | refine Up.trans ?_ (Go.RowKit.Hid.out (by assumption))))⟩

set_option maxRecDepth 10000 in
theorem numBetw_any (x1 y1 x2 y2 : Int) (w : World) (ha : Rng x1 y1) (hb : Rng x2 y2) (ht : Tab w) :
    Calls Tryd.prog 4 #[.agg #[.int .i64 x1, .int .i64 y1], .agg #[.int .i64 x2, .int .i64 y2]] w fun e w' => e = .returned (.bool true) ∧ Up w w' := by
  have HW := Lib.hid (fun W (hu : Up w W) => awake_any W (ht.up hu))
  obtain ⟨X, Y, E, hB, HB⟩ := numBetween_any x1 y1 x2 y2 w ha hb ht
  exact betw_walk x1 y1 x2 y2 X Y E w HB (Lib.hid fun W _ => refBetween_btw hB ha hb W) HW
end Go.Proofs.YtimlainffbpfdaaDoor
