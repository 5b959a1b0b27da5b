/- Walks of a law. -/
import Derived.Test.YtgcmogldiahdpaaGreatDoorGTxt5
import Derived.Deep.RegionWith
namespace Go.Proofs.YtgcmogldiahdpaaGreatDoor
open Go.RowKit Fm
theorem CellN.far {w : World} {g g' : Nat} {x y : Int} (h : CellN w g x y) (hne : g ≠ g') (u v : Value) : CellN ((w.setCell ⟨g', 0, none⟩ u).setCell ⟨g', 1, none⟩ v) g x y := by
  unfold CellN at *
  rw [Below.heap_setCell _ ⟨g', 1, none⟩ v g hne, Below.heap_setCell _ ⟨g', 0, none⟩ u g hne]
  exact h

set_option maxHeartbeats 4000000 in
set_option maxRecDepth 10000 in
theorem parse_f_top (bs us top low : List UInt8) (neg : Bool) (w : World)
    (HCP : Hid (∀ W, Up w W → Calls Tryz.prog 60 #[.string ⟨bs.toArray⟩, .string ⟨#[45]⟩] W fun e w' => e = .returned (.tuple #[.string ⟨us.toArray⟩, .bool neg]) ∧ Up W w'))
    (HCU : Hid (∀ W, Up w W → Calls Tryz.prog 61 #[.string ⟨us.toArray⟩, .string ⟨#[47]⟩] W fun e w' => e = .returned (.tuple #[.string ⟨top.toArray⟩, .string ⟨low.toArray⟩, .bool true]) ∧ Up W w'))
    (HI1 : Hid (∀ W, Up w W → Calls Tryz.prog 62 #[.string ⟨top.toArray⟩] W fun e w' => e = .returned (.bool false) ∧ Up W w')) :
    Calls Tryz.prog 14 #[.string ⟨bs.toArray⟩] w fun e w' => e = .returned (.tuple #[.agg #[.int .i64 0, .int .i64 0], .int .i64 4]) ∧ Up w w' := by
  go_enter Tryz.func14, Tryz.ntmps14
  go_wp2_with fail
  have HR := Lib.hid (CellN.new w 0 0)
  have HU := Lib.hid (Up.alloc w (.cells #[.int .i64 0, .int .i64 0] 23))
  generalize w.alloc (.cells #[.int .i64 0, .int .i64 0] 23) = wB at *
  refine Calls.mono (HCP.out _ (by (repeat (first | exact Below.refl _ _ | exact Go.RowKit.Hid.out (by assumption) | refine Up.trans ?_ (Up.drew _) | refine Up.trans ?_ (Up.drewN _ _) | refine Up.trans ?_ (Up.alloc _ _) | refine Up.trans ?_ (Go.RowKit.Hid.out (by assumption)))))) ?_
  rintro e w1 ⟨rfl, hu⟩
  have HUw1 := Lib.hid hu
  clear hu
  go_wp2_with fail
  refine Calls.mono (HCU.out _ (by (repeat (first | exact Below.refl _ _ | exact Go.RowKit.Hid.out (by assumption) | refine Up.trans ?_ (Up.drew _) | refine Up.trans ?_ (Up.drewN _ _) | refine Up.trans ?_ (Up.alloc _ _) | refine Up.trans ?_ (Go.RowKit.Hid.out (by assumption)))))) ?_
  rintro e w2 ⟨rfl, hu⟩
  have HUw2 := Lib.hid hu
  clear hu
  go_wp2_with fail
  refine Calls.mono (HI1.out _ (by (repeat (first | exact Below.refl _ _ | exact Go.RowKit.Hid.out (by assumption) | refine Up.trans ?_ (Up.drew _) | refine Up.trans ?_ (Up.drewN _ _) | refine Up.trans ?_ (Up.alloc _ _) | refine Up.trans ?_ (Go.RowKit.Hid.out (by assumption)))))) ?_
  rintro e w3 ⟨rfl, hu⟩
  have HUw3 := Lib.hid hu
  clear hu
  have HR8 := Lib.hid (HR.out.up (w' := w3) (by (repeat (first | exact Below.refl _ _ | exact Go.RowKit.Hid.out (by assumption) | refine Up.trans ?_ (Up.drew _) | refine Up.trans ?_ (Up.drewN _ _) | refine Up.trans ?_ (Up.alloc _ _) | refine Up.trans ?_ (Go.RowKit.Hid.out (by assumption))))))
  obtain ⟨r0, r1, g0, g1, lr⟩ := HR8.out.facts
  have HFF := Lib.hid ((HR8.out.set 0 0).facts)
  have HUF := Lib.hid ((show Up w w3 by (repeat (first | exact Below.refl _ _ | exact Go.RowKit.Hid.out (by assumption) | refine Up.trans ?_ (Up.drew _) | refine Up.trans ?_ (Up.drewN _ _) | refine Up.trans ?_ (Up.alloc _ _) | refine Up.trans ?_ (Go.RowKit.Hid.out (by assumption))))).stored (show w.heap.size ≤ w.heap.size by omega) (.int .i64 0) (.int .i64 0))
  go_wp2
  obtain ⟨z0, z1, -, -, -⟩ := HFF.out
  refine bodyPost_ret (by simp [results, Tryz.results14, go_sem, z0, z1]; try rfl) rfl ?_
  exact ⟨rfl, HUF.out⟩

set_option maxHeartbeats 4000000 in
set_option maxRecDepth 10000 in
theorem parse_f_low (bs us top low : List UInt8) (neg : Bool) (w : World)
    (HCP : Hid (∀ W, Up w W → Calls Tryz.prog 60 #[.string ⟨bs.toArray⟩, .string ⟨#[45]⟩] W fun e w' => e = .returned (.tuple #[.string ⟨us.toArray⟩, .bool neg]) ∧ Up W w'))
    (HCU : Hid (∀ W, Up w W → Calls Tryz.prog 61 #[.string ⟨us.toArray⟩, .string ⟨#[47]⟩] W fun e w' => e = .returned (.tuple #[.string ⟨top.toArray⟩, .string ⟨low.toArray⟩, .bool true]) ∧ Up W w'))
    (HI1 : Hid (∀ W, Up w W → Calls Tryz.prog 62 #[.string ⟨top.toArray⟩] W fun e w' => e = .returned (.bool true) ∧ Up W w'))
    (HI2 : Hid (∀ W, Up w W → Calls Tryz.prog 62 #[.string ⟨low.toArray⟩] W fun e w' => e = .returned (.bool false) ∧ Up W w')) :
    Calls Tryz.prog 14 #[.string ⟨bs.toArray⟩] w fun e w' => e = .returned (.tuple #[.agg #[.int .i64 0, .int .i64 0], .int .i64 4]) ∧ Up w w' := by
  go_enter Tryz.func14, Tryz.ntmps14
  go_wp2_with fail
  have HR := Lib.hid (CellN.new w 0 0)
  have HU := Lib.hid (Up.alloc w (.cells #[.int .i64 0, .int .i64 0] 23))
  generalize w.alloc (.cells #[.int .i64 0, .int .i64 0] 23) = wB at *
  refine Calls.mono (HCP.out _ (by (repeat (first | exact Below.refl _ _ | exact Go.RowKit.Hid.out (by assumption) | refine Up.trans ?_ (Up.drew _) | refine Up.trans ?_ (Up.drewN _ _) | refine Up.trans ?_ (Up.alloc _ _) | refine Up.trans ?_ (Go.RowKit.Hid.out (by assumption)))))) ?_
  rintro e w1 ⟨rfl, hu⟩
  have HUw1 := Lib.hid hu
  clear hu
  go_wp2_with fail
  refine Calls.mono (HCU.out _ (by (repeat (first | exact Below.refl _ _ | exact Go.RowKit.Hid.out (by assumption) | refine Up.trans ?_ (Up.drew _) | refine Up.trans ?_ (Up.drewN _ _) | refine Up.trans ?_ (Up.alloc _ _) | refine Up.trans ?_ (Go.RowKit.Hid.out (by assumption)))))) ?_
  rintro e w2 ⟨rfl, hu⟩
  have HUw2 := Lib.hid hu
  clear hu
  go_wp2_with fail
  refine Calls.mono (HI1.out _ (by (repeat (first | exact Below.refl _ _ | exact Go.RowKit.Hid.out (by assumption) | refine Up.trans ?_ (Up.drew _) | refine Up.trans ?_ (Up.drewN _ _) | refine Up.trans ?_ (Up.alloc _ _) | refine Up.trans ?_ (Go.RowKit.Hid.out (by assumption)))))) ?_
  rintro e w3 ⟨rfl, hu⟩
  have HUw3 := Lib.hid hu
  clear hu
  go_wp2_with fail
  refine Calls.mono (HI2.out _ (by (repeat (first | exact Below.refl _ _ | exact Go.RowKit.Hid.out (by assumption) | refine Up.trans ?_ (Up.drew _) | refine Up.trans ?_ (Up.drewN _ _) | refine Up.trans ?_ (Up.alloc _ _) | refine Up.trans ?_ (Go.RowKit.Hid.out (by assumption)))))) ?_
  rintro e w4 ⟨rfl, hu⟩
  have HUw4 := Lib.hid hu
  clear hu
  have HR8 := Lib.hid (HR.out.up (w' := w4) (by (repeat (first | exact Below.refl _ _ | exact Go.RowKit.Hid.out (by assumption) | refine Up.trans ?_ (Up.drew _) | refine Up.trans ?_ (Up.drewN _ _) | refine Up.trans ?_ (Up.alloc _ _) | refine Up.trans ?_ (Go.RowKit.Hid.out (by assumption))))))
  obtain ⟨r0, r1, g0, g1, lr⟩ := HR8.out.facts
  have HFF := Lib.hid ((HR8.out.set 0 0).facts)
  have HUF := Lib.hid ((show Up w w4 by (repeat (first | exact Below.refl _ _ | exact Go.RowKit.Hid.out (by assumption) | refine Up.trans ?_ (Up.drew _) | refine Up.trans ?_ (Up.drewN _ _) | refine Up.trans ?_ (Up.alloc _ _) | refine Up.trans ?_ (Go.RowKit.Hid.out (by assumption))))).stored (show w.heap.size ≤ w.heap.size by omega) (.int .i64 0) (.int .i64 0))
  go_wp2
  obtain ⟨z0, z1, -, -, -⟩ := HFF.out
  refine bodyPost_ret (by simp [results, Tryz.results14, go_sem, z0, z1]; try rfl) rfl ?_
  exact ⟨rfl, HUF.out⟩

set_option maxHeartbeats 4000000 in
set_option maxRecDepth 10000 in
theorem parse_f_zero (tz : List UInt8) (hz : tz.isEmpty = true) (bs us top low : List UInt8) (neg : Bool) (w : World)
    (HCP : Hid (∀ W, Up w W → Calls Tryz.prog 60 #[.string ⟨bs.toArray⟩, .string ⟨#[45]⟩] W fun e w' => e = .returned (.tuple #[.string ⟨us.toArray⟩, .bool neg]) ∧ Up W w'))
    (HCU : Hid (∀ W, Up w W → Calls Tryz.prog 61 #[.string ⟨us.toArray⟩, .string ⟨#[47]⟩] W fun e w' => e = .returned (.tuple #[.string ⟨top.toArray⟩, .string ⟨low.toArray⟩, .bool true]) ∧ Up W w'))
    (HI1 : Hid (∀ W, Up w W → Calls Tryz.prog 62 #[.string ⟨top.toArray⟩] W fun e w' => e = .returned (.bool true) ∧ Up W w'))
    (HI2 : Hid (∀ W, Up w W → Calls Tryz.prog 62 #[.string ⟨low.toArray⟩] W fun e w' => e = .returned (.bool true) ∧ Up W w'))
    (HTZ : Hid (∀ W, Up w W → Calls Tryz.prog 63 #[.string ⟨low.toArray⟩, .string ⟨#[48]⟩] W fun e w' => e = .returned (.string ⟨tz.toArray⟩) ∧ Up W w')) :
    Calls Tryz.prog 14 #[.string ⟨bs.toArray⟩] w fun e w' => e = .returned (.tuple #[.agg #[.int .i64 0, .int .i64 0], .int .i64 4]) ∧ Up w w' := by
  go_enter Tryz.func14, Tryz.ntmps14
  go_wp2_with fail
  have HR := Lib.hid (CellN.new w 0 0)
  have HU := Lib.hid (Up.alloc w (.cells #[.int .i64 0, .int .i64 0] 23))
  generalize w.alloc (.cells #[.int .i64 0, .int .i64 0] 23) = wB at *
  refine Calls.mono (HCP.out _ (by (repeat (first | exact Below.refl _ _ | exact Go.RowKit.Hid.out (by assumption) | refine Up.trans ?_ (Up.drew _) | refine Up.trans ?_ (Up.drewN _ _) | refine Up.trans ?_ (Up.alloc _ _) | refine Up.trans ?_ (Go.RowKit.Hid.out (by assumption)))))) ?_
  rintro e w1 ⟨rfl, hu⟩
  have HUw1 := Lib.hid hu
  clear hu
  go_wp2_with fail
  refine Calls.mono (HCU.out _ (by (repeat (first | exact Below.refl _ _ | exact Go.RowKit.Hid.out (by assumption) | refine Up.trans ?_ (Up.drew _) | refine Up.trans ?_ (Up.drewN _ _) | refine Up.trans ?_ (Up.alloc _ _) | refine Up.trans ?_ (Go.RowKit.Hid.out (by assumption)))))) ?_
  rintro e w2 ⟨rfl, hu⟩
  have HUw2 := Lib.hid hu
  clear hu
  go_wp2_with fail
  refine Calls.mono (HI1.out _ (by (repeat (first | exact Below.refl _ _ | exact Go.RowKit.Hid.out (by assumption) | refine Up.trans ?_ (Up.drew _) | refine Up.trans ?_ (Up.drewN _ _) | refine Up.trans ?_ (Up.alloc _ _) | refine Up.trans ?_ (Go.RowKit.Hid.out (by assumption)))))) ?_
  rintro e w3 ⟨rfl, hu⟩
  have HUw3 := Lib.hid hu
  clear hu
  go_wp2_with fail
  refine Calls.mono (HI2.out _ (by (repeat (first | exact Below.refl _ _ | exact Go.RowKit.Hid.out (by assumption) | refine Up.trans ?_ (Up.drew _) | refine Up.trans ?_ (Up.drewN _ _) | refine Up.trans ?_ (Up.alloc _ _) | refine Up.trans ?_ (Go.RowKit.Hid.out (by assumption)))))) ?_
  rintro e w4 ⟨rfl, hu⟩
  have HUw4 := Lib.hid hu
  clear hu
  go_wp2_with fail
  refine Calls.mono (HTZ.out _ (by (repeat (first | exact Below.refl _ _ | exact Go.RowKit.Hid.out (by assumption) | refine Up.trans ?_ (Up.drew _) | refine Up.trans ?_ (Up.drewN _ _) | refine Up.trans ?_ (Up.alloc _ _) | refine Up.trans ?_ (Go.RowKit.Hid.out (by assumption)))))) ?_
  rintro e w5 ⟨rfl, hu⟩
  have HUw5 := Lib.hid hu
  clear hu
  have HR8 := Lib.hid (HR.out.up (w' := w5) (by (repeat (first | exact Below.refl _ _ | exact Go.RowKit.Hid.out (by assumption) | refine Up.trans ?_ (Up.drew _) | refine Up.trans ?_ (Up.drewN _ _) | refine Up.trans ?_ (Up.alloc _ _) | refine Up.trans ?_ (Go.RowKit.Hid.out (by assumption))))))
  obtain ⟨r0, r1, g0, g1, lr⟩ := HR8.out.facts
  have HFF := Lib.hid ((HR8.out.set 0 0).facts)
  have HUF := Lib.hid ((show Up w w5 by (repeat (first | exact Below.refl _ _ | exact Go.RowKit.Hid.out (by assumption) | refine Up.trans ?_ (Up.drew _) | refine Up.trans ?_ (Up.drewN _ _) | refine Up.trans ?_ (Up.alloc _ _) | refine Up.trans ?_ (Go.RowKit.Hid.out (by assumption))))).stored (show w.heap.size ≤ w.heap.size by omega) (.int .i64 0) (.int .i64 0))
  go_wp2
  obtain ⟨z0, z1, -, -, -⟩ := HFF.out
  refine bodyPost_ret (by simp [results, Tryz.results14, go_sem, z0, z1]; try rfl) rfl ?_
  exact ⟨rfl, HUF.out⟩

set_option maxHeartbeats 4000000 in
set_option maxRecDepth 10000 in
theorem parse_f_long (tz : List UInt8) (bs us top low : List UInt8) (neg : Bool) (w : World)
    (HCP : Hid (∀ W, Up w W → Calls Tryz.prog 60 #[.string ⟨bs.toArray⟩, .string ⟨#[45]⟩] W fun e w' => e = .returned (.tuple #[.string ⟨us.toArray⟩, .bool neg]) ∧ Up W w'))
    (HCU : Hid (∀ W, Up w W → Calls Tryz.prog 61 #[.string ⟨us.toArray⟩, .string ⟨#[47]⟩] W fun e w' => e = .returned (.tuple #[.string ⟨top.toArray⟩, .string ⟨low.toArray⟩, .bool true]) ∧ Up W w'))
    (HI1 : Hid (∀ W, Up w W → Calls Tryz.prog 62 #[.string ⟨top.toArray⟩] W fun e w' => e = .returned (.bool true) ∧ Up W w'))
    (HI2 : Hid (∀ W, Up w W → Calls Tryz.prog 62 #[.string ⟨low.toArray⟩] W fun e w' => e = .returned (.bool true) ∧ Up W w'))
    (HTZ : Hid (∀ W, Up w W → Calls Tryz.prog 63 #[.string ⟨low.toArray⟩, .string ⟨#[48]⟩] W fun e w' => e = .returned (.string ⟨tz.toArray⟩) ∧ Up W w'))
    (hz : tz.isEmpty = false) (hl : 200 < bs.length)  :
    Calls Tryz.prog 14 #[.string ⟨bs.toArray⟩] w fun e w' => e = .returned (.tuple #[.agg #[.int .i64 0, .int .i64 0], .int .i64 3]) ∧ Up w w' := by
  have i1 : (200 : Int) < (bs.length : Int) := by omega
  clear hl
  go_enter Tryz.func14, Tryz.ntmps14
  go_wp2_with fail
  have HR := Lib.hid (CellN.new w 0 0)
  have HU := Lib.hid (Up.alloc w (.cells #[.int .i64 0, .int .i64 0] 23))
  generalize w.alloc (.cells #[.int .i64 0, .int .i64 0] 23) = wB at *
  refine Calls.mono (HCP.out _ (by (repeat (first | exact Below.refl _ _ | exact Go.RowKit.Hid.out (by assumption) | refine Up.trans ?_ (Up.drew _) | refine Up.trans ?_ (Up.drewN _ _) | refine Up.trans ?_ (Up.alloc _ _) | refine Up.trans ?_ (Go.RowKit.Hid.out (by assumption)))))) ?_
  rintro e w1 ⟨rfl, hu⟩
  have HUw1 := Lib.hid hu
  clear hu
  go_wp2_with fail
  refine Calls.mono (HCU.out _ (by (repeat (first | exact Below.refl _ _ | exact Go.RowKit.Hid.out (by assumption) | refine Up.trans ?_ (Up.drew _) | refine Up.trans ?_ (Up.drewN _ _) | refine Up.trans ?_ (Up.alloc _ _) | refine Up.trans ?_ (Go.RowKit.Hid.out (by assumption)))))) ?_
  rintro e w2 ⟨rfl, hu⟩
  have HUw2 := Lib.hid hu
  clear hu
  go_wp2_with fail
  refine Calls.mono (HI1.out _ (by (repeat (first | exact Below.refl _ _ | exact Go.RowKit.Hid.out (by assumption) | refine Up.trans ?_ (Up.drew _) | refine Up.trans ?_ (Up.drewN _ _) | refine Up.trans ?_ (Up.alloc _ _) | refine Up.trans ?_ (Go.RowKit.Hid.out (by assumption)))))) ?_
  rintro e w3 ⟨rfl, hu⟩
  have HUw3 := Lib.hid hu
  clear hu
  go_wp2_with fail
  refine Calls.mono (HI2.out _ (by (repeat (first | exact Below.refl _ _ | exact Go.RowKit.Hid.out (by assumption) | refine Up.trans ?_ (Up.drew _) | refine Up.trans ?_ (Up.drewN _ _) | refine Up.trans ?_ (Up.alloc _ _) | refine Up.trans ?_ (Go.RowKit.Hid.out (by assumption)))))) ?_
  rintro e w4 ⟨rfl, hu⟩
  have HUw4 := Lib.hid hu
  clear hu
  go_wp2_with fail
  refine Calls.mono (HTZ.out _ (by (repeat (first | exact Below.refl _ _ | exact Go.RowKit.Hid.out (by assumption) | refine Up.trans ?_ (Up.drew _) | refine Up.trans ?_ (Up.drewN _ _) | refine Up.trans ?_ (Up.alloc _ _) | refine Up.trans ?_ (Go.RowKit.Hid.out (by assumption)))))) ?_
  rintro e w5 ⟨rfl, hu⟩
  have HUw5 := Lib.hid hu
  clear hu
  have HR8 := Lib.hid (HR.out.up (w' := w5) (by (repeat (first | exact Below.refl _ _ | exact Go.RowKit.Hid.out (by assumption) | refine Up.trans ?_ (Up.drew _) | refine Up.trans ?_ (Up.drewN _ _) | refine Up.trans ?_ (Up.alloc _ _) | refine Up.trans ?_ (Go.RowKit.Hid.out (by assumption))))))
  obtain ⟨r0, r1, g0, g1, lr⟩ := HR8.out.facts
  have HFF := Lib.hid ((HR8.out.set 0 0).facts)
  have HUF := Lib.hid ((show Up w w5 by (repeat (first | exact Below.refl _ _ | exact Go.RowKit.Hid.out (by assumption) | refine Up.trans ?_ (Up.drew _) | refine Up.trans ?_ (Up.drewN _ _) | refine Up.trans ?_ (Up.alloc _ _) | refine Up.trans ?_ (Go.RowKit.Hid.out (by assumption))))).stored (show w.heap.size ≤ w.heap.size by omega) (.int .i64 0) (.int .i64 0))
  go_wp2
  obtain ⟨z0, z1, -, -, -⟩ := HFF.out
  refine bodyPost_ret (by simp [results, Tryz.results14, go_sem, z0, z1]; try rfl) rfl ?_
  exact ⟨rfl, HUF.out⟩

set_option maxHeartbeats 4000000 in
set_option maxRecDepth 10000 in
theorem parse_f_p (tz : List UInt8) (A B X Y E : Int) (q : Rat) (bs us top low : List UInt8) (w : World)
    (HCP : Hid (∀ W, Up w W → Calls Tryz.prog 60 #[.string ⟨bs.toArray⟩, .string ⟨#[45]⟩] W fun e w' => e = .returned (.tuple #[.string ⟨us.toArray⟩, .bool false]) ∧ Up W w'))
    (HCU : Hid (∀ W, Up w W → Calls Tryz.prog 61 #[.string ⟨us.toArray⟩, .string ⟨#[47]⟩] W fun e w' => e = .returned (.tuple #[.string ⟨top.toArray⟩, .string ⟨low.toArray⟩, .bool true]) ∧ Up W w'))
    (HI1 : Hid (∀ W, Up w W → Calls Tryz.prog 62 #[.string ⟨top.toArray⟩] W fun e w' => e = .returned (.bool true) ∧ Up W w'))
    (HI2 : Hid (∀ W, Up w W → Calls Tryz.prog 62 #[.string ⟨low.toArray⟩] W fun e w' => e = .returned (.bool true) ∧ Up W w'))
    (HTZ : Hid (∀ W, Up w W → Calls Tryz.prog 63 #[.string ⟨low.toArray⟩, .string ⟨#[48]⟩] W fun e w' => e = .returned (.string ⟨tz.toArray⟩) ∧ Up W w'))
    (HD1 : Hid (∀ W, Up w W → Calls Tryz.prog 64 #[.string ⟨top.toArray⟩] W fun e w' => ∃ v, e = .returned v ∧ IV w' v A ∧ Up W w'))
    (HD2 : Hid (∀ W, Up w W → Calls Tryz.prog 64 #[.string ⟨low.toArray⟩] W fun e w' => ∃ v, e = .returned v ∧ IV w' v B ∧ Up W w'))
    (HNEW : Hid (∀ W u1 u2, Up w W → IV W u1 A → IV W u2 B → Calls Tryz.prog 67 #[u1, u2] W fun e w' => ∃ v, e = .returned v ∧ FV w' v q ∧ Up W w'))
    (HLIM : Hid (∀ W u, FV W u q → Calls Tryz.prog 66 #[u] W fun e w' => e = .returned (.tuple #[.agg #[.int .i64 X, .int .i64 Y], .int .i64 E]) ∧ Up W w'))
    (hz : tz.isEmpty = false) (hl : ¬ 200 < bs.length)  :
    Calls Tryz.prog 14 #[.string ⟨bs.toArray⟩] w fun e w' => e = .returned (.tuple #[.agg #[.int .i64 X, .int .i64 Y], .int .i64 E]) ∧ Up w w' := by
  have i1 : ¬ (200 : Int) < (bs.length : Int) := by omega
  have i2 : decide ((200 : Int) < (bs.length : Int)) = false := decide_eq_false i1
  clear hl
  go_enter Tryz.func14, Tryz.ntmps14
  go_wp2_with fail
  have HR := Lib.hid (CellN.new w 0 0)
  have HU := Lib.hid (Up.alloc w (.cells #[.int .i64 0, .int .i64 0] 23))
  generalize w.alloc (.cells #[.int .i64 0, .int .i64 0] 23) = wB at *
  refine Calls.mono (HCP.out _ (by (repeat (first | exact Below.refl _ _ | exact Go.RowKit.Hid.out (by assumption) | refine Up.trans ?_ (Up.drew _) | refine Up.trans ?_ (Up.drewN _ _) | refine Up.trans ?_ (Up.alloc _ _) | refine Up.trans ?_ (Go.RowKit.Hid.out (by assumption)))))) ?_
  rintro e w1 ⟨rfl, hu⟩
  have HUw1 := Lib.hid hu
  clear hu
  go_wp2_with fail
  refine Calls.mono (HCU.out _ (by (repeat (first | exact Below.refl _ _ | exact Go.RowKit.Hid.out (by assumption) | refine Up.trans ?_ (Up.drew _) | refine Up.trans ?_ (Up.drewN _ _) | refine Up.trans ?_ (Up.alloc _ _) | refine Up.trans ?_ (Go.RowKit.Hid.out (by assumption)))))) ?_
  rintro e w2 ⟨rfl, hu⟩
  have HUw2 := Lib.hid hu
  clear hu
  go_wp2_with fail
  refine Calls.mono (HI1.out _ (by (repeat (first | exact Below.refl _ _ | exact Go.RowKit.Hid.out (by assumption) | refine Up.trans ?_ (Up.drew _) | refine Up.trans ?_ (Up.drewN _ _) | refine Up.trans ?_ (Up.alloc _ _) | refine Up.trans ?_ (Go.RowKit.Hid.out (by assumption)))))) ?_
  rintro e w3 ⟨rfl, hu⟩
  have HUw3 := Lib.hid hu
  clear hu
  go_wp2_with fail
  refine Calls.mono (HI2.out _ (by (repeat (first | exact Below.refl _ _ | exact Go.RowKit.Hid.out (by assumption) | refine Up.trans ?_ (Up.drew _) | refine Up.trans ?_ (Up.drewN _ _) | refine Up.trans ?_ (Up.alloc _ _) | refine Up.trans ?_ (Go.RowKit.Hid.out (by assumption)))))) ?_
  rintro e w4 ⟨rfl, hu⟩
  have HUw4 := Lib.hid hu
  clear hu
  go_wp2_with fail
  refine Calls.mono (HTZ.out _ (by (repeat (first | exact Below.refl _ _ | exact Go.RowKit.Hid.out (by assumption) | refine Up.trans ?_ (Up.drew _) | refine Up.trans ?_ (Up.drewN _ _) | refine Up.trans ?_ (Up.alloc _ _) | refine Up.trans ?_ (Go.RowKit.Hid.out (by assumption)))))) ?_
  rintro e w5 ⟨rfl, hu⟩
  have HUw5 := Lib.hid hu
  clear hu
  go_wp2_with fail
  refine Calls.mono (HD1.out _ (by (repeat (first | exact Below.refl _ _ | exact Go.RowKit.Hid.out (by assumption) | refine Up.trans ?_ (Up.drew _) | refine Up.trans ?_ (Up.drewN _ _) | refine Up.trans ?_ (Up.alloc _ _) | refine Up.trans ?_ (Go.RowKit.Hid.out (by assumption)))))) ?_
  rintro e w6 ⟨v, rfl, hv, hu⟩
  have HUw6 := Lib.hid hu
  obtain ⟨s6, A6, n6, c6, rfl, -, -, -, -, -⟩ := hv.open_
  obtain ⟨wX, hwX⟩ : ∃ wX, wX = w6.alloc (.cells #[.int .i64 s6, .slice A6 n6 c6] 95) := ⟨_, rfl⟩
  have HUX := Lib.hid (show Up w6 wX by rw [hwX]; exact Up.alloc _ _)
  have HCX := Lib.hid (show Cell2 wX w6.heap.size s6 A6 n6 c6 by rw [hwX]; exact Cell2.new _ _ _ _ _)
  have HVw6 := Lib.hid (hv.up HUX.out)
  clear hu hv
  obtain ⟨c0, c1, -, -, lc⟩ := HCX.out.facts
  rw [hwX] at c0 c1
  go_upto_region 12 with fail
  rw [← hwX] at c0 c1 ⊢
  clear hwX
  have hlt := Nat.lt_of_lt_of_le HR.out.lt (show Up wB w6 by (repeat (first | exact Below.refl _ _ | exact Go.RowKit.Hid.out (by assumption) | refine Up.trans ?_ (Up.drew _) | refine Up.trans ?_ (Up.drewN _ _) | refine Up.trans ?_ (Up.alloc _ _) | refine Up.trans ?_ (Go.RowKit.Hid.out (by assumption))))).size
  have hne1 : (w6.heap.size = w.heap.size) = False := eq_false (by omega)
  have hne2 : (w.heap.size = w6.heap.size) = False := eq_false (by omega)
  go_region_held3 (fun w' => w'.cell? ⟨w6.heap.size, 0, none⟩ = some (.int .i64 s6) ∧ w'.cell? ⟨w6.heap.size, 1, none⟩ = some (.slice A6 n6 c6)) (go_keep)
    ((first
      | (go_at_call 66
         refine Calls.mono (HLIM.out _ _ (HVw9.out.up (by (repeat (first | exact Below.refl _ _ | exact Go.RowKit.Hid.out (by assumption) | refine Up.trans ?_ (Up.drew _) | refine Up.trans ?_ (Up.drewN _ _) | refine Up.trans ?_ (Up.alloc _ _) | refine Up.trans ?_ (Go.RowKit.Hid.out (by assumption))))))) ?_
         rintro e w10 ⟨rfl, hu⟩
         have HUw10 := Lib.hid hu
         clear hu
         obtain ⟨c0, c1, -, -, lc⟩ := (HCX.out.up (w' := w10) (by (repeat (first | exact Below.refl _ _ | exact Go.RowKit.Hid.out (by assumption) | refine Up.trans ?_ (Up.drew _) | refine Up.trans ?_ (Up.drewN _ _) | refine Up.trans ?_ (Up.alloc _ _) | refine Up.trans ?_ (Go.RowKit.Hid.out (by assumption)))))).facts
         have HR8 := Lib.hid (HR.out.up (w' := w10) (by (repeat (first | exact Below.refl _ _ | exact Go.RowKit.Hid.out (by assumption) | refine Up.trans ?_ (Up.drew _) | refine Up.trans ?_ (Up.drewN _ _) | refine Up.trans ?_ (Up.alloc _ _) | refine Up.trans ?_ (Go.RowKit.Hid.out (by assumption))))))
         obtain ⟨r0, r1, g0, g1, lr⟩ := HR8.out.facts)
      | (go_at_call 67
         refine Calls.mono (HNEW.out _ _ _ (by (repeat (first | exact Below.refl _ _ | exact Go.RowKit.Hid.out (by assumption) | refine Up.trans ?_ (Up.drew _) | refine Up.trans ?_ (Up.drewN _ _) | refine Up.trans ?_ (Up.alloc _ _) | refine Up.trans ?_ (Go.RowKit.Hid.out (by assumption))))) (HVw6.out.up (by (repeat (first | exact Below.refl _ _ | exact Go.RowKit.Hid.out (by assumption) | refine Up.trans ?_ (Up.drew _) | refine Up.trans ?_ (Up.drewN _ _) | refine Up.trans ?_ (Up.alloc _ _) | refine Up.trans ?_ (Go.RowKit.Hid.out (by assumption)))))) (HVw8.out.up (by (repeat (first | exact Below.refl _ _ | exact Go.RowKit.Hid.out (by assumption) | refine Up.trans ?_ (Up.drew _) | refine Up.trans ?_ (Up.drewN _ _) | refine Up.trans ?_ (Up.alloc _ _) | refine Up.trans ?_ (Go.RowKit.Hid.out (by assumption))))))) ?_
         rintro e w9 ⟨v, rfl, hv, hu⟩
         have HUw9 := Lib.hid hu
         have HVw9 := Lib.hid hv
         clear hu hv
         obtain ⟨c0, c1, -, -, lc⟩ := (HCX.out.up (w' := w9) (by (repeat (first | exact Below.refl _ _ | exact Go.RowKit.Hid.out (by assumption) | refine Up.trans ?_ (Up.drew _) | refine Up.trans ?_ (Up.drewN _ _) | refine Up.trans ?_ (Up.alloc _ _) | refine Up.trans ?_ (Go.RowKit.Hid.out (by assumption)))))).facts)
      | (go_at_call 64
         refine Calls.mono (HD2.out _ (by (repeat (first | exact Below.refl _ _ | exact Go.RowKit.Hid.out (by assumption) | refine Up.trans ?_ (Up.drew _) | refine Up.trans ?_ (Up.drewN _ _) | refine Up.trans ?_ (Up.alloc _ _) | refine Up.trans ?_ (Go.RowKit.Hid.out (by assumption)))))) ?_
         rintro e w8 ⟨v, rfl, hv, hu⟩
         have HUw8 := Lib.hid hu
         have HVw8 := Lib.hid hv
         clear hu hv
         obtain ⟨c0, c1, -, -, lc⟩ := (HCX.out.up (w' := w8) (by (repeat (first | exact Below.refl _ _ | exact Go.RowKit.Hid.out (by assumption) | refine Up.trans ?_ (Up.drew _) | refine Up.trans ?_ (Up.drewN _ _) | refine Up.trans ?_ (Up.alloc _ _) | refine Up.trans ?_ (Go.RowKit.Hid.out (by assumption)))))).facts)))
  have HFF := Lib.hid ((HR8.out.set X Y).facts)
  have HUF := Lib.hid ((show Up w w10 by (repeat (first | exact Below.refl _ _ | exact Go.RowKit.Hid.out (by assumption) | refine Up.trans ?_ (Up.drew _) | refine Up.trans ?_ (Up.drewN _ _) | refine Up.trans ?_ (Up.alloc _ _) | refine Up.trans ?_ (Go.RowKit.Hid.out (by assumption))))).stored (show w.heap.size ≤ w.heap.size by omega) (.int .i64 X) (.int .i64 Y))
  go_wp2
  obtain ⟨z0, z1, -, -, -⟩ := HFF.out
  refine bodyPost_ret (by simp [results, Tryz.results14, go_sem, z0, z1]; try rfl) rfl ?_
  exact ⟨rfl, HUF.out⟩

set_option maxHeartbeats 4000000 in
set_option maxRecDepth 10000 in
theorem parse_f_m (tz : List UInt8) (A B X Y E : Int) (q : Rat) (bs us top low : List UInt8) (w : World)
    (HCP : Hid (∀ W, Up w W → Calls Tryz.prog 60 #[.string ⟨bs.toArray⟩, .string ⟨#[45]⟩] W fun e w' => e = .returned (.tuple #[.string ⟨us.toArray⟩, .bool true]) ∧ Up W w'))
    (HCU : Hid (∀ W, Up w W → Calls Tryz.prog 61 #[.string ⟨us.toArray⟩, .string ⟨#[47]⟩] W fun e w' => e = .returned (.tuple #[.string ⟨top.toArray⟩, .string ⟨low.toArray⟩, .bool true]) ∧ Up W w'))
    (HI1 : Hid (∀ W, Up w W → Calls Tryz.prog 62 #[.string ⟨top.toArray⟩] W fun e w' => e = .returned (.bool true) ∧ Up W w'))
    (HI2 : Hid (∀ W, Up w W → Calls Tryz.prog 62 #[.string ⟨low.toArray⟩] W fun e w' => e = .returned (.bool true) ∧ Up W w'))
    (HTZ : Hid (∀ W, Up w W → Calls Tryz.prog 63 #[.string ⟨low.toArray⟩, .string ⟨#[48]⟩] W fun e w' => e = .returned (.string ⟨tz.toArray⟩) ∧ Up W w'))
    (HD1 : Hid (∀ W, Up w W → Calls Tryz.prog 64 #[.string ⟨top.toArray⟩] W fun e w' => ∃ v, e = .returned v ∧ IV w' v A ∧ Up W w'))
    (HD2 : Hid (∀ W, Up w W → Calls Tryz.prog 64 #[.string ⟨low.toArray⟩] W fun e w' => ∃ v, e = .returned v ∧ IV w' v B ∧ Up W w'))
    (HNEW : Hid (∀ W u1 u2, Up w W → IV W u1 (-A) → IV W u2 B → Calls Tryz.prog 67 #[u1, u2] W fun e w' => ∃ v, e = .returned v ∧ FV w' v q ∧ Up W w'))
    (HLIM : Hid (∀ W u, FV W u q → Calls Tryz.prog 66 #[u] W fun e w' => e = .returned (.tuple #[.agg #[.int .i64 X, .int .i64 Y], .int .i64 E]) ∧ Up W w'))
    (hz : tz.isEmpty = false) (hl : ¬ 200 < bs.length)  :
    Calls Tryz.prog 14 #[.string ⟨bs.toArray⟩] w fun e w' => e = .returned (.tuple #[.agg #[.int .i64 X, .int .i64 Y], .int .i64 E]) ∧ Up w w' := by
  have i1 : ¬ (200 : Int) < (bs.length : Int) := by omega
  have i2 : decide ((200 : Int) < (bs.length : Int)) = false := decide_eq_false i1
  clear hl
  go_enter Tryz.func14, Tryz.ntmps14
  go_wp2_with fail
  have HR := Lib.hid (CellN.new w 0 0)
  have HU := Lib.hid (Up.alloc w (.cells #[.int .i64 0, .int .i64 0] 23))
  generalize w.alloc (.cells #[.int .i64 0, .int .i64 0] 23) = wB at *
  refine Calls.mono (HCP.out _ (by (repeat (first | exact Below.refl _ _ | exact Go.RowKit.Hid.out (by assumption) | refine Up.trans ?_ (Up.drew _) | refine Up.trans ?_ (Up.drewN _ _) | refine Up.trans ?_ (Up.alloc _ _) | refine Up.trans ?_ (Go.RowKit.Hid.out (by assumption)))))) ?_
  rintro e w1 ⟨rfl, hu⟩
  have HUw1 := Lib.hid hu
  clear hu
  go_wp2_with fail
  refine Calls.mono (HCU.out _ (by (repeat (first | exact Below.refl _ _ | exact Go.RowKit.Hid.out (by assumption) | refine Up.trans ?_ (Up.drew _) | refine Up.trans ?_ (Up.drewN _ _) | refine Up.trans ?_ (Up.alloc _ _) | refine Up.trans ?_ (Go.RowKit.Hid.out (by assumption)))))) ?_
  rintro e w2 ⟨rfl, hu⟩
  have HUw2 := Lib.hid hu
  clear hu
  go_wp2_with fail
  refine Calls.mono (HI1.out _ (by (repeat (first | exact Below.refl _ _ | exact Go.RowKit.Hid.out (by assumption) | refine Up.trans ?_ (Up.drew _) | refine Up.trans ?_ (Up.drewN _ _) | refine Up.trans ?_ (Up.alloc _ _) | refine Up.trans ?_ (Go.RowKit.Hid.out (by assumption)))))) ?_
  rintro e w3 ⟨rfl, hu⟩
  have HUw3 := Lib.hid hu
  clear hu
  go_wp2_with fail
  refine Calls.mono (HI2.out _ (by (repeat (first | exact Below.refl _ _ | exact Go.RowKit.Hid.out (by assumption) | refine Up.trans ?_ (Up.drew _) | refine Up.trans ?_ (Up.drewN _ _) | refine Up.trans ?_ (Up.alloc _ _) | refine Up.trans ?_ (Go.RowKit.Hid.out (by assumption)))))) ?_
  rintro e w4 ⟨rfl, hu⟩
  have HUw4 := Lib.hid hu
  clear hu
  go_wp2_with fail
  refine Calls.mono (HTZ.out _ (by (repeat (first | exact Below.refl _ _ | exact Go.RowKit.Hid.out (by assumption) | refine Up.trans ?_ (Up.drew _) | refine Up.trans ?_ (Up.drewN _ _) | refine Up.trans ?_ (Up.alloc _ _) | refine Up.trans ?_ (Go.RowKit.Hid.out (by assumption)))))) ?_
  rintro e w5 ⟨rfl, hu⟩
  have HUw5 := Lib.hid hu
  clear hu
  go_wp2_with fail
  refine Calls.mono (HD1.out _ (by (repeat (first | exact Below.refl _ _ | exact Go.RowKit.Hid.out (by assumption) | refine Up.trans ?_ (Up.drew _) | refine Up.trans ?_ (Up.drewN _ _) | refine Up.trans ?_ (Up.alloc _ _) | refine Up.trans ?_ (Go.RowKit.Hid.out (by assumption)))))) ?_
  rintro e w6 ⟨v, rfl, hv, hu⟩
  have HUw6 := Lib.hid hu
  obtain ⟨s6, A6, n6, c6, rfl, -, -, -, -, -⟩ := hv.open_
  obtain ⟨wX, hwX⟩ : ∃ wX, wX = w6.alloc (.cells #[.int .i64 s6, .slice A6 n6 c6] 95) := ⟨_, rfl⟩
  have HUX := Lib.hid (show Up w6 wX by rw [hwX]; exact Up.alloc _ _)
  have HCX := Lib.hid (show Cell2 wX w6.heap.size s6 A6 n6 c6 by rw [hwX]; exact Cell2.new _ _ _ _ _)
  have HVw6 := Lib.hid (hv.up HUX.out)
  clear hu hv
  obtain ⟨c0, c1, -, -, lc⟩ := HCX.out.facts
  rw [hwX] at c0 c1
  go_wp2_with fail
  rw [← hwX]
  clear hwX c0 c1 lc
  refine Calls.mono (neg_any _ A _ HVw6.out) ?_
  rintro e w7 ⟨v, rfl, hv, hu⟩
  have HUw7 := Lib.hid hu
  have HVw7 := Lib.hid hv
  obtain ⟨s7, A7, n7, c7, rfl, -, -, -, -, -⟩ := hv.open_
  clear hu hv
  have HCY := Lib.hid (HCX.out.up (w' := w7) (by (repeat (first | exact Below.refl _ _ | exact Go.RowKit.Hid.out (by assumption) | refine Up.trans ?_ (Up.drew _) | refine Up.trans ?_ (Up.drewN _ _) | refine Up.trans ?_ (Up.alloc _ _) | refine Up.trans ?_ (Go.RowKit.Hid.out (by assumption))))))
  obtain ⟨c0, c1, f0, f1, lc⟩ := HCY.out.facts
  have hlt := Nat.lt_of_lt_of_le HR.out.lt (show Up wB w6 by (repeat (first | exact Below.refl _ _ | exact Go.RowKit.Hid.out (by assumption) | refine Up.trans ?_ (Up.drew _) | refine Up.trans ?_ (Up.drewN _ _) | refine Up.trans ?_ (Up.alloc _ _) | refine Up.trans ?_ (Go.RowKit.Hid.out (by assumption))))).size
  have hne1 : (w6.heap.size = w.heap.size) = False := eq_false (by omega)
  have hne2 : (w.heap.size = w6.heap.size) = False := eq_false (by omega)
  go_upto_region 12 with fail
  have HCZ := Lib.hid (HCY.out.set s7 A7 n7 c7)
  have HVZ := Lib.hid (HVw7.out.set2 HCY.out.not_digit (.int .i64 s7) (.slice A7 n7 c7))
  have HRZ := Lib.hid ((HR.out.up (w' := w7) (by (repeat (first | exact Below.refl _ _ | exact Go.RowKit.Hid.out (by assumption) | refine Up.trans ?_ (Up.drew _) | refine Up.trans ?_ (Up.drewN _ _) | refine Up.trans ?_ (Up.alloc _ _) | refine Up.trans ?_ (Go.RowKit.Hid.out (by assumption)))))).far (g' := w6.heap.size) (by omega) (.int .i64 s7) (.slice A7 n7 c7))
  have HUZ := Lib.hid ((show Up w w7 by (repeat (first | exact Below.refl _ _ | exact Go.RowKit.Hid.out (by assumption) | refine Up.trans ?_ (Up.drew _) | refine Up.trans ?_ (Up.drewN _ _) | refine Up.trans ?_ (Up.alloc _ _) | refine Up.trans ?_ (Go.RowKit.Hid.out (by assumption))))).stored (show w.heap.size ≤ w6.heap.size by omega) (.int .i64 s7) (.slice A7 n7 c7))
  clear c0 c1 f0 f1
  generalize ((w7.setCell ⟨w6.heap.size, 0, none⟩ (.int .i64 s7)).setCell ⟨w6.heap.size, 1, none⟩ (.slice A7 n7 c7)) = wZ at *
  obtain ⟨c0, c1, -, -, lc⟩ := HCZ.out.facts
  go_region_held3 (fun w' => w'.cell? ⟨w6.heap.size, 0, none⟩ = some (.int .i64 s7) ∧ w'.cell? ⟨w6.heap.size, 1, none⟩ = some (.slice A7 n7 c7)) (go_keep)
    ((first
      | (go_at_call 66
         refine Calls.mono (HLIM.out _ _ (HVw9.out.up (by (repeat (first | exact Below.refl _ _ | exact Go.RowKit.Hid.out (by assumption) | refine Up.trans ?_ (Up.drew _) | refine Up.trans ?_ (Up.drewN _ _) | refine Up.trans ?_ (Up.alloc _ _) | refine Up.trans ?_ (Go.RowKit.Hid.out (by assumption))))))) ?_
         rintro e w10 ⟨rfl, hu⟩
         have HUw10 := Lib.hid hu
         clear hu
         obtain ⟨c0, c1, -, -, lc⟩ := (HCZ.out.up (w' := w10) (by (repeat (first | exact Below.refl _ _ | exact Go.RowKit.Hid.out (by assumption) | refine Up.trans ?_ (Up.drew _) | refine Up.trans ?_ (Up.drewN _ _) | refine Up.trans ?_ (Up.alloc _ _) | refine Up.trans ?_ (Go.RowKit.Hid.out (by assumption)))))).facts
         have HR8 := Lib.hid (HRZ.out.up (w' := w10) (by (repeat (first | exact Below.refl _ _ | exact Go.RowKit.Hid.out (by assumption) | refine Up.trans ?_ (Up.drew _) | refine Up.trans ?_ (Up.drewN _ _) | refine Up.trans ?_ (Up.alloc _ _) | refine Up.trans ?_ (Go.RowKit.Hid.out (by assumption))))))
         obtain ⟨r0, r1, g0, g1, lr⟩ := HR8.out.facts)
      | (go_at_call 67
         refine Calls.mono (HNEW.out _ _ _ (by (repeat (first | exact Below.refl _ _ | exact Go.RowKit.Hid.out (by assumption) | refine Up.trans ?_ (Up.drew _) | refine Up.trans ?_ (Up.drewN _ _) | refine Up.trans ?_ (Up.alloc _ _) | refine Up.trans ?_ (Go.RowKit.Hid.out (by assumption))))) (HVZ.out.up (by (repeat (first | exact Below.refl _ _ | exact Go.RowKit.Hid.out (by assumption) | refine Up.trans ?_ (Up.drew _) | refine Up.trans ?_ (Up.drewN _ _) | refine Up.trans ?_ (Up.alloc _ _) | refine Up.trans ?_ (Go.RowKit.Hid.out (by assumption)))))) (HVw8.out.up (by (repeat (first | exact Below.refl _ _ | exact Go.RowKit.Hid.out (by assumption) | refine Up.trans ?_ (Up.drew _) | refine Up.trans ?_ (Up.drewN _ _) | refine Up.trans ?_ (Up.alloc _ _) | refine Up.trans ?_ (Go.RowKit.Hid.out (by assumption))))))) ?_
         rintro e w9 ⟨v, rfl, hv, hu⟩
         have HUw9 := Lib.hid hu
         have HVw9 := Lib.hid hv
         clear hu hv
         obtain ⟨c0, c1, -, -, lc⟩ := (HCZ.out.up (w' := w9) (by (repeat (first | exact Below.refl _ _ | exact Go.RowKit.Hid.out (by assumption) | refine Up.trans ?_ (Up.drew _) | refine Up.trans ?_ (Up.drewN _ _) | refine Up.trans ?_ (Up.alloc _ _) | refine Up.trans ?_ (Go.RowKit.Hid.out (by assumption)))))).facts)
      | (go_at_call 64
         refine Calls.mono (HD2.out _ (by (repeat (first | exact Below.refl _ _ | exact Go.RowKit.Hid.out (by assumption) | refine Up.trans ?_ (Up.drew _) | refine Up.trans ?_ (Up.drewN _ _) | refine Up.trans ?_ (Up.alloc _ _) | refine Up.trans ?_ (Go.RowKit.Hid.out (by assumption)))))) ?_
         rintro e w8 ⟨v, rfl, hv, hu⟩
         have HUw8 := Lib.hid hu
         have HVw8 := Lib.hid hv
         clear hu hv
         obtain ⟨c0, c1, -, -, lc⟩ := (HCZ.out.up (w' := w8) (by (repeat (first | exact Below.refl _ _ | exact Go.RowKit.Hid.out (by assumption) | refine Up.trans ?_ (Up.drew _) | refine Up.trans ?_ (Up.drewN _ _) | refine Up.trans ?_ (Up.alloc _ _) | refine Up.trans ?_ (Go.RowKit.Hid.out (by assumption)))))).facts)))
  have HFF := Lib.hid ((HR8.out.set X Y).facts)
  have HUF := Lib.hid ((show Up w w10 by (repeat (first | exact Below.refl _ _ | exact Go.RowKit.Hid.out (by assumption) | refine Up.trans ?_ (Up.drew _) | refine Up.trans ?_ (Up.drewN _ _) | refine Up.trans ?_ (Up.alloc _ _) | refine Up.trans ?_ (Go.RowKit.Hid.out (by assumption))))).stored (show w.heap.size ≤ w.heap.size by omega) (.int .i64 X) (.int .i64 Y))
  go_wp2
  obtain ⟨z0, z1, -, -, -⟩ := HFF.out
  refine bodyPost_ret (by simp [results, Tryz.results14, go_sem, z0, z1]; try rfl) rfl ?_
  exact ⟨rfl, HUF.out⟩

set_option maxHeartbeats 4000000 in
set_option maxRecDepth 10000 in
theorem parse_n_top (bs us top : List UInt8) (neg : Bool) (w : World)
    (HCP : Hid (∀ W, Up w W → Calls Tryz.prog 60 #[.string ⟨bs.toArray⟩, .string ⟨#[45]⟩] W fun e w' => e = .returned (.tuple #[.string ⟨us.toArray⟩, .bool neg]) ∧ Up W w'))
    (HCU : Hid (∀ W, Up w W → Calls Tryz.prog 61 #[.string ⟨us.toArray⟩, .string ⟨#[47]⟩] W fun e w' => e = .returned (.tuple #[.string ⟨top.toArray⟩, .string ⟨#[]⟩, .bool false]) ∧ Up W w'))
    (HI1 : Hid (∀ W, Up w W → Calls Tryz.prog 62 #[.string ⟨top.toArray⟩] W fun e w' => e = .returned (.bool false) ∧ Up W w')) :
    Calls Tryz.prog 14 #[.string ⟨bs.toArray⟩] w fun e w' => e = .returned (.tuple #[.agg #[.int .i64 0, .int .i64 0], .int .i64 4]) ∧ Up w w' := by
  go_enter Tryz.func14, Tryz.ntmps14
  go_wp2_with fail
  have HR := Lib.hid (CellN.new w 0 0)
  have HU := Lib.hid (Up.alloc w (.cells #[.int .i64 0, .int .i64 0] 23))
  generalize w.alloc (.cells #[.int .i64 0, .int .i64 0] 23) = wB at *
  refine Calls.mono (HCP.out _ (by (repeat (first | exact Below.refl _ _ | exact Go.RowKit.Hid.out (by assumption) | refine Up.trans ?_ (Up.drew _) | refine Up.trans ?_ (Up.drewN _ _) | refine Up.trans ?_ (Up.alloc _ _) | refine Up.trans ?_ (Go.RowKit.Hid.out (by assumption)))))) ?_
  rintro e w1 ⟨rfl, hu⟩
  have HUw1 := Lib.hid hu
  clear hu
  go_wp2_with fail
  refine Calls.mono (HCU.out _ (by (repeat (first | exact Below.refl _ _ | exact Go.RowKit.Hid.out (by assumption) | refine Up.trans ?_ (Up.drew _) | refine Up.trans ?_ (Up.drewN _ _) | refine Up.trans ?_ (Up.alloc _ _) | refine Up.trans ?_ (Go.RowKit.Hid.out (by assumption)))))) ?_
  rintro e w2 ⟨rfl, hu⟩
  have HUw2 := Lib.hid hu
  clear hu
  go_wp2_with fail
  refine Calls.mono (HI1.out _ (by (repeat (first | exact Below.refl _ _ | exact Go.RowKit.Hid.out (by assumption) | refine Up.trans ?_ (Up.drew _) | refine Up.trans ?_ (Up.drewN _ _) | refine Up.trans ?_ (Up.alloc _ _) | refine Up.trans ?_ (Go.RowKit.Hid.out (by assumption)))))) ?_
  rintro e w3 ⟨rfl, hu⟩
  have HUw3 := Lib.hid hu
  clear hu
  have HR8 := Lib.hid (HR.out.up (w' := w3) (by (repeat (first | exact Below.refl _ _ | exact Go.RowKit.Hid.out (by assumption) | refine Up.trans ?_ (Up.drew _) | refine Up.trans ?_ (Up.drewN _ _) | refine Up.trans ?_ (Up.alloc _ _) | refine Up.trans ?_ (Go.RowKit.Hid.out (by assumption))))))
  obtain ⟨r0, r1, g0, g1, lr⟩ := HR8.out.facts
  have HFF := Lib.hid ((HR8.out.set 0 0).facts)
  have HUF := Lib.hid ((show Up w w3 by (repeat (first | exact Below.refl _ _ | exact Go.RowKit.Hid.out (by assumption) | refine Up.trans ?_ (Up.drew _) | refine Up.trans ?_ (Up.drewN _ _) | refine Up.trans ?_ (Up.alloc _ _) | refine Up.trans ?_ (Go.RowKit.Hid.out (by assumption))))).stored (show w.heap.size ≤ w.heap.size by omega) (.int .i64 0) (.int .i64 0))
  go_wp2
  obtain ⟨z0, z1, -, -, -⟩ := HFF.out
  refine bodyPost_ret (by simp [results, Tryz.results14, go_sem, z0, z1]; try rfl) rfl ?_
  exact ⟨rfl, HUF.out⟩

set_option maxHeartbeats 4000000 in
set_option maxRecDepth 10000 in
theorem parse_n_low (bs us top : List UInt8) (neg : Bool) (w : World)
    (HCP : Hid (∀ W, Up w W → Calls Tryz.prog 60 #[.string ⟨bs.toArray⟩, .string ⟨#[45]⟩] W fun e w' => e = .returned (.tuple #[.string ⟨us.toArray⟩, .bool neg]) ∧ Up W w'))
    (HCU : Hid (∀ W, Up w W → Calls Tryz.prog 61 #[.string ⟨us.toArray⟩, .string ⟨#[47]⟩] W fun e w' => e = .returned (.tuple #[.string ⟨top.toArray⟩, .string ⟨#[]⟩, .bool false]) ∧ Up W w'))
    (HI1 : Hid (∀ W, Up w W → Calls Tryz.prog 62 #[.string ⟨top.toArray⟩] W fun e w' => e = .returned (.bool true) ∧ Up W w'))
    (HI2 : Hid (∀ W, Up w W → Calls Tryz.prog 62 #[.string ⟨#[49]⟩] W fun e w' => e = .returned (.bool false) ∧ Up W w')) :
    Calls Tryz.prog 14 #[.string ⟨bs.toArray⟩] w fun e w' => e = .returned (.tuple #[.agg #[.int .i64 0, .int .i64 0], .int .i64 4]) ∧ Up w w' := by
  go_enter Tryz.func14, Tryz.ntmps14
  go_wp2_with fail
  have HR := Lib.hid (CellN.new w 0 0)
  have HU := Lib.hid (Up.alloc w (.cells #[.int .i64 0, .int .i64 0] 23))
  generalize w.alloc (.cells #[.int .i64 0, .int .i64 0] 23) = wB at *
  refine Calls.mono (HCP.out _ (by (repeat (first | exact Below.refl _ _ | exact Go.RowKit.Hid.out (by assumption) | refine Up.trans ?_ (Up.drew _) | refine Up.trans ?_ (Up.drewN _ _) | refine Up.trans ?_ (Up.alloc _ _) | refine Up.trans ?_ (Go.RowKit.Hid.out (by assumption)))))) ?_
  rintro e w1 ⟨rfl, hu⟩
  have HUw1 := Lib.hid hu
  clear hu
  go_wp2_with fail
  refine Calls.mono (HCU.out _ (by (repeat (first | exact Below.refl _ _ | exact Go.RowKit.Hid.out (by assumption) | refine Up.trans ?_ (Up.drew _) | refine Up.trans ?_ (Up.drewN _ _) | refine Up.trans ?_ (Up.alloc _ _) | refine Up.trans ?_ (Go.RowKit.Hid.out (by assumption)))))) ?_
  rintro e w2 ⟨rfl, hu⟩
  have HUw2 := Lib.hid hu
  clear hu
  go_wp2_with fail
  refine Calls.mono (HI1.out _ (by (repeat (first | exact Below.refl _ _ | exact Go.RowKit.Hid.out (by assumption) | refine Up.trans ?_ (Up.drew _) | refine Up.trans ?_ (Up.drewN _ _) | refine Up.trans ?_ (Up.alloc _ _) | refine Up.trans ?_ (Go.RowKit.Hid.out (by assumption)))))) ?_
  rintro e w3 ⟨rfl, hu⟩
  have HUw3 := Lib.hid hu
  clear hu
  go_wp2_with fail
  refine Calls.mono (HI2.out _ (by (repeat (first | exact Below.refl _ _ | exact Go.RowKit.Hid.out (by assumption) | refine Up.trans ?_ (Up.drew _) | refine Up.trans ?_ (Up.drewN _ _) | refine Up.trans ?_ (Up.alloc _ _) | refine Up.trans ?_ (Go.RowKit.Hid.out (by assumption)))))) ?_
  rintro e w4 ⟨rfl, hu⟩
  have HUw4 := Lib.hid hu
  clear hu
  have HR8 := Lib.hid (HR.out.up (w' := w4) (by (repeat (first | exact Below.refl _ _ | exact Go.RowKit.Hid.out (by assumption) | refine Up.trans ?_ (Up.drew _) | refine Up.trans ?_ (Up.drewN _ _) | refine Up.trans ?_ (Up.alloc _ _) | refine Up.trans ?_ (Go.RowKit.Hid.out (by assumption))))))
  obtain ⟨r0, r1, g0, g1, lr⟩ := HR8.out.facts
  have HFF := Lib.hid ((HR8.out.set 0 0).facts)
  have HUF := Lib.hid ((show Up w w4 by (repeat (first | exact Below.refl _ _ | exact Go.RowKit.Hid.out (by assumption) | refine Up.trans ?_ (Up.drew _) | refine Up.trans ?_ (Up.drewN _ _) | refine Up.trans ?_ (Up.alloc _ _) | refine Up.trans ?_ (Go.RowKit.Hid.out (by assumption))))).stored (show w.heap.size ≤ w.heap.size by omega) (.int .i64 0) (.int .i64 0))
  go_wp2
  obtain ⟨z0, z1, -, -, -⟩ := HFF.out
  refine bodyPost_ret (by simp [results, Tryz.results14, go_sem, z0, z1]; try rfl) rfl ?_
  exact ⟨rfl, HUF.out⟩

set_option maxHeartbeats 4000000 in
set_option maxRecDepth 10000 in
theorem parse_n_zero (tz : List UInt8) (hz : tz.isEmpty = true) (bs us top : List UInt8) (neg : Bool) (w : World)
    (HCP : Hid (∀ W, Up w W → Calls Tryz.prog 60 #[.string ⟨bs.toArray⟩, .string ⟨#[45]⟩] W fun e w' => e = .returned (.tuple #[.string ⟨us.toArray⟩, .bool neg]) ∧ Up W w'))
    (HCU : Hid (∀ W, Up w W → Calls Tryz.prog 61 #[.string ⟨us.toArray⟩, .string ⟨#[47]⟩] W fun e w' => e = .returned (.tuple #[.string ⟨top.toArray⟩, .string ⟨#[]⟩, .bool false]) ∧ Up W w'))
    (HI1 : Hid (∀ W, Up w W → Calls Tryz.prog 62 #[.string ⟨top.toArray⟩] W fun e w' => e = .returned (.bool true) ∧ Up W w'))
    (HI2 : Hid (∀ W, Up w W → Calls Tryz.prog 62 #[.string ⟨#[49]⟩] W fun e w' => e = .returned (.bool true) ∧ Up W w'))
    (HTZ : Hid (∀ W, Up w W → Calls Tryz.prog 63 #[.string ⟨#[49]⟩, .string ⟨#[48]⟩] W fun e w' => e = .returned (.string ⟨tz.toArray⟩) ∧ Up W w')) :
    Calls Tryz.prog 14 #[.string ⟨bs.toArray⟩] w fun e w' => e = .returned (.tuple #[.agg #[.int .i64 0, .int .i64 0], .int .i64 4]) ∧ Up w w' := by
  go_enter Tryz.func14, Tryz.ntmps14
  go_wp2_with fail
  have HR := Lib.hid (CellN.new w 0 0)
  have HU := Lib.hid (Up.alloc w (.cells #[.int .i64 0, .int .i64 0] 23))
  generalize w.alloc (.cells #[.int .i64 0, .int .i64 0] 23) = wB at *
  refine Calls.mono (HCP.out _ (by (repeat (first | exact Below.refl _ _ | exact Go.RowKit.Hid.out (by assumption) | refine Up.trans ?_ (Up.drew _) | refine Up.trans ?_ (Up.drewN _ _) | refine Up.trans ?_ (Up.alloc _ _) | refine Up.trans ?_ (Go.RowKit.Hid.out (by assumption)))))) ?_
  rintro e w1 ⟨rfl, hu⟩
  have HUw1 := Lib.hid hu
  clear hu
  go_wp2_with fail
  refine Calls.mono (HCU.out _ (by (repeat (first | exact Below.refl _ _ | exact Go.RowKit.Hid.out (by assumption) | refine Up.trans ?_ (Up.drew _) | refine Up.trans ?_ (Up.drewN _ _) | refine Up.trans ?_ (Up.alloc _ _) | refine Up.trans ?_ (Go.RowKit.Hid.out (by assumption)))))) ?_
  rintro e w2 ⟨rfl, hu⟩
  have HUw2 := Lib.hid hu
  clear hu
  go_wp2_with fail
  refine Calls.mono (HI1.out _ (by (repeat (first | exact Below.refl _ _ | exact Go.RowKit.Hid.out (by assumption) | refine Up.trans ?_ (Up.drew _) | refine Up.trans ?_ (Up.drewN _ _) | refine Up.trans ?_ (Up.alloc _ _) | refine Up.trans ?_ (Go.RowKit.Hid.out (by assumption)))))) ?_
  rintro e w3 ⟨rfl, hu⟩
  have HUw3 := Lib.hid hu
  clear hu
  go_wp2_with fail
  refine Calls.mono (HI2.out _ (by (repeat (first | exact Below.refl _ _ | exact Go.RowKit.Hid.out (by assumption) | refine Up.trans ?_ (Up.drew _) | refine Up.trans ?_ (Up.drewN _ _) | refine Up.trans ?_ (Up.alloc _ _) | refine Up.trans ?_ (Go.RowKit.Hid.out (by assumption)))))) ?_
  rintro e w4 ⟨rfl, hu⟩
  have HUw4 := Lib.hid hu
  clear hu
  go_wp2_with fail
  refine Calls.mono (HTZ.out _ (by (repeat (first | exact Below.refl _ _ | exact Go.RowKit.Hid.out (by assumption) | refine Up.trans ?_ (Up.drew _) | refine Up.trans ?_ (Up.drewN _ _) | refine Up.trans ?_ (Up.alloc _ _) | refine Up.trans ?_ (Go.RowKit.Hid.out (by assumption)))))) ?_
  rintro e w5 ⟨rfl, hu⟩
  have HUw5 := Lib.hid hu
  clear hu
  have HR8 := Lib.hid (HR.out.up (w' := w5) (by (repeat (first | exact Below.refl _ _ | exact Go.RowKit.Hid.out (by assumption) | refine Up.trans ?_ (Up.drew _) | refine Up.trans ?_ (Up.drewN _ _) | refine Up.trans ?_ (Up.alloc _ _) | refine Up.trans ?_ (Go.RowKit.Hid.out (by assumption))))))
  obtain ⟨r0, r1, g0, g1, lr⟩ := HR8.out.facts
  have HFF := Lib.hid ((HR8.out.set 0 0).facts)
  have HUF := Lib.hid ((show Up w w5 by (repeat (first | exact Below.refl _ _ | exact Go.RowKit.Hid.out (by assumption) | refine Up.trans ?_ (Up.drew _) | refine Up.trans ?_ (Up.drewN _ _) | refine Up.trans ?_ (Up.alloc _ _) | refine Up.trans ?_ (Go.RowKit.Hid.out (by assumption))))).stored (show w.heap.size ≤ w.heap.size by omega) (.int .i64 0) (.int .i64 0))
  go_wp2
  obtain ⟨z0, z1, -, -, -⟩ := HFF.out
  refine bodyPost_ret (by simp [results, Tryz.results14, go_sem, z0, z1]; try rfl) rfl ?_
  exact ⟨rfl, HUF.out⟩

set_option maxHeartbeats 4000000 in
set_option maxRecDepth 10000 in
theorem parse_n_long (tz : List UInt8) (bs us top : List UInt8) (neg : Bool) (w : World)
    (HCP : Hid (∀ W, Up w W → Calls Tryz.prog 60 #[.string ⟨bs.toArray⟩, .string ⟨#[45]⟩] W fun e w' => e = .returned (.tuple #[.string ⟨us.toArray⟩, .bool neg]) ∧ Up W w'))
    (HCU : Hid (∀ W, Up w W → Calls Tryz.prog 61 #[.string ⟨us.toArray⟩, .string ⟨#[47]⟩] W fun e w' => e = .returned (.tuple #[.string ⟨top.toArray⟩, .string ⟨#[]⟩, .bool false]) ∧ Up W w'))
    (HI1 : Hid (∀ W, Up w W → Calls Tryz.prog 62 #[.string ⟨top.toArray⟩] W fun e w' => e = .returned (.bool true) ∧ Up W w'))
    (HI2 : Hid (∀ W, Up w W → Calls Tryz.prog 62 #[.string ⟨#[49]⟩] W fun e w' => e = .returned (.bool true) ∧ Up W w'))
    (HTZ : Hid (∀ W, Up w W → Calls Tryz.prog 63 #[.string ⟨#[49]⟩, .string ⟨#[48]⟩] W fun e w' => e = .returned (.string ⟨tz.toArray⟩) ∧ Up W w'))
    (hz : tz.isEmpty = false) (hl : 200 < bs.length)  :
    Calls Tryz.prog 14 #[.string ⟨bs.toArray⟩] w fun e w' => e = .returned (.tuple #[.agg #[.int .i64 0, .int .i64 0], .int .i64 3]) ∧ Up w w' := by
  have i1 : (200 : Int) < (bs.length : Int) := by omega
  clear hl
  go_enter Tryz.func14, Tryz.ntmps14
  go_wp2_with fail
  have HR := Lib.hid (CellN.new w 0 0)
  have HU := Lib.hid (Up.alloc w (.cells #[.int .i64 0, .int .i64 0] 23))
  generalize w.alloc (.cells #[.int .i64 0, .int .i64 0] 23) = wB at *
  refine Calls.mono (HCP.out _ (by (repeat (first | exact Below.refl _ _ | exact Go.RowKit.Hid.out (by assumption) | refine Up.trans ?_ (Up.drew _) | refine Up.trans ?_ (Up.drewN _ _) | refine Up.trans ?_ (Up.alloc _ _) | refine Up.trans ?_ (Go.RowKit.Hid.out (by assumption)))))) ?_
  rintro e w1 ⟨rfl, hu⟩
  have HUw1 := Lib.hid hu
  clear hu
  go_wp2_with fail
  refine Calls.mono (HCU.out _ (by (repeat (first | exact Below.refl _ _ | exact Go.RowKit.Hid.out (by assumption) | refine Up.trans ?_ (Up.drew _) | refine Up.trans ?_ (Up.drewN _ _) | refine Up.trans ?_ (Up.alloc _ _) | refine Up.trans ?_ (Go.RowKit.Hid.out (by assumption)))))) ?_
  rintro e w2 ⟨rfl, hu⟩
  have HUw2 := Lib.hid hu
  clear hu
  go_wp2_with fail
  refine Calls.mono (HI1.out _ (by (repeat (first | exact Below.refl _ _ | exact Go.RowKit.Hid.out (by assumption) | refine Up.trans ?_ (Up.drew _) | refine Up.trans ?_ (Up.drewN _ _) | refine Up.trans ?_ (Up.alloc _ _) | refine Up.trans ?_ (Go.RowKit.Hid.out (by assumption)))))) ?_
  rintro e w3 ⟨rfl, hu⟩
  have HUw3 := Lib.hid hu
  clear hu
  go_wp2_with fail
  refine Calls.mono (HI2.out _ (by (repeat (first | exact Below.refl _ _ | exact Go.RowKit.Hid.out (by assumption) | refine Up.trans ?_ (Up.drew _) | refine Up.trans ?_ (Up.drewN _ _) | refine Up.trans ?_ (Up.alloc _ _) | refine Up.trans ?_ (Go.RowKit.Hid.out (by assumption)))))) ?_
  rintro e w4 ⟨rfl, hu⟩
  have HUw4 := Lib.hid hu
  clear hu
  go_wp2_with fail
  refine Calls.mono (HTZ.out _ (by (repeat (first | exact Below.refl _ _ | exact Go.RowKit.Hid.out (by assumption) | refine Up.trans ?_ (Up.drew _) | refine Up.trans ?_ (Up.drewN _ _) | refine Up.trans ?_ (Up.alloc _ _) | refine Up.trans ?_ (Go.RowKit.Hid.out (by assumption)))))) ?_
  rintro e w5 ⟨rfl, hu⟩
  have HUw5 := Lib.hid hu
  clear hu
  have HR8 := Lib.hid (HR.out.up (w' := w5) (by (repeat (first | exact Below.refl _ _ | exact Go.RowKit.Hid.out (by assumption) | refine Up.trans ?_ (Up.drew _) | refine Up.trans ?_ (Up.drewN _ _) | refine Up.trans ?_ (Up.alloc _ _) | refine Up.trans ?_ (Go.RowKit.Hid.out (by assumption))))))
  obtain ⟨r0, r1, g0, g1, lr⟩ := HR8.out.facts
  have HFF := Lib.hid ((HR8.out.set 0 0).facts)
  have HUF := Lib.hid ((show Up w w5 by (repeat (first | exact Below.refl _ _ | exact Go.RowKit.Hid.out (by assumption) | refine Up.trans ?_ (Up.drew _) | refine Up.trans ?_ (Up.drewN _ _) | refine Up.trans ?_ (Up.alloc _ _) | refine Up.trans ?_ (Go.RowKit.Hid.out (by assumption))))).stored (show w.heap.size ≤ w.heap.size by omega) (.int .i64 0) (.int .i64 0))
  go_wp2
  obtain ⟨z0, z1, -, -, -⟩ := HFF.out
  refine bodyPost_ret (by simp [results, Tryz.results14, go_sem, z0, z1]; try rfl) rfl ?_
  exact ⟨rfl, HUF.out⟩

set_option maxHeartbeats 4000000 in
set_option maxRecDepth 10000 in
theorem parse_n_p (tz : List UInt8) (A B X Y E : Int) (q : Rat) (bs us top : List UInt8) (w : World)
    (HCP : Hid (∀ W, Up w W → Calls Tryz.prog 60 #[.string ⟨bs.toArray⟩, .string ⟨#[45]⟩] W fun e w' => e = .returned (.tuple #[.string ⟨us.toArray⟩, .bool false]) ∧ Up W w'))
    (HCU : Hid (∀ W, Up w W → Calls Tryz.prog 61 #[.string ⟨us.toArray⟩, .string ⟨#[47]⟩] W fun e w' => e = .returned (.tuple #[.string ⟨top.toArray⟩, .string ⟨#[]⟩, .bool false]) ∧ Up W w'))
    (HI1 : Hid (∀ W, Up w W → Calls Tryz.prog 62 #[.string ⟨top.toArray⟩] W fun e w' => e = .returned (.bool true) ∧ Up W w'))
    (HI2 : Hid (∀ W, Up w W → Calls Tryz.prog 62 #[.string ⟨#[49]⟩] W fun e w' => e = .returned (.bool true) ∧ Up W w'))
    (HTZ : Hid (∀ W, Up w W → Calls Tryz.prog 63 #[.string ⟨#[49]⟩, .string ⟨#[48]⟩] W fun e w' => e = .returned (.string ⟨tz.toArray⟩) ∧ Up W w'))
    (HD1 : Hid (∀ W, Up w W → Calls Tryz.prog 64 #[.string ⟨top.toArray⟩] W fun e w' => ∃ v, e = .returned v ∧ IV w' v A ∧ Up W w'))
    (HD2 : Hid (∀ W, Up w W → Calls Tryz.prog 64 #[.string ⟨#[49]⟩] W fun e w' => ∃ v, e = .returned v ∧ IV w' v B ∧ Up W w'))
    (HNEW : Hid (∀ W u1 u2, Up w W → IV W u1 A → IV W u2 B → Calls Tryz.prog 67 #[u1, u2] W fun e w' => ∃ v, e = .returned v ∧ FV w' v q ∧ Up W w'))
    (HLIM : Hid (∀ W u, FV W u q → Calls Tryz.prog 66 #[u] W fun e w' => e = .returned (.tuple #[.agg #[.int .i64 X, .int .i64 Y], .int .i64 E]) ∧ Up W w'))
    (hz : tz.isEmpty = false) (hl : ¬ 200 < bs.length)  :
    Calls Tryz.prog 14 #[.string ⟨bs.toArray⟩] w fun e w' => e = .returned (.tuple #[.agg #[.int .i64 X, .int .i64 Y], .int .i64 E]) ∧ Up w w' := by
  have i1 : ¬ (200 : Int) < (bs.length : Int) := by omega
  have i2 : decide ((200 : Int) < (bs.length : Int)) = false := decide_eq_false i1
  clear hl
  go_enter Tryz.func14, Tryz.ntmps14
  go_wp2_with fail
  have HR := Lib.hid (CellN.new w 0 0)
  have HU := Lib.hid (Up.alloc w (.cells #[.int .i64 0, .int .i64 0] 23))
  generalize w.alloc (.cells #[.int .i64 0, .int .i64 0] 23) = wB at *
  refine Calls.mono (HCP.out _ (by (repeat (first | exact Below.refl _ _ | exact Go.RowKit.Hid.out (by assumption) | refine Up.trans ?_ (Up.drew _) | refine Up.trans ?_ (Up.drewN _ _) | refine Up.trans ?_ (Up.alloc _ _) | refine Up.trans ?_ (Go.RowKit.Hid.out (by assumption)))))) ?_
  rintro e w1 ⟨rfl, hu⟩
  have HUw1 := Lib.hid hu
  clear hu
  go_wp2_with fail
  refine Calls.mono (HCU.out _ (by (repeat (first | exact Below.refl _ _ | exact Go.RowKit.Hid.out (by assumption) | refine Up.trans ?_ (Up.drew _) | refine Up.trans ?_ (Up.drewN _ _) | refine Up.trans ?_ (Up.alloc _ _) | refine Up.trans ?_ (Go.RowKit.Hid.out (by assumption)))))) ?_
  rintro e w2 ⟨rfl, hu⟩
  have HUw2 := Lib.hid hu
  clear hu
  go_wp2_with fail
  refine Calls.mono (HI1.out _ (by (repeat (first | exact Below.refl _ _ | exact Go.RowKit.Hid.out (by assumption) | refine Up.trans ?_ (Up.drew _) | refine Up.trans ?_ (Up.drewN _ _) | refine Up.trans ?_ (Up.alloc _ _) | refine Up.trans ?_ (Go.RowKit.Hid.out (by assumption)))))) ?_
  rintro e w3 ⟨rfl, hu⟩
  have HUw3 := Lib.hid hu
  clear hu
  go_wp2_with fail
  refine Calls.mono (HI2.out _ (by (repeat (first | exact Below.refl _ _ | exact Go.RowKit.Hid.out (by assumption) | refine Up.trans ?_ (Up.drew _) | refine Up.trans ?_ (Up.drewN _ _) | refine Up.trans ?_ (Up.alloc _ _) | refine Up.trans ?_ (Go.RowKit.Hid.out (by assumption)))))) ?_
  rintro e w4 ⟨rfl, hu⟩
  have HUw4 := Lib.hid hu
  clear hu
  go_wp2_with fail
  refine Calls.mono (HTZ.out _ (by (repeat (first | exact Below.refl _ _ | exact Go.RowKit.Hid.out (by assumption) | refine Up.trans ?_ (Up.drew _) | refine Up.trans ?_ (Up.drewN _ _) | refine Up.trans ?_ (Up.alloc _ _) | refine Up.trans ?_ (Go.RowKit.Hid.out (by assumption)))))) ?_
  rintro e w5 ⟨rfl, hu⟩
  have HUw5 := Lib.hid hu
  clear hu
  go_wp2_with fail
  refine Calls.mono (HD1.out _ (by (repeat (first | exact Below.refl _ _ | exact Go.RowKit.Hid.out (by assumption) | refine Up.trans ?_ (Up.drew _) | refine Up.trans ?_ (Up.drewN _ _) | refine Up.trans ?_ (Up.alloc _ _) | refine Up.trans ?_ (Go.RowKit.Hid.out (by assumption)))))) ?_
  rintro e w6 ⟨v, rfl, hv, hu⟩
  have HUw6 := Lib.hid hu
  obtain ⟨s6, A6, n6, c6, rfl, -, -, -, -, -⟩ := hv.open_
  obtain ⟨wX, hwX⟩ : ∃ wX, wX = w6.alloc (.cells #[.int .i64 s6, .slice A6 n6 c6] 95) := ⟨_, rfl⟩
  have HUX := Lib.hid (show Up w6 wX by rw [hwX]; exact Up.alloc _ _)
  have HCX := Lib.hid (show Cell2 wX w6.heap.size s6 A6 n6 c6 by rw [hwX]; exact Cell2.new _ _ _ _ _)
  have HVw6 := Lib.hid (hv.up HUX.out)
  clear hu hv
  obtain ⟨c0, c1, -, -, lc⟩ := HCX.out.facts
  rw [hwX] at c0 c1
  go_upto_region 12 with fail
  rw [← hwX] at c0 c1 ⊢
  clear hwX
  have hlt := Nat.lt_of_lt_of_le HR.out.lt (show Up wB w6 by (repeat (first | exact Below.refl _ _ | exact Go.RowKit.Hid.out (by assumption) | refine Up.trans ?_ (Up.drew _) | refine Up.trans ?_ (Up.drewN _ _) | refine Up.trans ?_ (Up.alloc _ _) | refine Up.trans ?_ (Go.RowKit.Hid.out (by assumption))))).size
  have hne1 : (w6.heap.size = w.heap.size) = False := eq_false (by omega)
  have hne2 : (w.heap.size = w6.heap.size) = False := eq_false (by omega)
  go_region_held3 (fun w' => w'.cell? ⟨w6.heap.size, 0, none⟩ = some (.int .i64 s6) ∧ w'.cell? ⟨w6.heap.size, 1, none⟩ = some (.slice A6 n6 c6)) (go_keep)
    ((first
      | (go_at_call 66
         refine Calls.mono (HLIM.out _ _ (HVw9.out.up (by (repeat (first | exact Below.refl _ _ | exact Go.RowKit.Hid.out (by assumption) | refine Up.trans ?_ (Up.drew _) | refine Up.trans ?_ (Up.drewN _ _) | refine Up.trans ?_ (Up.alloc _ _) | refine Up.trans ?_ (Go.RowKit.Hid.out (by assumption))))))) ?_
         rintro e w10 ⟨rfl, hu⟩
         have HUw10 := Lib.hid hu
         clear hu
         obtain ⟨c0, c1, -, -, lc⟩ := (HCX.out.up (w' := w10) (by (repeat (first | exact Below.refl _ _ | exact Go.RowKit.Hid.out (by assumption) | refine Up.trans ?_ (Up.drew _) | refine Up.trans ?_ (Up.drewN _ _) | refine Up.trans ?_ (Up.alloc _ _) | refine Up.trans ?_ (Go.RowKit.Hid.out (by assumption)))))).facts
         have HR8 := Lib.hid (HR.out.up (w' := w10) (by (repeat (first | exact Below.refl _ _ | exact Go.RowKit.Hid.out (by assumption) | refine Up.trans ?_ (Up.drew _) | refine Up.trans ?_ (Up.drewN _ _) | refine Up.trans ?_ (Up.alloc _ _) | refine Up.trans ?_ (Go.RowKit.Hid.out (by assumption))))))
         obtain ⟨r0, r1, g0, g1, lr⟩ := HR8.out.facts)
      | (go_at_call 67
         refine Calls.mono (HNEW.out _ _ _ (by (repeat (first | exact Below.refl _ _ | exact Go.RowKit.Hid.out (by assumption) | refine Up.trans ?_ (Up.drew _) | refine Up.trans ?_ (Up.drewN _ _) | refine Up.trans ?_ (Up.alloc _ _) | refine Up.trans ?_ (Go.RowKit.Hid.out (by assumption))))) (HVw6.out.up (by (repeat (first | exact Below.refl _ _ | exact Go.RowKit.Hid.out (by assumption) | refine Up.trans ?_ (Up.drew _) | refine Up.trans ?_ (Up.drewN _ _) | refine Up.trans ?_ (Up.alloc _ _) | refine Up.trans ?_ (Go.RowKit.Hid.out (by assumption)))))) (HVw8.out.up (by (repeat (first | exact Below.refl _ _ | exact Go.RowKit.Hid.out (by assumption) | refine Up.trans ?_ (Up.drew _) | refine Up.trans ?_ (Up.drewN _ _) | refine Up.trans ?_ (Up.alloc _ _) | refine Up.trans ?_ (Go.RowKit.Hid.out (by assumption))))))) ?_
         rintro e w9 ⟨v, rfl, hv, hu⟩
         have HUw9 := Lib.hid hu
         have HVw9 := Lib.hid hv
         clear hu hv
         obtain ⟨c0, c1, -, -, lc⟩ := (HCX.out.up (w' := w9) (by (repeat (first | exact Below.refl _ _ | exact Go.RowKit.Hid.out (by assumption) | refine Up.trans ?_ (Up.drew _) | refine Up.trans ?_ (Up.drewN _ _) | refine Up.trans ?_ (Up.alloc _ _) | refine Up.trans ?_ (Go.RowKit.Hid.out (by assumption)))))).facts)
      | (go_at_call 64
         refine Calls.mono (HD2.out _ (by (repeat (first | exact Below.refl _ _ | exact Go.RowKit.Hid.out (by assumption) | refine Up.trans ?_ (Up.drew _) | refine Up.trans ?_ (Up.drewN _ _) | refine Up.trans ?_ (Up.alloc _ _) | refine Up.trans ?_ (Go.RowKit.Hid.out (by assumption)))))) ?_
         rintro e w8 ⟨v, rfl, hv, hu⟩
         have HUw8 := Lib.hid hu
         have HVw8 := Lib.hid hv
         clear hu hv
         obtain ⟨c0, c1, -, -, lc⟩ := (HCX.out.up (w' := w8) (by (repeat (first | exact Below.refl _ _ | exact Go.RowKit.Hid.out (by assumption) | refine Up.trans ?_ (Up.drew _) | refine Up.trans ?_ (Up.drewN _ _) | refine Up.trans ?_ (Up.alloc _ _) | refine Up.trans ?_ (Go.RowKit.Hid.out (by assumption)))))).facts)))
  have HFF := Lib.hid ((HR8.out.set X Y).facts)
  have HUF := Lib.hid ((show Up w w10 by (repeat (first | exact Below.refl _ _ | exact Go.RowKit.Hid.out (by assumption) | refine Up.trans ?_ (Up.drew _) | refine Up.trans ?_ (Up.drewN _ _) | refine Up.trans ?_ (Up.alloc _ _) | refine Up.trans ?_ (Go.RowKit.Hid.out (by assumption))))).stored (show w.heap.size ≤ w.heap.size by omega) (.int .i64 X) (.int .i64 Y))
  go_wp2
  obtain ⟨z0, z1, -, -, -⟩ := HFF.out
  refine bodyPost_ret (by simp [results, Tryz.results14, go_sem, z0, z1]; try rfl) rfl ?_
  exact ⟨rfl, HUF.out⟩

set_option maxHeartbeats 4000000 in
set_option maxRecDepth 10000 in
theorem parse_n_m (tz : List UInt8) (A B X Y E : Int) (q : Rat) (bs us top : List UInt8) (w : World)
    (HCP : Hid (∀ W, Up w W → Calls Tryz.prog 60 #[.string ⟨bs.toArray⟩, .string ⟨#[45]⟩] W fun e w' => e = .returned (.tuple #[.string ⟨us.toArray⟩, .bool true]) ∧ Up W w'))
    (HCU : Hid (∀ W, Up w W → Calls Tryz.prog 61 #[.string ⟨us.toArray⟩, .string ⟨#[47]⟩] W fun e w' => e = .returned (.tuple #[.string ⟨top.toArray⟩, .string ⟨#[]⟩, .bool false]) ∧ Up W w'))
    (HI1 : Hid (∀ W, Up w W → Calls Tryz.prog 62 #[.string ⟨top.toArray⟩] W fun e w' => e = .returned (.bool true) ∧ Up W w'))
    (HI2 : Hid (∀ W, Up w W → Calls Tryz.prog 62 #[.string ⟨#[49]⟩] W fun e w' => e = .returned (.bool true) ∧ Up W w'))
    (HTZ : Hid (∀ W, Up w W → Calls Tryz.prog 63 #[.string ⟨#[49]⟩, .string ⟨#[48]⟩] W fun e w' => e = .returned (.string ⟨tz.toArray⟩) ∧ Up W w'))
    (HD1 : Hid (∀ W, Up w W → Calls Tryz.prog 64 #[.string ⟨top.toArray⟩] W fun e w' => ∃ v, e = .returned v ∧ IV w' v A ∧ Up W w'))
    (HD2 : Hid (∀ W, Up w W → Calls Tryz.prog 64 #[.string ⟨#[49]⟩] W fun e w' => ∃ v, e = .returned v ∧ IV w' v B ∧ Up W w'))
    (HNEW : Hid (∀ W u1 u2, Up w W → IV W u1 (-A) → IV W u2 B → Calls Tryz.prog 67 #[u1, u2] W fun e w' => ∃ v, e = .returned v ∧ FV w' v q ∧ Up W w'))
    (HLIM : Hid (∀ W u, FV W u q → Calls Tryz.prog 66 #[u] W fun e w' => e = .returned (.tuple #[.agg #[.int .i64 X, .int .i64 Y], .int .i64 E]) ∧ Up W w'))
    (hz : tz.isEmpty = false) (hl : ¬ 200 < bs.length)  :
    Calls Tryz.prog 14 #[.string ⟨bs.toArray⟩] w fun e w' => e = .returned (.tuple #[.agg #[.int .i64 X, .int .i64 Y], .int .i64 E]) ∧ Up w w' := by
  have i1 : ¬ (200 : Int) < (bs.length : Int) := by omega
  have i2 : decide ((200 : Int) < (bs.length : Int)) = false := decide_eq_false i1
  clear hl
  go_enter Tryz.func14, Tryz.ntmps14
  go_wp2_with fail
  have HR := Lib.hid (CellN.new w 0 0)
  have HU := Lib.hid (Up.alloc w (.cells #[.int .i64 0, .int .i64 0] 23))
  generalize w.alloc (.cells #[.int .i64 0, .int .i64 0] 23) = wB at *
  refine Calls.mono (HCP.out _ (by (repeat (first | exact Below.refl _ _ | exact Go.RowKit.Hid.out (by assumption) | refine Up.trans ?_ (Up.drew _) | refine Up.trans ?_ (Up.drewN _ _) | refine Up.trans ?_ (Up.alloc _ _) | refine Up.trans ?_ (Go.RowKit.Hid.out (by assumption)))))) ?_
  rintro e w1 ⟨rfl, hu⟩
  have HUw1 := Lib.hid hu
  clear hu
  go_wp2_with fail
  refine Calls.mono (HCU.out _ (by (repeat (first | exact Below.refl _ _ | exact Go.RowKit.Hid.out (by assumption) | refine Up.trans ?_ (Up.drew _) | refine Up.trans ?_ (Up.drewN _ _) | refine Up.trans ?_ (Up.alloc _ _) | refine Up.trans ?_ (Go.RowKit.Hid.out (by assumption)))))) ?_
  rintro e w2 ⟨rfl, hu⟩
  have HUw2 := Lib.hid hu
  clear hu
  go_wp2_with fail
  refine Calls.mono (HI1.out _ (by (repeat (first | exact Below.refl _ _ | exact Go.RowKit.Hid.out (by assumption) | refine Up.trans ?_ (Up.drew _) | refine Up.trans ?_ (Up.drewN _ _) | refine Up.trans ?_ (Up.alloc _ _) | refine Up.trans ?_ (Go.RowKit.Hid.out (by assumption)))))) ?_
  rintro e w3 ⟨rfl, hu⟩
  have HUw3 := Lib.hid hu
  clear hu
  go_wp2_with fail
  refine Calls.mono (HI2.out _ (by (repeat (first | exact Below.refl _ _ | exact Go.RowKit.Hid.out (by assumption) | refine Up.trans ?_ (Up.drew _) | refine Up.trans ?_ (Up.drewN _ _) | refine Up.trans ?_ (Up.alloc _ _) | refine Up.trans ?_ (Go.RowKit.Hid.out (by assumption)))))) ?_
  rintro e w4 ⟨rfl, hu⟩
  have HUw4 := Lib.hid hu
  clear hu
  go_wp2_with fail
  refine Calls.mono (HTZ.out _ (by (repeat (first | exact Below.refl _ _ | exact Go.RowKit.Hid.out (by assumption) | refine Up.trans ?_ (Up.drew _) | refine Up.trans ?_ (Up.drewN _ _) | refine Up.trans ?_ (Up.alloc _ _) | refine Up.trans ?_ (Go.RowKit.Hid.out (by assumption)))))) ?_
  rintro e w5 ⟨rfl, hu⟩
  have HUw5 := Lib.hid hu
  clear hu
  go_wp2_with fail
  refine Calls.mono (HD1.out _ (by (repeat (first | exact Below.refl _ _ | exact Go.RowKit.Hid.out (by assumption) | refine Up.trans ?_ (Up.drew _) | refine Up.trans ?_ (Up.drewN _ _) | refine Up.trans ?_ (Up.alloc _ _) | refine Up.trans ?_ (Go.RowKit.Hid.out (by assumption)))))) ?_
  rintro e w6 ⟨v, rfl, hv, hu⟩
  have HUw6 := Lib.hid hu
  obtain ⟨s6, A6, n6, c6, rfl, -, -, -, -, -⟩ := hv.open_
  obtain ⟨wX, hwX⟩ : ∃ wX, wX = w6.alloc (.cells #[.int .i64 s6, .slice A6 n6 c6] 95) := ⟨_, rfl⟩
  have HUX := Lib.hid (show Up w6 wX by rw [hwX]; exact Up.alloc _ _)
  have HCX := Lib.hid (show Cell2 wX w6.heap.size s6 A6 n6 c6 by rw [hwX]; exact Cell2.new _ _ _ _ _)
  have HVw6 := Lib.hid (hv.up HUX.out)
  clear hu hv
  obtain ⟨c0, c1, -, -, lc⟩ := HCX.out.facts
  rw [hwX] at c0 c1
  go_wp2_with fail
  rw [← hwX]
  clear hwX c0 c1 lc
  refine Calls.mono (neg_any _ A _ HVw6.out) ?_
  rintro e w7 ⟨v, rfl, hv, hu⟩
  have HUw7 := Lib.hid hu
  have HVw7 := Lib.hid hv
  obtain ⟨s7, A7, n7, c7, rfl, -, -, -, -, -⟩ := hv.open_
  clear hu hv
  have HCY := Lib.hid (HCX.out.up (w' := w7) (by (repeat (first | exact Below.refl _ _ | exact Go.RowKit.Hid.out (by assumption) | refine Up.trans ?_ (Up.drew _) | refine Up.trans ?_ (Up.drewN _ _) | refine Up.trans ?_ (Up.alloc _ _) | refine Up.trans ?_ (Go.RowKit.Hid.out (by assumption))))))
  obtain ⟨c0, c1, f0, f1, lc⟩ := HCY.out.facts
  have hlt := Nat.lt_of_lt_of_le HR.out.lt (show Up wB w6 by (repeat (first | exact Below.refl _ _ | exact Go.RowKit.Hid.out (by assumption) | refine Up.trans ?_ (Up.drew _) | refine Up.trans ?_ (Up.drewN _ _) | refine Up.trans ?_ (Up.alloc _ _) | refine Up.trans ?_ (Go.RowKit.Hid.out (by assumption))))).size
  have hne1 : (w6.heap.size = w.heap.size) = False := eq_false (by omega)
  have hne2 : (w.heap.size = w6.heap.size) = False := eq_false (by omega)
  go_upto_region 12 with fail
  have HCZ := Lib.hid (HCY.out.set s7 A7 n7 c7)
  have HVZ := Lib.hid (HVw7.out.set2 HCY.out.not_digit (.int .i64 s7) (.slice A7 n7 c7))
  have HRZ := Lib.hid ((HR.out.up (w' := w7) (by (repeat (first | exact Below.refl _ _ | exact Go.RowKit.Hid.out (by assumption) | refine Up.trans ?_ (Up.drew _) | refine Up.trans ?_ (Up.drewN _ _) | refine Up.trans ?_ (Up.alloc _ _) | refine Up.trans ?_ (Go.RowKit.Hid.out (by assumption)))))).far (g' := w6.heap.size) (by omega) (.int .i64 s7) (.slice A7 n7 c7))
  have HUZ := Lib.hid ((show Up w w7 by (repeat (first | exact Below.refl _ _ | exact Go.RowKit.Hid.out (by assumption) | refine Up.trans ?_ (Up.drew _) | refine Up.trans ?_ (Up.drewN _ _) | refine Up.trans ?_ (Up.alloc _ _) | refine Up.trans ?_ (Go.RowKit.Hid.out (by assumption))))).stored (show w.heap.size ≤ w6.heap.size by omega) (.int .i64 s7) (.slice A7 n7 c7))
  clear c0 c1 f0 f1
  generalize ((w7.setCell ⟨w6.heap.size, 0, none⟩ (.int .i64 s7)).setCell ⟨w6.heap.size, 1, none⟩ (.slice A7 n7 c7)) = wZ at *
  obtain ⟨c0, c1, -, -, lc⟩ := HCZ.out.facts
  go_region_held3 (fun w' => w'.cell? ⟨w6.heap.size, 0, none⟩ = some (.int .i64 s7) ∧ w'.cell? ⟨w6.heap.size, 1, none⟩ = some (.slice A7 n7 c7)) (go_keep)
    ((first
      | (go_at_call 66
         refine Calls.mono (HLIM.out _ _ (HVw9.out.up (by (repeat (first | exact Below.refl _ _ | exact Go.RowKit.Hid.out (by assumption) | refine Up.trans ?_ (Up.drew _) | refine Up.trans ?_ (Up.drewN _ _) | refine Up.trans ?_ (Up.alloc _ _) | refine Up.trans ?_ (Go.RowKit.Hid.out (by assumption))))))) ?_
         rintro e w10 ⟨rfl, hu⟩
         have HUw10 := Lib.hid hu
         clear hu
         obtain ⟨c0, c1, -, -, lc⟩ := (HCZ.out.up (w' := w10) (by (repeat (first | exact Below.refl _ _ | exact Go.RowKit.Hid.out (by assumption) | refine Up.trans ?_ (Up.drew _) | refine Up.trans ?_ (Up.drewN _ _) | refine Up.trans ?_ (Up.alloc _ _) | refine Up.trans ?_ (Go.RowKit.Hid.out (by assumption)))))).facts
         have HR8 := Lib.hid (HRZ.out.up (w' := w10) (by (repeat (first | exact Below.refl _ _ | exact Go.RowKit.Hid.out (by assumption) | refine Up.trans ?_ (Up.drew _) | refine Up.trans ?_ (Up.drewN _ _) | refine Up.trans ?_ (Up.alloc _ _) | refine Up.trans ?_ (Go.RowKit.Hid.out (by assumption))))))
         obtain ⟨r0, r1, g0, g1, lr⟩ := HR8.out.facts)
      | (go_at_call 67
         refine Calls.mono (HNEW.out _ _ _ (by (repeat (first | exact Below.refl _ _ | exact Go.RowKit.Hid.out (by assumption) | refine Up.trans ?_ (Up.drew _) | refine Up.trans ?_ (Up.drewN _ _) | refine Up.trans ?_ (Up.alloc _ _) | refine Up.trans ?_ (Go.RowKit.Hid.out (by assumption))))) (HVZ.out.up (by (repeat (first | exact Below.refl _ _ | exact Go.RowKit.Hid.out (by assumption) | refine Up.trans ?_ (Up.drew _) | refine Up.trans ?_ (Up.drewN _ _) | refine Up.trans ?_ (Up.alloc _ _) | refine Up.trans ?_ (Go.RowKit.Hid.out (by assumption)))))) (HVw8.out.up (by (repeat (first | exact Below.refl _ _ | exact Go.RowKit.Hid.out (by assumption) | refine Up.trans ?_ (Up.drew _) | refine Up.trans ?_ (Up.drewN _ _) | refine Up.trans ?_ (Up.alloc _ _) | refine Up.trans ?_ (Go.RowKit.Hid.out (by assumption))))))) ?_
         rintro e w9 ⟨v, rfl, hv, hu⟩
         have HUw9 := Lib.hid hu
         have HVw9 := Lib.hid hv
         clear hu hv
         obtain ⟨c0, c1, -, -, lc⟩ := (HCZ.out.up (w' := w9) (by (repeat (first | exact Below.refl _ _ | exact Go.RowKit.Hid.out (by assumption) | refine Up.trans ?_ (Up.drew _) | refine Up.trans ?_ (Up.drewN _ _) | refine Up.trans ?_ (Up.alloc _ _) | refine Up.trans ?_ (Go.RowKit.Hid.out (by assumption)))))).facts)
      | (go_at_call 64
         refine Calls.mono (HD2.out _ (by (repeat (first | exact Below.refl _ _ | exact Go.RowKit.Hid.out (by assumption) | refine Up.trans ?_ (Up.drew _) | refine Up.trans ?_ (Up.drewN _ _) | refine Up.trans ?_ (Up.alloc _ _) | refine Up.trans ?_ (Go.RowKit.Hid.out (by assumption)))))) ?_
         rintro e w8 ⟨v, rfl, hv, hu⟩
         have HUw8 := Lib.hid hu
         have HVw8 := Lib.hid hv
         clear hu hv
         obtain ⟨c0, c1, -, -, lc⟩ := (HCZ.out.up (w' := w8) (by (repeat (first | exact Below.refl _ _ | exact Go.RowKit.Hid.out (by assumption) | refine Up.trans ?_ (Up.drew _) | refine Up.trans ?_ (Up.drewN _ _) | refine Up.trans ?_ (Up.alloc _ _) | refine Up.trans ?_ (Go.RowKit.Hid.out (by assumption)))))).facts)))
  have HFF := Lib.hid ((HR8.out.set X Y).facts)
  have HUF := Lib.hid ((show Up w w10 by (repeat (first | exact Below.refl _ _ | exact Go.RowKit.Hid.out (by assumption) | refine Up.trans ?_ (Up.drew _) | refine Up.trans ?_ (Up.drewN _ _) | refine Up.trans ?_ (Up.alloc _ _) | refine Up.trans ?_ (Go.RowKit.Hid.out (by assumption))))).stored (show w.heap.size ≤ w.heap.size by omega) (.int .i64 X) (.int .i64 Y))
  go_wp2
  obtain ⟨z0, z1, -, -, -⟩ := HFF.out
  refine bodyPost_ret (by simp [results, Tryz.results14, go_sem, z0, z1]; try rfl) rfl ?_
  exact ⟨rfl, HUF.out⟩

end Go.Proofs.YtgcmogldiahdpaaGreatDoor