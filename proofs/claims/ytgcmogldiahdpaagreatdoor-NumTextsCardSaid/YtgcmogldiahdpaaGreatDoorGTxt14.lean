/- Walks of a law. -/
import Derived.Test.YtgcmogldiahdpaaGreatDoorGTxt13
import Derived.Test.YtgcmogldiahdpaaGreatDoorGI
namespace Go.Proofs.YtgcmogldiahdpaaGreatDoor
open Go.RowKit Fm
theorem texts_long (x y : Int) (bs : List UInt8) (w : World) (h400 : (400 : Int) < (bs.length : Int)) (ht : Tab w) :
    Calls Tryz.prog 3 #[.agg #[.int .i64 x, .int .i64 y], .string ⟨bs.toArray⟩] w fun e w' => e = .returned (.bool true) ∧ Up w w' := by
  have HW := Lib.hid (fun W (hu : Up w W) => awake_any W (ht.up hu))
  clear ht
  go_enter Tryz.func3, Tryz.ntmps3
  go_wp2_with fail
  refine Calls.mono (HW.out _ (Up.alloc _ _)) ?_
  rintro e w1 ⟨rfl, hu⟩
  have HU1 := Lib.hid hu
  have HUA := Lib.hid (Up.alloc w (.cells #[.int .i64 x, .int .i64 y] 23))
  clear hu
  go_wp2
  go_ret
  exact ⟨rfl, by (repeat (first | exact Below.refl _ _ | exact Go.RowKit.Hid.out (by assumption) | refine Up.trans ?_ (Up.drew _) | refine Up.trans ?_ (Up.drewN _ _) | refine Up.trans ?_ (Up.alloc _ _) | refine Up.trans ?_ (Go.RowKit.Hid.out (by assumption))))⟩
set_option maxHeartbeats 4000000 in
set_option maxRecDepth 10000 in
theorem texts_main (x y X Y E F : Int) (ts bs : List UInt8) (w : World) (hb : (bs.length : Int) ≤ 400)
    (HW : Hid (∀ W, Up w W → Calls Tryz.prog 11 #[] W fun e w' => e = .returned (.bool true) ∧ Up W w'))
    (HN : Hid (∀ W, Up w W → Calls Tryz.prog 12 #[.agg #[.int .i64 x, .int .i64 y]] W fun e w' => e = .returned (.tuple #[.string ⟨ts.toArray⟩, .int .i64 F]) ∧ Up W w'))
    (HR : Hid (∀ W, Up w W → Calls Tryz.prog 13 #[.agg #[.int .i64 x, .int .i64 y]] W fun e w' => e = .returned (.tuple #[.string ⟨ts.toArray⟩, .int .i64 F]) ∧ Up W w'))
    (HP : Hid (∀ W, Up w W → Calls Tryz.prog 14 #[.string ⟨bs.toArray⟩] W fun e w' => e = .returned (.tuple #[.agg #[.int .i64 X, .int .i64 Y], .int .i64 E]) ∧ Up W w'))
    (HQ : Hid (∀ W, Up w W → Calls Tryz.prog 15 #[.string ⟨bs.toArray⟩] W fun e w' => e = .returned (.tuple #[.agg #[.int .i64 X, .int .i64 Y], .int .i64 E]) ∧ Up W w'))
    (HB : Hid (F = 0 → ∀ W, Up w W → Calls Tryz.prog 14 #[.string ⟨ts.toArray⟩] W fun e w' => e = .returned (.tuple #[.agg #[.int .i64 x, .int .i64 y], .int .i64 0]) ∧ Up W w')) :
    Calls Tryz.prog 3 #[.agg #[.int .i64 x, .int .i64 y], .string ⟨bs.toArray⟩] w fun e w' => e = .returned (.bool true) ∧ Up w w' := by
  have h400 : ¬ (400 : Int) < (bs.length : Int) := by omega
  go_enter Tryz.func3, Tryz.ntmps3
  go_wp2_with fail
  have HC := Lib.hid (CellN.new w x y)
  have HU0 := Lib.hid (Up.alloc w (.cells #[.int .i64 x, .int .i64 y] 23))
  generalize w.alloc (.cells #[.int .i64 x, .int .i64 y] 23) = wB at *
  refine Calls.mono (HN.out _ (by (repeat (first | exact Below.refl _ _ | exact Go.RowKit.Hid.out (by assumption) | refine Up.trans ?_ (Up.drew _) | refine Up.trans ?_ (Up.drewN _ _) | refine Up.trans ?_ (Up.alloc _ _) | refine Up.trans ?_ (Go.RowKit.Hid.out (by assumption)))))) ?_
  rintro e w1 ⟨rfl, hu⟩
  have HU1 := Lib.hid hu
  clear hu
  obtain ⟨a0, a1, -, -, la⟩ := (HC.out.up (w' := w1) (by (repeat (first | exact Below.refl _ _ | exact Go.RowKit.Hid.out (by assumption) | refine Up.trans ?_ (Up.drew _) | refine Up.trans ?_ (Up.drewN _ _) | refine Up.trans ?_ (Up.alloc _ _) | refine Up.trans ?_ (Go.RowKit.Hid.out (by assumption)))))).facts
  go_wp2_with fail
  refine Calls.mono (HR.out _ (by (repeat (first | exact Below.refl _ _ | exact Go.RowKit.Hid.out (by assumption) | refine Up.trans ?_ (Up.drew _) | refine Up.trans ?_ (Up.drewN _ _) | refine Up.trans ?_ (Up.alloc _ _) | refine Up.trans ?_ (Go.RowKit.Hid.out (by assumption)))))) ?_
  rintro e w2 ⟨rfl, hu⟩
  have HU2 := Lib.hid hu
  clear hu a0 a1 la
  go_wp2_with fail
  refine Calls.mono (HP.out _ (by (repeat (first | exact Below.refl _ _ | exact Go.RowKit.Hid.out (by assumption) | refine Up.trans ?_ (Up.drew _) | refine Up.trans ?_ (Up.drewN _ _) | refine Up.trans ?_ (Up.alloc _ _) | refine Up.trans ?_ (Go.RowKit.Hid.out (by assumption)))))) ?_
  rintro e w3 ⟨rfl, hu⟩
  have HU3 := Lib.hid hu
  clear hu
  go_wp2_with fail
  have HCP := Lib.hid (CellN.new w3 X Y)
  have HU4 := Lib.hid (Up.alloc w3 (.cells #[.int .i64 X, .int .i64 Y] 23))
  generalize w3.alloc (.cells #[.int .i64 X, .int .i64 Y] 23) = w4 at *
  refine Calls.mono (HQ.out _ (by (repeat (first | exact Below.refl _ _ | exact Go.RowKit.Hid.out (by assumption) | refine Up.trans ?_ (Up.drew _) | refine Up.trans ?_ (Up.drewN _ _) | refine Up.trans ?_ (Up.alloc _ _) | refine Up.trans ?_ (Go.RowKit.Hid.out (by assumption)))))) ?_
  rintro e w5 ⟨rfl, hu⟩
  have HU5 := Lib.hid hu
  clear hu
  have HCQ := Lib.hid (CellN.new w5 X Y)
  have HU6 := Lib.hid (Up.alloc w5 (.cells #[.int .i64 X, .int .i64 Y] 23))
  obtain ⟨q0, q1, -, -, lq⟩ := HCQ.out.facts
  obtain ⟨p0, p1, -, -, lp⟩ := (HCP.out.up (show Up w4 (w5.alloc (.cells #[.int .i64 X, .int .i64 Y] 23)) by (repeat (first | exact Below.refl _ _ | exact Go.RowKit.Hid.out (by assumption) | refine Up.trans ?_ (Up.drew _) | refine Up.trans ?_ (Up.drewN _ _) | refine Up.trans ?_ (Up.alloc _ _) | refine Up.trans ?_ (Go.RowKit.Hid.out (by assumption)))))).facts
  by_cases hF : F = 0
  · subst hF
    have HP2 := Lib.hid (HB.out rfl)
    go_wp2_with fail
    refine Calls.mono (HP2.out _ (by (repeat (first | exact Below.refl _ _ | exact Go.RowKit.Hid.out (by assumption) | refine Up.trans ?_ (Up.drew _) | refine Up.trans ?_ (Up.drewN _ _) | refine Up.trans ?_ (Up.alloc _ _) | refine Up.trans ?_ (Go.RowKit.Hid.out (by assumption)))))) ?_
    rintro e w7 ⟨rfl, hu⟩
    have HU7 := Lib.hid hu
    clear hu p0 p1 q0 q1 lp lq
    have HCB := Lib.hid (CellN.new w7 x y)
    have HU8 := Lib.hid (Up.alloc w7 (.cells #[.int .i64 x, .int .i64 y] 23))
    obtain ⟨q0, q1, -, -, lq⟩ := HCB.out.facts
    obtain ⟨p0, p1, -, -, lp⟩ := (HC.out.up (show Up wB (w7.alloc (.cells #[.int .i64 x, .int .i64 y] 23)) by (repeat (first | exact Below.refl _ _ | exact Go.RowKit.Hid.out (by assumption) | refine Up.trans ?_ (Up.drew _) | refine Up.trans ?_ (Up.drewN _ _) | refine Up.trans ?_ (Up.alloc _ _) | refine Up.trans ?_ (Go.RowKit.Hid.out (by assumption)))))).facts
    go_wp2_with fail
    refine Calls.mono (HW.out _ (by (repeat (first | exact Below.refl _ _ | exact Go.RowKit.Hid.out (by assumption) | refine Up.trans ?_ (Up.drew _) | refine Up.trans ?_ (Up.drewN _ _) | refine Up.trans ?_ (Up.alloc _ _) | refine Up.trans ?_ (Go.RowKit.Hid.out (by assumption)))))) ?_
    rintro e w9 ⟨rfl, hu⟩
    have HU9 := Lib.hid hu
    clear hu
    go_wp2
    go_ret
    exact ⟨rfl, by (repeat (first | exact Below.refl _ _ | exact Go.RowKit.Hid.out (by assumption) | refine Up.trans ?_ (Up.drew _) | refine Up.trans ?_ (Up.drewN _ _) | refine Up.trans ?_ (Up.alloc _ _) | refine Up.trans ?_ (Go.RowKit.Hid.out (by assumption))))⟩
  · have hF1 : (F == 0) = false := by simpa using hF
    have hF2 : (F != 0) = true := by simpa using hF
    go_wp2_with fail
    refine Calls.mono (HW.out _ (by (repeat (first | exact Below.refl _ _ | exact Go.RowKit.Hid.out (by assumption) | refine Up.trans ?_ (Up.drew _) | refine Up.trans ?_ (Up.drewN _ _) | refine Up.trans ?_ (Up.alloc _ _) | refine Up.trans ?_ (Go.RowKit.Hid.out (by assumption)))))) ?_
    rintro e w9 ⟨rfl, hu⟩
    have HU9 := Lib.hid hu
    clear hu
    go_wp2
    go_ret
    exact ⟨rfl, by (repeat (first | exact Below.refl _ _ | exact Go.RowKit.Hid.out (by assumption) | refine Up.trans ?_ (Up.drew _) | refine Up.trans ?_ (Up.drewN _ _) | refine Up.trans ?_ (Up.alloc _ _) | refine Up.trans ?_ (Go.RowKit.Hid.out (by assumption))))⟩
set_option maxRecDepth 10000 in
theorem numTextsLaw (x y : Int) (s : ByteArray) (w : World) (hr : Rng x y) (hs : s.size ≤ maxLen) (ht : Tab w) (hp : TabP w) (hm : MaxC w) :
    Calls Tryz.prog 3 #[.agg #[.int .i64 x, .int .i64 y], .string s] w fun e w' => e = .returned (.bool true) ∧ Up w w' := by
  obtain ⟨arr⟩ := s
  obtain ⟨bs⟩ := arr
  by_cases h : 400 < bs.length
  · exact texts_long x y bs w (by omega) ht
  · refine texts_main x y (parseOut bs).1 (parseOut bs).2.1 (parseOut bs).2.2 (if okNum x y then 0 else 1) (if okNum x y then txtOf x y else []) bs w (by omega)
      (Lib.hid fun W hu => awake_any W (ht.up hu)) (Lib.hid fun W hu => numPrint_any x y W hr (ht.up hu) (hp.up hu)) (Lib.hid fun W hu => refPrint_any x y W hr)
      (Lib.hid fun W hu => numParse_any bs W (by omega) (ht.up hu) (hm.up hu)) (Lib.hid fun W hu => refParse_any bs W (by omega)) (Lib.hid fun hF W hu => ?_)
    cases hk : okNum x y with
    | false => rw [hk] at hF; cases hF
    | true =>
      have := numParse_any (txtOf x y) W (by have := txt_len x y hk; omega) (ht.up hu) (hm.up hu)
      rw [parse_print x y hk] at this
      simpa using this
end Go.Proofs.YtgcmogldiahdpaaGreatDoor
