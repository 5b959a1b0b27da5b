import Derived.Test.YtahmjnjammcifaaDoorField1
import Derived.Deep.DeepCutAuto
namespace Go.Proofs.YtahmjnjammcifaaDoor
open Go.RowKit Fm

theorem CellN.far {w : World} {g g' : Nat} {x y : Int} (h : CellN w g x y) (hne : g ≠ g') (u v : Value) : CellN ((w.setCell ⟨g', 0, none⟩ u).setCell ⟨g', 1, none⟩ v) g x y := by
  unfold CellN at *
  rw [Below.heap_setCell _ ⟨g', 1, none⟩ v g hne, Below.heap_setCell _ ⟨g', 0, none⟩ u g hne]
  exact h

set_option maxHeartbeats 4000000 in
set_option maxRecDepth 10000 in
theorem field_walk (a1 a2 b1 b2 c1 c2 P Q E R S G X0 Y0 I0 X1 Y1 I1 X2 Y2 I2 X3 Y3 I3 X4 Y4 I4 X5 Y5 I5 X6 Y6 I6 X7 Y7 I7 X8 Y8 I8 X9 Y9 I9 XB YB IB : Int) (w : World)
    (HA1 : Hid (∀ W, Up w W → Calls Tryd.prog 23 #[.agg #[.int .i64 a1, .int .i64 a2], .agg #[.int .i64 b1, .int .i64 b2]] W fun e w' => e = .returned (.tuple #[.agg #[.int .i64 P, .int .i64 Q], .int .i64 E]) ∧ Up W w'))
    (HA2 : Hid (∀ W, Up w W → Calls Tryd.prog 23 #[.agg #[.int .i64 b1, .int .i64 b2], .agg #[.int .i64 a1, .int .i64 a2]] W fun e w' => e = .returned (.tuple #[.agg #[.int .i64 P, .int .i64 Q], .int .i64 E]) ∧ Up W w'))
    (HM1 : Hid (∀ W, Up w W → Calls Tryd.prog 24 #[.agg #[.int .i64 a1, .int .i64 a2], .agg #[.int .i64 b1, .int .i64 b2]] W fun e w' => e = .returned (.tuple #[.agg #[.int .i64 R, .int .i64 S], .int .i64 G]) ∧ Up W w'))
    (HM2 : Hid (∀ W, Up w W → Calls Tryd.prog 24 #[.agg #[.int .i64 b1, .int .i64 b2], .agg #[.int .i64 a1, .int .i64 a2]] W fun e w' => e = .returned (.tuple #[.agg #[.int .i64 R, .int .i64 S], .int .i64 G]) ∧ Up W w'))
    (HS : Hid (∀ W, Up w W → Calls Tryd.prog 25 #[.agg #[.int .i64 P, .int .i64 Q], .agg #[.int .i64 b1, .int .i64 b2]] W fun e w' => e = .returned (.tuple #[.agg #[.int .i64 X0, .int .i64 Y0], .int .i64 I0]) ∧ Up W w'))
    (HB1 : Hid (∀ W, Up w W → Calls Tryd.prog 23 #[.agg #[.int .i64 P, .int .i64 Q], .agg #[.int .i64 c1, .int .i64 c2]] W fun e w' => e = .returned (.tuple #[.agg #[.int .i64 X1, .int .i64 Y1], .int .i64 I1]) ∧ Up W w'))
    (HB2 : Hid (∀ W, Up w W → Calls Tryd.prog 23 #[.agg #[.int .i64 b1, .int .i64 b2], .agg #[.int .i64 c1, .int .i64 c2]] W fun e w' => e = .returned (.tuple #[.agg #[.int .i64 X2, .int .i64 Y2], .int .i64 I2]) ∧ Up W w'))
    (HB3 : Hid (∀ W, Up w W → Calls Tryd.prog 23 #[.agg #[.int .i64 a1, .int .i64 a2], .agg #[.int .i64 X2, .int .i64 Y2]] W fun e w' => e = .returned (.tuple #[.agg #[.int .i64 X3, .int .i64 Y3], .int .i64 I3]) ∧ Up W w'))
    (HC1 : Hid (∀ W, Up w W → Calls Tryd.prog 24 #[.agg #[.int .i64 P, .int .i64 Q], .agg #[.int .i64 c1, .int .i64 c2]] W fun e w' => e = .returned (.tuple #[.agg #[.int .i64 X4, .int .i64 Y4], .int .i64 I4]) ∧ Up W w'))
    (HC2 : Hid (∀ W, Up w W → Calls Tryd.prog 24 #[.agg #[.int .i64 a1, .int .i64 a2], .agg #[.int .i64 c1, .int .i64 c2]] W fun e w' => e = .returned (.tuple #[.agg #[.int .i64 X5, .int .i64 Y5], .int .i64 I5]) ∧ Up W w'))
    (HC3 : Hid (∀ W, Up w W → Calls Tryd.prog 24 #[.agg #[.int .i64 b1, .int .i64 b2], .agg #[.int .i64 c1, .int .i64 c2]] W fun e w' => e = .returned (.tuple #[.agg #[.int .i64 X6, .int .i64 Y6], .int .i64 I6]) ∧ Up W w'))
    (HC4 : Hid (∀ W, Up w W → Calls Tryd.prog 23 #[.agg #[.int .i64 X5, .int .i64 Y5], .agg #[.int .i64 X6, .int .i64 Y6]] W fun e w' => e = .returned (.tuple #[.agg #[.int .i64 X7, .int .i64 Y7], .int .i64 I7]) ∧ Up W w'))
    (HD : Hid (∀ W, Up w W → Calls Tryd.prog 26 #[.agg #[.int .i64 R, .int .i64 S], .agg #[.int .i64 b1, .int .i64 b2]] W fun e w' => e = .returned (.tuple #[.agg #[.int .i64 X8, .int .i64 Y8], .int .i64 I8]) ∧ Up W w'))
    (HE1 : Hid (∀ W, Up w W → Calls Tryd.prog 24 #[.agg #[.int .i64 R, .int .i64 S], .agg #[.int .i64 c1, .int .i64 c2]] W fun e w' => e = .returned (.tuple #[.agg #[.int .i64 X9, .int .i64 Y9], .int .i64 I9]) ∧ Up W w'))
    (HE3 : Hid (∀ W, Up w W → Calls Tryd.prog 24 #[.agg #[.int .i64 a1, .int .i64 a2], .agg #[.int .i64 X6, .int .i64 Y6]] W fun e w' => e = .returned (.tuple #[.agg #[.int .i64 XB, .int .i64 YB], .int .i64 IB]) ∧ Up W w'))
    (HW : Hid (∀ W, Up w W → Calls Tryd.prog 14 #[] W fun e w' => e = .returned (.bool true) ∧ Up W w'))
    (KS : E = 0 → (I0 == 0) = false ∨ (I0 = 0 ∧ X0 = a1 ∧ Y0 = a2))
    (KB : E = 0 → (I1 == 0) = false ∨ (I1 = 0 ∧ ((I2 == 0) = false ∨ (I2 = 0 ∧ ((I3 == 0) = false ∨ (I3 = 0 ∧ X1 = X3 ∧ Y1 = Y3))))))
    (KC : E = 0 → (I4 == 0) = false ∨ (I4 = 0 ∧ ((I5 == 0) = false ∨ (I5 = 0 ∧ ((I6 == 0) = false ∨ (I6 = 0 ∧ ((I7 == 0) = false ∨ (I7 = 0 ∧ X4 = X7 ∧ Y4 = Y7))))))))
    (KD : G = 0 → (I8 == 0) = false ∨ (I8 = 0 ∧ X8 = a1 ∧ Y8 = a2))
    (KE : G = 0 → (I9 == 0) = false ∨ (I9 = 0 ∧ ((I6 == 0) = false ∨ (I6 = 0 ∧ ((IB == 0) = false ∨ (IB = 0 ∧ X9 = XB ∧ Y9 = YB))))))
    : Calls Tryd.prog 7 #[.agg #[.int .i64 a1, .int .i64 a2], .agg #[.int .i64 b1, .int .i64 b2], .agg #[.int .i64 c1, .int .i64 c2]] w fun e w' => e = .returned (.bool true) ∧ Up w w' := by
  have HKS := Lib.hid KS
  have HKB := Lib.hid KB
  have HKC := Lib.hid KC
  have HKD := Lib.hid KD
  have HKE := Lib.hid KE
  clear KS KB KC KD KE
  go_enter Tryd.func7, Tryd.ntmps7
  go_wp2_with fail
  obtain ⟨wB, hwB⟩ : ∃ wB, wB = ((w.alloc (.cells #[.int .i64 a1, .int .i64 a2] 23)).alloc (.cells #[.int .i64 b1, .int .i64 b2] 23)).alloc (.cells #[.int .i64 c1, .int .i64 c2] 23) := ⟨_, rfl⟩
  have HNA := Lib.hid (show CellN wB w.heap.size a1 a2 by rw [hwB]; exact ((CellN.new w a1 a2).up (Up.alloc _ _)).up (Up.alloc _ _))
  have HNB := Lib.hid (show CellN wB (w.heap.size + 1) b1 b2 by rw [hwB]; have := (CellN.new (w.alloc (.cells #[.int .i64 a1, .int .i64 a2] 23)) b1 b2).up (Up.alloc _ (.cells #[.int .i64 c1, .int .i64 c2] 23)); simpa using this)
  have HNC := Lib.hid (show CellN wB (w.heap.size + 1 + 1) c1 c2 by rw [hwB]; have := CellN.new ((w.alloc (.cells #[.int .i64 a1, .int .i64 a2] 23)).alloc (.cells #[.int .i64 b1, .int .i64 b2] 23)) c1 c2; simpa using this)
  have HU := Lib.hid (show Up w wB by rw [hwB]; exact Up.three w _ _ _)
  rw [← hwB]
  clear hwB
  refine Calls.mono (HA1.out _ (by (repeat (first | exact Below.refl _ _ | exact Go.RowKit.Hid.out (by assumption) | refine Up.trans ?_ (Up.drew _) | refine Up.trans ?_ (Up.drewN _ _) | refine Up.trans ?_ (Up.alloc _ _) | refine Up.trans ?_ (Go.RowKit.Hid.out (by assumption)))))) ?_
  rintro e w1 ⟨rfl, hu1⟩
  have HU1 := Lib.hid hu1
  clear hu1
  obtain ⟨a0, a1', -, -, la⟩ := (HNA.out.up (w' := w1) (by (repeat (first | exact Below.refl _ _ | exact Go.RowKit.Hid.out (by assumption) | refine Up.trans ?_ (Up.drew _) | refine Up.trans ?_ (Up.drewN _ _) | refine Up.trans ?_ (Up.alloc _ _) | refine Up.trans ?_ (Go.RowKit.Hid.out (by assumption)))))).facts
  obtain ⟨b0, b1', -, -, lb⟩ := (HNB.out.up (w' := w1) (by (repeat (first | exact Below.refl _ _ | exact Go.RowKit.Hid.out (by assumption) | refine Up.trans ?_ (Up.drew _) | refine Up.trans ?_ (Up.drewN _ _) | refine Up.trans ?_ (Up.alloc _ _) | refine Up.trans ?_ (Go.RowKit.Hid.out (by assumption)))))).facts
  go_wp2_with fail
  clear a0 a1' b0 b1' la lb
  refine Calls.mono (HA2.out _ (by (repeat (first | exact Below.refl _ _ | exact Go.RowKit.Hid.out (by assumption) | refine Up.trans ?_ (Up.drew _) | refine Up.trans ?_ (Up.drewN _ _) | refine Up.trans ?_ (Up.alloc _ _) | refine Up.trans ?_ (Go.RowKit.Hid.out (by assumption)))))) ?_
  rintro e w2 ⟨rfl, hu2⟩
  have HU2 := Lib.hid hu2
  have HNP := Lib.hid ((CellN.new w1 P Q).up hu2)
  clear hu2
  obtain ⟨a0, a1', -, -, la⟩ := (HNA.out.up (w' := w2) (by (repeat (first | exact Below.refl _ _ | exact Go.RowKit.Hid.out (by assumption) | refine Up.trans ?_ (Up.drew _) | refine Up.trans ?_ (Up.drewN _ _) | refine Up.trans ?_ (Up.alloc _ _) | refine Up.trans ?_ (Go.RowKit.Hid.out (by assumption)))))).facts
  obtain ⟨b0, b1', -, -, lb⟩ := (HNB.out.up (w' := w2) (by (repeat (first | exact Below.refl _ _ | exact Go.RowKit.Hid.out (by assumption) | refine Up.trans ?_ (Up.drew _) | refine Up.trans ?_ (Up.drewN _ _) | refine Up.trans ?_ (Up.alloc _ _) | refine Up.trans ?_ (Go.RowKit.Hid.out (by assumption)))))).facts
  go_wp2_with fail
  clear a0 a1' b0 b1' la lb
  refine Calls.mono (HM1.out _ (by (repeat (first | exact Below.refl _ _ | exact Go.RowKit.Hid.out (by assumption) | refine Up.trans ?_ (Up.drew _) | refine Up.trans ?_ (Up.drewN _ _) | refine Up.trans ?_ (Up.alloc _ _) | refine Up.trans ?_ (Go.RowKit.Hid.out (by assumption)))))) ?_
  rintro e w3 ⟨rfl, hu3⟩
  have HU3 := Lib.hid hu3
  have HNQ := Lib.hid ((CellN.new w2 P Q).up hu3)
  clear hu3
  obtain ⟨a0, a1', -, -, la⟩ := (HNA.out.up (w' := w3) (by (repeat (first | exact Below.refl _ _ | exact Go.RowKit.Hid.out (by assumption) | refine Up.trans ?_ (Up.drew _) | refine Up.trans ?_ (Up.drewN _ _) | refine Up.trans ?_ (Up.alloc _ _) | refine Up.trans ?_ (Go.RowKit.Hid.out (by assumption)))))).facts
  obtain ⟨b0, b1', -, -, lb⟩ := (HNB.out.up (w' := w3) (by (repeat (first | exact Below.refl _ _ | exact Go.RowKit.Hid.out (by assumption) | refine Up.trans ?_ (Up.drew _) | refine Up.trans ?_ (Up.drewN _ _) | refine Up.trans ?_ (Up.alloc _ _) | refine Up.trans ?_ (Go.RowKit.Hid.out (by assumption)))))).facts
  go_wp2_with fail
  clear a0 a1' b0 b1' la lb
  refine Calls.mono (HM2.out _ (by (repeat (first | exact Below.refl _ _ | exact Go.RowKit.Hid.out (by assumption) | refine Up.trans ?_ (Up.drew _) | refine Up.trans ?_ (Up.drewN _ _) | refine Up.trans ?_ (Up.alloc _ _) | refine Up.trans ?_ (Go.RowKit.Hid.out (by assumption)))))) ?_
  rintro e w4 ⟨rfl, hu4⟩
  have HU4 := Lib.hid hu4
  have HNR := Lib.hid ((CellN.new w3 R S).up hu4)
  clear hu4
  obtain ⟨p0, p1', -, -, lp⟩ := (HNP.out.up (w' := w4) (by (repeat (first | exact Below.refl _ _ | exact Go.RowKit.Hid.out (by assumption) | refine Up.trans ?_ (Up.drew _) | refine Up.trans ?_ (Up.drewN _ _) | refine Up.trans ?_ (Up.alloc _ _) | refine Up.trans ?_ (Go.RowKit.Hid.out (by assumption)))))).facts
  obtain ⟨q0, q1', -, -, lq⟩ := (HNQ.out.up (w' := w4) (by (repeat (first | exact Below.refl _ _ | exact Go.RowKit.Hid.out (by assumption) | refine Up.trans ?_ (Up.drew _) | refine Up.trans ?_ (Up.drewN _ _) | refine Up.trans ?_ (Up.alloc _ _) | refine Up.trans ?_ (Go.RowKit.Hid.out (by assumption)))))).facts
  obtain ⟨r0, r1', -, -, lr⟩ := (HNR.out.up (w' := w4) (by (repeat (first | exact Below.refl _ _ | exact Go.RowKit.Hid.out (by assumption) | refine Up.trans ?_ (Up.drew _) | refine Up.trans ?_ (Up.drewN _ _) | refine Up.trans ?_ (Up.alloc _ _) | refine Up.trans ?_ (Go.RowKit.Hid.out (by assumption)))))).facts
  go_upto_if 76 with fail
  obtain ⟨wS, hwS⟩ : ∃ wS, wS = w4.alloc (.cells #[.int .i64 R, .int .i64 S] 23) := ⟨_, rfl⟩
  have HUS := Lib.hid (show Up w4 wS by rw [hwS]; exact Up.alloc _ _)
  rw [← hwS]
  clear hwS p0 p1' q0 q1' r0 r1' lp lq lr
  go_cut [] (fun wx => Up wS wx)
  case first =>
    by_cases hE : E = 0
    · subst hE
      as_aux_lemma =>
        have HKS' := Lib.hid (HKS.out rfl)
        have HKB' := Lib.hid (HKB.out rfl)
        have HKC' := Lib.hid (HKC.out rfl)
        clear HKS HKB HKC HKD HKE
        obtain ⟨p0, p1', -, -, lp⟩ := (HNP.out.up (w' := wS) (by (repeat (first | exact Below.refl _ _ | exact Go.RowKit.Hid.out (by assumption) | refine Up.trans ?_ (Up.drew _) | refine Up.trans ?_ (Up.drewN _ _) | refine Up.trans ?_ (Up.alloc _ _) | refine Up.trans ?_ (Go.RowKit.Hid.out (by assumption)))))).facts
        obtain ⟨b0, b1', -, -, lb⟩ := (HNB.out.up (w' := wS) (by (repeat (first | exact Below.refl _ _ | exact Go.RowKit.Hid.out (by assumption) | refine Up.trans ?_ (Up.drew _) | refine Up.trans ?_ (Up.drewN _ _) | refine Up.trans ?_ (Up.alloc _ _) | refine Up.trans ?_ (Go.RowKit.Hid.out (by assumption)))))).facts
        go_wp2_with fail
        clear p0 p1' b0 b1' lp lb
        refine Calls.mono (HS.out _ (by (repeat (first | exact Below.refl _ _ | exact Go.RowKit.Hid.out (by assumption) | refine Up.trans ?_ (Up.drew _) | refine Up.trans ?_ (Up.drewN _ _) | refine Up.trans ?_ (Up.alloc _ _) | refine Up.trans ?_ (Go.RowKit.Hid.out (by assumption)))))) ?_
        rintro e w5 ⟨rfl, hu5⟩
        have HU5 := Lib.hid hu5
        clear hu5
        go_upto_region 9 with fail
        obtain ⟨wX5, hwX5⟩ : ∃ wX5, wX5 = w5.alloc (.cells #[.int .i64 X0, .int .i64 Y0] 23) := ⟨_, rfl⟩
        have HUX5 := Lib.hid (show Up w5 wX5 by rw [hwX5]; exact Up.alloc _ _)
        have HNX5 := Lib.hid (show CellN wX5 w5.heap.size X0 Y0 by rw [hwX5]; exact CellN.new _ _ _)
        rw [← hwX5]
        clear hwX5
        go_cut [89] (fun s89 wx => s89 = .bool false ∧ wx = wX5)
        case first =>
          obtain ⟨a0, a1', -, -, la⟩ := (HNA.out.up (w' := wX5) (by (repeat (first | exact Below.refl _ _ | exact Go.RowKit.Hid.out (by assumption) | refine Up.trans ?_ (Up.drew _) | refine Up.trans ?_ (Up.drewN _ _) | refine Up.trans ?_ (Up.alloc _ _) | refine Up.trans ?_ (Go.RowKit.Hid.out (by assumption)))))).facts
          obtain ⟨x0, x1', -, -, lx⟩ := HNX5.out.facts
          rcases HKS'.out with h | ⟨rfl, rfl, rfl⟩
          · go_wp2
            go_meet
            case rel => exact ⟨rfl, rfl⟩
          · go_wp2
            go_meet
            case rel => exact ⟨by simp, rfl⟩
        case rest =>
          as_aux_lemma =>
            obtain ⟨h1, h2⟩ := hcut
            subst h1
            rw [h2]
            clear h2
            obtain ⟨p0, p1', -, -, lp⟩ := (HNP.out.up (w' := wX5) (by (repeat (first | exact Below.refl _ _ | exact Go.RowKit.Hid.out (by assumption) | refine Up.trans ?_ (Up.drew _) | refine Up.trans ?_ (Up.drewN _ _) | refine Up.trans ?_ (Up.alloc _ _) | refine Up.trans ?_ (Go.RowKit.Hid.out (by assumption)))))).facts
            obtain ⟨c0, c1', -, -, lc⟩ := (HNC.out.up (w' := wX5) (by (repeat (first | exact Below.refl _ _ | exact Go.RowKit.Hid.out (by assumption) | refine Up.trans ?_ (Up.drew _) | refine Up.trans ?_ (Up.drewN _ _) | refine Up.trans ?_ (Up.alloc _ _) | refine Up.trans ?_ (Go.RowKit.Hid.out (by assumption)))))).facts
            go_wp2_with fail
            clear p0 p1' lp c0 c1' lc
            refine Calls.mono (HB1.out _ (by (repeat (first | exact Below.refl _ _ | exact Go.RowKit.Hid.out (by assumption) | refine Up.trans ?_ (Up.drew _) | refine Up.trans ?_ (Up.drewN _ _) | refine Up.trans ?_ (Up.alloc _ _) | refine Up.trans ?_ (Go.RowKit.Hid.out (by assumption)))))) ?_
            rintro e w6 ⟨rfl, hu6⟩
            have HU6 := Lib.hid hu6
            clear hu6
            obtain ⟨b0, b1', -, -, lb⟩ := (HNB.out.up (w' := w6) (by (repeat (first | exact Below.refl _ _ | exact Go.RowKit.Hid.out (by assumption) | refine Up.trans ?_ (Up.drew _) | refine Up.trans ?_ (Up.drewN _ _) | refine Up.trans ?_ (Up.alloc _ _) | refine Up.trans ?_ (Go.RowKit.Hid.out (by assumption)))))).facts
            obtain ⟨c0, c1', -, -, lc⟩ := (HNC.out.up (w' := w6) (by (repeat (first | exact Below.refl _ _ | exact Go.RowKit.Hid.out (by assumption) | refine Up.trans ?_ (Up.drew _) | refine Up.trans ?_ (Up.drewN _ _) | refine Up.trans ?_ (Up.alloc _ _) | refine Up.trans ?_ (Go.RowKit.Hid.out (by assumption)))))).facts
            go_wp2_with fail
            clear b0 b1' lb c0 c1' lc
            refine Calls.mono (HB2.out _ (by (repeat (first | exact Below.refl _ _ | exact Go.RowKit.Hid.out (by assumption) | refine Up.trans ?_ (Up.drew _) | refine Up.trans ?_ (Up.drewN _ _) | refine Up.trans ?_ (Up.alloc _ _) | refine Up.trans ?_ (Go.RowKit.Hid.out (by assumption)))))) ?_
            rintro e w7 ⟨rfl, hu7⟩
            have HU7 := Lib.hid hu7
            have HNX := Lib.hid ((CellN.new w6 X1 Y1).up hu7)
            clear hu7
            obtain ⟨a0, a1', -, -, la⟩ := (HNA.out.up (w' := w7) (by (repeat (first | exact Below.refl _ _ | exact Go.RowKit.Hid.out (by assumption) | refine Up.trans ?_ (Up.drew _) | refine Up.trans ?_ (Up.drewN _ _) | refine Up.trans ?_ (Up.alloc _ _) | refine Up.trans ?_ (Go.RowKit.Hid.out (by assumption)))))).facts
            go_wp2_with fail
            clear a0 a1' la
            refine Calls.mono (HB3.out _ (by (repeat (first | exact Below.refl _ _ | exact Go.RowKit.Hid.out (by assumption) | refine Up.trans ?_ (Up.drew _) | refine Up.trans ?_ (Up.drewN _ _) | refine Up.trans ?_ (Up.alloc _ _) | refine Up.trans ?_ (Go.RowKit.Hid.out (by assumption)))))) ?_
            rintro e w8 ⟨rfl, hu8⟩
            have HU8 := Lib.hid hu8
            have HNY := Lib.hid ((CellN.new w7 X2 Y2).up hu8)
            clear hu8
            go_upto_region 14 with fail
            obtain ⟨wZ, hwZ⟩ : ∃ wZ, wZ = w8.alloc (.cells #[.int .i64 X3, .int .i64 Y3] 23) := ⟨_, rfl⟩
            have HUZ0 := Lib.hid (show Up w8 wZ by rw [hwZ]; exact Up.alloc _ _)
            have HNZ := Lib.hid (show CellN wZ w8.heap.size X3 Y3 by rw [hwZ]; exact CellN.new _ _ _)
            rw [← hwZ]
            clear hwZ
            go_cut [122] (fun s122 wx => s122 = .bool false ∧ wx = wZ)
            case first =>
              obtain ⟨x0, x1', -, -, lx⟩ := (HNX.out.up (w' := wZ) (by (repeat (first | exact Below.refl _ _ | exact Go.RowKit.Hid.out (by assumption) | refine Up.trans ?_ (Up.drew _) | refine Up.trans ?_ (Up.drewN _ _) | refine Up.trans ?_ (Up.alloc _ _) | refine Up.trans ?_ (Go.RowKit.Hid.out (by assumption)))))).facts
              obtain ⟨z0, z1', -, -, lz⟩ := HNZ.out.facts
              rcases HKB'.out with h | ⟨rfl, h | ⟨rfl, h | ⟨rfl, rfl, rfl⟩⟩⟩
              · go_wp2
                go_meet
                case rel => exact ⟨rfl, rfl⟩
              · go_wp2
                go_meet
                case rel => exact ⟨rfl, rfl⟩
              · go_wp2
                go_meet
                case rel => exact ⟨rfl, rfl⟩
              · go_wp2
                go_meet
                case rel => exact ⟨by simp, rfl⟩
            case rest =>
              as_aux_lemma =>
                obtain ⟨h1, h2⟩ := hcut
                subst h1
                rw [h2]
                clear h2
                obtain ⟨p0, p1', -, -, lp⟩ := (HNP.out.up (w' := wZ) (by (repeat (first | exact Below.refl _ _ | exact Go.RowKit.Hid.out (by assumption) | refine Up.trans ?_ (Up.drew _) | refine Up.trans ?_ (Up.drewN _ _) | refine Up.trans ?_ (Up.alloc _ _) | refine Up.trans ?_ (Go.RowKit.Hid.out (by assumption)))))).facts
                obtain ⟨c0, c1', -, -, lc⟩ := (HNC.out.up (w' := wZ) (by (repeat (first | exact Below.refl _ _ | exact Go.RowKit.Hid.out (by assumption) | refine Up.trans ?_ (Up.drew _) | refine Up.trans ?_ (Up.drewN _ _) | refine Up.trans ?_ (Up.alloc _ _) | refine Up.trans ?_ (Go.RowKit.Hid.out (by assumption)))))).facts
                go_wp2_with fail
                clear p0 p1' lp c0 c1' lc
                refine Calls.mono (HC1.out _ (by (repeat (first | exact Below.refl _ _ | exact Go.RowKit.Hid.out (by assumption) | refine Up.trans ?_ (Up.drew _) | refine Up.trans ?_ (Up.drewN _ _) | refine Up.trans ?_ (Up.alloc _ _) | refine Up.trans ?_ (Go.RowKit.Hid.out (by assumption)))))) ?_
                rintro e w9 ⟨rfl, hu9⟩
                have HNX9 := Lib.hid (HNX.out.up (w' := w9) ((show Up w7 wZ by (repeat (first | exact Below.refl _ _ | exact Go.RowKit.Hid.out (by assumption) | refine Up.trans ?_ (Up.drew _) | refine Up.trans ?_ (Up.drewN _ _) | refine Up.trans ?_ (Up.alloc _ _) | refine Up.trans ?_ (Go.RowKit.Hid.out (by assumption))))).trans hu9))
                have HNY9 := Lib.hid (HNY.out.up (w' := w9) ((show Up w8 wZ by (repeat (first | exact Below.refl _ _ | exact Go.RowKit.Hid.out (by assumption) | refine Up.trans ?_ (Up.drew _) | refine Up.trans ?_ (Up.drewN _ _) | refine Up.trans ?_ (Up.alloc _ _) | refine Up.trans ?_ (Go.RowKit.Hid.out (by assumption))))).trans hu9))
                have HNZ9 := Lib.hid (HNZ.out.up hu9)
                have h69 := (show Up w6 wZ by (repeat (first | exact Below.refl _ _ | exact Go.RowKit.Hid.out (by assumption) | refine Up.trans ?_ (Up.drew _) | refine Up.trans ?_ (Up.drewN _ _) | refine Up.trans ?_ (Up.alloc _ _) | refine Up.trans ?_ (Go.RowKit.Hid.out (by assumption))))).trans hu9
                have lt67 : w6.heap.size < w7.heap.size := HNX.out.lt
                have lt78 : w7.heap.size < w8.heap.size := HNY.out.lt
                clear hu9
                obtain ⟨x0, x1', xf, xg, lx⟩ := HNX9.out.facts
                go_upto_region 17 with fail
                clear x0 x1' xf xg lx
                have HUX : Hid (Up w6 ((w9.setCell ⟨w6.heap.size, 0, none⟩ (.int .i64 X4)).setCell ⟨w6.heap.size, 1, none⟩ (.int .i64 Y4))) := Lib.hid (h69.stored (Nat.le_refl _) _ _)
                have HNXa := Lib.hid (HNX9.out.set X4 Y4)
                have HNYa := Lib.hid (HNY9.out.far (g' := w6.heap.size) (by omega) (.int .i64 X4) (.int .i64 Y4))
                have HNZa := Lib.hid (HNZ9.out.far (g' := w6.heap.size) (by omega) (.int .i64 X4) (.int .i64 Y4))
                generalize (w9.setCell ⟨w6.heap.size, 0, none⟩ (.int .i64 X4)).setCell ⟨w6.heap.size, 1, none⟩ (.int .i64 Y4) = wXa at *
                clear HNX9 HNY9 HNZ9 h69 HNX HNY HNZ HUZ0
                obtain ⟨a0, a1', -, -, la⟩ := (HNA.out.up (w' := wXa) (by (repeat (first | exact Below.refl _ _ | exact Go.RowKit.Hid.out (by assumption) | refine Up.trans ?_ (Up.drew _) | refine Up.trans ?_ (Up.drewN _ _) | refine Up.trans ?_ (Up.alloc _ _) | refine Up.trans ?_ (Go.RowKit.Hid.out (by assumption)))))).facts
                obtain ⟨c0, c1', -, -, lc⟩ := (HNC.out.up (w' := wXa) (by (repeat (first | exact Below.refl _ _ | exact Go.RowKit.Hid.out (by assumption) | refine Up.trans ?_ (Up.drew _) | refine Up.trans ?_ (Up.drewN _ _) | refine Up.trans ?_ (Up.alloc _ _) | refine Up.trans ?_ (Go.RowKit.Hid.out (by assumption)))))).facts
                go_wp2_with fail
                clear a0 a1' la c0 c1' lc
                refine Calls.mono (HC2.out _ (by (repeat (first | exact Below.refl _ _ | exact Go.RowKit.Hid.out (by assumption) | refine Up.trans ?_ (Up.drew _) | refine Up.trans ?_ (Up.drewN _ _) | refine Up.trans ?_ (Up.alloc _ _) | refine Up.trans ?_ (Go.RowKit.Hid.out (by assumption)))))) ?_
                rintro e w10 ⟨rfl, hu10⟩
                have HNXb := Lib.hid (HNXa.out.up hu10)
                have HNYb := Lib.hid (HNYa.out.up hu10)
                have HNZb := Lib.hid (HNZa.out.up hu10)
                have h610 := HUX.out.trans hu10
                clear hu10 HNXa HNYa HNZa
                obtain ⟨x0, x1', xf, xg, lx⟩ := HNYb.out.facts
                go_upto_region 18 with fail
                clear x0 x1' xf xg lx
                have HUY : Hid (Up w6 ((w10.setCell ⟨w7.heap.size, 0, none⟩ (.int .i64 X5)).setCell ⟨w7.heap.size, 1, none⟩ (.int .i64 Y5))) := Lib.hid (h610.stored (by omega) _ _)
                have HNXa := Lib.hid (HNXb.out.far (g' := w7.heap.size) (by omega) (.int .i64 X5) (.int .i64 Y5))
                have HNYa := Lib.hid (HNYb.out.set X5 Y5)
                have HNZa := Lib.hid (HNZb.out.far (g' := w7.heap.size) (by omega) (.int .i64 X5) (.int .i64 Y5))
                generalize (w10.setCell ⟨w7.heap.size, 0, none⟩ (.int .i64 X5)).setCell ⟨w7.heap.size, 1, none⟩ (.int .i64 Y5) = wYa at *
                clear HNXb HNYb HNZb h610 HUX
                obtain ⟨b0, b1', -, -, lb⟩ := (HNB.out.up (w' := wYa) (by (repeat (first | exact Below.refl _ _ | exact Go.RowKit.Hid.out (by assumption) | refine Up.trans ?_ (Up.drew _) | refine Up.trans ?_ (Up.drewN _ _) | refine Up.trans ?_ (Up.alloc _ _) | refine Up.trans ?_ (Go.RowKit.Hid.out (by assumption)))))).facts
                obtain ⟨c0, c1', -, -, lc⟩ := (HNC.out.up (w' := wYa) (by (repeat (first | exact Below.refl _ _ | exact Go.RowKit.Hid.out (by assumption) | refine Up.trans ?_ (Up.drew _) | refine Up.trans ?_ (Up.drewN _ _) | refine Up.trans ?_ (Up.alloc _ _) | refine Up.trans ?_ (Go.RowKit.Hid.out (by assumption)))))).facts
                go_wp2_with fail
                clear b0 b1' lb c0 c1' lc
                refine Calls.mono (HC3.out _ (by (repeat (first | exact Below.refl _ _ | exact Go.RowKit.Hid.out (by assumption) | refine Up.trans ?_ (Up.drew _) | refine Up.trans ?_ (Up.drewN _ _) | refine Up.trans ?_ (Up.alloc _ _) | refine Up.trans ?_ (Go.RowKit.Hid.out (by assumption)))))) ?_
                rintro e w11 ⟨rfl, hu11⟩
                have HNXb := Lib.hid (HNXa.out.up hu11)
                have HNYb := Lib.hid (HNYa.out.up hu11)
                have HNZb := Lib.hid (HNZa.out.up hu11)
                have h611 := HUY.out.trans hu11
                clear hu11 HNXa HNYa HNZa
                obtain ⟨x0, x1', xf, xg, lx⟩ := HNZb.out.facts
                go_upto_region 19 with fail
                clear x0 x1' xf xg lx
                have HUZ : Hid (Up w6 ((w11.setCell ⟨w8.heap.size, 0, none⟩ (.int .i64 X6)).setCell ⟨w8.heap.size, 1, none⟩ (.int .i64 Y6))) := Lib.hid (h611.stored (by omega) _ _)
                have HNXa := Lib.hid (HNXb.out.far (g' := w8.heap.size) (by omega) (.int .i64 X6) (.int .i64 Y6))
                have HNYa := Lib.hid (HNYb.out.far (g' := w8.heap.size) (by omega) (.int .i64 X6) (.int .i64 Y6))
                have HNZa := Lib.hid (HNZb.out.set X6 Y6)
                generalize (w11.setCell ⟨w8.heap.size, 0, none⟩ (.int .i64 X6)).setCell ⟨w8.heap.size, 1, none⟩ (.int .i64 Y6) = wZa at *
                clear HNXb HNYb HNZb h611 HUY
                obtain ⟨y0, y1', -, -, ly⟩ := HNYa.out.facts
                obtain ⟨z0, z1', -, -, lz⟩ := HNZa.out.facts
                go_wp2_with fail
                clear y0 y1' ly z0 z1' lz
                refine Calls.mono (HC4.out _ (by (repeat (first | exact Below.refl _ _ | exact Go.RowKit.Hid.out (by assumption) | refine Up.trans ?_ (Up.drew _) | refine Up.trans ?_ (Up.drewN _ _) | refine Up.trans ?_ (Up.alloc _ _) | refine Up.trans ?_ (Go.RowKit.Hid.out (by assumption)))))) ?_
                rintro e w12 ⟨rfl, hu12⟩
                have HU12 := Lib.hid hu12
                have HNX := Lib.hid (HNXa.out.up hu12)
                clear hu12 HNXa HNYa HNZa
                go_upto_region 20 with fail
                obtain ⟨wV, hwV⟩ : ∃ wV, wV = w12.alloc (.cells #[.int .i64 X7, .int .i64 Y7] 23) := ⟨_, rfl⟩
                have HUV := Lib.hid (show Up w12 wV by rw [hwV]; exact Up.alloc _ _)
                have HNV := Lib.hid (show CellN wV w12.heap.size X7 Y7 by rw [hwV]; exact CellN.new _ _ _)
                rw [← hwV]
                clear hwV
                go_cut [165] (fun s165 wx => s165 = .bool false ∧ wx = wV)
                case first =>
                  obtain ⟨x0, x1', -, -, lx⟩ := (HNX.out.up HUV.out).facts
                  obtain ⟨z0, z1', -, -, lz⟩ := HNV.out.facts
                  rcases HKC'.out with h | ⟨rfl, h | ⟨rfl, h | ⟨rfl, h | ⟨rfl, rfl, rfl⟩⟩⟩⟩
                  · go_wp2
                    go_meet
                    case rel => exact ⟨rfl, rfl⟩
                  · go_wp2
                    go_meet
                    case rel => exact ⟨rfl, rfl⟩
                  · go_wp2
                    go_meet
                    case rel => exact ⟨rfl, rfl⟩
                  · go_wp2
                    go_meet
                    case rel => exact ⟨rfl, rfl⟩
                  · go_wp2
                    go_meet
                    case rel => exact ⟨by simp, rfl⟩
                case rest =>
                  as_aux_lemma =>
                    obtain ⟨h1, h2⟩ := hcut
                    subst h1
                    rw [h2]
                    clear h2
                    go_wp2
                    go_meet
                    case rel => (repeat (first | exact Below.refl _ _ | exact Go.RowKit.Hid.out (by assumption) | refine Up.trans ?_ (Up.drew _) | refine Up.trans ?_ (Up.drewN _ _) | refine Up.trans ?_ (Up.alloc _ _) | refine Up.trans ?_ (Go.RowKit.Hid.out (by assumption))))
    · have hE' : (E == 0) = false := by simp [hE]
      go_wp2
      go_meet
      case rel => exact Up.refl _
  case rest =>
    have HUC := Lib.hid hcut
    clear hcut HKS HKB HKC HS HB1 HB2 HB3 HC1 HC2 HC4
    by_cases hG : G = 0
    · subst hG
      as_aux_lemma =>
        have HKD' := Lib.hid (HKD.out rfl)
        have HKE' := Lib.hid (HKE.out rfl)
        clear HKD HKE
        obtain ⟨r0, r1', -, -, lr⟩ := (HNR.out.up (w' := wc) (by (repeat (first | exact Below.refl _ _ | exact Go.RowKit.Hid.out (by assumption) | refine Up.trans ?_ (Up.drew _) | refine Up.trans ?_ (Up.drewN _ _) | refine Up.trans ?_ (Up.alloc _ _) | refine Up.trans ?_ (Go.RowKit.Hid.out (by assumption)))))).facts
        obtain ⟨b0, b1', -, -, lb⟩ := (HNB.out.up (w' := wc) (by (repeat (first | exact Below.refl _ _ | exact Go.RowKit.Hid.out (by assumption) | refine Up.trans ?_ (Up.drew _) | refine Up.trans ?_ (Up.drewN _ _) | refine Up.trans ?_ (Up.alloc _ _) | refine Up.trans ?_ (Go.RowKit.Hid.out (by assumption)))))).facts
        go_wp2_with fail
        clear r0 r1' b0 b1' lr lb
        refine Calls.mono (HD.out _ (by (repeat (first | exact Below.refl _ _ | exact Go.RowKit.Hid.out (by assumption) | refine Up.trans ?_ (Up.drew _) | refine Up.trans ?_ (Up.drewN _ _) | refine Up.trans ?_ (Up.alloc _ _) | refine Up.trans ?_ (Go.RowKit.Hid.out (by assumption)))))) ?_
        rintro e w5 ⟨rfl, hu5⟩
        have HU5 := Lib.hid hu5
        clear hu5
        go_upto_region 25 with fail
        obtain ⟨wX5, hwX5⟩ : ∃ wX5, wX5 = w5.alloc (.cells #[.int .i64 X8, .int .i64 Y8] 23) := ⟨_, rfl⟩
        have HUX5 := Lib.hid (show Up w5 wX5 by rw [hwX5]; exact Up.alloc _ _)
        have HNX5 := Lib.hid (show CellN wX5 w5.heap.size X8 Y8 by rw [hwX5]; exact CellN.new _ _ _)
        rw [← hwX5]
        clear hwX5
        go_cut [181] (fun s181 wx => s181 = .bool false ∧ wx = wX5)
        case first =>
          obtain ⟨a0, a1', -, -, la⟩ := (HNA.out.up (w' := wX5) (by (repeat (first | exact Below.refl _ _ | exact Go.RowKit.Hid.out (by assumption) | refine Up.trans ?_ (Up.drew _) | refine Up.trans ?_ (Up.drewN _ _) | refine Up.trans ?_ (Up.alloc _ _) | refine Up.trans ?_ (Go.RowKit.Hid.out (by assumption)))))).facts
          obtain ⟨x0, x1', -, -, lx⟩ := HNX5.out.facts
          rcases HKD'.out with h | ⟨rfl, rfl, rfl⟩
          · go_wp2
            go_meet
            case rel => exact ⟨rfl, rfl⟩
          · go_wp2
            go_meet
            case rel => exact ⟨by simp, rfl⟩
        case rest =>
          as_aux_lemma =>
            obtain ⟨h1, h2⟩ := hcut
            subst h1
            rw [h2]
            clear h2
            obtain ⟨p0, p1', -, -, lp⟩ := (HNR.out.up (w' := wX5) (by (repeat (first | exact Below.refl _ _ | exact Go.RowKit.Hid.out (by assumption) | refine Up.trans ?_ (Up.drew _) | refine Up.trans ?_ (Up.drewN _ _) | refine Up.trans ?_ (Up.alloc _ _) | refine Up.trans ?_ (Go.RowKit.Hid.out (by assumption)))))).facts
            obtain ⟨c0, c1', -, -, lc⟩ := (HNC.out.up (w' := wX5) (by (repeat (first | exact Below.refl _ _ | exact Go.RowKit.Hid.out (by assumption) | refine Up.trans ?_ (Up.drew _) | refine Up.trans ?_ (Up.drewN _ _) | refine Up.trans ?_ (Up.alloc _ _) | refine Up.trans ?_ (Go.RowKit.Hid.out (by assumption)))))).facts
            go_wp2_with fail
            clear p0 p1' lp c0 c1' lc
            refine Calls.mono (HE1.out _ (by (repeat (first | exact Below.refl _ _ | exact Go.RowKit.Hid.out (by assumption) | refine Up.trans ?_ (Up.drew _) | refine Up.trans ?_ (Up.drewN _ _) | refine Up.trans ?_ (Up.alloc _ _) | refine Up.trans ?_ (Go.RowKit.Hid.out (by assumption)))))) ?_
            rintro e w6 ⟨rfl, hu6⟩
            have HU6 := Lib.hid hu6
            clear hu6
            obtain ⟨b0, b1', -, -, lb⟩ := (HNB.out.up (w' := w6) (by (repeat (first | exact Below.refl _ _ | exact Go.RowKit.Hid.out (by assumption) | refine Up.trans ?_ (Up.drew _) | refine Up.trans ?_ (Up.drewN _ _) | refine Up.trans ?_ (Up.alloc _ _) | refine Up.trans ?_ (Go.RowKit.Hid.out (by assumption)))))).facts
            obtain ⟨c0, c1', -, -, lc⟩ := (HNC.out.up (w' := w6) (by (repeat (first | exact Below.refl _ _ | exact Go.RowKit.Hid.out (by assumption) | refine Up.trans ?_ (Up.drew _) | refine Up.trans ?_ (Up.drewN _ _) | refine Up.trans ?_ (Up.alloc _ _) | refine Up.trans ?_ (Go.RowKit.Hid.out (by assumption)))))).facts
            go_wp2_with fail
            clear b0 b1' lb c0 c1' lc
            refine Calls.mono (HC3.out _ (by (repeat (first | exact Below.refl _ _ | exact Go.RowKit.Hid.out (by assumption) | refine Up.trans ?_ (Up.drew _) | refine Up.trans ?_ (Up.drewN _ _) | refine Up.trans ?_ (Up.alloc _ _) | refine Up.trans ?_ (Go.RowKit.Hid.out (by assumption)))))) ?_
            rintro e w7 ⟨rfl, hu7⟩
            have HU7 := Lib.hid hu7
            have HNX := Lib.hid ((CellN.new w6 X9 Y9).up hu7)
            clear hu7
            obtain ⟨a0, a1', -, -, la⟩ := (HNA.out.up (w' := w7) (by (repeat (first | exact Below.refl _ _ | exact Go.RowKit.Hid.out (by assumption) | refine Up.trans ?_ (Up.drew _) | refine Up.trans ?_ (Up.drewN _ _) | refine Up.trans ?_ (Up.alloc _ _) | refine Up.trans ?_ (Go.RowKit.Hid.out (by assumption)))))).facts
            go_wp2_with fail
            clear a0 a1' la
            refine Calls.mono (HE3.out _ (by (repeat (first | exact Below.refl _ _ | exact Go.RowKit.Hid.out (by assumption) | refine Up.trans ?_ (Up.drew _) | refine Up.trans ?_ (Up.drewN _ _) | refine Up.trans ?_ (Up.alloc _ _) | refine Up.trans ?_ (Go.RowKit.Hid.out (by assumption)))))) ?_
            rintro e w8 ⟨rfl, hu8⟩
            have HU8 := Lib.hid hu8
            have HNX8 := Lib.hid ((HNX.out.up (Up.alloc w7 (.cells #[.int .i64 X6, .int .i64 Y6] 23))).up hu8)
            clear hu8
            go_upto_region 30 with fail
            obtain ⟨wZ, hwZ⟩ : ∃ wZ, wZ = w8.alloc (.cells #[.int .i64 XB, .int .i64 YB] 23) := ⟨_, rfl⟩
            have HUZ := Lib.hid (show Up w8 wZ by rw [hwZ]; exact Up.alloc _ _)
            have HNZ := Lib.hid (show CellN wZ w8.heap.size XB YB by rw [hwZ]; exact CellN.new _ _ _)
            rw [← hwZ]
            clear hwZ
            obtain ⟨x0, x1', -, -, lx⟩ := (HNX8.out.up HUZ.out).facts
            obtain ⟨z0, z1', -, -, lz⟩ := HNZ.out.facts
            rcases HKE'.out with h | ⟨rfl, h | ⟨rfl, h | ⟨rfl, rfl, rfl⟩⟩⟩
            case' inl => have hn : ¬ I9 = 0 := by simpa using h
            case' inr.inl => have hn : ¬ I6 = 0 := by simpa using h
            case' inr.inr.inl => have hn : ¬ IB = 0 := by simpa using h
            all_goals
              go_wp2_with fail
              refine Calls.mono (HW.out _ (by (repeat (first | exact Below.refl _ _ | exact Go.RowKit.Hid.out (by assumption) | refine Up.trans ?_ (Up.drew _) | refine Up.trans ?_ (Up.drewN _ _) | refine Up.trans ?_ (Up.alloc _ _) | refine Up.trans ?_ (Go.RowKit.Hid.out (by assumption)))))) ?_
              rintro e w9 ⟨rfl, hu9⟩
              have HU9 := Lib.hid hu9
              clear hu9
              go_wp2
              go_ret
              exact ⟨rfl, by (repeat (first | exact Below.refl _ _ | exact Go.RowKit.Hid.out (by assumption) | refine Up.trans ?_ (Up.drew _) | refine Up.trans ?_ (Up.drewN _ _) | refine Up.trans ?_ (Up.alloc _ _) | refine Up.trans ?_ (Go.RowKit.Hid.out (by assumption))))⟩
    · have hG' : (G == 0) = false := by simp [hG]
      go_wp2_with fail
      refine Calls.mono (HW.out _ (by (repeat (first | exact Below.refl _ _ | exact Go.RowKit.Hid.out (by assumption) | refine Up.trans ?_ (Up.drew _) | refine Up.trans ?_ (Up.drewN _ _) | refine Up.trans ?_ (Up.alloc _ _) | refine Up.trans ?_ (Go.RowKit.Hid.out (by assumption)))))) ?_
      rintro e w9 ⟨rfl, hu9⟩
      have HU9 := Lib.hid hu9
      clear hu9
      go_wp2
      go_ret
      exact ⟨rfl, by (repeat (first | exact Below.refl _ _ | exact Go.RowKit.Hid.out (by assumption) | refine Up.trans ?_ (Up.drew _) | refine Up.trans ?_ (Up.drewN _ _) | refine Up.trans ?_ (Up.alloc _ _) | refine Up.trans ?_ (Go.RowKit.Hid.out (by assumption))))⟩

end Go.Proofs.YtahmjnjammcifaaDoor
