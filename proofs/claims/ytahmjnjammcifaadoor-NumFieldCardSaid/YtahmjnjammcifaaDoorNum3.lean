import Derived.Test.YtahmjnjammcifaaDoorNum2
namespace Go.Proofs.YtahmjnjammcifaaDoor
open Go.RowKit Fm

set_option maxRecDepth 10000 in
theorem numAdd_any (x1 y1 x2 y2 : Int) (w : World) (hx1 : -9223372036854775808 ≤ x1) (hx2 : x1 ≤ 9223372036854775807) (hy1 : -9223372036854775808 ≤ y1) (hy2 : y1 ≤ 9223372036854775807)
    (hx3 : -9223372036854775808 ≤ x2) (hx4 : x2 ≤ 9223372036854775807) (hy3 : -9223372036854775808 ≤ y2) (hy4 : y2 ≤ 9223372036854775807) (ht : Tab w) :
    Calls Tryd.prog 23 #[.agg #[.int .i64 x1, .int .i64 y1], .agg #[.int .i64 x2, .int .i64 y2]] w fun e w' =>
      e = .returned (.tuple #[.agg #[.int .i64 (numX (okNum x1 y1 && okNum x2 y2) (ratOf x1 y1 + ratOf x2 y2)), .int .i64 (numY (okNum x1 y1 && okNum x2 y2) (ratOf x1 y1 + ratOf x2 y2))], .int .i64 (numE (okNum x1 y1 && okNum x2 y2) (ratOf x1 y1 + ratOf x2 y2))]) ∧ Up w w' := by
  have HA := Lib.hid (fun W (hu : Up w W) => applyPlus_any x1 y1 x2 y2 W hx1 hx2 hy1 hy2 hx3 hx4 hy3 hy4 (ht.up hu))
  generalize numX (okNum x1 y1 && okNum x2 y2) (ratOf x1 y1 + ratOf x2 y2) = rx at *
  generalize numY (okNum x1 y1 && okNum x2 y2) (ratOf x1 y1 + ratOf x2 y2) = ry at *
  generalize numE (okNum x1 y1 && okNum x2 y2) (ratOf x1 y1 + ratOf x2 y2) = re at *
  clear ht hx1 hx2 hx3 hx4 hy1 hy2 hy3 hy4
  go_enter Tryd.func23, Tryd.ntmps23
  go_wp2_with fail
  obtain ⟨wB, hwB⟩ : ∃ wB, wB = ((w.alloc (.cells #[.int .i64 x1, .int .i64 y1] 23)).alloc (.cells #[.int .i64 x2, .int .i64 y2] 23)).alloc (.cells #[.int .i64 0, .int .i64 0] 23) := ⟨_, rfl⟩
  have HN1 := Lib.hid (show CellN wB w.heap.size x1 y1 by rw [hwB]; exact ((CellN.new w x1 y1).up (Up.alloc _ _)).up (Up.alloc _ _))
  have HN2 := Lib.hid (show CellN wB (w.heap.size + 1) x2 y2 by rw [hwB]; have := (CellN.new (w.alloc (.cells #[.int .i64 x1, .int .i64 y1] 23)) x2 y2).up (Up.alloc _ (.cells #[.int .i64 0, .int .i64 0] 23)); simpa using this)
  have HR := Lib.hid (show CellN wB (w.heap.size + 1 + 1) 0 0 by rw [hwB]; have := CellN.new ((w.alloc (.cells #[.int .i64 x1, .int .i64 y1] 23)).alloc (.cells #[.int .i64 x2, .int .i64 y2] 23)) 0 0; simpa using this)
  have HU := Lib.hid (show Up w wB by rw [hwB]; exact Up.three w _ _ _)
  rw [← hwB]
  clear hwB
  refine Calls.mono (HA.out _ (by (repeat (first | exact Below.refl _ _ | exact Go.RowKit.Hid.out (by assumption) | refine Up.trans ?_ (Up.drew _) | refine Up.trans ?_ (Up.drewN _ _) | refine Up.trans ?_ (Up.alloc _ _) | refine Up.trans ?_ (Go.RowKit.Hid.out (by assumption)))))) ?_
  rintro e w1 ⟨rfl, hu1⟩
  have HU1 := Lib.hid hu1
  clear hu1
  obtain ⟨r0, r1, g0, g1, lr⟩ := (HR.out.up (w' := w1) (by (repeat (first | exact Below.refl _ _ | exact Go.RowKit.Hid.out (by assumption) | refine Up.trans ?_ (Up.drew _) | refine Up.trans ?_ (Up.drewN _ _) | refine Up.trans ?_ (Up.alloc _ _) | refine Up.trans ?_ (Go.RowKit.Hid.out (by assumption)))))).facts
  have HR8 := Lib.hid (HR.out.up (w' := w1) (by (repeat (first | exact Below.refl _ _ | exact Go.RowKit.Hid.out (by assumption) | refine Up.trans ?_ (Up.drew _) | refine Up.trans ?_ (Up.drewN _ _) | refine Up.trans ?_ (Up.alloc _ _) | refine Up.trans ?_ (Go.RowKit.Hid.out (by assumption))))))
  have HF := Lib.hid ((HR8.out.set rx ry).facts)
  have HUF := Lib.hid ((show Up w w1 by (repeat (first | exact Below.refl _ _ | exact Go.RowKit.Hid.out (by assumption) | refine Up.trans ?_ (Up.drew _) | refine Up.trans ?_ (Up.drewN _ _) | refine Up.trans ?_ (Up.alloc _ _) | refine Up.trans ?_ (Go.RowKit.Hid.out (by assumption))))).stored (show w.heap.size ≤ w.heap.size + 1 + 1 by omega) (.int .i64 rx) (.int .i64 ry))
  go_wp2
  obtain ⟨z0, z1, -, -, -⟩ := HF.out
  refine bodyPost_ret (by simp [results, Tryd.results23, go_sem, z0, z1]; try rfl) rfl ?_
  exact ⟨rfl, HUF.out⟩

set_option maxRecDepth 10000 in
theorem numSub_any (x1 y1 x2 y2 : Int) (w : World) (hx1 : -9223372036854775808 ≤ x1) (hx2 : x1 ≤ 9223372036854775807) (hy1 : -9223372036854775808 ≤ y1) (hy2 : y1 ≤ 9223372036854775807)
    (hx3 : -9223372036854775808 ≤ x2) (hx4 : x2 ≤ 9223372036854775807) (hy3 : -9223372036854775808 ≤ y2) (hy4 : y2 ≤ 9223372036854775807) (ht : Tab w) :
    Calls Tryd.prog 25 #[.agg #[.int .i64 x1, .int .i64 y1], .agg #[.int .i64 x2, .int .i64 y2]] w fun e w' =>
      e = .returned (.tuple #[.agg #[.int .i64 (numX (okNum x1 y1 && okNum x2 y2) (ratOf x1 y1 - ratOf x2 y2)), .int .i64 (numY (okNum x1 y1 && okNum x2 y2) (ratOf x1 y1 - ratOf x2 y2))], .int .i64 (numE (okNum x1 y1 && okNum x2 y2) (ratOf x1 y1 - ratOf x2 y2))]) ∧ Up w w' := by
  have HA := Lib.hid (fun W (hu : Up w W) => applyMinus_any x1 y1 x2 y2 W hx1 hx2 hy1 hy2 hx3 hx4 hy3 hy4 (ht.up hu))
  generalize numX (okNum x1 y1 && okNum x2 y2) (ratOf x1 y1 - ratOf x2 y2) = rx at *
  generalize numY (okNum x1 y1 && okNum x2 y2) (ratOf x1 y1 - ratOf x2 y2) = ry at *
  generalize numE (okNum x1 y1 && okNum x2 y2) (ratOf x1 y1 - ratOf x2 y2) = re at *
  clear ht hx1 hx2 hx3 hx4 hy1 hy2 hy3 hy4
  go_enter Tryd.func25, Tryd.ntmps25
  go_wp2_with fail
  obtain ⟨wB, hwB⟩ : ∃ wB, wB = ((w.alloc (.cells #[.int .i64 x1, .int .i64 y1] 23)).alloc (.cells #[.int .i64 x2, .int .i64 y2] 23)).alloc (.cells #[.int .i64 0, .int .i64 0] 23) := ⟨_, rfl⟩
  have HN1 := Lib.hid (show CellN wB w.heap.size x1 y1 by rw [hwB]; exact ((CellN.new w x1 y1).up (Up.alloc _ _)).up (Up.alloc _ _))
  have HN2 := Lib.hid (show CellN wB (w.heap.size + 1) x2 y2 by rw [hwB]; have := (CellN.new (w.alloc (.cells #[.int .i64 x1, .int .i64 y1] 23)) x2 y2).up (Up.alloc _ (.cells #[.int .i64 0, .int .i64 0] 23)); simpa using this)
  have HR := Lib.hid (show CellN wB (w.heap.size + 1 + 1) 0 0 by rw [hwB]; have := CellN.new ((w.alloc (.cells #[.int .i64 x1, .int .i64 y1] 23)).alloc (.cells #[.int .i64 x2, .int .i64 y2] 23)) 0 0; simpa using this)
  have HU := Lib.hid (show Up w wB by rw [hwB]; exact Up.three w _ _ _)
  rw [← hwB]
  clear hwB
  refine Calls.mono (HA.out _ (by (repeat (first | exact Below.refl _ _ | exact Go.RowKit.Hid.out (by assumption) | refine Up.trans ?_ (Up.drew _) | refine Up.trans ?_ (Up.drewN _ _) | refine Up.trans ?_ (Up.alloc _ _) | refine Up.trans ?_ (Go.RowKit.Hid.out (by assumption)))))) ?_
  rintro e w1 ⟨rfl, hu1⟩
  have HU1 := Lib.hid hu1
  clear hu1
  obtain ⟨r0, r1, g0, g1, lr⟩ := (HR.out.up (w' := w1) (by (repeat (first | exact Below.refl _ _ | exact Go.RowKit.Hid.out (by assumption) | refine Up.trans ?_ (Up.drew _) | refine Up.trans ?_ (Up.drewN _ _) | refine Up.trans ?_ (Up.alloc _ _) | refine Up.trans ?_ (Go.RowKit.Hid.out (by assumption)))))).facts
  have HR8 := Lib.hid (HR.out.up (w' := w1) (by (repeat (first | exact Below.refl _ _ | exact Go.RowKit.Hid.out (by assumption) | refine Up.trans ?_ (Up.drew _) | refine Up.trans ?_ (Up.drewN _ _) | refine Up.trans ?_ (Up.alloc _ _) | refine Up.trans ?_ (Go.RowKit.Hid.out (by assumption))))))
  have HF := Lib.hid ((HR8.out.set rx ry).facts)
  have HUF := Lib.hid ((show Up w w1 by (repeat (first | exact Below.refl _ _ | exact Go.RowKit.Hid.out (by assumption) | refine Up.trans ?_ (Up.drew _) | refine Up.trans ?_ (Up.drewN _ _) | refine Up.trans ?_ (Up.alloc _ _) | refine Up.trans ?_ (Go.RowKit.Hid.out (by assumption))))).stored (show w.heap.size ≤ w.heap.size + 1 + 1 by omega) (.int .i64 rx) (.int .i64 ry))
  go_wp2
  obtain ⟨z0, z1, -, -, -⟩ := HF.out
  refine bodyPost_ret (by simp [results, Tryd.results25, go_sem, z0, z1]; try rfl) rfl ?_
  exact ⟨rfl, HUF.out⟩

set_option maxRecDepth 10000 in
theorem numMul_any (x1 y1 x2 y2 : Int) (w : World) (hx1 : -9223372036854775808 ≤ x1) (hx2 : x1 ≤ 9223372036854775807) (hy1 : -9223372036854775808 ≤ y1) (hy2 : y1 ≤ 9223372036854775807)
    (hx3 : -9223372036854775808 ≤ x2) (hx4 : x2 ≤ 9223372036854775807) (hy3 : -9223372036854775808 ≤ y2) (hy4 : y2 ≤ 9223372036854775807) (ht : Tab w) :
    Calls Tryd.prog 24 #[.agg #[.int .i64 x1, .int .i64 y1], .agg #[.int .i64 x2, .int .i64 y2]] w fun e w' =>
      e = .returned (.tuple #[.agg #[.int .i64 (numX (okNum x1 y1 && okNum x2 y2) (ratOf x1 y1 * ratOf x2 y2)), .int .i64 (numY (okNum x1 y1 && okNum x2 y2) (ratOf x1 y1 * ratOf x2 y2))], .int .i64 (numE (okNum x1 y1 && okNum x2 y2) (ratOf x1 y1 * ratOf x2 y2))]) ∧ Up w w' := by
  have HA := Lib.hid (fun W (hu : Up w W) => applyTimes_any x1 y1 x2 y2 W hx1 hx2 hy1 hy2 hx3 hx4 hy3 hy4 (ht.up hu))
  generalize numX (okNum x1 y1 && okNum x2 y2) (ratOf x1 y1 * ratOf x2 y2) = rx at *
  generalize numY (okNum x1 y1 && okNum x2 y2) (ratOf x1 y1 * ratOf x2 y2) = ry at *
  generalize numE (okNum x1 y1 && okNum x2 y2) (ratOf x1 y1 * ratOf x2 y2) = re at *
  clear ht hx1 hx2 hx3 hx4 hy1 hy2 hy3 hy4
  go_enter Tryd.func24, Tryd.ntmps24
  go_wp2_with fail
  obtain ⟨wB, hwB⟩ : ∃ wB, wB = ((w.alloc (.cells #[.int .i64 x1, .int .i64 y1] 23)).alloc (.cells #[.int .i64 x2, .int .i64 y2] 23)).alloc (.cells #[.int .i64 0, .int .i64 0] 23) := ⟨_, rfl⟩
  have HN1 := Lib.hid (show CellN wB w.heap.size x1 y1 by rw [hwB]; exact ((CellN.new w x1 y1).up (Up.alloc _ _)).up (Up.alloc _ _))
  have HN2 := Lib.hid (show CellN wB (w.heap.size + 1) x2 y2 by rw [hwB]; have := (CellN.new (w.alloc (.cells #[.int .i64 x1, .int .i64 y1] 23)) x2 y2).up (Up.alloc _ (.cells #[.int .i64 0, .int .i64 0] 23)); simpa using this)
  have HR := Lib.hid (show CellN wB (w.heap.size + 1 + 1) 0 0 by rw [hwB]; have := CellN.new ((w.alloc (.cells #[.int .i64 x1, .int .i64 y1] 23)).alloc (.cells #[.int .i64 x2, .int .i64 y2] 23)) 0 0; simpa using this)
  have HU := Lib.hid (show Up w wB by rw [hwB]; exact Up.three w _ _ _)
  rw [← hwB]
  clear hwB
  refine Calls.mono (HA.out _ (by (repeat (first | exact Below.refl _ _ | exact Go.RowKit.Hid.out (by assumption) | refine Up.trans ?_ (Up.drew _) | refine Up.trans ?_ (Up.drewN _ _) | refine Up.trans ?_ (Up.alloc _ _) | refine Up.trans ?_ (Go.RowKit.Hid.out (by assumption)))))) ?_
  rintro e w1 ⟨rfl, hu1⟩
  have HU1 := Lib.hid hu1
  clear hu1
  obtain ⟨r0, r1, g0, g1, lr⟩ := (HR.out.up (w' := w1) (by (repeat (first | exact Below.refl _ _ | exact Go.RowKit.Hid.out (by assumption) | refine Up.trans ?_ (Up.drew _) | refine Up.trans ?_ (Up.drewN _ _) | refine Up.trans ?_ (Up.alloc _ _) | refine Up.trans ?_ (Go.RowKit.Hid.out (by assumption)))))).facts
  have HR8 := Lib.hid (HR.out.up (w' := w1) (by (repeat (first | exact Below.refl _ _ | exact Go.RowKit.Hid.out (by assumption) | refine Up.trans ?_ (Up.drew _) | refine Up.trans ?_ (Up.drewN _ _) | refine Up.trans ?_ (Up.alloc _ _) | refine Up.trans ?_ (Go.RowKit.Hid.out (by assumption))))))
  have HF := Lib.hid ((HR8.out.set rx ry).facts)
  have HUF := Lib.hid ((show Up w w1 by (repeat (first | exact Below.refl _ _ | exact Go.RowKit.Hid.out (by assumption) | refine Up.trans ?_ (Up.drew _) | refine Up.trans ?_ (Up.drewN _ _) | refine Up.trans ?_ (Up.alloc _ _) | refine Up.trans ?_ (Go.RowKit.Hid.out (by assumption))))).stored (show w.heap.size ≤ w.heap.size + 1 + 1 by omega) (.int .i64 rx) (.int .i64 ry))
  go_wp2
  obtain ⟨z0, z1, -, -, -⟩ := HF.out
  refine bodyPost_ret (by simp [results, Tryd.results24, go_sem, z0, z1]; try rfl) rfl ?_
  exact ⟨rfl, HUF.out⟩

/-- Whether Div answers ErrNone. -/
def divNone (x1 y1 x2 y2 : Int) : Bool := okNum x1 y1 && okNum x2 y2 && (x2 == 0)
set_option maxRecDepth 10000 in
theorem numDiv_any (x1 y1 x2 y2 : Int) (w : World) (hx1 : -9223372036854775808 ≤ x1) (hx2 : x1 ≤ 9223372036854775807) (hy1 : -9223372036854775808 ≤ y1) (hy2 : y1 ≤ 9223372036854775807)
    (hx3 : -9223372036854775808 ≤ x2) (hx4 : x2 ≤ 9223372036854775807) (hy3 : -9223372036854775808 ≤ y2) (hy4 : y2 ≤ 9223372036854775807) (ht : Tab w) :
    Calls Tryd.prog 26 #[.agg #[.int .i64 x1, .int .i64 y1], .agg #[.int .i64 x2, .int .i64 y2]] w fun e w' =>
      e = .returned (if divNone x1 y1 x2 y2 then .tuple #[.agg #[.int .i64 0, .int .i64 0], .int .i64 5] else .tuple #[.agg #[.int .i64 (numX (okNum x1 y1 && okNum x2 y2) (ratOf x1 y1 / ratOf x2 y2)), .int .i64 (numY (okNum x1 y1 && okNum x2 y2) (ratOf x1 y1 / ratOf x2 y2))], .int .i64 (numE (okNum x1 y1 && okNum x2 y2) (ratOf x1 y1 / ratOf x2 y2))]) ∧ Up w w' := by
  have HV1 := Lib.hid (fun W (hu : Up w W) => valid_any x1 y1 W hx1 hx2 hy1 hy2 (ht.up hu))
  have HV2 := Lib.hid (fun W (hu : Up w W) => valid_any x2 y2 W hx3 hx4 hy3 hy4 (ht.up hu))
  have HAA := fun (hz : okNum x1 y1 = true → okNum x2 y2 = true → ratOf x2 y2 ≠ 0) => Lib.hid (fun W (hu : Up w W) => applyOver_any x1 y1 x2 y2 W hx1 hx2 hy1 hy2 hx3 hx4 hy3 hy4 hz (ht.up hu))
  rcases hk1 : okNum x1 y1 with _ | _
  · have HA := HAA (fun h => by rw [hk1] at h; cases h)
    have hd : divNone x1 y1 x2 y2 = false := by simp [divNone, hk1]
    rw [hd]
    rw [hk1] at HV1 HA
    simp only [if_false, Bool.false_eq_true]
    generalize numX (false && okNum x2 y2) (ratOf x1 y1 / ratOf x2 y2) = rx at *
    generalize numY (false && okNum x2 y2) (ratOf x1 y1 / ratOf x2 y2) = ry at *
    generalize numE (false && okNum x2 y2) (ratOf x1 y1 / ratOf x2 y2) = re at *
    clear hk1 ht hx1 hx2 hx3 hx4 hy1 hy2 hy3 hy4 HAA hd
    go_enter Tryd.func26, Tryd.ntmps26
    go_wp2_with fail
    obtain ⟨wB, hwB⟩ : ∃ wB, wB = ((w.alloc (.cells #[.int .i64 x1, .int .i64 y1] 23)).alloc (.cells #[.int .i64 x2, .int .i64 y2] 23)).alloc (.cells #[.int .i64 0, .int .i64 0] 23) := ⟨_, rfl⟩
    have HN1 := Lib.hid (show CellN wB w.heap.size x1 y1 by rw [hwB]; exact ((CellN.new w x1 y1).up (Up.alloc _ _)).up (Up.alloc _ _))
    have HN2 := Lib.hid (show CellN wB (w.heap.size + 1) x2 y2 by rw [hwB]; have := (CellN.new (w.alloc (.cells #[.int .i64 x1, .int .i64 y1] 23)) x2 y2).up (Up.alloc _ (.cells #[.int .i64 0, .int .i64 0] 23)); simpa using this)
    have HR := Lib.hid (show CellN wB (w.heap.size + 1 + 1) 0 0 by rw [hwB]; have := CellN.new ((w.alloc (.cells #[.int .i64 x1, .int .i64 y1] 23)).alloc (.cells #[.int .i64 x2, .int .i64 y2] 23)) 0 0; simpa using this)
    have HU := Lib.hid (show Up w wB by rw [hwB]; exact Up.three w _ _ _)
    rw [← hwB]
    clear hwB
    refine Calls.mono (HV1.out _ (by (repeat (first | exact Below.refl _ _ | exact Go.RowKit.Hid.out (by assumption) | refine Up.trans ?_ (Up.drew _) | refine Up.trans ?_ (Up.drewN _ _) | refine Up.trans ?_ (Up.alloc _ _) | refine Up.trans ?_ (Go.RowKit.Hid.out (by assumption)))))) ?_
    rintro e w1 ⟨rfl, hu1⟩
    have HU1 := Lib.hid hu1
    clear hu1
    obtain ⟨a0, a1, -, -, la⟩ := (HN1.out.up (w' := w1) (by (repeat (first | exact Below.refl _ _ | exact Go.RowKit.Hid.out (by assumption) | refine Up.trans ?_ (Up.drew _) | refine Up.trans ?_ (Up.drewN _ _) | refine Up.trans ?_ (Up.alloc _ _) | refine Up.trans ?_ (Go.RowKit.Hid.out (by assumption)))))).facts
    obtain ⟨b0, b1, -, -, lb⟩ := (HN2.out.up (w' := w1) (by (repeat (first | exact Below.refl _ _ | exact Go.RowKit.Hid.out (by assumption) | refine Up.trans ?_ (Up.drew _) | refine Up.trans ?_ (Up.drewN _ _) | refine Up.trans ?_ (Up.alloc _ _) | refine Up.trans ?_ (Go.RowKit.Hid.out (by assumption)))))).facts
    go_wp2_with fail
    refine Calls.mono (HA.out _ (by (repeat (first | exact Below.refl _ _ | exact Go.RowKit.Hid.out (by assumption) | refine Up.trans ?_ (Up.drew _) | refine Up.trans ?_ (Up.drewN _ _) | refine Up.trans ?_ (Up.alloc _ _) | refine Up.trans ?_ (Go.RowKit.Hid.out (by assumption)))))) ?_
    rintro e w5 ⟨rfl, hu5⟩
    have HU5 := Lib.hid hu5
    clear hu5
    obtain ⟨r0, r1, g0, g1, lr⟩ := (HR.out.up (w' := w5) (by (repeat (first | exact Below.refl _ _ | exact Go.RowKit.Hid.out (by assumption) | refine Up.trans ?_ (Up.drew _) | refine Up.trans ?_ (Up.drewN _ _) | refine Up.trans ?_ (Up.alloc _ _) | refine Up.trans ?_ (Go.RowKit.Hid.out (by assumption)))))).facts
    have HR8 := Lib.hid (HR.out.up (w' := w5) (by (repeat (first | exact Below.refl _ _ | exact Go.RowKit.Hid.out (by assumption) | refine Up.trans ?_ (Up.drew _) | refine Up.trans ?_ (Up.drewN _ _) | refine Up.trans ?_ (Up.alloc _ _) | refine Up.trans ?_ (Go.RowKit.Hid.out (by assumption))))))
    have HF := Lib.hid ((HR8.out.set rx ry).facts)
    have HUF := Lib.hid ((show Up w w5 by (repeat (first | exact Below.refl _ _ | exact Go.RowKit.Hid.out (by assumption) | refine Up.trans ?_ (Up.drew _) | refine Up.trans ?_ (Up.drewN _ _) | refine Up.trans ?_ (Up.alloc _ _) | refine Up.trans ?_ (Go.RowKit.Hid.out (by assumption))))).stored (show w.heap.size ≤ w.heap.size + 1 + 1 by omega) (.int .i64 rx) (.int .i64 ry))
    go_wp2
    obtain ⟨z0, z1, -, -, -⟩ := HF.out
    refine bodyPost_ret (by simp [results, Tryd.results26, go_sem, z0, z1]; try rfl) rfl ?_
    exact ⟨rfl, HUF.out⟩
  · rw [hk1] at HV1
    rcases hk2 : okNum x2 y2 with _ | _
    · have HA := HAA (fun _ h => by rw [hk2] at h; cases h)
      have hd : divNone x1 y1 x2 y2 = false := by simp [divNone, hk2]
      rw [hd]
      rw [hk2] at HV2
      rw [hk1, hk2] at HA
      simp only [if_false, Bool.false_eq_true]
      generalize numX (true && false) (ratOf x1 y1 / ratOf x2 y2) = rx at *
      generalize numY (true && false) (ratOf x1 y1 / ratOf x2 y2) = ry at *
      generalize numE (true && false) (ratOf x1 y1 / ratOf x2 y2) = re at *
      clear hk1 hk2 ht hx1 hx2 hx3 hx4 hy1 hy2 hy3 hy4 HAA hd
      go_enter Tryd.func26, Tryd.ntmps26
      go_wp2_with fail
      obtain ⟨wB, hwB⟩ : ∃ wB, wB = ((w.alloc (.cells #[.int .i64 x1, .int .i64 y1] 23)).alloc (.cells #[.int .i64 x2, .int .i64 y2] 23)).alloc (.cells #[.int .i64 0, .int .i64 0] 23) := ⟨_, rfl⟩
      have HN1 := Lib.hid (show CellN wB w.heap.size x1 y1 by rw [hwB]; exact ((CellN.new w x1 y1).up (Up.alloc _ _)).up (Up.alloc _ _))
      have HN2 := Lib.hid (show CellN wB (w.heap.size + 1) x2 y2 by rw [hwB]; have := (CellN.new (w.alloc (.cells #[.int .i64 x1, .int .i64 y1] 23)) x2 y2).up (Up.alloc _ (.cells #[.int .i64 0, .int .i64 0] 23)); simpa using this)
      have HR := Lib.hid (show CellN wB (w.heap.size + 1 + 1) 0 0 by rw [hwB]; have := CellN.new ((w.alloc (.cells #[.int .i64 x1, .int .i64 y1] 23)).alloc (.cells #[.int .i64 x2, .int .i64 y2] 23)) 0 0; simpa using this)
      have HU := Lib.hid (show Up w wB by rw [hwB]; exact Up.three w _ _ _)
      rw [← hwB]
      clear hwB
      refine Calls.mono (HV1.out _ (by (repeat (first | exact Below.refl _ _ | exact Go.RowKit.Hid.out (by assumption) | refine Up.trans ?_ (Up.drew _) | refine Up.trans ?_ (Up.drewN _ _) | refine Up.trans ?_ (Up.alloc _ _) | refine Up.trans ?_ (Go.RowKit.Hid.out (by assumption)))))) ?_
      rintro e w1 ⟨rfl, hu1⟩
      have HU1 := Lib.hid hu1
      clear hu1
      obtain ⟨b0, b1, -, -, lb⟩ := (HN2.out.up (w' := w1) (by (repeat (first | exact Below.refl _ _ | exact Go.RowKit.Hid.out (by assumption) | refine Up.trans ?_ (Up.drew _) | refine Up.trans ?_ (Up.drewN _ _) | refine Up.trans ?_ (Up.alloc _ _) | refine Up.trans ?_ (Go.RowKit.Hid.out (by assumption)))))).facts
      go_wp2_with fail
      refine Calls.mono (HV2.out _ (by (repeat (first | exact Below.refl _ _ | exact Go.RowKit.Hid.out (by assumption) | refine Up.trans ?_ (Up.drew _) | refine Up.trans ?_ (Up.drewN _ _) | refine Up.trans ?_ (Up.alloc _ _) | refine Up.trans ?_ (Go.RowKit.Hid.out (by assumption)))))) ?_
      rintro e w2 ⟨rfl, hu2⟩
      have HU2 := Lib.hid hu2
      clear hu2
      obtain ⟨a0, a1, -, -, la⟩ := (HN1.out.up (w' := w2) (by (repeat (first | exact Below.refl _ _ | exact Go.RowKit.Hid.out (by assumption) | refine Up.trans ?_ (Up.drew _) | refine Up.trans ?_ (Up.drewN _ _) | refine Up.trans ?_ (Up.alloc _ _) | refine Up.trans ?_ (Go.RowKit.Hid.out (by assumption)))))).facts
      obtain ⟨b0, b1, -, -, lb⟩ := (HN2.out.up (w' := w2) (by (repeat (first | exact Below.refl _ _ | exact Go.RowKit.Hid.out (by assumption) | refine Up.trans ?_ (Up.drew _) | refine Up.trans ?_ (Up.drewN _ _) | refine Up.trans ?_ (Up.alloc _ _) | refine Up.trans ?_ (Go.RowKit.Hid.out (by assumption)))))).facts
      go_wp2_with fail
      refine Calls.mono (HA.out _ (by (repeat (first | exact Below.refl _ _ | exact Go.RowKit.Hid.out (by assumption) | refine Up.trans ?_ (Up.drew _) | refine Up.trans ?_ (Up.drewN _ _) | refine Up.trans ?_ (Up.alloc _ _) | refine Up.trans ?_ (Go.RowKit.Hid.out (by assumption)))))) ?_
      rintro e w5 ⟨rfl, hu5⟩
      have HU5 := Lib.hid hu5
      clear hu5
      obtain ⟨r0, r1, g0, g1, lr⟩ := (HR.out.up (w' := w5) (by (repeat (first | exact Below.refl _ _ | exact Go.RowKit.Hid.out (by assumption) | refine Up.trans ?_ (Up.drew _) | refine Up.trans ?_ (Up.drewN _ _) | refine Up.trans ?_ (Up.alloc _ _) | refine Up.trans ?_ (Go.RowKit.Hid.out (by assumption)))))).facts
      have HR8 := Lib.hid (HR.out.up (w' := w5) (by (repeat (first | exact Below.refl _ _ | exact Go.RowKit.Hid.out (by assumption) | refine Up.trans ?_ (Up.drew _) | refine Up.trans ?_ (Up.drewN _ _) | refine Up.trans ?_ (Up.alloc _ _) | refine Up.trans ?_ (Go.RowKit.Hid.out (by assumption))))))
      have HF := Lib.hid ((HR8.out.set rx ry).facts)
      have HUF := Lib.hid ((show Up w w5 by (repeat (first | exact Below.refl _ _ | exact Go.RowKit.Hid.out (by assumption) | refine Up.trans ?_ (Up.drew _) | refine Up.trans ?_ (Up.drewN _ _) | refine Up.trans ?_ (Up.alloc _ _) | refine Up.trans ?_ (Go.RowKit.Hid.out (by assumption))))).stored (show w.heap.size ≤ w.heap.size + 1 + 1 by omega) (.int .i64 rx) (.int .i64 ry))
      go_wp2
      obtain ⟨z0, z1, -, -, -⟩ := HF.out
      refine bodyPost_ret (by simp [results, Tryd.results26, go_sem, z0, z1]; try rfl) rfl ?_
      exact ⟨rfl, HUF.out⟩
    · rw [hk2] at HV2
      by_cases h0 : x2 = 0
      · have hd : divNone x1 y1 x2 y2 = true := by unfold divNone; rw [hk1, hk2]; simp [h0]
        rw [hd]
        simp only [if_true]
        have HB := Lib.hid h0
        clear h0 hk1 hk2 ht hx1 hx2 hx3 hx4 hy1 hy2 hy3 hy4 HAA hd
        go_enter Tryd.func26, Tryd.ntmps26
        go_wp2_with fail
        obtain ⟨wB, hwB⟩ : ∃ wB, wB = ((w.alloc (.cells #[.int .i64 x1, .int .i64 y1] 23)).alloc (.cells #[.int .i64 x2, .int .i64 y2] 23)).alloc (.cells #[.int .i64 0, .int .i64 0] 23) := ⟨_, rfl⟩
        have HN1 := Lib.hid (show CellN wB w.heap.size x1 y1 by rw [hwB]; exact ((CellN.new w x1 y1).up (Up.alloc _ _)).up (Up.alloc _ _))
        have HN2 := Lib.hid (show CellN wB (w.heap.size + 1) x2 y2 by rw [hwB]; have := (CellN.new (w.alloc (.cells #[.int .i64 x1, .int .i64 y1] 23)) x2 y2).up (Up.alloc _ (.cells #[.int .i64 0, .int .i64 0] 23)); simpa using this)
        have HR := Lib.hid (show CellN wB (w.heap.size + 1 + 1) 0 0 by rw [hwB]; have := CellN.new ((w.alloc (.cells #[.int .i64 x1, .int .i64 y1] 23)).alloc (.cells #[.int .i64 x2, .int .i64 y2] 23)) 0 0; simpa using this)
        have HU := Lib.hid (show Up w wB by rw [hwB]; exact Up.three w _ _ _)
        rw [← hwB]
        clear hwB
        refine Calls.mono (HV1.out _ (by (repeat (first | exact Below.refl _ _ | exact Go.RowKit.Hid.out (by assumption) | refine Up.trans ?_ (Up.drew _) | refine Up.trans ?_ (Up.drewN _ _) | refine Up.trans ?_ (Up.alloc _ _) | refine Up.trans ?_ (Go.RowKit.Hid.out (by assumption)))))) ?_
        rintro e w1 ⟨rfl, hu1⟩
        have HU1 := Lib.hid hu1
        clear hu1
        obtain ⟨b0, b1, -, -, lb⟩ := (HN2.out.up (w' := w1) (by (repeat (first | exact Below.refl _ _ | exact Go.RowKit.Hid.out (by assumption) | refine Up.trans ?_ (Up.drew _) | refine Up.trans ?_ (Up.drewN _ _) | refine Up.trans ?_ (Up.alloc _ _) | refine Up.trans ?_ (Go.RowKit.Hid.out (by assumption)))))).facts
        go_wp2_with fail
        refine Calls.mono (HV2.out _ (by (repeat (first | exact Below.refl _ _ | exact Go.RowKit.Hid.out (by assumption) | refine Up.trans ?_ (Up.drew _) | refine Up.trans ?_ (Up.drewN _ _) | refine Up.trans ?_ (Up.alloc _ _) | refine Up.trans ?_ (Go.RowKit.Hid.out (by assumption)))))) ?_
        rintro e w2 ⟨rfl, hu2⟩
        have HU2 := Lib.hid hu2
        clear hu2
        obtain ⟨b0, b1, -, -, lb⟩ := (HN2.out.up (w' := w2) (by (repeat (first | exact Below.refl _ _ | exact Go.RowKit.Hid.out (by assumption) | refine Up.trans ?_ (Up.drew _) | refine Up.trans ?_ (Up.drewN _ _) | refine Up.trans ?_ (Up.alloc _ _) | refine Up.trans ?_ (Go.RowKit.Hid.out (by assumption)))))).facts
        have hb := HB.out
        obtain ⟨r0, r1, g0, g1, lr⟩ := (HR.out.up (w' := w2) (by (repeat (first | exact Below.refl _ _ | exact Go.RowKit.Hid.out (by assumption) | refine Up.trans ?_ (Up.drew _) | refine Up.trans ?_ (Up.drewN _ _) | refine Up.trans ?_ (Up.alloc _ _) | refine Up.trans ?_ (Go.RowKit.Hid.out (by assumption)))))).facts
        have HR8 := Lib.hid (HR.out.up (w' := w2) (by (repeat (first | exact Below.refl _ _ | exact Go.RowKit.Hid.out (by assumption) | refine Up.trans ?_ (Up.drew _) | refine Up.trans ?_ (Up.drewN _ _) | refine Up.trans ?_ (Up.alloc _ _) | refine Up.trans ?_ (Go.RowKit.Hid.out (by assumption))))))
        have HF := Lib.hid ((HR8.out.set 0 0).facts)
        have HUF := Lib.hid ((show Up w w2 by (repeat (first | exact Below.refl _ _ | exact Go.RowKit.Hid.out (by assumption) | refine Up.trans ?_ (Up.drew _) | refine Up.trans ?_ (Up.drewN _ _) | refine Up.trans ?_ (Up.alloc _ _) | refine Up.trans ?_ (Go.RowKit.Hid.out (by assumption))))).stored (show w.heap.size ≤ w.heap.size + 1 + 1 by omega) (.int .i64 0) (.int .i64 0))
        go_wp2
        obtain ⟨z0, z1, -, -, -⟩ := HF.out
        refine bodyPost_ret (by simp [results, Tryd.results26, go_sem, z0, z1]; try rfl) rfl ?_
        exact ⟨rfl, HUF.out⟩
      · have HA := HAA (fun _ h => by
          intro h1
          have h2 := (ratOf_ok h).1
          rw [h1] at h2
          exact h0 h2.symm)
        have hd : divNone x1 y1 x2 y2 = false := by simp [divNone, h0]
        rw [hd]
        rw [hk1, hk2] at HA
        simp only [if_false, Bool.false_eq_true]
        have hb : (x2 == 0) = false := by simp [h0]
        generalize numX (true && true) (ratOf x1 y1 / ratOf x2 y2) = rx at *
        generalize numY (true && true) (ratOf x1 y1 / ratOf x2 y2) = ry at *
        generalize numE (true && true) (ratOf x1 y1 / ratOf x2 y2) = re at *
        clear hk1 hk2 ht hx1 hx2 hx3 hx4 hy1 hy2 hy3 hy4 HAA hd
        go_enter Tryd.func26, Tryd.ntmps26
        go_wp2_with fail
        obtain ⟨wB, hwB⟩ : ∃ wB, wB = ((w.alloc (.cells #[.int .i64 x1, .int .i64 y1] 23)).alloc (.cells #[.int .i64 x2, .int .i64 y2] 23)).alloc (.cells #[.int .i64 0, .int .i64 0] 23) := ⟨_, rfl⟩
        have HN1 := Lib.hid (show CellN wB w.heap.size x1 y1 by rw [hwB]; exact ((CellN.new w x1 y1).up (Up.alloc _ _)).up (Up.alloc _ _))
        have HN2 := Lib.hid (show CellN wB (w.heap.size + 1) x2 y2 by rw [hwB]; have := (CellN.new (w.alloc (.cells #[.int .i64 x1, .int .i64 y1] 23)) x2 y2).up (Up.alloc _ (.cells #[.int .i64 0, .int .i64 0] 23)); simpa using this)
        have HR := Lib.hid (show CellN wB (w.heap.size + 1 + 1) 0 0 by rw [hwB]; have := CellN.new ((w.alloc (.cells #[.int .i64 x1, .int .i64 y1] 23)).alloc (.cells #[.int .i64 x2, .int .i64 y2] 23)) 0 0; simpa using this)
        have HU := Lib.hid (show Up w wB by rw [hwB]; exact Up.three w _ _ _)
        rw [← hwB]
        clear hwB
        refine Calls.mono (HV1.out _ (by (repeat (first | exact Below.refl _ _ | exact Go.RowKit.Hid.out (by assumption) | refine Up.trans ?_ (Up.drew _) | refine Up.trans ?_ (Up.drewN _ _) | refine Up.trans ?_ (Up.alloc _ _) | refine Up.trans ?_ (Go.RowKit.Hid.out (by assumption)))))) ?_
        rintro e w1 ⟨rfl, hu1⟩
        have HU1 := Lib.hid hu1
        clear hu1
        obtain ⟨b0, b1, -, -, lb⟩ := (HN2.out.up (w' := w1) (by (repeat (first | exact Below.refl _ _ | exact Go.RowKit.Hid.out (by assumption) | refine Up.trans ?_ (Up.drew _) | refine Up.trans ?_ (Up.drewN _ _) | refine Up.trans ?_ (Up.alloc _ _) | refine Up.trans ?_ (Go.RowKit.Hid.out (by assumption)))))).facts
        go_wp2_with fail
        refine Calls.mono (HV2.out _ (by (repeat (first | exact Below.refl _ _ | exact Go.RowKit.Hid.out (by assumption) | refine Up.trans ?_ (Up.drew _) | refine Up.trans ?_ (Up.drewN _ _) | refine Up.trans ?_ (Up.alloc _ _) | refine Up.trans ?_ (Go.RowKit.Hid.out (by assumption)))))) ?_
        rintro e w2 ⟨rfl, hu2⟩
        have HU2 := Lib.hid hu2
        clear hu2
        obtain ⟨a0, a1, -, -, la⟩ := (HN1.out.up (w' := w2) (by (repeat (first | exact Below.refl _ _ | exact Go.RowKit.Hid.out (by assumption) | refine Up.trans ?_ (Up.drew _) | refine Up.trans ?_ (Up.drewN _ _) | refine Up.trans ?_ (Up.alloc _ _) | refine Up.trans ?_ (Go.RowKit.Hid.out (by assumption)))))).facts
        obtain ⟨b0, b1, -, -, lb⟩ := (HN2.out.up (w' := w2) (by (repeat (first | exact Below.refl _ _ | exact Go.RowKit.Hid.out (by assumption) | refine Up.trans ?_ (Up.drew _) | refine Up.trans ?_ (Up.drewN _ _) | refine Up.trans ?_ (Up.alloc _ _) | refine Up.trans ?_ (Go.RowKit.Hid.out (by assumption)))))).facts
        go_wp2_with fail
        refine Calls.mono (HA.out _ (by (repeat (first | exact Below.refl _ _ | exact Go.RowKit.Hid.out (by assumption) | refine Up.trans ?_ (Up.drew _) | refine Up.trans ?_ (Up.drewN _ _) | refine Up.trans ?_ (Up.alloc _ _) | refine Up.trans ?_ (Go.RowKit.Hid.out (by assumption)))))) ?_
        rintro e w5 ⟨rfl, hu5⟩
        have HU5 := Lib.hid hu5
        clear hu5
        obtain ⟨r0, r1, g0, g1, lr⟩ := (HR.out.up (w' := w5) (by (repeat (first | exact Below.refl _ _ | exact Go.RowKit.Hid.out (by assumption) | refine Up.trans ?_ (Up.drew _) | refine Up.trans ?_ (Up.drewN _ _) | refine Up.trans ?_ (Up.alloc _ _) | refine Up.trans ?_ (Go.RowKit.Hid.out (by assumption)))))).facts
        have HR8 := Lib.hid (HR.out.up (w' := w5) (by (repeat (first | exact Below.refl _ _ | exact Go.RowKit.Hid.out (by assumption) | refine Up.trans ?_ (Up.drew _) | refine Up.trans ?_ (Up.drewN _ _) | refine Up.trans ?_ (Up.alloc _ _) | refine Up.trans ?_ (Go.RowKit.Hid.out (by assumption))))))
        have HF := Lib.hid ((HR8.out.set rx ry).facts)
        have HUF := Lib.hid ((show Up w w5 by (repeat (first | exact Below.refl _ _ | exact Go.RowKit.Hid.out (by assumption) | refine Up.trans ?_ (Up.drew _) | refine Up.trans ?_ (Up.drewN _ _) | refine Up.trans ?_ (Up.alloc _ _) | refine Up.trans ?_ (Go.RowKit.Hid.out (by assumption))))).stored (show w.heap.size ≤ w.heap.size + 1 + 1 by omega) (.int .i64 rx) (.int .i64 ry))
        go_wp2
        obtain ⟨z0, z1, -, -, -⟩ := HF.out
        refine bodyPost_ret (by simp [results, Tryd.results26, go_sem, z0, z1]; try rfl) rfl ?_
        exact ⟨rfl, HUF.out⟩
end Go.Proofs.YtahmjnjammcifaaDoor
