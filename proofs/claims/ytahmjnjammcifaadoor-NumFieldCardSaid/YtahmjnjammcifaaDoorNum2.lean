import Derived.Test.YtahmjnjammcifaaDoorNum1
namespace Go.Proofs.YtahmjnjammcifaaDoor
open Go.RowKit Fm

/-- The fraction of a pair of integers. -/
def ratOf (x y : Int) : Rat := Rat.divInt x y
theorem ratOf_ok {x y : Int} (h : okNum x y = true) : (ratOf x y).num = x ∧ ((ratOf x y).den : Int) = y := by
  unfold okNum at h
  simp only [decide_eq_true_eq] at h
  obtain ⟨h1, -, -, -, hg⟩ := h
  have := new_pos (top := x) (low := y) (by omega)
  rw [hg] at this
  unfold ratOf
  exact ⟨by rw [← this.1]; simp, by rw [← this.2]; simp⟩
theorem ok_bounds {x y : Int} (h : okNum x y = true) : 1 ≤ y ∧ y ≤ 1152921504606846976 ∧ -1152921504606846976 ≤ x ∧ x ≤ 1152921504606846976 := by
  unfold okNum at h
  simp only [decide_eq_true_eq] at h
  exact ⟨h.1, h.2.1, h.2.2.1, h.2.2.2.1⟩
theorem ok_FB {x y : Int} (h : okNum x y = true) : FB (ratOf x y) 16777216 := by
  obtain ⟨h1, h2⟩ := ratOf_ok h
  have := ok_bounds h
  exact ⟨by rw [h1]; exact Nat.le_trans (bl_small (by omega)) (by omega), by rw [h2]; exact Nat.le_trans (bl_small (by omega)) (by omega)⟩

/-- What an operation on numbers answers: its fraction, or the error. -/
def numX (ok : Bool) (q : Rat) : Int := if ok && fits q then q.num else 0
def numY (ok : Bool) (q : Rat) : Int := if ok && fits q then (q.den : Int) else 0
def numE (ok : Bool) (q : Rat) : Int := if ok then (if fits q then 0 else 3) else 1

set_option maxHeartbeats 2000000 in
set_option maxRecDepth 10000 in
theorem applyPlus_any (x1 y1 x2 y2 : Int) (w : World) (hx1 : -9223372036854775808 ≤ x1) (hx2 : x1 ≤ 9223372036854775807) (hy1 : -9223372036854775808 ≤ y1) (hy2 : y1 ≤ 9223372036854775807)
    (hx3 : -9223372036854775808 ≤ x2) (hx4 : x2 ≤ 9223372036854775807) (hy3 : -9223372036854775808 ≤ y2) (hy4 : y2 ≤ 9223372036854775807)  (ht : Tab w) :
    Calls Tryd.prog 55 #[.func (.func 56) #[] #[], .agg #[.int .i64 x1, .int .i64 y1], .agg #[.int .i64 x2, .int .i64 y2]] w fun e w' =>
      e = .returned (.tuple #[.agg #[.int .i64 (numX (okNum x1 y1 && okNum x2 y2) (ratOf x1 y1 + ratOf x2 y2)), .int .i64 (numY (okNum x1 y1 && okNum x2 y2) (ratOf x1 y1 + ratOf x2 y2))], .int .i64 (numE (okNum x1 y1 && okNum x2 y2) (ratOf x1 y1 + ratOf x2 y2))]) ∧ Up w w' := by
  have HV1 := Lib.hid (fun W (hu : Up w W) => valid_any x1 y1 W hx1 hx2 hy1 hy2 (ht.up hu))
  have HV2 := Lib.hid (fun W (hu : Up w W) => valid_any x2 y2 W hx3 hx4 hy3 hy4 (ht.up hu))
  have HT := Lib.hid ht
  rcases hk1 : okNum x1 y1 with _ | _
  · rw [hk1] at HV1
    simp only [Bool.false_and, numX, numY, numE, if_false, Bool.false_eq_true]
    clear hk1 ht hx1 hx2 hx3 hx4 hy1 hy2 hy3 hy4
    go_enter Tryd.func55, Tryd.ntmps55
    go_wp2_with fail
    obtain ⟨wB, hwB⟩ : ∃ wB, wB = ((w.alloc (.cells #[.int .i64 x1, .int .i64 y1] 23)).alloc (.cells #[.int .i64 x2, .int .i64 y2] 23)).alloc (.cells #[.int .i64 0, .int .i64 0] 23) := ⟨_, rfl⟩
    have HN1 := Lib.hid (show CellN wB w.heap.size x1 y1 by rw [hwB]; exact ((CellN.new w x1 y1).up (Up.alloc _ _)).up (Up.alloc _ _))
    have HN2 := Lib.hid (show CellN wB (w.heap.size + 1) x2 y2 by rw [hwB]; have := (CellN.new (w.alloc (.cells #[.int .i64 x1, .int .i64 y1] 23)) x2 y2).up (Up.alloc _ (.cells #[.int .i64 0, .int .i64 0] 23)); simpa using this)
    have HR := Lib.hid (show CellN wB (w.heap.size + 1 + 1) 0 0 by rw [hwB]; have := CellN.new ((w.alloc (.cells #[.int .i64 x1, .int .i64 y1] 23)).alloc (.cells #[.int .i64 x2, .int .i64 y2] 23)) 0 0; simpa using this)
    have HU := Lib.hid (show Up w wB by rw [hwB]; exact Up.three w _ _ _)
    rw [← hwB]
    clear hwB
    refine Calls.mono (HV1.out _ (by (repeat (first | exact Below.refl _ _ | exact Go.RowKit.Hid.out (by assumption) | refine Up.trans ?_ (Up.drew _) | refine Up.trans ?_ (Up.drewN _ _) | refine Up.trans ?_ (Up.alloc _ _) | refine Up.trans ?_ (Go.RowKit.Hid.out (by assumption)))))) ?_
    rintro e w1 ⟨rfl, hu1⟩
    have HU1 := Lib.hid hu1
    clear hu1
    obtain ⟨r0, r1, g0, g1, lr⟩ := (HR.out.up (w' := w1) (by (repeat (first | exact Below.refl _ _ | exact Go.RowKit.Hid.out (by assumption) | refine Up.trans ?_ (Up.drew _) | refine Up.trans ?_ (Up.drewN _ _) | refine Up.trans ?_ (Up.alloc _ _) | refine Up.trans ?_ (Go.RowKit.Hid.out (by assumption)))))).facts
    have HR2 := Lib.hid (HR.out.up (w' := w1) (by (repeat (first | exact Below.refl _ _ | exact Go.RowKit.Hid.out (by assumption) | refine Up.trans ?_ (Up.drew _) | refine Up.trans ?_ (Up.drewN _ _) | refine Up.trans ?_ (Up.alloc _ _) | refine Up.trans ?_ (Go.RowKit.Hid.out (by assumption))))))
    have HF := Lib.hid ((HR2.out.set 0 0).facts)
    have HUF := Lib.hid ((show Up w w1 by (repeat (first | exact Below.refl _ _ | exact Go.RowKit.Hid.out (by assumption) | refine Up.trans ?_ (Up.drew _) | refine Up.trans ?_ (Up.drewN _ _) | refine Up.trans ?_ (Up.alloc _ _) | refine Up.trans ?_ (Go.RowKit.Hid.out (by assumption))))).stored (show w.heap.size ≤ w.heap.size + 1 + 1 by omega) (.int .i64 0) (.int .i64 0))
    go_wp2
    obtain ⟨z0, z1, -, -, -⟩ := HF.out
    refine bodyPost_ret (by simp [results, Tryd.results55, go_sem, z0, z1]; try rfl) rfl ?_
    exact ⟨rfl, HUF.out⟩
  · rw [hk1] at HV1
    rcases hk2 : okNum x2 y2 with _ | _
    · rw [hk2] at HV2
      simp only [Bool.and_false, numX, numY, numE, Bool.false_and, if_false, Bool.false_eq_true]
      clear hk1 hk2 ht hx1 hx2 hx3 hx4 hy1 hy2 hy3 hy4
      go_enter Tryd.func55, Tryd.ntmps55
      go_wp2_with fail
      obtain ⟨wB, hwB⟩ : ∃ wB, wB = ((w.alloc (.cells #[.int .i64 x1, .int .i64 y1] 23)).alloc (.cells #[.int .i64 x2, .int .i64 y2] 23)).alloc (.cells #[.int .i64 0, .int .i64 0] 23) := ⟨_, rfl⟩
      have HN1 := Lib.hid (show CellN wB w.heap.size x1 y1 by rw [hwB]; exact ((CellN.new w x1 y1).up (Up.alloc _ _)).up (Up.alloc _ _))
      have HN2 := Lib.hid (show CellN wB (w.heap.size + 1) x2 y2 by rw [hwB]; have := (CellN.new (w.alloc (.cells #[.int .i64 x1, .int .i64 y1] 23)) x2 y2).up (Up.alloc _ (.cells #[.int .i64 0, .int .i64 0] 23)); simpa using this)
      have HR := Lib.hid (show CellN wB (w.heap.size + 1 + 1) 0 0 by rw [hwB]; have := CellN.new ((w.alloc (.cells #[.int .i64 x1, .int .i64 y1] 23)).alloc (.cells #[.int .i64 x2, .int .i64 y2] 23)) 0 0; simpa using this)
      have HU := Lib.hid (show Up w wB by rw [hwB]; exact Up.three w _ _ _)
      rw [← hwB]
      clear hwB
      refine Calls.mono (HV1.out _ (by (repeat (first | exact Below.refl _ _ | exact Go.RowKit.Hid.out (by assumption) | refine Up.trans ?_ (Up.drew _) | refine Up.trans ?_ (Up.drewN _ _) | refine Up.trans ?_ (Up.alloc _ _) | refine Up.trans ?_ (Go.RowKit.Hid.out (by assumption)))))) ?_
      rintro e w1 ⟨rfl, hu1⟩
      have HU1 := Lib.hid hu1
      clear hu1
      obtain ⟨b0, b1, -, -, lb⟩ := (HN2.out.up (w' := w1) (by (repeat (first | exact Below.refl _ _ | exact Go.RowKit.Hid.out (by assumption) | refine Up.trans ?_ (Up.drew _) | refine Up.trans ?_ (Up.drewN _ _) | refine Up.trans ?_ (Up.alloc _ _) | refine Up.trans ?_ (Go.RowKit.Hid.out (by assumption)))))).facts
      go_wp2_with fail
      refine Calls.mono (HV2.out _ (by (repeat (first | exact Below.refl _ _ | exact Go.RowKit.Hid.out (by assumption) | refine Up.trans ?_ (Up.drew _) | refine Up.trans ?_ (Up.drewN _ _) | refine Up.trans ?_ (Up.alloc _ _) | refine Up.trans ?_ (Go.RowKit.Hid.out (by assumption)))))) ?_
      rintro e w2 ⟨rfl, hu2⟩
      have HU2 := Lib.hid hu2
      clear hu2
      obtain ⟨r0, r1, g0, g1, lr⟩ := (HR.out.up (w' := w2) (by (repeat (first | exact Below.refl _ _ | exact Go.RowKit.Hid.out (by assumption) | refine Up.trans ?_ (Up.drew _) | refine Up.trans ?_ (Up.drewN _ _) | refine Up.trans ?_ (Up.alloc _ _) | refine Up.trans ?_ (Go.RowKit.Hid.out (by assumption)))))).facts
      have HR2 := Lib.hid (HR.out.up (w' := w2) (by (repeat (first | exact Below.refl _ _ | exact Go.RowKit.Hid.out (by assumption) | refine Up.trans ?_ (Up.drew _) | refine Up.trans ?_ (Up.drewN _ _) | refine Up.trans ?_ (Up.alloc _ _) | refine Up.trans ?_ (Go.RowKit.Hid.out (by assumption))))))
      have HF := Lib.hid ((HR2.out.set 0 0).facts)
      have HUF := Lib.hid ((show Up w w2 by (repeat (first | exact Below.refl _ _ | exact Go.RowKit.Hid.out (by assumption) | refine Up.trans ?_ (Up.drew _) | refine Up.trans ?_ (Up.drewN _ _) | refine Up.trans ?_ (Up.alloc _ _) | refine Up.trans ?_ (Go.RowKit.Hid.out (by assumption))))).stored (show w.heap.size ≤ w.heap.size + 1 + 1 by omega) (.int .i64 0) (.int .i64 0))
      go_wp2
      obtain ⟨z0, z1, -, -, -⟩ := HF.out
      refine bodyPost_ret (by simp [results, Tryd.results55, go_sem, z0, z1]; try rfl) rfl ?_
      exact ⟨rfl, HUF.out⟩
    · rw [hk2] at HV2
      obtain ⟨e1, e2⟩ := ratOf_ok hk1
      obtain ⟨e3, e4⟩ := ratOf_ok hk2
      have f1 := ok_FB hk1
      have f2 := ok_FB hk2
      have HO1 := Lib.hid (fun W => fracOf_any x1 y1 (ratOf x1 y1) W e1 e2 hx1 hx2 hy1 hy2)
      have HO2 := Lib.hid (fun W => fracOf_any x2 y2 (ratOf x2 y2) W e3 e4 hx3 hx4 hy3 hy4)
      have HOP := Lib.hid (fun W u1 u2 (hu : Up w W) (hv1 : FV W u1 (ratOf x1 y1)) (hv2 : FV W u2 (ratOf x2 y2)) => fracPlus_any u1 u2 (ratOf x1 y1) (ratOf x2 y2) W hv1 hv2 f1 f2  (ht.up hu))
      simp only [Bool.and_true, numX, numY, numE, Bool.true_and, if_true]
      obtain ⟨q, hq⟩ : ∃ q, q = ratOf x1 y1 + ratOf x2 y2 := ⟨_, rfl⟩
      rw [← hq] at HOP ⊢
      have HL := Lib.hid (fun W u (hv : FV W u q) => limited_any u q W hv)
      generalize (if fits q = true then q.num else 0) = rx at *
      generalize (if fits q = true then (q.den : Int) else 0) = ry at *
      generalize (if fits q = true then (0 : Int) else 3) = re at *
      clear hk1 hk2 ht hx1 hx2 hx3 hx4 hy1 hy2 hy3 hy4 e1 e2 e3 e4 f1 f2 hq
      go_enter Tryd.func55, Tryd.ntmps55
      go_wp2_with fail
      obtain ⟨wB, hwB⟩ : ∃ wB, wB = ((w.alloc (.cells #[.int .i64 x1, .int .i64 y1] 23)).alloc (.cells #[.int .i64 x2, .int .i64 y2] 23)).alloc (.cells #[.int .i64 0, .int .i64 0] 23) := ⟨_, rfl⟩
      have HN1 := Lib.hid (show CellN wB w.heap.size x1 y1 by rw [hwB]; exact ((CellN.new w x1 y1).up (Up.alloc _ _)).up (Up.alloc _ _))
      have HN2 := Lib.hid (show CellN wB (w.heap.size + 1) x2 y2 by rw [hwB]; have := (CellN.new (w.alloc (.cells #[.int .i64 x1, .int .i64 y1] 23)) x2 y2).up (Up.alloc _ (.cells #[.int .i64 0, .int .i64 0] 23)); simpa using this)
      have HR := Lib.hid (show CellN wB (w.heap.size + 1 + 1) 0 0 by rw [hwB]; have := CellN.new ((w.alloc (.cells #[.int .i64 x1, .int .i64 y1] 23)).alloc (.cells #[.int .i64 x2, .int .i64 y2] 23)) 0 0; simpa using this)
      have HU := Lib.hid (show Up w wB by rw [hwB]; exact Up.three w _ _ _)
      rw [← hwB]
      clear hwB
      refine Calls.mono (HV1.out _ (by (repeat (first | exact Below.refl _ _ | exact Go.RowKit.Hid.out (by assumption) | refine Up.trans ?_ (Up.drew _) | refine Up.trans ?_ (Up.drewN _ _) | refine Up.trans ?_ (Up.alloc _ _) | refine Up.trans ?_ (Go.RowKit.Hid.out (by assumption)))))) ?_
      rintro e w1 ⟨rfl, hu1⟩
      have HU1 := Lib.hid hu1
      clear hu1
      obtain ⟨b0, b1, -, -, lb⟩ := (HN2.out.up (w' := w1) (by (repeat (first | exact Below.refl _ _ | exact Go.RowKit.Hid.out (by assumption) | refine Up.trans ?_ (Up.drew _) | refine Up.trans ?_ (Up.drewN _ _) | refine Up.trans ?_ (Up.alloc _ _) | refine Up.trans ?_ (Go.RowKit.Hid.out (by assumption)))))).facts
      go_wp2_with fail
      refine Calls.mono (HV2.out _ (by (repeat (first | exact Below.refl _ _ | exact Go.RowKit.Hid.out (by assumption) | refine Up.trans ?_ (Up.drew _) | refine Up.trans ?_ (Up.drewN _ _) | refine Up.trans ?_ (Up.alloc _ _) | refine Up.trans ?_ (Go.RowKit.Hid.out (by assumption)))))) ?_
      rintro e w2 ⟨rfl, hu2⟩
      have HU2 := Lib.hid hu2
      clear hu2
      obtain ⟨a0, a1, -, -, la⟩ := (HN1.out.up (w' := w2) (by (repeat (first | exact Below.refl _ _ | exact Go.RowKit.Hid.out (by assumption) | refine Up.trans ?_ (Up.drew _) | refine Up.trans ?_ (Up.drewN _ _) | refine Up.trans ?_ (Up.alloc _ _) | refine Up.trans ?_ (Go.RowKit.Hid.out (by assumption)))))).facts
      obtain ⟨b0, b1, -, -, lb⟩ := (HN2.out.up (w' := w2) (by (repeat (first | exact Below.refl _ _ | exact Go.RowKit.Hid.out (by assumption) | refine Up.trans ?_ (Up.drew _) | refine Up.trans ?_ (Up.drewN _ _) | refine Up.trans ?_ (Up.alloc _ _) | refine Up.trans ?_ (Go.RowKit.Hid.out (by assumption)))))).facts
      go_wp2_with fail
      have hne1 : (w.heap.size = w.heap.size + 1 + 1) = False := by simp; omega
      have hne2 : (w.heap.size + 1 + 1 = w.heap.size) = False := by simp; omega
      go_region_held3 (fun w' => w'.cell? ⟨w.heap.size, 0, none⟩ = some (.int .i64 x1) ∧ w'.cell? ⟨w.heap.size, 1, none⟩ = some (.int .i64 y1) ∧ w'.cell? ⟨w.heap.size + 1, 0, none⟩ = some (.int .i64 x2) ∧ w'.cell? ⟨w.heap.size + 1, 1, none⟩ = some (.int .i64 y2)) (go_keep)
        ((first
          | (go_at_call_of 40 (Value.int IntKind.i64 x1)
             refine Calls.mono (HO1.out _) ?_
             rintro e w5 ⟨v5, rfl, hv5, hu5⟩
             have HU5 := Lib.hid hu5
             obtain ⟨a0, a1, -, -, la⟩ := (HN1.out.up (w' := w5) (by (repeat (first | exact Below.refl _ _ | exact Go.RowKit.Hid.out (by assumption) | refine Up.trans ?_ (Up.drew _) | refine Up.trans ?_ (Up.drewN _ _) | refine Up.trans ?_ (Up.alloc _ _) | refine Up.trans ?_ (Go.RowKit.Hid.out (by assumption)))))).facts
             obtain ⟨b0, b1, -, -, lb⟩ := (HN2.out.up (w' := w5) (by (repeat (first | exact Below.refl _ _ | exact Go.RowKit.Hid.out (by assumption) | refine Up.trans ?_ (Up.drew _) | refine Up.trans ?_ (Up.drewN _ _) | refine Up.trans ?_ (Up.alloc _ _) | refine Up.trans ?_ (Go.RowKit.Hid.out (by assumption)))))).facts
             have HV5 := Lib.hid hv5
             clear hv5 hu5)
          | (go_at_call_of 40 (Value.int IntKind.i64 x2)
             refine Calls.mono (HO2.out _) ?_
             rintro e w6 ⟨v6, rfl, hv6, hu6⟩
             have HU6 := Lib.hid hu6
             obtain ⟨a0, a1, -, -, la⟩ := (HN1.out.up (w' := w6) (by (repeat (first | exact Below.refl _ _ | exact Go.RowKit.Hid.out (by assumption) | refine Up.trans ?_ (Up.drew _) | refine Up.trans ?_ (Up.drewN _ _) | refine Up.trans ?_ (Up.alloc _ _) | refine Up.trans ?_ (Go.RowKit.Hid.out (by assumption)))))).facts
             obtain ⟨b0, b1, -, -, lb⟩ := (HN2.out.up (w' := w6) (by (repeat (first | exact Below.refl _ _ | exact Go.RowKit.Hid.out (by assumption) | refine Up.trans ?_ (Up.drew _) | refine Up.trans ?_ (Up.drewN _ _) | refine Up.trans ?_ (Up.alloc _ _) | refine Up.trans ?_ (Go.RowKit.Hid.out (by assumption)))))).facts
             have HV6 := Lib.hid hv6
             have HV5b := Lib.hid (HV5.out.up hu6)
             clear hv6 hu6)
          | (go_at_call 56
             refine Calls.mono (HOP.out _ _ _ (by (repeat (first | exact Below.refl _ _ | exact Go.RowKit.Hid.out (by assumption) | refine Up.trans ?_ (Up.drew _) | refine Up.trans ?_ (Up.drewN _ _) | refine Up.trans ?_ (Up.alloc _ _) | refine Up.trans ?_ (Go.RowKit.Hid.out (by assumption))))) HV5b.out HV6.out) ?_
             rintro e w7 ⟨v7, rfl, hv7, hu7⟩
             have HU7 := Lib.hid hu7
             obtain ⟨a0, a1, -, -, la⟩ := (HN1.out.up (w' := w7) (by (repeat (first | exact Below.refl _ _ | exact Go.RowKit.Hid.out (by assumption) | refine Up.trans ?_ (Up.drew _) | refine Up.trans ?_ (Up.drewN _ _) | refine Up.trans ?_ (Up.alloc _ _) | refine Up.trans ?_ (Go.RowKit.Hid.out (by assumption)))))).facts
             obtain ⟨b0, b1, -, -, lb⟩ := (HN2.out.up (w' := w7) (by (repeat (first | exact Below.refl _ _ | exact Go.RowKit.Hid.out (by assumption) | refine Up.trans ?_ (Up.drew _) | refine Up.trans ?_ (Up.drewN _ _) | refine Up.trans ?_ (Up.alloc _ _) | refine Up.trans ?_ (Go.RowKit.Hid.out (by assumption)))))).facts
             have HV7 := Lib.hid hv7
             clear hv7 hu7)
          | (go_at_call 27
             refine Calls.mono (HL.out _ _ HV7.out) ?_
             rintro e w8 ⟨rfl, hu8⟩
             have HU8 := Lib.hid hu8
             obtain ⟨a0, a1, -, -, la⟩ := (HN1.out.up (w' := w8) (by (repeat (first | exact Below.refl _ _ | exact Go.RowKit.Hid.out (by assumption) | refine Up.trans ?_ (Up.drew _) | refine Up.trans ?_ (Up.drewN _ _) | refine Up.trans ?_ (Up.alloc _ _) | refine Up.trans ?_ (Go.RowKit.Hid.out (by assumption)))))).facts
             obtain ⟨b0, b1, -, -, lb⟩ := (HN2.out.up (w' := w8) (by (repeat (first | exact Below.refl _ _ | exact Go.RowKit.Hid.out (by assumption) | refine Up.trans ?_ (Up.drew _) | refine Up.trans ?_ (Up.drewN _ _) | refine Up.trans ?_ (Up.alloc _ _) | refine Up.trans ?_ (Go.RowKit.Hid.out (by assumption)))))).facts
             obtain ⟨r0, r1, g0, g1, lr⟩ := (HR.out.up (w' := w8) (by (repeat (first | exact Below.refl _ _ | exact Go.RowKit.Hid.out (by assumption) | refine Up.trans ?_ (Up.drew _) | refine Up.trans ?_ (Up.drewN _ _) | refine Up.trans ?_ (Up.alloc _ _) | refine Up.trans ?_ (Go.RowKit.Hid.out (by assumption)))))).facts
             have HR8 := Lib.hid (HR.out.up (w' := w8) (by (repeat (first | exact Below.refl _ _ | exact Go.RowKit.Hid.out (by assumption) | refine Up.trans ?_ (Up.drew _) | refine Up.trans ?_ (Up.drewN _ _) | refine Up.trans ?_ (Up.alloc _ _) | refine Up.trans ?_ (Go.RowKit.Hid.out (by assumption))))))
             clear hu8)))
      have HF := Lib.hid ((HR8.out.set rx ry).facts)
      have HUF := Lib.hid ((show Up w w8 by (repeat (first | exact Below.refl _ _ | exact Go.RowKit.Hid.out (by assumption) | refine Up.trans ?_ (Up.drew _) | refine Up.trans ?_ (Up.drewN _ _) | refine Up.trans ?_ (Up.alloc _ _) | refine Up.trans ?_ (Go.RowKit.Hid.out (by assumption))))).stored (show w.heap.size ≤ w.heap.size + 1 + 1 by omega) (.int .i64 rx) (.int .i64 ry))
      obtain ⟨z0, z1, -, -, -⟩ := HF.out
      go_wp2
      refine bodyPost_ret (by simp [results, Tryd.results55, go_sem, z0, z1]; try rfl) rfl ?_
      exact ⟨rfl, HUF.out⟩

set_option maxHeartbeats 2000000 in
set_option maxRecDepth 10000 in
theorem applyMinus_any (x1 y1 x2 y2 : Int) (w : World) (hx1 : -9223372036854775808 ≤ x1) (hx2 : x1 ≤ 9223372036854775807) (hy1 : -9223372036854775808 ≤ y1) (hy2 : y1 ≤ 9223372036854775807)
    (hx3 : -9223372036854775808 ≤ x2) (hx4 : x2 ≤ 9223372036854775807) (hy3 : -9223372036854775808 ≤ y2) (hy4 : y2 ≤ 9223372036854775807)  (ht : Tab w) :
    Calls Tryd.prog 55 #[.func (.func 58) #[] #[], .agg #[.int .i64 x1, .int .i64 y1], .agg #[.int .i64 x2, .int .i64 y2]] w fun e w' =>
      e = .returned (.tuple #[.agg #[.int .i64 (numX (okNum x1 y1 && okNum x2 y2) (ratOf x1 y1 - ratOf x2 y2)), .int .i64 (numY (okNum x1 y1 && okNum x2 y2) (ratOf x1 y1 - ratOf x2 y2))], .int .i64 (numE (okNum x1 y1 && okNum x2 y2) (ratOf x1 y1 - ratOf x2 y2))]) ∧ Up w w' := by
  have HV1 := Lib.hid (fun W (hu : Up w W) => valid_any x1 y1 W hx1 hx2 hy1 hy2 (ht.up hu))
  have HV2 := Lib.hid (fun W (hu : Up w W) => valid_any x2 y2 W hx3 hx4 hy3 hy4 (ht.up hu))
  have HT := Lib.hid ht
  rcases hk1 : okNum x1 y1 with _ | _
  · rw [hk1] at HV1
    simp only [Bool.false_and, numX, numY, numE, if_false, Bool.false_eq_true]
    clear hk1 ht hx1 hx2 hx3 hx4 hy1 hy2 hy3 hy4
    go_enter Tryd.func55, Tryd.ntmps55
    go_wp2_with fail
    obtain ⟨wB, hwB⟩ : ∃ wB, wB = ((w.alloc (.cells #[.int .i64 x1, .int .i64 y1] 23)).alloc (.cells #[.int .i64 x2, .int .i64 y2] 23)).alloc (.cells #[.int .i64 0, .int .i64 0] 23) := ⟨_, rfl⟩
    have HN1 := Lib.hid (show CellN wB w.heap.size x1 y1 by rw [hwB]; exact ((CellN.new w x1 y1).up (Up.alloc _ _)).up (Up.alloc _ _))
    have HN2 := Lib.hid (show CellN wB (w.heap.size + 1) x2 y2 by rw [hwB]; have := (CellN.new (w.alloc (.cells #[.int .i64 x1, .int .i64 y1] 23)) x2 y2).up (Up.alloc _ (.cells #[.int .i64 0, .int .i64 0] 23)); simpa using this)
    have HR := Lib.hid (show CellN wB (w.heap.size + 1 + 1) 0 0 by rw [hwB]; have := CellN.new ((w.alloc (.cells #[.int .i64 x1, .int .i64 y1] 23)).alloc (.cells #[.int .i64 x2, .int .i64 y2] 23)) 0 0; simpa using this)
    have HU := Lib.hid (show Up w wB by rw [hwB]; exact Up.three w _ _ _)
    rw [← hwB]
    clear hwB
    refine Calls.mono (HV1.out _ (by (repeat (first | exact Below.refl _ _ | exact Go.RowKit.Hid.out (by assumption) | refine Up.trans ?_ (Up.drew _) | refine Up.trans ?_ (Up.drewN _ _) | refine Up.trans ?_ (Up.alloc _ _) | refine Up.trans ?_ (Go.RowKit.Hid.out (by assumption)))))) ?_
    rintro e w1 ⟨rfl, hu1⟩
    have HU1 := Lib.hid hu1
    clear hu1
    obtain ⟨r0, r1, g0, g1, lr⟩ := (HR.out.up (w' := w1) (by (repeat (first | exact Below.refl _ _ | exact Go.RowKit.Hid.out (by assumption) | refine Up.trans ?_ (Up.drew _) | refine Up.trans ?_ (Up.drewN _ _) | refine Up.trans ?_ (Up.alloc _ _) | refine Up.trans ?_ (Go.RowKit.Hid.out (by assumption)))))).facts
    have HR2 := Lib.hid (HR.out.up (w' := w1) (by (repeat (first | exact Below.refl _ _ | exact Go.RowKit.Hid.out (by assumption) | refine Up.trans ?_ (Up.drew _) | refine Up.trans ?_ (Up.drewN _ _) | refine Up.trans ?_ (Up.alloc _ _) | refine Up.trans ?_ (Go.RowKit.Hid.out (by assumption))))))
    have HF := Lib.hid ((HR2.out.set 0 0).facts)
    have HUF := Lib.hid ((show Up w w1 by (repeat (first | exact Below.refl _ _ | exact Go.RowKit.Hid.out (by assumption) | refine Up.trans ?_ (Up.drew _) | refine Up.trans ?_ (Up.drewN _ _) | refine Up.trans ?_ (Up.alloc _ _) | refine Up.trans ?_ (Go.RowKit.Hid.out (by assumption))))).stored (show w.heap.size ≤ w.heap.size + 1 + 1 by omega) (.int .i64 0) (.int .i64 0))
    go_wp2
    obtain ⟨z0, z1, -, -, -⟩ := HF.out
    refine bodyPost_ret (by simp [results, Tryd.results55, go_sem, z0, z1]; try rfl) rfl ?_
    exact ⟨rfl, HUF.out⟩
  · rw [hk1] at HV1
    rcases hk2 : okNum x2 y2 with _ | _
    · rw [hk2] at HV2
      simp only [Bool.and_false, numX, numY, numE, Bool.false_and, if_false, Bool.false_eq_true]
      clear hk1 hk2 ht hx1 hx2 hx3 hx4 hy1 hy2 hy3 hy4
      go_enter Tryd.func55, Tryd.ntmps55
      go_wp2_with fail
      obtain ⟨wB, hwB⟩ : ∃ wB, wB = ((w.alloc (.cells #[.int .i64 x1, .int .i64 y1] 23)).alloc (.cells #[.int .i64 x2, .int .i64 y2] 23)).alloc (.cells #[.int .i64 0, .int .i64 0] 23) := ⟨_, rfl⟩
      have HN1 := Lib.hid (show CellN wB w.heap.size x1 y1 by rw [hwB]; exact ((CellN.new w x1 y1).up (Up.alloc _ _)).up (Up.alloc _ _))
      have HN2 := Lib.hid (show CellN wB (w.heap.size + 1) x2 y2 by rw [hwB]; have := (CellN.new (w.alloc (.cells #[.int .i64 x1, .int .i64 y1] 23)) x2 y2).up (Up.alloc _ (.cells #[.int .i64 0, .int .i64 0] 23)); simpa using this)
      have HR := Lib.hid (show CellN wB (w.heap.size + 1 + 1) 0 0 by rw [hwB]; have := CellN.new ((w.alloc (.cells #[.int .i64 x1, .int .i64 y1] 23)).alloc (.cells #[.int .i64 x2, .int .i64 y2] 23)) 0 0; simpa using this)
      have HU := Lib.hid (show Up w wB by rw [hwB]; exact Up.three w _ _ _)
      rw [← hwB]
      clear hwB
      refine Calls.mono (HV1.out _ (by (repeat (first | exact Below.refl _ _ | exact Go.RowKit.Hid.out (by assumption) | refine Up.trans ?_ (Up.drew _) | refine Up.trans ?_ (Up.drewN _ _) | refine Up.trans ?_ (Up.alloc _ _) | refine Up.trans ?_ (Go.RowKit.Hid.out (by assumption)))))) ?_
      rintro e w1 ⟨rfl, hu1⟩
      have HU1 := Lib.hid hu1
      clear hu1
      obtain ⟨b0, b1, -, -, lb⟩ := (HN2.out.up (w' := w1) (by (repeat (first | exact Below.refl _ _ | exact Go.RowKit.Hid.out (by assumption) | refine Up.trans ?_ (Up.drew _) | refine Up.trans ?_ (Up.drewN _ _) | refine Up.trans ?_ (Up.alloc _ _) | refine Up.trans ?_ (Go.RowKit.Hid.out (by assumption)))))).facts
      go_wp2_with fail
      refine Calls.mono (HV2.out _ (by (repeat (first | exact Below.refl _ _ | exact Go.RowKit.Hid.out (by assumption) | refine Up.trans ?_ (Up.drew _) | refine Up.trans ?_ (Up.drewN _ _) | refine Up.trans ?_ (Up.alloc _ _) | refine Up.trans ?_ (Go.RowKit.Hid.out (by assumption)))))) ?_
      rintro e w2 ⟨rfl, hu2⟩
      have HU2 := Lib.hid hu2
      clear hu2
      obtain ⟨r0, r1, g0, g1, lr⟩ := (HR.out.up (w' := w2) (by (repeat (first | exact Below.refl _ _ | exact Go.RowKit.Hid.out (by assumption) | refine Up.trans ?_ (Up.drew _) | refine Up.trans ?_ (Up.drewN _ _) | refine Up.trans ?_ (Up.alloc _ _) | refine Up.trans ?_ (Go.RowKit.Hid.out (by assumption)))))).facts
      have HR2 := Lib.hid (HR.out.up (w' := w2) (by (repeat (first | exact Below.refl _ _ | exact Go.RowKit.Hid.out (by assumption) | refine Up.trans ?_ (Up.drew _) | refine Up.trans ?_ (Up.drewN _ _) | refine Up.trans ?_ (Up.alloc _ _) | refine Up.trans ?_ (Go.RowKit.Hid.out (by assumption))))))
      have HF := Lib.hid ((HR2.out.set 0 0).facts)
      have HUF := Lib.hid ((show Up w w2 by (repeat (first | exact Below.refl _ _ | exact Go.RowKit.Hid.out (by assumption) | refine Up.trans ?_ (Up.drew _) | refine Up.trans ?_ (Up.drewN _ _) | refine Up.trans ?_ (Up.alloc _ _) | refine Up.trans ?_ (Go.RowKit.Hid.out (by assumption))))).stored (show w.heap.size ≤ w.heap.size + 1 + 1 by omega) (.int .i64 0) (.int .i64 0))
      go_wp2
      obtain ⟨z0, z1, -, -, -⟩ := HF.out
      refine bodyPost_ret (by simp [results, Tryd.results55, go_sem, z0, z1]; try rfl) rfl ?_
      exact ⟨rfl, HUF.out⟩
    · rw [hk2] at HV2
      obtain ⟨e1, e2⟩ := ratOf_ok hk1
      obtain ⟨e3, e4⟩ := ratOf_ok hk2
      have f1 := ok_FB hk1
      have f2 := ok_FB hk2
      have HO1 := Lib.hid (fun W => fracOf_any x1 y1 (ratOf x1 y1) W e1 e2 hx1 hx2 hy1 hy2)
      have HO2 := Lib.hid (fun W => fracOf_any x2 y2 (ratOf x2 y2) W e3 e4 hx3 hx4 hy3 hy4)
      have HOP := Lib.hid (fun W u1 u2 (hu : Up w W) (hv1 : FV W u1 (ratOf x1 y1)) (hv2 : FV W u2 (ratOf x2 y2)) => fracMinus_any u1 u2 (ratOf x1 y1) (ratOf x2 y2) W hv1 hv2 f1 f2  (ht.up hu))
      simp only [Bool.and_true, numX, numY, numE, Bool.true_and, if_true]
      obtain ⟨q, hq⟩ : ∃ q, q = ratOf x1 y1 - ratOf x2 y2 := ⟨_, rfl⟩
      rw [← hq] at HOP ⊢
      have HL := Lib.hid (fun W u (hv : FV W u q) => limited_any u q W hv)
      generalize (if fits q = true then q.num else 0) = rx at *
      generalize (if fits q = true then (q.den : Int) else 0) = ry at *
      generalize (if fits q = true then (0 : Int) else 3) = re at *
      clear hk1 hk2 ht hx1 hx2 hx3 hx4 hy1 hy2 hy3 hy4 e1 e2 e3 e4 f1 f2 hq
      go_enter Tryd.func55, Tryd.ntmps55
      go_wp2_with fail
      obtain ⟨wB, hwB⟩ : ∃ wB, wB = ((w.alloc (.cells #[.int .i64 x1, .int .i64 y1] 23)).alloc (.cells #[.int .i64 x2, .int .i64 y2] 23)).alloc (.cells #[.int .i64 0, .int .i64 0] 23) := ⟨_, rfl⟩
      have HN1 := Lib.hid (show CellN wB w.heap.size x1 y1 by rw [hwB]; exact ((CellN.new w x1 y1).up (Up.alloc _ _)).up (Up.alloc _ _))
      have HN2 := Lib.hid (show CellN wB (w.heap.size + 1) x2 y2 by rw [hwB]; have := (CellN.new (w.alloc (.cells #[.int .i64 x1, .int .i64 y1] 23)) x2 y2).up (Up.alloc _ (.cells #[.int .i64 0, .int .i64 0] 23)); simpa using this)
      have HR := Lib.hid (show CellN wB (w.heap.size + 1 + 1) 0 0 by rw [hwB]; have := CellN.new ((w.alloc (.cells #[.int .i64 x1, .int .i64 y1] 23)).alloc (.cells #[.int .i64 x2, .int .i64 y2] 23)) 0 0; simpa using this)
      have HU := Lib.hid (show Up w wB by rw [hwB]; exact Up.three w _ _ _)
      rw [← hwB]
      clear hwB
      refine Calls.mono (HV1.out _ (by (repeat (first | exact Below.refl _ _ | exact Go.RowKit.Hid.out (by assumption) | refine Up.trans ?_ (Up.drew _) | refine Up.trans ?_ (Up.drewN _ _) | refine Up.trans ?_ (Up.alloc _ _) | refine Up.trans ?_ (Go.RowKit.Hid.out (by assumption)))))) ?_
      rintro e w1 ⟨rfl, hu1⟩
      have HU1 := Lib.hid hu1
      clear hu1
      obtain ⟨b0, b1, -, -, lb⟩ := (HN2.out.up (w' := w1) (by (repeat (first | exact Below.refl _ _ | exact Go.RowKit.Hid.out (by assumption) | refine Up.trans ?_ (Up.drew _) | refine Up.trans ?_ (Up.drewN _ _) | refine Up.trans ?_ (Up.alloc _ _) | refine Up.trans ?_ (Go.RowKit.Hid.out (by assumption)))))).facts
      go_wp2_with fail
      refine Calls.mono (HV2.out _ (by (repeat (first | exact Below.refl _ _ | exact Go.RowKit.Hid.out (by assumption) | refine Up.trans ?_ (Up.drew _) | refine Up.trans ?_ (Up.drewN _ _) | refine Up.trans ?_ (Up.alloc _ _) | refine Up.trans ?_ (Go.RowKit.Hid.out (by assumption)))))) ?_
      rintro e w2 ⟨rfl, hu2⟩
      have HU2 := Lib.hid hu2
      clear hu2
      obtain ⟨a0, a1, -, -, la⟩ := (HN1.out.up (w' := w2) (by (repeat (first | exact Below.refl _ _ | exact Go.RowKit.Hid.out (by assumption) | refine Up.trans ?_ (Up.drew _) | refine Up.trans ?_ (Up.drewN _ _) | refine Up.trans ?_ (Up.alloc _ _) | refine Up.trans ?_ (Go.RowKit.Hid.out (by assumption)))))).facts
      obtain ⟨b0, b1, -, -, lb⟩ := (HN2.out.up (w' := w2) (by (repeat (first | exact Below.refl _ _ | exact Go.RowKit.Hid.out (by assumption) | refine Up.trans ?_ (Up.drew _) | refine Up.trans ?_ (Up.drewN _ _) | refine Up.trans ?_ (Up.alloc _ _) | refine Up.trans ?_ (Go.RowKit.Hid.out (by assumption)))))).facts
      go_wp2_with fail
      have hne1 : (w.heap.size = w.heap.size + 1 + 1) = False := by simp; omega
      have hne2 : (w.heap.size + 1 + 1 = w.heap.size) = False := by simp; omega
      go_region_held3 (fun w' => w'.cell? ⟨w.heap.size, 0, none⟩ = some (.int .i64 x1) ∧ w'.cell? ⟨w.heap.size, 1, none⟩ = some (.int .i64 y1) ∧ w'.cell? ⟨w.heap.size + 1, 0, none⟩ = some (.int .i64 x2) ∧ w'.cell? ⟨w.heap.size + 1, 1, none⟩ = some (.int .i64 y2)) (go_keep)
        ((first
          | (go_at_call_of 40 (Value.int IntKind.i64 x1)
             refine Calls.mono (HO1.out _) ?_
             rintro e w5 ⟨v5, rfl, hv5, hu5⟩
             have HU5 := Lib.hid hu5
             obtain ⟨a0, a1, -, -, la⟩ := (HN1.out.up (w' := w5) (by (repeat (first | exact Below.refl _ _ | exact Go.RowKit.Hid.out (by assumption) | refine Up.trans ?_ (Up.drew _) | refine Up.trans ?_ (Up.drewN _ _) | refine Up.trans ?_ (Up.alloc _ _) | refine Up.trans ?_ (Go.RowKit.Hid.out (by assumption)))))).facts
             obtain ⟨b0, b1, -, -, lb⟩ := (HN2.out.up (w' := w5) (by (repeat (first | exact Below.refl _ _ | exact Go.RowKit.Hid.out (by assumption) | refine Up.trans ?_ (Up.drew _) | refine Up.trans ?_ (Up.drewN _ _) | refine Up.trans ?_ (Up.alloc _ _) | refine Up.trans ?_ (Go.RowKit.Hid.out (by assumption)))))).facts
             have HV5 := Lib.hid hv5
             clear hv5 hu5)
          | (go_at_call_of 40 (Value.int IntKind.i64 x2)
             refine Calls.mono (HO2.out _) ?_
             rintro e w6 ⟨v6, rfl, hv6, hu6⟩
             have HU6 := Lib.hid hu6
             obtain ⟨a0, a1, -, -, la⟩ := (HN1.out.up (w' := w6) (by (repeat (first | exact Below.refl _ _ | exact Go.RowKit.Hid.out (by assumption) | refine Up.trans ?_ (Up.drew _) | refine Up.trans ?_ (Up.drewN _ _) | refine Up.trans ?_ (Up.alloc _ _) | refine Up.trans ?_ (Go.RowKit.Hid.out (by assumption)))))).facts
             obtain ⟨b0, b1, -, -, lb⟩ := (HN2.out.up (w' := w6) (by (repeat (first | exact Below.refl _ _ | exact Go.RowKit.Hid.out (by assumption) | refine Up.trans ?_ (Up.drew _) | refine Up.trans ?_ (Up.drewN _ _) | refine Up.trans ?_ (Up.alloc _ _) | refine Up.trans ?_ (Go.RowKit.Hid.out (by assumption)))))).facts
             have HV6 := Lib.hid hv6
             have HV5b := Lib.hid (HV5.out.up hu6)
             clear hv6 hu6)
          | (go_at_call 58
             refine Calls.mono (HOP.out _ _ _ (by (repeat (first | exact Below.refl _ _ | exact Go.RowKit.Hid.out (by assumption) | refine Up.trans ?_ (Up.drew _) | refine Up.trans ?_ (Up.drewN _ _) | refine Up.trans ?_ (Up.alloc _ _) | refine Up.trans ?_ (Go.RowKit.Hid.out (by assumption))))) HV5b.out HV6.out) ?_
             rintro e w7 ⟨v7, rfl, hv7, hu7⟩
             have HU7 := Lib.hid hu7
             obtain ⟨a0, a1, -, -, la⟩ := (HN1.out.up (w' := w7) (by (repeat (first | exact Below.refl _ _ | exact Go.RowKit.Hid.out (by assumption) | refine Up.trans ?_ (Up.drew _) | refine Up.trans ?_ (Up.drewN _ _) | refine Up.trans ?_ (Up.alloc _ _) | refine Up.trans ?_ (Go.RowKit.Hid.out (by assumption)))))).facts
             obtain ⟨b0, b1, -, -, lb⟩ := (HN2.out.up (w' := w7) (by (repeat (first | exact Below.refl _ _ | exact Go.RowKit.Hid.out (by assumption) | refine Up.trans ?_ (Up.drew _) | refine Up.trans ?_ (Up.drewN _ _) | refine Up.trans ?_ (Up.alloc _ _) | refine Up.trans ?_ (Go.RowKit.Hid.out (by assumption)))))).facts
             have HV7 := Lib.hid hv7
             clear hv7 hu7)
          | (go_at_call 27
             refine Calls.mono (HL.out _ _ HV7.out) ?_
             rintro e w8 ⟨rfl, hu8⟩
             have HU8 := Lib.hid hu8
             obtain ⟨a0, a1, -, -, la⟩ := (HN1.out.up (w' := w8) (by (repeat (first | exact Below.refl _ _ | exact Go.RowKit.Hid.out (by assumption) | refine Up.trans ?_ (Up.drew _) | refine Up.trans ?_ (Up.drewN _ _) | refine Up.trans ?_ (Up.alloc _ _) | refine Up.trans ?_ (Go.RowKit.Hid.out (by assumption)))))).facts
             obtain ⟨b0, b1, -, -, lb⟩ := (HN2.out.up (w' := w8) (by (repeat (first | exact Below.refl _ _ | exact Go.RowKit.Hid.out (by assumption) | refine Up.trans ?_ (Up.drew _) | refine Up.trans ?_ (Up.drewN _ _) | refine Up.trans ?_ (Up.alloc _ _) | refine Up.trans ?_ (Go.RowKit.Hid.out (by assumption)))))).facts
             obtain ⟨r0, r1, g0, g1, lr⟩ := (HR.out.up (w' := w8) (by (repeat (first | exact Below.refl _ _ | exact Go.RowKit.Hid.out (by assumption) | refine Up.trans ?_ (Up.drew _) | refine Up.trans ?_ (Up.drewN _ _) | refine Up.trans ?_ (Up.alloc _ _) | refine Up.trans ?_ (Go.RowKit.Hid.out (by assumption)))))).facts
             have HR8 := Lib.hid (HR.out.up (w' := w8) (by (repeat (first | exact Below.refl _ _ | exact Go.RowKit.Hid.out (by assumption) | refine Up.trans ?_ (Up.drew _) | refine Up.trans ?_ (Up.drewN _ _) | refine Up.trans ?_ (Up.alloc _ _) | refine Up.trans ?_ (Go.RowKit.Hid.out (by assumption))))))
             clear hu8)))
      have HF := Lib.hid ((HR8.out.set rx ry).facts)
      have HUF := Lib.hid ((show Up w w8 by (repeat (first | exact Below.refl _ _ | exact Go.RowKit.Hid.out (by assumption) | refine Up.trans ?_ (Up.drew _) | refine Up.trans ?_ (Up.drewN _ _) | refine Up.trans ?_ (Up.alloc _ _) | refine Up.trans ?_ (Go.RowKit.Hid.out (by assumption))))).stored (show w.heap.size ≤ w.heap.size + 1 + 1 by omega) (.int .i64 rx) (.int .i64 ry))
      obtain ⟨z0, z1, -, -, -⟩ := HF.out
      go_wp2
      refine bodyPost_ret (by simp [results, Tryd.results55, go_sem, z0, z1]; try rfl) rfl ?_
      exact ⟨rfl, HUF.out⟩

set_option maxHeartbeats 2000000 in
set_option maxRecDepth 10000 in
theorem applyTimes_any (x1 y1 x2 y2 : Int) (w : World) (hx1 : -9223372036854775808 ≤ x1) (hx2 : x1 ≤ 9223372036854775807) (hy1 : -9223372036854775808 ≤ y1) (hy2 : y1 ≤ 9223372036854775807)
    (hx3 : -9223372036854775808 ≤ x2) (hx4 : x2 ≤ 9223372036854775807) (hy3 : -9223372036854775808 ≤ y2) (hy4 : y2 ≤ 9223372036854775807)  (ht : Tab w) :
    Calls Tryd.prog 55 #[.func (.func 57) #[] #[], .agg #[.int .i64 x1, .int .i64 y1], .agg #[.int .i64 x2, .int .i64 y2]] w fun e w' =>
      e = .returned (.tuple #[.agg #[.int .i64 (numX (okNum x1 y1 && okNum x2 y2) (ratOf x1 y1 * ratOf x2 y2)), .int .i64 (numY (okNum x1 y1 && okNum x2 y2) (ratOf x1 y1 * ratOf x2 y2))], .int .i64 (numE (okNum x1 y1 && okNum x2 y2) (ratOf x1 y1 * ratOf x2 y2))]) ∧ Up w w' := by
  have HV1 := Lib.hid (fun W (hu : Up w W) => valid_any x1 y1 W hx1 hx2 hy1 hy2 (ht.up hu))
  have HV2 := Lib.hid (fun W (hu : Up w W) => valid_any x2 y2 W hx3 hx4 hy3 hy4 (ht.up hu))
  have HT := Lib.hid ht
  rcases hk1 : okNum x1 y1 with _ | _
  · rw [hk1] at HV1
    simp only [Bool.false_and, numX, numY, numE, if_false, Bool.false_eq_true]
    clear hk1 ht hx1 hx2 hx3 hx4 hy1 hy2 hy3 hy4
    go_enter Tryd.func55, Tryd.ntmps55
    go_wp2_with fail
    obtain ⟨wB, hwB⟩ : ∃ wB, wB = ((w.alloc (.cells #[.int .i64 x1, .int .i64 y1] 23)).alloc (.cells #[.int .i64 x2, .int .i64 y2] 23)).alloc (.cells #[.int .i64 0, .int .i64 0] 23) := ⟨_, rfl⟩
    have HN1 := Lib.hid (show CellN wB w.heap.size x1 y1 by rw [hwB]; exact ((CellN.new w x1 y1).up (Up.alloc _ _)).up (Up.alloc _ _))
    have HN2 := Lib.hid (show CellN wB (w.heap.size + 1) x2 y2 by rw [hwB]; have := (CellN.new (w.alloc (.cells #[.int .i64 x1, .int .i64 y1] 23)) x2 y2).up (Up.alloc _ (.cells #[.int .i64 0, .int .i64 0] 23)); simpa using this)
    have HR := Lib.hid (show CellN wB (w.heap.size + 1 + 1) 0 0 by rw [hwB]; have := CellN.new ((w.alloc (.cells #[.int .i64 x1, .int .i64 y1] 23)).alloc (.cells #[.int .i64 x2, .int .i64 y2] 23)) 0 0; simpa using this)
    have HU := Lib.hid (show Up w wB by rw [hwB]; exact Up.three w _ _ _)
    rw [← hwB]
    clear hwB
    refine Calls.mono (HV1.out _ (by (repeat (first | exact Below.refl _ _ | exact Go.RowKit.Hid.out (by assumption) | refine Up.trans ?_ (Up.drew _) | refine Up.trans ?_ (Up.drewN _ _) | refine Up.trans ?_ (Up.alloc _ _) | refine Up.trans ?_ (Go.RowKit.Hid.out (by assumption)))))) ?_
    rintro e w1 ⟨rfl, hu1⟩
    have HU1 := Lib.hid hu1
    clear hu1
    obtain ⟨r0, r1, g0, g1, lr⟩ := (HR.out.up (w' := w1) (by (repeat (first | exact Below.refl _ _ | exact Go.RowKit.Hid.out (by assumption) | refine Up.trans ?_ (Up.drew _) | refine Up.trans ?_ (Up.drewN _ _) | refine Up.trans ?_ (Up.alloc _ _) | refine Up.trans ?_ (Go.RowKit.Hid.out (by assumption)))))).facts
    have HR2 := Lib.hid (HR.out.up (w' := w1) (by (repeat (first | exact Below.refl _ _ | exact Go.RowKit.Hid.out (by assumption) | refine Up.trans ?_ (Up.drew _) | refine Up.trans ?_ (Up.drewN _ _) | refine Up.trans ?_ (Up.alloc _ _) | refine Up.trans ?_ (Go.RowKit.Hid.out (by assumption))))))
    have HF := Lib.hid ((HR2.out.set 0 0).facts)
    have HUF := Lib.hid ((show Up w w1 by (repeat (first | exact Below.refl _ _ | exact Go.RowKit.Hid.out (by assumption) | refine Up.trans ?_ (Up.drew _) | refine Up.trans ?_ (Up.drewN _ _) | refine Up.trans ?_ (Up.alloc _ _) | refine Up.trans ?_ (Go.RowKit.Hid.out (by assumption))))).stored (show w.heap.size ≤ w.heap.size + 1 + 1 by omega) (.int .i64 0) (.int .i64 0))
    go_wp2
    obtain ⟨z0, z1, -, -, -⟩ := HF.out
    refine bodyPost_ret (by simp [results, Tryd.results55, go_sem, z0, z1]; try rfl) rfl ?_
    exact ⟨rfl, HUF.out⟩
  · rw [hk1] at HV1
    rcases hk2 : okNum x2 y2 with _ | _
    · rw [hk2] at HV2
      simp only [Bool.and_false, numX, numY, numE, Bool.false_and, if_false, Bool.false_eq_true]
      clear hk1 hk2 ht hx1 hx2 hx3 hx4 hy1 hy2 hy3 hy4
      go_enter Tryd.func55, Tryd.ntmps55
      go_wp2_with fail
      obtain ⟨wB, hwB⟩ : ∃ wB, wB = ((w.alloc (.cells #[.int .i64 x1, .int .i64 y1] 23)).alloc (.cells #[.int .i64 x2, .int .i64 y2] 23)).alloc (.cells #[.int .i64 0, .int .i64 0] 23) := ⟨_, rfl⟩
      have HN1 := Lib.hid (show CellN wB w.heap.size x1 y1 by rw [hwB]; exact ((CellN.new w x1 y1).up (Up.alloc _ _)).up (Up.alloc _ _))
      have HN2 := Lib.hid (show CellN wB (w.heap.size + 1) x2 y2 by rw [hwB]; have := (CellN.new (w.alloc (.cells #[.int .i64 x1, .int .i64 y1] 23)) x2 y2).up (Up.alloc _ (.cells #[.int .i64 0, .int .i64 0] 23)); simpa using this)
      have HR := Lib.hid (show CellN wB (w.heap.size + 1 + 1) 0 0 by rw [hwB]; have := CellN.new ((w.alloc (.cells #[.int .i64 x1, .int .i64 y1] 23)).alloc (.cells #[.int .i64 x2, .int .i64 y2] 23)) 0 0; simpa using this)
      have HU := Lib.hid (show Up w wB by rw [hwB]; exact Up.three w _ _ _)
      rw [← hwB]
      clear hwB
      refine Calls.mono (HV1.out _ (by (repeat (first | exact Below.refl _ _ | exact Go.RowKit.Hid.out (by assumption) | refine Up.trans ?_ (Up.drew _) | refine Up.trans ?_ (Up.drewN _ _) | refine Up.trans ?_ (Up.alloc _ _) | refine Up.trans ?_ (Go.RowKit.Hid.out (by assumption)))))) ?_
      rintro e w1 ⟨rfl, hu1⟩
      have HU1 := Lib.hid hu1
      clear hu1
      obtain ⟨b0, b1, -, -, lb⟩ := (HN2.out.up (w' := w1) (by (repeat (first | exact Below.refl _ _ | exact Go.RowKit.Hid.out (by assumption) | refine Up.trans ?_ (Up.drew _) | refine Up.trans ?_ (Up.drewN _ _) | refine Up.trans ?_ (Up.alloc _ _) | refine Up.trans ?_ (Go.RowKit.Hid.out (by assumption)))))).facts
      go_wp2_with fail
      refine Calls.mono (HV2.out _ (by (repeat (first | exact Below.refl _ _ | exact Go.RowKit.Hid.out (by assumption) | refine Up.trans ?_ (Up.drew _) | refine Up.trans ?_ (Up.drewN _ _) | refine Up.trans ?_ (Up.alloc _ _) | refine Up.trans ?_ (Go.RowKit.Hid.out (by assumption)))))) ?_
      rintro e w2 ⟨rfl, hu2⟩
      have HU2 := Lib.hid hu2
      clear hu2
      obtain ⟨r0, r1, g0, g1, lr⟩ := (HR.out.up (w' := w2) (by (repeat (first | exact Below.refl _ _ | exact Go.RowKit.Hid.out (by assumption) | refine Up.trans ?_ (Up.drew _) | refine Up.trans ?_ (Up.drewN _ _) | refine Up.trans ?_ (Up.alloc _ _) | refine Up.trans ?_ (Go.RowKit.Hid.out (by assumption)))))).facts
      have HR2 := Lib.hid (HR.out.up (w' := w2) (by (repeat (first | exact Below.refl _ _ | exact Go.RowKit.Hid.out (by assumption) | refine Up.trans ?_ (Up.drew _) | refine Up.trans ?_ (Up.drewN _ _) | refine Up.trans ?_ (Up.alloc _ _) | refine Up.trans ?_ (Go.RowKit.Hid.out (by assumption))))))
      have HF := Lib.hid ((HR2.out.set 0 0).facts)
      have HUF := Lib.hid ((show Up w w2 by (repeat (first | exact Below.refl _ _ | exact Go.RowKit.Hid.out (by assumption) | refine Up.trans ?_ (Up.drew _) | refine Up.trans ?_ (Up.drewN _ _) | refine Up.trans ?_ (Up.alloc _ _) | refine Up.trans ?_ (Go.RowKit.Hid.out (by assumption))))).stored (show w.heap.size ≤ w.heap.size + 1 + 1 by omega) (.int .i64 0) (.int .i64 0))
      go_wp2
      obtain ⟨z0, z1, -, -, -⟩ := HF.out
      refine bodyPost_ret (by simp [results, Tryd.results55, go_sem, z0, z1]; try rfl) rfl ?_
      exact ⟨rfl, HUF.out⟩
    · rw [hk2] at HV2
      obtain ⟨e1, e2⟩ := ratOf_ok hk1
      obtain ⟨e3, e4⟩ := ratOf_ok hk2
      have f1 := ok_FB hk1
      have f2 := ok_FB hk2
      have HO1 := Lib.hid (fun W => fracOf_any x1 y1 (ratOf x1 y1) W e1 e2 hx1 hx2 hy1 hy2)
      have HO2 := Lib.hid (fun W => fracOf_any x2 y2 (ratOf x2 y2) W e3 e4 hx3 hx4 hy3 hy4)
      have HOP := Lib.hid (fun W u1 u2 (hu : Up w W) (hv1 : FV W u1 (ratOf x1 y1)) (hv2 : FV W u2 (ratOf x2 y2)) => fracTimes_any u1 u2 (ratOf x1 y1) (ratOf x2 y2) W hv1 hv2 f1 f2  (ht.up hu))
      simp only [Bool.and_true, numX, numY, numE, Bool.true_and, if_true]
      obtain ⟨q, hq⟩ : ∃ q, q = ratOf x1 y1 * ratOf x2 y2 := ⟨_, rfl⟩
      rw [← hq] at HOP ⊢
      have HL := Lib.hid (fun W u (hv : FV W u q) => limited_any u q W hv)
      generalize (if fits q = true then q.num else 0) = rx at *
      generalize (if fits q = true then (q.den : Int) else 0) = ry at *
      generalize (if fits q = true then (0 : Int) else 3) = re at *
      clear hk1 hk2 ht hx1 hx2 hx3 hx4 hy1 hy2 hy3 hy4 e1 e2 e3 e4 f1 f2 hq
      go_enter Tryd.func55, Tryd.ntmps55
      go_wp2_with fail
      obtain ⟨wB, hwB⟩ : ∃ wB, wB = ((w.alloc (.cells #[.int .i64 x1, .int .i64 y1] 23)).alloc (.cells #[.int .i64 x2, .int .i64 y2] 23)).alloc (.cells #[.int .i64 0, .int .i64 0] 23) := ⟨_, rfl⟩
      have HN1 := Lib.hid (show CellN wB w.heap.size x1 y1 by rw [hwB]; exact ((CellN.new w x1 y1).up (Up.alloc _ _)).up (Up.alloc _ _))
      have HN2 := Lib.hid (show CellN wB (w.heap.size + 1) x2 y2 by rw [hwB]; have := (CellN.new (w.alloc (.cells #[.int .i64 x1, .int .i64 y1] 23)) x2 y2).up (Up.alloc _ (.cells #[.int .i64 0, .int .i64 0] 23)); simpa using this)
      have HR := Lib.hid (show CellN wB (w.heap.size + 1 + 1) 0 0 by rw [hwB]; have := CellN.new ((w.alloc (.cells #[.int .i64 x1, .int .i64 y1] 23)).alloc (.cells #[.int .i64 x2, .int .i64 y2] 23)) 0 0; simpa using this)
      have HU := Lib.hid (show Up w wB by rw [hwB]; exact Up.three w _ _ _)
      rw [← hwB]
      clear hwB
      refine Calls.mono (HV1.out _ (by (repeat (first | exact Below.refl _ _ | exact Go.RowKit.Hid.out (by assumption) | refine Up.trans ?_ (Up.drew _) | refine Up.trans ?_ (Up.drewN _ _) | refine Up.trans ?_ (Up.alloc _ _) | refine Up.trans ?_ (Go.RowKit.Hid.out (by assumption)))))) ?_
      rintro e w1 ⟨rfl, hu1⟩
      have HU1 := Lib.hid hu1
      clear hu1
      obtain ⟨b0, b1, -, -, lb⟩ := (HN2.out.up (w' := w1) (by (repeat (first | exact Below.refl _ _ | exact Go.RowKit.Hid.out (by assumption) | refine Up.trans ?_ (Up.drew _) | refine Up.trans ?_ (Up.drewN _ _) | refine Up.trans ?_ (Up.alloc _ _) | refine Up.trans ?_ (Go.RowKit.Hid.out (by assumption)))))).facts
      go_wp2_with fail
      refine Calls.mono (HV2.out _ (by (repeat (first | exact Below.refl _ _ | exact Go.RowKit.Hid.out (by assumption) | refine Up.trans ?_ (Up.drew _) | refine Up.trans ?_ (Up.drewN _ _) | refine Up.trans ?_ (Up.alloc _ _) | refine Up.trans ?_ (Go.RowKit.Hid.out (by assumption)))))) ?_
      rintro e w2 ⟨rfl, hu2⟩
      have HU2 := Lib.hid hu2
      clear hu2
      obtain ⟨a0, a1, -, -, la⟩ := (HN1.out.up (w' := w2) (by (repeat (first | exact Below.refl _ _ | exact Go.RowKit.Hid.out (by assumption) | refine Up.trans ?_ (Up.drew _) | refine Up.trans ?_ (Up.drewN _ _) | refine Up.trans ?_ (Up.alloc _ _) | refine Up.trans ?_ (Go.RowKit.Hid.out (by assumption)))))).facts
      obtain ⟨b0, b1, -, -, lb⟩ := (HN2.out.up (w' := w2) (by (repeat (first | exact Below.refl _ _ | exact Go.RowKit.Hid.out (by assumption) | refine Up.trans ?_ (Up.drew _) | refine Up.trans ?_ (Up.drewN _ _) | refine Up.trans ?_ (Up.alloc _ _) | refine Up.trans ?_ (Go.RowKit.Hid.out (by assumption)))))).facts
      go_wp2_with fail
      have hne1 : (w.heap.size = w.heap.size + 1 + 1) = False := by simp; omega
      have hne2 : (w.heap.size + 1 + 1 = w.heap.size) = False := by simp; omega
      go_region_held3 (fun w' => w'.cell? ⟨w.heap.size, 0, none⟩ = some (.int .i64 x1) ∧ w'.cell? ⟨w.heap.size, 1, none⟩ = some (.int .i64 y1) ∧ w'.cell? ⟨w.heap.size + 1, 0, none⟩ = some (.int .i64 x2) ∧ w'.cell? ⟨w.heap.size + 1, 1, none⟩ = some (.int .i64 y2)) (go_keep)
        ((first
          | (go_at_call_of 40 (Value.int IntKind.i64 x1)
             refine Calls.mono (HO1.out _) ?_
             rintro e w5 ⟨v5, rfl, hv5, hu5⟩
             have HU5 := Lib.hid hu5
             obtain ⟨a0, a1, -, -, la⟩ := (HN1.out.up (w' := w5) (by (repeat (first | exact Below.refl _ _ | exact Go.RowKit.Hid.out (by assumption) | refine Up.trans ?_ (Up.drew _) | refine Up.trans ?_ (Up.drewN _ _) | refine Up.trans ?_ (Up.alloc _ _) | refine Up.trans ?_ (Go.RowKit.Hid.out (by assumption)))))).facts
             obtain ⟨b0, b1, -, -, lb⟩ := (HN2.out.up (w' := w5) (by (repeat (first | exact Below.refl _ _ | exact Go.RowKit.Hid.out (by assumption) | refine Up.trans ?_ (Up.drew _) | refine Up.trans ?_ (Up.drewN _ _) | refine Up.trans ?_ (Up.alloc _ _) | refine Up.trans ?_ (Go.RowKit.Hid.out (by assumption)))))).facts
             have HV5 := Lib.hid hv5
             clear hv5 hu5)
          | (go_at_call_of 40 (Value.int IntKind.i64 x2)
             refine Calls.mono (HO2.out _) ?_
             rintro e w6 ⟨v6, rfl, hv6, hu6⟩
             have HU6 := Lib.hid hu6
             obtain ⟨a0, a1, -, -, la⟩ := (HN1.out.up (w' := w6) (by (repeat (first | exact Below.refl _ _ | exact Go.RowKit.Hid.out (by assumption) | refine Up.trans ?_ (Up.drew _) | refine Up.trans ?_ (Up.drewN _ _) | refine Up.trans ?_ (Up.alloc _ _) | refine Up.trans ?_ (Go.RowKit.Hid.out (by assumption)))))).facts
             obtain ⟨b0, b1, -, -, lb⟩ := (HN2.out.up (w' := w6) (by (repeat (first | exact Below.refl _ _ | exact Go.RowKit.Hid.out (by assumption) | refine Up.trans ?_ (Up.drew _) | refine Up.trans ?_ (Up.drewN _ _) | refine Up.trans ?_ (Up.alloc _ _) | refine Up.trans ?_ (Go.RowKit.Hid.out (by assumption)))))).facts
             have HV6 := Lib.hid hv6
             have HV5b := Lib.hid (HV5.out.up hu6)
             clear hv6 hu6)
          | (go_at_call 57
             refine Calls.mono (HOP.out _ _ _ (by (repeat (first | exact Below.refl _ _ | exact Go.RowKit.Hid.out (by assumption) | refine Up.trans ?_ (Up.drew _) | refine Up.trans ?_ (Up.drewN _ _) | refine Up.trans ?_ (Up.alloc _ _) | refine Up.trans ?_ (Go.RowKit.Hid.out (by assumption))))) HV5b.out HV6.out) ?_
             rintro e w7 ⟨v7, rfl, hv7, hu7⟩
             have HU7 := Lib.hid hu7
             obtain ⟨a0, a1, -, -, la⟩ := (HN1.out.up (w' := w7) (by (repeat (first | exact Below.refl _ _ | exact Go.RowKit.Hid.out (by assumption) | refine Up.trans ?_ (Up.drew _) | refine Up.trans ?_ (Up.drewN _ _) | refine Up.trans ?_ (Up.alloc _ _) | refine Up.trans ?_ (Go.RowKit.Hid.out (by assumption)))))).facts
             obtain ⟨b0, b1, -, -, lb⟩ := (HN2.out.up (w' := w7) (by (repeat (first | exact Below.refl _ _ | exact Go.RowKit.Hid.out (by assumption) | refine Up.trans ?_ (Up.drew _) | refine Up.trans ?_ (Up.drewN _ _) | refine Up.trans ?_ (Up.alloc _ _) | refine Up.trans ?_ (Go.RowKit.Hid.out (by assumption)))))).facts
             have HV7 := Lib.hid hv7
             clear hv7 hu7)
          | (go_at_call 27
             refine Calls.mono (HL.out _ _ HV7.out) ?_
             rintro e w8 ⟨rfl, hu8⟩
             have HU8 := Lib.hid hu8
             obtain ⟨a0, a1, -, -, la⟩ := (HN1.out.up (w' := w8) (by (repeat (first | exact Below.refl _ _ | exact Go.RowKit.Hid.out (by assumption) | refine Up.trans ?_ (Up.drew _) | refine Up.trans ?_ (Up.drewN _ _) | refine Up.trans ?_ (Up.alloc _ _) | refine Up.trans ?_ (Go.RowKit.Hid.out (by assumption)))))).facts
             obtain ⟨b0, b1, -, -, lb⟩ := (HN2.out.up (w' := w8) (by (repeat (first | exact Below.refl _ _ | exact Go.RowKit.Hid.out (by assumption) | refine Up.trans ?_ (Up.drew _) | refine Up.trans ?_ (Up.drewN _ _) | refine Up.trans ?_ (Up.alloc _ _) | refine Up.trans ?_ (Go.RowKit.Hid.out (by assumption)))))).facts
             obtain ⟨r0, r1, g0, g1, lr⟩ := (HR.out.up (w' := w8) (by (repeat (first | exact Below.refl _ _ | exact Go.RowKit.Hid.out (by assumption) | refine Up.trans ?_ (Up.drew _) | refine Up.trans ?_ (Up.drewN _ _) | refine Up.trans ?_ (Up.alloc _ _) | refine Up.trans ?_ (Go.RowKit.Hid.out (by assumption)))))).facts
             have HR8 := Lib.hid (HR.out.up (w' := w8) (by (repeat (first | exact Below.refl _ _ | exact Go.RowKit.Hid.out (by assumption) | refine Up.trans ?_ (Up.drew _) | refine Up.trans ?_ (Up.drewN _ _) | refine Up.trans ?_ (Up.alloc _ _) | refine Up.trans ?_ (Go.RowKit.Hid.out (by assumption))))))
             clear hu8)))
      have HF := Lib.hid ((HR8.out.set rx ry).facts)
      have HUF := Lib.hid ((show Up w w8 by (repeat (first | exact Below.refl _ _ | exact Go.RowKit.Hid.out (by assumption) | refine Up.trans ?_ (Up.drew _) | refine Up.trans ?_ (Up.drewN _ _) | refine Up.trans ?_ (Up.alloc _ _) | refine Up.trans ?_ (Go.RowKit.Hid.out (by assumption))))).stored (show w.heap.size ≤ w.heap.size + 1 + 1 by omega) (.int .i64 rx) (.int .i64 ry))
      obtain ⟨z0, z1, -, -, -⟩ := HF.out
      go_wp2
      refine bodyPost_ret (by simp [results, Tryd.results55, go_sem, z0, z1]; try rfl) rfl ?_
      exact ⟨rfl, HUF.out⟩

set_option maxHeartbeats 2000000 in
set_option maxRecDepth 10000 in
theorem applyOver_any (x1 y1 x2 y2 : Int) (w : World) (hx1 : -9223372036854775808 ≤ x1) (hx2 : x1 ≤ 9223372036854775807) (hy1 : -9223372036854775808 ≤ y1) (hy2 : y1 ≤ 9223372036854775807)
    (hx3 : -9223372036854775808 ≤ x2) (hx4 : x2 ≤ 9223372036854775807) (hy3 : -9223372036854775808 ≤ y2) (hy4 : y2 ≤ 9223372036854775807) (hz : okNum x1 y1 = true → okNum x2 y2 = true → ratOf x2 y2 ≠ 0) (ht : Tab w) :
    Calls Tryd.prog 55 #[.func (.func 59) #[] #[], .agg #[.int .i64 x1, .int .i64 y1], .agg #[.int .i64 x2, .int .i64 y2]] w fun e w' =>
      e = .returned (.tuple #[.agg #[.int .i64 (numX (okNum x1 y1 && okNum x2 y2) (ratOf x1 y1 / ratOf x2 y2)), .int .i64 (numY (okNum x1 y1 && okNum x2 y2) (ratOf x1 y1 / ratOf x2 y2))], .int .i64 (numE (okNum x1 y1 && okNum x2 y2) (ratOf x1 y1 / ratOf x2 y2))]) ∧ Up w w' := by
  have HV1 := Lib.hid (fun W (hu : Up w W) => valid_any x1 y1 W hx1 hx2 hy1 hy2 (ht.up hu))
  have HV2 := Lib.hid (fun W (hu : Up w W) => valid_any x2 y2 W hx3 hx4 hy3 hy4 (ht.up hu))
  have HT := Lib.hid ht
  rcases hk1 : okNum x1 y1 with _ | _
  · rw [hk1] at HV1
    simp only [Bool.false_and, numX, numY, numE, if_false, Bool.false_eq_true]
    clear hk1 ht hx1 hx2 hx3 hx4 hy1 hy2 hy3 hy4
    go_enter Tryd.func55, Tryd.ntmps55
    go_wp2_with fail
    obtain ⟨wB, hwB⟩ : ∃ wB, wB = ((w.alloc (.cells #[.int .i64 x1, .int .i64 y1] 23)).alloc (.cells #[.int .i64 x2, .int .i64 y2] 23)).alloc (.cells #[.int .i64 0, .int .i64 0] 23) := ⟨_, rfl⟩
    have HN1 := Lib.hid (show CellN wB w.heap.size x1 y1 by rw [hwB]; exact ((CellN.new w x1 y1).up (Up.alloc _ _)).up (Up.alloc _ _))
    have HN2 := Lib.hid (show CellN wB (w.heap.size + 1) x2 y2 by rw [hwB]; have := (CellN.new (w.alloc (.cells #[.int .i64 x1, .int .i64 y1] 23)) x2 y2).up (Up.alloc _ (.cells #[.int .i64 0, .int .i64 0] 23)); simpa using this)
    have HR := Lib.hid (show CellN wB (w.heap.size + 1 + 1) 0 0 by rw [hwB]; have := CellN.new ((w.alloc (.cells #[.int .i64 x1, .int .i64 y1] 23)).alloc (.cells #[.int .i64 x2, .int .i64 y2] 23)) 0 0; simpa using this)
    have HU := Lib.hid (show Up w wB by rw [hwB]; exact Up.three w _ _ _)
    rw [← hwB]
    clear hwB
    refine Calls.mono (HV1.out _ (by (repeat (first | exact Below.refl _ _ | exact Go.RowKit.Hid.out (by assumption) | refine Up.trans ?_ (Up.drew _) | refine Up.trans ?_ (Up.drewN _ _) | refine Up.trans ?_ (Up.alloc _ _) | refine Up.trans ?_ (Go.RowKit.Hid.out (by assumption)))))) ?_
    rintro e w1 ⟨rfl, hu1⟩
    have HU1 := Lib.hid hu1
    clear hu1
    obtain ⟨r0, r1, g0, g1, lr⟩ := (HR.out.up (w' := w1) (by (repeat (first | exact Below.refl _ _ | exact Go.RowKit.Hid.out (by assumption) | refine Up.trans ?_ (Up.drew _) | refine Up.trans ?_ (Up.drewN _ _) | refine Up.trans ?_ (Up.alloc _ _) | refine Up.trans ?_ (Go.RowKit.Hid.out (by assumption)))))).facts
    have HR2 := Lib.hid (HR.out.up (w' := w1) (by (repeat (first | exact Below.refl _ _ | exact Go.RowKit.Hid.out (by assumption) | refine Up.trans ?_ (Up.drew _) | refine Up.trans ?_ (Up.drewN _ _) | refine Up.trans ?_ (Up.alloc _ _) | refine Up.trans ?_ (Go.RowKit.Hid.out (by assumption))))))
    have HF := Lib.hid ((HR2.out.set 0 0).facts)
    have HUF := Lib.hid ((show Up w w1 by (repeat (first | exact Below.refl _ _ | exact Go.RowKit.Hid.out (by assumption) | refine Up.trans ?_ (Up.drew _) | refine Up.trans ?_ (Up.drewN _ _) | refine Up.trans ?_ (Up.alloc _ _) | refine Up.trans ?_ (Go.RowKit.Hid.out (by assumption))))).stored (show w.heap.size ≤ w.heap.size + 1 + 1 by omega) (.int .i64 0) (.int .i64 0))
    go_wp2
    obtain ⟨z0, z1, -, -, -⟩ := HF.out
    refine bodyPost_ret (by simp [results, Tryd.results55, go_sem, z0, z1]; try rfl) rfl ?_
    exact ⟨rfl, HUF.out⟩
  · rw [hk1] at HV1
    rcases hk2 : okNum x2 y2 with _ | _
    · rw [hk2] at HV2
      simp only [Bool.and_false, numX, numY, numE, Bool.false_and, if_false, Bool.false_eq_true]
      clear hk1 hk2 ht hx1 hx2 hx3 hx4 hy1 hy2 hy3 hy4
      go_enter Tryd.func55, Tryd.ntmps55
      go_wp2_with fail
      obtain ⟨wB, hwB⟩ : ∃ wB, wB = ((w.alloc (.cells #[.int .i64 x1, .int .i64 y1] 23)).alloc (.cells #[.int .i64 x2, .int .i64 y2] 23)).alloc (.cells #[.int .i64 0, .int .i64 0] 23) := ⟨_, rfl⟩
      have HN1 := Lib.hid (show CellN wB w.heap.size x1 y1 by rw [hwB]; exact ((CellN.new w x1 y1).up (Up.alloc _ _)).up (Up.alloc _ _))
      have HN2 := Lib.hid (show CellN wB (w.heap.size + 1) x2 y2 by rw [hwB]; have := (CellN.new (w.alloc (.cells #[.int .i64 x1, .int .i64 y1] 23)) x2 y2).up (Up.alloc _ (.cells #[.int .i64 0, .int .i64 0] 23)); simpa using this)
      have HR := Lib.hid (show CellN wB (w.heap.size + 1 + 1) 0 0 by rw [hwB]; have := CellN.new ((w.alloc (.cells #[.int .i64 x1, .int .i64 y1] 23)).alloc (.cells #[.int .i64 x2, .int .i64 y2] 23)) 0 0; simpa using this)
      have HU := Lib.hid (show Up w wB by rw [hwB]; exact Up.three w _ _ _)
      rw [← hwB]
      clear hwB
      refine Calls.mono (HV1.out _ (by (repeat (first | exact Below.refl _ _ | exact Go.RowKit.Hid.out (by assumption) | refine Up.trans ?_ (Up.drew _) | refine Up.trans ?_ (Up.drewN _ _) | refine Up.trans ?_ (Up.alloc _ _) | refine Up.trans ?_ (Go.RowKit.Hid.out (by assumption)))))) ?_
      rintro e w1 ⟨rfl, hu1⟩
      have HU1 := Lib.hid hu1
      clear hu1
      obtain ⟨b0, b1, -, -, lb⟩ := (HN2.out.up (w' := w1) (by (repeat (first | exact Below.refl _ _ | exact Go.RowKit.Hid.out (by assumption) | refine Up.trans ?_ (Up.drew _) | refine Up.trans ?_ (Up.drewN _ _) | refine Up.trans ?_ (Up.alloc _ _) | refine Up.trans ?_ (Go.RowKit.Hid.out (by assumption)))))).facts
      go_wp2_with fail
      refine Calls.mono (HV2.out _ (by (repeat (first | exact Below.refl _ _ | exact Go.RowKit.Hid.out (by assumption) | refine Up.trans ?_ (Up.drew _) | refine Up.trans ?_ (Up.drewN _ _) | refine Up.trans ?_ (Up.alloc _ _) | refine Up.trans ?_ (Go.RowKit.Hid.out (by assumption)))))) ?_
      rintro e w2 ⟨rfl, hu2⟩
      have HU2 := Lib.hid hu2
      clear hu2
      obtain ⟨r0, r1, g0, g1, lr⟩ := (HR.out.up (w' := w2) (by (repeat (first | exact Below.refl _ _ | exact Go.RowKit.Hid.out (by assumption) | refine Up.trans ?_ (Up.drew _) | refine Up.trans ?_ (Up.drewN _ _) | refine Up.trans ?_ (Up.alloc _ _) | refine Up.trans ?_ (Go.RowKit.Hid.out (by assumption)))))).facts
      have HR2 := Lib.hid (HR.out.up (w' := w2) (by (repeat (first | exact Below.refl _ _ | exact Go.RowKit.Hid.out (by assumption) | refine Up.trans ?_ (Up.drew _) | refine Up.trans ?_ (Up.drewN _ _) | refine Up.trans ?_ (Up.alloc _ _) | refine Up.trans ?_ (Go.RowKit.Hid.out (by assumption))))))
      have HF := Lib.hid ((HR2.out.set 0 0).facts)
      have HUF := Lib.hid ((show Up w w2 by (repeat (first | exact Below.refl _ _ | exact Go.RowKit.Hid.out (by assumption) | refine Up.trans ?_ (Up.drew _) | refine Up.trans ?_ (Up.drewN _ _) | refine Up.trans ?_ (Up.alloc _ _) | refine Up.trans ?_ (Go.RowKit.Hid.out (by assumption))))).stored (show w.heap.size ≤ w.heap.size + 1 + 1 by omega) (.int .i64 0) (.int .i64 0))
      go_wp2
      obtain ⟨z0, z1, -, -, -⟩ := HF.out
      refine bodyPost_ret (by simp [results, Tryd.results55, go_sem, z0, z1]; try rfl) rfl ?_
      exact ⟨rfl, HUF.out⟩
    · rw [hk2] at HV2
      obtain ⟨e1, e2⟩ := ratOf_ok hk1
      obtain ⟨e3, e4⟩ := ratOf_ok hk2
      have f1 := ok_FB hk1
      have f2 := ok_FB hk2
      have HO1 := Lib.hid (fun W => fracOf_any x1 y1 (ratOf x1 y1) W e1 e2 hx1 hx2 hy1 hy2)
      have HO2 := Lib.hid (fun W => fracOf_any x2 y2 (ratOf x2 y2) W e3 e4 hx3 hx4 hy3 hy4)
      have HOP := Lib.hid (fun W u1 u2 (hu : Up w W) (hv1 : FV W u1 (ratOf x1 y1)) (hv2 : FV W u2 (ratOf x2 y2)) => fracOver_any u1 u2 (ratOf x1 y1) (ratOf x2 y2) W hv1 hv2 f1 f2 (hz hk1 hk2) (ht.up hu))
      simp only [Bool.and_true, numX, numY, numE, Bool.true_and, if_true]
      obtain ⟨q, hq⟩ : ∃ q, q = ratOf x1 y1 / ratOf x2 y2 := ⟨_, rfl⟩
      rw [← hq] at HOP ⊢
      have HL := Lib.hid (fun W u (hv : FV W u q) => limited_any u q W hv)
      generalize (if fits q = true then q.num else 0) = rx at *
      generalize (if fits q = true then (q.den : Int) else 0) = ry at *
      generalize (if fits q = true then (0 : Int) else 3) = re at *
      clear hk1 hk2 ht hx1 hx2 hx3 hx4 hy1 hy2 hy3 hy4 e1 e2 e3 e4 f1 f2 hq
      go_enter Tryd.func55, Tryd.ntmps55
      go_wp2_with fail
      obtain ⟨wB, hwB⟩ : ∃ wB, wB = ((w.alloc (.cells #[.int .i64 x1, .int .i64 y1] 23)).alloc (.cells #[.int .i64 x2, .int .i64 y2] 23)).alloc (.cells #[.int .i64 0, .int .i64 0] 23) := ⟨_, rfl⟩
      have HN1 := Lib.hid (show CellN wB w.heap.size x1 y1 by rw [hwB]; exact ((CellN.new w x1 y1).up (Up.alloc _ _)).up (Up.alloc _ _))
      have HN2 := Lib.hid (show CellN wB (w.heap.size + 1) x2 y2 by rw [hwB]; have := (CellN.new (w.alloc (.cells #[.int .i64 x1, .int .i64 y1] 23)) x2 y2).up (Up.alloc _ (.cells #[.int .i64 0, .int .i64 0] 23)); simpa using this)
      have HR := Lib.hid (show CellN wB (w.heap.size + 1 + 1) 0 0 by rw [hwB]; have := CellN.new ((w.alloc (.cells #[.int .i64 x1, .int .i64 y1] 23)).alloc (.cells #[.int .i64 x2, .int .i64 y2] 23)) 0 0; simpa using this)
      have HU := Lib.hid (show Up w wB by rw [hwB]; exact Up.three w _ _ _)
      rw [← hwB]
      clear hwB
      refine Calls.mono (HV1.out _ (by (repeat (first | exact Below.refl _ _ | exact Go.RowKit.Hid.out (by assumption) | refine Up.trans ?_ (Up.drew _) | refine Up.trans ?_ (Up.drewN _ _) | refine Up.trans ?_ (Up.alloc _ _) | refine Up.trans ?_ (Go.RowKit.Hid.out (by assumption)))))) ?_
      rintro e w1 ⟨rfl, hu1⟩
      have HU1 := Lib.hid hu1
      clear hu1
      obtain ⟨b0, b1, -, -, lb⟩ := (HN2.out.up (w' := w1) (by (repeat (first | exact Below.refl _ _ | exact Go.RowKit.Hid.out (by assumption) | refine Up.trans ?_ (Up.drew _) | refine Up.trans ?_ (Up.drewN _ _) | refine Up.trans ?_ (Up.alloc _ _) | refine Up.trans ?_ (Go.RowKit.Hid.out (by assumption)))))).facts
      go_wp2_with fail
      refine Calls.mono (HV2.out _ (by (repeat (first | exact Below.refl _ _ | exact Go.RowKit.Hid.out (by assumption) | refine Up.trans ?_ (Up.drew _) | refine Up.trans ?_ (Up.drewN _ _) | refine Up.trans ?_ (Up.alloc _ _) | refine Up.trans ?_ (Go.RowKit.Hid.out (by assumption)))))) ?_
      rintro e w2 ⟨rfl, hu2⟩
      have HU2 := Lib.hid hu2
      clear hu2
      obtain ⟨a0, a1, -, -, la⟩ := (HN1.out.up (w' := w2) (by (repeat (first | exact Below.refl _ _ | exact Go.RowKit.Hid.out (by assumption) | refine Up.trans ?_ (Up.drew _) | refine Up.trans ?_ (Up.drewN _ _) | refine Up.trans ?_ (Up.alloc _ _) | refine Up.trans ?_ (Go.RowKit.Hid.out (by assumption)))))).facts
      obtain ⟨b0, b1, -, -, lb⟩ := (HN2.out.up (w' := w2) (by (repeat (first | exact Below.refl _ _ | exact Go.RowKit.Hid.out (by assumption) | refine Up.trans ?_ (Up.drew _) | refine Up.trans ?_ (Up.drewN _ _) | refine Up.trans ?_ (Up.alloc _ _) | refine Up.trans ?_ (Go.RowKit.Hid.out (by assumption)))))).facts
      go_wp2_with fail
      have hne1 : (w.heap.size = w.heap.size + 1 + 1) = False := by simp; omega
      have hne2 : (w.heap.size + 1 + 1 = w.heap.size) = False := by simp; omega
      go_region_held3 (fun w' => w'.cell? ⟨w.heap.size, 0, none⟩ = some (.int .i64 x1) ∧ w'.cell? ⟨w.heap.size, 1, none⟩ = some (.int .i64 y1) ∧ w'.cell? ⟨w.heap.size + 1, 0, none⟩ = some (.int .i64 x2) ∧ w'.cell? ⟨w.heap.size + 1, 1, none⟩ = some (.int .i64 y2)) (go_keep)
        ((first
          | (go_at_call_of 40 (Value.int IntKind.i64 x1)
             refine Calls.mono (HO1.out _) ?_
             rintro e w5 ⟨v5, rfl, hv5, hu5⟩
             have HU5 := Lib.hid hu5
             obtain ⟨a0, a1, -, -, la⟩ := (HN1.out.up (w' := w5) (by (repeat (first | exact Below.refl _ _ | exact Go.RowKit.Hid.out (by assumption) | refine Up.trans ?_ (Up.drew _) | refine Up.trans ?_ (Up.drewN _ _) | refine Up.trans ?_ (Up.alloc _ _) | refine Up.trans ?_ (Go.RowKit.Hid.out (by assumption)))))).facts
             obtain ⟨b0, b1, -, -, lb⟩ := (HN2.out.up (w' := w5) (by (repeat (first | exact Below.refl _ _ | exact Go.RowKit.Hid.out (by assumption) | refine Up.trans ?_ (Up.drew _) | refine Up.trans ?_ (Up.drewN _ _) | refine Up.trans ?_ (Up.alloc _ _) | refine Up.trans ?_ (Go.RowKit.Hid.out (by assumption)))))).facts
             have HV5 := Lib.hid hv5
             clear hv5 hu5)
          | (go_at_call_of 40 (Value.int IntKind.i64 x2)
             refine Calls.mono (HO2.out _) ?_
             rintro e w6 ⟨v6, rfl, hv6, hu6⟩
             have HU6 := Lib.hid hu6
             obtain ⟨a0, a1, -, -, la⟩ := (HN1.out.up (w' := w6) (by (repeat (first | exact Below.refl _ _ | exact Go.RowKit.Hid.out (by assumption) | refine Up.trans ?_ (Up.drew _) | refine Up.trans ?_ (Up.drewN _ _) | refine Up.trans ?_ (Up.alloc _ _) | refine Up.trans ?_ (Go.RowKit.Hid.out (by assumption)))))).facts
             obtain ⟨b0, b1, -, -, lb⟩ := (HN2.out.up (w' := w6) (by (repeat (first | exact Below.refl _ _ | exact Go.RowKit.Hid.out (by assumption) | refine Up.trans ?_ (Up.drew _) | refine Up.trans ?_ (Up.drewN _ _) | refine Up.trans ?_ (Up.alloc _ _) | refine Up.trans ?_ (Go.RowKit.Hid.out (by assumption)))))).facts
             have HV6 := Lib.hid hv6
             have HV5b := Lib.hid (HV5.out.up hu6)
             clear hv6 hu6)
          | (go_at_call 59
             refine Calls.mono (HOP.out _ _ _ (by (repeat (first | exact Below.refl _ _ | exact Go.RowKit.Hid.out (by assumption) | refine Up.trans ?_ (Up.drew _) | refine Up.trans ?_ (Up.drewN _ _) | refine Up.trans ?_ (Up.alloc _ _) | refine Up.trans ?_ (Go.RowKit.Hid.out (by assumption))))) HV5b.out HV6.out) ?_
             rintro e w7 ⟨v7, rfl, hv7, hu7⟩
             have HU7 := Lib.hid hu7
             obtain ⟨a0, a1, -, -, la⟩ := (HN1.out.up (w' := w7) (by (repeat (first | exact Below.refl _ _ | exact Go.RowKit.Hid.out (by assumption) | refine Up.trans ?_ (Up.drew _) | refine Up.trans ?_ (Up.drewN _ _) | refine Up.trans ?_ (Up.alloc _ _) | refine Up.trans ?_ (Go.RowKit.Hid.out (by assumption)))))).facts
             obtain ⟨b0, b1, -, -, lb⟩ := (HN2.out.up (w' := w7) (by (repeat (first | exact Below.refl _ _ | exact Go.RowKit.Hid.out (by assumption) | refine Up.trans ?_ (Up.drew _) | refine Up.trans ?_ (Up.drewN _ _) | refine Up.trans ?_ (Up.alloc _ _) | refine Up.trans ?_ (Go.RowKit.Hid.out (by assumption)))))).facts
             have HV7 := Lib.hid hv7
             clear hv7 hu7)
          | (go_at_call 27
             refine Calls.mono (HL.out _ _ HV7.out) ?_
             rintro e w8 ⟨rfl, hu8⟩
             have HU8 := Lib.hid hu8
             obtain ⟨a0, a1, -, -, la⟩ := (HN1.out.up (w' := w8) (by (repeat (first | exact Below.refl _ _ | exact Go.RowKit.Hid.out (by assumption) | refine Up.trans ?_ (Up.drew _) | refine Up.trans ?_ (Up.drewN _ _) | refine Up.trans ?_ (Up.alloc _ _) | refine Up.trans ?_ (Go.RowKit.Hid.out (by assumption)))))).facts
             obtain ⟨b0, b1, -, -, lb⟩ := (HN2.out.up (w' := w8) (by (repeat (first | exact Below.refl _ _ | exact Go.RowKit.Hid.out (by assumption) | refine Up.trans ?_ (Up.drew _) | refine Up.trans ?_ (Up.drewN _ _) | refine Up.trans ?_ (Up.alloc _ _) | refine Up.trans ?_ (Go.RowKit.Hid.out (by assumption)))))).facts
             obtain ⟨r0, r1, g0, g1, lr⟩ := (HR.out.up (w' := w8) (by (repeat (first | exact Below.refl _ _ | exact Go.RowKit.Hid.out (by assumption) | refine Up.trans ?_ (Up.drew _) | refine Up.trans ?_ (Up.drewN _ _) | refine Up.trans ?_ (Up.alloc _ _) | refine Up.trans ?_ (Go.RowKit.Hid.out (by assumption)))))).facts
             have HR8 := Lib.hid (HR.out.up (w' := w8) (by (repeat (first | exact Below.refl _ _ | exact Go.RowKit.Hid.out (by assumption) | refine Up.trans ?_ (Up.drew _) | refine Up.trans ?_ (Up.drewN _ _) | refine Up.trans ?_ (Up.alloc _ _) | refine Up.trans ?_ (Go.RowKit.Hid.out (by assumption))))))
             clear hu8)))
      have HF := Lib.hid ((HR8.out.set rx ry).facts)
      have HUF := Lib.hid ((show Up w w8 by (repeat (first | exact Below.refl _ _ | exact Go.RowKit.Hid.out (by assumption) | refine Up.trans ?_ (Up.drew _) | refine Up.trans ?_ (Up.drewN _ _) | refine Up.trans ?_ (Up.alloc _ _) | refine Up.trans ?_ (Go.RowKit.Hid.out (by assumption))))).stored (show w.heap.size ≤ w.heap.size + 1 + 1 by omega) (.int .i64 rx) (.int .i64 ry))
      obtain ⟨z0, z1, -, -, -⟩ := HF.out
      go_wp2
      refine bodyPost_ret (by simp [results, Tryd.results55, go_sem, z0, z1]; try rfl) rfl ?_
      exact ⟨rfl, HUF.out⟩
end Go.Proofs.YtahmjnjammcifaaDoor
