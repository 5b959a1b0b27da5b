import Derived.Test.YtahmjnjammcifaaDoorNum4
namespace Go.Proofs.YtahmjnjammcifaaDoor
open Go.RowKit Fm

theorem startNN (w : World) (x1 y1 x2 y2 : Int) :
    ∃ wB, ((w.alloc (.cells #[.int .i64 x1, .int .i64 y1] 23)).alloc (.cells #[.int .i64 x2, .int .i64 y2] 23)).alloc (.cells #[.int .i64 0, .int .i64 0] 23) = wB ∧
      CellN wB w.heap.size x1 y1 ∧ CellN wB (w.heap.size + 1) x2 y2 ∧ CellN wB (w.heap.size + 1 + 1) 0 0 ∧ Up w wB := by
  refine ⟨_, rfl, ((CellN.new w x1 y1).up (Up.alloc _ _)).up (Up.alloc _ _), ?_, ?_, Up.three w _ _ _⟩
  · have := (CellN.new (w.alloc (.cells #[.int .i64 x1, .int .i64 y1] 23)) x2 y2).up (Up.alloc _ (.cells #[.int .i64 0, .int .i64 0] 23)); simpa using this
  · have := CellN.new ((w.alloc (.cells #[.int .i64 x1, .int .i64 y1] 23)).alloc (.cells #[.int .i64 x2, .int .i64 y2] 23)) 0 0; simpa using this

set_option maxRecDepth 10000 in
/-- An integer lies between: the least one. -/
theorem simplest_int (x1 y1 x2 y2 : Int) (w : World) (hx1 : -1152921504606846976 ≤ x1) (hx2 : x1 ≤ 1152921504606846976) (hy : 0 < y1) (hx3 : -1152921504606846976 ≤ x2) (hx4 : x2 ≤ 1152921504606846976) (hy2 : 0 < y2) (h : -(-x1 / y1) ≤ x2 / y2) :
    Calls Tryd.prog 42 #[.agg #[.int .i64 x1, .int .i64 y1], .agg #[.int .i64 x2, .int .i64 y2]] w fun e w' => e = .returned (.agg #[.int .i64 (-(-x1 / y1)), .int .i64 1]) ∧ Up w w' := by
  have HC := Lib.hid (fun W => ceil_any x1 y1 W hx1 hx2 hy)
  have HF := Lib.hid (fun W => floor_any x2 y2 W hx3 hx4 hy2)
  generalize -(-x1 / y1) = c at *
  generalize x2 / y2 = f at *
  clear hx1 hx2 hx3 hx4 hy hy2
  go_enter Tryd.func42, Tryd.ntmps42
  go_wp2_with fail
  obtain ⟨wB, hwB, hn1, hn2, hr, hu0⟩ := startNN w x1 y1 x2 y2
  rw [hwB]
  clear hwB
  have HN1 := Lib.hid hn1
  have HN2 := Lib.hid hn2
  have HR := Lib.hid hr
  have HU := Lib.hid hu0
  clear hn1 hn2 hr hu0
  refine Calls.mono (HC.out _) ?_
  rintro e w1 ⟨rfl, hu1⟩
  have HU1 := Lib.hid hu1
  clear hu1
  obtain ⟨b0, b1, -, -, lb⟩ := (HN2.out.up (w' := w1) (by (repeat (first | exact Below.refl _ _ | exact Go.RowKit.Hid.out (by assumption) | refine Up.trans ?_ (Up.drew _) | refine Up.trans ?_ (Up.drewN _ _) | refine Up.trans ?_ (Up.alloc _ _) | refine Up.trans ?_ (Go.RowKit.Hid.out (by assumption)))))).facts
  go_wp2_with fail
  refine Calls.mono (HF.out _) ?_
  rintro e w2 ⟨rfl, hu2⟩
  have HU2 := Lib.hid hu2
  clear hu2
  obtain ⟨r0, r1, g0, g1, lr⟩ := (HR.out.up (w' := w2) (by (repeat (first | exact Below.refl _ _ | exact Go.RowKit.Hid.out (by assumption) | refine Up.trans ?_ (Up.drew _) | refine Up.trans ?_ (Up.drewN _ _) | refine Up.trans ?_ (Up.alloc _ _) | refine Up.trans ?_ (Go.RowKit.Hid.out (by assumption)))))).facts
  have HR8 := Lib.hid (HR.out.up (w' := w2) (by (repeat (first | exact Below.refl _ _ | exact Go.RowKit.Hid.out (by assumption) | refine Up.trans ?_ (Up.drew _) | refine Up.trans ?_ (Up.drewN _ _) | refine Up.trans ?_ (Up.alloc _ _) | refine Up.trans ?_ (Go.RowKit.Hid.out (by assumption))))))
  have HFF := Lib.hid ((HR8.out.set c 1).facts)
  have HUF := Lib.hid ((show Up w w2 by (repeat (first | exact Below.refl _ _ | exact Go.RowKit.Hid.out (by assumption) | refine Up.trans ?_ (Up.drew _) | refine Up.trans ?_ (Up.drewN _ _) | refine Up.trans ?_ (Up.alloc _ _) | refine Up.trans ?_ (Go.RowKit.Hid.out (by assumption))))).stored (show w.heap.size ≤ w.heap.size + 1 + 1 by omega) (.int .i64 c) (.int .i64 1))
  go_wp2
  obtain ⟨z0, z1, -, -, -⟩ := HFF.out
  refine bodyPost_ret (by simp [results, Tryd.results42, go_sem, z0, z1]; try rfl) rfl ?_
  exact ⟨rfl, HUF.out⟩

set_option maxRecDepth 10000 in
/-- No integer lies between: one step. -/
theorem simplest_step (x1 y1 x2 y2 n X Y : Int) (w : World) (hx1 : -1152921504606846976 ≤ x1) (hx2 : x1 ≤ 1152921504606846976) (hy : 0 < y1) (hx3 : -1152921504606846976 ≤ x2) (hx4 : x2 ≤ 1152921504606846976) (hy2 : 0 < y2) (h : ¬ -(-x1 / y1) ≤ x2 / y2)
    (hn : x1 / y1 = n) (w1 : wrap64 (n * y2) = n * y2) (w2 : wrap64 (n * y1) = n * y1) (w3 : wrap64 (x2 - n * y2) = x2 - n * y2) (w4 : wrap64 (x1 - n * y1) = x1 - n * y1) (w5 : wrap64 (n * X) = n * X) (w6 : wrap64 (n * X + Y) = n * X + Y)
    (hrec : ∀ W, Up w W → Calls Tryd.prog 42 #[.agg #[.int .i64 y2, .int .i64 (x2 - n * y2)], .agg #[.int .i64 y1, .int .i64 (x1 - n * y1)]] W fun e w' => e = .returned (.agg #[.int .i64 X, .int .i64 Y]) ∧ Up W w') :
    Calls Tryd.prog 42 #[.agg #[.int .i64 x1, .int .i64 y1], .agg #[.int .i64 x2, .int .i64 y2]] w fun e w' => e = .returned (.agg #[.int .i64 (n * X + Y), .int .i64 X]) ∧ Up w w' := by
  have HC := Lib.hid (fun W => ceil_any x1 y1 W hx1 hx2 hy)
  have HF := Lib.hid (fun W => floor_any x2 y2 W hx3 hx4 hy2)
  have HG := Lib.hid (fun W => floor_any x1 y1 W hx1 hx2 hy)
  rw [hn] at HG
  have HREC := Lib.hid hrec
  generalize -(-x1 / y1) = c at *
  generalize x2 / y2 = f at *
  have W1 := Lib.hid w1
  have W2 := Lib.hid w2
  have W3 := Lib.hid w3
  have W4 := Lib.hid w4
  have W5 := Lib.hid w5
  have W6 := Lib.hid w6
  clear hx1 hx2 hx3 hx4 hy hy2 hn hrec w1 w2 w3 w4 w5 w6
  have hd : decide (c ≤ f) = false := decide_eq_false h
  go_enter Tryd.func42, Tryd.ntmps42
  go_wp2_with fail
  obtain ⟨wB, hwB, hn1, hn2, hr, hu0⟩ := startNN w x1 y1 x2 y2
  rw [hwB]
  clear hwB
  have HN1 := Lib.hid hn1
  have HN2 := Lib.hid hn2
  have HR := Lib.hid hr
  have HU := Lib.hid hu0
  clear hn1 hn2 hr hu0
  refine Calls.mono (HC.out _) ?_
  rintro e w1 ⟨rfl, hu1⟩
  have HU1 := Lib.hid hu1
  clear hu1
  obtain ⟨b0, b1, -, -, lb⟩ := (HN2.out.up (w' := w1) (by (repeat (first | exact Below.refl _ _ | exact Go.RowKit.Hid.out (by assumption) | refine Up.trans ?_ (Up.drew _) | refine Up.trans ?_ (Up.drewN _ _) | refine Up.trans ?_ (Up.alloc _ _) | refine Up.trans ?_ (Go.RowKit.Hid.out (by assumption)))))).facts
  go_wp2_with fail
  refine Calls.mono (HF.out _) ?_
  rintro e w2 ⟨rfl, hu2⟩
  have HU2 := Lib.hid hu2
  clear hu2
  obtain ⟨a0, a1, -, -, la⟩ := (HN1.out.up (w' := w2) (by (repeat (first | exact Below.refl _ _ | exact Go.RowKit.Hid.out (by assumption) | refine Up.trans ?_ (Up.drew _) | refine Up.trans ?_ (Up.drewN _ _) | refine Up.trans ?_ (Up.alloc _ _) | refine Up.trans ?_ (Go.RowKit.Hid.out (by assumption)))))).facts
  go_wp2_with fail
  refine Calls.mono (HG.out _) ?_
  rintro e w3 ⟨rfl, hu3⟩
  have HU3 := Lib.hid hu3
  clear hu3
  obtain ⟨a0, a1, -, -, la⟩ := (HN1.out.up (w' := w3) (by (repeat (first | exact Below.refl _ _ | exact Go.RowKit.Hid.out (by assumption) | refine Up.trans ?_ (Up.drew _) | refine Up.trans ?_ (Up.drewN _ _) | refine Up.trans ?_ (Up.alloc _ _) | refine Up.trans ?_ (Go.RowKit.Hid.out (by assumption)))))).facts
  obtain ⟨b0, b1, -, -, lb⟩ := (HN2.out.up (w' := w3) (by (repeat (first | exact Below.refl _ _ | exact Go.RowKit.Hid.out (by assumption) | refine Up.trans ?_ (Up.drew _) | refine Up.trans ?_ (Up.drewN _ _) | refine Up.trans ?_ (Up.alloc _ _) | refine Up.trans ?_ (Go.RowKit.Hid.out (by assumption)))))).facts
  go_wp2_with fail
  rw [W1.out, W2.out, W3.out, W4.out]
  refine Calls.mono (HREC.out _ (by (repeat (first | exact Below.refl _ _ | exact Go.RowKit.Hid.out (by assumption) | refine Up.trans ?_ (Up.drew _) | refine Up.trans ?_ (Up.drewN _ _) | refine Up.trans ?_ (Up.alloc _ _) | refine Up.trans ?_ (Go.RowKit.Hid.out (by assumption)))))) ?_
  rintro e w4 ⟨rfl, hu4⟩
  have HU4 := Lib.hid hu4
  clear hu4
  have HR8 := Lib.hid ((HR.out.up (w' := w4) (by (repeat (first | exact Below.refl _ _ | exact Go.RowKit.Hid.out (by assumption) | refine Up.trans ?_ (Up.drew _) | refine Up.trans ?_ (Up.drewN _ _) | refine Up.trans ?_ (Up.alloc _ _) | refine Up.trans ?_ (Go.RowKit.Hid.out (by assumption)))))).up (Up.alloc w4 (.cells #[.int .i64 X, .int .i64 Y] 23)))
  obtain ⟨r0, r1, g0, g1, lr⟩ := HR8.out.facts
  have HFF := Lib.hid ((HR8.out.set (n * X + Y) X).facts)
  have HUF := Lib.hid ((show Up w (w4.alloc (.cells #[.int .i64 X, .int .i64 Y] 23)) by (repeat (first | exact Below.refl _ _ | exact Go.RowKit.Hid.out (by assumption) | refine Up.trans ?_ (Up.drew _) | refine Up.trans ?_ (Up.drewN _ _) | refine Up.trans ?_ (Up.alloc _ _) | refine Up.trans ?_ (Go.RowKit.Hid.out (by assumption))))).stored (show w.heap.size ≤ w.heap.size + 1 + 1 by omega) (.int .i64 (n * X + Y)) (.int .i64 X))
  go_wp2_with fail
  rw [W5.out, W6.out]
  obtain ⟨z0, z1, -, -, -⟩ := HFF.out
  refine bodyPost_ret (by simp [results, Tryd.results42, go_sem, z0, z1]; try rfl) rfl ?_
  exact ⟨rfl, HUF.out⟩
end Go.Proofs.YtahmjnjammcifaaDoor
