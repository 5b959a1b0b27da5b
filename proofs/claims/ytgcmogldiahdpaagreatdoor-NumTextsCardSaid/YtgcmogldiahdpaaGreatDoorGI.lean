/- Contracts of the operations on numbers, and plain facts about the search by continued fractions. -/
import Derived.Test.YtgcmogldiahdpaaGreatDoorGH
namespace Go.Proofs.YtgcmogldiahdpaaGreatDoor
open Go.RowKit Fm

set_option maxRecDepth 10000 in
theorem numAdd_any (x1 y1 x2 y2 : Int) (w : World) (hx1 : -9223372036854775808 ≤ x1) (hx2 : x1 ≤ 9223372036854775807) (hy1 : -9223372036854775808 ≤ y1) (hy2 : y1 ≤ 9223372036854775807)
    (hx3 : -9223372036854775808 ≤ x2) (hx4 : x2 ≤ 9223372036854775807) (hy3 : -9223372036854775808 ≤ y2) (hy4 : y2 ≤ 9223372036854775807) (ht : Tab w) :
    Calls Tryz.prog 54 #[.agg #[.int .i64 x1, .int .i64 y1], .agg #[.int .i64 x2, .int .i64 y2]] w fun e w' =>
      e = .returned (.tuple #[.agg #[.int .i64 (numX (okNum x1 y1 && okNum x2 y2) (ratOf x1 y1 + ratOf x2 y2)), .int .i64 (numY (okNum x1 y1 && okNum x2 y2) (ratOf x1 y1 + ratOf x2 y2))], .int .i64 (numE (okNum x1 y1 && okNum x2 y2) (ratOf x1 y1 + ratOf x2 y2))]) ∧ Up w w' := by
  have HA := Lib.hid (fun W (hu : Up w W) => applyPlus_any x1 y1 x2 y2 W hx1 hx2 hy1 hy2 hx3 hx4 hy3 hy4 (ht.up hu))
  generalize numX (okNum x1 y1 && okNum x2 y2) (ratOf x1 y1 + ratOf x2 y2) = rx at *
  generalize numY (okNum x1 y1 && okNum x2 y2) (ratOf x1 y1 + ratOf x2 y2) = ry at *
  generalize numE (okNum x1 y1 && okNum x2 y2) (ratOf x1 y1 + ratOf x2 y2) = re at *
  clear ht hx1 hx2 hx3 hx4 hy1 hy2 hy3 hy4
  go_enter Tryz.func54, Tryz.ntmps54
  go_wp2_with fail
  obtain ⟨wB, hwB⟩ : ∃ wB, wB = ((w.alloc (.cells #[.int .i64 x1, .int .i64 y1] 23)).alloc (.cells #[.int .i64 x2, .int .i64 y2] 23)).alloc (.cells #[.int .i64 0, .int .i64 0] 23) := ⟨_, rfl⟩
  have HN1 := Lib.hid (show CellN wB w.heap.size x1 y1 by rw [hwB]; exact ((CellN.new w x1 y1).up (Up.alloc _ _)).up (Up.alloc _ _))
  have HN2 := Lib.hid (show CellN wB (w.heap.size + 1) x2 y2 by rw [hwB]; have := (CellN.new (w.alloc (.cells #[.int .i64 x1, .int .i64 y1] 23)) x2 y2).up (Up.alloc _ (.cells #[.int .i64 0, .int .i64 0] 23)); simpa using this)
  have HR := Lib.hid (show CellN wB (w.heap.size + 1 + 1) 0 0 by rw [hwB]; have := CellN.new ((w.alloc (.cells #[.int .i64 x1, .int .i64 y1] 23)).alloc (.cells #[.int .i64 x2, .int .i64 y2] 23)) 0 0; simpa using this)
  have HU := Lib.hid (show Up w wB by rw [hwB]; exact Up.three w _ _ _)
  rw [← hwB]
  clear hwB
  refine Calls.mono (HA.out _ (by (repeat (first | exact Below.refl _ _ | exact Go.RowKit.Hid.out (by assumption) | refine Up.trans ?_ (Up.drew _) | refine Up.trans ?_ (Up.drewN _ _) | refine Up.trans ?_ (Up.alloc _ _) | refine Up.trans ?_ (Go.RowKit.Hid.out (by assumption)))))) ?_
  rintro e w1 ⟨rfl, hu1⟩
  have HU1 := Lib.hid hu1
  clear hu1
  obtain ⟨r0, r1, g0, g1, lr⟩ := (HR.out.up (w' := w1) (by (repeat (first | exact Below.refl _ _ | exact Go.RowKit.Hid.out (by assumption) | refine Up.trans ?_ (Up.drew _) | refine Up.trans ?_ (Up.drewN _ _) | refine Up.trans ?_ (Up.alloc _ _) | refine Up.trans ?_ (Go.RowKit.Hid.out (by assumption)))))).facts
  have HR8 := Lib.hid (HR.out.up (w' := w1) (by (repeat (first | exact Below.refl _ _ | exact Go.RowKit.Hid.out (by assumption) | refine Up.trans ?_ (Up.drew _) | refine Up.trans ?_ (Up.drewN _ _) | refine Up.trans ?_ (Up.alloc _ _) | refine Up.trans ?_ (Go.RowKit.Hid.out (by assumption))))))
  have HF := Lib.hid ((HR8.out.set rx ry).facts)
  have HUF := Lib.hid ((show Up w w1 by (repeat (first | exact Below.refl _ _ | exact Go.RowKit.Hid.out (by assumption) | refine Up.trans ?_ (Up.drew _) | refine Up.trans ?_ (Up.drewN _ _) | refine Up.trans ?_ (Up.alloc _ _) | refine Up.trans ?_ (Go.RowKit.Hid.out (by assumption))))).stored (show w.heap.size ≤ w.heap.size + 1 + 1 by omega) (.int .i64 rx) (.int .i64 ry))
  go_wp2
  obtain ⟨z0, z1, -, -, -⟩ := HF.out
  refine bodyPost_ret (by simp [results, Tryz.results54, go_sem, z0, z1]; try rfl) rfl ?_
  exact ⟨rfl, HUF.out⟩

/-- Whether Div answers ErrNone. -/
def divNone (x1 y1 x2 y2 : Int) : Bool := okNum x1 y1 && okNum x2 y2 && (x2 == 0)
end Go.Proofs.YtgcmogldiahdpaaGreatDoor
namespace Go.Proofs.YtgcmogldiahdpaaGreatDoor
open Go.RowKit Fm

theorem floor_neg {x y : Int} (hy : 0 < y) (h : x.tmod y < 0) : x.tdiv y - 1 = x / y := by
  have h1 := Int.mul_tdiv_add_tmod x y
  have h2 := Int.lt_tmod_of_pos x hy
  rw [eq_comm, Int.ediv_eq_iff_of_pos hy]
  have : (x.tdiv y - 1) * y = y * x.tdiv y - y := by rw [Int.sub_mul, Int.mul_comm]; simp
  constructor
  · rw [this]; omega
  · rw [this]; omega
theorem floor_pos {x y : Int} (hy : 0 < y) (h : ¬ x.tmod y < 0) : x.tdiv y = x / y := by
  have h1 := Int.mul_tdiv_add_tmod x y
  have h2 := Int.tmod_lt_of_pos x hy
  rw [eq_comm, Int.ediv_eq_iff_of_pos hy]
  have : x.tdiv y * y = y * x.tdiv y := Int.mul_comm _ _
  constructor
  · rw [this]; omega
  · rw [this]; omega

set_option maxRecDepth 10000 in
theorem floor_any (x y : Int) (w : World) (hx1 : -1152921504606846976 ≤ x) (hx2 : x ≤ 1152921504606846976) (hy : 0 < y) :
    Calls Tryz.prog 163 #[.agg #[.int .i64 x, .int .i64 y]] w fun e w' => e = .returned (.int .i64 (x / y)) ∧ Up w w' := by
  have hb : (x.tdiv y).natAbs ≤ x.natAbs := by rw [Int.natAbs_tdiv]; exact Nat.div_le_self _ _
  have HW := Lib.hid (show wrap64 (x.tdiv y) = x.tdiv y by unfold wrap64; omega)
  have HW1 := Lib.hid (show wrap64 (x.tdiv y - 1) = x.tdiv y - 1 by unfold wrap64; omega)
  have hz : (y == 0) = false := by simp; omega
  have hz' : y ≠ 0 := by omega
  by_cases h : x.tmod y < 0
  · have HF := Lib.hid (floor_neg hy h)
    clear hb hx1 hx2 hy
    go_enter Tryz.func163, Tryz.ntmps163
    go_wp2
    refine bodyPost_ret (by simp [results, Tryz.results163, go_sem]; try rfl) rfl ?_
    exact ⟨ret_int (by first | rw [HW.out, HW1.out, HF.out] | rw [HW1.out, HF.out] | rw [HF.out]), Up.alloc _ _⟩
  · have HF := Lib.hid (floor_pos hy h)
    have hd : decide (x.tmod y < 0) = false := decide_eq_false h
    clear hb hx1 hx2 hy
    go_enter Tryz.func163, Tryz.ntmps163
    go_wp2
    refine bodyPost_ret (by simp [results, Tryz.results163, go_sem]; try rfl) rfl ?_
    exact ⟨ret_int (by first | rw [HW.out, HF.out] | rw [HF.out]), Up.alloc _ _⟩

set_option maxRecDepth 10000 in
theorem negative_any (x y : Int) (w : World) (hx1 : -1152921504606846976 ≤ x) (hx2 : x ≤ 1152921504606846976) :
    Calls Tryz.prog 116 #[.agg #[.int .i64 x, .int .i64 y]] w fun e w' => e = .returned (.agg #[.int .i64 (-x), .int .i64 y]) ∧ Up w w' := by
  go_enter Tryz.func116, Tryz.ntmps116
  go_wp2
  refine bodyPost_ret (by simp [results, Tryz.results116, go_sem]; try rfl) rfl ?_
  exact ⟨rfl, (Up.alloc _ _).trans (Up.alloc _ _)⟩

set_option maxRecDepth 10000 in
theorem ceil_any (x y : Int) (w : World) (hx1 : -1152921504606846976 ≤ x) (hx2 : x ≤ 1152921504606846976) (hy : 0 < y) :
    Calls Tryz.prog 162 #[.agg #[.int .i64 x, .int .i64 y]] w fun e w' => e = .returned (.int .i64 (-(-x / y))) ∧ Up w w' := by
  have HN := Lib.hid (fun W => negative_any x y W hx1 hx2)
  have HF := Lib.hid (fun W => floor_any (-x) y W (by omega) (by omega) hy)
  have hb1 : (-x / y).natAbs ≤ 1152921504606846977 := by
    by_cases h : (-x).tmod y < 0
    · rw [← floor_neg hy h]
      have hb : ((-x).tdiv y).natAbs ≤ (-x).natAbs := by rw [Int.natAbs_tdiv]; exact Nat.div_le_self _ _
      omega
    · rw [← floor_pos hy h]
      have hb : ((-x).tdiv y).natAbs ≤ (-x).natAbs := by rw [Int.natAbs_tdiv]; exact Nat.div_le_self _ _
      omega
  obtain ⟨z, hz⟩ : ∃ z, z = -x / y := ⟨_, rfl⟩
  rw [← hz] at hb1 HF ⊢
  have hz1 : -1152921504606846977 ≤ z := by omega
  have hz2 : z ≤ 1152921504606846977 := by omega
  clear hz hb1
  clear hx1 hx2 hy
  go_enter Tryz.func162, Tryz.ntmps162
  go_wp2_with fail
  refine Calls.mono (HN.out _) ?_
  rintro e w1 ⟨rfl, hu1⟩
  have HU1 := Lib.hid hu1
  clear hu1
  go_wp2_with fail
  refine Calls.mono (HF.out _) ?_
  rintro e w2 ⟨rfl, hu2⟩
  have HU2 := Lib.hid hu2
  clear hu2
  go_wp2
  refine bodyPost_ret (by simp [results, Tryz.results162, go_sem]; try rfl) rfl ?_
  exact ⟨ret_int (by first | rfl | omega | (unfold wrap64; omega)), by (repeat (first | exact Below.refl _ _ | exact Go.RowKit.Hid.out (by assumption) | refine Up.trans ?_ (Up.drew _) | refine Up.trans ?_ (Up.drewN _ _) | refine Up.trans ?_ (Up.alloc _ _) | refine Up.trans ?_ (Go.RowKit.Hid.out (by assumption))))⟩
end Go.Proofs.YtgcmogldiahdpaaGreatDoor
namespace Go.Proofs.YtgcmogldiahdpaaGreatDoor
open Go.RowKit Fm

theorem startNN (w : World) (x1 y1 x2 y2 : Int) :
    ∃ wB, ((w.alloc (.cells #[.int .i64 x1, .int .i64 y1] 23)).alloc (.cells #[.int .i64 x2, .int .i64 y2] 23)).alloc (.cells #[.int .i64 0, .int .i64 0] 23) = wB ∧
      CellN wB w.heap.size x1 y1 ∧ CellN wB (w.heap.size + 1) x2 y2 ∧ CellN wB (w.heap.size + 1 + 1) 0 0 ∧ Up w wB := by
  refine ⟨_, rfl, ((CellN.new w x1 y1).up (Up.alloc _ _)).up (Up.alloc _ _), ?_, ?_, Up.three w _ _ _⟩
  · have := (CellN.new (w.alloc (.cells #[.int .i64 x1, .int .i64 y1] 23)) x2 y2).up (Up.alloc _ (.cells #[.int .i64 0, .int .i64 0] 23)); simpa using this
  · have := CellN.new ((w.alloc (.cells #[.int .i64 x1, .int .i64 y1] 23)).alloc (.cells #[.int .i64 x2, .int .i64 y2] 23)) 0 0; simpa using this

set_option maxRecDepth 10000 in
/-- An integer lies between: the least one. -/
theorem simplest_int (x1 y1 x2 y2 : Int) (w : World) (hx1 : -1152921504606846976 ≤ x1) (hx2 : x1 ≤ 1152921504606846976) (hy : 0 < y1) (hx3 : -1152921504606846976 ≤ x2) (hx4 : x2 ≤ 1152921504606846976) (hy2 : 0 < y2) (h : -(-x1 / y1) ≤ x2 / y2) :
    Calls Tryz.prog 115 #[.agg #[.int .i64 x1, .int .i64 y1], .agg #[.int .i64 x2, .int .i64 y2]] w fun e w' => e = .returned (.agg #[.int .i64 (-(-x1 / y1)), .int .i64 1]) ∧ Up w w' := by
  have HC := Lib.hid (fun W => ceil_any x1 y1 W hx1 hx2 hy)
  have HF := Lib.hid (fun W => floor_any x2 y2 W hx3 hx4 hy2)
  generalize -(-x1 / y1) = c at *
  generalize x2 / y2 = f at *
  clear hx1 hx2 hx3 hx4 hy hy2
  go_enter Tryz.func115, Tryz.ntmps115
  go_wp2_with fail
  obtain ⟨wB, hwB, hn1, hn2, hr, hu0⟩ := startNN w x1 y1 x2 y2
  rw [hwB]
  clear hwB
  have HN1 := Lib.hid hn1
  have HN2 := Lib.hid hn2
  have HR := Lib.hid hr
  have HU := Lib.hid hu0
  clear hn1 hn2 hr hu0
  refine Calls.mono (HC.out _) ?_
  rintro e w1 ⟨rfl, hu1⟩
  have HU1 := Lib.hid hu1
  clear hu1
  obtain ⟨b0, b1, -, -, lb⟩ := (HN2.out.up (w' := w1) (by (repeat (first | exact Below.refl _ _ | exact Go.RowKit.Hid.out (by assumption) | refine Up.trans ?_ (Up.drew _) | refine Up.trans ?_ (Up.drewN _ _) | refine Up.trans ?_ (Up.alloc _ _) | refine Up.trans ?_ (Go.RowKit.Hid.out (by assumption)))))).facts
  go_wp2_with fail
  refine Calls.mono (HF.out _) ?_
  rintro e w2 ⟨rfl, hu2⟩
  have HU2 := Lib.hid hu2
  clear hu2
  obtain ⟨r0, r1, g0, g1, lr⟩ := (HR.out.up (w' := w2) (by (repeat (first | exact Below.refl _ _ | exact Go.RowKit.Hid.out (by assumption) | refine Up.trans ?_ (Up.drew _) | refine Up.trans ?_ (Up.drewN _ _) | refine Up.trans ?_ (Up.alloc _ _) | refine Up.trans ?_ (Go.RowKit.Hid.out (by assumption)))))).facts
  have HR8 := Lib.hid (HR.out.up (w' := w2) (by (repeat (first | exact Below.refl _ _ | exact Go.RowKit.Hid.out (by assumption) | refine Up.trans ?_ (Up.drew _) | refine Up.trans ?_ (Up.drewN _ _) | refine Up.trans ?_ (Up.alloc _ _) | refine Up.trans ?_ (Go.RowKit.Hid.out (by assumption))))))
  have HFF := Lib.hid ((HR8.out.set c 1).facts)
  have HUF := Lib.hid ((show Up w w2 by (repeat (first | exact Below.refl _ _ | exact Go.RowKit.Hid.out (by assumption) | refine Up.trans ?_ (Up.drew _) | refine Up.trans ?_ (Up.drewN _ _) | refine Up.trans ?_ (Up.alloc _ _) | refine Up.trans ?_ (Go.RowKit.Hid.out (by assumption))))).stored (show w.heap.size ≤ w.heap.size + 1 + 1 by omega) (.int .i64 c) (.int .i64 1))
  go_wp2
  obtain ⟨z0, z1, -, -, -⟩ := HFF.out
  refine bodyPost_ret (by simp [results, Tryz.results115, go_sem, z0, z1]; try rfl) rfl ?_
  exact ⟨rfl, HUF.out⟩

set_option maxRecDepth 10000 in
/-- No integer lies between: one step. -/
theorem simplest_step (x1 y1 x2 y2 n X Y : Int) (w : World) (hx1 : -1152921504606846976 ≤ x1) (hx2 : x1 ≤ 1152921504606846976) (hy : 0 < y1) (hx3 : -1152921504606846976 ≤ x2) (hx4 : x2 ≤ 1152921504606846976) (hy2 : 0 < y2) (h : ¬ -(-x1 / y1) ≤ x2 / y2)
    (hn : x1 / y1 = n) (w1 : wrap64 (n * y2) = n * y2) (w2 : wrap64 (n * y1) = n * y1) (w3 : wrap64 (x2 - n * y2) = x2 - n * y2) (w4 : wrap64 (x1 - n * y1) = x1 - n * y1) (w5 : wrap64 (n * X) = n * X) (w6 : wrap64 (n * X + Y) = n * X + Y)
    (hrec : ∀ W, Up w W → Calls Tryz.prog 115 #[.agg #[.int .i64 y2, .int .i64 (x2 - n * y2)], .agg #[.int .i64 y1, .int .i64 (x1 - n * y1)]] W fun e w' => e = .returned (.agg #[.int .i64 X, .int .i64 Y]) ∧ Up W w') :
    Calls Tryz.prog 115 #[.agg #[.int .i64 x1, .int .i64 y1], .agg #[.int .i64 x2, .int .i64 y2]] w fun e w' => e = .returned (.agg #[.int .i64 (n * X + Y), .int .i64 X]) ∧ Up w w' := by
  have HC := Lib.hid (fun W => ceil_any x1 y1 W hx1 hx2 hy)
  have HF := Lib.hid (fun W => floor_any x2 y2 W hx3 hx4 hy2)
  have HG := Lib.hid (fun W => floor_any x1 y1 W hx1 hx2 hy)
  rw [hn] at HG
  have HREC := Lib.hid hrec
  generalize -(-x1 / y1) = c at *
  generalize x2 / y2 = f at *
  have W1 := Lib.hid w1
  have W2 := Lib.hid w2
  have W3 := Lib.hid w3
  have W4 := Lib.hid w4
  have W5 := Lib.hid w5
  have W6 := Lib.hid w6
  clear hx1 hx2 hx3 hx4 hy hy2 hn hrec w1 w2 w3 w4 w5 w6
  have hd : decide (c ≤ f) = false := decide_eq_false h
  go_enter Tryz.func115, Tryz.ntmps115
  go_wp2_with fail
  obtain ⟨wB, hwB, hn1, hn2, hr, hu0⟩ := startNN w x1 y1 x2 y2
  rw [hwB]
  clear hwB
  have HN1 := Lib.hid hn1
  have HN2 := Lib.hid hn2
  have HR := Lib.hid hr
  have HU := Lib.hid hu0
  clear hn1 hn2 hr hu0
  refine Calls.mono (HC.out _) ?_
  rintro e w1 ⟨rfl, hu1⟩
  have HU1 := Lib.hid hu1
  clear hu1
  obtain ⟨b0, b1, -, -, lb⟩ := (HN2.out.up (w' := w1) (by (repeat (first | exact Below.refl _ _ | exact Go.RowKit.Hid.out (by assumption) | refine Up.trans ?_ (Up.drew _) | refine Up.trans ?_ (Up.drewN _ _) | refine Up.trans ?_ (Up.alloc _ _) | refine Up.trans ?_ (Go.RowKit.Hid.out (by assumption)))))).facts
  go_wp2_with fail
  refine Calls.mono (HF.out _) ?_
  rintro e w2 ⟨rfl, hu2⟩
  have HU2 := Lib.hid hu2
  clear hu2
  obtain ⟨a0, a1, -, -, la⟩ := (HN1.out.up (w' := w2) (by (repeat (first | exact Below.refl _ _ | exact Go.RowKit.Hid.out (by assumption) | refine Up.trans ?_ (Up.drew _) | refine Up.trans ?_ (Up.drewN _ _) | refine Up.trans ?_ (Up.alloc _ _) | refine Up.trans ?_ (Go.RowKit.Hid.out (by assumption)))))).facts
  go_wp2_with fail
  refine Calls.mono (HG.out _) ?_
  rintro e w3 ⟨rfl, hu3⟩
  have HU3 := Lib.hid hu3
  clear hu3
  obtain ⟨a0, a1, -, -, la⟩ := (HN1.out.up (w' := w3) (by (repeat (first | exact Below.refl _ _ | exact Go.RowKit.Hid.out (by assumption) | refine Up.trans ?_ (Up.drew _) | refine Up.trans ?_ (Up.drewN _ _) | refine Up.trans ?_ (Up.alloc _ _) | refine Up.trans ?_ (Go.RowKit.Hid.out (by assumption)))))).facts
  obtain ⟨b0, b1, -, -, lb⟩ := (HN2.out.up (w' := w3) (by (repeat (first | exact Below.refl _ _ | exact Go.RowKit.Hid.out (by assumption) | refine Up.trans ?_ (Up.drew _) | refine Up.trans ?_ (Up.drewN _ _) | refine Up.trans ?_ (Up.alloc _ _) | refine Up.trans ?_ (Go.RowKit.Hid.out (by assumption)))))).facts
  go_wp2_with fail
  rw [W1.out, W2.out, W3.out, W4.out]
  refine Calls.mono (HREC.out _ (by (repeat (first | exact Below.refl _ _ | exact Go.RowKit.Hid.out (by assumption) | refine Up.trans ?_ (Up.drew _) | refine Up.trans ?_ (Up.drewN _ _) | refine Up.trans ?_ (Up.alloc _ _) | refine Up.trans ?_ (Go.RowKit.Hid.out (by assumption)))))) ?_
  rintro e w4 ⟨rfl, hu4⟩
  have HU4 := Lib.hid hu4
  clear hu4
  have HR8 := Lib.hid ((HR.out.up (w' := w4) (by (repeat (first | exact Below.refl _ _ | exact Go.RowKit.Hid.out (by assumption) | refine Up.trans ?_ (Up.drew _) | refine Up.trans ?_ (Up.drewN _ _) | refine Up.trans ?_ (Up.alloc _ _) | refine Up.trans ?_ (Go.RowKit.Hid.out (by assumption)))))).up (Up.alloc w4 (.cells #[.int .i64 X, .int .i64 Y] 23)))
  obtain ⟨r0, r1, g0, g1, lr⟩ := HR8.out.facts
  have HFF := Lib.hid ((HR8.out.set (n * X + Y) X).facts)
  have HUF := Lib.hid ((show Up w (w4.alloc (.cells #[.int .i64 X, .int .i64 Y] 23)) by (repeat (first | exact Below.refl _ _ | exact Go.RowKit.Hid.out (by assumption) | refine Up.trans ?_ (Up.drew _) | refine Up.trans ?_ (Up.drewN _ _) | refine Up.trans ?_ (Up.alloc _ _) | refine Up.trans ?_ (Go.RowKit.Hid.out (by assumption))))).stored (show w.heap.size ≤ w.heap.size + 1 + 1 by omega) (.int .i64 (n * X + Y)) (.int .i64 X))
  go_wp2_with fail
  rw [W5.out, W6.out]
  obtain ⟨z0, z1, -, -, -⟩ := HFF.out
  refine bodyPost_ret (by simp [results, Tryz.results115, go_sem, z0, z1]; try rfl) rfl ?_
  exact ⟨rfl, HUF.out⟩
end Go.Proofs.YtgcmogldiahdpaaGreatDoor
namespace Go.Proofs.YtgcmogldiahdpaaGreatDoor
open Go.RowKit Fm

set_option maxHeartbeats 1000000 in
set_option maxRecDepth 10000 in
/-- Between of two numbers that are greater than 0, in their order. -/
theorem between_pos (x1 y1 x2 y2 X Y : Int) (w : World) (hk1 : okNum x1 y1 = true) (hk2 : okNum x2 y2 = true) (hle : x1 * y2 - x2 * y1 ≤ 0) (hp : 0 < x1) (ht : Tab w)
    (hrec : ∀ W, Up w W → Calls Tryz.prog 115 #[.agg #[.int .i64 x1, .int .i64 y1], .agg #[.int .i64 x2, .int .i64 y2]] W fun e w' => e = .returned (.agg #[.int .i64 X, .int .i64 Y]) ∧ Up W w') :
    Calls Tryz.prog 55 #[.agg #[.int .i64 x1, .int .i64 y1], .agg #[.int .i64 x2, .int .i64 y2]] w fun e w' => e = .returned (.tuple #[.agg #[.int .i64 X, .int .i64 Y], .int .i64 0]) ∧ Up w w' := by
  have q1 := ok_bounds hk1
  have q2 := ok_bounds hk2
  have HV1 := Lib.hid (fun W (hu : Up w W) => valid_any x1 y1 W (by omega) (by omega) (by omega) (by omega) (ht.up hu))
  have HV2 := Lib.hid (fun W (hu : Up w W) => valid_any x2 y2 W (by omega) (by omega) (by omega) (by omega) (ht.up hu))
  rw [hk1] at HV1
  rw [hk2] at HV2
  obtain ⟨e1, e2⟩ := ratOf_ok hk1
  obtain ⟨e3, e4⟩ := ratOf_ok hk2
  have f1 := ok_FB hk1
  have f2 := ok_FB hk2
  have HO1 := Lib.hid (fun W => fracOf_any x1 y1 (ratOf x1 y1) W e1 e2 (by omega) (by omega) (by omega) (by omega))
  have HO2 := Lib.hid (fun W => fracOf_any x2 y2 (ratOf x2 y2) W e3 e4 (by omega) (by omega) (by omega) (by omega))
  have HC := Lib.hid (fun W u1 u2 (hv1 : FV W u1 (ratOf x1 y1)) (hv2 : FV W u2 (ratOf x2 y2)) => fracCmp_any u1 u2 (ratOf x1 y1) (ratOf x2 y2) W hv1 hv2 f1 f2)
  rw [e1, e2, e3, e4] at HC
  obtain ⟨sg, hsg⟩ : ∃ sg, sg = (x1 * y2 - x2 * y1).sign := ⟨_, rfl⟩
  rw [← hsg] at HC
  have hsg0 : ¬ 0 < sg := by
    rw [hsg]; intro h; have := Int.sign_pos_iff.1 h; omega
  have hsd : decide (0 < sg) = false := decide_eq_false hsg0
  have HREC := Lib.hid hrec
  clear hk1 hk2 hle ht hrec q1 q2 e1 e2 e3 e4 f1 f2 hsg
  go_enter Tryz.func55, Tryz.ntmps55
  go_wp2_with fail
  obtain ⟨wB, hwB, hn1, hn2, hr, hu0⟩ := startNN w x1 y1 x2 y2
  rw [hwB]
  clear hwB
  have HN1 := Lib.hid hn1
  have HN2 := Lib.hid hn2
  have HR := Lib.hid hr
  have HU := Lib.hid hu0
  clear hn1 hn2 hr hu0
  refine Calls.mono (HV1.out _ (by (repeat (first | exact Below.refl _ _ | exact Go.RowKit.Hid.out (by assumption) | refine Up.trans ?_ (Up.drew _) | refine Up.trans ?_ (Up.drewN _ _) | refine Up.trans ?_ (Up.alloc _ _) | refine Up.trans ?_ (Go.RowKit.Hid.out (by assumption)))))) ?_
  rintro e w1 ⟨rfl, hu1⟩
  have HU1 := Lib.hid hu1
  clear hu1
  obtain ⟨b0, b1, -, -, lb⟩ := (HN2.out.up (w' := w1) (by (repeat (first | exact Below.refl _ _ | exact Go.RowKit.Hid.out (by assumption) | refine Up.trans ?_ (Up.drew _) | refine Up.trans ?_ (Up.drewN _ _) | refine Up.trans ?_ (Up.alloc _ _) | refine Up.trans ?_ (Go.RowKit.Hid.out (by assumption)))))).facts
  go_wp2_with fail
  refine Calls.mono (HV2.out _ (by (repeat (first | exact Below.refl _ _ | exact Go.RowKit.Hid.out (by assumption) | refine Up.trans ?_ (Up.drew _) | refine Up.trans ?_ (Up.drewN _ _) | refine Up.trans ?_ (Up.alloc _ _) | refine Up.trans ?_ (Go.RowKit.Hid.out (by assumption)))))) ?_
  rintro e w2 ⟨rfl, hu2⟩
  have HU2 := Lib.hid hu2
  clear hu2
  obtain ⟨a0, a1, -, -, la⟩ := (HN1.out.up (w' := w2) (by (repeat (first | exact Below.refl _ _ | exact Go.RowKit.Hid.out (by assumption) | refine Up.trans ?_ (Up.drew _) | refine Up.trans ?_ (Up.drewN _ _) | refine Up.trans ?_ (Up.alloc _ _) | refine Up.trans ?_ (Go.RowKit.Hid.out (by assumption)))))).facts
  obtain ⟨b0, b1, -, -, lb⟩ := (HN2.out.up (w' := w2) (by (repeat (first | exact Below.refl _ _ | exact Go.RowKit.Hid.out (by assumption) | refine Up.trans ?_ (Up.drew _) | refine Up.trans ?_ (Up.drewN _ _) | refine Up.trans ?_ (Up.alloc _ _) | refine Up.trans ?_ (Go.RowKit.Hid.out (by assumption)))))).facts
  go_wp2_with fail
  go_region_held3 (fun w' => w'.cell? ⟨w.heap.size, 0, none⟩ = some (.int .i64 x1) ∧ w'.cell? ⟨w.heap.size, 1, none⟩ = some (.int .i64 y1) ∧ w'.cell? ⟨w.heap.size + 1, 0, none⟩ = some (.int .i64 x2) ∧ w'.cell? ⟨w.heap.size + 1, 1, none⟩ = some (.int .i64 y2)) (go_keep)
    ((first
      | (go_at_call_of 113 (Value.int IntKind.i64 x1)
         refine Calls.mono (HO1.out _) ?_
         rintro e w5 ⟨v5, rfl, hv5, hu5⟩
         have HU5 := Lib.hid hu5
         obtain ⟨a0, a1, -, -, la⟩ := (HN1.out.up (w' := w5) (by (repeat (first | exact Below.refl _ _ | exact Go.RowKit.Hid.out (by assumption) | refine Up.trans ?_ (Up.drew _) | refine Up.trans ?_ (Up.drewN _ _) | refine Up.trans ?_ (Up.alloc _ _) | refine Up.trans ?_ (Go.RowKit.Hid.out (by assumption)))))).facts
         obtain ⟨b0, b1, -, -, lb⟩ := (HN2.out.up (w' := w5) (by (repeat (first | exact Below.refl _ _ | exact Go.RowKit.Hid.out (by assumption) | refine Up.trans ?_ (Up.drew _) | refine Up.trans ?_ (Up.drewN _ _) | refine Up.trans ?_ (Up.alloc _ _) | refine Up.trans ?_ (Go.RowKit.Hid.out (by assumption)))))).facts
         have HV5 := Lib.hid hv5
         clear hv5 hu5)
      | (go_at_call_of 113 (Value.int IntKind.i64 x2)
         refine Calls.mono (HO2.out _) ?_
         rintro e w6 ⟨v6, rfl, hv6, hu6⟩
         have HU6 := Lib.hid hu6
         obtain ⟨a0, a1, -, -, la⟩ := (HN1.out.up (w' := w6) (by (repeat (first | exact Below.refl _ _ | exact Go.RowKit.Hid.out (by assumption) | refine Up.trans ?_ (Up.drew _) | refine Up.trans ?_ (Up.drewN _ _) | refine Up.trans ?_ (Up.alloc _ _) | refine Up.trans ?_ (Go.RowKit.Hid.out (by assumption)))))).facts
         obtain ⟨b0, b1, -, -, lb⟩ := (HN2.out.up (w' := w6) (by (repeat (first | exact Below.refl _ _ | exact Go.RowKit.Hid.out (by assumption) | refine Up.trans ?_ (Up.drew _) | refine Up.trans ?_ (Up.drewN _ _) | refine Up.trans ?_ (Up.alloc _ _) | refine Up.trans ?_ (Go.RowKit.Hid.out (by assumption)))))).facts
         have HV6 := Lib.hid hv6
         have HV5b := Lib.hid (HV5.out.up hu6)
         clear hv6 hu6)
      | (go_at_call 114
         refine Calls.mono (HC.out _ _ _ HV5b.out HV6.out) ?_
         rintro e w7 ⟨rfl, hu7⟩
         have HU7 := Lib.hid hu7
         obtain ⟨a0, a1, -, -, la⟩ := (HN1.out.up (w' := w7) (by (repeat (first | exact Below.refl _ _ | exact Go.RowKit.Hid.out (by assumption) | refine Up.trans ?_ (Up.drew _) | refine Up.trans ?_ (Up.drewN _ _) | refine Up.trans ?_ (Up.alloc _ _) | refine Up.trans ?_ (Go.RowKit.Hid.out (by assumption)))))).facts
         obtain ⟨b0, b1, -, -, lb⟩ := (HN2.out.up (w' := w7) (by (repeat (first | exact Below.refl _ _ | exact Go.RowKit.Hid.out (by assumption) | refine Up.trans ?_ (Up.drew _) | refine Up.trans ?_ (Up.drewN _ _) | refine Up.trans ?_ (Up.alloc _ _) | refine Up.trans ?_ (Go.RowKit.Hid.out (by assumption)))))).facts
         clear hu7)))
  go_wp2_with fail
  refine Calls.mono (HREC.out _ (by (repeat (first | exact Below.refl _ _ | exact Go.RowKit.Hid.out (by assumption) | refine Up.trans ?_ (Up.drew _) | refine Up.trans ?_ (Up.drewN _ _) | refine Up.trans ?_ (Up.alloc _ _) | refine Up.trans ?_ (Go.RowKit.Hid.out (by assumption)))))) ?_
  rintro e w8 ⟨rfl, hu8⟩
  have HU8 := Lib.hid hu8
  clear hu8
  have HR8 := Lib.hid (HR.out.up (w' := w8) (by (repeat (first | exact Below.refl _ _ | exact Go.RowKit.Hid.out (by assumption) | refine Up.trans ?_ (Up.drew _) | refine Up.trans ?_ (Up.drewN _ _) | refine Up.trans ?_ (Up.alloc _ _) | refine Up.trans ?_ (Go.RowKit.Hid.out (by assumption))))))
  obtain ⟨r0, r1, g0, g1, lr⟩ := HR8.out.facts
  have HFF := Lib.hid ((HR8.out.set X Y).facts)
  have HUF := Lib.hid ((show Up w w8 by (repeat (first | exact Below.refl _ _ | exact Go.RowKit.Hid.out (by assumption) | refine Up.trans ?_ (Up.drew _) | refine Up.trans ?_ (Up.drewN _ _) | refine Up.trans ?_ (Up.alloc _ _) | refine Up.trans ?_ (Go.RowKit.Hid.out (by assumption))))).stored (show w.heap.size ≤ w.heap.size + 1 + 1 by omega) (.int .i64 X) (.int .i64 Y))
  go_wp2
  obtain ⟨z0, z1, -, -, -⟩ := HFF.out
  refine bodyPost_ret (by simp [results, Tryz.results55, go_sem, z0, z1]; try rfl) rfl ?_
  exact ⟨rfl, HUF.out⟩

theorem simplest_awake (w : World) : Calls Tryz.prog 115 #[.agg #[.int .i64 3, .int .i64 10], .agg #[.int .i64 2, .int .i64 5]] w fun e w' => e = .returned (.agg #[.int .i64 1, .int .i64 3]) ∧ Up w w' := by
  have h1 := fun W => simplest_int 5 2 10 3 W (by decide) (by decide) (by decide) (by decide) (by decide) (by decide) (by decide)
  exact simplest_step 3 10 2 5 0 3 1 w (by decide) (by decide) (by decide) (by decide) (by decide) (by decide) (by decide) (by decide) (by unfold wrap64; omega) (by unfold wrap64; omega) (by unfold wrap64; omega) (by unfold wrap64; omega) (by unfold wrap64; omega) (by unfold wrap64; omega) (fun W _ => h1 W)

theorem between_awake (w : World) (ht : Tab w) : Calls Tryz.prog 55 #[.agg #[.int .i64 3, .int .i64 10], .agg #[.int .i64 2, .int .i64 5]] w fun e w' => e = .returned (.tuple #[.agg #[.int .i64 1, .int .i64 3], .int .i64 0]) ∧ Up w w' :=
  between_pos 3 10 2 5 1 3 w (by decide) (by decide) (by decide) (by decide) ht (fun W _ => simplest_awake W)
end Go.Proofs.YtgcmogldiahdpaaGreatDoor
namespace Go.Proofs.YtgcmogldiahdpaaGreatDoor
open Go.RowKit Fm

theorem add_awake1 (w : World) (ht : Tab w) : Calls Tryz.prog 54 #[.agg #[.int .i64 1, .int .i64 3], .agg #[.int .i64 1, .int .i64 6]] w fun e w' => e = .returned (.tuple #[.agg #[.int .i64 1, .int .i64 2], .int .i64 0]) ∧ Up w w' := by
  have h := numAdd_any 1 3 1 6 w (by decide) (by decide) (by decide) (by decide) (by decide) (by decide) (by decide) (by decide) ht
  have hok : (okNum 1 3 && okNum 1 6) = true := by decide
  have hq : ratOf 1 3 + ratOf 1 6 = Rat.divInt 9 18 := by
    unfold ratOf; rw [Rat.divInt_add_divInt _ _ (by decide) (by decide)]; rfl
  have hn : (Rat.divInt 9 18).num = 1 := by rw [Rat.num_divInt]; decide
  have hd : (Rat.divInt 9 18).den = 2 := by rw [Rat.den_divInt]; decide
  have hf : fits (Rat.divInt 9 18) = true := by unfold fits; rw [hn, hd]; decide
  rw [hok, hq] at h
  simp only [numX, numY, numE, hf, hn, hd, Bool.and_true, if_true] at h
  exact h

theorem add_awake2 (w : World) (ht : Tab w) : Calls Tryz.prog 54 #[.agg #[.int .i64 1152921504606846976, .int .i64 1], .agg #[.int .i64 1, .int .i64 1]] w fun e w' => e = .returned (.tuple #[.agg #[.int .i64 0, .int .i64 0], .int .i64 3]) ∧ Up w w' := by
  have h := numAdd_any 1152921504606846976 1 1 1 w (by decide) (by decide) (by decide) (by decide) (by decide) (by decide) (by decide) (by decide) ht
  have hok : (okNum 1152921504606846976 1 && okNum 1 1) = true := by decide
  have hq : ratOf 1152921504606846976 1 + ratOf 1 1 = Rat.divInt 1152921504606846977 1 := by
    unfold ratOf; rw [Rat.divInt_add_divInt _ _ (by decide) (by decide)]; rfl
  have hn : (Rat.divInt 1152921504606846977 1).num = 1152921504606846977 := by rw [Rat.num_divInt]; decide
  have hf : fits (Rat.divInt 1152921504606846977 1) = false := by unfold fits; rw [hn]; simp [within]
  rw [hok, hq] at h
  simp only [numX, numY, numE, hf, Bool.and_false, if_true, if_false, Bool.false_eq_true] at h
  exact h

set_option maxRecDepth 10000 in
theorem awake_any (w : World) (ht : Tab w) : Calls Tryz.prog 11 #[] w fun e w' => e = .returned (.bool true) ∧ Up w w' := by
  have HA := Lib.hid (fun W (hu : Up w W) => add_awake1 W (ht.up hu))
  have HB := Lib.hid (fun W (hu : Up w W) => between_awake W (ht.up hu))
  have HC := Lib.hid (fun W (hu : Up w W) => add_awake2 W (ht.up hu))
  clear ht
  go_enter Tryz.func11, Tryz.ntmps11
  go_wp2_with fail
  refine Calls.mono (HA.out _ (by (repeat (first | exact Below.refl _ _ | exact Go.RowKit.Hid.out (by assumption) | refine Up.trans ?_ (Up.drew _) | refine Up.trans ?_ (Up.drewN _ _) | refine Up.trans ?_ (Up.alloc _ _) | refine Up.trans ?_ (Go.RowKit.Hid.out (by assumption)))))) ?_
  rintro e w1 ⟨rfl, hu1⟩
  have HU1 := Lib.hid hu1
  clear hu1
  go_wp2_with fail
  refine Calls.mono (HB.out _ (by (repeat (first | exact Below.refl _ _ | exact Go.RowKit.Hid.out (by assumption) | refine Up.trans ?_ (Up.drew _) | refine Up.trans ?_ (Up.drewN _ _) | refine Up.trans ?_ (Up.alloc _ _) | refine Up.trans ?_ (Go.RowKit.Hid.out (by assumption)))))) ?_
  rintro e w2 ⟨rfl, hu2⟩
  have HU2 := Lib.hid hu2
  have HN1 := Lib.hid ((CellN.new w1 1 2).up hu2)
  clear hu2
  go_wp2_with fail
  refine Calls.mono (HC.out _ (by (repeat (first | exact Below.refl _ _ | exact Go.RowKit.Hid.out (by assumption) | refine Up.trans ?_ (Up.drew _) | refine Up.trans ?_ (Up.drewN _ _) | refine Up.trans ?_ (Up.alloc _ _) | refine Up.trans ?_ (Go.RowKit.Hid.out (by assumption)))))) ?_
  rintro e w3 ⟨rfl, hu3⟩
  have HU3 := Lib.hid hu3
  have HN1b := Lib.hid (HN1.out.up ((Up.alloc w2 (.cells #[.int .i64 1, .int .i64 3] 23)).trans hu3))
  have HN2 := Lib.hid ((CellN.new w2 1 3).up hu3)
  clear hu3
  obtain ⟨a0, a1, -, -, la⟩ := (HN1b.out.up (Up.alloc w3 (.cells #[.int .i64 0, .int .i64 0] 23))).facts
  obtain ⟨b0, b1, -, -, lb⟩ := (HN2.out.up (Up.alloc w3 (.cells #[.int .i64 0, .int .i64 0] 23))).facts
  go_wp2
  refine bodyPost_ret (by simp [results, Tryz.results11, go_sem]; try rfl) rfl ?_
  exact ⟨rfl, by (repeat (first | exact Below.refl _ _ | exact Go.RowKit.Hid.out (by assumption) | refine Up.trans ?_ (Up.drew _) | refine Up.trans ?_ (Up.drewN _ _) | refine Up.trans ?_ (Up.alloc _ _) | refine Up.trans ?_ (Go.RowKit.Hid.out (by assumption))))⟩
end Go.Proofs.YtgcmogldiahdpaaGreatDoor
namespace Go.Proofs.YtgcmogldiahdpaaGreatDoor
open Go.RowKit Fm

theorem numE_zero {ok : Bool} {q : Rat} (h : numE ok q = 0) : ok = true ∧ fits q = true := by
  unfold numE at h
  cases ok
  · simp at h
  · cases hf : fits q
    · rw [hf] at h; simp at h
    · exact ⟨rfl, rfl⟩
theorem ratOf_self (q : Rat) : ratOf q.num q.den = q := Rat.num_divInt_den q
theorem okNum_of_fits {q : Rat} (h : fits q = true) : okNum q.num q.den = true := by
  unfold fits within at h
  simp only [Bool.and_eq_true, decide_eq_true_eq] at h
  have hd := q.den_nz
  have hr := q.reduced
  unfold okNum
  simp only [decide_eq_true_eq]
  refine ⟨by omega, h.2.2, h.1.1, h.1.2, ?_⟩
  rw [Int.gcd, Int.natAbs_natCast]
  exact hr
/-- An answer without an error is the fraction, as a number. -/
theorem num_answer {ok : Bool} {q : Rat} (h : numE ok q = 0) : numX ok q = q.num ∧ numY ok q = q.den ∧ okNum (numX ok q) (numY ok q) = true ∧ ratOf (numX ok q) (numY ok q) = q := by
  obtain ⟨h1, h2⟩ := numE_zero h
  have e1 : numX ok q = q.num := by simp [numX, h1, h2]
  have e2 : numY ok q = q.den := by simp [numY, h1, h2]
  rw [e1, e2]
  exact ⟨rfl, rfl, okNum_of_fits h2, ratOf_self q⟩
end Go.Proofs.YtgcmogldiahdpaaGreatDoor
namespace Go.Proofs.YtgcmogldiahdpaaGreatDoor
open Go.RowKit Fm

/-- Both integers are ints. -/
def Rng (x y : Int) : Prop := -9223372036854775808 ≤ x ∧ x ≤ 9223372036854775807 ∧ -9223372036854775808 ≤ y ∧ y ≤ 9223372036854775807
/-- What an operation on numbers answers. -/
def Ans (X Y E : Int) (ok : Bool) (q : Rat) : Prop := X = numX ok q ∧ Y = numY ok q ∧ E = numE ok q
theorem Ans.same {X Y E X' Y' E' : Int} {ok ok' : Bool} {q q' : Rat} (h : Ans X Y E ok q) (h' : Ans X' Y' E' ok' q') (ho : ok = ok') (hq : q = q') : X = X' ∧ Y = Y' ∧ E = E' := by
  obtain ⟨rfl, rfl, rfl⟩ := h
  obtain ⟨rfl, rfl, rfl⟩ := h'
  subst ho hq
  exact ⟨rfl, rfl, rfl⟩
theorem Ans.zero {X Y E : Int} {ok : Bool} {q : Rat} (h : Ans X Y E ok q) (h0 : E = 0) : ok = true ∧ okNum X Y = true ∧ ratOf X Y = q ∧ X = q.num ∧ Y = q.den := by
  obtain ⟨rfl, rfl, rfl⟩ := h
  obtain ⟨h1, h2, h3, h4⟩ := num_answer h0
  exact ⟨(numE_zero h0).1, h3, h4, h1, h2⟩
theorem Ans.rng {X Y E : Int} {ok : Bool} {q : Rat} (h : Ans X Y E ok q) : Rng X Y := by
  obtain ⟨rfl, rfl, rfl⟩ := h
  unfold numX numY Rng
  split
  · rename_i hf
    simp only [Bool.and_eq_true] at hf
    have := hf.2
    unfold fits within at this
    simp only [Bool.and_eq_true, decide_eq_true_eq] at this
    omega
  · omega

theorem numAdd_ans (x1 y1 x2 y2 : Int) (w : World) (h1 : Rng x1 y1) (h2 : Rng x2 y2) (ht : Tab w) : ∃ X Y E, Ans X Y E (okNum x1 y1 && okNum x2 y2) (ratOf x1 y1 + ratOf x2 y2) ∧ Rng X Y ∧
    Hid (∀ W, Up w W → Calls Tryz.prog 54 #[.agg #[.int .i64 x1, .int .i64 y1], .agg #[.int .i64 x2, .int .i64 y2]] W fun e w' => e = .returned (.tuple #[.agg #[.int .i64 X, .int .i64 Y], .int .i64 E]) ∧ Up W w') := by
  have ha : Ans _ _ _ (okNum x1 y1 && okNum x2 y2) (ratOf x1 y1 + ratOf x2 y2) := ⟨rfl, rfl, rfl⟩
  exact ⟨_, _, _, ha, ha.rng, Lib.hid (fun W hu => numAdd_any x1 y1 x2 y2 W h1.1 h1.2.1 h1.2.2.1 h1.2.2.2 h2.1 h2.2.1 h2.2.2.1 h2.2.2.2 (ht.up hu))⟩
theorem eq_or {x : Int} {p : Prop} (h : x = 0 → p) : (x == 0) = false ∨ (x = 0 ∧ p) := by
  by_cases h0 : x = 0
  · exact .inr ⟨h0, h h0⟩
  · exact .inl (by simp [h0])
theorem ans_pair {X Y E X' Y' E' : Int} {ok ok' : Bool} {q q' : Rat} (h : Ans X Y E ok q) (h' : Ans X' Y' E' ok' q') (h0 : E = 0) (h0' : E' = 0) (hq : q = q') : X = X' ∧ Y = Y' := by
  obtain ⟨-, -, -, h3, h4⟩ := h.zero h0
  obtain ⟨-, -, -, h5, h6⟩ := h'.zero h0'
  rw [h3, h4, h5, h6, hq]
  exact ⟨rfl, rfl⟩
theorem ans_back {X Y E a1 a2 : Int} {ok : Bool} {q : Rat} (h : Ans X Y E ok q) (h0 : E = 0) (ha : okNum a1 a2 = true) (hq : q = ratOf a1 a2) : X = a1 ∧ Y = a2 := by
  obtain ⟨-, -, -, h3, h4⟩ := h.zero h0
  obtain ⟨h5, h6⟩ := ratOf_ok ha
  rw [h3, h4, hq, h5, h6]
  exact ⟨rfl, rfl⟩
theorem rat_mul_div {a b : Rat} (h : b ≠ 0) : a * b / b = a := by
  rw [Rat.div_def, Rat.mul_assoc, Rat.mul_inv_cancel _ h, Rat.mul_one]
theorem rat_add_sub (a b : Rat) : a + b - b = a := by
  rw [Rat.sub_eq_add_neg, Rat.add_assoc, Rat.add_neg_cancel, Rat.add_zero]
end Go.Proofs.YtgcmogldiahdpaaGreatDoor
namespace Go.Proofs.YtgcmogldiahdpaaGreatDoor
open Go.RowKit Fm

/-- The answer of the search by continued fractions between x1 / y1 and x2 / y2. -/
inductive Cfr : Int → Int → Int → Int → Int → Int → Prop
  | int (x1 y1 x2 y2 : Int) (h : -(-x1 / y1) ≤ x2 / y2) : Cfr x1 y1 x2 y2 (-(-x1 / y1)) 1
  | step (x1 y1 x2 y2 X Y : Int) (h : ¬ -(-x1 / y1) ≤ x2 / y2) (r : Cfr y2 (x2 - x1 / y1 * y2) y1 (x1 - x1 / y1 * y1) X Y) : Cfr x1 y1 x2 y2 (x1 / y1 * X + Y) X
/-- Two fractions that are greater than 0, in their order. -/
structure Prs (x1 y1 x2 y2 : Int) : Prop where
  p1 : 0 < x1
  q1 : 0 < y1
  p2 : 0 < x2
  q2 : 0 < y2
  le : x1 * y2 ≤ x2 * y1
theorem ceil_le {x y c : Int} (hy : 0 < y) : -(-x / y) ≤ c ↔ x ≤ c * y := by
  constructor
  · intro h
    have h1 : -c ≤ -x / y := by omega
    rw [Int.le_ediv_iff_mul_le hy] at h1
    rw [Int.neg_mul] at h1
    omega
  · intro h
    have h1 : -c ≤ -x / y := by
      rw [Int.le_ediv_iff_mul_le hy, Int.neg_mul]; omega
    omega
/-- Where no integer lies between, both have the same integer part, and rests that are greater than 0. -/
theorem Prs.step {x1 y1 x2 y2 : Int} (o : Prs x1 y1 x2 y2) (h : ¬ -(-x1 / y1) ≤ x2 / y2) :
    0 ≤ x1 / y1 ∧ 0 < x1 - x1 / y1 * y1 ∧ x1 - x1 / y1 * y1 < y1 ∧ 0 < x2 - x1 / y1 * y2 ∧ x2 - x1 / y1 * y2 < y2 ∧ Prs y2 (x2 - x1 / y1 * y2) y1 (x1 - x1 / y1 * y1) := by
  obtain ⟨p1, q1, p2, q2, le⟩ := o
  have hn0 : 0 ≤ x1 / y1 := Int.ediv_nonneg (by omega) (by omega)
  rw [ceil_le q1] at h
  have hf1 := Int.ediv_mul_le x2 (b := y2) (by omega)
  have hf2 := Int.lt_ediv_add_one_mul_self x2 q2
  have hn1 := Int.ediv_mul_le x1 (b := y1) (by omega)
  have hn2 := Int.lt_ediv_add_one_mul_self x1 q1
  generalize x2 / y2 = f at *
  generalize x1 / y1 = n at *
  rw [Int.add_mul, Int.one_mul] at hf2 hn2
  have hfn : f = n := by
    have h1 : f ≤ n := by
      have h2 : f * y1 < (n + 1) * y1 := by rw [Int.add_mul, Int.one_mul]; omega
      have := Int.lt_of_mul_lt_mul_right h2 (by omega)
      omega
    have h2 : n ≤ f := by
      have h3 : n * y1 * y2 ≤ x1 * y2 := Int.mul_le_mul_of_nonneg_right hn1 (by omega)
      have h4 : x2 * y1 < (f * y2 + y2) * y1 := Int.mul_lt_mul_of_pos_right hf2 q1
      have h5 : n * (y1 * y2) < (f + 1) * (y1 * y2) := by
        have e1 : n * (y1 * y2) = n * y1 * y2 := by grind
        have e2 : (f + 1) * (y1 * y2) = (f * y2 + y2) * y1 := by grind
        omega
      have := Int.lt_of_mul_lt_mul_right h5 (Int.mul_nonneg (by omega) (by omega))
      omega
    omega
  subst hfn
  have hx2 : 0 < x2 - f * y2 := by
    rcases Int.lt_or_le 0 (x2 - f * y2) with h3 | h3
    · exact h3
    · exfalso
      have e : x2 = f * y2 := by omega
      have h4 : x1 * y2 ≤ f * y2 * y1 := by rw [← e]; exact le
      have h5 : x1 * y2 ≤ (f * y1) * y2 := by have : f * y1 * y2 = f * y2 * y1 := by grind
                                              omega
      have := Int.le_of_mul_le_mul_right h5 q2
      omega
  refine ⟨hn0, by omega, by omega, hx2, by omega, ⟨q2, hx2, q1, by omega, ?_⟩⟩
  have e1 : y2 * (x1 - f * y1) = x1 * y2 - f * y1 * y2 := by grind
  have e2 : y1 * (x2 - f * y2) = x2 * y1 - f * y1 * y2 := by grind
  omega
theorem Cfr.exists_ {x1 y1 x2 y2 : Int} (o : Prs x1 y1 x2 y2) : ∃ X Y, Cfr x1 y1 x2 y2 X Y := by
  obtain ⟨k, hk⟩ : ∃ k : Nat, (y1 + y2).toNat ≤ k := ⟨_, Nat.le_refl _⟩
  induction k generalizing x1 y1 x2 y2 with
  | zero => have := o.q1; have := o.q2; omega
  | succ k ih =>
    by_cases h : -(-x1 / y1) ≤ x2 / y2
    · exact ⟨_, _, .int _ _ _ _ h⟩
    · obtain ⟨h0, h1, h2, h3, h4, ho⟩ := o.step h
      obtain ⟨X, Y, hr⟩ := ih ho (by omega)
      exact ⟨_, _, .step _ _ _ _ _ _ h hr⟩
/-- Both integers of the answer are the least of any fraction between. -/
theorem Cfr.least {x1 y1 x2 y2 X Y : Int} (s : Cfr x1 y1 x2 y2 X Y) (o : Prs x1 y1 x2 y2) :
    0 < X ∧ 0 < Y ∧ x1 * Y ≤ X * y1 ∧ X * y2 ≤ x2 * Y ∧ Int.gcd X Y = 1 ∧ ∀ p q, 0 < q → x1 * q ≤ p * y1 → p * y2 ≤ x2 * q → X ≤ p ∧ Y ≤ q := by
  induction s with
  | int x1 y1 x2 y2 h =>
    obtain ⟨p1, q1, p2, q2, le⟩ := o
    have hc := (ceil_le (x := x1) (c := -(-x1 / y1)) q1).1 (Int.le_refl _)
    have hf := (Int.le_ediv_iff_mul_le q2).1 h
    have hm : ∀ c, x1 ≤ c * y1 → -(-x1 / y1) ≤ c := fun c => (ceil_le q1).2
    generalize -(-x1 / y1) = c at *
    have hc0 : 0 < c := by
      rcases Int.lt_or_le 0 c with h1 | h1
      · exact h1
      · have : c * y1 ≤ 0 := Int.mul_nonpos_of_nonpos_of_nonneg h1 (by omega)
        omega
    refine ⟨hc0, by omega, by omega, by omega, Int.gcd_one_right .., fun p q hq h1 h2 => ⟨hm p ?_, by omega⟩⟩
    have : x1 * 1 ≤ x1 * q := Int.mul_le_mul_of_nonneg_left (by omega) (by omega)
    omega
  | step x1 y1 x2 y2 X Y h r ih =>
    obtain ⟨h0, h1, h2, h3, h4, ho⟩ := o.step h
    obtain ⟨iX, iY, i1, i2, ig, im⟩ := ih ho
    have q1 := o.q1
    have q2 := o.q2
    generalize x1 / y1 = n at *
    refine ⟨?_, iX, ?_, ?_, ?_, fun p q hq hp1 hp2 => ?_⟩
    · have := Int.mul_nonneg h0 (Int.le_of_lt iX)
      omega
    · have e1 : (n * X + Y) * y1 = n * y1 * X + y1 * Y := by grind
      have e2 : X * (x1 - n * y1) = x1 * X - n * y1 * X := by grind
      omega
    · have e1 : (n * X + Y) * y2 = n * y2 * X + y2 * Y := by grind
      have e2 : X * (x2 - n * y2) = x2 * X - n * y2 * X := by grind
      omega
    · rw [Int.gcd_mul_right_add_left, Int.gcd_comm]
      exact ig
    · have e3 : y1 * (p - n * q) = p * y1 - n * y1 * q := by grind
      have e4 : (x1 - n * y1) * q = x1 * q - n * y1 * q := by grind
      have e5 : (x2 - n * y2) * q = x2 * q - n * y2 * q := by grind
      have e6 : y2 * (p - n * q) = p * y2 - n * y2 * q := by grind
      have hpq : 0 < p - n * q := by
        have h7 : 0 < (x1 - n * y1) * q := Int.mul_pos h1 hq
        have h8 : 0 < y1 * (p - n * q) := by omega
        exact Int.pos_of_mul_pos_right h8 q1 
      obtain ⟨m1, m2⟩ := im q (p - n * q) hpq (by
        have : q * (x2 - n * y2) = (x2 - n * y2) * q := Int.mul_comm _ _
        omega) (by
        have : q * (x1 - n * y1) = (x1 - n * y1) * q := Int.mul_comm _ _
        omega)
      refine ⟨?_, m1⟩
      have := Int.mul_le_mul_of_nonneg_left m1 h0
      omega
end Go.Proofs.YtgcmogldiahdpaaGreatDoor
namespace Go.Proofs.YtgcmogldiahdpaaGreatDoor
open Go.RowKit Fm

theorem wrap_in {z : Int} (h1 : -9223372036854775808 ≤ z) (h2 : z ≤ 9223372036854775807) : wrap64 z = z := by unfold wrap64; omega

theorem numSimplest_any {x1 y1 x2 y2 X Y : Int} (s : Cfr x1 y1 x2 y2 X Y) (o : Prs x1 y1 x2 y2) (b1 : x1 ≤ 1152921504606846976) (b2 : y1 ≤ 1152921504606846976) (b3 : x2 ≤ 1152921504606846976) (b4 : y2 ≤ 1152921504606846976) (w : World) :
    Calls Tryz.prog 115 #[.agg #[.int .i64 x1, .int .i64 y1], .agg #[.int .i64 x2, .int .i64 y2]] w fun e w' => e = .returned (.agg #[.int .i64 X, .int .i64 Y]) ∧ Up w w' := by
  induction s generalizing w with
  | int x1 y1 x2 y2 h =>
    obtain ⟨p1, q1, p2, q2, le⟩ := o
    exact simplest_int x1 y1 x2 y2 w (by omega) b1 q1 (by omega) b3 q2 h
  | step x1 y1 x2 y2 X Y h r ih =>
    obtain ⟨h0, h1, h2, h3, h4, ho⟩ := o.step h
    obtain ⟨-, -, -, -, -, lm⟩ := (Cfr.step _ _ _ _ _ _ h r).least o
    obtain ⟨iX, iY, -⟩ := r.least ho
    obtain ⟨p1, q1, p2, q2, le⟩ := o
    obtain ⟨l1, l2⟩ := lm x1 y1 q1 (Int.le_refl _) le
    have hz := Int.mul_nonneg h0 (Int.le_of_lt iX)
    have hz1 := Int.mul_nonneg h0 (Int.le_of_lt q1)
    have hz2 := Int.mul_nonneg h0 (Int.le_of_lt q2)
    exact simplest_step x1 y1 x2 y2 (x1 / y1) X Y w (by omega) b1 q1 (by omega) b3 q2 h rfl (wrap_in (by omega) (by omega)) (wrap_in (by omega) (by omega)) (wrap_in (by omega) (by omega)) (wrap_in (by omega) (by omega)) (wrap_in (by omega) (by omega)) (wrap_in (by omega) (by omega))
      (fun W _ => ih ho b4 (by omega) b2 (by omega) W)

end Go.Proofs.YtgcmogldiahdpaaGreatDoor
