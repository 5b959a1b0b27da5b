/- Contracts of the reference implementation: its fractions. -/
import Derived.Test.YtgcmogldiahdpaaGreatDoorQGN
import Derived.Test.YtgcmogldiahdpaaGreatDoorQGH
namespace Go.Proofs.YtgcmogldiahdpaaGreatDoor
open Go.RowKit Fm

/-- The bounds that To, Valid and the like meet: the reference's integer of an int has few digits. -/
theorem rl_int {z : Int} (h1 : -9223372036854775808 ≤ z) (h2 : z ≤ 9223372036854775807) : rl z ≤ 3 := digs_length_le (B := 1073741824) (by omega) (by omega)

/-- What a number's two integers stand for is valid by the reference's words. -/
def refOk (x y : Int) : Bool := decide (1 ≤ y ∧ y ≤ 1152921504606846976 ∧ x ≤ 1152921504606846976 ∧ -1152921504606846976 ≤ x ∧ Int.gcd x y = 1)

set_option maxHeartbeats 2000000 in
set_option maxRecDepth 10000 in
theorem refValid_any (x y : Int) (w : World) (hx1 : -9223372036854775808 ≤ x) (hx2 : x ≤ 9223372036854775807) (hy1 : -9223372036854775808 ≤ y) (hy2 : y ≤ 9223372036854775807) :
    Calls Tryz.prog 58 #[.agg #[.int .i64 x, .int .i64 y]] w fun e w' => e = .returned (.bool (refOk x y)) ∧ Up w w' := by
  by_cases h1 : 1 ≤ y
  · by_cases h2 : y ≤ 1152921504606846976
    · by_cases h3 : x ≤ 1152921504606846976
      · by_cases h4 : -1152921504606846976 ≤ x
        · have hk : refOk x y = decide (Int.gcd x y = 1) := by unfold refOk; simp [h1, h2, h3, h4]
          rw [hk]
          have HO1 := Lib.hid (fun W => refOf_any x W hx1 hx2)
          have HO2 := Lib.hid (fun W => refOf_any y W hy1 hy2)
          have HO3 := Lib.hid (fun W => refOf_any 1 W (by omega) (by omega))
          have HG := Lib.hid (fun W u v (hu : RI W u x) (hv : RI W v y) => refGcd_any u v x y W hu hv (Nat.le_trans (rl_int hx1 hx2) (by omega)) (Nat.le_trans (rl_int hy1 hy2) (by omega)))
          have hgl : rl (Int.gcd x y : Int) ≤ 536870912 := by
            have h5 : (Int.gcd x y : Int) ≤ y := Int.le_of_dvd (by omega) (Int.gcd_dvd_right ..)
            exact Nat.le_trans (rl_int (z := (Int.gcd x y : Int)) (by omega) (by omega)) (by omega)
          have HC := Lib.hid (fun W u v (hu : RI W u (Int.gcd x y : Int)) (hv : RI W v 1) => refCompare_any u v _ 1 W hu hv hgl (Nat.le_trans (rl_int (z := 1) (by omega) (by omega)) (by omega)))
          obtain ⟨s, hs⟩ : ∃ s : Int, s = ((Int.gcd x y : Int) - 1).sign := ⟨_, rfl⟩
          rw [← hs] at HC
          have HS : Hid ((s == 0) = decide (Int.gcd x y = 1)) := by
            unfold Hid
            rw [hs]
            by_cases h5 : Int.gcd x y = 1
            · rw [h5]; rfl
            · rw [decide_eq_false h5]
              have : ((Int.gcd x y : Int) - 1).sign ≠ 0 := fun h => h5 (by have := Int.sign_eq_zero_iff_zero.1 h; omega)
              simp [this]
          clear hs hgl hk
          go_enter Tryz.func58, Tryz.ntmps58
          go_upto_region 3 with fail
          obtain ⟨wB, hwB⟩ : ∃ wB, wB = w.alloc (.cells #[.int .i64 x, .int .i64 y] 23) := ⟨_, rfl⟩
          have HN := Lib.hid (show CellN wB w.heap.size x y by rw [hwB]; exact CellN.new w x y)
          have HU := Lib.hid (show Up w wB by rw [hwB]; exact Up.alloc _ _)
          rw [← hwB]
          clear hwB
          obtain ⟨a0, a1, -, -, la⟩ := HN.out.facts
          go_region_held3 (fun w' => w'.cell? ⟨w.heap.size, 0, none⟩ = some (.int .i64 x) ∧ w'.cell? ⟨w.heap.size, 1, none⟩ = some (.int .i64 y)) (go_keep)
            ((first
              | (go_at_call_of 121 u1
                 refine Calls.mono (HG.out _ _ _ HV1b.out HV2.out) ?_
                 rintro e w3 ⟨u3, rfl, hv3, hu3⟩
                 have HU3 := Lib.hid hu3
                 have HV3 := Lib.hid hv3
                 clear hv3 hu3
                 obtain ⟨a0, a1, -, -, la⟩ := (HN.out.up (w' := w3) (by (repeat (first | exact Below.refl _ _ | exact Go.RowKit.Hid.out (by assumption) | refine Up.trans ?_ (Up.drew _) | refine Up.trans ?_ (Up.drewN _ _) | refine Up.trans ?_ (Up.alloc _ _) | refine Up.trans ?_ (Go.RowKit.Hid.out (by assumption)))))).facts)
              | (go_at_call_of 122 u3
                 refine Calls.mono (HC.out _ _ _ HV3b.out HV4.out) ?_
                 rintro e w5 ⟨rfl, hu5⟩
                 have HU5 := Lib.hid hu5
                 clear hu5
                 obtain ⟨a0, a1, -, -, la⟩ := (HN.out.up (w' := w5) (by (repeat (first | exact Below.refl _ _ | exact Go.RowKit.Hid.out (by assumption) | refine Up.trans ?_ (Up.drew _) | refine Up.trans ?_ (Up.drewN _ _) | refine Up.trans ?_ (Up.alloc _ _) | refine Up.trans ?_ (Go.RowKit.Hid.out (by assumption)))))).facts)
              | (go_at_call_of 107 (Value.int IntKind.i64 1)
                 refine Calls.mono (HO3.out _) ?_
                 rintro e w4 ⟨u4, rfl, hv4, hu4⟩
                 have HU4 := Lib.hid hu4
                 have HV4 := Lib.hid hv4
                 have HV3b := Lib.hid (HV3.out.up hu4)
                 clear hv4 hu4
                 obtain ⟨a0, a1, -, -, la⟩ := (HN.out.up (w' := w4) (by (repeat (first | exact Below.refl _ _ | exact Go.RowKit.Hid.out (by assumption) | refine Up.trans ?_ (Up.drew _) | refine Up.trans ?_ (Up.drewN _ _) | refine Up.trans ?_ (Up.alloc _ _) | refine Up.trans ?_ (Go.RowKit.Hid.out (by assumption)))))).facts)
              | (go_at_call_of 107 (Value.int IntKind.i64 x)
                 refine Calls.mono (HO1.out _) ?_
                 rintro e w1 ⟨u1, rfl, hv1, hu1⟩
                 have HU1 := Lib.hid hu1
                 have HV1 := Lib.hid hv1
                 clear hv1 hu1
                 obtain ⟨a0, a1, -, -, la⟩ := (HN.out.up (w' := w1) (by (repeat (first | exact Below.refl _ _ | exact Go.RowKit.Hid.out (by assumption) | refine Up.trans ?_ (Up.drew _) | refine Up.trans ?_ (Up.drewN _ _) | refine Up.trans ?_ (Up.alloc _ _) | refine Up.trans ?_ (Go.RowKit.Hid.out (by assumption)))))).facts)
              | (go_at_call_of 107 (Value.int IntKind.i64 y)
                 refine Calls.mono (HO2.out _) ?_
                 rintro e w2 ⟨u2, rfl, hv2, hu2⟩
                 have HU2 := Lib.hid hu2
                 have HV2 := Lib.hid hv2
                 have HV1b := Lib.hid (HV1.out.up hu2)
                 clear hv2 hu2
                 obtain ⟨a0, a1, -, -, la⟩ := (HN.out.up (w' := w2) (by (repeat (first | exact Below.refl _ _ | exact Go.RowKit.Hid.out (by assumption) | refine Up.trans ?_ (Up.drew _) | refine Up.trans ?_ (Up.drewN _ _) | refine Up.trans ?_ (Up.alloc _ _) | refine Up.trans ?_ (Go.RowKit.Hid.out (by assumption)))))).facts)))
          go_wp2
          go_ret
          exact ⟨by rw [← HS.out]; rfl, by (repeat (first | exact Below.refl _ _ | exact Go.RowKit.Hid.out (by assumption) | refine Up.trans ?_ (Up.drew _) | refine Up.trans ?_ (Up.drewN _ _) | refine Up.trans ?_ (Up.alloc _ _) | refine Up.trans ?_ (Go.RowKit.Hid.out (by assumption))))⟩
        · have hk : refOk x y = false := by unfold refOk; simp [h4]
          rw [hk]
          go_enter Tryz.func58, Tryz.ntmps58
          go_wp2
          go_ret
          exact ⟨rfl, by (repeat (first | exact Below.refl _ _ | exact Go.RowKit.Hid.out (by assumption) | refine Up.trans ?_ (Up.drew _) | refine Up.trans ?_ (Up.drewN _ _) | refine Up.trans ?_ (Up.alloc _ _) | refine Up.trans ?_ (Go.RowKit.Hid.out (by assumption))))⟩
      · have hk : refOk x y = false := by unfold refOk; simp [h3]
        rw [hk]
        go_enter Tryz.func58, Tryz.ntmps58
        go_wp2
        go_ret
        exact ⟨rfl, by (repeat (first | exact Below.refl _ _ | exact Go.RowKit.Hid.out (by assumption) | refine Up.trans ?_ (Up.drew _) | refine Up.trans ?_ (Up.drewN _ _) | refine Up.trans ?_ (Up.alloc _ _) | refine Up.trans ?_ (Go.RowKit.Hid.out (by assumption))))⟩
    · have hk : refOk x y = false := by unfold refOk; simp [h2]
      rw [hk]
      go_enter Tryz.func58, Tryz.ntmps58
      go_wp2
      go_ret
      exact ⟨rfl, by (repeat (first | exact Below.refl _ _ | exact Go.RowKit.Hid.out (by assumption) | refine Up.trans ?_ (Up.drew _) | refine Up.trans ?_ (Up.drewN _ _) | refine Up.trans ?_ (Up.alloc _ _) | refine Up.trans ?_ (Go.RowKit.Hid.out (by assumption))))⟩
  · have hk : refOk x y = false := by unfold refOk; simp [h1]
    rw [hk]
    go_enter Tryz.func58, Tryz.ntmps58
    go_wp2
    go_ret
    exact ⟨rfl, by (repeat (first | exact Below.refl _ _ | exact Go.RowKit.Hid.out (by assumption) | refine Up.trans ?_ (Up.drew _) | refine Up.trans ?_ (Up.drewN _ _) | refine Up.trans ?_ (Up.alloc _ _) | refine Up.trans ?_ (Go.RowKit.Hid.out (by assumption))))⟩
end Go.Proofs.YtgcmogldiahdpaaGreatDoor
namespace Go.Proofs.YtgcmogldiahdpaaGreatDoor
open Go.RowKit Fm

/-- A value of the reference's type of fractions whose integers are p and q. -/
def RR (w : World) (v : Value) (p q : Int) : Prop := ∃ (s s2 : Int) (b b2 : Bool) (A A2 : Option Addr) (n c n2 c2 : Nat),
  v = .agg #[.int .i64 s, .bool b, .slice A n c, .int .i64 s2, .bool b2, .slice A2 n2 c2] ∧ RI w (.agg #[.int .i64 s, .bool b, .slice A n c]) p ∧ RI w (.agg #[.int .i64 s2, .bool b2, .slice A2 n2 c2]) q
theorem RR.up {w w' : World} {v : Value} {p q : Int} (h : RR w v p q) (hu : Up w w') : RR w' v p q := by
  obtain ⟨s, s2, b, b2, A, A2, n, c, n2, c2, hv, h1, h2⟩ := h
  exact ⟨s, s2, b, b2, A, A2, n, c, n2, c2, hv, h1.up hu, h2.up hu⟩

/-- Block g is a variable of the reference's type of fractions. -/
def CellR (w : World) (g : Nat) (s : Int) (b : Bool) (v : Value) (s2 : Int) (b2 : Bool) (v2 : Value) : Prop :=
  w.heap[g]? = some (.cells #[.int .i64 s, .bool b, v, .int .i64 s2, .bool b2, v2] 63 (0, 0))
abbrev put6 (w : World) (g : Nat) (x y z x2 y2 z2 : Value) : World :=
  (((((w.setCell ⟨g, 0, none⟩ x).setCell ⟨g, 1, none⟩ y).setCell ⟨g, 2, none⟩ z).setCell ⟨g, 3, none⟩ x2).setCell ⟨g, 4, none⟩ y2).setCell ⟨g, 5, none⟩ z2
section
variable {w w' : World} {g : Nat} {s s2 : Int} {b b2 : Bool} {v v2 : Value}
theorem CellR.lt (h : CellR w g s b v s2 b2 v2) : g < w.heap.size := by
  rcases Nat.lt_or_ge g w.heap.size with h1 | h1
  · exact h1
  · unfold CellR at h; rw [Array.getElem?_eq_none h1] at h; cases h
theorem CellR.up (h : CellR w g s b v s2 b2 v2) (hu : Up w w') : CellR w' g s b v s2 b2 v2 := (hu.block g h.lt).trans h
theorem CellR.facts (h : CellR w g s b v s2 b2 v2) : w.cell? ⟨g, 0, none⟩ = some (.int .i64 s) ∧ w.cell? ⟨g, 1, none⟩ = some (.bool b) ∧ w.cell? ⟨g, 2, none⟩ = some v ∧
    w.cell? ⟨g, 3, none⟩ = some (.int .i64 s2) ∧ w.cell? ⟨g, 4, none⟩ = some (.bool b2) ∧ w.cell? ⟨g, 5, none⟩ = some v2 ∧ g < w.heap.size :=
  ⟨by rw [cell_of_row w g 0 _ _ _ h]; rfl, by rw [cell_of_row w g 1 _ _ _ h]; rfl, by rw [cell_of_row w g 2 _ _ _ h]; rfl, by rw [cell_of_row w g 3 _ _ _ h]; rfl, by rw [cell_of_row w g 4 _ _ _ h]; rfl, by rw [cell_of_row w g 5 _ _ _ h]; rfl, h.lt⟩
theorem CellR.frozen (h : CellR w g s b v s2 b2 v2) (i : Nat) : w.frozen? ⟨g, i, none⟩ = false := by unfold CellR at h; simp [World.frozen?, h]
theorem CellR.new (w : World) (s : Int) (b : Bool) (v : Value) (s2 : Int) (b2 : Bool) (v2 : Value) : CellR (w.alloc (.cells #[.int .i64 s, .bool b, v, .int .i64 s2, .bool b2, v2] 63)) w.heap.size s b v s2 b2 v2 := heap_alloc_new w _
theorem CellR.set (h : CellR w g s b v s2 b2 v2) (s' : Int) (b' : Bool) (v' : Value) (s2' : Int) (b2' : Bool) (v2' : Value) : CellR (put6 w g (.int .i64 s') (.bool b') v' (.int .i64 s2') (.bool b2') v2') g s' b' v' s2' b2' v2' := by
  unfold CellR at *
  simp [put6, World.setCell, Array.getElem?_modify, h]
end
theorem Up.put6 {w0 w : World} {g : Nat} (h : Up w0 w) (hg : w0.heap.size ≤ g) (x y z x2 y2 z2 : Value) : Up w0 (put6 w g x y z x2 y2 z2) :=
  up_setCell (up_setCell (up_setCell (up_setCell (up_setCell (up_setCell h hg 0 x) hg 1 y) hg 2 z) hg 3 x2) hg 4 y2) hg 5 z2

/-- The digits of a big integer have no two cells that are not numbers. -/
theorem RI.put6 {w : World} {u : Value} {z : Int} (h : RI w u z) {g : Nat} {s s2 : Int} {b b2 : Bool} {A A2 : Option Addr} {n c n2 c2 : Nat} (hg : CellR w g s b (.slice A n c) s2 b2 (.slice A2 n2 c2)) (x y t x2 y2 t2 : Value) : RI (put6 w g x y t x2 y2 t2) u z := by
  obtain ⟨s0, b0, A0, n0, c0, rfl, h⟩ := h
  refine ⟨s0, b0, A0, n0, c0, rfl, ?_⟩
  rcases h with h | ⟨h1, h2, h3, h4⟩
  · exact .inl h
  · refine .inr ⟨h1, h2, h3, ?_⟩
    obtain ⟨A', c', he, h5, h6, h7⟩ := h4
    refine ⟨A', c', he, h5, h6, fun hn => ?_⟩
    obtain ⟨b', off, hA, hb, hc⟩ := h7 hn
    have hne : b' ≠ g := by
      rintro rfl
      have hl : 1 < (digs 1073741824 z.natAbs).length := by
        rcases Nat.lt_or_ge 1 (digs 1073741824 z.natAbs).length with h9 | h9
        · exact h9
        · have h10 := val_lt (B := 1073741824) (by omega) (digs_ok (by omega) z.natAbs)
          rw [val_digs (by omega)] at h10
          have h11 : 1073741824 ^ (digs 1073741824 z.natAbs).length ≤ 1073741824 ^ 1 := Nat.pow_le_pow_right (by omega) h9
          omega
      have h8 := hc 0 (by omega)
      have h9 := hc 1 hl
      obtain ⟨q0, q1, q2, q3, q4, q5, -⟩ := hg.facts
      rcases off with _ | _ | _ | _ | _ | _ | k
      · have h10 := q1.symm.trans h9; cases h10
      · have h10 := q1.symm.trans h8; cases h10
      · have h10 := q2.symm.trans h8; cases h10
      · have h10 := q4.symm.trans h9; cases h10
      · have h10 := q4.symm.trans h8; cases h10
      · have h10 := q5.symm.trans h8; cases h10
      · rw [cell_of_row _ _ _ _ _ _ hg] at h8; simp at h8
    refine ⟨b', off, hA, by simpa [_root_.Go.Proofs.YtgcmogldiahdpaaGreatDoor.put6, World.setCell] using hb, fun i hi => ?_⟩
    rw [← hc i hi]
    exact World.cell?_of_block (by
      rw [Below.heap_setCell _ ⟨g, 5, none⟩ t2 b' hne, Below.heap_setCell _ ⟨g, 4, none⟩ y2 b' hne, Below.heap_setCell _ ⟨g, 3, none⟩ x2 b' hne, Below.heap_setCell _ ⟨g, 2, none⟩ t b' hne, Below.heap_setCell _ ⟨g, 1, none⟩ y b' hne, Below.heap_setCell _ ⟨g, 0, none⟩ x b' hne])

set_option maxHeartbeats 2000000 in
set_option maxRecDepth 10000 in
theorem refTo_any (x y : Int) (w : World) (hx1 : -9223372036854775808 ≤ x) (hx2 : x ≤ 9223372036854775807) (hy1 : -9223372036854775808 ≤ y) (hy2 : y ≤ 9223372036854775807) :
    Calls Tryz.prog 42 #[.agg #[.int .i64 x, .int .i64 y]] w fun e w' => ∃ v, e = .returned v ∧ RR w' v x y ∧ Up w w' := by
  have HO1 := Lib.hid (fun W => refOf_any x W hx1 hx2)
  have HO2 := Lib.hid (fun W => refOf_any y W hy1 hy2)
  clear hx1 hx2 hy1 hy2
  go_enter Tryz.func42, Tryz.ntmps42
  go_upto_region 1 with fail
  obtain ⟨wB, hwB⟩ : ∃ wB, wB = (w.alloc (.cells #[.int .i64 x, .int .i64 y] 23)).alloc (.cells #[.int .i64 0, .bool false, .slice none 0 0, .int .i64 0, .bool false, .slice none 0 0] 63) := ⟨_, rfl⟩
  have HN := Lib.hid (show CellN wB w.heap.size x y by rw [hwB]; exact (CellN.new w x y).up (Up.alloc _ _))
  have HR := Lib.hid (show CellR wB (w.heap.size + 1) 0 false (.slice none 0 0) 0 false (.slice none 0 0) by
    rw [hwB]
    have := CellR.new (w.alloc (.cells #[.int .i64 x, .int .i64 y] 23)) 0 false (.slice none 0 0) 0 false (.slice none 0 0)
    simpa using this)
  have HU := Lib.hid (show Up w wB by rw [hwB]; exact (Up.alloc _ _).trans (Up.alloc _ _))
  rw [← hwB]
  clear hwB
  obtain ⟨a0, a1, -, -, la⟩ := HN.out.facts
  go_region_held3 (fun w' => w'.cell? ⟨w.heap.size, 0, none⟩ = some (.int .i64 x) ∧ w'.cell? ⟨w.heap.size, 1, none⟩ = some (.int .i64 y)) (go_keep)
    ((first
      | (go_at_call_of 107 (Value.int IntKind.i64 x)
         refine Calls.mono (HO1.out _) ?_
         rintro e w1 ⟨u1, rfl, hv1, hu1⟩
         have HU1 := Lib.hid hu1
         have HV1 := Lib.hid hv1
         obtain ⟨s1, g1, A1, n1, c1, rfl, -⟩ := hv1
         clear hu1
         obtain ⟨a0, a1, -, -, la⟩ := (HN.out.up (w' := w1) (by (repeat (first | exact Below.refl _ _ | exact Go.RowKit.Hid.out (by assumption) | refine Up.trans ?_ (Up.drew _) | refine Up.trans ?_ (Up.drewN _ _) | refine Up.trans ?_ (Up.alloc _ _) | refine Up.trans ?_ (Go.RowKit.Hid.out (by assumption)))))).facts)
      | (go_at_call_of 107 (Value.int IntKind.i64 y)
         refine Calls.mono (HO2.out _) ?_
         rintro e w2 ⟨u2, rfl, hv2, hu2⟩
         have HU2 := Lib.hid hu2
         have HV2 := Lib.hid hv2
         have HV1b := Lib.hid (HV1.out.up hu2)
         obtain ⟨s2, g2, A2, n2, c2, rfl, -⟩ := hv2
         clear hu2
         have HX := Lib.hid (HR.out.up (w' := w2) (by (repeat (first | exact Below.refl _ _ | exact Go.RowKit.Hid.out (by assumption) | refine Up.trans ?_ (Up.drew _) | refine Up.trans ?_ (Up.drewN _ _) | refine Up.trans ?_ (Up.alloc _ _) | refine Up.trans ?_ (Go.RowKit.Hid.out (by assumption))))))
         obtain ⟨r0, r1, r2, r3, r4, r5, lr⟩ := HX.out.facts
         have f0 := HX.out.frozen 0
         have f1 := HX.out.frozen 1
         have f2 := HX.out.frozen 2
         have f3 := HX.out.frozen 3
         have f4 := HX.out.frozen 4
         have f5 := HX.out.frozen 5
         obtain ⟨a0, a1, -, -, la⟩ := (HN.out.up (w' := w2) (by (repeat (first | exact Below.refl _ _ | exact Go.RowKit.Hid.out (by assumption) | refine Up.trans ?_ (Up.drew _) | refine Up.trans ?_ (Up.drewN _ _) | refine Up.trans ?_ (Up.alloc _ _) | refine Up.trans ?_ (Go.RowKit.Hid.out (by assumption)))))).facts)))
  have HF := Lib.hid (HX.out.set s1 g1 (.slice A1 n1 c1) s2 g2 (.slice A2 n2 c2))
  have HP := Lib.hid (HV1b.out.put6 HX.out (.int .i64 s1) (.bool g1) (.slice A1 n1 c1) (.int .i64 s2) (.bool g2) (.slice A2 n2 c2))
  have HQ := Lib.hid (HV2.out.put6 HX.out (.int .i64 s1) (.bool g1) (.slice A1 n1 c1) (.int .i64 s2) (.bool g2) (.slice A2 n2 c2))
  have HUF := Lib.hid ((show Up w w2 by (repeat (first | exact Below.refl _ _ | exact Go.RowKit.Hid.out (by assumption) | refine Up.trans ?_ (Up.drew _) | refine Up.trans ?_ (Up.drewN _ _) | refine Up.trans ?_ (Up.alloc _ _) | refine Up.trans ?_ (Go.RowKit.Hid.out (by assumption))))).put6 (show w.heap.size ≤ w.heap.size + 1 by omega) (.int .i64 s1) (.bool g1) (.slice A1 n1 c1) (.int .i64 s2) (.bool g2) (.slice A2 n2 c2))
  go_wp2
  obtain ⟨z0, z1, z2, z3, z4, z5, -⟩ := HF.out.facts
  refine bodyPost_ret (by simp [results, Tryz.results42, go_sem, z0, z1, z2, z3, z4, z5]; try rfl) rfl ?_
  exact ⟨_, rfl, ⟨s1, s2, g1, g2, A1, A2, n1, c1, n2, c2, rfl, HP.out, HQ.out⟩, HUF.out⟩
end Go.Proofs.YtgcmogldiahdpaaGreatDoor
namespace Go.Proofs.YtgcmogldiahdpaaGreatDoor
open Go.RowKit Fm

/-- Whether an integer is within the limits. -/
def smallOk (z : Int) : Bool := decide (-1152921504606846976 ≤ z ∧ z ≤ 1152921504606846976)
theorem refSmall_any' (v : Value) (z : Int) (w : World) (h : RI w v z) :
    Calls Tryz.prog 91 #[v] w fun e w' => e = .returned (.tuple #[.int .i64 (if smallOk z then z else 0), .bool (smallOk z)]) ∧ Up w w' := by
  refine Calls.mono (refSmall_any v z w h) ?_
  rintro e w1 ⟨rfl, hu⟩
  exact ⟨by simp [smallOk], hu⟩

end Go.Proofs.YtgcmogldiahdpaaGreatDoor
namespace Go.Proofs.YtgcmogldiahdpaaGreatDoor
open Go.RowKit Fm

end Go.Proofs.YtgcmogldiahdpaaGreatDoor
namespace Go.Proofs.YtgcmogldiahdpaaGreatDoor
open Go.RowKit Fm

end Go.Proofs.YtgcmogldiahdpaaGreatDoor
