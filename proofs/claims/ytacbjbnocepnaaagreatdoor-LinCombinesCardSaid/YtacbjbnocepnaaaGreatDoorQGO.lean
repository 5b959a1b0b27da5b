/- Contracts of the reference implementation: its fractions. -/
import Derived.Test.YtacbjbnocepnaaaGreatDoorQGN
import Derived.Test.YtacbjbnocepnaaaGreatDoorQGH
namespace Go.Proofs.YtacbjbnocepnaaaGreatDoor
open Go.RowKit Fm
theorem rl_int {z : Int} (h1 : -9223372036854775808 ≤ z) (h2 : z ≤ 9223372036854775807) : rl z ≤ 3 := digs_length_le (B := 1073741824) (by omega) (by omega)
end Go.Proofs.YtacbjbnocepnaaaGreatDoor
namespace Go.Proofs.YtacbjbnocepnaaaGreatDoor
open Go.RowKit Fm
def RR (w : World) (v : Value) (p q : Int) : Prop := ∃ (s s2 : Int) (b b2 : Bool) (A A2 : Option Addr) (n c n2 c2 : Nat),
  v = .agg #[.int .i64 s, .bool b, .slice A n c, .int .i64 s2, .bool b2, .slice A2 n2 c2] ∧ RI w (.agg #[.int .i64 s, .bool b, .slice A n c]) p ∧ RI w (.agg #[.int .i64 s2, .bool b2, .slice A2 n2 c2]) q
theorem RR.up {w w' : World} {v : Value} {p q : Int} (h : RR w v p q) (hu : Up w w') : RR w' v p q := by
  obtain ⟨s, s2, b, b2, A, A2, n, c, n2, c2, hv, h1, h2⟩ := h
  exact ⟨s, s2, b, b2, A, A2, n, c, n2, c2, hv, h1.up hu, h2.up hu⟩
def CellR (w : World) (g : Nat) (s : Int) (b : Bool) (v : Value) (s2 : Int) (b2 : Bool) (v2 : Value) : Prop :=
  w.heap[g]? = some (.cells #[.int .i64 s, .bool b, v, .int .i64 s2, .bool b2, v2] 50 (0, 0))
abbrev put6 (w : World) (g : Nat) (x y z x2 y2 z2 : Value) : World :=
  (((((w.setCell ⟨g, 0, none⟩ x).setCell ⟨g, 1, none⟩ y).setCell ⟨g, 2, none⟩ z).setCell ⟨g, 3, none⟩ x2).setCell ⟨g, 4, none⟩ y2).setCell ⟨g, 5, none⟩ z2
section
variable {w w' : World} {g : Nat} {s s2 : Int} {b b2 : Bool} {v v2 : Value}
theorem CellR.lt (h : CellR w g s b v s2 b2 v2) : g < w.heap.size := by
  rcases Nat.lt_or_ge g w.heap.size with h1 | h1
  · exact h1
  · unfold CellR at h; rw [Array.getElem?_eq_none h1] at h; cases h
theorem CellR.up (h : CellR w g s b v s2 b2 v2) (hu : Up w w') : CellR w' g s b v s2 b2 v2 := (hu.block g h.lt).trans h
theorem CellR.facts (h : CellR w g s b v s2 b2 v2) : w.cell? ⟨g, 0, none⟩ = some (.int .i64 s) ∧ w.cell? ⟨g, 1, none⟩ = some (.bool b) ∧ w.cell? ⟨g, 2, none⟩ = some v ∧
    w.cell? ⟨g, 3, none⟩ = some (.int .i64 s2) ∧ w.cell? ⟨g, 4, none⟩ = some (.bool b2) ∧ w.cell? ⟨g, 5, none⟩ = some v2 ∧ g < w.heap.size :=
  ⟨by rw [cell_of_row w g 0 _ _ _ h]; rfl, by rw [cell_of_row w g 1 _ _ _ h]; rfl, by rw [cell_of_row w g 2 _ _ _ h]; rfl, by rw [cell_of_row w g 3 _ _ _ h]; rfl, by rw [cell_of_row w g 4 _ _ _ h]; rfl, by rw [cell_of_row w g 5 _ _ _ h]; rfl, h.lt⟩
theorem CellR.frozen (h : CellR w g s b v s2 b2 v2) (i : Nat) : w.frozen? ⟨g, i, none⟩ = false := by unfold CellR at h; simp [World.frozen?, h]
theorem CellR.new (w : World) (s : Int) (b : Bool) (v : Value) (s2 : Int) (b2 : Bool) (v2 : Value) : CellR (w.alloc (.cells #[.int .i64 s, .bool b, v, .int .i64 s2, .bool b2, v2] 50)) w.heap.size s b v s2 b2 v2 := heap_alloc_new w _
theorem CellR.set (h : CellR w g s b v s2 b2 v2) (s' : Int) (b' : Bool) (v' : Value) (s2' : Int) (b2' : Bool) (v2' : Value) : CellR (put6 w g (.int .i64 s') (.bool b') v' (.int .i64 s2') (.bool b2') v2') g s' b' v' s2' b2' v2' := by
  unfold CellR at *
  simp [put6, World.setCell, Array.getElem?_modify, h]
end
theorem Up.put6 {w0 w : World} {g : Nat} (h : Up w0 w) (hg : w0.heap.size ≤ g) (x y z x2 y2 z2 : Value) : Up w0 (put6 w g x y z x2 y2 z2) :=
  up_setCell (up_setCell (up_setCell (up_setCell (up_setCell (up_setCell h hg 0 x) hg 1 y) hg 2 z) hg 3 x2) hg 4 y2) hg 5 z2
theorem RI.put6 {w : World} {u : Value} {z : Int} (h : RI w u z) {g : Nat} {s s2 : Int} {b b2 : Bool} {A A2 : Option Addr} {n c n2 c2 : Nat} (hg : CellR w g s b (.slice A n c) s2 b2 (.slice A2 n2 c2)) (x y t x2 y2 t2 : Value) : RI (put6 w g x y t x2 y2 t2) u z := by
  obtain ⟨s0, b0, A0, n0, c0, rfl, h⟩ := h
  refine ⟨s0, b0, A0, n0, c0, rfl, ?_⟩
  rcases h with h | ⟨h1, h2, h3, h4⟩
  · exact .inl h
  · refine .inr ⟨h1, h2, h3, ?_⟩
    obtain ⟨A', c', he, h5, h6, h7⟩ := h4
    refine ⟨A', c', he, h5, h6, fun hn => ?_⟩
    obtain ⟨b', off, hA, hb, hc⟩ := h7 hn
    have hne : b' ≠ g := by
      rintro rfl
      have hl : 1 < (digs 1073741824 z.natAbs).length := by
        rcases Nat.lt_or_ge 1 (digs 1073741824 z.natAbs).length with h9 | h9
        · exact h9
        · have h10 := val_lt (B := 1073741824) (by omega) (digs_ok (by omega) z.natAbs)
          rw [val_digs (by omega)] at h10
          have h11 : 1073741824 ^ (digs 1073741824 z.natAbs).length ≤ 1073741824 ^ 1 := Nat.pow_le_pow_right (by omega) h9
          omega
      have h8 := hc 0 (by omega)
      have h9 := hc 1 hl
      obtain ⟨q0, q1, q2, q3, q4, q5, -⟩ := hg.facts
      rcases off with _ | _ | _ | _ | _ | _ | k
      · have h10 := q1.symm.trans h9; cases h10
      · have h10 := q1.symm.trans h8; cases h10
      · have h10 := q2.symm.trans h8; cases h10
      · have h10 := q4.symm.trans h9; cases h10
      · have h10 := q4.symm.trans h8; cases h10
      · have h10 := q5.symm.trans h8; cases h10
      · rw [cell_of_row _ _ _ _ _ _ hg] at h8; simp at h8
    refine ⟨b', off, hA, by simpa [_root_.Go.Proofs.YtacbjbnocepnaaaGreatDoor.put6, World.setCell] using hb, fun i hi => ?_⟩
    rw [← hc i hi]
    exact World.cell?_of_block (by
      rw [Below.heap_setCell _ ⟨g, 5, none⟩ t2 b' hne, Below.heap_setCell _ ⟨g, 4, none⟩ y2 b' hne, Below.heap_setCell _ ⟨g, 3, none⟩ x2 b' hne, Below.heap_setCell _ ⟨g, 2, none⟩ t b' hne, Below.heap_setCell _ ⟨g, 1, none⟩ y b' hne, Below.heap_setCell _ ⟨g, 0, none⟩ x b' hne])
end Go.Proofs.YtacbjbnocepnaaaGreatDoor
namespace Go.Proofs.YtacbjbnocepnaaaGreatDoor
open Go.RowKit Fm
def smallOk (z : Int) : Bool := decide (-1152921504606846976 ≤ z ∧ z ≤ 1152921504606846976)
theorem refSmall_any' (v : Value) (z : Int) (w : World) (h : RI w v z) :
    Calls Tryz.prog 50 #[v] w fun e w' => e = .returned (.tuple #[.int .i64 (if smallOk z then z else 0), .bool (smallOk z)]) ∧ Up w w' := by
  refine Calls.mono (refSmall_any v z w h) ?_
  rintro e w1 ⟨rfl, hu⟩
  exact ⟨by simp [smallOk], hu⟩
set_option maxHeartbeats 2000000 in
set_option maxRecDepth 10000 in
theorem refFrom_any (v : Value) (p q : Int) (w : World) (h : RR w v p q) :
    Calls Tryz.prog 103 #[v] w fun e w' => e = .returned (.tuple #[.agg #[.int .i64 (if smallOk p && smallOk q then p else 0), .int .i64 (if smallOk p && smallOk q then q else 0)], .bool (smallOk p && smallOk q)]) ∧ Up w w' := by
  obtain ⟨s, s2, g, g2, A, A2, n, c, n2, c2, rfl, hp1, hp2⟩ := h
  have HW1 := Lib.hid (fun W (hu : Up w W) => refSmall_any' _ p W (hp1.up hu))
  have HW2 := Lib.hid (fun W (hu : Up w W) => refSmall_any' _ q W (hp2.up hu))
  clear hp1 hp2
  generalize smallOk p = b1 at *
  generalize smallOk q = b2 at *
  cases b1 <;> cases b2 <;>
  · simp only [if_true, if_false, Bool.false_eq_true, Bool.and_true, Bool.and_false] at HW1 HW2 ⊢
    go_enter Tryz.func103, Tryz.ntmps103
    go_wp2_with fail
    obtain ⟨wB, hwB⟩ : ∃ wB, wB = (w.alloc (.cells #[.int .i64 s, .bool g, .slice A n c, .int .i64 s2, .bool g2, .slice A2 n2 c2] 50)).alloc (.cells #[.int .i64 0, .int .i64 0] 55) := ⟨_, rfl⟩
    have HA := Lib.hid (show CellR wB w.heap.size s g (.slice A n c) s2 g2 (.slice A2 n2 c2) by rw [hwB]; exact (CellR.new w _ _ _ _ _ _).up (Up.alloc _ _))
    have HR := Lib.hid (show CellN wB (w.heap.size + 1) 0 0 by rw [hwB]; have := CellN.new (w.alloc (.cells #[.int .i64 s, .bool g, .slice A n c, .int .i64 s2, .bool g2, .slice A2 n2 c2] 50)) 0 0; simpa using this)
    have HU := Lib.hid (show Up w wB by rw [hwB]; exact (Up.alloc _ _).trans (Up.alloc _ _))
    rw [← hwB]
    clear hwB
    refine Calls.mono (HW1.out _ (by (repeat (first | exact Below.refl _ _ | exact Hid.out (by assumption) | refine Up.trans ?_ (Up.drew _) | refine Up.trans ?_ (Up.drewN _ _) | refine Up.trans ?_ (Up.alloc _ _) | refine Up.trans ?_ (Hid.out (by assumption)))))) ?_
    rintro e w1 ⟨rfl, hu1⟩
    have HU1 := Lib.hid hu1
    clear hu1
    obtain ⟨a0, a1, a2, a3, a4, a5, la⟩ := (HA.out.up (w' := w1) (by (repeat (first | exact Below.refl _ _ | exact Hid.out (by assumption) | refine Up.trans ?_ (Up.drew _) | refine Up.trans ?_ (Up.drewN _ _) | refine Up.trans ?_ (Up.alloc _ _) | refine Up.trans ?_ (Hid.out (by assumption)))))).facts
    go_wp2_with fail
    refine Calls.mono (HW2.out _ (by (repeat (first | exact Below.refl _ _ | exact Hid.out (by assumption) | refine Up.trans ?_ (Up.drew _) | refine Up.trans ?_ (Up.drewN _ _) | refine Up.trans ?_ (Up.alloc _ _) | refine Up.trans ?_ (Hid.out (by assumption)))))) ?_
    rintro e w2 ⟨rfl, hu2⟩
    have HU2 := Lib.hid hu2
    clear hu2
    obtain ⟨r0, r1, g0, g1, lr⟩ := (HR.out.up (w' := w2) (by (repeat (first | exact Below.refl _ _ | exact Hid.out (by assumption) | refine Up.trans ?_ (Up.drew _) | refine Up.trans ?_ (Up.drewN _ _) | refine Up.trans ?_ (Up.alloc _ _) | refine Up.trans ?_ (Hid.out (by assumption)))))).facts
    have HR2 := Lib.hid (HR.out.up (w' := w2) (by (repeat (first | exact Below.refl _ _ | exact Hid.out (by assumption) | refine Up.trans ?_ (Up.drew _) | refine Up.trans ?_ (Up.drewN _ _) | refine Up.trans ?_ (Up.alloc _ _) | refine Up.trans ?_ (Hid.out (by assumption))))))
    have HF1 := Lib.hid ((HR2.out.set 0 0).facts)
    have HF2 := Lib.hid ((HR2.out.set p q).facts)
    have HUF1 := Lib.hid ((show Up w w2 by (repeat (first | exact Below.refl _ _ | exact Hid.out (by assumption) | refine Up.trans ?_ (Up.drew _) | refine Up.trans ?_ (Up.drewN _ _) | refine Up.trans ?_ (Up.alloc _ _) | refine Up.trans ?_ (Hid.out (by assumption))))).stored (show w.heap.size ≤ w.heap.size + 1 by omega) (.int .i64 0) (.int .i64 0))
    have HUF2 := Lib.hid ((show Up w w2 by (repeat (first | exact Below.refl _ _ | exact Hid.out (by assumption) | refine Up.trans ?_ (Up.drew _) | refine Up.trans ?_ (Up.drewN _ _) | refine Up.trans ?_ (Up.alloc _ _) | refine Up.trans ?_ (Hid.out (by assumption))))).stored (show w.heap.size ≤ w.heap.size + 1 by omega) (.int .i64 p) (.int .i64 q))
    go_wp2
    obtain ⟨z0, z1, -, -, -⟩ := HF1.out
    obtain ⟨y0, y1, -, -, -⟩ := HF2.out
    refine bodyPost_ret (by simp [results, Tryz.results103, go_sem, z0, z1, y0, y1]; try rfl) rfl ?_
    exact ⟨rfl, by first | exact HUF1.out | exact HUF2.out⟩
end Go.Proofs.YtacbjbnocepnaaaGreatDoor
namespace Go.Proofs.YtacbjbnocepnaaaGreatDoor
open Go.RowKit Fm
end Go.Proofs.YtacbjbnocepnaaaGreatDoor
namespace Go.Proofs.YtacbjbnocepnaaaGreatDoor
open Go.RowKit Fm
end Go.Proofs.YtacbjbnocepnaaaGreatDoor
