import Derived.Test.YtahmjnjammcifaaDoorFrac5
namespace Go.Proofs.YtahmjnjammcifaaDoor
open Go.RowKit Fm

/-- A boxed number. -/
def CellN (w : World) (g : Nat) (x y : Int) : Prop := w.heap[g]? = some (.cells #[.int .i64 x, .int .i64 y] 23 (0, 0))
theorem CellN.lt {w : World} {g : Nat} {x y : Int} (h : CellN w g x y) : g < w.heap.size := by
  rcases Nat.lt_or_ge g w.heap.size with h1 | h1
  · exact h1
  · unfold CellN at h; rw [Array.getElem?_eq_none h1] at h; cases h
theorem CellN.up {w w' : World} {g : Nat} {x y : Int} (h : CellN w g x y) (hu : Up w w') : CellN w' g x y := (hu.block g h.lt).trans h
theorem CellN.facts {w : World} {g : Nat} {x y : Int} (h : CellN w g x y) : w.cell? ⟨g, 0, none⟩ = some (.int .i64 x) ∧ w.cell? ⟨g, 1, none⟩ = some (.int .i64 y) ∧ w.frozen? ⟨g, 0, none⟩ = false ∧ w.frozen? ⟨g, 1, none⟩ = false ∧ g < w.heap.size :=
  ⟨by rw [cell_of_row w g 0 _ _ _ h]; rfl, by rw [cell_of_row w g 1 _ _ _ h]; rfl, by unfold CellN at h; simp [World.frozen?, h], by unfold CellN at h; simp [World.frozen?, h], h.lt⟩
theorem CellN.new (w : World) (x y : Int) : CellN (w.alloc (.cells #[.int .i64 x, .int .i64 y] 23)) w.heap.size x y := heap_alloc_new w _
theorem CellN.set {w : World} {g : Nat} {x y : Int} (h : CellN w g x y) (x' y' : Int) : CellN ((w.setCell ⟨g, 0, none⟩ (.int .i64 x')).setCell ⟨g, 1, none⟩ (.int .i64 y')) g x' y' := by
  unfold CellN at *
  simp [World.setCell, Array.getElem?_modify, h]

set_option maxHeartbeats 2000000 in
set_option maxRecDepth 10000 in
theorem fracOf_any (x y : Int) (q : Rat) (w : World) (hx : q.num = x) (hy : (q.den : Int) = y) (x1 : -9223372036854775808 ≤ x) (x2 : x ≤ 9223372036854775807) (y1 : -9223372036854775808 ≤ y) (y2 : y ≤ 9223372036854775807) :
    Calls Tryd.prog 40 #[.agg #[.int .i64 x, .int .i64 y]] w fun e w' => ∃ v, e = .returned v ∧ FV w' v q ∧ Up w w' := by
  have HO1 := Lib.hid (fun W => of_any x W x1 x2)
  have HO2 := Lib.hid (fun W => of_any y W y1 y2)
  rw [← hx] at HO1
  rw [← hy] at HO2
  have HX := Lib.hid hx
  have HY := Lib.hid hy
  rw [hx] at HO1
  rw [hy] at HO2
  clear hx hy x1 x2 y1 y2
  go_enter Tryd.func40, Tryd.ntmps40
  go_wp2_with fail
  obtain ⟨wB, hwB⟩ : ∃ wB, wB = (w.alloc (.cells #[.int .i64 x, .int .i64 y] 23)).alloc (.cells #[.int .i64 0, .slice none 0 0, .int .i64 0, .slice none 0 0] 51) := ⟨_, rfl⟩
  have HN := Lib.hid (show CellN wB w.heap.size x y by rw [hwB]; exact (CellN.new w x y).up (Up.alloc _ _))
  have HRS := Lib.hid (show Res4 wB (w.heap.size + 1) by rw [hwB]; have := Res4.new (w.alloc (.cells #[.int .i64 x, .int .i64 y] 23)); simpa using this)
  have HU := Lib.hid (show Up w wB by rw [hwB]; exact (Up.alloc _ _).trans (Up.alloc _ _))
  rw [← hwB]
  clear hwB
  obtain ⟨a0, a1, -, -, la⟩ := HN.out.facts
  have hne1 : (w.heap.size = w.heap.size + 1) = False := by simp
  have hne2 : (w.heap.size + 1 = w.heap.size) = False := by simp
  go_region_held3 (fun w' => w'.cell? ⟨w.heap.size, 0, none⟩ = some (.int .i64 x) ∧ w'.cell? ⟨w.heap.size, 1, none⟩ = some (.int .i64 y)) (go_keep)
    ((first
      | (go_at_call_of 29 (Value.int IntKind.i64 x)
         refine Calls.mono (HO1.out _) ?_
         rintro e w5 ⟨v5, rfl, hv5, hu5⟩
         have HU5 := Lib.hid hu5
         obtain ⟨a0, a1, -, -, la⟩ := (HN.out.up (w' := w5) (by (repeat (first | exact Below.refl _ _ | exact Go.RowKit.Hid.out (by assumption) | refine Up.trans ?_ (Up.drew _) | refine Up.trans ?_ (Up.drewN _ _) | refine Up.trans ?_ (Up.alloc _ _) | refine Up.trans ?_ (Go.RowKit.Hid.out (by assumption)))))).facts
         obtain ⟨s5, A5, n5, c5, rfl, -, -, -, -, -⟩ := hv5.open_
         have HV5 := Lib.hid hv5
         clear hv5 hu5)
      | (go_at_call_of 29 (Value.int IntKind.i64 y)
         refine Calls.mono (HO2.out _) ?_
         rintro e w7 ⟨v7, rfl, hv7, hu7⟩
         have HU7 := Lib.hid hu7
         obtain ⟨a0, a1, -, -, la⟩ := (HN.out.up (w' := w7) (by (repeat (first | exact Below.refl _ _ | exact Go.RowKit.Hid.out (by assumption) | refine Up.trans ?_ (Up.drew _) | refine Up.trans ?_ (Up.drewN _ _) | refine Up.trans ?_ (Up.alloc _ _) | refine Up.trans ?_ (Go.RowKit.Hid.out (by assumption)))))).facts
         obtain ⟨r0, r1, r2, r3, f0, f1, f2, f3⟩ := (HRS.out.up (w' := w7) (by (repeat (first | exact Below.refl _ _ | exact Go.RowKit.Hid.out (by assumption) | refine Up.trans ?_ (Up.drew _) | refine Up.trans ?_ (Up.drewN _ _) | refine Up.trans ?_ (Up.alloc _ _) | refine Up.trans ?_ (Go.RowKit.Hid.out (by assumption)))))).facts
         have HRS7 := Lib.hid (HRS.out.up (w' := w7) (by (repeat (first | exact Below.refl _ _ | exact Go.RowKit.Hid.out (by assumption) | refine Up.trans ?_ (Up.drew _) | refine Up.trans ?_ (Up.drewN _ _) | refine Up.trans ?_ (Up.alloc _ _) | refine Up.trans ?_ (Go.RowKit.Hid.out (by assumption))))))
         obtain ⟨s7, A7, n7, c7, rfl, -, -, -, -, -⟩ := hv7.open_
         have HV7 := Lib.hid hv7
         clear hv7 hu7)))
  have hq := HRS7.out.stored (.int .i64 s5) (.slice A5 n5 c5) (.int .i64 s7) (.slice A7 n7 c7)
  have HVA := Lib.hid ((show IV w7 (.agg #[.int .i64 s5, .slice A5 n5 c5]) x by (refine IV.up (Go.RowKit.Hid.out (by assumption)) ?_; (repeat (first | exact Below.refl _ _ | exact Go.RowKit.Hid.out (by assumption) | refine Up.trans ?_ (Up.drew _) | refine Up.trans ?_ (Up.drewN _ _) | refine Up.trans ?_ (Up.alloc _ _) | refine Up.trans ?_ (Go.RowKit.Hid.out (by assumption)))))).put4 HRS7.out (.int .i64 s5) (.slice A5 n5 c5) (.int .i64 s7) (.slice A7 n7 c7))
  have HVB := Lib.hid (HV7.out.put4 HRS7.out (.int .i64 s5) (.slice A5 n5 c5) (.int .i64 s7) (.slice A7 n7 c7))
  have HUF := Lib.hid ((show Up w w7 by (repeat (first | exact Below.refl _ _ | exact Go.RowKit.Hid.out (by assumption) | refine Up.trans ?_ (Up.drew _) | refine Up.trans ?_ (Up.drewN _ _) | refine Up.trans ?_ (Up.alloc _ _) | refine Up.trans ?_ (Go.RowKit.Hid.out (by assumption))))).put4 (show w.heap.size ≤ w.heap.size + 1 by omega) (.int .i64 s5) (.slice A5 n5 c5) (.int .i64 s7) (.slice A7 n7 c7))
  unfold put4 at hq HVA HVB HUF
  obtain ⟨hq0, hq1, hq2, hq3⟩ := hq
  go_wp2
  refine bodyPost_ret (by simp [results, Tryd.results40, go_sem, hq0, hq1, hq2, hq3]; try rfl) rfl ?_
  exact ⟨_, rfl, ⟨_, _, _, _, _, _, _, _, rfl, HX.out.symm ▸ HVA.out, HY.out.symm ▸ HVB.out⟩, HUF.out⟩

/-- A boxed fraction. -/
def Cell4 (w : World) (g : Nat) (s : Int) (d : Value) (t : Int) (f : Value) : Prop := w.heap[g]? = some (.cells #[.int .i64 s, d, .int .i64 t, f] 51 (0, 0))
theorem Cell4.lt {w : World} {g : Nat} {s t : Int} {d f : Value} (h : Cell4 w g s d t f) : g < w.heap.size := by
  rcases Nat.lt_or_ge g w.heap.size with h1 | h1
  · exact h1
  · unfold Cell4 at h; rw [Array.getElem?_eq_none h1] at h; cases h
theorem Cell4.up {w w' : World} {g : Nat} {s t : Int} {d f : Value} (h : Cell4 w g s d t f) (hu : Up w w') : Cell4 w' g s d t f := (hu.block g h.lt).trans h
theorem Cell4.facts {w : World} {g : Nat} {s t : Int} {d f : Value} (h : Cell4 w g s d t f) : w.cell? ⟨g, 0, none⟩ = some (.int .i64 s) ∧ w.cell? ⟨g, 1, none⟩ = some d ∧ w.cell? ⟨g, 2, none⟩ = some (.int .i64 t) ∧ w.cell? ⟨g, 3, none⟩ = some f ∧ g < w.heap.size :=
  ⟨by rw [cell_of_row w g 0 _ _ _ h]; rfl, by rw [cell_of_row w g 1 _ _ _ h]; rfl, by rw [cell_of_row w g 2 _ _ _ h]; rfl, by rw [cell_of_row w g 3 _ _ _ h]; rfl, h.lt⟩
theorem Cell4.new (w : World) (s : Int) (d : Value) (t : Int) (f : Value) : Cell4 (w.alloc (.cells #[.int .i64 s, d, .int .i64 t, f] 51)) w.heap.size s d t f := heap_alloc_new w _

/-- Whether a fraction is within the limits. -/
def fits (q : Rat) : Bool := within q.num 1152921504606846976 && within q.den 1152921504606846976

set_option maxHeartbeats 2000000 in
set_option maxRecDepth 10000 in
theorem fracNum_any (v : Value) (q : Rat) (w : World) (h : FV w v q) :
    Calls Tryd.prog 60 #[v] w fun e w' => e = .returned (.tuple #[.agg #[.int .i64 (if fits q then q.num else 0), .int .i64 (if fits q then (q.den : Int) else 0)], .bool (fits q)]) ∧ Up w w' := by
  obtain ⟨s, A, n, c, t, F, m, k, rfl, hp1, hp2⟩ := h
  have HW1 := Lib.hid (fun W (hu : Up w W) => within_any _ q.num 1152921504606846976 W (hp1.up hu) (by omega) (by omega))
  have HW2 := Lib.hid (fun W (hu : Up w W) => within_any _ q.den 1152921504606846976 W (hp2.up hu) (by omega) (by omega))
  have hf : fits q = (within q.num 1152921504606846976 && within q.den 1152921504606846976) := rfl
  rw [hf]
  clear hp1 hp2 hf
  generalize within q.num 1152921504606846976 = b1 at *
  generalize within q.den 1152921504606846976 = b2 at *
  generalize q.num = x at *
  generalize (q.den : Int) = y at *
  cases b1 <;> cases b2 <;>
  · go_enter Tryd.func60, Tryd.ntmps60
    go_wp2_with fail
    obtain ⟨wB, hwB⟩ : ∃ wB, wB = (w.alloc (.cells #[.int .i64 s, .slice A n c, .int .i64 t, .slice F m k] 51)).alloc (.cells #[.int .i64 0, .int .i64 0] 23) := ⟨_, rfl⟩
    have HA := Lib.hid (show Cell4 wB w.heap.size s (.slice A n c) t (.slice F m k) by rw [hwB]; exact (Cell4.new w _ _ _ _).up (Up.alloc _ _))
    have HR := Lib.hid (show CellN wB (w.heap.size + 1) 0 0 by rw [hwB]; have := CellN.new (w.alloc (.cells #[.int .i64 s, .slice A n c, .int .i64 t, .slice F m k] 51)) 0 0; simpa using this)
    have HU := Lib.hid (show Up w wB by rw [hwB]; exact (Up.alloc _ _).trans (Up.alloc _ _))
    rw [← hwB]
    clear hwB
    refine Calls.mono (HW1.out _ (by (repeat (first | exact Below.refl _ _ | exact Go.RowKit.Hid.out (by assumption) | refine Up.trans ?_ (Up.drew _) | refine Up.trans ?_ (Up.drewN _ _) | refine Up.trans ?_ (Up.alloc _ _) | refine Up.trans ?_ (Go.RowKit.Hid.out (by assumption)))))) ?_
    rintro e w1 ⟨rfl, hu1⟩
    have HU1 := Lib.hid hu1
    clear hu1
    obtain ⟨a0, a1, a2, a3, la⟩ := (HA.out.up (w' := w1) (by (repeat (first | exact Below.refl _ _ | exact Go.RowKit.Hid.out (by assumption) | refine Up.trans ?_ (Up.drew _) | refine Up.trans ?_ (Up.drewN _ _) | refine Up.trans ?_ (Up.alloc _ _) | refine Up.trans ?_ (Go.RowKit.Hid.out (by assumption)))))).facts
    go_wp2_with fail
    refine Calls.mono (HW2.out _ (by (repeat (first | exact Below.refl _ _ | exact Go.RowKit.Hid.out (by assumption) | refine Up.trans ?_ (Up.drew _) | refine Up.trans ?_ (Up.drewN _ _) | refine Up.trans ?_ (Up.alloc _ _) | refine Up.trans ?_ (Go.RowKit.Hid.out (by assumption)))))) ?_
    rintro e w2 ⟨rfl, hu2⟩
    have HU2 := Lib.hid hu2
    clear hu2
    obtain ⟨r0, r1, g0, g1, lr⟩ := (HR.out.up (w' := w2) (by (repeat (first | exact Below.refl _ _ | exact Go.RowKit.Hid.out (by assumption) | refine Up.trans ?_ (Up.drew _) | refine Up.trans ?_ (Up.drewN _ _) | refine Up.trans ?_ (Up.alloc _ _) | refine Up.trans ?_ (Go.RowKit.Hid.out (by assumption)))))).facts
    have HR2 := Lib.hid (HR.out.up (w' := w2) (by (repeat (first | exact Below.refl _ _ | exact Go.RowKit.Hid.out (by assumption) | refine Up.trans ?_ (Up.drew _) | refine Up.trans ?_ (Up.drewN _ _) | refine Up.trans ?_ (Up.alloc _ _) | refine Up.trans ?_ (Go.RowKit.Hid.out (by assumption))))))
    have HF1 := Lib.hid ((HR2.out.set 0 0).facts)
    have HF2 := Lib.hid ((HR2.out.set x y).facts)
    have HUF1 := Lib.hid ((show Up w w2 by (repeat (first | exact Below.refl _ _ | exact Go.RowKit.Hid.out (by assumption) | refine Up.trans ?_ (Up.drew _) | refine Up.trans ?_ (Up.drewN _ _) | refine Up.trans ?_ (Up.alloc _ _) | refine Up.trans ?_ (Go.RowKit.Hid.out (by assumption))))).stored (show w.heap.size ≤ w.heap.size + 1 by omega) (.int .i64 0) (.int .i64 0))
    have HUF2 := Lib.hid ((show Up w w2 by (repeat (first | exact Below.refl _ _ | exact Go.RowKit.Hid.out (by assumption) | refine Up.trans ?_ (Up.drew _) | refine Up.trans ?_ (Up.drewN _ _) | refine Up.trans ?_ (Up.alloc _ _) | refine Up.trans ?_ (Go.RowKit.Hid.out (by assumption))))).stored (show w.heap.size ≤ w.heap.size + 1 by omega) (.int .i64 x) (.int .i64 y))
    go_wp2
    obtain ⟨z0, z1, -, -, -⟩ := HF1.out
    obtain ⟨y0, y1, -, -, -⟩ := HF2.out
    refine bodyPost_ret (by simp [results, Tryd.results60, go_sem, z0, z1, y0, y1]; try rfl) rfl ?_
    exact ⟨rfl, by first | exact HUF1.out | exact HUF2.out⟩
end Go.Proofs.YtahmjnjammcifaaDoor
