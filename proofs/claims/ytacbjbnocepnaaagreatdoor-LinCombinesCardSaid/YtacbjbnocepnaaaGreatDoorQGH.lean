/- Contracts of the fractions and of the first operations on numbers. -/
import Derived.Test.YtacbjbnocepnaaaGreatDoorQGG
namespace Go.Proofs.YtacbjbnocepnaaaGreatDoor
open Go.RowKit Fm
theorem bl_tdiv {x y : Int} {k : Nat} (h : bl x ≤ k) : bl (x.tdiv y) ≤ k := by
  unfold bl at *
  rw [Int.natAbs_tdiv]
  exact Nat.le_trans (bl_le_of_le (Nat.div_le_self _ _)) h
theorem lt_ne {x y : Nat} (h : x < y) : (x = y) = False := by simp; omega
theorem lt_ne' {x y : Nat} (h : x < y) : (y = x) = False := by simp; omega
end Go.Proofs.YtacbjbnocepnaaaGreatDoor
namespace Go.Proofs.YtacbjbnocepnaaaGreatDoor
open Go.RowKit Fm
end Go.Proofs.YtacbjbnocepnaaaGreatDoor
namespace Go.Proofs.YtacbjbnocepnaaaGreatDoor
open Go.RowKit Fm
def CellN (w : World) (g : Nat) (x y : Int) : Prop := w.heap[g]? = some (.cells #[.int .i64 x, .int .i64 y] 55 (0, 0))
theorem CellN.lt {w : World} {g : Nat} {x y : Int} (h : CellN w g x y) : g < w.heap.size := by
  rcases Nat.lt_or_ge g w.heap.size with h1 | h1
  · exact h1
  · unfold CellN at h; rw [Array.getElem?_eq_none h1] at h; cases h
theorem CellN.up {w w' : World} {g : Nat} {x y : Int} (h : CellN w g x y) (hu : Up w w') : CellN w' g x y := (hu.block g h.lt).trans h
theorem CellN.facts {w : World} {g : Nat} {x y : Int} (h : CellN w g x y) : w.cell? ⟨g, 0, none⟩ = some (.int .i64 x) ∧ w.cell? ⟨g, 1, none⟩ = some (.int .i64 y) ∧ w.frozen? ⟨g, 0, none⟩ = false ∧ w.frozen? ⟨g, 1, none⟩ = false ∧ g < w.heap.size :=
  ⟨by rw [cell_of_row w g 0 _ _ _ h]; rfl, by rw [cell_of_row w g 1 _ _ _ h]; rfl, by unfold CellN at h; simp [World.frozen?, h], by unfold CellN at h; simp [World.frozen?, h], h.lt⟩
theorem CellN.new (w : World) (x y : Int) : CellN (w.alloc (.cells #[.int .i64 x, .int .i64 y] 55)) w.heap.size x y := heap_alloc_new w _
theorem CellN.set {w : World} {g : Nat} {x y : Int} (h : CellN w g x y) (x' y' : Int) : CellN ((w.setCell ⟨g, 0, none⟩ (.int .i64 x')).setCell ⟨g, 1, none⟩ (.int .i64 y')) g x' y' := by
  unfold CellN at *
  simp [World.setCell, Array.getElem?_modify, h]
def Cell4 (w : World) (g : Nat) (s : Int) (d : Value) (t : Int) (f : Value) : Prop := w.heap[g]? = some (.cells #[.int .i64 s, d, .int .i64 t, f] 110 (0, 0))
theorem Cell4.lt {w : World} {g : Nat} {s t : Int} {d f : Value} (h : Cell4 w g s d t f) : g < w.heap.size := by
  rcases Nat.lt_or_ge g w.heap.size with h1 | h1
  · exact h1
  · unfold Cell4 at h; rw [Array.getElem?_eq_none h1] at h; cases h
theorem Cell4.up {w w' : World} {g : Nat} {s t : Int} {d f : Value} (h : Cell4 w g s d t f) (hu : Up w w') : Cell4 w' g s d t f := (hu.block g h.lt).trans h
theorem Cell4.facts {w : World} {g : Nat} {s t : Int} {d f : Value} (h : Cell4 w g s d t f) : w.cell? ⟨g, 0, none⟩ = some (.int .i64 s) ∧ w.cell? ⟨g, 1, none⟩ = some d ∧ w.cell? ⟨g, 2, none⟩ = some (.int .i64 t) ∧ w.cell? ⟨g, 3, none⟩ = some f ∧ g < w.heap.size :=
  ⟨by rw [cell_of_row w g 0 _ _ _ h]; rfl, by rw [cell_of_row w g 1 _ _ _ h]; rfl, by rw [cell_of_row w g 2 _ _ _ h]; rfl, by rw [cell_of_row w g 3 _ _ _ h]; rfl, h.lt⟩
theorem Cell4.new (w : World) (s : Int) (d : Value) (t : Int) (f : Value) : Cell4 (w.alloc (.cells #[.int .i64 s, d, .int .i64 t, f] 110)) w.heap.size s d t f := heap_alloc_new w _
def fits (q : Rat) : Bool := within q.num 1152921504606846976 && within q.den 1152921504606846976
set_option maxHeartbeats 2000000 in
set_option maxRecDepth 10000 in
theorem fracNum_any (v : Value) (q : Rat) (w : World) (h : FV w v q) :
    Calls Tryz.prog 63 #[v] w fun e w' => e = .returned (.tuple #[.agg #[.int .i64 (if fits q then q.num else 0), .int .i64 (if fits q then (q.den : Int) else 0)], .bool (fits q)]) ∧ Up w w' := by
  obtain ⟨s, A, n, c, t, F, m, k, rfl, hp1, hp2⟩ := h
  have HW1 := Lib.hid (fun W (hu : Up w W) => within_any _ q.num 1152921504606846976 W (hp1.up hu) (by omega) (by omega))
  have HW2 := Lib.hid (fun W (hu : Up w W) => within_any _ q.den 1152921504606846976 W (hp2.up hu) (by omega) (by omega))
  have hf : fits q = (within q.num 1152921504606846976 && within q.den 1152921504606846976) := rfl
  rw [hf]
  clear hp1 hp2 hf
  generalize within q.num 1152921504606846976 = b1 at *
  generalize within q.den 1152921504606846976 = b2 at *
  generalize q.num = x at *
  generalize (q.den : Int) = y at *
  cases b1 <;> cases b2 <;>
  · go_enter Tryz.func63, Tryz.ntmps63
    go_wp2_with fail
    obtain ⟨wB, hwB⟩ : ∃ wB, wB = (w.alloc (.cells #[.int .i64 s, .slice A n c, .int .i64 t, .slice F m k] 110)).alloc (.cells #[.int .i64 0, .int .i64 0] 55) := ⟨_, rfl⟩
    have HA := Lib.hid (show Cell4 wB w.heap.size s (.slice A n c) t (.slice F m k) by rw [hwB]; exact (Cell4.new w _ _ _ _).up (Up.alloc _ _))
    have HR := Lib.hid (show CellN wB (w.heap.size + 1) 0 0 by rw [hwB]; have := CellN.new (w.alloc (.cells #[.int .i64 s, .slice A n c, .int .i64 t, .slice F m k] 110)) 0 0; simpa using this)
    have HU := Lib.hid (show Up w wB by rw [hwB]; exact (Up.alloc _ _).trans (Up.alloc _ _))
    rw [← hwB]
    clear hwB
    refine Calls.mono (HW1.out _ (by (repeat (first | exact Below.refl _ _ | exact Hid.out (by assumption) | refine Up.trans ?_ (Up.drew _) | refine Up.trans ?_ (Up.drewN _ _) | refine Up.trans ?_ (Up.alloc _ _) | refine Up.trans ?_ (Hid.out (by assumption)))))) ?_
    rintro e w1 ⟨rfl, hu1⟩
    have HU1 := Lib.hid hu1
    clear hu1
    obtain ⟨a0, a1, a2, a3, la⟩ := (HA.out.up (w' := w1) (by (repeat (first | exact Below.refl _ _ | exact Hid.out (by assumption) | refine Up.trans ?_ (Up.drew _) | refine Up.trans ?_ (Up.drewN _ _) | refine Up.trans ?_ (Up.alloc _ _) | refine Up.trans ?_ (Hid.out (by assumption)))))).facts
    go_wp2_with fail
    refine Calls.mono (HW2.out _ (by (repeat (first | exact Below.refl _ _ | exact Hid.out (by assumption) | refine Up.trans ?_ (Up.drew _) | refine Up.trans ?_ (Up.drewN _ _) | refine Up.trans ?_ (Up.alloc _ _) | refine Up.trans ?_ (Hid.out (by assumption)))))) ?_
    rintro e w2 ⟨rfl, hu2⟩
    have HU2 := Lib.hid hu2
    clear hu2
    obtain ⟨r0, r1, g0, g1, lr⟩ := (HR.out.up (w' := w2) (by (repeat (first | exact Below.refl _ _ | exact Hid.out (by assumption) | refine Up.trans ?_ (Up.drew _) | refine Up.trans ?_ (Up.drewN _ _) | refine Up.trans ?_ (Up.alloc _ _) | refine Up.trans ?_ (Hid.out (by assumption)))))).facts
    have HR2 := Lib.hid (HR.out.up (w' := w2) (by (repeat (first | exact Below.refl _ _ | exact Hid.out (by assumption) | refine Up.trans ?_ (Up.drew _) | refine Up.trans ?_ (Up.drewN _ _) | refine Up.trans ?_ (Up.alloc _ _) | refine Up.trans ?_ (Hid.out (by assumption))))))
    have HF1 := Lib.hid ((HR2.out.set 0 0).facts)
    have HF2 := Lib.hid ((HR2.out.set x y).facts)
    have HUF1 := Lib.hid ((show Up w w2 by (repeat (first | exact Below.refl _ _ | exact Hid.out (by assumption) | refine Up.trans ?_ (Up.drew _) | refine Up.trans ?_ (Up.drewN _ _) | refine Up.trans ?_ (Up.alloc _ _) | refine Up.trans ?_ (Hid.out (by assumption))))).stored (show w.heap.size ≤ w.heap.size + 1 by omega) (.int .i64 0) (.int .i64 0))
    have HUF2 := Lib.hid ((show Up w w2 by (repeat (first | exact Below.refl _ _ | exact Hid.out (by assumption) | refine Up.trans ?_ (Up.drew _) | refine Up.trans ?_ (Up.drewN _ _) | refine Up.trans ?_ (Up.alloc _ _) | refine Up.trans ?_ (Hid.out (by assumption))))).stored (show w.heap.size ≤ w.heap.size + 1 by omega) (.int .i64 x) (.int .i64 y))
    go_wp2
    obtain ⟨z0, z1, -, -, -⟩ := HF1.out
    obtain ⟨y0, y1, -, -, -⟩ := HF2.out
    refine bodyPost_ret (by simp [results, Tryz.results63, go_sem, z0, z1, y0, y1]; try rfl) rfl ?_
    exact ⟨rfl, by first | exact HUF1.out | exact HUF2.out⟩
end Go.Proofs.YtacbjbnocepnaaaGreatDoor
namespace Go.Proofs.YtacbjbnocepnaaaGreatDoor
open Go.RowKit Fm
def okNum (x y : Int) : Bool := decide (1 ≤ y ∧ y ≤ 1152921504606846976 ∧ -1152921504606846976 ≤ x ∧ x ≤ 1152921504606846976 ∧ Int.gcd x y = 1)
end Go.Proofs.YtacbjbnocepnaaaGreatDoor
namespace Go.Proofs.YtacbjbnocepnaaaGreatDoor
open Go.RowKit Fm
def ratOf (x y : Int) : Rat := Rat.divInt x y
def numX (ok : Bool) (q : Rat) : Int := if ok && fits q then q.num else 0
def numY (ok : Bool) (q : Rat) : Int := if ok && fits q then (q.den : Int) else 0
def numE (ok : Bool) (q : Rat) : Int := if ok then (if fits q then 0 else 3) else 1
end Go.Proofs.YtacbjbnocepnaaaGreatDoor
namespace Go.Proofs.YtacbjbnocepnaaaGreatDoor
open Go.RowKit Fm
end Go.Proofs.YtacbjbnocepnaaaGreatDoor
namespace Go.Proofs.YtacbjbnocepnaaaGreatDoor
open Go.RowKit Fm
end Go.Proofs.YtacbjbnocepnaaaGreatDoor
namespace Go.Proofs.YtacbjbnocepnaaaGreatDoor
open Go.RowKit Fm
end Go.Proofs.YtacbjbnocepnaaaGreatDoor
namespace Go.Proofs.YtacbjbnocepnaaaGreatDoor
open Go.RowKit Fm
end Go.Proofs.YtacbjbnocepnaaaGreatDoor
namespace Go.Proofs.YtacbjbnocepnaaaGreatDoor
open Go.RowKit Fm
end Go.Proofs.YtacbjbnocepnaaaGreatDoor
namespace Go.Proofs.YtacbjbnocepnaaaGreatDoor
open Go.RowKit Fm
theorem numE_zero {ok : Bool} {q : Rat} (h : numE ok q = 0) : ok = true ∧ fits q = true := by
  unfold numE at h
  cases ok
  · simp at h
  · cases hf : fits q
    · rw [hf] at h; simp at h
    · exact ⟨rfl, rfl⟩
theorem ratOf_self (q : Rat) : ratOf q.num q.den = q := Rat.num_divInt_den q
theorem okNum_of_fits {q : Rat} (h : fits q = true) : okNum q.num q.den = true := by
  unfold fits within at h
  simp only [Bool.and_eq_true, decide_eq_true_eq] at h
  have hd := q.den_nz
  have hr := q.reduced
  unfold okNum
  simp only [decide_eq_true_eq]
  refine ⟨by omega, h.2.2, h.1.1, h.1.2, ?_⟩
  rw [Int.gcd, Int.natAbs_natCast]
  exact hr
theorem num_answer {ok : Bool} {q : Rat} (h : numE ok q = 0) : numX ok q = q.num ∧ numY ok q = q.den ∧ okNum (numX ok q) (numY ok q) = true ∧ ratOf (numX ok q) (numY ok q) = q := by
  obtain ⟨h1, h2⟩ := numE_zero h
  have e1 : numX ok q = q.num := by simp [numX, h1, h2]
  have e2 : numY ok q = q.den := by simp [numY, h1, h2]
  rw [e1, e2]
  exact ⟨rfl, rfl, okNum_of_fits h2, ratOf_self q⟩
end Go.Proofs.YtacbjbnocepnaaaGreatDoor
namespace Go.Proofs.YtacbjbnocepnaaaGreatDoor
open Go.RowKit Fm
def Ans (X Y E : Int) (ok : Bool) (q : Rat) : Prop := X = numX ok q ∧ Y = numY ok q ∧ E = numE ok q
theorem Ans.zero {X Y E : Int} {ok : Bool} {q : Rat} (h : Ans X Y E ok q) (h0 : E = 0) : ok = true ∧ okNum X Y = true ∧ ratOf X Y = q ∧ X = q.num ∧ Y = q.den := by
  obtain ⟨rfl, rfl, rfl⟩ := h
  obtain ⟨h1, h2, h3, h4⟩ := num_answer h0
  exact ⟨(numE_zero h0).1, h3, h4, h1, h2⟩
end Go.Proofs.YtacbjbnocepnaaaGreatDoor
namespace Go.Proofs.YtacbjbnocepnaaaGreatDoor
open Go.RowKit Fm
end Go.Proofs.YtacbjbnocepnaaaGreatDoor
namespace Go.Proofs.YtacbjbnocepnaaaGreatDoor
open Go.RowKit Fm
end Go.Proofs.YtacbjbnocepnaaaGreatDoor
