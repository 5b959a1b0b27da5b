/- Contracts of the package of rows. -/
import Derived.Test.YtacbjbnocepnaaaGreatDoorQHA
import Derived.Test.YtacbjbnocepnaaaGreatDoorQGH
namespace Go.Proofs.YtacbjbnocepnaaaGreatDoor
open Go.RowKit Fm
def RdZ (w : World) (A : Option Addr) (zs : List Int) : Prop :=
  zs ≠ [] → ∃ b off, A = some ⟨b, off, none⟩ ∧ b < w.heap.size ∧ ∀ i (hi : i < zs.length), ∃ s B m k, w.cell? ⟨b, off + i * 2, none⟩ = some (.int .i64 s) ∧ w.cell? ⟨b, off + i * 2 + 1, none⟩ = some (.slice B m k) ∧ IVp w s (.slice B m k) zs[i]
def RowV (w : World) (v : Value) (zs : List Int) : Prop := ∃ A c, v = .slice A zs.length c ∧ zs.length ≤ c ∧ c ≤ maxLen ∧ RdZ w A zs
def RowF (w0 w : World) (v : Value) (zs : List Int) : Prop := ∃ A c, v = .slice A zs.length c ∧ zs.length ≤ c ∧ c ≤ maxLen ∧ RdZ w A zs ∧ ∀ b off, A = some ⟨b, off, none⟩ → w0.heap.size ≤ b
theorem RdZ.up {w w' : World} {A : Option Addr} {zs : List Int} (h : RdZ w A zs) (hu : Up w w') : RdZ w' A zs := fun hn => by
  obtain ⟨b, off, rfl, hb, hc⟩ := h hn
  refine ⟨b, off, rfl, Nat.lt_of_lt_of_le hb hu.size, fun i hi => ?_⟩
  obtain ⟨s, B, m, k, h1, h2, h3⟩ := hc i hi
  exact ⟨s, B, m, k, (hu.cells.1 _ _ hb).trans h1, (hu.cells.1 _ _ hb).trans h2, h3.up hu⟩
theorem RdZ.at_ {w : World} {A : Option Addr} {zs : List Int} (h : RdZ w A zs) {i : Nat} (hi : i < zs.length) :
    ∃ b off s B m k, A = some ⟨b, off, none⟩ ∧ b < w.heap.size ∧ w.cell? ⟨b, off + i * 2, none⟩ = some (.int .i64 s) ∧ w.cell? ⟨b, off + i * 2 + 1, none⟩ = some (.slice B m k) ∧ IV w (.agg #[.int .i64 s, .slice B m k]) zs[i] := by
  obtain ⟨b, off, rfl, hb, hc⟩ := h (by intro e; subst e; simp at hi)
  obtain ⟨s, B, m, k, h1, h2, h3⟩ := hc i hi
  exact ⟨b, off, s, B, m, k, rfl, hb, h1, h2, s, _, rfl, h3⟩
theorem RowV.up {w w' : World} {v : Value} {zs : List Int} (h : RowV w v zs) (hu : Up w w') : RowV w' v zs := by
  obtain ⟨A, c, rfl, h1, h2, h3⟩ := h
  exact ⟨A, c, rfl, h1, h2, h3.up hu⟩
def RowB (w : World) (g : Nat) (zs : List Int) : Prop :=
  ∃ arr : Array Value, w.heap[g]? = some (.cells arr 108 (0, 0)) ∧ arr.size = zs.length * 2 ∧
    ∀ i (hi : i < zs.length), ∃ s A n c, arr[i * 2]? = some (.int .i64 s) ∧ arr[i * 2 + 1]? = some (.slice A n c) ∧ IVp w s (.slice A n c) zs[i]
theorem RowB.lt {w : World} {g : Nat} {zs : List Int} (h : RowB w g zs) : g < w.heap.size := by
  obtain ⟨arr, h1, -⟩ := h
  rcases Nat.lt_or_ge g w.heap.size with h2 | h2
  · exact h2
  · rw [Array.getElem?_eq_none h2] at h1; cases h1
theorem RowB.up {w w' : World} {g : Nat} {zs : List Int} (h : RowB w g zs) (hu : Up w w') : RowB w' g zs := by
  have hl := h.lt
  obtain ⟨arr, h1, h2, h3⟩ := h
  refine ⟨arr, (hu.block g hl).trans h1, h2, fun i hi => ?_⟩
  obtain ⟨s, A, n, c, e1, e2, e3⟩ := h3 i hi
  exact ⟨s, A, n, c, e1, e2, e3.up hu⟩
theorem RowB.frozen {w : World} {g : Nat} {zs : List Int} (h : RowB w g zs) (i : Nat) : w.frozen? ⟨g, i, none⟩ = false := by
  obtain ⟨arr, h1, -⟩ := h
  simp [World.frozen?, h1]
theorem RowB.cells {w : World} {g : Nat} {zs : List Int} (h : RowB w g zs) {i : Nat} (hi : i < zs.length) :
    ∃ s A n c, w.cell? ⟨g, i * 2, none⟩ = some (.int .i64 s) ∧ w.cell? ⟨g, i * 2 + 1, none⟩ = some (.slice A n c) := by
  obtain ⟨arr, h1, -, h3⟩ := h
  obtain ⟨s, A, n, c, e1, e2, -⟩ := h3 i hi
  exact ⟨s, A, n, c, by rw [cell_of_row w g _ _ _ _ h1]; exact e1, by rw [cell_of_row w g _ _ _ _ h1]; exact e2⟩
theorem RowB.rdz {w : World} {g : Nat} {zs : List Int} (h : RowB w g zs) : RdZ w (some ⟨g, 0, none⟩) zs := fun _ => by
  have hl := h.lt
  obtain ⟨arr, h1, -, h3⟩ := h
  refine ⟨g, 0, rfl, hl, fun i hi => ?_⟩
  obtain ⟨s, A, n, c, e1, e2, e3⟩ := h3 i hi
  rw [Nat.zero_add]
  exact ⟨s, A, n, c, by rw [cell_of_row w g _ _ _ _ h1]; exact e1, by rw [cell_of_row w g _ _ _ _ h1]; exact e2, e3⟩
theorem RowB.not_digit {w : World} {g : Nat} {zs : List Int} (h : RowB w g zs) (j x : Nat) : w.cell? ⟨g, j, none⟩ ≠ some (.int .u32 (x : Int)) := by
  obtain ⟨arr, h1, h2, h3⟩ := h
  rw [cell_of_row w g _ _ _ _ h1]
  rcases Nat.lt_or_ge (j / 2) zs.length with hj | hj
  · obtain ⟨s, A, n, c, e1, e2, -⟩ := h3 (j / 2) hj
    rcases Nat.mod_two_eq_zero_or_one j with hm | hm
    · rw [show j = j / 2 * 2 by omega, e1]; intro e; injection e with e; injection e with e3 e4; cases e3
    · rw [show j = j / 2 * 2 + 1 by omega, e2]; intro e; injection e with e; cases e
  · rw [Array.getElem?_eq_none (by omega)]; simp
theorem IVp.put {w : World} {s : Int} {d : Value} {z : Int} {g : Nat} (h : IVp w s d z) (hg : ∀ j x : Nat, w.cell? ⟨g, j, none⟩ ≠ some (.int .u32 (x : Int))) (o1 o2 : Nat) (u v : Value) : IVp ((w.setCell ⟨g, o1, none⟩ u).setCell ⟨g, o2, none⟩ v) s d z := by
  have hkey : ∀ ds, Sl .u32 w d ds → Sl .u32 ((w.setCell ⟨g, o1, none⟩ u).setCell ⟨g, o2, none⟩ v) d ds := by
    rintro ds ⟨A, c, rfl, h1, h2, h3⟩
    refine ⟨A, c, rfl, h1, h2, fun hn => ?_⟩
    obtain ⟨b, off, rfl, hb, hc⟩ := h3 hn
    have hne : b ≠ g := by
      rintro rfl
      exact hg _ _ (hc 0 (List.length_pos_iff.2 hn))
    refine ⟨b, off, rfl, by simpa [World.setCell] using hb, fun i hi => ?_⟩
    rw [World.cell?_setCell_other _ _ _ _ (by intro e; injection e with e; exact hne e.symm), World.cell?_setCell_other _ _ _ _ (by intro e; injection e with e; exact hne e.symm)]
    exact hc i hi
  rcases h with ⟨h1, h2, h3⟩ | ⟨h1, h2, h3⟩
  · exact .inl ⟨h1, h2, hkey _ h3⟩
  · exact .inr ⟨h1, h2, hkey _ h3⟩
theorem RowB.store {w : World} {g : Nat} {zs : List Int} (h : RowB w g zs) {i : Nat} (hi : i < zs.length) {s : Int} {A : Option Addr} {n c : Nat} {z : Int} (hv : IV w (.agg #[.int .i64 s, .slice A n c]) z) :
    RowB ((w.setCell ⟨g, i * 2, none⟩ (.int .i64 s)).setCell ⟨g, i * 2 + 1, none⟩ (.slice A n c)) g (zs.set i z) := by
  have hd := h.not_digit
  obtain ⟨arr, h1, h2, h3⟩ := h
  obtain ⟨s', d', e, hp⟩ := hv
  simp only [Value.agg.injEq, Array.mk.injEq, List.cons.injEq, Value.int.injEq, true_and, and_true] at e
  obtain ⟨rfl, rfl⟩ := e
  refine ⟨(arr.setIfInBounds (i * 2) (.int .i64 s)).setIfInBounds (i * 2 + 1) (.slice A n c), by simp [World.setCell, Array.getElem?_modify, h1], by simpa using h2, fun j hj => ?_⟩
  have hj' : j < zs.length := by simpa using hj
  by_cases hji : j = i
  · subst hji
    refine ⟨s, A, n, c, ?_, ?_, by rw [List.getElem_set_self]; exact hp.put hd _ _ _ _⟩
    · rw [Array.getElem?_setIfInBounds_ne (by omega), Array.getElem?_setIfInBounds_self]; simp; omega
    · rw [Array.getElem?_setIfInBounds_self]; simp; omega
  · obtain ⟨s2, A2, n2, c2, e1, e2, e3⟩ := h3 j hj'
    refine ⟨s2, A2, n2, c2, ?_, ?_, by rw [List.getElem_set_ne (fun e => hji e.symm)]; exact e3.put hd _ _ _ _⟩
    · rw [Array.getElem?_setIfInBounds_ne (by omega), Array.getElem?_setIfInBounds_ne (by omega)]; exact e1
    · rw [Array.getElem?_setIfInBounds_ne (by omega), Array.getElem?_setIfInBounds_ne (by omega)]; exact e2
theorem info_int : (Tryz.prog.info? 108).map (fun i => (i.zero, i.size, i.bytes)) = some (some (.agg #[.int .i64 0, .slice none 0 0]), 2, 32) := by kernel_rfl
def zeroRow (n : Nat) : Array Value := madeCells (Value.agg #[.int .i64 0, .slice none 0 0]).cells (n * 2)
theorem zeroRow_size (n : Nat) : (zeroRow n).size = n * 2 := by simp [zeroRow, madeCells, Value.cells]
theorem zeroRow_get (n i : Nat) (hi : i < n) : (zeroRow n)[i * 2]? = some (.int .i64 0) ∧ (zeroRow n)[i * 2 + 1]? = some (.slice none 0 0) := by
  constructor
  · rw [Array.getElem?_eq_getElem (by rw [zeroRow_size]; omega)]
    simp [zeroRow, madeCells, Value.cells]
  · rw [Array.getElem?_eq_getElem (by rw [zeroRow_size]; omega)]
    have e : (i * 2 + 1) % 2 = 1 := by omega
    simp [zeroRow, madeCells, Value.cells, e]
theorem mkRow (n : Nat) (hn : n ≤ 4294967296) (w : World) : (Instr.makeSlice 90 (.int .i64 (n : Int)) (.int .i64 (n : Int))).run Tryz.prog w =
    .ok (.slice (some ⟨w.heap.size, 0, none⟩) n n) (w.alloc (.cells (zeroRow n) 108)) := by
  obtain ⟨i0, hi, hz0, hz1, hz2⟩ := info_parts info_int
  have h := run_make (P := Tryz.prog) w 90 108 i0 (.agg #[.int .i64 0, .slice none 0 0]) Tryz.underlying90 hi hz0 .i64 .i64 n n (by omega) (by omega) (by rw [hz2]; omega) (by omega)
  rw [h, hz1]; simp only [Int.toNat_natCast, zeroRow]
theorem RowB.new (w : World) (n : Nat) : RowB (w.alloc (.cells (zeroRow n) 108)) w.heap.size (List.replicate n 0) := by
  refine ⟨zeroRow n, heap_alloc_new w _, by rw [zeroRow_size]; simp, fun i hi => ?_⟩
  have hi' : i < n := by simpa using hi
  obtain ⟨e1, e2⟩ := zeroRow_get n i hi'
  exact ⟨0, none, 0, 0, e1, e2, .inl ⟨by simp, by simp, Sl.empty _ _⟩⟩
end Go.Proofs.YtacbjbnocepnaaaGreatDoor
