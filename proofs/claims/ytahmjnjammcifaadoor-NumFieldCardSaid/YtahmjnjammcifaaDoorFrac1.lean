import Derived.Test.YtahmjnjammcifaaDoorRat
namespace Go.Proofs.YtahmjnjammcifaaDoor
open Go.RowKit Fm

/-- A value of type frac.Frac that is q. -/
def FV (w : World) (v : Value) (q : Rat) : Prop := ∃ s A n c t F m k, v = .agg #[.int .i64 s, .slice A n c, .int .i64 t, .slice F m k] ∧ IV w (.agg #[.int .i64 s, .slice A n c]) q.num ∧ IV w (.agg #[.int .i64 t, .slice F m k]) q.den
theorem FV.up {w w' : World} {v : Value} {q : Rat} (h : FV w v q) (hu : Up w w') : FV w' v q := by
  obtain ⟨s, A, n, c, t, F, m, k, rfl, h1, h2⟩ := h; exact ⟨s, A, n, c, t, F, m, k, rfl, h1.up hu, h2.up hu⟩

/-- A result variable of type frac.Frac, not yet written, lies in block g. -/
def Res4 (w : World) (g : Nat) : Prop := w.heap[g]? = some (.cells #[.int .i64 0, .slice none 0 0, .int .i64 0, .slice none 0 0] 51 (0, 0))
theorem Res4.new (w : World) : Res4 (w.alloc (.cells #[.int .i64 0, .slice none 0 0, .int .i64 0, .slice none 0 0] 51)) w.heap.size := heap_alloc_new w _
theorem Res4.lt {w : World} {g : Nat} (h : Res4 w g) : g < w.heap.size := by
  rcases Nat.lt_or_ge g w.heap.size with h1 | h1
  · exact h1
  · unfold Res4 at h; rw [Array.getElem?_eq_none h1] at h; cases h
theorem Res4.up {w w' : World} {g : Nat} (h : Res4 w g) (hu : Up w w') : Res4 w' g := (hu.block g h.lt).trans h
theorem Res4.facts {w : World} {g : Nat} (h : Res4 w g) : w.cell? ⟨g, 0, none⟩ = some (.int .i64 0) ∧ w.cell? ⟨g, 1, none⟩ = some (.slice none 0 0) ∧ w.cell? ⟨g, 2, none⟩ = some (.int .i64 0) ∧ w.cell? ⟨g, 3, none⟩ = some (.slice none 0 0) ∧
    w.frozen? ⟨g, 0, none⟩ = false ∧ w.frozen? ⟨g, 1, none⟩ = false ∧ w.frozen? ⟨g, 2, none⟩ = false ∧ w.frozen? ⟨g, 3, none⟩ = false :=
  ⟨by rw [cell_of_row w g 0 _ _ _ h]; rfl, by rw [cell_of_row w g 1 _ _ _ h]; rfl, by rw [cell_of_row w g 2 _ _ _ h]; rfl, by rw [cell_of_row w g 3 _ _ _ h]; rfl,
   by unfold Res4 at h; simp [World.frozen?, h], by unfold Res4 at h; simp [World.frozen?, h], by unfold Res4 at h; simp [World.frozen?, h], by unfold Res4 at h; simp [World.frozen?, h]⟩
theorem Res4.not_digit {w : World} {g : Nat} (h : Res4 w g) (i x : Nat) : w.cell? ⟨g, i, none⟩ ≠ some (.int .u32 (x : Int)) := by
  rw [cell_of_row w g i _ _ _ h]
  match i with
  | 0 => intro e; injection e with e; injection e with e1 e2; cases e1
  | 1 => intro e; injection e with e; cases e
  | 2 => intro e; injection e with e; injection e with e1 e2; cases e1
  | 3 => intro e; injection e with e; cases e
  | k + 4 => simp
/-- The world in which a frac.Frac was stored in block g. -/
def put4 (w : World) (g : Nat) (x y z u : Value) : World := (((w.setCell ⟨g, 0, none⟩ x).setCell ⟨g, 1, none⟩ y).setCell ⟨g, 2, none⟩ z).setCell ⟨g, 3, none⟩ u
theorem Res4.stored {w : World} {g : Nat} (h : Res4 w g) (x y z u : Value) : (put4 w g x y z u).cell? ⟨g, 0, none⟩ = some x ∧ (put4 w g x y z u).cell? ⟨g, 1, none⟩ = some y ∧ (put4 w g x y z u).cell? ⟨g, 2, none⟩ = some z ∧ (put4 w g x y z u).cell? ⟨g, 3, none⟩ = some u := by
  unfold Res4 at h
  have h1 : (put4 w g x y z u).heap[g]? = some (.cells #[x, y, z, u] 51 (0, 0)) := by
    simp [put4, World.setCell, Array.getElem?_modify, h]
  exact ⟨by rw [cell_of_row _ g 0 _ _ _ h1]; rfl, by rw [cell_of_row _ g 1 _ _ _ h1]; rfl, by rw [cell_of_row _ g 2 _ _ _ h1]; rfl, by rw [cell_of_row _ g 3 _ _ _ h1]; rfl⟩
theorem Up.put4 {w0 w : World} {g : Nat} (h : Up w0 w) (hg : w0.heap.size ≤ g) (x y z u : Value) : Up w0 (put4 w g x y z u) :=
  (((Below.setCell (p := ⟨g, 0, none⟩) h hg x).setCell (p := ⟨g, 1, none⟩) hg y).setCell (p := ⟨g, 2, none⟩) hg z).setCell (p := ⟨g, 3, none⟩) hg u
theorem IV.put4 {w : World} {v : Value} {q : Int} {g : Nat} (h : IV w v q) (hg : Res4 w g) (x y z u : Value) : IV (put4 w g x y z u) v q := by
  obtain ⟨s, d, rfl, hp⟩ := h
  refine ⟨s, d, rfl, ?_⟩
  have hkey : ∀ ds, Sl .u32 w d ds → Sl .u32 (Go.Proofs.YtahmjnjammcifaaDoor.put4 w g x y z u) d ds := by
    rintro ds ⟨A, c, rfl, h1, h2, h3⟩
    refine ⟨A, c, rfl, h1, h2, fun hn => ?_⟩
    obtain ⟨b, off, rfl, hb, hc⟩ := h3 hn
    have hne : b ≠ g := by
      rintro rfl
      exact hg.not_digit _ _ (hc 0 (List.length_pos_iff.2 hn))
    refine ⟨b, off, rfl, by simpa [Go.Proofs.YtahmjnjammcifaaDoor.put4, World.setCell] using hb, fun i hi => ?_⟩
    unfold Go.Proofs.YtahmjnjammcifaaDoor.put4
    rw [World.cell?_setCell_other _ _ _ _ (by intro e; injection e with e; exact hne e.symm), World.cell?_setCell_other _ _ _ _ (by intro e; injection e with e; exact hne e.symm), World.cell?_setCell_other _ _ _ _ (by intro e; injection e with e; exact hne e.symm), World.cell?_setCell_other _ _ _ _ (by intro e; injection e with e; exact hne e.symm)]
    exact hc i hi
  rcases hp with ⟨h1, h2, h3⟩ | ⟨h1, h2, h3⟩
  · exact .inl ⟨h1, h2, hkey _ h3⟩
  · exact .inr ⟨h1, h2, hkey _ h3⟩

/-- Two boxed fractions. -/
structure Boxes4 (w : World) (ga gb : Nat) (s : Int) (d : Value) (t : Int) (f : Value) (s2 : Int) (d2 : Value) (t2 : Int) (f2 : Value) : Prop where
  a0 : w.cell? ⟨ga, 0, none⟩ = some (.int .i64 s)
  a1 : w.cell? ⟨ga, 1, none⟩ = some d
  a2 : w.cell? ⟨ga, 2, none⟩ = some (.int .i64 t)
  a3 : w.cell? ⟨ga, 3, none⟩ = some f
  b0 : w.cell? ⟨gb, 0, none⟩ = some (.int .i64 s2)
  b1 : w.cell? ⟨gb, 1, none⟩ = some d2
  b2 : w.cell? ⟨gb, 2, none⟩ = some (.int .i64 t2)
  b3 : w.cell? ⟨gb, 3, none⟩ = some f2
  la : ga < w.heap.size
  lb : gb < w.heap.size
theorem Boxes4.up {w w' : World} {ga gb : Nat} {s s2 t t2 : Int} {d d2 f f2 : Value} (h : Boxes4 w ga gb s d t f s2 d2 t2 f2) (hu : Up w w') : Boxes4 w' ga gb s d t f s2 d2 t2 f2 :=
  ⟨(hu.cells.1 _ _ h.la).trans h.a0, (hu.cells.1 _ _ h.la).trans h.a1, (hu.cells.1 _ _ h.la).trans h.a2, (hu.cells.1 _ _ h.la).trans h.a3, (hu.cells.1 _ _ h.lb).trans h.b0, (hu.cells.1 _ _ h.lb).trans h.b1, (hu.cells.1 _ _ h.lb).trans h.b2, (hu.cells.1 _ _ h.lb).trans h.b3, Nat.lt_of_lt_of_le h.la hu.size, Nat.lt_of_lt_of_le h.lb hu.size⟩
theorem start34 (w : World) (s : Int) (d : Value) (t : Int) (f : Value) (s2 : Int) (d2 : Value) (t2 : Int) (f2 : Value) :
    ∃ wB, (((w.alloc (.cells #[.int .i64 s, d, .int .i64 t, f] 51)).alloc (.cells #[.int .i64 s2, d2, .int .i64 t2, f2] 51)).alloc (.cells #[.int .i64 0, .slice none 0 0, .int .i64 0, .slice none 0 0] 51)) = wB ∧
      Boxes4 wB w.heap.size (w.heap.size + 1) s d t f s2 d2 t2 f2 ∧ Res4 wB (w.heap.size + 1 + 1) ∧ Up w wB := by
  refine ⟨_, rfl, ?_, ?_, Up.three w _ _ _⟩
  · have h1 : (((w.alloc (.cells #[.int .i64 s, d, .int .i64 t, f] 51)).alloc (.cells #[.int .i64 s2, d2, .int .i64 t2, f2] 51)).alloc (.cells #[.int .i64 0, .slice none 0 0, .int .i64 0, .slice none 0 0] 51)).heap[w.heap.size]? = some (.cells #[.int .i64 s, d, .int .i64 t, f] 51 (0, 0)) := by
      rw [Below.heap_alloc _ _ _ (by simp; omega), Below.heap_alloc _ _ _ (by simp), heap_alloc_new]
    have h2 : (((w.alloc (.cells #[.int .i64 s, d, .int .i64 t, f] 51)).alloc (.cells #[.int .i64 s2, d2, .int .i64 t2, f2] 51)).alloc (.cells #[.int .i64 0, .slice none 0 0, .int .i64 0, .slice none 0 0] 51)).heap[w.heap.size + 1]? = some (.cells #[.int .i64 s2, d2, .int .i64 t2, f2] 51 (0, 0)) := by
      rw [Below.heap_alloc _ _ _ (by simp)]
      have := heap_alloc_new (w.alloc (.cells #[.int .i64 s, d, .int .i64 t, f] 51)) (.cells #[.int .i64 s2, d2, .int .i64 t2, f2] 51)
      simpa using this
    exact ⟨by rw [cell_of_row _ _ 0 _ _ _ h1]; rfl, by rw [cell_of_row _ _ 1 _ _ _ h1]; rfl, by rw [cell_of_row _ _ 2 _ _ _ h1]; rfl, by rw [cell_of_row _ _ 3 _ _ _ h1]; rfl, by rw [cell_of_row _ _ 0 _ _ _ h2]; rfl, by rw [cell_of_row _ _ 1 _ _ _ h2]; rfl, by rw [cell_of_row _ _ 2 _ _ _ h2]; rfl, by rw [cell_of_row _ _ 3 _ _ _ h2]; rfl, by simp; omega, by simp⟩
  · have := Res4.new ((w.alloc (.cells #[.int .i64 s, d, .int .i64 t, f] 51)).alloc (.cells #[.int .i64 s2, d2, .int .i64 t2, f2] 51))
    simpa using this
theorem start24 (w : World) (s : Int) (d : Value) (s2 : Int) (d2 : Value) :
    ∃ wB, (((w.alloc (.cells #[.int .i64 s, d] 49)).alloc (.cells #[.int .i64 s2, d2] 49)).alloc (.cells #[.int .i64 0, .slice none 0 0, .int .i64 0, .slice none 0 0] 51)) = wB ∧
      Boxes wB w.heap.size (w.heap.size + 1) s d s2 d2 ∧ Res4 wB (w.heap.size + 1 + 1) ∧ Up w wB :=
  ⟨_, rfl, Boxes.start w s d s2 d2 _, by
    have := Res4.new ((w.alloc (.cells #[.int .i64 s, d] 49)).alloc (.cells #[.int .i64 s2, d2] 49))
    simpa using this, Up.three w _ _ _⟩

end Go.Proofs.YtahmjnjammcifaaDoor
