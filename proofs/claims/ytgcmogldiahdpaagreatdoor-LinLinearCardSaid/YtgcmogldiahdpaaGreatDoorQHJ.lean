/- Contracts of the reference implementation: rows, their values, divisors and primitive forms. -/
import Derived.Test.YtgcmogldiahdpaaGreatDoorQHI
import Derived.Test.YtgcmogldiahdpaaGreatDoorQGR
namespace Go.Proofs.YtgcmogldiahdpaaGreatDoor
open Go.RowKit Fm
/-- An integer of the reference in three cells, of which the digits lie away from block o. -/
def RIa (w : World) (o : Option Nat) (s : Int) (g : Bool) (A : Option Addr) (n c : Nat) (z : Int) : Prop :=
  (n = 0 ∧ s = z ∧ z.natAbs < 2305843009213693952) ∨ (s = 0 ∧ g = decide (z < 0) ∧ 2305843009213693952 ≤ z.natAbs ∧ Ev w (.slice A n c) z.natAbs ∧ ∀ k, o = some k → Away A k)
theorem ev_ne {w : World} {A : Option Addr} {n c : Nat} {m : Nat} (h : Ev w (.slice A n c) m) (hm : 0 < m) : ∃ b off, A = some ⟨b, off, none⟩ ∧ b < w.heap.size ∧ ∀ i (hi : i < (digs 1073741824 m).length), w.cell? ⟨b, off + i, none⟩ = some (.int .i64 ((digs 1073741824 m)[i] : Nat)) := by
  obtain ⟨A', c', e, h1, h2, h3⟩ := h
  cases e
  exact h3 (by rw [digs_pos (by omega) hm]; simp)
theorem ev_keep {w w' : World} {A : Option Addr} {n c m : Nat} (h : Ev w (.slice A n c) m) (hs : w.heap.size ≤ w'.heap.size) (hk : ∀ b off i u, A = some ⟨b, off, none⟩ → w.cell? ⟨b, off + i, none⟩ = some u → w'.cell? ⟨b, off + i, none⟩ = some u) : Ev w' (.slice A n c) m := by
  obtain ⟨A', c', e, h1, h2, h3⟩ := h
  cases e
  refine ⟨A, c, rfl, h1, h2, fun hn => ?_⟩
  obtain ⟨b, off, rfl, hb, hc⟩ := h3 hn
  exact ⟨b, off, rfl, Nat.lt_of_lt_of_le hb hs, fun i hi => hk b off i _ rfl (hc i hi)⟩
theorem RIa.up {w w' : World} {o : Option Nat} {s : Int} {g : Bool} {A : Option Addr} {n c : Nat} {z : Int} (h : RIa w o s g A n c z) (hu : Up w w') : RIa w' o s g A n c z := by
  rcases h with h | ⟨h1, h2, h3, h4, h5⟩
  · exact .inl h
  · exact .inr ⟨h1, h2, h3, Sl.up h4 hu, h5⟩
theorem RIa.ri {w : World} {o : Option Nat} {s : Int} {g : Bool} {A : Option Addr} {n c : Nat} {z : Int} (h : RIa w o s g A n c z) : RI w (.agg #[.int .i64 s, .bool g, .slice A n c]) z :=
  ⟨s, g, A, n, c, rfl, h.elim .inl fun ⟨h1, h2, h3, h4, _⟩ => .inr ⟨h1, h2, h3, h4⟩⟩
theorem RI.ria {w : World} {s : Int} {g : Bool} {A : Option Addr} {n c : Nat} {z : Int} (h : RI w (.agg #[.int .i64 s, .bool g, .slice A n c]) z) : RIa w none s g A n c z := by
  obtain ⟨s', g', A', n', c', e, h⟩ := h
  cases e
  exact h.elim .inl fun ⟨h1, h2, h3, h4⟩ => .inr ⟨h1, h2, h3, h4, fun k e => by cases e⟩
/-- Integers of the reference, of any size. -/
def eltR : Elt Int where
  size := 3
  rel w o cs z := ∃ s g A n c, cs = [.int .i64 s, .bool g, .slice A n c] ∧ RIa w o s g A n c z
  pos := by decide
  len := by rintro w o cs z ⟨s, g, A, n, c, rfl, -⟩; rfl
  one := by rintro w o cs z ⟨s, g, A, n, c, rfl, -⟩ u hu; simp at hu; rcases hu with rfl | rfl | rfl <;> rfl
  nod := by
    rintro w o cs z ⟨s, g, A, n, c, rfl, -⟩ u hu
    simp at hu
    rcases hu with rfl | rfl | rfl
    · exact NoDig.int _
    · exact NoDig.bool _
    · exact NoDig.slice _ _ _
  up := by rintro w w' o cs z ⟨s, g, A, n, c, rfl, h⟩ hu; exact ⟨s, g, A, n, c, rfl, h.up hu⟩
  grow := by
    rintro w w' o cs z ⟨s, g, A, n, c, rfl, h⟩ hg hd
    refine ⟨s, g, A, n, c, rfl, ?_⟩
    rcases h with h | ⟨h1, h2, h3, h4, h5⟩
    · exact .inl h
    · exact .inr ⟨h1, h2, h3, ev_keep h4 hg.size (fun b off i u e hc => hg.cell hc (fun e2 => h5 b e2.symm b off e rfl)), h5⟩
  move := by
    rintro w o cs z ⟨s, g, A, n, c, rfl, h⟩
    refine ⟨s, g, A, n, c, rfl, ?_⟩
    rcases h with h | ⟨h1, h2, h3, h4, h5⟩
    · exact .inl h
    · refine .inr ⟨h1, h2, h3, h4, fun k e b off e2 => ?_⟩
      cases e
      obtain ⟨b', off', e3, hb, -⟩ := ev_ne h4 (by omega)
      rw [e2] at e3
      cases e3
      omega
theorem eltR_none {w : World} {o : Option Nat} {cs : List Value} {z : Int} (h : eltR.rel w o cs z) : eltR.rel w none cs z := by
  obtain ⟨s, g, A, n, c, rfl, h⟩ := h
  exact ⟨s, g, A, n, c, rfl, h.ri.ria⟩
/-- Block g is a variable of the reference's type of rows. -/
def CellQ (w : World) (g : Nat) (v : Value) (s : Int) (b : Bool) (v2 : Value) : Prop := w.heap[g]? = some (.cells #[v, .int .i64 s, .bool b, v2] 70 (0, 0))
theorem CellQ.lt {w : World} {g : Nat} {v v2 : Value} {s : Int} {b : Bool} (h : CellQ w g v s b v2) : g < w.heap.size := by
  rcases Nat.lt_or_ge g w.heap.size with h1 | h1
  · exact h1
  · unfold CellQ at h; rw [Array.getElem?_eq_none h1] at h; cases h
theorem CellQ.up {w w' : World} {g : Nat} {v v2 : Value} {s : Int} {b : Bool} (h : CellQ w g v s b v2) (hu : Up w w') : CellQ w' g v s b v2 := (hu.block g h.lt).trans h
theorem CellQ.facts {w : World} {g : Nat} {v v2 : Value} {s : Int} {b : Bool} (h : CellQ w g v s b v2) : w.cell? ⟨g, 0, none⟩ = some v ∧ w.cell? ⟨g, 1, none⟩ = some (.int .i64 s) ∧ w.cell? ⟨g, 2, none⟩ = some (.bool b) ∧ w.cell? ⟨g, 3, none⟩ = some v2 ∧ w.frozen? ⟨g, 0, none⟩ = false ∧ g < w.heap.size :=
  ⟨by rw [cell_of_row w g 0 _ _ _ h]; rfl, by rw [cell_of_row w g 1 _ _ _ h]; rfl, by rw [cell_of_row w g 2 _ _ _ h]; rfl, by rw [cell_of_row w g 3 _ _ _ h]; rfl, by unfold CellQ at h; simp [World.frozen?, h], h.lt⟩
theorem CellQ.new (w : World) (v v2 : Value) (s : Int) (b : Bool) : CellQ (w.alloc (.cells #[v, .int .i64 s, .bool b, v2] 70)) w.heap.size v s b v2 := heap_alloc_new w _
theorem CellQ.set {w : World} {g : Nat} {v v2 : Value} {s : Int} {b : Bool} (h : CellQ w g v s b v2) (v' : Value) : CellQ (w.setCell ⟨g, 0, none⟩ v') g v' s b v2 := by
  unfold CellQ at *
  simp [World.setCell, Array.getElem?_modify, h]
theorem digs_len3 {m : Nat} (h : 2305843009213693952 ≤ m) : 3 ≤ (digs 1073741824 m).length := by
  rw [digs_pos (by omega) (by omega), digs_pos (by omega) (by omega), digs_pos (by omega) (by omega)]
  simp
theorem CellQ.away {w : World} {g : Nat} {v v2 : Value} {s : Int} {b : Bool} (hg : CellQ w g v s b v2) (hv : ∀ x, v ≠ .int .i64 x) {A : Option Addr} {n c m : Nat} (h : Ev w (.slice A n c) m) (hm : 2305843009213693952 ≤ m) : Away A g := by
  intro b' off e e2
  obtain ⟨b2, off2, e3, hb, hc⟩ := ev_ne h (by omega)
  rw [e] at e3
  cases e3
  subst e2
  obtain ⟨c0, c1, c2, c3, -, -⟩ := hg.facts
  have hl := digs_len3 hm
  have k0 := hc 0 (by omega)
  have k1 := hc 1 (by omega)
  have k2 := hc 2 (by omega)
  rcases (show off = 0 ∨ off = 1 ∨ off = 2 ∨ 3 ≤ off by omega) with rfl | rfl | rfl | h3
  · rw [Nat.add_zero, c0] at k0; injection k0 with k0; exact hv _ k0
  · rw [show 1 + 1 = 2 from rfl, c2] at k1; cases k1
  · rw [Nat.add_zero, c2] at k0; cases k0
  · rw [cell_of_row w b' _ _ _ _ hg] at k1
    rw [Array.getElem?_eq_none (by simp; omega)] at k1
    cases k1
theorem RIa.put {w : World} {o : Option Nat} {s : Int} {b : Bool} {A : Option Addr} {n c : Nat} {z : Int} (h : RIa w o s b A n c z) {g : Nat} {v v2 : Value} {s' : Int} {b' : Bool} (hg : CellQ w g v s' b' v2) (hv : ∀ x, v ≠ .int .i64 x) (i : Nat) (u : Value) : RIa (w.setCell ⟨g, i, none⟩ u) o s b A n c z := by
  rcases h with h | ⟨h1, h2, h3, h4, h5⟩
  · exact .inl h
  · have ha := hg.away hv h4 h3
    refine .inr ⟨h1, h2, h3, ev_keep h4 (by simp [World.setCell]) (fun b off j u' e hc => ?_), h5⟩
    have hne := ha b off e
    rw [World.cell?_setCell_other _ _ _ _ (by intro e; injection e with e; exact hne e.symm)]
    exact hc
theorem OwE.putQ {w0 w : World} {v : Value} {zs : List Int} (h : OwE eltR w0 w 61 v zs) {g : Nat} {v1 v2 : Value} {s' : Int} {b' : Bool} (hg : CellQ w g v1 s' b' v2) (hv : ∀ x, v1 ≠ .int .i64 x) (i : Nat) (u : Value) : OwE eltR w0 (w.setCell ⟨g, i, none⟩ u) 61 v zs := by
  obtain ⟨css, h1, h2, h3⟩ := h
  have hne : ∀ k, v.ownBlock = some k → k ≠ g := by
    intro k hk e
    subst e
    rcases h2.2 with ⟨rfl, -⟩ | ⟨g', cap, cur, rfl, hb, hgh, -⟩
    · cases hk
    · cases hk
      unfold CellQ at hg
      rw [hgh] at hg
      injection hg with hg
      injection hg with e1 e2
      exact absurd e2 (by decide)
  refine ⟨css, h1.map ?_, ?_, fun k hk j x => ?_⟩
  · rintro cs z ⟨s, b, A, n, c, rfl, h⟩
    exact ⟨s, b, A, n, c, rfl, h.put hg hv i u⟩
  · refine ⟨h2.1, ?_⟩
    rcases h2.2 with h | ⟨k, cap, cur, rfl, hb, hgh, hr⟩
    · exact .inl h
    · exact .inr ⟨k, cap, cur, rfl, hb, (Below.heap_setCell w ⟨g, i, none⟩ u k (hne k rfl)).trans hgh, hr⟩
  · have := hne k hk
    rw [World.cell?_setCell_other _ _ _ _ (by intro e; injection e with e; exact this e.symm)]
    exact h3 k hk j x
theorem info_ri : (Tryz.prog.info? 61).map (fun i => (i.zero, i.size, i.bytes)) = some (some (.agg #[.int .i64 0, .bool false, .slice none 0 0]), 3, 40) := by kernel_rfl
theorem zri_nod : ∀ u ∈ (Value.agg #[.int .i64 0, .bool false, .slice none 0 0]).cells.toList, NoDig u := by
  intro u hu
  simp [Value.cells] at hu
  rcases hu with rfl | rfl | rfl
  · exact NoDig.int _
  · exact NoDig.bool _
  · exact NoDig.slice _ _ _
end Go.Proofs.YtgcmogldiahdpaaGreatDoor
namespace Go.Proofs.YtgcmogldiahdpaaGreatDoor
open Go.RowKit Fm
/-- The value reads as the row of integers zs with the integer x. -/
def RowQ (w0 w : World) (v : Value) (zs : List Int) (x : Int) : Prop :=
  ∃ A c s b A2 n2 c2, v = .agg #[.slice A zs.length c, .int .i64 s, .bool b, .slice A2 n2 c2] ∧ zs.length ≤ c ∧ c ≤ maxLen ∧ RdE eltR w A zs ∧ RI w (.agg #[.int .i64 s, .bool b, .slice A2 n2 c2]) x ∧ ∀ b off, A = some ⟨b, off, none⟩ → w0.heap.size ≤ b
theorem CellQ.set1 {w : World} {g : Nat} {v v2 : Value} {s : Int} {b : Bool} (h : CellQ w g v s b v2) (s' : Int) : CellQ (w.setCell ⟨g, 1, none⟩ (.int .i64 s')) g v s' b v2 := by
  unfold CellQ at *
  simp [World.setCell, Array.getElem?_modify, h]
theorem CellQ.set2 {w : World} {g : Nat} {v v2 : Value} {s : Int} {b : Bool} (h : CellQ w g v s b v2) (b' : Bool) : CellQ (w.setCell ⟨g, 2, none⟩ (.bool b')) g v s b' v2 := by
  unfold CellQ at *
  simp [World.setCell, Array.getElem?_modify, h]
theorem CellQ.set3 {w : World} {g : Nat} {v v2 : Value} {s : Int} {b : Bool} (h : CellQ w g v s b v2) (v' : Value) : CellQ (w.setCell ⟨g, 3, none⟩ v') g v s b v' := by
  unfold CellQ at *
  simp [World.setCell, Array.getElem?_modify, h]
theorem CellQ.frz {w : World} {g : Nat} {v v2 : Value} {s : Int} {b : Bool} (h : CellQ w g v s b v2) : w.frozen? ⟨g, 0, none⟩ = false ∧ w.frozen? ⟨g, 1, none⟩ = false ∧ w.frozen? ⟨g, 2, none⟩ = false ∧ w.frozen? ⟨g, 3, none⟩ = false := by
  unfold CellQ at h
  refine ⟨?_, ?_, ?_, ?_⟩ <;> simp [World.frozen?, h]
theorem CellQ.far {w : World} {g g' : Nat} {v v2 : Value} {s : Int} {b : Bool} (h : CellQ w g v s b v2) (hne : g ≠ g') (i : Nat) (u : Value) : CellQ (w.setCell ⟨g', i, none⟩ u) g v s b v2 := by
  unfold CellQ at *
  rw [Below.heap_setCell _ ⟨g', i, none⟩ u g hne]
  exact h
/-- Row v, s, b, v2 in block g. -/
def rowSet (w : World) (g : Nat) (v : Value) (s : Int) (b : Bool) (v2 : Value) : World := (((w.setCell ⟨g, 0, none⟩ v).setCell ⟨g, 1, none⟩ (.int .i64 s)).setCell ⟨g, 2, none⟩ (.bool b)).setCell ⟨g, 3, none⟩ v2
theorem CellQ.put {w : World} {g : Nat} {v v2 : Value} {s : Int} {b : Bool} (h : CellQ w g v s b v2) (v' : Value) (s' : Int) (b' : Bool) (v2' : Value) : CellQ (rowSet w g v' s' b' v2') g v' s' b' v2' := (((h.set v').set1 s').set2 b').set3 v2'
theorem OwE.putRow {w0 w : World} {v : Value} {zs : List Int} (h : OwE eltR w0 w 61 v zs) {g : Nat} {v1 v2 : Value} {s : Int} {b : Bool} (hg : CellQ w g v1 s b v2) (hv : ∀ x, v1 ≠ .int .i64 x) (v' : Value) (hv' : ∀ x, v' ≠ .int .i64 x) (s' : Int) (b' : Bool) (v2' : Value) : OwE eltR w0 (rowSet w g v' s' b' v2') 61 v zs :=
  (((h.putQ hg hv 0 v').putQ (hg.set v') hv' 1 (.int .i64 s')).putQ ((hg.set v').set1 s') hv' 2 (.bool b')).putQ (((hg.set v').set1 s').set2 b') hv' 3 v2'
theorem RIa.putRow {w : World} {o : Option Nat} {s0 : Int} {b0 : Bool} {A : Option Addr} {n c : Nat} {z : Int} (h : RIa w o s0 b0 A n c z) {g : Nat} {v1 v2 : Value} {s : Int} {b : Bool} (hg : CellQ w g v1 s b v2) (hv : ∀ x, v1 ≠ .int .i64 x) (v' : Value) (hv' : ∀ x, v' ≠ .int .i64 x) (s' : Int) (b' : Bool) (v2' : Value) : RIa (rowSet w g v' s' b' v2') o s0 b0 A n c z :=
  (((h.put hg hv 0 v').put (hg.set v') hv' 1 (.int .i64 s')).put ((hg.set v').set1 s') hv' 2 (.bool b')).put (((hg.set v').set1 s').set2 b') hv' 3 v2'
theorem Up.putQ {w0 w : World} {g : Nat} (h : Up w0 w) (hg : w0.heap.size ≤ g) (v : Value) (s : Int) (b : Bool) (v2 : Value) : Up w0 (rowSet w g v s b v2) :=
  (((Below.setCell (p := ⟨g, 0, none⟩) h hg v).setCell (p := ⟨g, 1, none⟩) hg (.int .i64 s)).setCell (p := ⟨g, 2, none⟩) hg (.bool b)).setCell (p := ⟨g, 3, none⟩) hg v2
theorem OwE.base {α : Type} {E : Elt α} {w0 w0' w : World} {t : TypeId} {v : Value} {zs : List α} (h : OwE E w0 w t v zs) (hs : w0'.heap.size = w0.heap.size) : OwE E w0' w t v zs := by
  obtain ⟨css, h1, h2, h3⟩ := h
  exact ⟨css, h1, by rw [hs]; exact h2, h3⟩
theorem setCell_size (w : World) (p : Addr) (u : Value) : (w.setCell p u).heap.size = w.heap.size := by simp [World.setCell]
theorem Up.both {a b : World} (h : Up a b) (g i : Nat) (u : Value) : Up (a.setCell ⟨g, i, none⟩ u) (b.setCell ⟨g, i, none⟩ u) := by
  refine ⟨h.os, h.tape, h.output, by rw [setCell_size, setCell_size]; exact h.size, fun k hk => ?_⟩
  rw [setCell_size] at hk
  have := h.block k hk
  simp only [World.setCell, Array.getElem?_modify]
  rw [this]
/-- 'append(list, x)', as one operation. -/
theorem oper_pushE {α : Type} (E : Elt α) {w : World} {o : Oper} {a : Act} {K : Act → World → Prop} {Q : Exit → Act → World → Prop} (w0 : World) (s x : Operand) (t e : TypeId)
    (ho : o.op = .call { callee := .builtin .append, args := #[s, x], argTypes := #[t, t] }) (z0 : Value) (bytes : Nat) (ht : Tryz.prog.underlying t = some (.slice e)) (hi : (Tryz.prog.info? e).map (fun i => (i.zero, i.size, i.bytes)) = some (some z0, E.size, bytes)) (hzs : z0.cells.size = E.size) (hzz : ∀ u ∈ z0.cells.toList, NoDig u) (hby : bytes ≤ 128)
    (v : Value) (zs : List α) (hs : a.eval s = v) (hown : OwE E w0 w e v zs) (hu : Up w0 w)
    (ad : Addr) (hx : a.eval x = .slice (some ad) 1 1) (cs : List Value) (z : α) (hcell : ∀ j u, cs[j]? = some u → w.cell? (ad.add j) = some u) (hrel : E.rel w v.ownBlock cs z) (hlen : zs.length ≤ 1000000000)
    (h : ∀ v' w', OwE E w0 w' e v' (zs ++ [z]) → Up w0 w' → K (a.put o.dst v') w') : Oper.wp Tryz.prog o a w K Q := by
  obtain ⟨css, h1, h2, h3⟩ := hown
  obtain ⟨i0, hi0, hz0, hz1, hz2⟩ := info_parts hi
  have hbb : (zs.length + 1) * bytes ≤ 140737488355328 := by
    have : (zs.length + 1) * bytes ≤ 1000000001 * 128 := Nat.mul_le_mul (by omega) hby
    omega
  obtain ⟨v', w', hr, k1, k2, k3, k4⟩ := run_push w w0.heap.size t o.type e i0 z0 E.size bytes ht hi0 hz0 hz1 hz2 hzs E.pos v zs.length css.flatten h2 h3 ad 1 cs (E.len hrel) hcell (E.one hrel) (E.nod hrel) hzz (by unfold maxLen; omega) hbb hu.size
  have hE : Elts E w' v'.ownBlock (css ++ [cs]) (zs ++ [z]) := by
    have a1 : Elts E w v.ownBlock (css ++ [cs]) (zs ++ [z]) := h1.snoc hrel
    rcases k4 with e1 | ⟨e1, e2⟩
    · rw [e1]; exact a1.map fun h => E.grow h k2 h3
    · rw [e1]
      exact (a1.map (o' := some w.heap.size) fun h => E.move h).map fun h => E.grow h e2 fun g hg j x => by
        cases hg
        simp [World.cell?]
  have hO : OwE E w0 w' e v' (zs ++ [z]) := by
    refine ⟨css ++ [cs], hE, ?_, k3⟩
    rw [List.length_append, List.flatten_append]
    simpa using k1
  have hU : Up w0 w' := Below.grown hu k2 hu.size (fun k hk => (h2.lt k hk).1)
  unfold Oper.wp execOp
  simp only [ho, resolve, invoke, builtin, Sem.run_bind, Sem.run_pure, Result.andThen_ok, List.map_toArray, List.map_cons, List.map_nil, hs, hx, hr]
  exact h v' w' hO hU
/-- 'append(list, x)' inside a region that is walked operation by operation. -/
theorem step_pushE {α : Type} (E : Elt α) {w : World} {ops : Array Oper} {o : Oper} {a : Act} {K : Act → World → Prop} {Q : Exit → Act → World → Prop} {F : Prop} (w0 : World) (hgd : o.guard = none) (s x : Operand) (t e : TypeId)
    (ho : o.op = .call { callee := .builtin .append, args := #[s, x], argTypes := #[t, t] }) (z0 : Value) (bytes : Nat) (ht : Tryz.prog.underlying t = some (.slice e)) (hi : (Tryz.prog.info? e).map (fun i => (i.zero, i.size, i.bytes)) = some (some z0, E.size, bytes)) (hzs : z0.cells.size = E.size) (hzz : ∀ u ∈ z0.cells.toList, NoDig u) (hby : bytes ≤ 128)
    (v : Value) (zs : List α) (hs : a.eval s = v) (hown : OwE E w0 w e v zs) (hu : Up w0 w)
    (ad : Addr) (hx : a.eval x = .slice (some ad) 1 1) (cs : List Value) (z : α) (hcell : ∀ j u, cs[j]? = some u → w.cell? (ad.add j) = some u) (hrel : E.rel w v.ownBlock cs z) (hlen : zs.length ≤ 1000000000)
    (h : ∀ v' w', OwE E w0 w' e v' (zs ++ [z]) → Up w0 w' → K (a.put o.dst v') w') : if Region.wanted o (yielded ops a.tmps) = true then Oper.wp Tryz.prog o a w K Q else F := by
  have hw : Region.wanted o (yielded ops a.tmps) = true := by simp [Region.wanted, hgd]
  rw [if_pos hw]
  exact oper_pushE E w0 s x t e ho z0 bytes ht hi hzs hzz hby v zs hs hown hu ad hx cs z hcell hrel hlen h
/-- The same in a list of operations that are run in order. -/
theorem wpList_pushQ {α : Type} (E : Elt α) {w : World} {ops : Array Oper} {rest : List Oper} {o : Oper} {a : Act} {Q : Exit → Act → World → Prop} (w0 : World) (hgd : o.guard = none) (s x : Operand) (t e : TypeId)
    (ho : o.op = .call { callee := .builtin .append, args := #[s, x], argTypes := #[t, t] }) (z0 : Value) (bytes : Nat) (ht : Tryz.prog.underlying t = some (.slice e)) (hi : (Tryz.prog.info? e).map (fun i => (i.zero, i.size, i.bytes)) = some (some z0, E.size, bytes)) (hzs : z0.cells.size = E.size) (hzz : ∀ u ∈ z0.cells.toList, NoDig u) (hby : bytes ≤ 128)
    (v : Value) (zs : List α) (hs : a.eval s = v) (hown : OwE E w0 w e v zs) (hu : Up w0 w)
    (ad : Addr) (hx : a.eval x = .slice (some ad) 1 1) (cs : List Value) (z : α) (hcell : ∀ j u, cs[j]? = some u → w.cell? (ad.add j) = some u) (hrel : E.rel w v.ownBlock cs z) (hlen : zs.length ≤ 1000000000)
    (h : ∀ v' w', OwE E w0 w' e v' (zs ++ [z]) → Up w0 w' → wpList Tryz.prog ops Q rest (a.put o.dst v') w') : wpList Tryz.prog ops Q (o :: rest) a w :=
  wpList_plain hgd fun _ hK => oper_pushE E w0 s x t e ho z0 bytes ht hi hzs hzz hby v zs hs hown hu ad hx cs z hcell hrel hlen fun v' w' h1 h2 => hK _ _ (h v' w' h1 h2)
/-- A new element of a list, away from the list's block. -/
theorem RIa.elt {w : World} {s : Int} {b : Bool} {A : Option Addr} {n c : Nat} {z : Int} (h : RI w (.agg #[.int .i64 s, .bool b, .slice A n c]) z) {o : Option Nat} (ho : ∀ k, o = some k → 2305843009213693952 ≤ z.natAbs → Away A k) : eltR.rel w o [.int .i64 s, .bool b, .slice A n c] z := by
  refine ⟨s, b, A, n, c, rfl, ?_⟩
  rcases h.ria with h | ⟨h1, h2, h3, h4, -⟩
  · exact .inl h
  · exact .inr ⟨h1, h2, h3, h4, fun k e => ho k e h3⟩
set_option maxHeartbeats 1000000 in
set_option maxRecDepth 10000 in
theorem refRowTo_any (A : Option Addr) (c : Nat) (xs : List Int) (x : Int) (w : World) (hn : xs.length ≤ 1000000) (hr : RdI w A xs) (hx : ∀ y, y ∈ xs → -2305843009213693952 < y ∧ y < 2305843009213693952) (hx0 : -9223372036854775808 ≤ x ∧ x ≤ 9223372036854775807) :
    Calls Tryz.prog 45 #[.agg #[.slice A xs.length c, .int .i64 x]] w fun e w' => ∃ v, e = .returned v ∧ RowQ w w' v xs x ∧ Up w w' := by
  have HX0 := Lib.hid (fun W => refOf_any x W hx0.1 hx0.2)
  have HC0 := Lib.hid (CellF.new w A xs.length c x)
  have HU0 := Lib.hid (Up.alloc w (.cells #[.slice A xs.length c, .int .i64 x] 33))
  clear hx0
  go_enter Tryz.func45, Tryz.ntmps45
  obtain ⟨p0, p1, -, -, lg⟩ := HC0.out.facts
  go_wp2_with fail
  refine Calls.mono (HX0.out _) ?_
  rintro e w1 ⟨v0, rfl, hv, hu⟩
  have HU1 := Lib.hid hu
  have HV0 := Lib.hid hv
  obtain ⟨s0, b0, A0, n0, c0, rfl, -⟩ := hv.open_
  clear p0 p1 lg
  have HC1 := Lib.hid (HC0.out.up ((Up.alloc _ _).trans hu))
  have HQ1 := Lib.hid ((CellQ.new (w.alloc (.cells #[.slice A xs.length c, .int .i64 x] 33)) (.slice none 0 0) (.slice none 0 0) 0 false).up hu)
  rw [size_alloc] at HQ1
  have HUW := Lib.hid ((HU0.out.trans (Up.alloc _ _)).trans hu)
  clear hu hv HC0 HU0 HU1
  obtain ⟨g0, hg0⟩ : ∃ g0, g0 = w.heap.size := ⟨_, rfl⟩
  obtain ⟨g1, hg1⟩ : ∃ g1, g1 = w.heap.size + 1 := ⟨_, rfl⟩
  have HG1 := Lib.hid (show w.heap.size ≤ g1 by omega)
  have HNE := Lib.hid (show g0 ≠ g1 by omega)
  rw [← hg0] at HC1
  rw [← hg1] at HQ1
  rw [← hg1, ← hg0]
  clear hg0 hg1
  obtain ⟨q0, q1, q2, q3, fz, lq⟩ := HQ1.out.facts
  obtain ⟨p0, p1, -, -, lp⟩ := HC1.out.facts
  go_wp2
  have HUA := Lib.hid (Up.alloc w1 (.cells #[.slice none 0 0, .int .i64 s0, .bool b0, .slice A0 n0 c0] 70))
  have HQA := Lib.hid (CellQ.new w1 (.slice none 0 0) (.slice A0 n0 c0) s0 b0)
  have hsa := size_alloc w1 (.cells #[.slice none 0 0, .int .i64 s0, .bool b0, .slice A0 n0 c0] 70)
  generalize w1.alloc (.cells #[.slice none 0 0, .int .i64 s0, .bool b0, .slice A0 n0 c0] 70) = wA at *
  obtain ⟨g2, hg2⟩ : ∃ g2, g2 = w1.heap.size := ⟨_, rfl⟩
  have HG2 := Lib.hid (show w1.heap.size ≤ g2 by omega)
  have HN12 := Lib.hid (show g1 ≠ g2 by have := HQ1.out.lt; omega)
  rw [← hg2] at HQA ⊢
  clear hg2 hsa q0 q1 q2 q3 fz lq p0 p1 lp
  have HRX := Lib.hid (hr.up HUW.out)
  go_loopw [13] (fun i wr => ∃ k : Nat, k ≤ xs.length ∧ i = .int .i64 k ∧ ∃ wB A5 c5, Hid (CellQ wB g2 (.slice A5 k c5) s0 b0 (.slice A0 n0 c0)) ∧ Hid (Up w1 wB) ∧ Hid (OwE eltR wB wr 61 (.slice A5 k c5) (xs.take k)) ∧ Hid (Up wB wr)) (fun i _ => xs.length - (intOf i).toNat)
  case atStart => exact ⟨0, by omega, rfl, wA, none, 0, HQA, HUA, Lib.hid (OwE.nil _ _ _ _), Lib.hid (Up.refl _)⟩
  case round =>
    obtain ⟨k, hk, rfl, wB, A5, c5, HQ, HUB, HOW, HU⟩ := hrel
    obtain ⟨q0, q1, q2, q3, fz, lq⟩ := (HQ.out.up HU.out).facts
    by_cases hkl : k < xs.length
    · obtain ⟨b, off, rfl, hbb, c0⟩ := (HRX.out.up (HUB.out.trans HU.out)).at_ hkl
      have hxi := hx xs[k] (List.getElem_mem hkl)
      have HNEXT : Hid (xs.take (k + 1) = xs.take k ++ [xs[k]]) := Lib.hid (by rw [List.take_succ_eq_append_getElem hkl])
      generalize xs[k] = y at *
      have HOF := Lib.hid (fun W => refOf_any y W (by omega) (by omega))
      have HLK : Hid ((xs.take k ++ [y]).length = k + 1) := Lib.hid (by rw [List.length_append, List.length_take]; simp; omega)
      have HSM := Lib.hid hxi
      have HLEN : Hid ((xs.take k).length ≤ 1000000000) := Lib.hid (by rw [List.length_take]; omega)
      clear hxi
      go_upto_region 5 with fail
      clear c0 hbb
      have i0 : (0 : Int) ≤ (k : Int) := by omega
      go_region_law
        ((first
          | (go_simp
             go_at_call 107
             refine Calls.mono (HOF.out _) ?_
             rintro e w3 ⟨v1, rfl, hv, hu⟩
             have HU3 := Lib.hid hu
             have HV := Lib.hid hv
             obtain ⟨s2, b2, A3, m2, k2, rfl, -⟩ := hv.open_
             obtain ⟨q0, q1, q2, q3, fz, lq⟩ := (HQ.out.up (w' := w3) (by (repeat (first | exact Below.refl _ _ | exact Go.RowKit.Hid.out (by assumption) | refine Up.trans ?_ (Up.drew _) | refine Up.trans ?_ (Up.drewN _ _) | refine Up.trans ?_ (Up.alloc _ _) | refine Up.trans ?_ (Go.RowKit.Hid.out (by assumption)))))).facts
             clear hu hv)
          | (refine step_pushE eltR wB rfl (.tmp 18) (.tmp 21) 68 61 rfl _ 40 Tryz.underlying68 info_ri rfl zri_nod (by decide) _ (xs.take k) rfl (HOW.out.up (by (repeat (first | exact Below.refl _ _ | exact Go.RowKit.Hid.out (by assumption) | refine Up.trans ?_ (Up.drew _) | refine Up.trans ?_ (Up.drewN _ _) | refine Up.trans ?_ (Up.alloc _ _) | refine Up.trans ?_ (Go.RowKit.Hid.out (by assumption)))))) (by (repeat (first | exact Below.refl _ _ | exact Go.RowKit.Hid.out (by assumption) | refine Up.trans ?_ (Up.drew _) | refine Up.trans ?_ (Up.drewN _ _) | refine Up.trans ?_ (Up.alloc _ _) | refine Up.trans ?_ (Go.RowKit.Hid.out (by assumption))))) ⟨w3.heap.size, 0, none⟩ rfl [.int .i64 s2, .bool b2, .slice A3 m2 k2] y (fun j u h => new_cells w3 [.int .i64 s2, .bool b2, .slice A3 m2 k2] _ j u h) (RIa.elt (HV.out.up (by (repeat (first | exact Below.refl _ _ | exact Go.RowKit.Hid.out (by assumption) | refine Up.trans ?_ (Up.drew _) | refine Up.trans ?_ (Up.drewN _ _) | refine Up.trans ?_ (Up.alloc _ _) | refine Up.trans ?_ (Go.RowKit.Hid.out (by assumption)))))) (fun _ _ h => by have := HSM.out; omega)) HLEN.out ?_
             intro v' w' hown' hup'
             have HOW' := Lib.hid hown'
             have HU' := Lib.hid hup'
             obtain ⟨A6, c6, e6, -⟩ := hown'.read eltR_none
             rw [HLK.out] at e6
             subst e6
             obtain ⟨q0, q1, q2, q3, fz, lq⟩ := (HQ.out.up hup').facts
             clear hown' hup')))
      all_goals
        go_wp2
        exact ⟨⟨k + 1, by omega, by simp, wB.setCell ⟨g2, 0, none⟩ (.slice A6 (k + 1) c6), A6, c6, Lib.hid (HQ.out.set _), Lib.hid (Below.setCell (p := ⟨g2, 0, none⟩) HUB.out HG2.out _), Lib.hid (((by rw [HNEXT.out]; exact HOW'.out : OwE eltR wB w' 61 (.slice A6 (k + 1) c6) (xs.take (k + 1))).putQ (HQ.out.up HU'.out) (fun x e => by cases e) 0 _).base (setCell_size _ _ _)), Lib.hid (HU'.out.both g2 0 _)⟩, by simp [intOf]; omega⟩
    · have hke : k = xs.length := by omega
      subst hke
      rw [List.take_length] at HOW
      have HQF := Lib.hid (HQ1.out.up (HUB.out.trans HU.out))
      obtain ⟨r0, r1, r2, r3, -, lr⟩ := HQF.out.facts
      obtain ⟨f0, f1, f2, f3⟩ := HQF.out.frz
      have HFF := Lib.hid ((HQF.out.put (.slice A5 xs.length c5) s0 b0 (.slice A0 n0 c0)).facts)
      have HLO := Lib.hid (HOW.out.putRow HQF.out (fun x e => by cases e) (.slice A5 xs.length c5) (fun x e => by cases e) s0 b0 (.slice A0 n0 c0))
      have HRO := Lib.hid (((HV0.out.up (HUB.out.trans HU.out)).ria).putRow HQF.out (fun x e => by cases e) (.slice A5 xs.length c5) (fun x e => by cases e) s0 b0 (.slice A0 n0 c0))
      have HUF := Lib.hid (((HUW.out.trans HUB.out).trans HU.out).putQ HG1.out (.slice A5 xs.length c5) s0 b0 (.slice A0 n0 c0))
      have HSZ := Lib.hid ((HUW.out.trans HUB.out).size)
      go_wp2
      obtain ⟨z0, z1, z2, z3, -, -⟩ := HFF.out
      simp only [rowSet] at z0 z1 z2 z3
      refine bodyPost_ret (by simp [results, Tryz.results45, go_sem, z0, z1, z2, z3]; try rfl) rfl ?_
      obtain ⟨A9, c9, e9, l1, l2, l3, l4⟩ := HLO.out.read eltR_none
      cases e9
      exact ⟨_, rfl, ⟨A5, c5, s0, b0, A0, n0, c0, rfl, l1, l2, l3, HRO.out.ri, fun b off e => Nat.le_trans HSZ.out (l4 b off e)⟩, HUF.out⟩
end Go.Proofs.YtgcmogldiahdpaaGreatDoor
namespace Go.Proofs.YtgcmogldiahdpaaGreatDoor
open Go.RowKit Fm
theorem RIa.grown {w w' : World} {o : Option Nat} {s : Int} {g : Bool} {A : Option Addr} {n c : Nat} {z : Int} (h : RIa w o s g A n c z) (hg : w.grownBy w' o) : RIa w' o s g A n c z := by
  rcases h with h | ⟨h1, h2, h3, h4, h5⟩
  · exact .inl h
  · exact .inr ⟨h1, h2, h3, ev_keep h4 hg.size (fun b off i u e hc => hg.cell hc (fun e2 => h5 b e2.symm b off e rfl)), h5⟩
theorem RIa.moved {w : World} {o : Option Nat} {s : Int} {g : Bool} {A : Option Addr} {n c : Nat} {z : Int} (h : RIa w o s g A n c z) : RIa w (some w.heap.size) s g A n c z := by
  rcases h with h | ⟨h1, h2, h3, h4, h5⟩
  · exact .inl h
  · refine .inr ⟨h1, h2, h3, h4, fun k e b off e2 => ?_⟩
    cases e
    obtain ⟨b', off', e3, hb, -⟩ := ev_ne h4 (by omega)
    rw [e2] at e3
    cases e3
    omega
/-- Rational numbers of the reference. -/
def eltQ : Elt Rat where
  size := 6
  rel w o cs q := ∃ s g A n c s2 g2 A2 n2 c2, cs = [.int .i64 s, .bool g, .slice A n c, .int .i64 s2, .bool g2, .slice A2 n2 c2] ∧ RIa w o s g A n c q.num ∧ RIa w o s2 g2 A2 n2 c2 q.den
  pos := by decide
  len := by rintro w o cs z ⟨s, g, A, n, c, s2, g2, A2, n2, c2, rfl, -⟩; rfl
  one := by rintro w o cs z ⟨s, g, A, n, c, s2, g2, A2, n2, c2, rfl, -⟩ u hu; simp at hu; rcases hu with rfl | rfl | rfl | rfl | rfl | rfl <;> rfl
  nod := by
    rintro w o cs z ⟨s, g, A, n, c, s2, g2, A2, n2, c2, rfl, -⟩ u hu
    simp at hu
    rcases hu with rfl | rfl | rfl | rfl | rfl | rfl
    · exact NoDig.int _
    · exact NoDig.bool _
    · exact NoDig.slice _ _ _
    · exact NoDig.int _
    · exact NoDig.bool _
    · exact NoDig.slice _ _ _
  up := by rintro w w' o cs z ⟨s, g, A, n, c, s2, g2, A2, n2, c2, rfl, h, k⟩ hu; exact ⟨s, g, A, n, c, s2, g2, A2, n2, c2, rfl, h.up hu, k.up hu⟩
  grow := by rintro w w' o cs z ⟨s, g, A, n, c, s2, g2, A2, n2, c2, rfl, h, k⟩ hg hd; exact ⟨s, g, A, n, c, s2, g2, A2, n2, c2, rfl, h.grown hg, k.grown hg⟩
  move := by rintro w o cs z ⟨s, g, A, n, c, s2, g2, A2, n2, c2, rfl, h, k⟩; exact ⟨s, g, A, n, c, s2, g2, A2, n2, c2, rfl, h.moved, k.moved⟩
theorem eltQ_none {w : World} {o : Option Nat} {cs : List Value} {z : Rat} (h : eltQ.rel w o cs z) : eltQ.rel w none cs z := by
  obtain ⟨s, g, A, n, c, s2, g2, A2, n2, c2, rfl, h, k⟩ := h
  exact ⟨s, g, A, n, c, s2, g2, A2, n2, c2, rfl, h.ri.ria, k.ri.ria⟩
theorem eltQ_rq {w : World} {o : Option Nat} {cs : List Value} {z : Rat} (h : eltQ.rel w o cs z) : RQ w (.agg cs.toArray) z := by
  obtain ⟨s, g, A, n, c, s2, g2, A2, n2, c2, rfl, h, k⟩ := h
  exact ⟨s, s2, g, g2, A, A2, n, c, n2, c2, rfl, h.ri, k.ri⟩
theorem info_rq : (Tryz.prog.info? 63).map (fun i => (i.zero, i.size, i.bytes)) = some (some (.agg #[.int .i64 0, .bool false, .slice none 0 0, .int .i64 0, .bool false, .slice none 0 0]), 6, 80) := by kernel_rfl
theorem zrq_nod : ∀ u ∈ (Value.agg #[.int .i64 0, .bool false, .slice none 0 0, .int .i64 0, .bool false, .slice none 0 0]).cells.toList, NoDig u := by
  intro u hu
  simp [Value.cells] at hu
  rcases hu with rfl | rfl | rfl | rfl | rfl | rfl
  · exact NoDig.int _
  · exact NoDig.bool _
  · exact NoDig.slice _ _ _
  · exact NoDig.int _
  · exact NoDig.bool _
  · exact NoDig.slice _ _ _
/-- The numbers of a point, as rational numbers. -/
def ratsOf (xs : List (Int × Int)) : List Rat := xs.map fun p => ratOf p.1 p.2
theorem eltQ.small {w : World} {s s2 : Int} {g g2 : Bool} {A A2 : Option Addr} {n c n2 c2 : Nat} {q : Rat} (h : RQ w (.agg #[.int .i64 s, .bool g, .slice A n c, .int .i64 s2, .bool g2, .slice A2 n2 c2]) q) (h1 : q.num.natAbs < 2305843009213693952) (h2 : q.den < 2305843009213693952) {o : Option Nat} : eltQ.rel w o [.int .i64 s, .bool g, .slice A n c, .int .i64 s2, .bool g2, .slice A2 n2 c2] q := by
  obtain ⟨s', s2', g', g2', A', A2', n', c', n2', c2', e, h, k⟩ := h
  cases e
  refine ⟨s, g, A, n, c, s2, g2, A2, n2, c2, rfl, ?_, ?_⟩
  · rcases h.ria with h | ⟨_, _, h3, _⟩
    · exact .inl h
    · omega
  · rcases k.ria with h | ⟨_, _, h3, _⟩
    · exact .inl h
    · rw [Int.natAbs_natCast] at h3; omega
set_option maxHeartbeats 1000000 in
set_option maxRecDepth 10000 in
theorem refRats_any (A : Option Addr) (c : Nat) (xs : List (Int × Int)) (w : World) (hn : xs.length ≤ 1000000) (hr : RdN w A xs) (hk : okAll xs = true) :
    Calls Tryz.prog 46 #[.slice A xs.length c] w fun e w' => ∃ A' c', e = .returned (.slice A' (ratsOf xs).length c') ∧ RdE eltQ w' A' (ratsOf xs) ∧ Up w w' := by
  go_enter Tryz.func46, Tryz.ntmps46
  go_wp2
  go_loopw [3, 8] (fun v i wr => ∃ k : Nat, k ≤ xs.length ∧ i = .int .i64 k ∧ Hid (OwE eltQ w wr 63 v (ratsOf (xs.take k))) ∧ Hid (Up w wr)) (fun _ i _ => xs.length - (intOf i).toNat)
  case atStart => exact ⟨0, by omega, rfl, Lib.hid (OwE.nil _ _ _ _), Lib.hid (Up.refl _)⟩
  case round =>
    obtain ⟨k, hkk, rfl, HOW, HU⟩ := hrel
    by_cases hkl : k < xs.length
    · obtain ⟨b, off, rfl, hbb, hcell⟩ := (hr.up HU.out).at_ hkl
      have hok := okAll_get hk hkl
      have HNEXT : Hid (ratsOf (xs.take (k + 1)) = ratsOf (xs.take k) ++ [ratOf xs[k].1 xs[k].2]) := Lib.hid (by unfold ratsOf; rw [List.take_succ_eq_append_getElem hkl, List.map_append]; rfl)
      have HLEN : Hid ((ratsOf (xs.take k)).length ≤ 1000000000) := Lib.hid (by unfold ratsOf; rw [List.length_map, List.length_take]; omega)
      obtain ⟨x, hxx⟩ : ∃ x, x = xs[k].1 := ⟨_, rfl⟩
      obtain ⟨y, hyy⟩ : ∃ y, y = xs[k].2 := ⟨_, rfl⟩
      rw [← hxx, ← hyy] at hcell hok HNEXT
      obtain ⟨c0, c1⟩ := hcell
      have HT := Lib.hid (fun W => refTo_q x y W hok)
      have HSM := Lib.hid (And.intro (ratOf_ok hok) (ok_bounds hok))
      clear hxx hyy hok
      go_wp2_with fail
      have HUA := Lib.hid (Up.alloc wr (.cells #[.int .i64 x, .int .i64 y] 23))
      refine Calls.mono (HT.out _) ?_
      rintro e w1 ⟨v, rfl, hv, hu1⟩
      have HU1 := Lib.hid hu1
      have HV := Lib.hid hv
      obtain ⟨s, s2, g, g2, A5, A6, n5, c5, n6, c6, rfl, -⟩ := hv
      clear hu1 c0 c1 hbb hr
      go_wp2_with (at_builtin; refine wpList_pushQ eltQ w rfl (.tmp 12) (.tmp 15) 72 63 rfl _ 80 Tryz.underlying72 info_rq rfl zrq_nod (by decide) _ (ratsOf (xs.take k)) rfl (HOW.out.up ((HUA.out.trans HU1.out).trans (Up.alloc _ _))) (by (repeat (first | exact Below.refl _ _ | exact Go.RowKit.Hid.out (by assumption) | refine Up.trans ?_ (Up.drew _) | refine Up.trans ?_ (Up.drewN _ _) | refine Up.trans ?_ (Up.alloc _ _) | refine Up.trans ?_ (Go.RowKit.Hid.out (by assumption))))) ⟨w1.heap.size, 0, none⟩ rfl [.int .i64 s, .bool g, .slice A5 n5 c5, .int .i64 s2, .bool g2, .slice A6 n6 c6] (ratOf x y) (new_cells w1 [.int .i64 s, .bool g, .slice A5 n5 c5, .int .i64 s2, .bool g2, .slice A6 n6 c6] _) (eltQ.small (HV.out.up (Up.alloc _ _)) (by obtain ⟨⟨e1, e2⟩, h1, h2, h3, h4⟩ := HSM.out; omega) (by obtain ⟨⟨e1, e2⟩, h1, h2, h3, h4⟩ := HSM.out; omega)) HLEN.out ?_; intro v' w' hown' hup')
      exact ⟨⟨k + 1, by omega, by simp, by rw [HNEXT.out]; exact Lib.hid hown', Lib.hid hup'⟩, by simp [intOf]; omega⟩
    · have hke : k = xs.length := by omega
      subst hke
      rw [List.take_of_length_le (Nat.le_refl _)] at HOW
      obtain ⟨A5, c5, rfl, -, -, h3, -⟩ := HOW.out.read eltQ_none
      have H3 := Lib.hid h3
      clear h3
      go_wp2
      go_ret
      exact ⟨A5, c5, rfl, H3.out, HU.out⟩
end Go.Proofs.YtgcmogldiahdpaaGreatDoor
namespace Go.Proofs.YtgcmogldiahdpaaGreatDoor
open Go.RowKit Fm
/-- The value of the row up to variable k. -/
def evalQ (zs : List Int) (x : Int) (qs : List Rat) : Rat := (List.zipWith (fun (z : Int) (q : Rat) => (z : Rat) * q) zs qs).foldl (· + ·) (x : Rat)
theorem foldl_dot (zs : List Int) : ∀ (xs : List (Int × Int)) (a : Rat), zs.length = xs.length → (List.zipWith (fun (z : Int) (q : Rat) => (z : Rat) * q) zs (ratsOf xs)).foldl (· + ·) a = a + dotQ (zs.map fun y => (y, (1 : Int))) xs := by
  induction zs with
  | nil => intro xs a h; simp [dotQ, Rat.add_zero]
  | cons z zs ih =>
    intro xs a h
    cases xs with
    | nil => simp at h
    | cons p xs =>
      have := ih xs (a + (z : Rat) * ratOf p.1 p.2) (by simpa using h)
      simp only [ratsOf, List.map_cons, List.zipWith_cons_cons, List.foldl_cons, dotQ, ratOf_one] at this ⊢
      rw [this, Rat.add_assoc]
theorem evalQ_dot (zs : List Int) (x : Int) (xs : List (Int × Int)) (h : zs.length = xs.length) : evalQ zs x (ratsOf xs) = (x : Rat) + dotQ (zs.map fun y => (y, (1 : Int))) xs := foldl_dot zs xs _ h
theorem evalQ_val (f : List Int × Int) (xs : List (Int × Int)) (h : f.1.length = xs.length) : evalQ f.1 f.2 (ratsOf xs) = valQ f xs := by
  rw [evalQ_dot _ _ _ h]
  unfold valQ rowF
  rw [List.map_append, dotQ_append _ _ _ _ (by simpa using h)]
  simp only [List.map_cons, List.map_nil, dotQ, ratOf_one]
  rw [Rat.add_comm, Rat.add_zero, Rat.intCast_one, Rat.mul_one]
theorem ratsOf_take (xs : List (Int × Int)) (k : Nat) : (ratsOf xs).take k = ratsOf (xs.take k) := by unfold ratsOf; rw [List.map_take]
theorem lim_okAll {zs : List Int} (h : zs.all limI = true) : okAll (zs.map fun y => (y, (1 : Int))) = true := by
  unfold okAll
  rw [List.all_map, List.all_eq_true]
  rw [List.all_eq_true] at h
  intro y hy
  exact okNum_one (h y hy)
theorem evalQ_QB (zs : List Int) (x : Int) (xs : List (Int × Int)) (h : zs.length = xs.length) (hn : zs.length ≤ 8) (hz : zs.all limI = true) (hx : limI x = true) (ho : okAll xs = true) (k : Nat) (hk : k ≤ zs.length) : QB (evalQ (zs.take k) x ((ratsOf xs).take k)) 80 := by
  rw [ratsOf_take, evalQ_dot _ _ _ (by rw [List.length_take, List.length_take, h])]
  have h1 : QB (x : Rat) 3 := by
    simp only [limI, decide_eq_true_eq] at hx
    exact int_QB (by omega) (by omega)
  have h2 := dotQ_QB ((zs.take k).map fun y => (y, (1 : Int))) (xs.take k) (by rw [List.length_map, List.length_take, List.length_take, h]) (lim_okAll (by rw [List.all_eq_true] at hz ⊢; exact fun y hy => hz y (List.mem_of_mem_take hy))) (okAll_take k ho)
  rw [List.length_map, List.length_take] at h2
  exact h1.add h2 (by omega)
end Go.Proofs.YtgcmogldiahdpaaGreatDoor
namespace Go.Proofs.YtgcmogldiahdpaaGreatDoor
open Go.RowKit Fm
set_option maxHeartbeats 1000000 in
set_option maxRecDepth 10000 in
theorem refValue_ok (A B : Option Addr) (c d n : Nat) (f : List Int × Int) (xs : List (Int × Int)) (w : World) (hn : n ≤ 8) (hfl : f.1.length = n) (hxl : xs.length = n) (hc : xs.length ≤ d) (hcm : d ≤ maxLen) (hr : RdI w A f.1) (hs : RdN w B xs)
    (hv : validF n f = true) (hp : validP n xs = true) (hx : ∀ p, p ∈ xs → Rng p.1 p.2)
    (HEV : Hid (∀ W0 W1 W v A1 c1, Up W1 W → RowQ W0 W1 v f.1 f.2 → RdE eltQ W A1 (ratsOf xs) → Calls Tryz.prog 44 #[v, .slice A1 (ratsOf xs).length c1] W fun e w' => ∃ v, e = .returned v ∧ RQ w' v (valQ f xs) ∧ Up W w')) :
    Calls Tryz.prog 19 #[.int .i64 n, .agg #[.slice A f.1.length c, .int .i64 f.2], .slice B xs.length d] w fun e w' => e = .returned (.tuple #[.agg #[.int .i64 (numX true (valQ f xs)), .int .i64 (numY true (valQ f xs))], .int .i64 (numE true (valQ f xs))]) ∧ Up w w' := by
  have HV := Lib.hid (fun W (hu : Up w W) => refValidForm_any A c n f W (by omega) (hr.up hu))
  have HP := Lib.hid (fun W (hu : Up w W) => refValidPoint_any B d n xs W hc hcm (hs.up hu) hx)
  rw [hv] at HV
  rw [hp] at HP
  have HL := rowF_lim hv
  have HLM : ∀ y, y ∈ rowF f → -1152921504606846976 ≤ y ∧ y ≤ 1152921504606846976 := fun y hy => by
    rw [List.all_eq_true] at HL
    have := HL y hy
    simp only [limI, decide_eq_true_eq] at this
    omega
  have HTO := Lib.hid (fun W (hu : Up w W) => refRowTo_any A c f.1 f.2 W (by omega) (hr.up hu) (fun y hy => by have := HLM y (List.mem_append_left _ hy); omega) (by have := HLM f.2 (by simp [rowF]); omega))
  have HRT := Lib.hid (fun W (hu : Up w W) => refRats_any B d xs W (by omega) (hs.up hu) (validP_ok hp))
  have HNU := Lib.hid (fun W v (h : RQ W v (valQ f xs)) => refNum_q v _ W h)
  rw [hfl] at HV HTO ⊢
  rw [hxl] at HP HRT ⊢
  generalize numX true (valQ f xs) = X at *
  generalize numY true (valQ f xs) = Y at *
  generalize numE true (valQ f xs) = E at *
  generalize valQ f xs = q at *
  have hl2 : (ratsOf xs).length = n := by unfold ratsOf; rw [List.length_map, hxl]
  rw [hl2] at HRT HEV
  generalize ratsOf xs = qs at *
  simp only [RowQ] at HTO HEV
  rw [hfl] at HTO HEV
  clear hl2 HL HLM hv hp hx hfl hxl hc hcm hr hs
  go_enter Tryz.func19, Tryz.ntmps19
  go_wp2_with fail
  refine Calls.mono (HV.out _ (by (repeat (first | exact Below.refl _ _ | exact Go.RowKit.Hid.out (by assumption) | refine Up.trans ?_ (Up.drew _) | refine Up.trans ?_ (Up.drewN _ _) | refine Up.trans ?_ (Up.alloc _ _) | refine Up.trans ?_ (Go.RowKit.Hid.out (by assumption)))))) ?_
  rintro e w1 ⟨rfl, hu⟩
  have HU1 := Lib.hid hu
  clear hu
  go_wp2_with fail
  refine Calls.mono (HP.out _ (by (repeat (first | exact Below.refl _ _ | exact Go.RowKit.Hid.out (by assumption) | refine Up.trans ?_ (Up.drew _) | refine Up.trans ?_ (Up.drewN _ _) | refine Up.trans ?_ (Up.alloc _ _) | refine Up.trans ?_ (Go.RowKit.Hid.out (by assumption)))))) ?_
  rintro e w2 ⟨rfl, hu⟩
  have HU2 := Lib.hid hu
  clear hu
  have HF0 := Lib.hid ((CellF.new w A n c f.2).up ((Up.alloc _ (.cells #[.int .i64 0, .int .i64 0] 23)).trans (HU1.out.trans HU2.out)))
  have HR0 := Lib.hid ((CellN.new (w.alloc (.cells #[.slice A n c, .int .i64 f.2] 33)) 0 0).up (HU1.out.trans HU2.out))
  rw [size_alloc] at HR0
  have HUW := Lib.hid (((Up.alloc w (.cells #[.slice A n c, .int .i64 f.2] 33)).trans (Up.alloc _ (.cells #[.int .i64 0, .int .i64 0] 23))).trans (HU1.out.trans HU2.out))
  obtain ⟨g0, hg0⟩ : ∃ g0, g0 = w.heap.size := ⟨_, rfl⟩
  obtain ⟨g1, hg1⟩ : ∃ g1, g1 = w.heap.size + 1 := ⟨_, rfl⟩
  have HGR := Lib.hid (show w.heap.size ≤ g1 by omega)
  rw [← hg0] at HF0
  rw [← hg1] at HR0
  rw [← hg1, ← hg0]
  clear hg0 hg1 HU1
  obtain ⟨p0, p1, -, -, lg⟩ := HF0.out.facts
  go_wp2_with fail
  refine Calls.mono (HTO.out _ (by (repeat (first | exact Below.refl _ _ | exact Go.RowKit.Hid.out (by assumption) | refine Up.trans ?_ (Up.drew _) | refine Up.trans ?_ (Up.drewN _ _) | refine Up.trans ?_ (Up.alloc _ _) | refine Up.trans ?_ (Go.RowKit.Hid.out (by assumption)))))) ?_
  rintro e w3 ⟨v3, rfl, hv3, hu⟩
  have HU3 := Lib.hid hu
  have HV3 := Lib.hid hv3
  clear hu p0 p1 lg
  obtain ⟨A3, c3, s3, b3, A4, n4, c4, rfl, -⟩ := hv3
  go_wp2_with fail
  refine Calls.mono (HRT.out _ (by (repeat (first | exact Below.refl _ _ | exact Go.RowKit.Hid.out (by assumption) | refine Up.trans ?_ (Up.drew _) | refine Up.trans ?_ (Up.drewN _ _) | refine Up.trans ?_ (Up.alloc _ _) | refine Up.trans ?_ (Go.RowKit.Hid.out (by assumption)))))) ?_
  rintro e w4 ⟨A5, c5, rfl, hv4, hu⟩
  have HU4 := Lib.hid hu
  have HV4 := Lib.hid hv4
  clear hu hv4
  go_wp2_with fail
  refine Calls.mono (HEV.out _ _ _ _ _ _ HU4.out HV3.out HV4.out) ?_
  rintro e w5 ⟨v5, rfl, hv5, hu⟩
  have HU5 := Lib.hid hu
  have HV5 := Lib.hid hv5
  clear hu hv5
  go_wp2_with fail
  refine Calls.mono (HNU.out _ _ HV5.out) ?_
  rintro e w6 ⟨rfl, hu⟩
  have HU6 := Lib.hid hu
  clear hu
  have HR8 := Lib.hid (HR0.out.up (w' := w6) (by (repeat (first | exact Below.refl _ _ | exact Go.RowKit.Hid.out (by assumption) | refine Up.trans ?_ (Up.drew _) | refine Up.trans ?_ (Up.drewN _ _) | refine Up.trans ?_ (Up.alloc _ _) | refine Up.trans ?_ (Go.RowKit.Hid.out (by assumption))))))
  obtain ⟨r0, r1, f0, f1, lr⟩ := HR8.out.facts
  have HFF := Lib.hid ((HR8.out.set X Y).facts)
  have HUF := Lib.hid ((show Up w w6 by (repeat (first | exact Below.refl _ _ | exact Go.RowKit.Hid.out (by assumption) | refine Up.trans ?_ (Up.drew _) | refine Up.trans ?_ (Up.drewN _ _) | refine Up.trans ?_ (Up.alloc _ _) | refine Up.trans ?_ (Go.RowKit.Hid.out (by assumption))))).stored HGR.out (.int .i64 X) (.int .i64 Y))
  go_wp2
  obtain ⟨z0, z1, -, -, -⟩ := HFF.out
  refine bodyPost_ret (by simp [results, Tryz.results19, go_sem, z0, z1]; try rfl) rfl ?_
  exact ⟨rfl, HUF.out⟩
set_option maxHeartbeats 1000000 in
set_option maxRecDepth 10000 in
theorem refValue_bad1 (A B : Option Addr) (c d m : Nat) (g : Nat) (n k : Int) (w : World)
    (HV : Hid (∀ W, Up w W → Calls Tryz.prog 25 #[.int .i64 n, .agg #[.slice A m c, .int .i64 k]] W fun e w' => e = .returned (.bool false) ∧ Up W w')) :
    Calls Tryz.prog 19 #[.int .i64 n, .agg #[.slice A m c, .int .i64 k], .slice B g d] w fun e w' => e = .returned (.tuple #[.agg #[.int .i64 0, .int .i64 0], .int .i64 1]) ∧ Up w w' := by
  go_enter Tryz.func19, Tryz.ntmps19
  go_wp2_with fail
  refine Calls.mono (HV.out _ (by (repeat (first | exact Below.refl _ _ | exact Go.RowKit.Hid.out (by assumption) | refine Up.trans ?_ (Up.drew _) | refine Up.trans ?_ (Up.drewN _ _) | refine Up.trans ?_ (Up.alloc _ _) | refine Up.trans ?_ (Go.RowKit.Hid.out (by assumption)))))) ?_
  rintro e w1 ⟨rfl, hu⟩
  have HU1 := Lib.hid hu
  clear hu
  have HR := Lib.hid ((CellN.new (w.alloc (.cells #[.slice A m c, .int .i64 k] 33)) 0 0).up HU1.out)
  rw [size_alloc] at HR
  have HFF := Lib.hid ((HR.out.set 0 0).facts)
  have HUF := Lib.hid ((show Up w w1 from ((Up.alloc w (.cells #[.slice A m c, .int .i64 k] 33)).trans (Up.alloc _ (.cells #[.int .i64 0, .int .i64 0] 23))).trans HU1.out).stored (show w.heap.size ≤ w.heap.size + 1 by omega) (.int .i64 0) (.int .i64 0))
  obtain ⟨r0, r1, f0, f1, lr⟩ := HR.out.facts
  go_wp2
  obtain ⟨z0, z1, -, -, -⟩ := HFF.out
  refine bodyPost_ret (by simp [results, Tryz.results19, go_sem, z0, z1]; try rfl) rfl ?_
  exact ⟨rfl, HUF.out⟩
set_option maxHeartbeats 1000000 in
set_option maxRecDepth 10000 in
theorem refValue_bad2 (A B : Option Addr) (c d m : Nat) (g : Nat) (n k : Int) (w : World)
    (HV : Hid (∀ W, Up w W → Calls Tryz.prog 25 #[.int .i64 n, .agg #[.slice A m c, .int .i64 k]] W fun e w' => e = .returned (.bool true) ∧ Up W w'))
    (HP : Hid (∀ W, Up w W → Calls Tryz.prog 23 #[.int .i64 n, .slice B g d] W fun e w' => e = .returned (.bool false) ∧ Up W w')) :
    Calls Tryz.prog 19 #[.int .i64 n, .agg #[.slice A m c, .int .i64 k], .slice B g d] w fun e w' => e = .returned (.tuple #[.agg #[.int .i64 0, .int .i64 0], .int .i64 1]) ∧ Up w w' := by
  go_enter Tryz.func19, Tryz.ntmps19
  go_wp2_with fail
  refine Calls.mono (HV.out _ (by (repeat (first | exact Below.refl _ _ | exact Go.RowKit.Hid.out (by assumption) | refine Up.trans ?_ (Up.drew _) | refine Up.trans ?_ (Up.drewN _ _) | refine Up.trans ?_ (Up.alloc _ _) | refine Up.trans ?_ (Go.RowKit.Hid.out (by assumption)))))) ?_
  rintro e w1 ⟨rfl, hu⟩
  have HU1 := Lib.hid hu
  clear hu
  go_wp2_with fail
  refine Calls.mono (HP.out _ (by (repeat (first | exact Below.refl _ _ | exact Go.RowKit.Hid.out (by assumption) | refine Up.trans ?_ (Up.drew _) | refine Up.trans ?_ (Up.drewN _ _) | refine Up.trans ?_ (Up.alloc _ _) | refine Up.trans ?_ (Go.RowKit.Hid.out (by assumption)))))) ?_
  rintro e w2 ⟨rfl, hu⟩
  have HU2 := Lib.hid hu
  clear hu
  have HR := Lib.hid ((CellN.new (w.alloc (.cells #[.slice A m c, .int .i64 k] 33)) 0 0).up (HU1.out.trans HU2.out))
  rw [size_alloc] at HR
  have HFF := Lib.hid ((HR.out.set 0 0).facts)
  have HUF := Lib.hid ((show Up w w2 from ((Up.alloc w (.cells #[.slice A m c, .int .i64 k] 33)).trans (Up.alloc _ (.cells #[.int .i64 0, .int .i64 0] 23))).trans (HU1.out.trans HU2.out)).stored (show w.heap.size ≤ w.heap.size + 1 by omega) (.int .i64 0) (.int .i64 0))
  obtain ⟨r0, r1, f0, f1, lr⟩ := HR.out.facts
  go_wp2
  obtain ⟨z0, z1, -, -, -⟩ := HFF.out
  refine bodyPost_ret (by simp [results, Tryz.results19, go_sem, z0, z1]; try rfl) rfl ?_
  exact ⟨rfl, HUF.out⟩
end Go.Proofs.YtgcmogldiahdpaaGreatDoor
namespace Go.Proofs.YtgcmogldiahdpaaGreatDoor
open Go.RowKit Fm
theorem gcdR_rl (r : List Int) : ∀ g k, rl (g : Nat) ≤ k → (∀ y, y ∈ r → rl y ≤ k) → rl ((gcdR g r : Nat) : Int) ≤ k := by
  induction r with
  | nil => intro g k h _; exact h
  | cons x r ih =>
    intro g k h hr
    refine ih _ _ ?_ fun y hy => hr y (by simp [hy])
    rcases Nat.eq_zero_or_pos g with h0 | h0
    · subst h0
      rw [Nat.gcd_zero_left]
      have := hr x (by simp)
      unfold rl at this ⊢
      rwa [Int.natAbs_natCast]
    · have h1 := rl_lt h
      rw [Int.natAbs_natCast] at h1
      exact rl_of_lt (by rw [Int.natAbs_natCast]; exact Nat.lt_of_le_of_lt (Nat.gcd_le_left _ h0) h1)
/-- A loop's variable at g, that holds z. -/
def VarI (w0 : World) (g : Nat) (z : Int) (w : World) : Prop := ∃ s b A n c, CellI w g s b (.slice A n c) ∧ RI w (.agg #[.int .i64 s, .bool b, .slice A n c]) z ∧ Up w0 w
set_option maxHeartbeats 1000000 in
set_option maxRecDepth 10000 in
theorem refDivisor_any (A A2 : Option Addr) (c c2 n2 : Nat) (s : Int) (b : Bool) (zs : List Int) (x : Int) (w : World) (hn : zs.length ≤ 1000000) (hr : RdE eltR w A zs) (hx : RI w (.agg #[.int .i64 s, .bool b, .slice A2 n2 c2]) x) (hbz : ∀ z, z ∈ zs → rl z ≤ 536870912) (hbx : rl x ≤ 536870912) :
    Calls Tryz.prog 143 #[.agg #[.slice A zs.length c, .int .i64 s, .bool b, .slice A2 n2 c2]] w fun e w' => ∃ v, e = .returned v ∧ RI w' v ((gcdR x.natAbs zs : Nat) : Int) ∧ Up w w' := by
  have HAB := Lib.hid (fun W (hu : Up w W) => refAbs_any _ x W (hx.up hu))
  go_enter Tryz.func143, Tryz.ntmps143
  have hq0 := CellQ.new w (.slice A zs.length c) (.slice A2 n2 c2) s b
  obtain ⟨q0, q1, q2, q3, -, lq⟩ := hq0.facts
  go_wp2_with fail
  have HQ0 := Lib.hid (hq0.up (Up.alloc _ (.cells #[.int .i64 0, .bool false, .slice none 0 0] 61)))
  have HR0 := Lib.hid (CellI.new (w.alloc (.cells #[.slice A zs.length c, .int .i64 s, .bool b, .slice A2 n2 c2] 70)) 0 false (.slice none 0 0))
  have HUW := Lib.hid ((Up.alloc w (.cells #[.slice A zs.length c, .int .i64 s, .bool b, .slice A2 n2 c2] 70)).trans (Up.alloc _ (.cells #[.int .i64 0, .bool false, .slice none 0 0] 61)))
  rw [size_alloc] at HR0
  clear hq0 q0 q1 q2 q3 lq
  generalize (w.alloc (.cells #[.slice A zs.length c, .int .i64 s, .bool b, .slice A2 n2 c2] 70)).alloc (.cells #[.int .i64 0, .bool false, .slice none 0 0] 61) = wB at *
  obtain ⟨g0, hg0⟩ : ∃ g0, g0 = w.heap.size := ⟨_, rfl⟩
  obtain ⟨g1, hg1⟩ : ∃ g1, g1 = w.heap.size + 1 := ⟨_, rfl⟩
  have HG1 := Lib.hid (show w.heap.size ≤ g1 by omega)
  rw [← hg0] at HQ0
  rw [← hg1] at HR0
  rw [← hg1, ← hg0]
  clear hg0 hg1
  refine Calls.mono (HAB.out _ HUW.out) ?_
  rintro e w1 ⟨v1, rfl, hv, hu⟩
  obtain ⟨s1, b1, A1, n1, c1, rfl, -⟩ := hv.open_
  have HU1 := Lib.hid hu
  have HV1 := Lib.hid hv
  clear hu hv
  obtain ⟨q0, q1, q2, q3, -, lq⟩ := (HQ0.out.up HU1.out).facts
  go_wp2_with fail
  have HST : Hid (VarI w1 w1.heap.size ((gcdR x.natAbs (zs.take 0) : Nat) : Int) (w1.alloc (.cells #[.int .i64 s1, .bool b1, .slice A1 n1 c1] 61))) := Lib.hid ⟨s1, b1, A1, n1, c1, CellI.new _ _ _ _, HV1.out.up (Up.alloc _ _), Up.alloc _ _⟩
  generalize w1.alloc (.cells #[.int .i64 s1, .bool b1, .slice A1 n1 c1] 61) = wA at *
  obtain ⟨g3, hg3⟩ : ∃ g3, g3 = w1.heap.size := ⟨_, rfl⟩
  rw [← hg3] at HST ⊢
  have HG3 := Lib.hid (show w1.heap.size ≤ g3 by omega)
  have HRE := Lib.hid (hr.up (HUW.out.trans HU1.out))
  have HRB := Lib.hid (HR0.out.up HU1.out)
  have HUX := Lib.hid (HUW.out.trans HU1.out)
  clear hg3 q0 q1 q2 q3 lq HV1 hr hx HAB HQ0 HR0 HUW
  go_loopw [12] (fun i wr => ∃ k : Nat, k ≤ zs.length ∧ i = .int .i64 k ∧ Hid (VarI w1 g3 ((gcdR x.natAbs (zs.take k) : Nat) : Int) wr)) (fun i _ => zs.length - (intOf i).toNat)
  case atStart => exact ⟨0, by omega, rfl, HST⟩
  case round =>
    obtain ⟨k, hk, rfl, HS⟩ := hrel
    obtain ⟨t5, d5, D5, m5, j5, hcr, hq, hup⟩ := HS.out
    have HCR := Lib.hid hcr
    have HQ := Lib.hid hq
    have HUP := Lib.hid hup
    clear hcr hq hup HS HST
    by_cases hkl : k < zs.length
    · obtain ⟨b, off, cs, rfl, hbb, ⟨t1, d1, D1, m1, j1, rfl, hz⟩, hcell⟩ := (HRE.out.up HUP.out).at_ hkl
      have HRI := Lib.hid hz.ri
      have c0 := hcell 0 _ rfl
      have c1 := hcell 1 _ rfl
      have c2 := hcell 2 _ rfl
      have HNEXT : Hid (gcdR x.natAbs (zs.take (k + 1)) = Int.gcd ((gcdR x.natAbs (zs.take k) : Nat) : Int) zs[k]) := Lib.hid (by rw [gcdR_take zs _ k hkl]; rfl)
      have hb1 : rl ((gcdR x.natAbs (zs.take k) : Nat) : Int) ≤ 536870912 := gcdR_rl _ _ _ (by unfold rl at hbx ⊢; rwa [Int.natAbs_natCast]) (fun y hy => hbz y (List.mem_of_mem_take hy))
      have HT := Lib.hid (fun W u1 u2 (h1 : RI W u1 ((gcdR x.natAbs (zs.take k) : Nat) : Int)) (h2 : RI W u2 zs[k]) => refGcd_any u1 u2 _ _ W h1 h2 hb1 (hbz _ (List.getElem_mem hkl)))
      clear hcell hz hb1
      simp only [eltR, Nat.add_zero] at c0 c1 c2
      generalize zs[k] = z at *
      obtain ⟨a0, a1, a2, la⟩ := HCR.out.facts
      go_wp2_with fail
      have HUY := Lib.hid (Up.alloc wr (.cells #[.int .i64 t1, .bool d1, .slice D1 m1 j1] 61))
      refine Calls.mono (HT.out _ _ _ (HQ.out.up HUY.out) (HRI.out.up HUY.out)) ?_
      rintro e w4 ⟨v4, rfl, hv, hu⟩
      have HU4 := Lib.hid hu
      have HV4 := Lib.hid hv
      obtain ⟨s4, b4, A4, n4, c4, rfl, -⟩ := hv.open_
      have HC4 := Lib.hid (HCR.out.up (HUY.out.trans hu))
      clear hu hv a0 a1 a2 la c0 c1 c2 hbb
      obtain ⟨a0, a1, a2, la⟩ := HC4.out.facts
      have f0 := HC4.out.frozen 0
      have f1 := HC4.out.frozen 1
      have f2 := HC4.out.frozen 2
      rw [← HNEXT.out] at HV4
      have HSN : Hid (VarI w1 g3 ((gcdR x.natAbs (zs.take (k + 1)) : Nat) : Int) (put3 w4 g3 (.int .i64 s4) (.bool b4) (.slice A4 n4 c4))) := Lib.hid ⟨_, _, _, _, _, HC4.out.set _ _ _, HV4.out.putI HC4.out _ _ _, Up.put3 (show Up w1 w4 by (repeat (first | exact Below.refl _ _ | exact Go.RowKit.Hid.out (by assumption) | refine Up.trans ?_ (Up.drew _) | refine Up.trans ?_ (Up.drewN _ _) | refine Up.trans ?_ (Up.alloc _ _) | refine Up.trans ?_ (Go.RowKit.Hid.out (by assumption))))) HG3.out _ _ _⟩
      go_wp2
      exact ⟨⟨k + 1, hkl, by simp, HSN⟩, by simp [intOf]; omega⟩
    · have hke : k = zs.length := by omega
      subst hke
      rw [List.take_of_length_le (Nat.le_refl _)] at HQ
      obtain ⟨a0, a1, a2, la⟩ := HCR.out.facts
      have HR8 := Lib.hid (HRB.out.up HUP.out)
      obtain ⟨r0, r1, r2, lr⟩ := HR8.out.facts
      have f0 := HR8.out.frozen 0
      have f1 := HR8.out.frozen 1
      have f2 := HR8.out.frozen 2
      have HFF := Lib.hid ((HR8.out.set t5 d5 (.slice D5 m5 j5)).facts)
      have HQF := Lib.hid (HQ.out.putI HR8.out (.int .i64 t5) (.bool d5) (.slice D5 m5 j5))
      have HUF := Lib.hid (Up.put3 (HUX.out.trans HUP.out) HG1.out (.int .i64 t5) (.bool d5) (.slice D5 m5 j5))
      go_wp2
      obtain ⟨z0, z1, z2, -⟩ := HFF.out
      simp only [put3] at z0 z1 z2
      refine bodyPost_ret (by simp [results, Tryz.results143, go_sem, z0, z1, z2]; try rfl) rfl ?_
      exact ⟨_, rfl, HQF.out, HUF.out⟩
end Go.Proofs.YtgcmogldiahdpaaGreatDoor
namespace Go.Proofs.YtgcmogldiahdpaaGreatDoor
open Go.RowKit Fm
/-- The value reads as the row of integers zs with the integer x. -/
def RowR (w : World) (v : Value) (zs : List Int) (x : Int) : Prop :=
  ∃ A c s b A2 n2 c2, v = .agg #[.slice A zs.length c, .int .i64 s, .bool b, .slice A2 n2 c2] ∧ zs.length ≤ c ∧ c ≤ maxLen ∧ RdE eltR w A zs ∧ RI w (.agg #[.int .i64 s, .bool b, .slice A2 n2 c2]) x
/-- Small integers need no memory. -/
theorem RI.keep {w w' : World} {s : Int} {b : Bool} {A : Option Addr} {n c : Nat} {z : Int} (h : RI w (.agg #[.int .i64 s, .bool b, .slice A n c]) z) (hz : z.natAbs < 2305843009213693952) : RI w' (.agg #[.int .i64 s, .bool b, .slice A n c]) z := by
  obtain ⟨s', b', A', n', c', e, h⟩ := h
  cases e
  rcases h with h | ⟨_, _, h3, _⟩
  · exact ⟨s, b, A, n, c, rfl, .inl h⟩
  · omega
theorem RdE.putQ {w : World} {A : Option Addr} {zs : List Int} (h : RdE eltR w A zs) {g : Nat} {v1 v2 : Value} {s' : Int} {b' : Bool} (hg : CellQ w g v1 s' b' v2) (hv : ∀ x, v1 ≠ .int .i64 x) (ha : zs ≠ [] → Away A g) (i : Nat) (u : Value) : RdE eltR (w.setCell ⟨g, i, none⟩ u) A zs := fun hn => by
  obtain ⟨b, off, rfl, hb, hc⟩ := h hn
  have hne := ha hn b off rfl
  refine ⟨b, off, rfl, by rw [setCell_size]; exact hb, fun j hj => ?_⟩
  obtain ⟨cs, ⟨t, d, D, m, k, rfl, h1⟩, h2⟩ := hc j hj
  refine ⟨_, ⟨t, d, D, m, k, rfl, h1.put hg hv i u⟩, fun l u' hl => ?_⟩
  rw [World.cell?_setCell_other _ _ _ _ (by intro e; injection e with e; exact hne e.symm)]
  exact h2 l u' hl
theorem RdE.putRow {w : World} {A : Option Addr} {zs : List Int} (h : RdE eltR w A zs) {g : Nat} {v1 v2 : Value} {s : Int} {b : Bool} (hg : CellQ w g v1 s b v2) (hv : ∀ x, v1 ≠ .int .i64 x) (ha : zs ≠ [] → Away A g) (v' : Value) (hv' : ∀ x, v' ≠ .int .i64 x) (s' : Int) (b' : Bool) (v2' : Value) : RdE eltR (rowSet w g v' s' b' v2') A zs :=
  (((h.putQ hg hv ha 0 v').putQ (hg.set v') hv' ha 1 (.int .i64 s')).putQ ((hg.set v').set1 s') hv' ha 2 (.bool b')).putQ (((hg.set v').set1 s').set2 b') hv' ha 3 v2'
set_option maxHeartbeats 1000000 in
set_option maxRecDepth 10000 in
theorem refPrimed_zero (A A2 : Option Addr) (c c2 n2 : Nat) (s : Int) (b : Bool) (zs : List Int) (x : Int) (w : World) (hc : zs.length ≤ c) (hcm : c ≤ maxLen) (hr : RdE eltR w A zs) (hx : RI w (.agg #[.int .i64 s, .bool b, .slice A2 n2 c2]) x)
    (HDV : Hid (∀ W, Up w W → Calls Tryz.prog 143 #[.agg #[.slice A zs.length c, .int .i64 s, .bool b, .slice A2 n2 c2]] W fun e w' => ∃ v, e = .returned v ∧ RI w' v 0 ∧ Up W w')) :
    Calls Tryz.prog 79 #[.agg #[.slice A zs.length c, .int .i64 s, .bool b, .slice A2 n2 c2]] w fun e w' => ∃ v, e = .returned v ∧ RowR w' v zs x ∧ Up w w' := by
  have HSG := Lib.hid (fun W v (h : RI W v 0) => refSign_any v 0 W h)
  have HCC := Lib.hid (And.intro hc hcm)
  have HAW0 : zs ≠ [] → ∃ b off, A = some ⟨b, off, none⟩ ∧ b < w.heap.size := fun h => by
    obtain ⟨b, off, e, hb, -⟩ := hr h
    exact ⟨b, off, e, hb⟩
  clear hc hcm
  go_enter Tryz.func79, Tryz.ntmps79
  have hq0 := CellQ.new w (.slice A zs.length c) (.slice A2 n2 c2) s b
  have HQ0 := Lib.hid (hq0.up (Up.alloc _ (.cells #[.slice none 0 0, .int .i64 0, .bool false, .slice none 0 0] 70)))
  have HR0 := Lib.hid (CellQ.new (w.alloc (.cells #[.slice A zs.length c, .int .i64 s, .bool b, .slice A2 n2 c2] 70)) (.slice none 0 0) (.slice none 0 0) 0 false)
  have HUW := Lib.hid ((Up.alloc w (.cells #[.slice A zs.length c, .int .i64 s, .bool b, .slice A2 n2 c2] 70)).trans (Up.alloc _ (.cells #[.slice none 0 0, .int .i64 0, .bool false, .slice none 0 0] 70)))
  rw [size_alloc] at HR0
  obtain ⟨q0, q1, q2, q3, -, lq⟩ := hq0.facts
  go_wp2_with fail
  clear hq0 q0 q1 q2 q3 lq
  generalize (w.alloc (.cells #[.slice A zs.length c, .int .i64 s, .bool b, .slice A2 n2 c2] 70)).alloc (.cells #[.slice none 0 0, .int .i64 0, .bool false, .slice none 0 0] 70) = wB at *
  obtain ⟨g0, hg0⟩ : ∃ g0, g0 = w.heap.size := ⟨_, rfl⟩
  obtain ⟨g1, hg1⟩ : ∃ g1, g1 = w.heap.size + 1 := ⟨_, rfl⟩
  have HG1 := Lib.hid (show w.heap.size ≤ g1 by omega)
  have HAW := Lib.hid (show zs ≠ [] → Away A g1 from fun h b off e e2 => by
    obtain ⟨b', off', e', hb⟩ := HAW0 h
    rw [e] at e'
    cases e'
    omega)
  clear HAW0
  rw [← hg0] at HQ0
  rw [← hg1] at HR0
  rw [← hg1, ← hg0]
  clear hg0 hg1
  refine Calls.mono (HDV.out _ HUW.out) ?_
  rintro e w1 ⟨v1, rfl, hv, hu⟩
  obtain ⟨s1, b1, A1, n1, c1, rfl, -⟩ := hv.open_
  have HU1 := Lib.hid hu
  have HV1 := Lib.hid hv
  clear hu hv
  go_wp2_with fail
  have HUY := Lib.hid (Up.alloc w1 (.cells #[.int .i64 s1, .bool b1, .slice A1 n1 c1] 61))
  refine Calls.mono (HSG.out _ _ (HV1.out.up HUY.out)) ?_
  rintro e w2 ⟨rfl, hu⟩
  have HU2 := Lib.hid hu
  clear hu
  rw [Int.sign_zero]
  have HUX := Lib.hid (HUW.out.trans (HU1.out.trans (HUY.out.trans HU2.out)))
  have HQF := Lib.hid (HR0.out.up (HU1.out.trans (HUY.out.trans HU2.out)))
  obtain ⟨q0, q1, q2, q3, -, lq⟩ := (HQ0.out.up (HU1.out.trans (HUY.out.trans HU2.out))).facts
  obtain ⟨r0, r1, r2, r3, -, lr⟩ := HQF.out.facts
  obtain ⟨f0, f1, f2, f3⟩ := HQF.out.frz
  have HFF := Lib.hid ((HQF.out.put (.slice A zs.length c) s b (.slice A2 n2 c2)).facts)
  have HLO := Lib.hid ((hr.up HUX.out).putRow HQF.out (fun x e => by cases e) HAW.out (.slice A zs.length c) (fun x e => by cases e) s b (.slice A2 n2 c2))
  have HRO := Lib.hid (((hx.up HUX.out).ria).putRow HQF.out (fun x e => by cases e) (.slice A zs.length c) (fun x e => by cases e) s b (.slice A2 n2 c2))
  have HUF := Lib.hid (HUX.out.putQ HG1.out (.slice A zs.length c) s b (.slice A2 n2 c2))
  clear hr hx HSG HDV
  go_wp2
  obtain ⟨z0, z1, z2, z3, -, -⟩ := HFF.out
  simp only [rowSet] at z0 z1 z2 z3
  refine bodyPost_ret (by simp [results, Tryz.results79, go_sem, z0, z1, z2, z3]; try rfl) rfl ?_
  exact ⟨_, rfl, ⟨A, c, s, b, A2, n2, c2, rfl, HCC.out.1, HCC.out.2, HLO.out, HRO.out.ri⟩, HUF.out⟩
set_option maxHeartbeats 1000000 in
set_option maxRecDepth 10000 in
theorem refPrimed_pos (A A2 : Option Addr) (c c2 n2 : Nat) (s : Int) (b : Bool) (zs : List Int) (x : Int) (w : World) (d : Nat) (hd : d ≠ 0) (hn : zs.length ≤ 1000000) (hbz : ∀ z, z ∈ zs → z.natAbs < 2305843009213693952) (hbx : x.natAbs < 2305843009213693952) (hr : RdE eltR w A zs) (hx : RI w (.agg #[.int .i64 s, .bool b, .slice A2 n2 c2]) x)
    (HDV : Hid (∀ W, Up w W → Calls Tryz.prog 143 #[.agg #[.slice A zs.length c, .int .i64 s, .bool b, .slice A2 n2 c2]] W fun e w' => ∃ v, e = .returned v ∧ RI w' v (d : Int) ∧ Up W w')) :
    Calls Tryz.prog 79 #[.agg #[.slice A zs.length c, .int .i64 s, .bool b, .slice A2 n2 c2]] w fun e w' => ∃ v, e = .returned v ∧ RowR w' v (zs.map (·.tdiv (d : Int))) (x.tdiv (d : Int)) ∧ Up w w' := by
  have HSG := Lib.hid (fun W v (h : RI W v (d : Int)) => refSign_any v (d : Int) W h)
  have hrl : ∀ z : Int, z.natAbs < 2305843009213693952 → rl z ≤ 536870912 := fun z h => Nat.le_trans (rl_int (by omega) (by omega)) (by omega)
  have hd0 : (d : Int) ≠ 0 := by omega
  have HOV := Lib.hid (fun W u v z (hz : z.natAbs < 2305843009213693952) (h : RI W u z) (h2 : RI W v (d : Int)) => refOver_any u v z d W h h2 hd0 (hrl z hz))
  have HSM := Lib.hid (fun (z : Int) (hz : z.natAbs < 2305843009213693952) => (show (z.tdiv (d : Int)).natAbs < 2305843009213693952 from by rw [Int.natAbs_tdiv]; exact Nat.lt_of_le_of_lt (Nat.div_le_self _ _) hz))
  have HAW0 : zs ≠ [] → ∃ b off, A = some ⟨b, off, none⟩ ∧ b < w.heap.size := fun h => by
    obtain ⟨b, off, e, hb, -⟩ := hr h
    exact ⟨b, off, e, hb⟩
  clear hrl
  go_enter Tryz.func79, Tryz.ntmps79
  have hq0 := CellQ.new w (.slice A zs.length c) (.slice A2 n2 c2) s b
  have HQ0 := Lib.hid (hq0.up (Up.alloc _ (.cells #[.slice none 0 0, .int .i64 0, .bool false, .slice none 0 0] 70)))
  have HR0 := Lib.hid (CellQ.new (w.alloc (.cells #[.slice A zs.length c, .int .i64 s, .bool b, .slice A2 n2 c2] 70)) (.slice none 0 0) (.slice none 0 0) 0 false)
  have HUW := Lib.hid ((Up.alloc w (.cells #[.slice A zs.length c, .int .i64 s, .bool b, .slice A2 n2 c2] 70)).trans (Up.alloc _ (.cells #[.slice none 0 0, .int .i64 0, .bool false, .slice none 0 0] 70)))
  rw [size_alloc] at HR0
  obtain ⟨q0, q1, q2, q3, -, lq⟩ := hq0.facts
  go_wp2_with fail
  clear hq0 q0 q1 q2 q3 lq
  generalize (w.alloc (.cells #[.slice A zs.length c, .int .i64 s, .bool b, .slice A2 n2 c2] 70)).alloc (.cells #[.slice none 0 0, .int .i64 0, .bool false, .slice none 0 0] 70) = wB at *
  obtain ⟨g0, hg0⟩ : ∃ g0, g0 = w.heap.size := ⟨_, rfl⟩
  obtain ⟨g1, hg1⟩ : ∃ g1, g1 = w.heap.size + 1 := ⟨_, rfl⟩
  have HG1 := Lib.hid (show w.heap.size ≤ g1 by omega)
  have HAW := Lib.hid (show zs ≠ [] → Away A g1 from fun h b off e e2 => by
    obtain ⟨b', off', e', hb⟩ := HAW0 h
    rw [e] at e'
    cases e'
    omega)
  clear HAW0
  rw [← hg0] at HQ0
  rw [← hg1] at HR0
  rw [← hg1, ← hg0]
  clear hg0 hg1
  refine Calls.mono (HDV.out _ HUW.out) ?_
  rintro e w1 ⟨v1, rfl, hv, hu⟩
  obtain ⟨s1, b1, A1, n1, c1, rfl, -⟩ := hv.open_
  have HU1 := Lib.hid hu
  have HV1 := Lib.hid hv
  clear hu hv
  go_wp2_with fail
  have HUY := Lib.hid (Up.alloc w1 (.cells #[.int .i64 s1, .bool b1, .slice A1 n1 c1] 61))
  refine Calls.mono (HSG.out _ _ (HV1.out.up HUY.out)) ?_
  rintro e w2 ⟨rfl, hu⟩
  have HU2 := Lib.hid hu
  clear hu
  rw [Int.sign_eq_one_of_pos (by omega : (0 : Int) < (d : Int))]
  have HUX := Lib.hid (HUW.out.trans (HU1.out.trans (HUY.out.trans HU2.out)))
  have HRE := Lib.hid (hr.up HUX.out)
  have HX2 := Lib.hid (hx.up HUX.out)
  have HQF := Lib.hid (HR0.out.up (HU1.out.trans (HUY.out.trans HU2.out)))
  have HCI := Lib.hid ((CellI.new w1 s1 b1 (.slice A1 n1 c1)).up HU2.out)
  have HVI := Lib.hid (HV1.out.up (HUY.out.trans HU2.out))
  have HQ2 := Lib.hid (HQ0.out.up (HU1.out.trans (HUY.out.trans HU2.out)))
  obtain ⟨g3, hg3⟩ : ∃ g3, g3 = w1.heap.size := ⟨_, rfl⟩
  rw [← hg3] at HCI ⊢
  obtain ⟨q0, q1, q2, q3, -, lq⟩ := HQ2.out.facts
  obtain ⟨i0, i1, i2, li⟩ := HCI.out.facts
  clear hr hx HSG HDV HUY HU1 HUW HR0 HQ0 HV1 hg3 HU2
  go_wp2_with fail
  have HUO := Lib.hid (Up.alloc w2 (.cells #[.slice none 0 0, .int .i64 0, .bool false, .slice none 0 0] 70))
  have HO0 := Lib.hid (CellQ.new w2 (.slice none 0 0) (.slice none 0 0) 0 false)
  obtain ⟨wO, hwO⟩ : ∃ wO, wO = w2.alloc (.cells #[.slice none 0 0, .int .i64 0, .bool false, .slice none 0 0] 70) := ⟨_, rfl⟩
  obtain ⟨g4, hg4⟩ : ∃ g4, g4 = w2.heap.size := ⟨_, rfl⟩
  rw [← hwO] at HUO HO0 ⊢
  rw [← hg4] at HO0 ⊢
  have HG4 := Lib.hid (show w2.heap.size ≤ g4 by omega)
  have HN14 := Lib.hid (show g1 ≠ g4 by have := HQF.out.lt; omega)
  have HN34 := Lib.hid (show g3 ≠ g4 by have := HCI.out.lt; omega)
  have HN04 := Lib.hid (show g0 ≠ g4 by have := HQ2.out.lt; omega)
  clear hwO hg4 q0 q1 q2 q3 lq i0 i1 i2 li
  refine Calls.mono (HOV.out _ _ _ _ hbx (HX2.out.up HUO.out) (HVI.out.up HUO.out)) ?_
  rintro e w3 ⟨v3, r3, rfl, hv, hr3, hu⟩
  obtain ⟨s3, b3, A3, n3, c3, rfl, -⟩ := hv.open_
  obtain ⟨s4, b4, A4, n4, c4, rfl, -⟩ := hr3.open_
  have HU3 := Lib.hid hu
  have HV3 := Lib.hid hv
  have HO3 := Lib.hid (HO0.out.up hu)
  clear hu hv hr3
  obtain ⟨o0, o1, o2, o3, -, lo⟩ := HO3.out.facts
  obtain ⟨y0, y1, y2, y3⟩ := HO3.out.frz
  obtain ⟨q0, q1, q2, q3, -, lq⟩ := (HQ2.out.up (HUO.out.trans HU3.out)).facts
  go_wp2_with fail
  have HUA := Lib.hid (show Up w2 (((w3.setCell ⟨g4, 1, none⟩ (.int .i64 s3)).setCell ⟨g4, 2, none⟩ (.bool b3)).setCell ⟨g4, 3, none⟩ (.slice A3 n3 c3)) from ((Below.setCell (p := ⟨g4, 1, none⟩) (HUO.out.trans HU3.out) HG4.out (.int .i64 s3)).setCell (p := ⟨g4, 2, none⟩) HG4.out (.bool b3)).setCell (p := ⟨g4, 3, none⟩) HG4.out (.slice A3 n3 c3))
  have HQA := Lib.hid (((HO3.out.set1 s3).set2 b3).set3 (.slice A3 n3 c3))
  generalize ((w3.setCell ⟨g4, 1, none⟩ (.int .i64 s3)).setCell ⟨g4, 2, none⟩ (.bool b3)).setCell ⟨g4, 3, none⟩ (.slice A3 n3 c3) = wA at *
  clear o0 o1 o2 o3 lo y0 y1 y2 y3 q0 q1 q2 q3 lq HO0 HO3 HUO HU3
  go_loopw [27] (fun i wr => ∃ k : Nat, k ≤ zs.length ∧ i = .int .i64 k ∧ ∃ wB A5 c5, Hid (CellQ wB g4 (.slice A5 k c5) s3 b3 (.slice A3 n3 c3)) ∧ Hid (Up w2 wB) ∧ Hid (OwE eltR wB wr 61 (.slice A5 k c5) ((zs.take k).map (·.tdiv (d : Int)))) ∧ Hid (Up wB wr)) (fun i _ => zs.length - (intOf i).toNat)
  case atStart => exact ⟨0, by omega, rfl, wA, none, 0, HQA, HUA, Lib.hid (OwE.nil _ _ _ _), Lib.hid (Up.refl _)⟩
  case round =>
    obtain ⟨k, hk, rfl, wB, A5, c5, HQ, HUB, HOW, HU⟩ := hrel
    by_cases hkl : k < zs.length
    · obtain ⟨b9, off, cs, rfl, hbb, ⟨t1, d1, D1, m1, j1, rfl, hz⟩, hcell⟩ := (HRE.out.up (HUB.out.trans HU.out)).at_ hkl
      have hsm := hbz zs[k] (List.getElem_mem hkl)
      have HRI := Lib.hid hz.ri
      have e0 := hcell 0 _ rfl
      have e1 := hcell 1 _ rfl
      have e2 := hcell 2 _ rfl
      have HNEXT : Hid ((zs.take (k + 1)).map (·.tdiv (d : Int)) = (zs.take k).map (·.tdiv (d : Int)) ++ [zs[k].tdiv (d : Int)]) := Lib.hid (by rw [List.take_succ_eq_append_getElem hkl, List.map_append]; rfl)
      have HLEN : Hid (((zs.take k).map (·.tdiv (d : Int))).length ≤ 1000000000) := Lib.hid (by rw [List.length_map, List.length_take]; omega)
      have HLK : Hid (((zs.take k).map (·.tdiv (d : Int)) ++ [zs[k].tdiv (d : Int)]).length = k + 1) := Lib.hid (by rw [List.length_append, List.length_map, List.length_take]; simp; omega)
      have HSM1 := Lib.hid (HSM.out _ hsm)
      clear hcell hz
      simp only [eltR, Nat.add_zero] at e0 e1 e2
      have HOZ := Lib.hid (fun W u v (h : RI W u zs[k]) (h2 : RI W v (d : Int)) => HOV.out W u v zs[k] hsm h h2)
      generalize zs[k] = z at *
      clear hsm
      obtain ⟨i0, i1, i2, li⟩ := (HCI.out.up (HUB.out.trans HU.out)).facts
      go_wp2_with fail
      have HUY := Lib.hid (Up.alloc wr (.cells #[.int .i64 t1, .bool d1, .slice D1 m1 j1] 61))
      refine Calls.mono (HOZ.out _ _ _ (HRI.out.up HUY.out) (HVI.out.up ((HUB.out.trans HU.out).trans HUY.out))) ?_
      rintro e w5 ⟨v5, r5, rfl, hv, hr5, hu⟩
      obtain ⟨s5, b5, A6, n5, c6, rfl, -⟩ := hv.open_
      obtain ⟨s6, b6, A7, n6, c7, rfl, -⟩ := hr5.open_
      have HU5 := Lib.hid hu
      have HV5 := Lib.hid hv
      clear hu hv hr5 e0 e1 e2 hbb i0 i1 i2 li
      obtain ⟨q0, q1, q2, q3, fz, lq⟩ := (HQ.out.up (HU.out.trans (HUY.out.trans HU5.out))).facts
      have HU8 := Lib.hid (((Up.alloc w5 (.cells #[.int .i64 s5, .bool b5, .slice A6 n5 c6] 61)).trans (Up.alloc _ (.cells #[.int .i64 s6, .bool b6, .slice A7 n6 c7] 61))).trans (Up.alloc _ (.cells #[.int .i64 s5, .bool b5, .slice A6 n5 c6] 61)))
      have HU9 := Lib.hid ((HUY.out.trans HU5.out).trans HU8.out)
      have hcl := new_cells ((w5.alloc (.cells #[.int .i64 s5, .bool b5, .slice A6 n5 c6] 61)).alloc (.cells #[.int .i64 s6, .bool b6, .slice A7 n6 c7] 61)) [.int .i64 s5, .bool b5, .slice A6 n5 c6] 61
      rw [size_alloc, size_alloc] at hcl
      have HCL := Lib.hid hcl
      clear hcl
      go_upto_region 10 with fail
      obtain ⟨wZ, hwZ⟩ : ∃ wZ, wZ = (w5.alloc (.cells #[.int .i64 s5, .bool b5, .slice A6 n5 c6] 61)).alloc (.cells #[.int .i64 s6, .bool b6, .slice A7 n6 c7] 61) := ⟨_, rfl⟩
      have HUZ := Lib.hid (show Up w5 wZ by rw [hwZ]; exact (Up.alloc _ _).trans (Up.alloc _ _))
      have HCZ := Lib.hid (show CellI wZ w5.heap.size s5 b5 (.slice A6 n5 c6) by rw [hwZ]; exact (CellI.new _ _ _ _).up (Up.alloc _ _))
      rw [← hwZ]
      clear hwZ HU8 HU9 HCL q0 q1 q2 q3 fz lq
      have HU9 := Lib.hid ((HUY.out.trans HU5.out).trans HUZ.out)
      obtain ⟨q0, q1, q2, q3, fz, lq⟩ := (HQ.out.up (HU.out.trans HU9.out)).facts
      obtain ⟨m0, m1, m2, lm⟩ := HCZ.out.facts
      go_wp2_with (at_builtin; refine wpList_pushQ eltR wB rfl (.tmp 38) (.tmp 40) 68 61 rfl _ 40 Tryz.underlying68 info_ri rfl zri_nod (by decide) _ ((zs.take k).map (·.tdiv (d : Int))) rfl (HOW.out.up (HU9.out.trans (Up.alloc _ _))) (HU.out.trans (HU9.out.trans (Up.alloc _ _))) ⟨wZ.heap.size, 0, none⟩ rfl [.int .i64 s5, .bool b5, .slice A6 n5 c6] (z.tdiv (d : Int)) (new_cells wZ [.int .i64 s5, .bool b5, .slice A6 n5 c6] _) (RIa.elt (HV5.out.up (HUZ.out.trans (Up.alloc _ _))) (fun _ _ h => by have := HSM1.out; omega)) HLEN.out ?_; intro v' w' hown' hup'; have HOW' := Lib.hid hown'; have HU' := Lib.hid hup'; obtain ⟨A8, c8, e8, -⟩ := hown'.read eltR_none; rw [HLK.out] at e8; subst e8; clear hown' hup' q0 q1 q2 q3 fz lq; obtain ⟨q0, q1, q2, q3, fz, lq⟩ := (HQ.out.up HU'.out).facts)
      exact ⟨⟨k + 1, by omega, by simp, wB.setCell ⟨g4, 0, none⟩ (.slice A8 (k + 1) c8), A8, c8, Lib.hid (HQ.out.set _), Lib.hid (Below.setCell (p := ⟨g4, 0, none⟩) HUB.out HG4.out _), Lib.hid (((by rw [HNEXT.out]; exact HOW'.out : OwE eltR wB w' 61 (.slice A8 (k + 1) c8) ((zs.take (k + 1)).map (·.tdiv (d : Int)))).putQ (HQ.out.up HU'.out) (fun x e => by cases e) 0 _).base (setCell_size _ _ _)), Lib.hid (HU'.out.both g4 0 _)⟩, by simp [intOf]; omega⟩
    · have hke : k = zs.length := by omega
      subst hke
      rw [List.take_length] at HOW
      have HQG := Lib.hid (HQF.out.up (HUB.out.trans HU.out))
      obtain ⟨r0, r1, r2, r3, -, lr⟩ := HQG.out.facts
      obtain ⟨f0, f1, f2, f3⟩ := HQG.out.frz
      obtain ⟨q0, q1, q2, q3, -, lq⟩ := (HQ.out.up HU.out).facts
      have HFF := Lib.hid ((HQG.out.put (.slice A5 zs.length c5) s3 b3 (.slice A3 n3 c3)).facts)
      have HLO := Lib.hid (HOW.out.putRow HQG.out (fun x e => by cases e) (.slice A5 zs.length c5) (fun x e => by cases e) s3 b3 (.slice A3 n3 c3))
      have HXO := Lib.hid (fun W => HV3.out.keep (w' := W) (HSM.out x hbx))
      have HUF := Lib.hid (((HUX.out.trans HUB.out).trans HU.out).putQ HG1.out (.slice A5 zs.length c5) s3 b3 (.slice A3 n3 c3))
      have HLL : Hid ((zs.map (·.tdiv (d : Int))).length = zs.length) := Lib.hid (by rw [List.length_map])
      go_wp2
      obtain ⟨z0, z1, z2, z3, -, -⟩ := HFF.out
      simp only [rowSet] at z0 z1 z2 z3
      refine bodyPost_ret (by simp [results, Tryz.results79, go_sem, z0, z1, z2, z3]; try rfl) rfl ?_
      obtain ⟨A9, c9, e9, l1, l2, l3, l4⟩ := HLO.out.read eltR_none
      rw [HLL.out] at e9 l1
      cases e9
      exact ⟨_, rfl, ⟨A5, c5, s3, b3, A3, n3, c3, by rw [HLL.out], by rw [HLL.out]; exact l1, l2, l3, HXO.out _⟩, HUF.out⟩
end Go.Proofs.YtgcmogldiahdpaaGreatDoor
namespace Go.Proofs.YtgcmogldiahdpaaGreatDoor
open Go.RowKit Fm
theorem gcdR_start (zs : List Int) : ∀ g, gcdR g zs = Nat.gcd g (gcdR 0 zs) := by
  induction zs with
  | nil => intro g; simp [gcdR]
  | cons y r ih =>
    intro g
    simp only [gcdR]
    rw [ih (Nat.gcd g y.natAbs), ih (Nat.gcd 0 y.natAbs), Nat.gcd_zero_left, Nat.gcd_assoc]
theorem gcdR_append (zs : List Int) (x : Int) : ∀ g, gcdR g (zs ++ [x]) = Nat.gcd (gcdR g zs) x.natAbs := by
  induction zs with
  | nil => intro g; rfl
  | cons y r ih => intro g; simp only [List.cons_append, gcdR]; exact ih _
theorem gcdR_row (f : List Int × Int) : gcdR 0 (rowF f) = gcdR f.2.natAbs f.1 := by
  unfold rowF
  rw [gcdR_append, gcdR_start f.1 f.2.natAbs, Nat.gcd_comm]
theorem primF_eq (f : List Int × Int) : primF f = if gcdR f.2.natAbs f.1 = 0 then f else (f.1.map (·.tdiv (gcdR f.2.natAbs f.1 : Nat)), f.2.tdiv (gcdR f.2.natAbs f.1 : Nat)) := by
  unfold primF primR
  rw [gcdR_row]
  split
  · unfold rowF
    simp
  · unfold rowF
    simp [List.map_append]
set_option maxRecDepth 10000 in
/-- The reference's Primed answers the row of the primitive form. -/
theorem refPrimed_form (A A2 : Option Addr) (c c2 n2 : Nat) (s : Int) (b : Bool) (f : List Int × Int) (w : World) (hn : f.1.length ≤ 1000000) (hc : f.1.length ≤ c) (hcm : c ≤ maxLen) (hr : RdE eltR w A f.1) (hx : RI w (.agg #[.int .i64 s, .bool b, .slice A2 n2 c2]) f.2) (hbz : ∀ z, z ∈ f.1 → z.natAbs < 2305843009213693952) (hbx : f.2.natAbs < 2305843009213693952) :
    Calls Tryz.prog 79 #[.agg #[.slice A f.1.length c, .int .i64 s, .bool b, .slice A2 n2 c2]] w fun e w' => ∃ v, e = .returned v ∧ RowR w' v (primF f).1 (primF f).2 ∧ Up w w' := by
  have hrl : ∀ z : Int, z.natAbs < 2305843009213693952 → rl z ≤ 536870912 := fun z h => Nat.le_trans (rl_int (by omega) (by omega)) (by omega)
  have HDV := Lib.hid (fun W (hu : Up w W) => refDivisor_any A A2 c c2 n2 s b f.1 f.2 W hn (hr.up hu) (hx.up hu) (fun z h => hrl z (hbz z h)) (hrl f.2 hbx))
  rw [primF_eq]
  by_cases hd : gcdR f.2.natAbs f.1 = 0
  · rw [if_pos hd]
    rw [hd] at HDV
    exact refPrimed_zero A A2 c c2 n2 s b f.1 f.2 w hc hcm hr hx HDV
  · rw [if_neg hd]
    exact refPrimed_pos A A2 c c2 n2 s b f.1 f.2 w _ hd hn hbz hbx hr hx HDV
end Go.Proofs.YtgcmogldiahdpaaGreatDoor
namespace Go.Proofs.YtgcmogldiahdpaaGreatDoor
open Go.RowKit Fm
/-- Few forms, each with few coefficients. -/
def fewF (fs : List (List Int × Int)) : Bool := (fs.all fun f => decide (f.1.length ≤ 40)) && decide (fs.length < 140)
set_option maxHeartbeats 1000000 in
set_option maxRecDepth 10000 in
theorem few_any (A : Option Addr) (c : Nat) (fs : List (List Int × Int)) (w : World) (hn : fs.length ≤ 1000000000) (hr : RdE eltForm w A fs) :
    Calls Tryz.prog 16 #[.slice A fs.length c] w fun e w' => e = .returned (.bool (fewF fs)) ∧ Up w w' := by
  go_enter Tryz.func16, Tryz.ntmps16
  go_wp2
  go_loopw [7] (fun i wr => ∃ k : Nat, k ≤ fs.length ∧ i = .int .i64 k ∧ Hid ((fs.take k).all (fun f => decide (f.1.length ≤ 40)) = true) ∧ Hid (Up w wr)) (fun i _ => fs.length - (intOf i).toNat)
  case atStart => exact ⟨0, by omega, rfl, Lib.hid rfl, Lib.hid (Up.refl _)⟩
  case round =>
    obtain ⟨k, hk, rfl, HK, HU⟩ := hrel
    by_cases hkl : k < fs.length
    · obtain ⟨b, off, B, c', rfl, hbb, c0, c1, h3, h4, h5⟩ := (hr.up HU.out).f hkl
      have HNEXT : Hid ((fs.take (k + 1)).all (fun f => decide (f.1.length ≤ 40)) = decide (fs[k].1.length ≤ 40)) := Lib.hid (by
        rw [List.take_succ_eq_append_getElem hkl, List.all_append, HK.out]; simp)
      have HFALSE : Hid (¬ fs[k].1.length ≤ 40 → fewF fs = false) := Lib.hid (fun h => by
        unfold fewF
        rw [Bool.and_eq_false_iff]
        left
        rw [List.all_eq_false]
        exact ⟨fs[k], List.getElem_mem hkl, by simp; omega⟩)
      have hml : fs[k].1.length ≤ maxLen := Nat.le_trans h3 h4
      unfold maxLen at hml
      generalize fs[k] = f at *
      clear h3 h4 h5 hr
      have HUY := Lib.hid (Up.alloc wr (.cells #[.slice B f.1.length c', .int .i64 f.2] 33))
      by_cases h40 : f.1.length ≤ 40
      · have i0 : ¬ (40 : Int) < (f.1.length : Int) := by omega
        have HN2 : Hid ((fs.take (k + 1)).all (fun f => decide (f.1.length ≤ 40)) = true) := Lib.hid (by rw [HNEXT.out]; simp [h40])
        clear HNEXT HFALSE h40
        go_wp2
        exact ⟨⟨k + 1, by omega, by simp, HN2, Lib.hid (HU.out.trans HUY.out)⟩, by simp [intOf]; omega⟩
      · have i0 : (40 : Int) < (f.1.length : Int) := by omega
        have HF := Lib.hid (HFALSE.out h40)
        clear HNEXT HFALSE h40
        go_wp2
        go_ret
        exact ⟨by rw [HF.out]; rfl, HU.out.trans HUY.out⟩
    · have HA2 : Hid (fewF fs = decide (fs.length < 140)) := Lib.hid (by
        have := HK.out
        rw [List.take_of_length_le (by omega)] at this
        unfold fewF
        rw [this]; rfl)
      by_cases h140 : fs.length < 140
      · have i0 : (fs.length : Int) < 140 := by omega
        have HB : Hid (fewF fs = true) := Lib.hid (by rw [HA2.out]; simp [h140])
        clear HA2 h140
        go_wp2
        go_ret
        exact ⟨by rw [HB.out]; rfl, HU.out⟩
      · have i0 : ¬ (fs.length : Int) < 140 := by omega
        have HB : Hid (fewF fs = false) := Lib.hid (by rw [HA2.out]; simp [h140])
        clear HA2 h140
        go_wp2
        go_ret
        exact ⟨by rw [HB.out]; rfl, HU.out⟩
set_option maxHeartbeats 1000000 in
set_option maxRecDepth 10000 in
theorem refPrim_bad (A : Option Addr) (c m : Nat) (n k : Int) (w : World)
    (HV : Hid (∀ W, Up w W → Calls Tryz.prog 25 #[.int .i64 n, .agg #[.slice A m c, .int .i64 k]] W fun e w' => e = .returned (.bool false) ∧ Up W w')) :
    Calls Tryz.prog 21 #[.int .i64 n, .agg #[.slice A m c, .int .i64 k]] w fun e w' => e = .returned (.tuple #[.agg #[.slice none 0 0, .int .i64 0], .int .i64 1]) ∧ Up w w' := by
  go_enter Tryz.func21, Tryz.ntmps21
  go_wp2_with fail
  refine Calls.mono (HV.out _ (by (repeat (first | exact Below.refl _ _ | exact Go.RowKit.Hid.out (by assumption) | refine Up.trans ?_ (Up.drew _) | refine Up.trans ?_ (Up.drewN _ _) | refine Up.trans ?_ (Up.alloc _ _) | refine Up.trans ?_ (Go.RowKit.Hid.out (by assumption)))))) ?_
  rintro e w1 ⟨rfl, hu⟩
  have HU1 := Lib.hid hu
  clear hu
  have HR := Lib.hid ((CellF.new (w.alloc (.cells #[.slice A m c, .int .i64 k] 33)) none 0 0 0).up HU1.out)
  rw [size_alloc] at HR
  have HFF := Lib.hid ((HR.out.set none 0 0 0).facts)
  have HUF := Lib.hid ((show Up w w1 from ((Up.alloc w (.cells #[.slice A m c, .int .i64 k] 33)).trans (Up.alloc _ (.cells #[.slice none 0 0, .int .i64 0] 33))).trans HU1.out).stored (show w.heap.size ≤ w.heap.size + 1 by omega) (.slice none 0 0) (.int .i64 0))
  obtain ⟨r0, r1, f0, f1, lr⟩ := HR.out.facts
  go_wp2
  obtain ⟨z0, z1, -, -, -⟩ := HFF.out
  refine bodyPost_ret (by simp [results, Tryz.results21, go_sem, z0, z1]; try rfl) rfl ?_
  exact ⟨rfl, HUF.out⟩
end Go.Proofs.YtgcmogldiahdpaaGreatDoor
