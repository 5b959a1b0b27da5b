/- Contracts of the reference implementation: rows, their values, divisors and primitive forms. -/
import Derived.Test.YtacbjbnocepnaaaGreatDoorQHI
import Derived.Test.YtacbjbnocepnaaaGreatDoorQGR
namespace Go.Proofs.YtacbjbnocepnaaaGreatDoor
open Go.RowKit Fm
def RIa (w : World) (o : Option Nat) (s : Int) (g : Bool) (A : Option Addr) (n c : Nat) (z : Int) : Prop :=
  (n = 0 ∧ s = z ∧ z.natAbs < 2305843009213693952) ∨ (s = 0 ∧ g = decide (z < 0) ∧ 2305843009213693952 ≤ z.natAbs ∧ Ev w (.slice A n c) z.natAbs ∧ ∀ k, o = some k → Away A k)
theorem ev_ne {w : World} {A : Option Addr} {n c : Nat} {m : Nat} (h : Ev w (.slice A n c) m) (hm : 0 < m) : ∃ b off, A = some ⟨b, off, none⟩ ∧ b < w.heap.size ∧ ∀ i (hi : i < (digs 1073741824 m).length), w.cell? ⟨b, off + i, none⟩ = some (.int .i64 ((digs 1073741824 m)[i] : Nat)) := by
  obtain ⟨A', c', e, h1, h2, h3⟩ := h
  cases e
  exact h3 (by rw [digs_pos (by omega) hm]; simp)
theorem ev_keep {w w' : World} {A : Option Addr} {n c m : Nat} (h : Ev w (.slice A n c) m) (hs : w.heap.size ≤ w'.heap.size) (hk : ∀ b off i u, A = some ⟨b, off, none⟩ → w.cell? ⟨b, off + i, none⟩ = some u → w'.cell? ⟨b, off + i, none⟩ = some u) : Ev w' (.slice A n c) m := by
  obtain ⟨A', c', e, h1, h2, h3⟩ := h
  cases e
  refine ⟨A, c, rfl, h1, h2, fun hn => ?_⟩
  obtain ⟨b, off, rfl, hb, hc⟩ := h3 hn
  exact ⟨b, off, rfl, Nat.lt_of_lt_of_le hb hs, fun i hi => hk b off i _ rfl (hc i hi)⟩
theorem RIa.up {w w' : World} {o : Option Nat} {s : Int} {g : Bool} {A : Option Addr} {n c : Nat} {z : Int} (h : RIa w o s g A n c z) (hu : Up w w') : RIa w' o s g A n c z := by
  rcases h with h | ⟨h1, h2, h3, h4, h5⟩
  · exact .inl h
  · exact .inr ⟨h1, h2, h3, Sl.up h4 hu, h5⟩
theorem RIa.ri {w : World} {o : Option Nat} {s : Int} {g : Bool} {A : Option Addr} {n c : Nat} {z : Int} (h : RIa w o s g A n c z) : RI w (.agg #[.int .i64 s, .bool g, .slice A n c]) z :=
  ⟨s, g, A, n, c, rfl, h.elim .inl fun ⟨h1, h2, h3, h4, _⟩ => .inr ⟨h1, h2, h3, h4⟩⟩
theorem RI.ria {w : World} {s : Int} {g : Bool} {A : Option Addr} {n c : Nat} {z : Int} (h : RI w (.agg #[.int .i64 s, .bool g, .slice A n c]) z) : RIa w none s g A n c z := by
  obtain ⟨s', g', A', n', c', e, h⟩ := h
  cases e
  exact h.elim .inl fun ⟨h1, h2, h3, h4⟩ => .inr ⟨h1, h2, h3, h4, fun k e => by cases e⟩
def eltR : Elt Int where
  size := 3
  rel w o cs z := ∃ s g A n c, cs = [.int .i64 s, .bool g, .slice A n c] ∧ RIa w o s g A n c z
  pos := by decide
  len := by rintro w o cs z ⟨s, g, A, n, c, rfl, -⟩; rfl
  one := by rintro w o cs z ⟨s, g, A, n, c, rfl, -⟩ u hu; simp at hu; rcases hu with rfl | rfl | rfl <;> rfl
  nod := by
    rintro w o cs z ⟨s, g, A, n, c, rfl, -⟩ u hu
    simp at hu
    rcases hu with rfl | rfl | rfl
    · exact NoDig.int _
    · exact NoDig.bool _
    · exact NoDig.slice _ _ _
  up := by rintro w w' o cs z ⟨s, g, A, n, c, rfl, h⟩ hu; exact ⟨s, g, A, n, c, rfl, h.up hu⟩
  grow := by
    rintro w w' o cs z ⟨s, g, A, n, c, rfl, h⟩ hg hd
    refine ⟨s, g, A, n, c, rfl, ?_⟩
    rcases h with h | ⟨h1, h2, h3, h4, h5⟩
    · exact .inl h
    · exact .inr ⟨h1, h2, h3, ev_keep h4 hg.size (fun b off i u e hc => hg.cell hc (fun e2 => h5 b e2.symm b off e rfl)), h5⟩
  move := by
    rintro w o cs z ⟨s, g, A, n, c, rfl, h⟩
    refine ⟨s, g, A, n, c, rfl, ?_⟩
    rcases h with h | ⟨h1, h2, h3, h4, h5⟩
    · exact .inl h
    · refine .inr ⟨h1, h2, h3, h4, fun k e b off e2 => ?_⟩
      cases e
      obtain ⟨b', off', e3, hb, -⟩ := ev_ne h4 (by omega)
      rw [e2] at e3
      cases e3
      omega
theorem eltR_none {w : World} {o : Option Nat} {cs : List Value} {z : Int} (h : eltR.rel w o cs z) : eltR.rel w none cs z := by
  obtain ⟨s, g, A, n, c, rfl, h⟩ := h
  exact ⟨s, g, A, n, c, rfl, h.ri.ria⟩
def CellQ (w : World) (g : Nat) (v : Value) (s : Int) (b : Bool) (v2 : Value) : Prop := w.heap[g]? = some (.cells #[v, .int .i64 s, .bool b, v2] 59 (0, 0))
theorem CellQ.lt {w : World} {g : Nat} {v v2 : Value} {s : Int} {b : Bool} (h : CellQ w g v s b v2) : g < w.heap.size := by
  rcases Nat.lt_or_ge g w.heap.size with h1 | h1
  · exact h1
  · unfold CellQ at h; rw [Array.getElem?_eq_none h1] at h; cases h
theorem CellQ.up {w w' : World} {g : Nat} {v v2 : Value} {s : Int} {b : Bool} (h : CellQ w g v s b v2) (hu : Up w w') : CellQ w' g v s b v2 := (hu.block g h.lt).trans h
theorem CellQ.facts {w : World} {g : Nat} {v v2 : Value} {s : Int} {b : Bool} (h : CellQ w g v s b v2) : w.cell? ⟨g, 0, none⟩ = some v ∧ w.cell? ⟨g, 1, none⟩ = some (.int .i64 s) ∧ w.cell? ⟨g, 2, none⟩ = some (.bool b) ∧ w.cell? ⟨g, 3, none⟩ = some v2 ∧ w.frozen? ⟨g, 0, none⟩ = false ∧ g < w.heap.size :=
  ⟨by rw [cell_of_row w g 0 _ _ _ h]; rfl, by rw [cell_of_row w g 1 _ _ _ h]; rfl, by rw [cell_of_row w g 2 _ _ _ h]; rfl, by rw [cell_of_row w g 3 _ _ _ h]; rfl, by unfold CellQ at h; simp [World.frozen?, h], h.lt⟩
theorem CellQ.new (w : World) (v v2 : Value) (s : Int) (b : Bool) : CellQ (w.alloc (.cells #[v, .int .i64 s, .bool b, v2] 59)) w.heap.size v s b v2 := heap_alloc_new w _
theorem CellQ.set {w : World} {g : Nat} {v v2 : Value} {s : Int} {b : Bool} (h : CellQ w g v s b v2) (v' : Value) : CellQ (w.setCell ⟨g, 0, none⟩ v') g v' s b v2 := by
  unfold CellQ at *
  simp [World.setCell, Array.getElem?_modify, h]
theorem digs_len3 {m : Nat} (h : 2305843009213693952 ≤ m) : 3 ≤ (digs 1073741824 m).length := by
  rw [digs_pos (by omega) (by omega), digs_pos (by omega) (by omega), digs_pos (by omega) (by omega)]
  simp
theorem CellQ.away {w : World} {g : Nat} {v v2 : Value} {s : Int} {b : Bool} (hg : CellQ w g v s b v2) (hv : ∀ x, v ≠ .int .i64 x) {A : Option Addr} {n c m : Nat} (h : Ev w (.slice A n c) m) (hm : 2305843009213693952 ≤ m) : Away A g := by
  intro b' off e e2
  obtain ⟨b2, off2, e3, hb, hc⟩ := ev_ne h (by omega)
  rw [e] at e3
  cases e3
  subst e2
  obtain ⟨c0, c1, c2, c3, -, -⟩ := hg.facts
  have hl := digs_len3 hm
  have k0 := hc 0 (by omega)
  have k1 := hc 1 (by omega)
  have k2 := hc 2 (by omega)
  rcases (show off = 0 ∨ off = 1 ∨ off = 2 ∨ 3 ≤ off by omega) with rfl | rfl | rfl | h3
  · rw [Nat.add_zero, c0] at k0; injection k0 with k0; exact hv _ k0
  · rw [show 1 + 1 = 2 from rfl, c2] at k1; cases k1
  · rw [Nat.add_zero, c2] at k0; cases k0
  · rw [cell_of_row w b' _ _ _ _ hg] at k1
    rw [Array.getElem?_eq_none (by simp; omega)] at k1
    cases k1
theorem RIa.put {w : World} {o : Option Nat} {s : Int} {b : Bool} {A : Option Addr} {n c : Nat} {z : Int} (h : RIa w o s b A n c z) {g : Nat} {v v2 : Value} {s' : Int} {b' : Bool} (hg : CellQ w g v s' b' v2) (hv : ∀ x, v ≠ .int .i64 x) (i : Nat) (u : Value) : RIa (w.setCell ⟨g, i, none⟩ u) o s b A n c z := by
  rcases h with h | ⟨h1, h2, h3, h4, h5⟩
  · exact .inl h
  · have ha := hg.away hv h4 h3
    refine .inr ⟨h1, h2, h3, ev_keep h4 (by simp [World.setCell]) (fun b off j u' e hc => ?_), h5⟩
    have hne := ha b off e
    rw [World.cell?_setCell_other _ _ _ _ (by intro e; injection e with e; exact hne e.symm)]
    exact hc
theorem OwE.putQ {w0 w : World} {v : Value} {zs : List Int} (h : OwE eltR w0 w 48 v zs) {g : Nat} {v1 v2 : Value} {s' : Int} {b' : Bool} (hg : CellQ w g v1 s' b' v2) (hv : ∀ x, v1 ≠ .int .i64 x) (i : Nat) (u : Value) : OwE eltR w0 (w.setCell ⟨g, i, none⟩ u) 48 v zs := by
  obtain ⟨css, h1, h2, h3⟩ := h
  have hne : ∀ k, v.ownBlock = some k → k ≠ g := by
    intro k hk e
    subst e
    rcases h2.2 with ⟨rfl, -⟩ | ⟨g', cap, cur, rfl, hb, hgh, -⟩
    · cases hk
    · cases hk
      unfold CellQ at hg
      rw [hgh] at hg
      injection hg with hg
      injection hg with e1 e2
      exact absurd e2 (by decide)
  refine ⟨css, h1.map ?_, ?_, fun k hk j x => ?_⟩
  · rintro cs z ⟨s, b, A, n, c, rfl, h⟩
    exact ⟨s, b, A, n, c, rfl, h.put hg hv i u⟩
  · refine ⟨h2.1, ?_⟩
    rcases h2.2 with h | ⟨k, cap, cur, rfl, hb, hgh, hr⟩
    · exact .inl h
    · exact .inr ⟨k, cap, cur, rfl, hb, (Below.heap_setCell w ⟨g, i, none⟩ u k (hne k rfl)).trans hgh, hr⟩
  · have := hne k hk
    rw [World.cell?_setCell_other _ _ _ _ (by intro e; injection e with e; exact this e.symm)]
    exact h3 k hk j x
theorem info_ri : (Tryz.prog.info? 48).map (fun i => (i.zero, i.size, i.bytes)) = some (some (.agg #[.int .i64 0, .bool false, .slice none 0 0]), 3, 40) := by kernel_rfl
theorem zri_nod : ∀ u ∈ (Value.agg #[.int .i64 0, .bool false, .slice none 0 0]).cells.toList, NoDig u := by
  intro u hu
  simp [Value.cells] at hu
  rcases hu with rfl | rfl | rfl
  · exact NoDig.int _
  · exact NoDig.bool _
  · exact NoDig.slice _ _ _
end Go.Proofs.YtacbjbnocepnaaaGreatDoor
namespace Go.Proofs.YtacbjbnocepnaaaGreatDoor
open Go.RowKit Fm
def RowQ (w0 w : World) (v : Value) (zs : List Int) (x : Int) : Prop :=
  ∃ A c s b A2 n2 c2, v = .agg #[.slice A zs.length c, .int .i64 s, .bool b, .slice A2 n2 c2] ∧ zs.length ≤ c ∧ c ≤ maxLen ∧ RdE eltR w A zs ∧ RI w (.agg #[.int .i64 s, .bool b, .slice A2 n2 c2]) x ∧ ∀ b off, A = some ⟨b, off, none⟩ → w0.heap.size ≤ b
theorem CellQ.set1 {w : World} {g : Nat} {v v2 : Value} {s : Int} {b : Bool} (h : CellQ w g v s b v2) (s' : Int) : CellQ (w.setCell ⟨g, 1, none⟩ (.int .i64 s')) g v s' b v2 := by
  unfold CellQ at *
  simp [World.setCell, Array.getElem?_modify, h]
theorem CellQ.set2 {w : World} {g : Nat} {v v2 : Value} {s : Int} {b : Bool} (h : CellQ w g v s b v2) (b' : Bool) : CellQ (w.setCell ⟨g, 2, none⟩ (.bool b')) g v s b' v2 := by
  unfold CellQ at *
  simp [World.setCell, Array.getElem?_modify, h]
theorem CellQ.set3 {w : World} {g : Nat} {v v2 : Value} {s : Int} {b : Bool} (h : CellQ w g v s b v2) (v' : Value) : CellQ (w.setCell ⟨g, 3, none⟩ v') g v s b v' := by
  unfold CellQ at *
  simp [World.setCell, Array.getElem?_modify, h]
theorem CellQ.frz {w : World} {g : Nat} {v v2 : Value} {s : Int} {b : Bool} (h : CellQ w g v s b v2) : w.frozen? ⟨g, 0, none⟩ = false ∧ w.frozen? ⟨g, 1, none⟩ = false ∧ w.frozen? ⟨g, 2, none⟩ = false ∧ w.frozen? ⟨g, 3, none⟩ = false := by
  unfold CellQ at h
  refine ⟨?_, ?_, ?_, ?_⟩ <;> simp [World.frozen?, h]
theorem CellQ.far {w : World} {g g' : Nat} {v v2 : Value} {s : Int} {b : Bool} (h : CellQ w g v s b v2) (hne : g ≠ g') (i : Nat) (u : Value) : CellQ (w.setCell ⟨g', i, none⟩ u) g v s b v2 := by
  unfold CellQ at *
  rw [Below.heap_setCell _ ⟨g', i, none⟩ u g hne]
  exact h
def rowSet (w : World) (g : Nat) (v : Value) (s : Int) (b : Bool) (v2 : Value) : World := (((w.setCell ⟨g, 0, none⟩ v).setCell ⟨g, 1, none⟩ (.int .i64 s)).setCell ⟨g, 2, none⟩ (.bool b)).setCell ⟨g, 3, none⟩ v2
theorem CellQ.put {w : World} {g : Nat} {v v2 : Value} {s : Int} {b : Bool} (h : CellQ w g v s b v2) (v' : Value) (s' : Int) (b' : Bool) (v2' : Value) : CellQ (rowSet w g v' s' b' v2') g v' s' b' v2' := (((h.set v').set1 s').set2 b').set3 v2'
theorem OwE.putRow {w0 w : World} {v : Value} {zs : List Int} (h : OwE eltR w0 w 48 v zs) {g : Nat} {v1 v2 : Value} {s : Int} {b : Bool} (hg : CellQ w g v1 s b v2) (hv : ∀ x, v1 ≠ .int .i64 x) (v' : Value) (hv' : ∀ x, v' ≠ .int .i64 x) (s' : Int) (b' : Bool) (v2' : Value) : OwE eltR w0 (rowSet w g v' s' b' v2') 48 v zs :=
  (((h.putQ hg hv 0 v').putQ (hg.set v') hv' 1 (.int .i64 s')).putQ ((hg.set v').set1 s') hv' 2 (.bool b')).putQ (((hg.set v').set1 s').set2 b') hv' 3 v2'
theorem RIa.putRow {w : World} {o : Option Nat} {s0 : Int} {b0 : Bool} {A : Option Addr} {n c : Nat} {z : Int} (h : RIa w o s0 b0 A n c z) {g : Nat} {v1 v2 : Value} {s : Int} {b : Bool} (hg : CellQ w g v1 s b v2) (hv : ∀ x, v1 ≠ .int .i64 x) (v' : Value) (hv' : ∀ x, v' ≠ .int .i64 x) (s' : Int) (b' : Bool) (v2' : Value) : RIa (rowSet w g v' s' b' v2') o s0 b0 A n c z :=
  (((h.put hg hv 0 v').put (hg.set v') hv' 1 (.int .i64 s')).put ((hg.set v').set1 s') hv' 2 (.bool b')).put (((hg.set v').set1 s').set2 b') hv' 3 v2'
theorem Up.putQ {w0 w : World} {g : Nat} (h : Up w0 w) (hg : w0.heap.size ≤ g) (v : Value) (s : Int) (b : Bool) (v2 : Value) : Up w0 (rowSet w g v s b v2) :=
  (((Below.setCell (p := ⟨g, 0, none⟩) h hg v).setCell (p := ⟨g, 1, none⟩) hg (.int .i64 s)).setCell (p := ⟨g, 2, none⟩) hg (.bool b)).setCell (p := ⟨g, 3, none⟩) hg v2
theorem OwE.base {α : Type} {E : Elt α} {w0 w0' w : World} {t : TypeId} {v : Value} {zs : List α} (h : OwE E w0 w t v zs) (hs : w0'.heap.size = w0.heap.size) : OwE E w0' w t v zs := by
  obtain ⟨css, h1, h2, h3⟩ := h
  exact ⟨css, h1, by rw [hs]; exact h2, h3⟩
theorem setCell_size (w : World) (p : Addr) (u : Value) : (w.setCell p u).heap.size = w.heap.size := by simp [World.setCell]
theorem Up.both {a b : World} (h : Up a b) (g i : Nat) (u : Value) : Up (a.setCell ⟨g, i, none⟩ u) (b.setCell ⟨g, i, none⟩ u) := by
  refine ⟨h.os, h.tape, h.output, by rw [setCell_size, setCell_size]; exact h.size, fun k hk => ?_⟩
  rw [setCell_size] at hk
  have := h.block k hk
  simp only [World.setCell, Array.getElem?_modify]
  rw [this]
theorem oper_pushE {α : Type} (E : Elt α) {w : World} {o : Oper} {a : Act} {K : Act → World → Prop} {Q : Exit → Act → World → Prop} (w0 : World) (s x : Operand) (t e : TypeId)
    (ho : o.op = .call { callee := .builtin .append, args := #[s, x], argTypes := #[t, t] }) (z0 : Value) (bytes : Nat) (ht : Tryz.prog.underlying t = some (.slice e)) (hi : (Tryz.prog.info? e).map (fun i => (i.zero, i.size, i.bytes)) = some (some z0, E.size, bytes)) (hzs : z0.cells.size = E.size) (hzz : ∀ u ∈ z0.cells.toList, NoDig u) (hby : bytes ≤ 128)
    (v : Value) (zs : List α) (hs : a.eval s = v) (hown : OwE E w0 w e v zs) (hu : Up w0 w)
    (ad : Addr) (hx : a.eval x = .slice (some ad) 1 1) (cs : List Value) (z : α) (hcell : ∀ j u, cs[j]? = some u → w.cell? (ad.add j) = some u) (hrel : E.rel w v.ownBlock cs z) (hlen : zs.length ≤ 1000000000)
    (h : ∀ v' w', OwE E w0 w' e v' (zs ++ [z]) → Up w0 w' → K (a.put o.dst v') w') : Oper.wp Tryz.prog o a w K Q := by
  obtain ⟨css, h1, h2, h3⟩ := hown
  obtain ⟨i0, hi0, hz0, hz1, hz2⟩ := info_parts hi
  have hbb : (zs.length + 1) * bytes ≤ 140737488355328 := by
    have : (zs.length + 1) * bytes ≤ 1000000001 * 128 := Nat.mul_le_mul (by omega) hby
    omega
  obtain ⟨v', w', hr, k1, k2, k3, k4⟩ := run_push w w0.heap.size t o.type e i0 z0 E.size bytes ht hi0 hz0 hz1 hz2 hzs E.pos v zs.length css.flatten h2 h3 ad 1 cs (E.len hrel) hcell (E.one hrel) (E.nod hrel) hzz (by unfold maxLen; omega) hbb hu.size
  have hE : Elts E w' v'.ownBlock (css ++ [cs]) (zs ++ [z]) := by
    have a1 : Elts E w v.ownBlock (css ++ [cs]) (zs ++ [z]) := h1.snoc hrel
    rcases k4 with e1 | ⟨e1, e2⟩
    · rw [e1]; exact a1.map fun h => E.grow h k2 h3
    · rw [e1]
      exact (a1.map (o' := some w.heap.size) fun h => E.move h).map fun h => E.grow h e2 fun g hg j x => by
        cases hg
        simp [World.cell?]
  have hO : OwE E w0 w' e v' (zs ++ [z]) := by
    refine ⟨css ++ [cs], hE, ?_, k3⟩
    rw [List.length_append, List.flatten_append]
    simpa using k1
  have hU : Up w0 w' := Below.grown hu k2 hu.size (fun k hk => (h2.lt k hk).1)
  unfold Oper.wp execOp
  simp only [ho, resolve, invoke, builtin, Sem.run_bind, Sem.run_pure, Result.andThen_ok, List.map_toArray, List.map_cons, List.map_nil, hs, hx, hr]
  exact h v' w' hO hU
theorem step_pushE {α : Type} (E : Elt α) {w : World} {ops : Array Oper} {o : Oper} {a : Act} {K : Act → World → Prop} {Q : Exit → Act → World → Prop} {F : Prop} (w0 : World) (hgd : o.guard = none) (s x : Operand) (t e : TypeId)
    (ho : o.op = .call { callee := .builtin .append, args := #[s, x], argTypes := #[t, t] }) (z0 : Value) (bytes : Nat) (ht : Tryz.prog.underlying t = some (.slice e)) (hi : (Tryz.prog.info? e).map (fun i => (i.zero, i.size, i.bytes)) = some (some z0, E.size, bytes)) (hzs : z0.cells.size = E.size) (hzz : ∀ u ∈ z0.cells.toList, NoDig u) (hby : bytes ≤ 128)
    (v : Value) (zs : List α) (hs : a.eval s = v) (hown : OwE E w0 w e v zs) (hu : Up w0 w)
    (ad : Addr) (hx : a.eval x = .slice (some ad) 1 1) (cs : List Value) (z : α) (hcell : ∀ j u, cs[j]? = some u → w.cell? (ad.add j) = some u) (hrel : E.rel w v.ownBlock cs z) (hlen : zs.length ≤ 1000000000)
    (h : ∀ v' w', OwE E w0 w' e v' (zs ++ [z]) → Up w0 w' → K (a.put o.dst v') w') : if Region.wanted o (yielded ops a.tmps) = true then Oper.wp Tryz.prog o a w K Q else F := by
  have hw : Region.wanted o (yielded ops a.tmps) = true := by simp [Region.wanted, hgd]
  rw [if_pos hw]
  exact oper_pushE E w0 s x t e ho z0 bytes ht hi hzs hzz hby v zs hs hown hu ad hx cs z hcell hrel hlen h
theorem wpList_pushQ {α : Type} (E : Elt α) {w : World} {ops : Array Oper} {rest : List Oper} {o : Oper} {a : Act} {Q : Exit → Act → World → Prop} (w0 : World) (hgd : o.guard = none) (s x : Operand) (t e : TypeId)
    (ho : o.op = .call { callee := .builtin .append, args := #[s, x], argTypes := #[t, t] }) (z0 : Value) (bytes : Nat) (ht : Tryz.prog.underlying t = some (.slice e)) (hi : (Tryz.prog.info? e).map (fun i => (i.zero, i.size, i.bytes)) = some (some z0, E.size, bytes)) (hzs : z0.cells.size = E.size) (hzz : ∀ u ∈ z0.cells.toList, NoDig u) (hby : bytes ≤ 128)
    (v : Value) (zs : List α) (hs : a.eval s = v) (hown : OwE E w0 w e v zs) (hu : Up w0 w)
    (ad : Addr) (hx : a.eval x = .slice (some ad) 1 1) (cs : List Value) (z : α) (hcell : ∀ j u, cs[j]? = some u → w.cell? (ad.add j) = some u) (hrel : E.rel w v.ownBlock cs z) (hlen : zs.length ≤ 1000000000)
    (h : ∀ v' w', OwE E w0 w' e v' (zs ++ [z]) → Up w0 w' → wpList Tryz.prog ops Q rest (a.put o.dst v') w') : wpList Tryz.prog ops Q (o :: rest) a w :=
  wpList_plain hgd fun _ hK => oper_pushE E w0 s x t e ho z0 bytes ht hi hzs hzz hby v zs hs hown hu ad hx cs z hcell hrel hlen fun v' w' h1 h2 => hK _ _ (h v' w' h1 h2)
theorem RIa.elt {w : World} {s : Int} {b : Bool} {A : Option Addr} {n c : Nat} {z : Int} (h : RI w (.agg #[.int .i64 s, .bool b, .slice A n c]) z) {o : Option Nat} (ho : ∀ k, o = some k → 2305843009213693952 ≤ z.natAbs → Away A k) : eltR.rel w o [.int .i64 s, .bool b, .slice A n c] z := by
  refine ⟨s, b, A, n, c, rfl, ?_⟩
  rcases h.ria with h | ⟨h1, h2, h3, h4, -⟩
  · exact .inl h
  · exact .inr ⟨h1, h2, h3, h4, fun k e => ho k e h3⟩
set_option maxHeartbeats 1000000 in
set_option maxRecDepth 10000 in
theorem refRowTo_any (A : Option Addr) (c : Nat) (xs : List Int) (x : Int) (w : World) (hn : xs.length ≤ 1000000) (hr : RdI w A xs) (hx : ∀ y, y ∈ xs → -2305843009213693952 < y ∧ y < 2305843009213693952) (hx0 : -9223372036854775808 ≤ x ∧ x ≤ 9223372036854775807) :
    Calls Tryz.prog 29 #[.agg #[.slice A xs.length c, .int .i64 x]] w fun e w' => ∃ v, e = .returned v ∧ RowQ w w' v xs x ∧ Up w w' := by
  have HX0 := Lib.hid (fun W => refOf_any x W hx0.1 hx0.2)
  have HC0 := Lib.hid (CellF.new w A xs.length c x)
  have HU0 := Lib.hid (Up.alloc w (.cells #[.slice A xs.length c, .int .i64 x] 28))
  clear hx0
  go_enter Tryz.func29, Tryz.ntmps29
  obtain ⟨p0, p1, -, -, lg⟩ := HC0.out.facts
  go_wp2_with fail
  refine Calls.mono (HX0.out _) ?_
  rintro e w1 ⟨v0, rfl, hv, hu⟩
  have HU1 := Lib.hid hu
  have HV0 := Lib.hid hv
  obtain ⟨s0, b0, A0, n0, c0, rfl, -⟩ := hv.open_
  clear p0 p1 lg
  have HC1 := Lib.hid (HC0.out.up ((Up.alloc _ _).trans hu))
  have HQ1 := Lib.hid ((CellQ.new (w.alloc (.cells #[.slice A xs.length c, .int .i64 x] 28)) (.slice none 0 0) (.slice none 0 0) 0 false).up hu)
  rw [size_alloc] at HQ1
  have HUW := Lib.hid ((HU0.out.trans (Up.alloc _ _)).trans hu)
  clear hu hv HC0 HU0 HU1
  obtain ⟨g0, hg0⟩ : ∃ g0, g0 = w.heap.size := ⟨_, rfl⟩
  obtain ⟨g1, hg1⟩ : ∃ g1, g1 = w.heap.size + 1 := ⟨_, rfl⟩
  have HG1 := Lib.hid (show w.heap.size ≤ g1 by omega)
  have HNE := Lib.hid (show g0 ≠ g1 by omega)
  rw [← hg0] at HC1
  rw [← hg1] at HQ1
  rw [← hg1, ← hg0]
  clear hg0 hg1
  obtain ⟨q0, q1, q2, q3, fz, lq⟩ := HQ1.out.facts
  obtain ⟨p0, p1, -, -, lp⟩ := HC1.out.facts
  go_wp2
  have HUA := Lib.hid (Up.alloc w1 (.cells #[.slice none 0 0, .int .i64 s0, .bool b0, .slice A0 n0 c0] 59))
  have HQA := Lib.hid (CellQ.new w1 (.slice none 0 0) (.slice A0 n0 c0) s0 b0)
  have hsa := size_alloc w1 (.cells #[.slice none 0 0, .int .i64 s0, .bool b0, .slice A0 n0 c0] 59)
  generalize w1.alloc (.cells #[.slice none 0 0, .int .i64 s0, .bool b0, .slice A0 n0 c0] 59) = wA at *
  obtain ⟨g2, hg2⟩ : ∃ g2, g2 = w1.heap.size := ⟨_, rfl⟩
  have HG2 := Lib.hid (show w1.heap.size ≤ g2 by omega)
  have HN12 := Lib.hid (show g1 ≠ g2 by have := HQ1.out.lt; omega)
  rw [← hg2] at HQA ⊢
  clear hg2 hsa q0 q1 q2 q3 fz lq p0 p1 lp
  have HRX := Lib.hid (hr.up HUW.out)
  go_loopw [13] (fun i wr => ∃ k : Nat, k ≤ xs.length ∧ i = .int .i64 k ∧ ∃ wB A5 c5, Hid (CellQ wB g2 (.slice A5 k c5) s0 b0 (.slice A0 n0 c0)) ∧ Hid (Up w1 wB) ∧ Hid (OwE eltR wB wr 48 (.slice A5 k c5) (xs.take k)) ∧ Hid (Up wB wr)) (fun i _ => xs.length - (intOf i).toNat)
  case atStart => exact ⟨0, by omega, rfl, wA, none, 0, HQA, HUA, Lib.hid (OwE.nil _ _ _ _), Lib.hid (Up.refl _)⟩
  case round =>
    obtain ⟨k, hk, rfl, wB, A5, c5, HQ, HUB, HOW, HU⟩ := hrel
    obtain ⟨q0, q1, q2, q3, fz, lq⟩ := (HQ.out.up HU.out).facts
    by_cases hkl : k < xs.length
    · obtain ⟨b, off, rfl, hbb, c0⟩ := (HRX.out.up (HUB.out.trans HU.out)).at_ hkl
      have hxi := hx xs[k] (List.getElem_mem hkl)
      have HNEXT : Hid (xs.take (k + 1) = xs.take k ++ [xs[k]]) := Lib.hid (by rw [List.take_succ_eq_append_getElem hkl])
      generalize xs[k] = y at *
      have HOF := Lib.hid (fun W => refOf_any y W (by omega) (by omega))
      have HLK : Hid ((xs.take k ++ [y]).length = k + 1) := Lib.hid (by rw [List.length_append, List.length_take]; simp; omega)
      have HSM := Lib.hid hxi
      have HLEN : Hid ((xs.take k).length ≤ 1000000000) := Lib.hid (by rw [List.length_take]; omega)
      clear hxi
      go_upto_region 5 with fail
      clear c0 hbb
      have i0 : (0 : Int) ≤ (k : Int) := by omega
      go_region_law
        ((first
          | (go_simp
             go_at_call 69
             refine Calls.mono (HOF.out _) ?_
             rintro e w3 ⟨v1, rfl, hv, hu⟩
             have HU3 := Lib.hid hu
             have HV := Lib.hid hv
             obtain ⟨s2, b2, A3, m2, k2, rfl, -⟩ := hv.open_
             obtain ⟨q0, q1, q2, q3, fz, lq⟩ := (HQ.out.up (w' := w3) (by (repeat (first | exact Below.refl _ _ | exact Hid.out (by assumption) | refine Up.trans ?_ (Up.drew _) | refine Up.trans ?_ (Up.drewN _ _) | refine Up.trans ?_ (Up.alloc _ _) | refine Up.trans ?_ (Hid.out (by assumption)))))).facts
             clear hu hv)
          | (refine step_pushE eltR wB rfl (.tmp 18) (.tmp 21) 57 48 rfl _ 40 Tryz.underlying57 info_ri rfl zri_nod (by decide) _ (xs.take k) rfl (HOW.out.up (by (repeat (first | exact Below.refl _ _ | exact Hid.out (by assumption) | refine Up.trans ?_ (Up.drew _) | refine Up.trans ?_ (Up.drewN _ _) | refine Up.trans ?_ (Up.alloc _ _) | refine Up.trans ?_ (Hid.out (by assumption)))))) (by (repeat (first | exact Below.refl _ _ | exact Hid.out (by assumption) | refine Up.trans ?_ (Up.drew _) | refine Up.trans ?_ (Up.drewN _ _) | refine Up.trans ?_ (Up.alloc _ _) | refine Up.trans ?_ (Hid.out (by assumption))))) ⟨w3.heap.size, 0, none⟩ rfl [.int .i64 s2, .bool b2, .slice A3 m2 k2] y (fun j u h => new_cells w3 [.int .i64 s2, .bool b2, .slice A3 m2 k2] _ j u h) (RIa.elt (HV.out.up (by (repeat (first | exact Below.refl _ _ | exact Hid.out (by assumption) | refine Up.trans ?_ (Up.drew _) | refine Up.trans ?_ (Up.drewN _ _) | refine Up.trans ?_ (Up.alloc _ _) | refine Up.trans ?_ (Hid.out (by assumption)))))) (fun _ _ h => by have := HSM.out; omega)) HLEN.out ?_
             intro v' w' hown' hup'
             have HOW' := Lib.hid hown'
             have HU' := Lib.hid hup'
             obtain ⟨A6, c6, e6, -⟩ := hown'.read eltR_none
             rw [HLK.out] at e6
             subst e6
             obtain ⟨q0, q1, q2, q3, fz, lq⟩ := (HQ.out.up hup').facts
             clear hown' hup')))
      all_goals
        go_wp2
        exact ⟨⟨k + 1, by omega, by simp, wB.setCell ⟨g2, 0, none⟩ (.slice A6 (k + 1) c6), A6, c6, Lib.hid (HQ.out.set _), Lib.hid (Below.setCell (p := ⟨g2, 0, none⟩) HUB.out HG2.out _), Lib.hid (((by rw [HNEXT.out]; exact HOW'.out : OwE eltR wB w' 48 (.slice A6 (k + 1) c6) (xs.take (k + 1))).putQ (HQ.out.up HU'.out) (fun x e => by cases e) 0 _).base (setCell_size _ _ _)), Lib.hid (HU'.out.both g2 0 _)⟩, by simp [intOf]; omega⟩
    · have hke : k = xs.length := by omega
      subst hke
      rw [List.take_length] at HOW
      have HQF := Lib.hid (HQ1.out.up (HUB.out.trans HU.out))
      obtain ⟨r0, r1, r2, r3, -, lr⟩ := HQF.out.facts
      obtain ⟨f0, f1, f2, f3⟩ := HQF.out.frz
      have HFF := Lib.hid ((HQF.out.put (.slice A5 xs.length c5) s0 b0 (.slice A0 n0 c0)).facts)
      have HLO := Lib.hid (HOW.out.putRow HQF.out (fun x e => by cases e) (.slice A5 xs.length c5) (fun x e => by cases e) s0 b0 (.slice A0 n0 c0))
      have HRO := Lib.hid (((HV0.out.up (HUB.out.trans HU.out)).ria).putRow HQF.out (fun x e => by cases e) (.slice A5 xs.length c5) (fun x e => by cases e) s0 b0 (.slice A0 n0 c0))
      have HUF := Lib.hid (((HUW.out.trans HUB.out).trans HU.out).putQ HG1.out (.slice A5 xs.length c5) s0 b0 (.slice A0 n0 c0))
      have HSZ := Lib.hid ((HUW.out.trans HUB.out).size)
      go_wp2
      obtain ⟨z0, z1, z2, z3, -, -⟩ := HFF.out
      simp only [rowSet] at z0 z1 z2 z3
      refine bodyPost_ret (by simp [results, Tryz.results29, go_sem, z0, z1, z2, z3]; try rfl) rfl ?_
      obtain ⟨A9, c9, e9, l1, l2, l3, l4⟩ := HLO.out.read eltR_none
      cases e9
      exact ⟨_, rfl, ⟨A5, c5, s0, b0, A0, n0, c0, rfl, l1, l2, l3, HRO.out.ri, fun b off e => Nat.le_trans HSZ.out (l4 b off e)⟩, HUF.out⟩
end Go.Proofs.YtacbjbnocepnaaaGreatDoor
namespace Go.Proofs.YtacbjbnocepnaaaGreatDoor
open Go.RowKit Fm
theorem RIa.grown {w w' : World} {o : Option Nat} {s : Int} {g : Bool} {A : Option Addr} {n c : Nat} {z : Int} (h : RIa w o s g A n c z) (hg : w.grownBy w' o) : RIa w' o s g A n c z := by
  rcases h with h | ⟨h1, h2, h3, h4, h5⟩
  · exact .inl h
  · exact .inr ⟨h1, h2, h3, ev_keep h4 hg.size (fun b off i u e hc => hg.cell hc (fun e2 => h5 b e2.symm b off e rfl)), h5⟩
theorem RIa.moved {w : World} {o : Option Nat} {s : Int} {g : Bool} {A : Option Addr} {n c : Nat} {z : Int} (h : RIa w o s g A n c z) : RIa w (some w.heap.size) s g A n c z := by
  rcases h with h | ⟨h1, h2, h3, h4, h5⟩
  · exact .inl h
  · refine .inr ⟨h1, h2, h3, h4, fun k e b off e2 => ?_⟩
    cases e
    obtain ⟨b', off', e3, hb, -⟩ := ev_ne h4 (by omega)
    rw [e2] at e3
    cases e3
    omega
def eltQ : Elt Rat where
  size := 6
  rel w o cs q := ∃ s g A n c s2 g2 A2 n2 c2, cs = [.int .i64 s, .bool g, .slice A n c, .int .i64 s2, .bool g2, .slice A2 n2 c2] ∧ RIa w o s g A n c q.num ∧ RIa w o s2 g2 A2 n2 c2 q.den
  pos := by decide
  len := by rintro w o cs z ⟨s, g, A, n, c, s2, g2, A2, n2, c2, rfl, -⟩; rfl
  one := by rintro w o cs z ⟨s, g, A, n, c, s2, g2, A2, n2, c2, rfl, -⟩ u hu; simp at hu; rcases hu with rfl | rfl | rfl | rfl | rfl | rfl <;> rfl
  nod := by
    rintro w o cs z ⟨s, g, A, n, c, s2, g2, A2, n2, c2, rfl, -⟩ u hu
    simp at hu
    rcases hu with rfl | rfl | rfl | rfl | rfl | rfl
    · exact NoDig.int _
    · exact NoDig.bool _
    · exact NoDig.slice _ _ _
    · exact NoDig.int _
    · exact NoDig.bool _
    · exact NoDig.slice _ _ _
  up := by rintro w w' o cs z ⟨s, g, A, n, c, s2, g2, A2, n2, c2, rfl, h, k⟩ hu; exact ⟨s, g, A, n, c, s2, g2, A2, n2, c2, rfl, h.up hu, k.up hu⟩
  grow := by rintro w w' o cs z ⟨s, g, A, n, c, s2, g2, A2, n2, c2, rfl, h, k⟩ hg hd; exact ⟨s, g, A, n, c, s2, g2, A2, n2, c2, rfl, h.grown hg, k.grown hg⟩
  move := by rintro w o cs z ⟨s, g, A, n, c, s2, g2, A2, n2, c2, rfl, h, k⟩; exact ⟨s, g, A, n, c, s2, g2, A2, n2, c2, rfl, h.moved, k.moved⟩
theorem eltQ_none {w : World} {o : Option Nat} {cs : List Value} {z : Rat} (h : eltQ.rel w o cs z) : eltQ.rel w none cs z := by
  obtain ⟨s, g, A, n, c, s2, g2, A2, n2, c2, rfl, h, k⟩ := h
  exact ⟨s, g, A, n, c, s2, g2, A2, n2, c2, rfl, h.ri.ria, k.ri.ria⟩
theorem eltQ_rq {w : World} {o : Option Nat} {cs : List Value} {z : Rat} (h : eltQ.rel w o cs z) : RQ w (.agg cs.toArray) z := by
  obtain ⟨s, g, A, n, c, s2, g2, A2, n2, c2, rfl, h, k⟩ := h
  exact ⟨s, s2, g, g2, A, A2, n, c, n2, c2, rfl, h.ri, k.ri⟩
theorem info_rq : (Tryz.prog.info? 50).map (fun i => (i.zero, i.size, i.bytes)) = some (some (.agg #[.int .i64 0, .bool false, .slice none 0 0, .int .i64 0, .bool false, .slice none 0 0]), 6, 80) := by kernel_rfl
theorem zrq_nod : ∀ u ∈ (Value.agg #[.int .i64 0, .bool false, .slice none 0 0, .int .i64 0, .bool false, .slice none 0 0]).cells.toList, NoDig u := by
  intro u hu
  simp [Value.cells] at hu
  rcases hu with rfl | rfl | rfl | rfl | rfl | rfl
  · exact NoDig.int _
  · exact NoDig.bool _
  · exact NoDig.slice _ _ _
  · exact NoDig.int _
  · exact NoDig.bool _
  · exact NoDig.slice _ _ _
end Go.Proofs.YtacbjbnocepnaaaGreatDoor
namespace Go.Proofs.YtacbjbnocepnaaaGreatDoor
open Go.RowKit Fm
end Go.Proofs.YtacbjbnocepnaaaGreatDoor
namespace Go.Proofs.YtacbjbnocepnaaaGreatDoor
open Go.RowKit Fm
end Go.Proofs.YtacbjbnocepnaaaGreatDoor
namespace Go.Proofs.YtacbjbnocepnaaaGreatDoor
open Go.RowKit Fm
theorem gcdR_rl (r : List Int) : ∀ g k, rl (g : Nat) ≤ k → (∀ y, y ∈ r → rl y ≤ k) → rl ((gcdR g r : Nat) : Int) ≤ k := by
  induction r with
  | nil => intro g k h _; exact h
  | cons x r ih =>
    intro g k h hr
    refine ih _ _ ?_ fun y hy => hr y (by simp [hy])
    rcases Nat.eq_zero_or_pos g with h0 | h0
    · subst h0
      rw [Nat.gcd_zero_left]
      have := hr x (by simp)
      unfold rl at this ⊢
      rwa [Int.natAbs_natCast]
    · have h1 := rl_lt h
      rw [Int.natAbs_natCast] at h1
      exact rl_of_lt (by rw [Int.natAbs_natCast]; exact Nat.lt_of_le_of_lt (Nat.gcd_le_left _ h0) h1)
def VarI (w0 : World) (g : Nat) (z : Int) (w : World) : Prop := ∃ s b A n c, CellI w g s b (.slice A n c) ∧ RI w (.agg #[.int .i64 s, .bool b, .slice A n c]) z ∧ Up w0 w
set_option maxHeartbeats 1000000 in
set_option maxRecDepth 10000 in
theorem refDivisor_any (A A2 : Option Addr) (c c2 n2 : Nat) (s : Int) (b : Bool) (zs : List Int) (x : Int) (w : World) (hn : zs.length ≤ 1000000) (hr : RdE eltR w A zs) (hx : RI w (.agg #[.int .i64 s, .bool b, .slice A2 n2 c2]) x) (hbz : ∀ z, z ∈ zs → rl z ≤ 536870912) (hbx : rl x ≤ 536870912) :
    Calls Tryz.prog 94 #[.agg #[.slice A zs.length c, .int .i64 s, .bool b, .slice A2 n2 c2]] w fun e w' => ∃ v, e = .returned v ∧ RI w' v ((gcdR x.natAbs zs : Nat) : Int) ∧ Up w w' := by
  have HAB := Lib.hid (fun W (hu : Up w W) => refAbs_any _ x W (hx.up hu))
  go_enter Tryz.func94, Tryz.ntmps94
  have hq0 := CellQ.new w (.slice A zs.length c) (.slice A2 n2 c2) s b
  obtain ⟨q0, q1, q2, q3, -, lq⟩ := hq0.facts
  go_wp2_with fail
  have HQ0 := Lib.hid (hq0.up (Up.alloc _ (.cells #[.int .i64 0, .bool false, .slice none 0 0] 48)))
  have HR0 := Lib.hid (CellI.new (w.alloc (.cells #[.slice A zs.length c, .int .i64 s, .bool b, .slice A2 n2 c2] 59)) 0 false (.slice none 0 0))
  have HUW := Lib.hid ((Up.alloc w (.cells #[.slice A zs.length c, .int .i64 s, .bool b, .slice A2 n2 c2] 59)).trans (Up.alloc _ (.cells #[.int .i64 0, .bool false, .slice none 0 0] 48)))
  rw [size_alloc] at HR0
  clear hq0 q0 q1 q2 q3 lq
  generalize (w.alloc (.cells #[.slice A zs.length c, .int .i64 s, .bool b, .slice A2 n2 c2] 59)).alloc (.cells #[.int .i64 0, .bool false, .slice none 0 0] 48) = wB at *
  obtain ⟨g0, hg0⟩ : ∃ g0, g0 = w.heap.size := ⟨_, rfl⟩
  obtain ⟨g1, hg1⟩ : ∃ g1, g1 = w.heap.size + 1 := ⟨_, rfl⟩
  have HG1 := Lib.hid (show w.heap.size ≤ g1 by omega)
  rw [← hg0] at HQ0
  rw [← hg1] at HR0
  rw [← hg1, ← hg0]
  clear hg0 hg1
  refine Calls.mono (HAB.out _ HUW.out) ?_
  rintro e w1 ⟨v1, rfl, hv, hu⟩
  obtain ⟨s1, b1, A1, n1, c1, rfl, -⟩ := hv.open_
  have HU1 := Lib.hid hu
  have HV1 := Lib.hid hv
  clear hu hv
  obtain ⟨q0, q1, q2, q3, -, lq⟩ := (HQ0.out.up HU1.out).facts
  go_wp2_with fail
  have HST : Hid (VarI w1 w1.heap.size ((gcdR x.natAbs (zs.take 0) : Nat) : Int) (w1.alloc (.cells #[.int .i64 s1, .bool b1, .slice A1 n1 c1] 48))) := Lib.hid ⟨s1, b1, A1, n1, c1, CellI.new _ _ _ _, HV1.out.up (Up.alloc _ _), Up.alloc _ _⟩
  generalize w1.alloc (.cells #[.int .i64 s1, .bool b1, .slice A1 n1 c1] 48) = wA at *
  obtain ⟨g3, hg3⟩ : ∃ g3, g3 = w1.heap.size := ⟨_, rfl⟩
  rw [← hg3] at HST ⊢
  have HG3 := Lib.hid (show w1.heap.size ≤ g3 by omega)
  have HRE := Lib.hid (hr.up (HUW.out.trans HU1.out))
  have HRB := Lib.hid (HR0.out.up HU1.out)
  have HUX := Lib.hid (HUW.out.trans HU1.out)
  clear hg3 q0 q1 q2 q3 lq HV1 hr hx HAB HQ0 HR0 HUW
  go_loopw [12] (fun i wr => ∃ k : Nat, k ≤ zs.length ∧ i = .int .i64 k ∧ Hid (VarI w1 g3 ((gcdR x.natAbs (zs.take k) : Nat) : Int) wr)) (fun i _ => zs.length - (intOf i).toNat)
  case atStart => exact ⟨0, by omega, rfl, HST⟩
  case round =>
    obtain ⟨k, hk, rfl, HS⟩ := hrel
    obtain ⟨t5, d5, D5, m5, j5, hcr, hq, hup⟩ := HS.out
    have HCR := Lib.hid hcr
    have HQ := Lib.hid hq
    have HUP := Lib.hid hup
    clear hcr hq hup HS HST
    by_cases hkl : k < zs.length
    · obtain ⟨b, off, cs, rfl, hbb, ⟨t1, d1, D1, m1, j1, rfl, hz⟩, hcell⟩ := (HRE.out.up HUP.out).at_ hkl
      have HRI := Lib.hid hz.ri
      have c0 := hcell 0 _ rfl
      have c1 := hcell 1 _ rfl
      have c2 := hcell 2 _ rfl
      have HNEXT : Hid (gcdR x.natAbs (zs.take (k + 1)) = Int.gcd ((gcdR x.natAbs (zs.take k) : Nat) : Int) zs[k]) := Lib.hid (by rw [gcdR_take zs _ k hkl]; rfl)
      have hb1 : rl ((gcdR x.natAbs (zs.take k) : Nat) : Int) ≤ 536870912 := gcdR_rl _ _ _ (by unfold rl at hbx ⊢; rwa [Int.natAbs_natCast]) (fun y hy => hbz y (List.mem_of_mem_take hy))
      have HT := Lib.hid (fun W u1 u2 (h1 : RI W u1 ((gcdR x.natAbs (zs.take k) : Nat) : Int)) (h2 : RI W u2 zs[k]) => refGcd_any u1 u2 _ _ W h1 h2 hb1 (hbz _ (List.getElem_mem hkl)))
      clear hcell hz hb1
      simp only [eltR, Nat.add_zero] at c0 c1 c2
      generalize zs[k] = z at *
      obtain ⟨a0, a1, a2, la⟩ := HCR.out.facts
      go_wp2_with fail
      have HUY := Lib.hid (Up.alloc wr (.cells #[.int .i64 t1, .bool d1, .slice D1 m1 j1] 48))
      refine Calls.mono (HT.out _ _ _ (HQ.out.up HUY.out) (HRI.out.up HUY.out)) ?_
      rintro e w4 ⟨v4, rfl, hv, hu⟩
      have HU4 := Lib.hid hu
      have HV4 := Lib.hid hv
      obtain ⟨s4, b4, A4, n4, c4, rfl, -⟩ := hv.open_
      have HC4 := Lib.hid (HCR.out.up (HUY.out.trans hu))
      clear hu hv a0 a1 a2 la c0 c1 c2 hbb
      obtain ⟨a0, a1, a2, la⟩ := HC4.out.facts
      have f0 := HC4.out.frozen 0
      have f1 := HC4.out.frozen 1
      have f2 := HC4.out.frozen 2
      rw [← HNEXT.out] at HV4
      have HSN : Hid (VarI w1 g3 ((gcdR x.natAbs (zs.take (k + 1)) : Nat) : Int) (put3 w4 g3 (.int .i64 s4) (.bool b4) (.slice A4 n4 c4))) := Lib.hid ⟨_, _, _, _, _, HC4.out.set _ _ _, HV4.out.putI HC4.out _ _ _, Up.put3 (show Up w1 w4 by (repeat (first | exact Below.refl _ _ | exact Hid.out (by assumption) | refine Up.trans ?_ (Up.drew _) | refine Up.trans ?_ (Up.drewN _ _) | refine Up.trans ?_ (Up.alloc _ _) | refine Up.trans ?_ (Hid.out (by assumption))))) HG3.out _ _ _⟩
      go_wp2
      exact ⟨⟨k + 1, hkl, by simp, HSN⟩, by simp [intOf]; omega⟩
    · have hke : k = zs.length := by omega
      subst hke
      rw [List.take_of_length_le (Nat.le_refl _)] at HQ
      obtain ⟨a0, a1, a2, la⟩ := HCR.out.facts
      have HR8 := Lib.hid (HRB.out.up HUP.out)
      obtain ⟨r0, r1, r2, lr⟩ := HR8.out.facts
      have f0 := HR8.out.frozen 0
      have f1 := HR8.out.frozen 1
      have f2 := HR8.out.frozen 2
      have HFF := Lib.hid ((HR8.out.set t5 d5 (.slice D5 m5 j5)).facts)
      have HQF := Lib.hid (HQ.out.putI HR8.out (.int .i64 t5) (.bool d5) (.slice D5 m5 j5))
      have HUF := Lib.hid (Up.put3 (HUX.out.trans HUP.out) HG1.out (.int .i64 t5) (.bool d5) (.slice D5 m5 j5))
      go_wp2
      obtain ⟨z0, z1, z2, -⟩ := HFF.out
      simp only [put3] at z0 z1 z2
      refine bodyPost_ret (by simp [results, Tryz.results94, go_sem, z0, z1, z2]; try rfl) rfl ?_
      exact ⟨_, rfl, HQF.out, HUF.out⟩
end Go.Proofs.YtacbjbnocepnaaaGreatDoor
namespace Go.Proofs.YtacbjbnocepnaaaGreatDoor
open Go.RowKit Fm
def RowR (w : World) (v : Value) (zs : List Int) (x : Int) : Prop :=
  ∃ A c s b A2 n2 c2, v = .agg #[.slice A zs.length c, .int .i64 s, .bool b, .slice A2 n2 c2] ∧ zs.length ≤ c ∧ c ≤ maxLen ∧ RdE eltR w A zs ∧ RI w (.agg #[.int .i64 s, .bool b, .slice A2 n2 c2]) x
theorem RI.keep {w w' : World} {s : Int} {b : Bool} {A : Option Addr} {n c : Nat} {z : Int} (h : RI w (.agg #[.int .i64 s, .bool b, .slice A n c]) z) (hz : z.natAbs < 2305843009213693952) : RI w' (.agg #[.int .i64 s, .bool b, .slice A n c]) z := by
  obtain ⟨s', b', A', n', c', e, h⟩ := h
  cases e
  rcases h with h | ⟨_, _, h3, _⟩
  · exact ⟨s, b, A, n, c, rfl, .inl h⟩
  · omega
theorem RdE.putQ {w : World} {A : Option Addr} {zs : List Int} (h : RdE eltR w A zs) {g : Nat} {v1 v2 : Value} {s' : Int} {b' : Bool} (hg : CellQ w g v1 s' b' v2) (hv : ∀ x, v1 ≠ .int .i64 x) (ha : zs ≠ [] → Away A g) (i : Nat) (u : Value) : RdE eltR (w.setCell ⟨g, i, none⟩ u) A zs := fun hn => by
  obtain ⟨b, off, rfl, hb, hc⟩ := h hn
  have hne := ha hn b off rfl
  refine ⟨b, off, rfl, by rw [setCell_size]; exact hb, fun j hj => ?_⟩
  obtain ⟨cs, ⟨t, d, D, m, k, rfl, h1⟩, h2⟩ := hc j hj
  refine ⟨_, ⟨t, d, D, m, k, rfl, h1.put hg hv i u⟩, fun l u' hl => ?_⟩
  rw [World.cell?_setCell_other _ _ _ _ (by intro e; injection e with e; exact hne e.symm)]
  exact h2 l u' hl
theorem RdE.putRow {w : World} {A : Option Addr} {zs : List Int} (h : RdE eltR w A zs) {g : Nat} {v1 v2 : Value} {s : Int} {b : Bool} (hg : CellQ w g v1 s b v2) (hv : ∀ x, v1 ≠ .int .i64 x) (ha : zs ≠ [] → Away A g) (v' : Value) (hv' : ∀ x, v' ≠ .int .i64 x) (s' : Int) (b' : Bool) (v2' : Value) : RdE eltR (rowSet w g v' s' b' v2') A zs :=
  (((h.putQ hg hv ha 0 v').putQ (hg.set v') hv' ha 1 (.int .i64 s')).putQ ((hg.set v').set1 s') hv' ha 2 (.bool b')).putQ (((hg.set v').set1 s').set2 b') hv' ha 3 v2'
end Go.Proofs.YtacbjbnocepnaaaGreatDoor
namespace Go.Proofs.YtacbjbnocepnaaaGreatDoor
open Go.RowKit Fm
theorem gcdR_start (zs : List Int) : ∀ g, gcdR g zs = Nat.gcd g (gcdR 0 zs) := by
  induction zs with
  | nil => intro g; simp [gcdR]
  | cons y r ih =>
    intro g
    simp only [gcdR]
    rw [ih (Nat.gcd g y.natAbs), ih (Nat.gcd 0 y.natAbs), Nat.gcd_zero_left, Nat.gcd_assoc]
theorem gcdR_append (zs : List Int) (x : Int) : ∀ g, gcdR g (zs ++ [x]) = Nat.gcd (gcdR g zs) x.natAbs := by
  induction zs with
  | nil => intro g; rfl
  | cons y r ih => intro g; simp only [List.cons_append, gcdR]; exact ih _
theorem gcdR_row (f : List Int × Int) : gcdR 0 (rowF f) = gcdR f.2.natAbs f.1 := by
  unfold rowF
  rw [gcdR_append, gcdR_start f.1 f.2.natAbs, Nat.gcd_comm]
theorem primF_eq (f : List Int × Int) : primF f = if gcdR f.2.natAbs f.1 = 0 then f else (f.1.map (·.tdiv (gcdR f.2.natAbs f.1 : Nat)), f.2.tdiv (gcdR f.2.natAbs f.1 : Nat)) := by
  unfold primF primR
  rw [gcdR_row]
  split
  · unfold rowF
    simp
  · unfold rowF
    simp [List.map_append]
end Go.Proofs.YtacbjbnocepnaaaGreatDoor
namespace Go.Proofs.YtacbjbnocepnaaaGreatDoor
open Go.RowKit Fm
def fewF (fs : List (List Int × Int)) : Bool := (fs.all fun f => decide (f.1.length ≤ 40)) && decide (fs.length < 140)
end Go.Proofs.YtacbjbnocepnaaaGreatDoor
namespace Go.Proofs.YtacbjbnocepnaaaGreatDoor
open Go.RowKit Fm
set_option maxHeartbeats 1000000 in
set_option maxRecDepth 10000 in
theorem few_all (A : Option Addr) (c : Nat) (fs : List (List Int × Int)) (w : World) (hn : fs.length ≤ 9223372036854775807) (hr : RdE eltForm w A fs) :
    Calls Tryz.prog 8 #[.slice A fs.length c] w fun e w' => e = .returned (.bool (fewF fs)) ∧ Up w w' := by
  go_enter Tryz.func8, Tryz.ntmps8
  go_wp2
  go_loopw [7] (fun i wr => ∃ k : Nat, k ≤ fs.length ∧ i = .int .i64 k ∧ Hid ((fs.take k).all (fun f => decide (f.1.length ≤ 40)) = true) ∧ Hid (Up w wr)) (fun i _ => fs.length - (intOf i).toNat)
  case atStart => exact ⟨0, by omega, rfl, Lib.hid rfl, Lib.hid (Up.refl _)⟩
  case round =>
    obtain ⟨k, hk, rfl, HK, HU⟩ := hrel
    by_cases hkl : k < fs.length
    · obtain ⟨b, off, B, c', rfl, hbb, c0, c1, h3, h4, h5⟩ := (hr.up HU.out).f hkl
      have HNEXT : Hid ((fs.take (k + 1)).all (fun f => decide (f.1.length ≤ 40)) = decide (fs[k].1.length ≤ 40)) := Lib.hid (by
        rw [List.take_succ_eq_append_getElem hkl, List.all_append, HK.out]; simp)
      have HFALSE : Hid (¬ fs[k].1.length ≤ 40 → fewF fs = false) := Lib.hid (fun h => by
        unfold fewF
        rw [Bool.and_eq_false_iff]
        left
        rw [List.all_eq_false]
        exact ⟨fs[k], List.getElem_mem hkl, by simp; omega⟩)
      have hml : fs[k].1.length ≤ maxLen := Nat.le_trans h3 h4
      unfold maxLen at hml
      generalize fs[k] = f at *
      clear h3 h4 h5 hr
      have HUY := Lib.hid (Up.alloc wr (.cells #[.slice B f.1.length c', .int .i64 f.2] 28))
      by_cases h40 : f.1.length ≤ 40
      · have i0 : ¬ (40 : Int) < (f.1.length : Int) := by omega
        have HN2 : Hid ((fs.take (k + 1)).all (fun f => decide (f.1.length ≤ 40)) = true) := Lib.hid (by rw [HNEXT.out]; simp [h40])
        clear HNEXT HFALSE h40
        go_wp2
        exact ⟨⟨k + 1, by omega, by simp, HN2, Lib.hid (HU.out.trans HUY.out)⟩, by simp [intOf]; omega⟩
      · have i0 : (40 : Int) < (f.1.length : Int) := by omega
        have HF := Lib.hid (HFALSE.out h40)
        clear HNEXT HFALSE h40
        go_wp2
        go_ret
        exact ⟨by rw [HF.out]; rfl, HU.out.trans HUY.out⟩
    · have HA2 : Hid (fewF fs = decide (fs.length < 140)) := Lib.hid (by
        have := HK.out
        rw [List.take_of_length_le (by omega)] at this
        unfold fewF
        rw [this]; rfl)
      by_cases h140 : fs.length < 140
      · have i0 : (fs.length : Int) < 140 := by omega
        have HB : Hid (fewF fs = true) := Lib.hid (by rw [HA2.out]; simp [h140])
        clear HA2 h140
        go_wp2
        go_ret
        exact ⟨by rw [HB.out]; rfl, HU.out⟩
      · have i0 : ¬ (fs.length : Int) < 140 := by omega
        have HB : Hid (fewF fs = false) := Lib.hid (by rw [HA2.out]; simp [h140])
        clear HA2 h140
        go_wp2
        go_ret
        exact ⟨by rw [HB.out]; rfl, HU.out⟩
end Go.Proofs.YtacbjbnocepnaaaGreatDoor
