/- Lists of integers and of rows of the reference implementation. -/
import Derived.Test.YtacbjbnocepnaaaGreatDoorQHJ
namespace Go.Proofs.YtacbjbnocepnaaaGreatDoor
open Go.RowKit Fm
def PatL (ok : Nat → Value → Prop) (size : Nat) (l : List Value) : Prop := ∀ j u, l[j]? = some u → ok (j % size) u
theorem mod_sub_mul {j m size : Nat} (h : m ≤ j) (hm : m % size = 0) : j % size = (j - m) % size := by
  obtain ⟨k, rfl⟩ := Nat.dvd_of_mod_eq_zero hm
  obtain ⟨d, rfl⟩ := Nat.exists_eq_add_of_le h
  rw [Nat.add_sub_cancel_left, Nat.add_comm, Nat.add_mul_mod_self_left]
theorem PatL.append {ok : Nat → Value → Prop} {size : Nat} {l1 l2 : List Value} (h1 : PatL ok size l1) (hl : l1.length % size = 0) (h2 : PatL ok size l2) : PatL ok size (l1 ++ l2) := fun j u e => by
  rcases Nat.lt_or_ge j l1.length with hj | hj
  · rw [List.getElem?_append_left hj] at e
    exact h1 j u e
  · rw [List.getElem?_append_right hj] at e
    rw [mod_sub_mul hj hl]
    exact h2 _ u e
theorem PatL.take {ok : Nat → Value → Prop} {size : Nat} {l : List Value} (h : PatL ok size l) (m : Nat) : PatL ok size (l.take m) := fun j u e => by
  rw [List.getElem?_take] at e
  split at e
  · exact h j u e
  · cases e
theorem PatL.drop {ok : Nat → Value → Prop} {size : Nat} {l : List Value} (h : PatL ok size l) {m : Nat} (hm : m % size = 0) : PatL ok size (l.drop m) := fun j u e => by
  rw [List.getElem?_drop] at e
  have := h _ u e
  rwa [mod_sub_mul (Nat.le_add_right m j) hm, Nat.add_sub_cancel_left] at this
theorem PatL.one {ok : Nat → Value → Prop} {size : Nat} {l : List Value} (hl : l.length = size) (h : ∀ j u, l[j]? = some u → ok j u) : PatL ok size l := fun j u e => by
  have hj : j < l.length := (List.getElem?_eq_some_iff.1 e).1
  rw [Nat.mod_eq_of_lt (by omega)]
  exact h j u e
theorem PatL.zero {ok : Nat → Value → Prop} {z : Array Value} (hz : 0 < z.size) (h : ∀ j u, z[j]? = some u → ok j u) (k : Nat) : PatL ok z.size (Builtin.zeroCells z k).toList := fun j u e => by
  unfold Builtin.zeroCells at e
  rw [Array.getElem?_toList] at e
  simp only [Array.getElem?_map, Option.map_eq_some_iff] at e
  obtain ⟨i, hi, rfl⟩ := e
  have hji : i = j := by
    have := Array.getElem?_eq_some_iff.1 hi
    simpa using this.2.symm
  subst hji
  have hi2 : i % z.size < z.size := Nat.mod_lt _ hz
  refine h _ _ ?_
  rw [getElem!_pos z (i % z.size) hi2, Array.getElem?_eq_getElem hi2]
def Pat (ok : Nat → Value → Prop) (size : Nat) (w : World) (o : Option Nat) : Prop := ∀ g, o = some g → ∀ j u, w.cell? ⟨g, j, none⟩ = some u → ok (j % size) u
theorem pat_heap {ok : Nat → Value → Prop} {size : Nat} {w : World} {g : Nat} {arr : Array Value} {t : TypeId} (h : w.heap[g]? = some (.cells arr t (0, 0))) (ha : PatL ok size arr.toList) : ∀ j u, w.cell? ⟨g, j, none⟩ = some u → ok (j % size) u := fun j u e => by
  rw [cell_of_row w g j _ _ _ h, ← Array.getElem?_toList] at e
  exact ha j u e
theorem heap_pat {ok : Nat → Value → Prop} {size : Nat} {w : World} {g : Nat} {arr : Array Value} {t : TypeId} (h : w.heap[g]? = some (.cells arr t (0, 0))) (hp : Pat ok size w (some g)) : PatL ok size arr.toList := fun j u e => by
  refine hp g rfl j u ?_
  rw [cell_of_row w g j _ _ _ h, ← Array.getElem?_toList]
  exact e
theorem Pat.up {ok : Nat → Value → Prop} {size : Nat} {w w' : World} {o : Option Nat} (h : Pat ok size w o) (hl : ∀ g, o = some g → g < w.heap.size) (hu : Up w w') : Pat ok size w' o := fun g hg j u e => by
  rw [hu.cells.1 _ _ (hl g hg)] at e
  exact h g hg j u e
theorem Pat.far {ok : Nat → Value → Prop} {size : Nat} {w : World} {o : Option Nat} (h : Pat ok size w o) {g' : Nat} (hn : ∀ g, o = some g → g ≠ g') (i : Nat) (v : Value) : Pat ok size (w.setCell ⟨g', i, none⟩ v) o := fun g hg j u e => by
  have := hn g hg
  rw [World.cell?_setCell_other _ _ _ _ (by intro e; injection e with e; exact this e.symm)] at e
  exact h g hg j u e
theorem pat_push (ok : Nat → Value → Prop) (w : World) (base : Nat) (t ty e : TypeId) (i : TypeInfo) (z : Value) (size bytes : Nat) (ht : Tryz.prog.underlying t = some (.slice e)) (hi : Tryz.prog.info? e = some i) (hz : i.zero = some z)
    (hsize : i.size = size) (hby : i.bytes = bytes) (hzs : z.cells.size = size) (hsz : 0 < size)
    (v : Value) (n : Nat) (xs : List Value) (hown : w.ownsRow base e size v n xs) (hp : Pat ok size w v.ownBlock)
    (a : Addr) (c : Nat) (news : List Value) (hl : news.length = size) (hnews : ∀ j u, news[j]? = some u → w.cell? (a.add j) = some u) (h1 : ∀ u ∈ news, u.oneCell' = true)
    (hnn : ∀ j u, news[j]? = some u → ok j u) (hzz : ∀ j u, z.cells[j]? = some u → ok j u) (h63 : n + 1 ≤ maxLen) (hbytes : (n + 1) * bytes ≤ 140737488355328)
    (v' : Value) (w' : World) (hr : (Builtin.append_ #[t, t] ty #[v, .slice (some a) 1 c]).run Tryz.prog w = .ok v' w') : Pat ok size w' v'.ownBlock := by
  have hl1 : news.length = 1 * size := by omega
  have hsmall : n + 1 ≤ 9223372036854775807 := by simp only [maxLen] at h63; omega
  subst hsize
  subst hby
  rcases hown.2 with ⟨rfl, rfl⟩ | ⟨g, cap, cur, rfl, hbg, hg, hnc, hcm, hcs, htake⟩
  · have hr2 := run_append_nil (P := Tryz.prog) w t ty e i z ht hi hz a 1 c news hl1 hnews (by omega) (by omega) (by omega)
    rw [hr2] at hr
    injection hr with e1 e2
    subst e1; subst e2
    intro g hg
    cases hg
    refine pat_heap (heap_alloc_new w.drew _) ?_
    simp only [Array.toList_append]
    exact (PatL.one hl hnn).append (by rw [hl, Nat.mod_self]) (hzs ▸ PatL.zero (by rw [hzs]; exact hsz) hzz _)
  · by_cases hroom : n + 1 ≤ cap
    · have hfit : n * i.size + news.length ≤ cur.size := by rw [hl1, hcs, ← Nat.add_mul]; exact Nat.mul_le_mul_right _ hroom
      have hr2 := run_append_room (P := Tryz.prog) w t ty e i ht hi g n cap cur hg a 1 c news hl1 hnews h1 hroom hfit
      rw [hr2] at hr
      injection hr with e1 e2
      subst e1; subst e2
      have hcur := heap_pat hg hp
      intro g' hg'
      cases hg'
      refine pat_heap (setRow_heap w g cur _ e _ hg) ?_
      have hm : n * i.size ≤ cur.toList.length := by simp; omega
      refine (((hcur.take _).append ?_ (PatL.one hl hnn)).append ?_ (hcur.drop ?_))
      · rw [List.length_take, Nat.min_eq_left hm, Nat.mul_mod_left]
      · rw [List.length_append, List.length_take, Nat.min_eq_left hm, hl, ← Nat.succ_mul, Nat.mul_mod_left]
      · rw [hl, ← Nat.succ_mul, Nat.mul_mod_left]
    · have holds : ∀ j u, xs[j]? = some u → w.cell? ((⟨g, 0, none⟩ : Addr).add j) = some u := hown.cells (g := g) rfl
      have hr2 := run_append_grow (P := Tryz.prog) w t ty e i z ht hi hz ⟨g, 0, none⟩ n cap xs hown.1 holds a 1 c news hl1 hnews (by omega) (by omega) (growslice_fits (by omega) hbytes)
      rw [hr2] at hr
      injection hr with e1 e2
      subst e1; subst e2
      intro g' hg'
      cases hg'
      have hcur := heap_pat hg hp
      refine pat_heap (heap_alloc_new w.drew _) ?_
      simp only [Array.toList_append]
      have hxs : PatL ok i.size xs := by
        have h9 := hcur.take (n * i.size)
        have h8 : xs = cur.toList.take (n * i.size) := by first | exact htake.symm | (rw [← htake]; simp)
        rw [h8]; exact h9
      have hxl : xs.length % i.size = 0 := by rw [hown.1, Nat.mul_mod_left]
      refine ((hxs.append hxl (PatL.one hl hnn)).append ?_ (hzs ▸ PatL.zero (by rw [hzs]; exact hsz) hzz _))
      simp only [List.length_append, hown.1, hl]
      rw [← Nat.succ_mul, Nat.mul_mod_left]
def OwP {α : Type} (E : Elt α) (ok : Nat → Value → Prop) (w0 w : World) (t : TypeId) (v : Value) (zs : List α) : Prop := OwE E w0 w t v zs ∧ Pat ok E.size w v.ownBlock
theorem OwP.up {α : Type} {E : Elt α} {ok : Nat → Value → Prop} {w0 w w' : World} {t : TypeId} {v : Value} {zs : List α} (h : OwP E ok w0 w t v zs) (hu : Up w w') : OwP E ok w0 w' t v zs :=
  ⟨h.1.up hu, h.2.up (fun g hg => h.1.lt g hg) hu⟩
theorem OwP.nil {α : Type} (E : Elt α) (ok : Nat → Value → Prop) (w0 w : World) (t : TypeId) : OwP E ok w0 w t (.slice none 0 0) [] := ⟨OwE.nil _ _ _ _, fun g e => by cases e⟩
theorem oper_pushP {α : Type} (E : Elt α) (ok : Nat → Value → Prop) {w : World} {o : Oper} {a : Act} {K : Act → World → Prop} {Q : Exit → Act → World → Prop} (w0 : World) (s x : Operand) (t e : TypeId)
    (ho : o.op = .call { callee := .builtin .append, args := #[s, x], argTypes := #[t, t] }) (z0 : Value) (bytes : Nat) (ht : Tryz.prog.underlying t = some (.slice e)) (hi : (Tryz.prog.info? e).map (fun i => (i.zero, i.size, i.bytes)) = some (some z0, E.size, bytes)) (hzs : z0.cells.size = E.size) (hzz : ∀ u ∈ z0.cells.toList, NoDig u) (hzo : ∀ j u, z0.cells[j]? = some u → ok j u) (hby : bytes ≤ 128)
    (v : Value) (zs : List α) (hs : a.eval s = v) (hown : OwP E ok w0 w e v zs) (hu : Up w0 w)
    (ad : Addr) (hx : a.eval x = .slice (some ad) 1 1) (cs : List Value) (z : α) (hcell : ∀ j u, cs[j]? = some u → w.cell? (ad.add j) = some u) (hrel : E.rel w v.ownBlock cs z) (hok : ∀ j u, cs[j]? = some u → ok j u) (hlen : zs.length ≤ 1000000000)
    (h : ∀ v' w', OwP E ok w0 w' e v' (zs ++ [z]) → Up w0 w' → K (a.put o.dst v') w') : Oper.wp Tryz.prog o a w K Q := by
  obtain ⟨⟨css, h1, h2, h3⟩, hpt⟩ := hown
  obtain ⟨i0, hi0, hz0, hz1, hz2⟩ := info_parts hi
  have hbb : (zs.length + 1) * bytes ≤ 140737488355328 := by
    have : (zs.length + 1) * bytes ≤ 1000000001 * 128 := Nat.mul_le_mul (by omega) hby
    omega
  obtain ⟨v', w', hr, k1, k2, k3, k4⟩ := run_push w w0.heap.size t o.type e i0 z0 E.size bytes ht hi0 hz0 hz1 hz2 hzs E.pos v zs.length css.flatten h2 h3 ad 1 cs (E.len hrel) hcell (E.one hrel) (E.nod hrel) hzz (by unfold maxLen; omega) hbb hu.size
  have hE : Elts E w' v'.ownBlock (css ++ [cs]) (zs ++ [z]) := by
    have a1 : Elts E w v.ownBlock (css ++ [cs]) (zs ++ [z]) := h1.snoc hrel
    rcases k4 with e1 | ⟨e1, e2⟩
    · rw [e1]; exact a1.map fun h => E.grow h k2 h3
    · rw [e1]
      exact (a1.map (o' := some w.heap.size) fun h => E.move h).map fun h => E.grow h e2 fun g hg j x => by
        cases hg
        simp [World.cell?]
  have hpp : Pat ok E.size w' v'.ownBlock := pat_push ok w w0.heap.size t o.type e i0 z0 E.size bytes ht hi0 hz0 hz1 hz2 hzs E.pos v zs.length css.flatten h2 hpt ad 1 cs (E.len hrel) hcell (E.one hrel) hok hzo (by unfold maxLen; omega) hbb v' w' hr
  have hO : OwP E ok w0 w' e v' (zs ++ [z]) := by
    refine ⟨⟨css ++ [cs], hE, ?_, k3⟩, hpp⟩
    rw [List.length_append, List.flatten_append]
    simpa using k1
  have hU : Up w0 w' := Below.grown hu k2 hu.size (fun k hk => (h2.lt k hk).1)
  unfold Oper.wp execOp
  simp only [ho, resolve, invoke, builtin, Sem.run_bind, Sem.run_pure, Result.andThen_ok, List.map_toArray, List.map_cons, List.map_nil, hs, hx, hr]
  exact h v' w' hO hU
theorem step_pushP {α : Type} (E : Elt α) (ok : Nat → Value → Prop) {w : World} {ops : Array Oper} {o : Oper} {a : Act} {K : Act → World → Prop} {Q : Exit → Act → World → Prop} {F : Prop} (w0 : World) (hgd : o.guard = none) (s x : Operand) (t e : TypeId)
    (ho : o.op = .call { callee := .builtin .append, args := #[s, x], argTypes := #[t, t] }) (z0 : Value) (bytes : Nat) (ht : Tryz.prog.underlying t = some (.slice e)) (hi : (Tryz.prog.info? e).map (fun i => (i.zero, i.size, i.bytes)) = some (some z0, E.size, bytes)) (hzs : z0.cells.size = E.size) (hzz : ∀ u ∈ z0.cells.toList, NoDig u) (hzo : ∀ j u, z0.cells[j]? = some u → ok j u) (hby : bytes ≤ 128)
    (v : Value) (zs : List α) (hs : a.eval s = v) (hown : OwP E ok w0 w e v zs) (hu : Up w0 w)
    (ad : Addr) (hx : a.eval x = .slice (some ad) 1 1) (cs : List Value) (z : α) (hcell : ∀ j u, cs[j]? = some u → w.cell? (ad.add j) = some u) (hrel : E.rel w v.ownBlock cs z) (hok : ∀ j u, cs[j]? = some u → ok j u) (hlen : zs.length ≤ 1000000000)
    (h : ∀ v' w', OwP E ok w0 w' e v' (zs ++ [z]) → Up w0 w' → K (a.put o.dst v') w') : if Region.wanted o (yielded ops a.tmps) = true then Oper.wp Tryz.prog o a w K Q else F := by
  have hw : Region.wanted o (yielded ops a.tmps) = true := by simp [Region.wanted, hgd]
  rw [if_pos hw]
  exact oper_pushP E ok w0 s x t e ho z0 bytes ht hi hzs hzz hzo hby v zs hs hown hu ad hx cs z hcell hrel hok hlen h
theorem wpList_pushP {α : Type} (E : Elt α) (ok : Nat → Value → Prop) {w : World} {ops : Array Oper} {rest : List Oper} {o : Oper} {a : Act} {Q : Exit → Act → World → Prop} (w0 : World) (hgd : o.guard = none) (s x : Operand) (t e : TypeId)
    (ho : o.op = .call { callee := .builtin .append, args := #[s, x], argTypes := #[t, t] }) (z0 : Value) (bytes : Nat) (ht : Tryz.prog.underlying t = some (.slice e)) (hi : (Tryz.prog.info? e).map (fun i => (i.zero, i.size, i.bytes)) = some (some z0, E.size, bytes)) (hzs : z0.cells.size = E.size) (hzz : ∀ u ∈ z0.cells.toList, NoDig u) (hzo : ∀ j u, z0.cells[j]? = some u → ok j u) (hby : bytes ≤ 128)
    (v : Value) (zs : List α) (hs : a.eval s = v) (hown : OwP E ok w0 w e v zs) (hu : Up w0 w)
    (ad : Addr) (hx : a.eval x = .slice (some ad) 1 1) (cs : List Value) (z : α) (hcell : ∀ j u, cs[j]? = some u → w.cell? (ad.add j) = some u) (hrel : E.rel w v.ownBlock cs z) (hok : ∀ j u, cs[j]? = some u → ok j u) (hlen : zs.length ≤ 1000000000)
    (h : ∀ v' w', OwP E ok w0 w' e v' (zs ++ [z]) → Up w0 w' → wpList Tryz.prog ops Q rest (a.put o.dst v') w') : wpList Tryz.prog ops Q (o :: rest) a w :=
  wpList_plain hgd fun _ hK => oper_pushP E ok w0 s x t e ho z0 bytes ht hi hzs hzz hzo hby v zs hs hown hu ad hx cs z hcell hrel hok hlen fun v' w' h1 h2 => hK _ _ (h v' w' h1 h2)
def okR : Nat → Value → Prop := fun j u => j ≠ 0 → ∀ x, u ≠ .int .i64 x
theorem okR_elt {s : Int} {b : Bool} {A : Option Addr} {n c : Nat} : ∀ j u, ([.int .i64 s, .bool b, .slice A n c] : List Value)[j]? = some u → okR j u := fun j u e hj x => by
  match j, e, hj with
  | 0, _, hj => exact absurd rfl hj
  | 1, e, _ => simp at e; subst e; intro h; cases h
  | 2, e, _ => simp at e; subst e; intro h; cases h
theorem okR_zero : ∀ j u, (Value.agg #[.int .i64 0, .bool false, .slice none 0 0]).cells[j]? = some u → okR j u := fun j u e => okR_elt (s := 0) (b := false) (A := none) (n := 0) (c := 0) j u (by simpa [Value.cells] using e)
theorem okR_away {w : World} {g : Nat} (hp : Pat okR 3 w (some g)) {A : Option Addr} {n c m : Nat} (h : Ev w (.slice A n c) m) (hm : 2305843009213693952 ≤ m) : Away A g := by
  intro b' off e e2
  obtain ⟨b2, off2, e3, hb, hc⟩ := ev_ne h (by omega)
  rw [e] at e3
  cases e3
  subst e2
  have hl := digs_len3 hm
  have k0 := hp b' rfl _ _ (hc 0 (by omega))
  have k1 := hp b' rfl _ _ (hc 1 (by omega))
  rcases Nat.eq_zero_or_pos ((off + 0) % 3) with h0 | h0
  · exact k1 (by omega) _ rfl
  · exact k0 (by omega) _ rfl
theorem RI.eltP {w : World} {s : Int} {b : Bool} {A : Option Addr} {n c : Nat} {z : Int} (h : RI w (.agg #[.int .i64 s, .bool b, .slice A n c]) z) {v : Value} (hp : Pat okR 3 w v.ownBlock) : eltR.rel w v.ownBlock [.int .i64 s, .bool b, .slice A n c] z := by
  obtain ⟨s', b', A', n', c', e, h⟩ := h
  cases e
  refine ⟨s, b, A, n, c, rfl, ?_⟩
  rcases h with h | ⟨h1, h2, h3, h4⟩
  · exact .inl h
  · refine .inr ⟨h1, h2, h3, h4, fun k e => okR_away (g := k) (fun g hg => hp g (by rw [e]; exact hg)) h4 h3⟩
end Go.Proofs.YtacbjbnocepnaaaGreatDoor
namespace Go.Proofs.YtacbjbnocepnaaaGreatDoor
open Go.RowKit Fm
def RdO (w : World) (o : Option Nat) (A : Option Addr) (zs : List Int) : Prop :=
  zs ≠ [] → ∃ b off, A = some ⟨b, off, none⟩ ∧ b < w.heap.size ∧ (∀ g, o = some g → b ≠ g) ∧ ∀ i (hi : i < zs.length), ∃ cs, eltR.rel w o cs zs[i] ∧ ∀ j u, cs[j]? = some u → w.cell? ⟨b, off + i * 3 + j, none⟩ = some u
theorem RdO.up {w w' : World} {o : Option Nat} {A : Option Addr} {zs : List Int} (h : RdO w o A zs) (hu : Up w w') : RdO w' o A zs := fun hn => by
  obtain ⟨b, off, rfl, hb, ho, hc⟩ := h hn
  refine ⟨b, off, rfl, Nat.lt_of_lt_of_le hb hu.size, ho, fun i hi => ?_⟩
  obtain ⟨cs, h1, h2⟩ := hc i hi
  exact ⟨cs, eltR.up h1 hu, fun j u hj => (hu.cells.1 _ _ hb).trans (h2 j u hj)⟩
theorem RdO.rd {w : World} {o : Option Nat} {A : Option Addr} {zs : List Int} (h : RdO w o A zs) : RdE eltR w A zs := fun hn => by
  obtain ⟨b, off, rfl, hb, ho, hc⟩ := h hn
  refine ⟨b, off, rfl, hb, fun i hi => ?_⟩
  obtain ⟨cs, h1, h2⟩ := hc i hi
  exact ⟨cs, eltR_none h1, h2⟩
theorem RdE.none {w : World} {A : Option Addr} {zs : List Int} (h : RdE eltR w A zs) : RdO w none A zs := fun hn => by
  obtain ⟨b, off, rfl, hb, hc⟩ := h hn
  exact ⟨b, off, rfl, hb, fun g hg => (by cases hg), hc⟩
theorem RdO.grown {w w' : World} {o : Option Nat} {A : Option Addr} {zs : List Int} (h : RdO w o A zs) (hg : w.grownBy w' o) (hd : NoDigs w o) : RdO w' o A zs := fun hn => by
  obtain ⟨b, off, rfl, hb, ho, hc⟩ := h hn
  refine ⟨b, off, rfl, Nat.lt_of_lt_of_le hb hg.size, ho, fun i hi => ?_⟩
  obtain ⟨cs, h1, h2⟩ := hc i hi
  exact ⟨cs, eltR.grow h1 hg hd, fun j u hj => hg.cell (h2 j u hj) (fun e => ho b e.symm rfl)⟩
theorem RdO.move {w : World} {o : Option Nat} {A : Option Addr} {zs : List Int} (h : RdO w o A zs) : RdO w (some w.heap.size) A zs := fun hn => by
  obtain ⟨b, off, rfl, hb, ho, hc⟩ := h hn
  refine ⟨b, off, rfl, hb, fun g hg => by cases hg; omega, fun i hi => ?_⟩
  obtain ⟨cs, h1, h2⟩ := hc i hi
  exact ⟨cs, eltR.move h1, h2⟩
def eltW : Elt (List Int × Int) where
  size := 4
  rel w o cs r := ∃ A c s b A2 n2 c2, cs = [.slice A r.1.length c, .int .i64 s, .bool b, .slice A2 n2 c2] ∧ r.1.length ≤ c ∧ c ≤ maxLen ∧ RdO w o A r.1 ∧ RIa w o s b A2 n2 c2 r.2
  pos := by decide
  len := by rintro w o cs z ⟨A, c, s, b, A2, n2, c2, rfl, -⟩; rfl
  one := by
    rintro w o cs z ⟨A, c, s, b, A2, n2, c2, rfl, -⟩ u hu
    simp at hu
    rcases hu with rfl | rfl | rfl | rfl <;> rfl
  nod := by
    rintro w o cs z ⟨A, c, s, b, A2, n2, c2, rfl, -⟩ u hu
    simp at hu
    rcases hu with rfl | rfl | rfl | rfl
    · exact NoDig.slice _ _ _
    · exact NoDig.int _
    · exact NoDig.bool _
    · exact NoDig.slice _ _ _
  up := by rintro w w' o cs z ⟨A, c, s, b, A2, n2, c2, rfl, h1, h2, h3, h4⟩ hu; exact ⟨A, c, s, b, A2, n2, c2, rfl, h1, h2, h3.up hu, h4.up hu⟩
  grow := by
    rintro w w' o cs z ⟨A, c, s, b, A2, n2, c2, rfl, h1, h2, h3, h4⟩ hg hd
    obtain ⟨s', b', A', n', c', e, h5⟩ := eltR.grow (show eltR.rel w o [.int .i64 s, .bool b, .slice A2 n2 c2] z.2 from ⟨s, b, A2, n2, c2, rfl, h4⟩) hg hd
    cases e
    exact ⟨A, c, s, b, A2, n2, c2, rfl, h1, h2, h3.grown hg hd, h5⟩
  move := by
    rintro w o cs z ⟨A, c, s, b, A2, n2, c2, rfl, h1, h2, h3, h4⟩
    obtain ⟨s', b', A', n', c', e, h5⟩ := eltR.move (show eltR.rel w o [.int .i64 s, .bool b, .slice A2 n2 c2] z.2 from ⟨s, b, A2, n2, c2, rfl, h4⟩)
    cases e
    exact ⟨A, c, s, b, A2, n2, c2, rfl, h1, h2, h3.move, h5⟩
theorem eltW_none {w : World} {o : Option Nat} {cs : List Value} {r : List Int × Int} (h : eltW.rel w o cs r) : eltW.rel w none cs r := by
  obtain ⟨A, c, s, b, A2, n2, c2, rfl, h1, h2, h3, h4⟩ := h
  exact ⟨A, c, s, b, A2, n2, c2, rfl, h1, h2, h3.rd.none, h4.ri.ria⟩
theorem eltW_row {w : World} {o : Option Nat} {A : Option Addr} {k c : Nat} {s : Int} {b : Bool} {A2 : Option Addr} {n2 c2 : Nat} {r : List Int × Int} (h : eltW.rel w o [.slice A k c, .int .i64 s, .bool b, .slice A2 n2 c2] r) : RowR w (.agg #[.slice A k c, .int .i64 s, .bool b, .slice A2 n2 c2]) r.1 r.2 := by
  obtain ⟨A', c', s', b', A2', n2', c2', e, h1, h2, h3, h4⟩ := h
  cases e
  exact ⟨A, c, s, b, A2, n2, c2, rfl, h1, h2, h3.rd, h4.ri⟩
def okW : Nat → Value → Prop := fun j u => j ≠ 1 → ∀ x, u ≠ .int .i64 x
theorem okW_elt {A : Option Addr} {k c : Nat} {s : Int} {b : Bool} {A2 : Option Addr} {n2 c2 : Nat} : ∀ j u, ([.slice A k c, .int .i64 s, .bool b, .slice A2 n2 c2] : List Value)[j]? = some u → okW j u := fun j u e hj x => by
  match j, e, hj with
  | 0, e, _ => simp at e; subst e; intro h; cases h
  | 1, _, hj => exact absurd rfl hj
  | 2, e, _ => simp at e; subst e; intro h; cases h
  | 3, e, _ => simp at e; subst e; intro h; cases h
theorem okW_zero : ∀ j u, (Value.agg #[.slice none 0 0, .int .i64 0, .bool false, .slice none 0 0]).cells[j]? = some u → okW j u := fun j u e => okW_elt (A := none) (k := 0) (c := 0) (s := 0) (b := false) (A2 := none) (n2 := 0) (c2 := 0) j u (by simpa [Value.cells] using e)
theorem okW_away {w : World} {g : Nat} (hp : Pat okW 4 w (some g)) {A : Option Addr} {n c m : Nat} (h : Ev w (.slice A n c) m) (hm : 2305843009213693952 ≤ m) : Away A g := by
  intro b' off e e2
  obtain ⟨b2, off2, e3, hb, hc⟩ := ev_ne h (by omega)
  rw [e] at e3
  cases e3
  subst e2
  have hl := digs_len3 hm
  have k0 := hp b' rfl _ _ (hc 0 (by omega))
  have k1 := hp b' rfl _ _ (hc 1 (by omega))
  rcases Nat.decEq ((off + 0) % 4) 1 with h0 | h0
  · exact k0 h0 _ rfl
  · exact k1 (by omega) _ rfl
theorem info_rw : (Tryz.prog.info? 59).map (fun i => (i.zero, i.size, i.bytes)) = some (some (.agg #[.slice none 0 0, .int .i64 0, .bool false, .slice none 0 0]), 4, 64) := by kernel_rfl
theorem zrw_nod : ∀ u ∈ (Value.agg #[.slice none 0 0, .int .i64 0, .bool false, .slice none 0 0]).cells.toList, NoDig u := by
  intro u hu
  simp [Value.cells] at hu
  rcases hu with rfl | rfl | rfl | rfl
  · exact NoDig.slice _ _ _
  · exact NoDig.int _
  · exact NoDig.bool _
  · exact NoDig.slice _ _ _
end Go.Proofs.YtacbjbnocepnaaaGreatDoor
namespace Go.Proofs.YtacbjbnocepnaaaGreatDoor
open Go.RowKit Fm
theorem eltR.keep {w w' : World} {o o' : Option Nat} {cs : List Value} {z : Int} (h : eltR.rel w o cs z) (hz : z.natAbs < 2305843009213693952) : eltR.rel w' o' cs z := by
  obtain ⟨s, b, A, n, c, rfl, h⟩ := h
  refine ⟨s, b, A, n, c, rfl, ?_⟩
  rcases h with h | ⟨_, _, h3, _⟩
  · exact .inl h
  · omega
theorem RowQ.elt {w0 w : World} {v : Value} {zs : List Int} {x : Int} (h : RowQ w0 w v zs x) (hz : ∀ z, z ∈ zs → z.natAbs < 2305843009213693952) (hx : x.natAbs < 2305843009213693952) {o : Option Nat} (ho : ∀ g, o = some g → g < w0.heap.size) :
    ∃ A c s b A2 n2 c2, v = .agg #[.slice A zs.length c, .int .i64 s, .bool b, .slice A2 n2 c2] ∧ eltW.rel w o [.slice A zs.length c, .int .i64 s, .bool b, .slice A2 n2 c2] (zs, x) := by
  obtain ⟨A, c, s, b, A2, n2, c2, rfl, h1, h2, h3, h4, h5⟩ := h
  refine ⟨A, c, s, b, A2, n2, c2, rfl, A, c, s, b, A2, n2, c2, rfl, h1, h2, fun hn => ?_, ?_⟩
  · obtain ⟨b', off, rfl, hb, hc⟩ := h3 hn
    refine ⟨b', off, rfl, hb, fun g hg => (by have h6 := ho g hg; have h7 := h5 b' off rfl; omega), fun i hi => ?_⟩
    obtain ⟨cs, k1, k2⟩ := hc i hi
    exact ⟨cs, eltR.keep k1 (hz _ (List.getElem_mem hi)), k2⟩
  · rcases h4.ria with h | ⟨_, _, h3, _⟩
    · exact .inl h
    · omega
set_option maxHeartbeats 2000000 in
set_option maxRecDepth 10000 in
theorem refRows_any (A : Option Addr) (c : Nat) (fs : List (List Int × Int)) (w : World) (hn : fs.length ≤ 1000000) (hr : RdE eltForm w A fs) (hv : ∀ f, f ∈ fs → f.1.length ≤ 1000000 ∧ (∀ y, y ∈ f.1 → limI y = true) ∧ limI f.2 = true) :
    Calls Tryz.prog 48 #[.slice A fs.length c] w fun e w' => ∃ A' c', e = .returned (.slice A' fs.length c') ∧ RdE eltW w' A' fs ∧ Up w w' := by
  go_enter Tryz.func48, Tryz.ntmps48
  go_wp2
  go_loopw [3, 8] (fun v i wr => ∃ k : Nat, k ≤ fs.length ∧ i = .int .i64 k ∧ Hid (OwE eltW w wr 59 v (fs.take k)) ∧ Hid (Up w wr)) (fun _ i _ => fs.length - (intOf i).toNat)
  case atStart => exact ⟨0, by omega, rfl, Lib.hid (OwE.nil _ _ _ _), Lib.hid (Up.refl _)⟩
  case round =>
    obtain ⟨k, hkk, rfl, HOW, HU⟩ := hrel
    by_cases hkl : k < fs.length
    · obtain ⟨b, off, B, c', rfl, hbb, c0, c1, h3, h4, h5⟩ := (hr.up HU.out).f hkl
      have hf := hv _ (List.getElem_mem hkl)
      have HNEXT : Hid (fs.take (k + 1) = fs.take k ++ [fs[k]]) := Lib.hid (by rw [List.take_succ_eq_append_getElem hkl])
      have HLEN : Hid ((fs.take k).length ≤ 1000000000) := Lib.hid (by rw [List.length_take]; omega)
      have HLK : Hid ((fs.take k ++ [fs[k]]).length = k + 1) := Lib.hid (by rw [List.length_append, List.length_take]; simp; omega)
      generalize fs[k] = f at *
      obtain ⟨zs, x⟩ := f
      simp only at hf c0 c1 h3 h5
      have hbd : ∀ y, limI y = true → -2305843009213693952 < y ∧ y < 2305843009213693952 := fun y h => by
        simp only [limI, decide_eq_true_eq] at h
        omega
      have HT := Lib.hid (fun W (hu : Up wr W) => refRowTo_any B c' zs x W hf.1 (h5.up hu) (fun y hy => hbd y (hf.2.1 y hy)) (by have := hbd x hf.2.2; omega))
      have HSM := Lib.hid (show (∀ z, z ∈ zs → z.natAbs < 2305843009213693952) ∧ x.natAbs < 2305843009213693952 from ⟨fun z hz => by have := hbd z (hf.2.1 z hz); omega, by have := hbd x hf.2.2; omega⟩)
      clear hf hbd h3 h4 h5
      have HUY := Lib.hid (Up.alloc wr (.cells #[.slice B zs.length c', .int .i64 x] 28))
      generalize zs.length = zl at *
      go_wp2_with fail
      refine Calls.mono (HT.out _ HUY.out) ?_
      rintro e w1 ⟨v, rfl, hv, hu⟩
      have HU1 := Lib.hid hu
      have HV := Lib.hid hv
      have hlo := hv.elt HSM.out.1 HSM.out.2 (o := u3.ownBlock) (fun g hg => Nat.lt_of_lt_of_le (HOW.out.lt g hg) HUY.out.size)
      obtain ⟨A5, c5, s5, b5, A6, n6, c6, rfl, he⟩ := hlo
      have HE := Lib.hid he
      generalize zs.length = z5 at *
      clear hu hv he c0 c1 hbb hr
      go_wp2_with (at_builtin; refine wpList_pushQ eltW w rfl (.tmp 12) (.tmp 15) 82 59 rfl _ 64 Tryz.underlying82 info_rw rfl zrw_nod (by decide) _ (fs.take k) rfl (HOW.out.up ((HUY.out.trans HU1.out).trans (Up.alloc _ _))) (by (repeat (first | exact Below.refl _ _ | exact Hid.out (by assumption) | refine Up.trans ?_ (Up.drew _) | refine Up.trans ?_ (Up.drewN _ _) | refine Up.trans ?_ (Up.alloc _ _) | refine Up.trans ?_ (Hid.out (by assumption))))) ⟨w1.heap.size, 0, none⟩ rfl [.slice A5 z5 c5, .int .i64 s5, .bool b5, .slice A6 n6 c6] (zs, x) (new_cells w1 [.slice A5 z5 c5, .int .i64 s5, .bool b5, .slice A6 n6 c6] _) (eltW.up HE.out (Up.alloc _ _)) HLEN.out ?_; intro v' w' hown' hup')
      exact ⟨⟨k + 1, by omega, by simp, by rw [HNEXT.out]; exact Lib.hid hown', Lib.hid hup'⟩, by simp [intOf]; omega⟩
    · have hke : k = fs.length := by omega
      subst hke
      rw [List.take_of_length_le (Nat.le_refl _)] at HOW
      obtain ⟨A5, c5, rfl, -, -, h3, -⟩ := HOW.out.read eltW_none
      have H3 := Lib.hid h3
      clear h3
      go_wp2
      go_ret
      exact ⟨A5, c5, rfl, H3.out, HU.out⟩
end Go.Proofs.YtacbjbnocepnaaaGreatDoor
