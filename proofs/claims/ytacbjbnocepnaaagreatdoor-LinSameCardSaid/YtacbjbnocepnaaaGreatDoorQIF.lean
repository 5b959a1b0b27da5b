/- Two lists of rows of one's own, plain facts about the reference's elimination, and the contracts of a new primitive row, of a negated row and of a row cleared. -/
import Derived.Test.YtacbjbnocepnaaaGreatDoorQIE
import Derived.Test.YtacbjbnocepnaaaGreatDoorQIA
import Derived.Test.YtacbjbnocepnaaaGreatDoorQHS
import Derived.Test.YtacbjbnocepnaaaGreatDoorQIB
namespace Go.Proofs.YtacbjbnocepnaaaGreatDoor
open Go.RowKit Fm
theorem eltR.cross {w w' : World} {o o2 : Option Nat} {cs : List Value} {z : Int} (h1 : eltR.rel w o cs z) (h2 : eltR.rel w o2 cs z) (hg : w.grownBy w' o) (hd : NoDigs w o) : eltR.rel w' o2 cs z := by
  obtain ⟨s, b, A, n, c, rfl, k1⟩ := eltR.grow h1 hg hd
  obtain ⟨s', b', A', n', c', e, k2⟩ := h2
  cases e
  refine ⟨s, b, A, n, c, rfl, ?_⟩
  rcases k1 with k1 | ⟨a1, a2, a3, a4, -⟩
  · exact .inl k1
  · rcases k2 with k2 | ⟨-, -, -, -, a5⟩
    · exact .inl k2
    · exact .inr ⟨a1, a2, a3, a4, a5⟩
theorem same_cells {w : World} {b off : Nat} {cs ds : List Value} (hl : cs.length = ds.length) (h1 : ∀ j u, cs[j]? = some u → w.cell? ⟨b, off + j, none⟩ = some u) (h2 : ∀ j u, ds[j]? = some u → w.cell? ⟨b, off + j, none⟩ = some u) : cs = ds := by
  refine List.ext_getElem hl fun j k1 k2 => ?_
  have a1 := h1 j _ (List.getElem?_eq_getElem k1)
  have a2 := h2 j _ (List.getElem?_eq_getElem k2)
  rw [a1] at a2
  injection a2
theorem eltW.cross {w w' : World} {o o2 : Option Nat} {cs : List Value} {r : List Int × Int} (h1 : eltW.rel w o cs r) (h2 : eltW.rel w o2 cs r) (hg : w.grownBy w' o) (hd : NoDigs w o) : eltW.rel w' o2 cs r := by
  obtain ⟨A, c, s, b, A2, n2, c2, rfl, a1, a2, a3, a4⟩ := h1
  obtain ⟨A', c', s', b', A2', n2', c2', e, b1, b2, b3, b4⟩ := h2
  cases e
  refine ⟨A, c, s, b, A2, n2, c2, rfl, a1, a2, fun hn => ?_, ?_⟩
  · obtain ⟨b0, off, rfl, hb, ho, hc⟩ := a3 hn
    obtain ⟨b0', off', e, hb', ho', hc'⟩ := b3 hn
    cases e
    refine ⟨b0, off, rfl, Nat.lt_of_lt_of_le hb hg.size, ho', fun i hi => ?_⟩
    obtain ⟨cs, k1, k2⟩ := hc i hi
    obtain ⟨ds, m1, m2⟩ := hc' i hi
    have e : cs = ds := same_cells (by rw [eltR.len k1, eltR.len m1]) k2 m2
    subst e
    exact ⟨cs, eltR.cross k1 m1 hg hd, fun j u hj => hg.cell (k2 j u hj) (fun e => ho b0 e.symm rfl)⟩
  · obtain ⟨s', b', A', n', c', e, h5⟩ := eltR.cross (show eltR.rel w o [.int .i64 s, .bool b, .slice A2 n2 c2] r.2 from ⟨s, b, A2, n2, c2, rfl, a4⟩) (show eltR.rel w o2 [.int .i64 s, .bool b, .slice A2 n2 c2] r.2 from ⟨s, b, A2, n2, c2, rfl, b4⟩) hg hd
    cases e
    exact h5
def eltV (o2 : Option Nat) : Elt (List Int × Int) where
  size := 4
  rel w o cs r := eltW.rel w o cs r ∧ eltW.rel w o2 cs r
  pos := by decide
  len := fun h => eltW.len h.1
  one := fun h => eltW.one h.1
  nod := fun h => eltW.nod h.1
  up := fun h hu => ⟨eltW.up h.1 hu, eltW.up h.2 hu⟩
  grow := fun h hg hd => ⟨eltW.grow h.1 hg hd, eltW.cross h.1 h.2 hg hd⟩
  move := fun h => ⟨eltW.move h.1, h.2⟩
theorem eltV_none {o2 : Option Nat} {w : World} {o : Option Nat} {cs : List Value} {r : List Int × Int} (h : (eltV o2).rel w o cs r) : (eltV o2).rel w none cs r := ⟨eltW_none h.1, h.2⟩
theorem eltW_okW {w : World} {o : Option Nat} {cs : List Value} {r : List Int × Int} (h : eltW.rel w o cs r) : ∀ j u, cs[j]? = some u → okW j u := by
  obtain ⟨A, c, s, b, A2, n2, c2, rfl, -⟩ := h
  exact okW_elt
theorem OwP.mapE {α : Type} {E E' : Elt α} {ok : Nat → Value → Prop} {w0 w : World} {t : TypeId} {v : Value} {zs : List α} (h : OwP E ok w0 w t v zs) (hs : E'.size = E.size) (hm : ∀ {cs z}, E.rel w v.ownBlock cs z → E'.rel w v.ownBlock cs z) : OwP E' ok w0 w t v zs := by
  obtain ⟨⟨css, h1, h2, h3⟩, h4⟩ := h
  refine ⟨⟨css, ?_, by rw [hs]; exact h2, h3⟩, by rw [hs]; exact h4⟩
  clear h2 h3
  revert h1
  induction css generalizing zs with
  | nil => intro h1; cases zs with
    | nil => exact trivial
    | cons z zs => exact h1.elim
  | cons cs css ih => intro h1; cases zs with
    | nil => exact h1.elim
    | cons z zs => exact ⟨hm h1.1, ih h1.2⟩
theorem ownsRow_base {w : World} {base base' size n : Nat} {e : TypeId} {v : Value} {xs : List Value} (h : w.ownsRow base e size v n xs) (hb : base' ≤ base) : w.ownsRow base' e size v n xs := by
  obtain ⟨hl, h⟩ := h
  refine ⟨hl, ?_⟩
  rcases h with h | ⟨g, cap, cur, e1, hb2, hr⟩
  · exact .inl h
  · exact .inr ⟨g, cap, cur, e1, Nat.le_trans hb hb2, hr⟩
theorem OwP.weaken {α : Type} {E : Elt α} {ok : Nat → Value → Prop} {w0 w1 w : World} {t : TypeId} {v : Value} {zs : List α} (h : OwP E ok w1 w t v zs) (hs : w0.heap.size ≤ w1.heap.size) : OwP E ok w0 w t v zs := by
  obtain ⟨⟨css, h1, h2, h3⟩, h4⟩ := h
  exact ⟨⟨css, h1, ownsRow_base h2 hs, h3⟩, h4⟩
theorem OwP.lt {α : Type} {E : Elt α} {ok : Nat → Value → Prop} {w0 w : World} {t : TypeId} {v : Value} {zs : List α} (h : OwP E ok w0 w t v zs) : ∀ g, v.ownBlock = some g → w0.heap.size ≤ g ∧ g < w.heap.size := by
  obtain ⟨⟨css, h1, h2, h3⟩, h4⟩ := h
  exact fun g hg => h2.lt g hg
theorem OwP.form {α : Type} {E : Elt α} {ok : Nat → Value → Prop} {w0 w : World} {t : TypeId} {v : Value} {zs : List α} (h : OwP E ok w0 w t v zs) (hn : zs ≠ []) :
    ∃ g c, v = .slice (some ⟨g, 0, none⟩) zs.length c ∧ v.ownBlock = some g ∧ zs.length ≤ c ∧ c ≤ maxLen ∧ w0.heap.size ≤ g ∧ g < w.heap.size ∧ (∀ j, w.frozen? ⟨g, j, none⟩ = false) ∧ ∀ i (hi : i < zs.length), ∃ cs, E.rel w (some g) cs zs[i] ∧ ∀ j u, cs[j]? = some u → w.cell? ⟨g, i * E.size + j, none⟩ = some u := by
  obtain ⟨⟨css, h1, h2, h3⟩, h4⟩ := h
  rcases h2.2 with ⟨rfl, hz⟩ | ⟨g, cap, cur, rfl, hb, hg, hle, hcm, hsz, htk⟩
  · exact absurd (List.eq_nil_of_length_eq_zero hz) hn
  · refine ⟨g, cap, rfl, rfl, hle, hcm, hb, (h2.lt g rfl).2, fun j => by simp [World.frozen?, hg], fun i hi => ?_⟩
    obtain ⟨cs, k1, k2⟩ := h1.cell i hi
    refine ⟨cs, k1, fun j u hj => ?_⟩
    have hjl : j < E.size := by rw [← E.len k1]; exact (List.getElem?_eq_some_iff.1 hj).1
    have hc := h2.cells (g := g) rfl (i * E.size + j) u (by rw [k2 j hjl, hj])
    rw [add_zero_off] at hc
    exact hc
theorem OwP.len {α : Type} {E : Elt α} {ok : Nat → Value → Prop} {w0 w : World} {t : TypeId} {v : Value} {zs : List α} (h : OwP E ok w0 w t v zs) : ∃ A c, v = .slice A zs.length c ∧ zs.length ≤ c ∧ c ≤ maxLen := by
  obtain ⟨⟨css, h1, h2, h3⟩, h4⟩ := h
  rcases h2.2 with ⟨rfl, hz⟩ | ⟨g, cap, cur, rfl, hb, hg, hle, hcm, hsz, htk⟩
  · exact ⟨none, 0, by rw [hz], by omega, Nat.zero_le _⟩
  · exact ⟨some ⟨g, 0, none⟩, cap, rfl, hle, hcm⟩
theorem OwP.kept {w0 w w' : World} {t : TypeId} {v : Value} {zs : List (List Int × Int)} {o2 o3 : Option Nat} (h : OwP (eltV o2) okW w0 w t v zs) (hg : w.grownBy w' o3) (hd : NoDigs w o3) (hne : ∀ g, v.ownBlock = some g → o3 ≠ some g) (h3 : ∀ {cs r}, eltW.rel w v.ownBlock cs r → eltW.rel w o2 cs r → eltW.rel w o3 cs r) : OwP (eltV o3) okW w0 w' t v zs := by
  have h' : OwP (eltV o3) okW w0 w t v zs := h.mapE rfl fun h => ⟨h.1, h3 h.1 h.2⟩
  obtain ⟨⟨css, k1, k2, k3⟩, k4⟩ := h'
  have hn : v.ownBlock = none ∨ v.ownBlock ≠ o3 := by
    rcases hv : v.ownBlock with _ | g
    · exact .inl rfl
    · exact .inr fun e => hne g hv e.symm
  have hcell : ∀ g, v.ownBlock = some g → ∀ j, w'.cell? ⟨g, j, none⟩ = w.cell? ⟨g, j, none⟩ := fun g hv j => by
    refine World.cell?_of_block (w := w) (hg.block g (k2.lt g hv).2 fun e => hne g hv e.symm)
  have hE : Elts (eltV o3) w' v.ownBlock css zs := Elts.map (E := eltV o3) (w := w) (w' := w') (o := v.ownBlock) (o' := v.ownBlock) (fun h => ⟨eltW.cross h.2 h.1 hg hd, eltW.grow h.2 hg hd⟩) k1
  refine ⟨⟨css, hE, k2.kept hg hn, fun g hv j x => ?_⟩, fun g hv j u e => ?_⟩
  · rw [hcell g hv]; exact k3 g hv j x
  · rw [hcell g hv] at e; exact k4 g hv j u e
structure Two (w0 w : World) (v v2 : Value) (zs ys : List (List Int × Int)) : Prop where
  one : OwP (eltV v2.ownBlock) okW w0 w 59 v zs
  two : OwP eltW okW w0 w 59 v2 ys
  apart : ∀ g, v.ownBlock = some g → v2.ownBlock ≠ some g
theorem Two.up {w0 w w' : World} {v v2 : Value} {zs ys : List (List Int × Int)} (h : Two w0 w v v2 zs ys) (hu : Up w w') : Two w0 w' v v2 zs ys := ⟨h.one.up hu, h.two.up hu, h.apart⟩
theorem oper_pushX {w : World} {o : Oper} {a : Act} {K : Act → World → Prop} {Q : Exit → Act → World → Prop} (w0 : World) (s x : Operand) (t : TypeId)
    (ho : o.op = .call { callee := .builtin .append, args := #[s, x], argTypes := #[t, t] }) (ht : Tryz.prog.underlying t = some (.slice 59))
    (v v2 : Value) (zs ys : List (List Int × Int)) (hs : a.eval s = v2) (hown : Two w0 w v v2 zs ys) (hu : Up w0 w)
    (ad : Addr) (hx : a.eval x = .slice (some ad) 1 1) (cs : List Value) (z : List Int × Int) (hcell : ∀ j u, cs[j]? = some u → w.cell? (ad.add j) = some u) (hrel : eltW.rel w v2.ownBlock cs z) (hlen : ys.length ≤ 1000000000)
    (h : ∀ v' w', Two w0 w' v v' zs (ys ++ [z]) → Up w0 w' → K (a.put o.dst v') w') : Oper.wp Tryz.prog o a w K Q := by
  obtain ⟨hone, ⟨⟨css, h1, h2, h3⟩, hpt⟩, hap⟩ := hown
  obtain ⟨i0, hi0, hz0, hz1, hz2⟩ := info_parts info_rw
  have hbb : (ys.length + 1) * 64 ≤ 140737488355328 := by omega
  have hrl := eltW.len hrel
  obtain ⟨v', w', hr, k1, k2, k3, k4⟩ := run_push w w0.heap.size t o.type 59 i0 _ 4 64 ht hi0 hz0 hz1 hz2 rfl (by decide) v2 ys.length css.flatten h2 h3 ad 1 cs hrl hcell (eltW.one hrel) (eltW.nod hrel) zrw_nod (by unfold maxLen; omega) hbb hu.size
  have hE : Elts eltW w' v'.ownBlock (css ++ [cs]) (ys ++ [z]) := by
    have a1 : Elts eltW w v2.ownBlock (css ++ [cs]) (ys ++ [z]) := h1.snoc hrel
    rcases k4 with e1 | ⟨e1, e2⟩
    · rw [e1]; exact a1.map fun h => eltW.grow h k2 h3
    · rw [e1]
      exact (a1.map (o' := some w.heap.size) fun h => eltW.move h).map fun h => eltW.grow h e2 fun g hg j x => by
        cases hg
        simp [World.cell?]
  have hpp : Pat okW 4 w' v'.ownBlock := pat_push okW w w0.heap.size t o.type 59 i0 _ 4 64 ht hi0 hz0 hz1 hz2 rfl (by decide) v2 ys.length css.flatten h2 hpt ad 1 cs hrl hcell (eltW.one hrel) (eltW_okW hrel) okW_zero (by unfold maxLen; omega) hbb v' w' hr
  have hO : OwP eltW okW w0 w' 59 v' (ys ++ [z]) := by
    refine ⟨⟨css ++ [cs], hE, ?_, k3⟩, hpp⟩
    rw [List.length_append, List.flatten_append]
    show w'.ownsRow w0.heap.size 59 4 v' (ys.length + 1) _
    simpa using k1
  have hU : Up w0 w' := Below.grown hu k2 hu.size (fun k hk => (h2.lt k hk).1)
  have hT : Two w0 w' v v' zs (ys ++ [z]) := by
    rcases k4 with e1 | ⟨e1, e2⟩
    · have hap' : ∀ g, v.ownBlock = some g → v'.ownBlock ≠ some g := fun g hg => by rw [e1]; exact hap g hg
      refine ⟨?_, hO, hap'⟩
      rw [e1]
      exact hone.kept k2 h3 hap (fun _ h => h)
    · have hap' : ∀ g, v.ownBlock = some g → v'.ownBlock ≠ some g := fun g hg e => by
        rw [e1] at e
        injection e with e
        have := (hone.lt g hg).2
        omega
      refine ⟨?_, hO, hap'⟩
      rw [e1]
      exact hone.kept e2 (fun g hg j x => by cases hg; simp [World.cell?]) (fun g hg e => hap' g hg (by rw [e1]; exact e)) (fun h _ => eltW.move h)
  unfold Oper.wp execOp
  simp only [ho, resolve, invoke, builtin, Sem.run_bind, Sem.run_pure, Result.andThen_ok, List.map_toArray, List.map_cons, List.map_nil, hs, hx, hr]
  exact h v' w' hT hU
theorem wpList_pushX {w : World} {ops : Array Oper} {rest : List Oper} {o : Oper} {a : Act} {Q : Exit → Act → World → Prop} (w0 : World) (hgd : o.guard = none) (s x : Operand) (t : TypeId)
    (ho : o.op = .call { callee := .builtin .append, args := #[s, x], argTypes := #[t, t] }) (ht : Tryz.prog.underlying t = some (.slice 59))
    (v v2 : Value) (zs ys : List (List Int × Int)) (hs : a.eval s = v2) (hown : Two w0 w v v2 zs ys) (hu : Up w0 w)
    (ad : Addr) (hx : a.eval x = .slice (some ad) 1 1) (cs : List Value) (z : List Int × Int) (hcell : ∀ j u, cs[j]? = some u → w.cell? (ad.add j) = some u) (hrel : eltW.rel w v2.ownBlock cs z) (hlen : ys.length ≤ 1000000000)
    (h : ∀ v' w', Two w0 w' v v' zs (ys ++ [z]) → Up w0 w' → wpList Tryz.prog ops Q rest (a.put o.dst v') w') : wpList Tryz.prog ops Q (o :: rest) a w :=
  wpList_plain hgd fun _ hK => oper_pushX w0 s x t ho ht v v2 zs ys hs hown hu ad hx cs z hcell hrel hlen fun v' w' h1 h2 => hK _ _ (h v' w' h1 h2)
end Go.Proofs.YtacbjbnocepnaaaGreatDoor
namespace Go.Proofs.YtacbjbnocepnaaaGreatDoor
open Go.RowKit Fm
theorem eltR.ahead {w : World} {o : Option Nat} {cs : List Value} {z : Int} (h : eltR.rel w o cs z) {g : Nat} (hg : w.heap.size ≤ g) : eltR.rel w (some g) cs z := by
  obtain ⟨s, b, A, n, c, rfl, h⟩ := h
  refine ⟨s, b, A, n, c, rfl, ?_⟩
  rcases h with h | ⟨h1, h2, h3, h4, h5⟩
  · exact .inl h
  · refine .inr ⟨h1, h2, h3, h4, fun k e b off e2 => ?_⟩
    cases e
    obtain ⟨b', off', e3, hb, -⟩ := ev_ne h4 (by omega)
    rw [e2] at e3
    cases e3
    omega
theorem eltW.ahead {w : World} {o : Option Nat} {cs : List Value} {r : List Int × Int} (h : eltW.rel w o cs r) {g : Nat} (hg : w.heap.size ≤ g) : eltW.rel w (some g) cs r := by
  obtain ⟨A, c, s, b, A2, n2, c2, rfl, h1, h2, h3, h4⟩ := h
  refine ⟨A, c, s, b, A2, n2, c2, rfl, h1, h2, fun hn => ?_, ?_⟩
  · obtain ⟨b0, off, rfl, hb, ho, hc⟩ := h3 hn
    refine ⟨b0, off, rfl, hb, fun k e => (by cases e; omega), fun i hi => ?_⟩
    obtain ⟨cs, k1, k2⟩ := hc i hi
    exact ⟨cs, eltR.ahead k1 hg, k2⟩
  · obtain ⟨s', b', A', n', c', e, h6⟩ := eltR.ahead (show eltR.rel w o [.int .i64 s, .bool b, .slice A2 n2 c2] r.2 from ⟨s, b, A2, n2, c2, rfl, h4⟩) hg
    cases e
    exact h6
theorem rde_eltsO {α : Type} {E : Elt α} {w : World} {o : Option Nat} {b : Nat} : ∀ (zs : List α) (off : Nat), (∀ i (hi : i < zs.length), ∃ cs, E.rel w o cs zs[i] ∧ ∀ j u, cs[j]? = some u → w.cell? ⟨b, off + i * E.size + j, none⟩ = some u) → ∃ css, Elts E w o css zs ∧ ∀ j u, css.flatten[j]? = some u → w.cell? ⟨b, off + j, none⟩ = some u := by
  intro zs
  induction zs with
  | nil => intro off _; exact ⟨[], trivial, fun j u e => by simp at e⟩
  | cons z zs ih =>
    intro off h
    obtain ⟨cs, h1, h2⟩ := h 0 (by simp)
    obtain ⟨css, h3, h4⟩ := ih (off + E.size) (fun i hi => by
      obtain ⟨cs', k1, k2⟩ := h (i + 1) (by simpa using hi)
      refine ⟨cs', by simpa using k1, fun j u e => ?_⟩
      have := k2 j u e
      rwa [Nat.succ_mul, ← Nat.add_assoc, Nat.add_right_comm off] at this)
    refine ⟨cs :: css, ⟨h1, h3⟩, fun j u e => ?_⟩
    rw [List.flatten_cons] at e
    rcases Nat.lt_or_ge j cs.length with hj | hj
    · rw [List.getElem?_append_left hj] at e
      have := h2 j u e
      rwa [Nat.zero_mul, Nat.add_zero] at this
    · rw [List.getElem?_append_right hj] at e
      have := h4 _ u e
      rw [E.len h1] at this hj
      rwa [Nat.add_assoc, Nat.add_sub_cancel' hj] at this
theorem OwP.part {o2 : Option Nat} {w0 w : World} {t : TypeId} {g n c : Nat} {zs : List (List Int × Int)} (h : OwP (eltV o2) okW w0 w t (.slice (some ⟨g, 0, none⟩) n c) zs) (hn : zs ≠ []) (k m : Nat) {g' : Nat} (hg : w.heap.size ≤ g') :
    ∃ css, Elts (eltV o2) w (some g') css ((zs.drop k).take m) ∧ ∀ j u, css.flatten[j]? = some u → w.cell? ⟨g, k * 4 + j, none⟩ = some u := by
  obtain ⟨g1, c1, e, -, -, -, -, -, -, hc⟩ := h.form hn
  injection e with e1 e2 e3
  injection e1 with e1
  injection e1 with e1
  subst e1
  refine rde_eltsO _ (k * 4) fun i hi => ?_
  have hi2 : k + i < zs.length := by
    rw [List.length_take, List.length_drop] at hi
    omega
  obtain ⟨cs, k1, k2⟩ := hc (k + i) hi2
  refine ⟨cs, ?_, fun j u e => ?_⟩
  · rw [List.getElem_take, List.getElem_drop]
    exact ⟨eltW.ahead k1.1 hg, k1.2⟩
  · have := k2 j u e
    have e4 : (k + i) * (eltV o2).size + j = k * 4 + i * (eltV o2).size + j := by rw [Nat.add_mul]; rfl
    rwa [e4] at this
theorem run_append_zero (w : World) (t ty e : TypeId) (i : TypeInfo) (ht : Tryz.prog.underlying t = some (.slice e)) (hi : Tryz.prog.info? e = some i) (g n cap : Nat) (hnc : n ≤ cap) (A : Option Addr) (c : Nat) :
    (Builtin.append_ #[t, t] ty #[.slice (some ⟨g, 0, none⟩) n cap, .slice A 0 c]).run Tryz.prog w = .ok (.slice (some ⟨g, 0, none⟩) n cap) w := by
  cases A with
  | none => simp [Builtin.append_, run_underlying ht, sizeOf, typeInfo, hi, Builtin.lenOf, hnc, Builtin.firstCells, storeCells]
  | some a =>
    have hf := run_firstCells_some (P := Tryz.prog) w i.size 0 a 0 c [] (by simp) (fun j u e => by simp at e)
    simp [Builtin.append_, run_underlying ht, sizeOf, typeInfo, hi, Builtin.lenOf, hnc, hf, storeCells]
theorem oper_pushV (o2 : Option Nat) {w : World} {o : Oper} {a : Act} {K : Act → World → Prop} {Q : Exit → Act → World → Prop} (w0 : World) (s x : Operand) (t : TypeId)
    (ho : o.op = .call { callee := .builtin .append, args := #[s, x], argTypes := #[t, t] }) (ht : Tryz.prog.underlying t = some (.slice 59))
    (v : Value) (zs : List (List Int × Int)) (hs : a.eval s = v) (hown : OwP (eltV o2) okW w0 w 59 v zs) (hu : Up w0 w) (hv : v ≠ .slice none 0 0)
    (A : Option Addr) (k c : Nat) (zs2 : List (List Int × Int)) (hk : k = zs2.length) (hx : a.eval x = .slice A k c) (hsrc : zs2 ≠ [] → ∃ b off css2, A = some ⟨b, off, none⟩ ∧ Elts (eltV o2) w v.ownBlock css2 zs2 ∧ ∀ j u, css2.flatten[j]? = some u → w.cell? ⟨b, off + j, none⟩ = some u) (hlen : zs.length + zs2.length ≤ 1000000000)
    (h : ∀ v' w', OwP (eltV o2) okW w0 w' 59 v' (zs ++ zs2) → v' ≠ .slice none 0 0 → Up w0 w' → K (a.put o.dst v') w') : Oper.wp Tryz.prog o a w K Q := by
  subst hk
  have hx2 := hx
  have hown2 := hown
  obtain ⟨⟨css, h1, h2, h3⟩, hpt⟩ := hown
  obtain ⟨i0, hi0, hz0, hz1, hz2⟩ := info_parts info_rw
  by_cases he : zs2 = []
  · subst he
    have hr : (Builtin.append_ #[t, t] o.type #[v, .slice A 0 c]).run Tryz.prog w = .ok v w := by
      rcases h2.2 with ⟨rfl, -⟩ | ⟨g, cap, cur, rfl, hbg, hg, hnc, hcm, hcs, htake⟩
      · exact absurd rfl hv
      · exact run_append_zero w t o.type 59 i0 ht hi0 g zs.length cap hnc A c
    unfold Oper.wp execOp
    simp only [List.length_nil] at hx2
    simp only [ho, resolve, invoke, builtin, Sem.run_bind, Sem.run_pure, Result.andThen_ok, List.map_toArray, List.map_cons, List.map_nil, hs, hx2, hr]
    exact h v w (by rw [List.append_nil]; exact hown2) hv hu
  · obtain ⟨b, off, css2, rfl, hel, hcell⟩ := hsrc he
    have hbb : (zs.length + zs2.length) * 64 ≤ 140737488355328 := by omega
    have hm0 : 0 < zs2.length ∨ v ≠ .slice none 0 0 := .inr hv
    have hcl : ∀ j u, css2.flatten[j]? = some u → w.cell? ((⟨b, off, none⟩ : Addr).add j) = some u := fun j u e => by rw [add_off]; exact hcell j u e
    have hfl : css2.flatten.length = zs2.length * 4 := hel.flat_len
    obtain ⟨v', w', hr, k1, k2, k3, k4⟩ := run_pushM w w0.heap.size t o.type 59 i0 _ 4 64 ht hi0 hz0 hz1 hz2 rfl (by decide) v zs.length css.flatten h2 h3 ⟨b, off, none⟩ zs2.length c hm0 css2.flatten hfl hcl (hel.all (eltV o2).one) (hel.all (eltV o2).nod) zrw_nod (by unfold maxLen; omega) hbb hu.size
    have hvv : v' ≠ .slice none 0 0 := by
      intro e
      have hlp := List.length_pos_iff.2 he
      rcases k1.2 with ⟨-, h0⟩ | ⟨g, cap, cur, e2, -⟩
      · omega
      · rw [e] at e2; cases e2
    have hE : Elts (eltV o2) w' v'.ownBlock (css ++ css2) (zs ++ zs2) := by
      have a1 : Elts (eltV o2) w v.ownBlock (css ++ css2) (zs ++ zs2) := Elts.join hel h1
      rcases k4 with e1 | ⟨e1, e2⟩
      · rw [e1]; exact a1.map fun h => (eltV o2).grow h k2 h3
      · rw [e1]
        exact (a1.map (o' := some w.heap.size) fun h => (eltV o2).move h).map fun h => (eltV o2).grow h e2 fun g hg j x => by
          cases hg
          simp [World.cell?]
    have hpp : Pat okW 4 w' v'.ownBlock := pat_pushM okW w w0.heap.size t o.type 59 i0 _ 4 64 ht hi0 hz0 hz1 hz2 rfl (by decide) v zs.length css.flatten h2 hpt ⟨b, off, none⟩ zs2.length c hm0 css2.flatten hfl hcl (hel.all (eltV o2).one) (hel.pat (E := eltV o2) (fun h => eltW_okW h.1)) okW_zero (by unfold maxLen; omega) hbb v' w' hr
    have hO : OwP (eltV o2) okW w0 w' 59 v' (zs ++ zs2) := by
      refine ⟨⟨css ++ css2, hE, ?_, k3⟩, hpp⟩
      rw [List.length_append, List.flatten_append]
      exact k1
    have hU : Up w0 w' := Below.grown hu k2 hu.size (fun k hk => (h2.lt k hk).1)
    unfold Oper.wp execOp
    simp only [ho, resolve, invoke, builtin, Sem.run_bind, Sem.run_pure, Result.andThen_ok, List.map_toArray, List.map_cons, List.map_nil, hs, hx2, hr]
    exact h v' w' hO hvv hU
theorem step_pushV (o2 : Option Nat) {w : World} {ops : Array Oper} {o : Oper} {a : Act} {K : Act → World → Prop} {Q : Exit → Act → World → Prop} {F : Prop} (w0 : World) (hgd : o.guard = none) (s x : Operand) (t : TypeId)
    (ho : o.op = .call { callee := .builtin .append, args := #[s, x], argTypes := #[t, t] }) (ht : Tryz.prog.underlying t = some (.slice 59))
    (v : Value) (zs : List (List Int × Int)) (hs : a.eval s = v) (hown : OwP (eltV o2) okW w0 w 59 v zs) (hu : Up w0 w) (hv : v ≠ .slice none 0 0)
    (A : Option Addr) (k c : Nat) (zs2 : List (List Int × Int)) (hk : k = zs2.length) (hx : a.eval x = .slice A k c) (hsrc : zs2 ≠ [] → ∃ b off css2, A = some ⟨b, off, none⟩ ∧ Elts (eltV o2) w v.ownBlock css2 zs2 ∧ ∀ j u, css2.flatten[j]? = some u → w.cell? ⟨b, off + j, none⟩ = some u) (hlen : zs.length + zs2.length ≤ 1000000000)
    (h : ∀ v' w', OwP (eltV o2) okW w0 w' 59 v' (zs ++ zs2) → v' ≠ .slice none 0 0 → Up w0 w' → K (a.put o.dst v') w') : if Region.wanted o (yielded ops a.tmps) = true then Oper.wp Tryz.prog o a w K Q else F := by
  have hw : Region.wanted o (yielded ops a.tmps) = true := by simp [Region.wanted, hgd]
  rw [if_pos hw]
  exact oper_pushV o2 w0 s x t ho ht v zs hs hown hu hv A k c zs2 hk hx hsrc hlen h
theorem wpList_pushV (o2 : Option Nat) {w : World} {ops : Array Oper} {rest : List Oper} {o : Oper} {a : Act} {Q : Exit → Act → World → Prop} (w0 : World) (hgd : o.guard = none) (s x : Operand) (t : TypeId)
    (ho : o.op = .call { callee := .builtin .append, args := #[s, x], argTypes := #[t, t] }) (ht : Tryz.prog.underlying t = some (.slice 59))
    (v : Value) (zs : List (List Int × Int)) (hs : a.eval s = v) (hown : OwP (eltV o2) okW w0 w 59 v zs) (hu : Up w0 w) (hv : v ≠ .slice none 0 0)
    (A : Option Addr) (k c : Nat) (zs2 : List (List Int × Int)) (hk : k = zs2.length) (hx : a.eval x = .slice A k c) (hsrc : zs2 ≠ [] → ∃ b off css2, A = some ⟨b, off, none⟩ ∧ Elts (eltV o2) w v.ownBlock css2 zs2 ∧ ∀ j u, css2.flatten[j]? = some u → w.cell? ⟨b, off + j, none⟩ = some u) (hlen : zs.length + zs2.length ≤ 1000000000)
    (h : ∀ v' w', OwP (eltV o2) okW w0 w' 59 v' (zs ++ zs2) → v' ≠ .slice none 0 0 → Up w0 w' → wpList Tryz.prog ops Q rest (a.put o.dst v') w') : wpList Tryz.prog ops Q (o :: rest) a w :=
  wpList_plain hgd fun _ hK => oper_pushV o2 w0 s x t ho ht v zs hs hown hu hv A k c zs2 hk hx hsrc hlen fun v' w' h1 h2 h3 => hK _ _ (h v' w' h1 h2 h3)
theorem OwP.empty (o2 : Option Nat) (w : World) : OwP (eltV o2) okW w (w.alloc (.cells #[] 59)) 59 (.slice (some ⟨w.heap.size, 0, none⟩) 0 0) [] := by
  have hh : (w.alloc (.cells #[] 59)).heap[w.heap.size]? = some (.cells #[] 59 (0, 0)) := heap_alloc_new w _
  refine ⟨⟨[], trivial, ⟨rfl, .inr ⟨w.heap.size, 0, #[], rfl, Nat.le_refl _, hh, Nat.le_refl _, Nat.zero_le _, rfl, rfl⟩⟩, fun g hg => ?_⟩, fun g hg => ?_⟩
  · cases hg
    exact nodig_heap hh (fun u hu => by simp at hu)
  · cases hg
    exact pat_heap hh (fun j u e => by simp at e)
theorem OwP.storeV {o2 : Option Nat} {w0 w : World} {g n cap : Nat} {zs : List (List Int × Int)} (h : OwP (eltV o2) okW w0 w 59 (.slice (some ⟨g, 0, none⟩) n cap) zs) {i : Nat} (hi : i < zs.length) {A : Option Addr} {k c : Nat} {s : Int} {b : Bool} {A2 : Option Addr} {n2 c2 : Nat} {z : List Int × Int} (hz : (eltV o2).rel w (some g) [.slice A k c, .int .i64 s, .bool b, .slice A2 n2 c2] z) :
    OwP (eltV o2) okW w0 (put4c w g (i * 4) (.slice A k c) (.int .i64 s) (.bool b) (.slice A2 n2 c2)) 59 (.slice (some ⟨g, 0, none⟩) n cap) (zs.set i z) := by
  obtain ⟨⟨css, h1, ⟨hl, h2⟩, h3⟩, hp⟩ := h
  rcases h2 with ⟨e, -⟩ | ⟨g', cap', cur, e, hb, hg, hnc, hcm, hcs, htk⟩
  · cases e
  injection e with e1 e2 e3
  injection e1 with e1
  injection e1 with e1
  subst e1; subst e3
  have hgr := put4c_grown w g (i * 4) (.slice A k c) (.int .i64 s) (.bool b) (.slice A2 n2 c2)
  have hh := put4c_heap (o := i * 4) hg (.slice A k c) (.int .i64 s) (.bool b) (.slice A2 n2 c2)
  have hcl : css.length = zs.length := h1.length
  have hsz : (eltV o2).size = 4 := rfl
  rw [hsz] at hl htk hcs
  have hfl := h1.flat_len
  rw [hsz] at hfl
  have hio : i * 4 + 4 ≤ zs.length * 4 := by omega
  have hlc : zs.length * 4 ≤ cur.size := by
    have := congrArg List.length htk
    rw [List.length_take] at this
    simp at this
    omega
  have harr : ((((cur.setIfInBounds (i * 4) (.slice A k c)).setIfInBounds (i * 4 + 1) (.int .i64 s)).setIfInBounds (i * 4 + 2) (.bool b)).setIfInBounds (i * 4 + 3) (.slice A2 n2 c2)).toList = cur.toList.take (i * 4) ++ [.slice A k c, .int .i64 s, .bool b, .slice A2 n2 c2] ++ cur.toList.drop (i * 4 + 4) := by
    simp only [Array.toList_setIfInBounds]
    exact set4 _ _ _ _ (i * 4) cur.toList (by simp; omega)
  have hn : n = zs.length := by omega
  have hset : (css.set i [.slice A k c, .int .i64 s, .bool b, .slice A2 n2 c2]).flatten = css.flatten.take (i * 4) ++ [.slice A k c, .int .i64 s, .bool b, .slice A2 n2 c2] ++ css.flatten.drop (i * 4 + 4) := flatten_set 4 css i _ h1.lens rfl (by omega)
  have hcur : ∀ u ∈ cur.toList, NoDig u := fun u hu => by
    obtain ⟨j, hj, rfl⟩ := List.mem_iff_getElem.1 hu
    intro x e
    refine h3 g rfl j x ?_
    rw [cell_of_row w g j _ _ _ hg, ← e]
    simp at hj
    rw [Array.getElem?_eq_getElem hj]; simp
  have hpat : PatL okW 4 cur.toList := heap_pat hg hp
  have hln : css.flatten.length = zs.length * 4 := hfl
  have hsl : (zs.set i z).length = zs.length := List.length_set
  refine ⟨⟨css.set i [.slice A k c, .int .i64 s, .bool b, .slice A2 n2 c2], ?_, ⟨?_, .inr ⟨g, cap, _, by rw [hsl, hn], hb, hh, by rw [hsl]; exact hnc, hcm, ?_, ?_⟩⟩, ?_⟩, ?_⟩
  · exact (Elts.set_ hz i h1).map fun h => (eltV o2).grow h hgr h3
  · rw [hset]
    simp only [List.length_append, List.length_take, List.length_drop, List.length_cons, List.length_nil]
    rw [hsl]
    show _ = zs.length * 4
    omega
  · simp only [Array.size_setIfInBounds]
    exact hcs
  · rw [hsl]
    show List.take (zs.length * 4) _ = _
    rw [harr, hset, take_set4 _ _ _ _ rfl (by omega) (by simp; omega), htk]
  · intro g' hg'
    cases hg'
    refine nodig_heap hh fun u hu => ?_
    rw [harr] at hu
    simp only [List.mem_append] at hu
    rcases hu with (hu | hu) | hu
    · exact hcur u (List.mem_of_mem_take hu)
    · exact (eltV o2).nod hz u hu
    · exact hcur u (List.mem_of_mem_drop hu)
  · intro g' hg'
    cases hg'
    refine pat_heap hh ?_
    rw [harr]
    have hi4 : (cur.toList.take (i * 4)).length = i * 4 := by rw [List.length_take]; simp; omega
    exact ((hpat.take _).append (by rw [hi4, Nat.mul_mod_left]) (PatL.one rfl okW_elt)).append (by rw [List.length_append, hi4]; simp) (hpat.drop (by omega))
theorem Two.store {w0 w : World} {v : Value} {g n cap : Nat} {zs ys : List (List Int × Int)} (h : Two w0 w v (.slice (some ⟨g, 0, none⟩) n cap) zs ys) {i : Nat} (hi : i < ys.length) {A : Option Addr} {k c : Nat} {s : Int} {b : Bool} {A2 : Option Addr} {n2 c2 : Nat} {z : List Int × Int} (hz : eltW.rel w (some g) [.slice A k c, .int .i64 s, .bool b, .slice A2 n2 c2] z) :
    Two w0 (put4c w g (i * 4) (.slice A k c) (.int .i64 s) (.bool b) (.slice A2 n2 c2)) v (.slice (some ⟨g, 0, none⟩) n cap) zs (ys.set i z) := by
  have hd : NoDigs w (some g) := by
    obtain ⟨⟨css, h1, h2, h3⟩, h4⟩ := h.two
    exact h3
  exact ⟨h.one.kept (put4c_grown w g (i * 4) _ _ _ _) hd h.apart (fun _ h => h), h.two.storeW hi hz, h.apart⟩
theorem eltW.stored {w0 w : World} {g n cap : Nat} {ys : List (List Int × Int)} (h : OwP eltW okW w0 w 59 (.slice (some ⟨g, 0, none⟩) n cap) ys) {cs : List Value} {p : List Int × Int} (hp : eltW.rel w (some g) cs p) (o : Nat) (a b c d : Value) : eltW.rel (put4c w g o a b c d) (some g) cs p := by
  obtain ⟨⟨css, h1, h2, h3⟩, h4⟩ := h
  exact eltW.grow hp (put4c_grown w g o a b c d) h3
theorem refClear_free (A A2 E E2 : Option Addr) (c c2 n2 k k2 f f2 m2 v : Nat) (s t : Int) (b d : Bool) (r p : List Int × Int) (w : World) (hn : r.1.length ≤ 1000) (hk : k = r.1.length) (hk2 : k2 = p.1.length) (hl : p.1.length = r.1.length) (hr : eltW.rel w none [.slice A k c, .int .i64 s, .bool b, .slice A2 n2 c2] r) (hp : RdE eltR w E p.1) (hy : RI w (.agg #[.int .i64 t, .bool d, .slice E2 m2 f2]) p.2)
    (hv : v < r.1.length) (h0 : ∀ i, i < v → p.1.getD i 0 = 0) (h1 : 0 < p.1.getD v 0) (hb1 : (∀ z, z ∈ r.1 → rl z ≤ 100000) ∧ rl r.2 ≤ 100000) (hb2 : (∀ z, z ∈ p.1 → rl z ≤ 100000) ∧ rl p.2 ≤ 100000) :
    Calls Tryz.prog 99 #[.agg #[.slice A k c, .int .i64 s, .bool b, .slice A2 n2 c2], .agg #[.slice E k2 f, .int .i64 t, .bool d, .slice E2 m2 f2]] w fun e w' => ∃ A' c' s' b' A3 n3 c3, e = .returned (.agg #[.slice A' r.1.length c', .int .i64 s', .bool b', .slice A3 n3 c3]) ∧ (∀ g, g < w.heap.size → Pat okW 4 w (some g) → eltW.rel w (some g) [.slice A k c, .int .i64 s, .bool b, .slice A2 n2 c2] r → eltW.rel w' (some g) [.slice A' r.1.length c', .int .i64 s', .bool b', .slice A3 n3 c3] (clearF p v r)) ∧ eltW.rel w' none [.slice A' r.1.length c', .int .i64 s', .bool b', .slice A3 n3 c3] (clearF p v r) ∧ Up w w' := by
  subst hk
  subst hk2
  obtain ⟨rl1, rl2⟩ := r
  obtain ⟨pl1, pl2⟩ := p
  have hrow := eltW_row hr
  obtain ⟨A', c', s', b', A2', n2', c2', e, q1, q2, q3, q4⟩ := hrow
  cases e
  by_cases hz : rl1.getD v 0 = 0
  · refine Calls.mono (refClear_same A A2 E E2 c c2 n2 f f2 m2 v s t b d rl1 pl1 rl2 w hn hl q3 q4 hp hv h0 h1 hz) ?_
    rintro e w' ⟨rfl, -, hu⟩
    have e0 : clearF (pl1, pl2) v (rl1, rl2) = (rl1, rl2) := by unfold clearF; rw [if_pos hz]
    rw [e0]
    exact ⟨A, c, s, b, A2, n2, c2, rfl, fun g _ _ h => eltW.up h hu, eltW.up hr hu, hu⟩
  · refine Calls.mono (refClear_new A A2 E E2 c c2 n2 f f2 m2 v s t b d rl1 pl1 rl2 pl2 w hn hl q3 q4 hp hy hv h0 h1 hz hb1 hb2) ?_
    rintro e w' ⟨u, rfl, ⟨A5, c5, s5, b5, A6, n6, c6, rfl, h2, h3, h4, h5, h6⟩, hu⟩
    have hcl : clearF (pl1, pl2) v (rl1, rl2) = primF (List.zipWith (· + ·) (rl1.map (· * pl1.getD v 0)) (pl1.map (· * -(rl1.getD v 0))), rl2 * pl1.getD v 0 + pl2 * -(rl1.getD v 0)) := by unfold clearF; rw [if_neg hz]
    rw [← hcl] at h2 h4 h5 ⊢
    have hlen : (clearF (pl1, pl2) v (rl1, rl2)).1.length = rl1.length := by
      rw [hcl]
      unfold primF
      rw [List.length_take, primR_length]
      have h9 : pl1.length = rl1.length := hl
      simp [rowF, h9]
    refine ⟨A5, c5, s5, b5, A6, n6, c6, by rw [hlen], fun g hg hpat _ => ?_, ?_, hu⟩
    · have hp' : Pat okW 4 w' (some g) := hpat.up (fun k e => by cases e; exact hg) hu
      have := eltW.past hp' h2 h3 h4 h5 (fun b off e _ eb => by have := h6 b off e; omega)
      rwa [hlen] at this
    · have : eltW.rel w' none [.slice A5 (clearF (pl1, pl2) v (rl1, rl2)).1.length c5, .int .i64 s5, .bool b5, .slice A6 n6 c6] (clearF (pl1, pl2) v (rl1, rl2)) := ⟨A5, c5, s5, b5, A6, n6, c6, rfl, h2, h3, h4.none, h5.ria⟩
      rwa [hlen] at this
end Go.Proofs.YtacbjbnocepnaaaGreatDoor
namespace Go.Proofs.YtacbjbnocepnaaaGreatDoor
open Fm
def posF (v : Nat) (f : List Int × Int) : List Int × Int := if f.1.getD v 0 < 0 then (f.1.map (· * (-1)), f.2 * (-1)) else f
def stepF (v : Nat) (st : List (List Int × Int) × List (List Int × Int)) : List (List Int × Int) × List (List Int × Int) :=
  match st.1.findIdx? (fun r => decide (r.1.getD v 0 ≠ 0)) with
  | none => st
  | some a => ((st.1.eraseIdx a).map (clearF (posF v (primF (st.1.getD a ([], 0)))) v), st.2.map (clearF (posF v (primF (st.1.getD a ([], 0)))) v) ++ [posF v (primF (st.1.getD a ([], 0)))])
def solvedF (k : Nat) (l : List (List Int × Int)) : List (List Int × Int) × List (List Int × Int) := (List.range k).foldl (fun st v => stepF v st) (l, [])
theorem solvedF_next (k : Nat) (l : List (List Int × Int)) : solvedF (k + 1) l = stepF k (solvedF k l) := by
  unfold solvedF; rw [List.range_succ, List.foldl_append]; rfl
structure RowsOk (n v B : Nat) (st : List (List Int × Int) × List (List Int × Int)) : Prop where
  one : ∀ r, r ∈ st.1 → r.1.length = n ∧ (∀ i, i < v → r.1.getD i 0 = 0) ∧ ∀ z, z ∈ rowF r → rl z ≤ B
  two : ∀ r, r ∈ st.2 → r.1.length = n ∧ ∀ z, z ∈ rowF r → rl z ≤ B
theorem rowF_posF {f : List Int × Int} {v : Nat} (hv : v < f.1.length) : rowF (posF v f) = posR v (rowF f) := by
  unfold posF posR
  rw [getD_row hv]
  split
  · unfold rowF negR
    rw [List.map_append]
    congr 1
    · apply List.map_congr_left; intro x _; omega
    · simp
  · rfl
theorem primF_length (f : List Int × Int) : (primF f).1.length = f.1.length := by
  unfold primF
  rw [List.length_take, primR_length]
  simp [rowF]
theorem posF_length (v : Nat) (f : List Int × Int) : (posF v f).1.length = f.1.length := by
  unfold posF; split <;> simp
theorem primF_zero {f : List Int × Int} {i : Nat} (hi : i < f.1.length) : (primF f).1.getD i 0 = 0 ↔ f.1.getD i 0 = 0 := by
  rw [← getD_row (f := primF f) (by rw [primF_length]; exact hi), rowF_primF, primR_zero, getD_row hi]
theorem posF_rl {f : List Int × Int} {v B : Nat} (h : ∀ z, z ∈ rowF f → rl z ≤ B) : ∀ z, z ∈ rowF (posF v f) → rl z ≤ B := by
  have h' := rowF_rl.1 h
  unfold posF
  split
  · refine rowF_rl.2 ⟨fun z hz => ?_, ?_⟩
    · obtain ⟨q, hq, rfl⟩ := List.mem_map.1 hz
      rw [show q * (-1) = -q by omega, rl_neg]
      exact h'.1 q hq
    · show rl (f.2 * (-1)) ≤ B
      rw [show f.2 * (-1) = -f.2 by omega, rl_neg]
      exact h'.2
  · exact h
theorem leadF_facts {n v B : Nat} {r : List Int × Int} (hv : v < n) (hl : r.1.length = n) (h0 : ∀ i, i < v → r.1.getD i 0 = 0) (hr : ∀ z, z ∈ rowF r → rl z ≤ B) (hne : r.1.getD v 0 ≠ 0) :
    (posF v (primF r)).1.length = n ∧ (∀ i, i < v → (posF v (primF r)).1.getD i 0 = 0) ∧ 0 < (posF v (primF r)).1.getD v 0 ∧ ∀ z, z ∈ rowF (posF v (primF r)) → rl z ≤ B := by
  have hpl : (primF r).1.length = n := by rw [primF_length, hl]
  have hpv : (primF r).1.getD v 0 ≠ 0 := fun e => hne ((primF_zero (by omega)).1 e)
  refine ⟨by rw [posF_length, hpl], fun i hi => ?_, ?_, posF_rl (primF_rl hr)⟩
  · have := (primF_zero (f := r) (i := i) (by omega)).2 (h0 i hi)
    unfold posF
    split
    · show ((primF r).1.map (· * (-1))).getD i 0 = 0
      rw [getD_map0 _ (by simp), this]; rfl
    · exact this
  · unfold posF
    split
    · show 0 < ((primF r).1.map (· * (-1))).getD v 0
      rw [getD_map0 _ (by simp)]; omega
    · omega
theorem findF_some {l : List (List Int × Int)} {v a : Nat} (h : l.findIdx? (fun r => decide (r.1.getD v 0 ≠ 0)) = some a) : ∃ ha : a < l.length, (l[a]).1.getD v 0 ≠ 0 := by
  rw [List.findIdx?_eq_some_iff_getElem] at h
  obtain ⟨h1, h2, -⟩ := h
  exact ⟨h1, by simpa using h2⟩
theorem findF_none {l : List (List Int × Int)} {v : Nat} (h : l.findIdx? (fun r => decide (r.1.getD v 0 ≠ 0)) = none) : ∀ r, r ∈ l → r.1.getD v 0 = 0 := by
  rw [List.findIdx?_eq_none_iff] at h
  intro r hr
  have := h r hr
  simpa using this
theorem stepF_ok {n v B : Nat} {st : List (List Int × Int) × List (List Int × Int)} (h : RowsOk n v B st) (hv : v < n) (hB : 3 ≤ B) : RowsOk n (v + 1) (2 * B + 1) (stepF v st) := by
  unfold stepF
  cases hf : st.1.findIdx? (fun r => decide (r.1.getD v 0 ≠ 0)) with
  | none =>
    have h0 := findF_none hf
    refine ⟨fun r hr => ?_, fun r hr => ?_⟩
    · obtain ⟨h1, h2, h3⟩ := h.one r hr
      refine ⟨h1, fun i hi => ?_, fun z hz => Nat.le_trans (h3 z hz) (by omega)⟩
      rcases Nat.lt_or_ge i v with h4 | h4
      · exact h2 i h4
      · have : i = v := by omega
        subst this; exact h0 r hr
    · obtain ⟨h1, h3⟩ := h.two r hr
      exact ⟨h1, fun z hz => Nat.le_trans (h3 z hz) (by omega)⟩
  | some a =>
    obtain ⟨ha, hne⟩ := findF_some hf
    have hga : st.1.getD a ([], 0) = st.1[a] := by rw [List.getD_eq_getElem?_getD, List.getElem?_eq_getElem ha]; rfl
    simp only
    rw [hga]
    obtain ⟨h1, h2, h3⟩ := h.one _ (List.getElem_mem ha)
    obtain ⟨p1, p2, p3, p4⟩ := leadF_facts hv h1 h2 h3 hne
    generalize posF v (primF st.1[a]) = p at *
    refine ⟨fun r hr => ?_, fun r hr => ?_⟩
    · obtain ⟨q, hq, rfl⟩ := List.mem_map.1 hr
      obtain ⟨q1, q2, q3⟩ := h.one q (List.mem_of_mem_eraseIdx hq)
      have hc : (clearF p v q).1.length = n := by rw [clearF_length (by rw [p1, q1]), q1]
      refine ⟨hc, fun i hi => ?_, clearF_rl hB p4 q3⟩
      rw [← getD_row (f := clearF p v q) (by omega), rowF_clearF (by rw [p1, q1]) (by omega) p3]
      have hle : (rowF q).length = (rowF p).length := by simp [rowF, p1, q1]
      rcases Nat.lt_or_ge i v with h4 | h4
      · exact clearR_zero hle (by rw [getD_row (by omega)]; exact q2 i h4) (by rw [getD_row (by omega)]; exact p2 i h4)
      · have : i = v := by omega
        subst this; exact clearR_at hle
    · rcases List.mem_append.1 hr with hr | hr
      · obtain ⟨q, hq, rfl⟩ := List.mem_map.1 hr
        obtain ⟨q1, q3⟩ := h.two q hq
        exact ⟨by rw [clearF_length (by rw [p1, q1]), q1], clearF_rl hB p4 q3⟩
      · have : r = p := by simpa using hr
        subst this
        exact ⟨p1, fun z hz => Nat.le_trans (p4 z hz) (by omega)⟩
theorem map_erase {α β : Type} (f : α → β) : ∀ (l : List α) (i : Nat), (l.map f).eraseIdx i = (l.eraseIdx i).map f
  | [], _ => rfl
  | _ :: _, 0 => rfl
  | a :: l, i + 1 => by simp only [List.map_cons, List.eraseIdx_cons_succ, map_erase f l i]
theorem stepF_S {n v B : Nat} {st : List (List Int × Int) × List (List Int × Int)} (h : RowsOk n v B st) (hv : v < n) : ((stepF v st).1.map rowF, (stepF v st).2.map rowF) = stepS v (st.1.map rowF, st.2.map rowF) := by
  have hfi : (st.1.map rowF).findIdx? (fun r => decide (r.getD v 0 ≠ 0)) = st.1.findIdx? (fun r => decide (r.1.getD v 0 ≠ 0)) := by
    rw [List.findIdx?_map]
    have : ∀ r, r ∈ st.1 → ((fun r : List Int => decide (r.getD v 0 ≠ 0)) ∘ rowF) r = (fun r : List Int × Int => decide (r.1.getD v 0 ≠ 0)) r := fun r hr => by
      have := (h.one r hr).1
      simp only [Function.comp]
      rw [getD_row (by omega)]
    clear h
    generalize st.1 = l at *
    induction l with
    | nil => rfl
    | cons a l ih =>
      rw [List.findIdx?_cons, List.findIdx?_cons, this a (by simp), ih (fun r hr => this r (by simp [hr]))]
  unfold stepF stepS
  rw [hfi]
  cases hf : st.1.findIdx? (fun r => decide (r.1.getD v 0 ≠ 0)) with
  | none => rfl
  | some a =>
    obtain ⟨ha, hne⟩ := findF_some hf
    have hga : st.1.getD a ([], 0) = st.1[a] := by rw [List.getD_eq_getElem?_getD, List.getElem?_eq_getElem ha]; rfl
    have hgb : (st.1.map rowF).getD a [] = rowF st.1[a] := by rw [List.getD_eq_getElem?_getD, List.getElem?_map, List.getElem?_eq_getElem ha]; rfl
    simp only
    rw [hga, hgb]
    obtain ⟨h1, h2, h3⟩ := h.one _ (List.getElem_mem ha)
    obtain ⟨p1, p2, p3, p4⟩ := leadF_facts hv h1 h2 h3 hne
    rw [← rowF_primF, ← rowF_posF (by rw [primF_length]; omega)]
    generalize posF v (primF st.1[a]) = p at *
    have hcl : ∀ q, q.1.length = n → rowF (clearF p v q) = clearR (rowF p) v (rowF q) := fun q hq => rowF_clearF (by rw [p1, hq]) (by omega) p3
    refine Prod.ext ?_ ?_
    · show ((st.1.eraseIdx a).map (clearF p v)).map rowF = ((st.1.map rowF).eraseIdx a).map (clearR (rowF p) v)
      rw [map_erase, List.map_map, List.map_map]
      exact List.map_congr_left fun q hq => hcl q (h.one q (List.mem_of_mem_eraseIdx hq)).1
    · show (st.2.map (clearF p v) ++ [p]).map rowF = (st.2.map rowF).map (clearR (rowF p) v) ++ [rowF p]
      rw [List.map_append, List.map_map, List.map_map]
      congr 1
      exact List.map_congr_left fun q hq => hcl q (h.two q hq).1
theorem solvedF_ok {n : Nat} {l : List (List Int × Int)} (h : RowsOk n 0 3 (l, [])) : ∀ k, k ≤ n → RowsOk n k (4 * 2 ^ k - 1) (solvedF k l) ∧ ((solvedF k l).1.map rowF, (solvedF k l).2.map rowF) = solvedS k (l.map rowF) := by
  intro k
  induction k with
  | zero => intro _; exact ⟨h, rfl⟩
  | succ k ih =>
    intro hk
    obtain ⟨h1, h2⟩ := ih (by omega)
    have hp : 1 ≤ 2 ^ k := Nat.one_le_two_pow
    have e : 4 * 2 ^ (k + 1) - 1 = 2 * (4 * 2 ^ k - 1) + 1 := by rw [Nat.pow_succ]; omega
    rw [solvedF_next, solvedS_next, ← h2, e]
    exact ⟨stepF_ok h1 (by omega) (by omega), stepF_S h1 (by omega)⟩
theorem solvedF_small {n : Nat} {l : List (List Int × Int)} (h : RowsOk n 0 3 (l, [])) (hn : n ≤ 8) {k : Nat} (hk : k ≤ n) : RowsOk n k 1023 (solvedF k l) := by
  obtain ⟨h1, -⟩ := solvedF_ok h k hk
  have : 4 * 2 ^ k - 1 ≤ 1023 := by
    have : 2 ^ k ≤ 2 ^ 8 := Nat.pow_le_pow_right (by omega) (by omega)
    omega
  exact ⟨fun r hr => ⟨(h1.one r hr).1, (h1.one r hr).2.1, fun z hz => Nat.le_trans ((h1.one r hr).2.2 z hz) this⟩, fun r hr => ⟨(h1.two r hr).1, fun z hz => Nat.le_trans ((h1.two r hr).2 z hz) this⟩⟩
end Go.Proofs.YtacbjbnocepnaaaGreatDoor
namespace Go.Proofs.YtacbjbnocepnaaaGreatDoor
open Go.RowKit Fm
set_option maxHeartbeats 4000000 in
set_option maxRecDepth 10000 in
theorem refRowMinus_any (A A2 : Option Addr) (c n2 c2 : Nat) (s : Int) (b : Bool) (zs : List Int) (x : Int) (w : World) (hn : zs.length ≤ 1000000) (hr : RdE eltR w A zs) (hx : RI w (.agg #[.int .i64 s, .bool b, .slice A2 n2 c2]) x)
    (hbz : ∀ z, z ∈ zs → rl z ≤ 536870912) (hbx : rl x ≤ 536870912) :
    Calls Tryz.prog 98 #[.agg #[.slice A zs.length c, .int .i64 s, .bool b, .slice A2 n2 c2]] w fun e w' => ∃ v, e = .returned v ∧ RowQ w w' v (zs.map (· * (-1))) (x * (-1)) ∧ Up w w' := by
  have HOF := Lib.hid (fun W => refOf_any (-1) W (by decide) (by decide))
  have HTM := Lib.hid (fun W B m j t d (hu : Up w W) (hk : RI W (.agg #[.int .i64 t, .bool d, .slice B m j]) (-1)) => refRowTimes_any A A2 B c n2 c2 m j s t b d zs x (-1) W hn (hr.up hu) (hx.up hu) hk hbz hbx (Nat.le_trans (rl_int (by omega) (by omega)) (by decide)))
  clear hr hx hbz hbx hn
  go_enter Tryz.func98, Tryz.ntmps98
  have hq0 := CellQ.new w (.slice A zs.length c) (.slice A2 n2 c2) s b
  have HQ0 := Lib.hid (hq0.up (Up.alloc _ (.cells #[.slice none 0 0, .int .i64 0, .bool false, .slice none 0 0] 59)))
  have HR0 := Lib.hid (CellQ.new (w.alloc (.cells #[.slice A zs.length c, .int .i64 s, .bool b, .slice A2 n2 c2] 59)) (.slice none 0 0) (.slice none 0 0) 0 false)
  have HUW := Lib.hid ((Up.alloc w (.cells #[.slice A zs.length c, .int .i64 s, .bool b, .slice A2 n2 c2] 59)).trans (Up.alloc _ (.cells #[.slice none 0 0, .int .i64 0, .bool false, .slice none 0 0] 59)))
  rw [size_alloc] at HR0
  clear hq0
  go_upto_region 1 with fail
  generalize (w.alloc (.cells #[.slice A zs.length c, .int .i64 s, .bool b, .slice A2 n2 c2] 59)).alloc (.cells #[.slice none 0 0, .int .i64 0, .bool false, .slice none 0 0] 59) = wB at *
  obtain ⟨g0, hg0⟩ : ∃ g0, g0 = w.heap.size := ⟨_, rfl⟩
  obtain ⟨g1, hg1⟩ : ∃ g1, g1 = w.heap.size + 1 := ⟨_, rfl⟩
  have HG1 := Lib.hid (show w.heap.size ≤ g1 by omega)
  rw [← hg0] at HQ0
  rw [← hg1] at HR0
  rw [← hg1, ← hg0]
  clear hg0 hg1
  obtain ⟨q0, q1, q2, q3, -, lq⟩ := HQ0.out.facts
  go_region_with
    ((first
      | (go_at_call 69
         refine Calls.mono (HOF.out _) ?_
         rintro e w3 ⟨v3, rfl, hv, hu⟩
         obtain ⟨t3, d3, A3, n3, c3, rfl, -⟩ := hv.open_
         have HU3 := Lib.hid hu
         have HV3 := Lib.hid hv
         obtain ⟨q0, q1, q2, q3, -, lq⟩ := (HQ0.out.up (w' := w3) (by (repeat (first | exact Below.refl _ _ | exact Hid.out (by assumption) | refine Up.trans ?_ (Up.drew _) | refine Up.trans ?_ (Up.drewN _ _) | refine Up.trans ?_ (Up.alloc _ _) | refine Up.trans ?_ (Hid.out (by assumption)))))).facts
         clear hu hv)
      | (go_at_call 93
         refine Calls.mono (HTM.out _ _ _ _ _ _ (by (repeat (first | exact Below.refl _ _ | exact Hid.out (by assumption) | refine Up.trans ?_ (Up.drew _) | refine Up.trans ?_ (Up.drewN _ _) | refine Up.trans ?_ (Up.alloc _ _) | refine Up.trans ?_ (Hid.out (by assumption))))) HV3.out) ?_
         rintro e w4 ⟨v4, rfl, hv, hu⟩
         have HU4 := Lib.hid hu
         obtain ⟨A4, c4, s4, b4, A5, n5, c5, rfl, h1, h2, h3, h4, h5⟩ := hv
         have HV4 := Lib.hid (And.intro (And.intro h1 h2) (And.intro (And.intro h3 h4) h5))
         obtain ⟨r0, r1, r2, r3, -, lr⟩ := (HR0.out.up (w' := w4) (by (repeat (first | exact Below.refl _ _ | exact Hid.out (by assumption) | refine Up.trans ?_ (Up.drew _) | refine Up.trans ?_ (Up.drewN _ _) | refine Up.trans ?_ (Up.alloc _ _) | refine Up.trans ?_ (Hid.out (by assumption)))))).facts
         obtain ⟨y0, y1, y2, y3⟩ := (HR0.out.up (w' := w4) (by (repeat (first | exact Below.refl _ _ | exact Hid.out (by assumption) | refine Up.trans ?_ (Up.drew _) | refine Up.trans ?_ (Up.drewN _ _) | refine Up.trans ?_ (Up.alloc _ _) | refine Up.trans ?_ (Hid.out (by assumption)))))).frz
         clear hu h1 h2 h3 h4 h5)))
  all_goals
    have HUB3 := Lib.hid (show Up wB w3 by (repeat (first | exact Below.refl _ _ | exact Hid.out (by assumption) | refine Up.trans ?_ (Up.drew _) | refine Up.trans ?_ (Up.drewN _ _) | refine Up.trans ?_ (Up.alloc _ _) | refine Up.trans ?_ (Hid.out (by assumption)))))
    have HR4 := Lib.hid (HR0.out.up (w' := w4) (by (repeat (first | exact Below.refl _ _ | exact Hid.out (by assumption) | refine Up.trans ?_ (Up.drew _) | refine Up.trans ?_ (Up.drewN _ _) | refine Up.trans ?_ (Up.alloc _ _) | refine Up.trans ?_ (Hid.out (by assumption))))))
    have HU04 := Lib.hid (show Up w w4 by (repeat (first | exact Below.refl _ _ | exact Hid.out (by assumption) | refine Up.trans ?_ (Up.drew _) | refine Up.trans ?_ (Up.drewN _ _) | refine Up.trans ?_ (Up.alloc _ _) | refine Up.trans ?_ (Hid.out (by assumption)))))
    have HFF := Lib.hid ((HR4.out.put (.slice A4 zs.length c4) s4 b4 (.slice A5 n5 c5)).facts)
    have HAW := Lib.hid (show zs.map (· * (-1)) ≠ [] → Away A4 g1 from fun hne b' off' e e2 => by
      have h2 := HV4.out.2.2 b' off' e
      have h3 := HR0.out.lt
      have h4 := HUB3.out.size
      omega)
    have HLO := Lib.hid (HV4.out.2.1.1.putRow HR4.out (fun x e => by cases e) HAW.out (.slice A4 zs.length c4) (fun x e => by cases e) s4 b4 (.slice A5 n5 c5))
    have HRO := Lib.hid (HV4.out.2.1.2.ria.putRow HR4.out (fun x e => by cases e) (.slice A4 zs.length c4) (fun x e => by cases e) s4 b4 (.slice A5 n5 c5))
    have HUF := Lib.hid (HU04.out.putQ HG1.out (.slice A4 zs.length c4) s4 b4 (.slice A5 n5 c5))
    have HFR := Lib.hid (fun (b off : Nat) (e : A4 = some ⟨b, off, none⟩) => Nat.le_trans (HUW.out.trans HUB3.out).size (HV4.out.2.2 b off e))
    go_wp2
    obtain ⟨z0, z1, z2, z3, -, -⟩ := HFF.out
    simp only [rowSet] at z0 z1 z2 z3
    refine bodyPost_ret (by simp [results, Tryz.results98, go_sem, z0, z1, z2, z3]; try rfl) rfl ?_
    exact ⟨_, rfl, ⟨A4, c4, s4, b4, A5, n5, c5, by rw [List.length_map], HV4.out.1.1, HV4.out.1.2, HLO.out, HRO.out.ri, HFR.out⟩, HUF.out⟩
end Go.Proofs.YtacbjbnocepnaaaGreatDoor
namespace Go.Proofs.YtacbjbnocepnaaaGreatDoor
open Go.RowKit Fm
def partF {α : Type} (f : α → α) (l : List α) (i : Nat) : List α := (l.take i).map f ++ l.drop i
theorem partF_zero {α : Type} (f : α → α) (l : List α) : partF f l 0 = l := by simp [partF]
theorem partF_all {α : Type} (f : α → α) (l : List α) : partF f l l.length = l.map f := by simp [partF]
theorem partF_length {α : Type} (f : α → α) (l : List α) (i : Nat) : (partF f l i).length = l.length := by
  unfold partF
  rw [List.length_append, List.length_map, List.length_take, List.length_drop]; omega
theorem partF_get {α : Type} (f : α → α) (l : List α) (i : Nat) (hi : i < l.length) : (partF f l i)[i]'(by rw [partF_length]; exact hi) = l[i] := by
  have h : (partF f l i)[i]? = some l[i] := by
    unfold partF
    have e : ((l.take i).map f).length = i := by rw [List.length_map, List.length_take]; omega
    rw [List.getElem?_append_right (by omega), e, Nat.sub_self, List.getElem?_drop, Nat.add_zero, List.getElem?_eq_getElem hi]
  rw [List.getElem?_eq_getElem (by rw [partF_length]; exact hi)] at h
  injection h
theorem partF_set {α : Type} (f : α → α) (l : List α) (i : Nat) (hi : i < l.length) : (partF f l i).set i (f l[i]) = partF f l (i + 1) := by
  unfold partF
  have e : ((l.take i).map f).length = i := by rw [List.length_map, List.length_take]; omega
  rw [List.set_append_right _ _ (by omega), e, Nat.sub_self, List.drop_eq_getElem_cons hi, List.set_cons_zero, List.take_succ_eq_append_getElem hi, List.map_append, List.append_assoc]
  rfl
def atI (v : Nat) (l : List (List Int × Int)) : Int := match l.findIdx? (fun r => decide (r.1.getD v 0 ≠ 0)) with
  | none => -1
  | some a => (a : Int)
theorem atI_of {v : Nat} {l : List (List Int × Int)} {a : Nat} (h : l.findIdx? (fun r => decide (r.1.getD v 0 ≠ 0)) = some a) : atI v l = (a : Int) := by unfold atI; rw [h]
theorem atI_no {v : Nat} {l : List (List Int × Int)} (h : l.findIdx? (fun r => decide (r.1.getD v 0 ≠ 0)) = none) : atI v l = -1 := by unfold atI; rw [h]
theorem stepF_no {v : Nat} {rs ys : List (List Int × Int)} (h : rs.findIdx? (fun r => decide (r.1.getD v 0 ≠ 0)) = none) : stepF v (rs, ys) = (rs, ys) := by unfold stepF; simp only; rw [h]
theorem stepF_of {v : Nat} {rs ys : List (List Int × Int)} {a : Nat} (ha : a < rs.length) (h : rs.findIdx? (fun r => decide (r.1.getD v 0 ≠ 0)) = some a) : stepF v (rs, ys) = ((rs.eraseIdx a).map (clearF (posF v (primF rs[a])) v), ys.map (clearF (posF v (primF rs[a])) v) ++ [posF v (primF rs[a])]) := by
  have hga : rs.getD a ([], 0) = rs[a] := by rw [List.getD_eq_getElem?_getD, List.getElem?_eq_getElem ha]; rfl
  unfold stepF; simp only; rw [h]; simp only; rw [hga]
theorem atI_none {v : Nat} {l : List (List Int × Int)} (h : (l.take l.length).all (fun r => decide (r.1.getD v 0 = 0)) = true) : atI v l = -1 := by
  rw [List.take_length, List.all_eq_true] at h
  have e : l.findIdx? (fun r => decide (r.1.getD v 0 ≠ 0)) = none := by
    rw [List.findIdx?_eq_none_iff]
    intro r hr
    have := h r hr
    simpa using this
  unfold atI; rw [e]
theorem atI_some {v j : Nat} {l : List (List Int × Int)} (hj : j < l.length) (h : (l.take j).all (fun r => decide (r.1.getD v 0 = 0)) = true) (hne : l[j].1.getD v 0 ≠ 0) : atI v l = (j : Int) := by
  rw [List.all_eq_true] at h
  have e : l.findIdx? (fun r => decide (r.1.getD v 0 ≠ 0)) = some j := by
    rw [List.findIdx?_eq_some_iff_getElem]
    refine ⟨hj, by simpa using hne, fun t ht => ?_⟩
    have := h l[t] (by rw [List.mem_iff_getElem]; exact ⟨t, by rw [List.length_take]; omega, by rw [List.getElem_take]⟩)
    simpa using this
  unfold atI; rw [e]
theorem atI_next {v j : Nat} {l : List (List Int × Int)} (hj : j < l.length) (h : (l.take j).all (fun r => decide (r.1.getD v 0 = 0)) = true) (hz : l[j].1.getD v 0 = 0) : (l.take (j + 1)).all (fun r => decide (r.1.getD v 0 = 0)) = true := by
  rw [List.take_succ_eq_append_getElem hj, List.all_append, h]
  simp only [List.all_cons, List.all_nil, Bool.and_true, Bool.true_and, decide_eq_true_eq]
  exact hz
theorem RdO.putQ {w : World} {o : Option Nat} {A : Option Addr} {zs : List Int} (h : RdO w o A zs) {g : Nat} {v1 v2 : Value} {s' : Int} {b' : Bool} (hg : CellQ w g v1 s' b' v2) (hv : ∀ x, v1 ≠ .int .i64 x) (ha : zs ≠ [] → Away A g) (i : Nat) (u : Value) : RdO (w.setCell ⟨g, i, none⟩ u) o A zs := fun hn => by
  obtain ⟨b, off, rfl, hb, ho, hc⟩ := h hn
  have hne := ha hn b off rfl
  refine ⟨b, off, rfl, by rw [setCell_size]; exact hb, ho, fun j hj => ?_⟩
  obtain ⟨cs, ⟨t, d, D, m, k, rfl, h1⟩, h2⟩ := hc j hj
  refine ⟨_, ⟨t, d, D, m, k, rfl, h1.put hg hv i u⟩, fun l u' hl => ?_⟩
  rw [World.cell?_setCell_other _ _ _ _ (by intro e; injection e with e; exact hne e.symm)]
  exact h2 l u' hl
theorem RdO.putRow {w : World} {o : Option Nat} {A : Option Addr} {zs : List Int} (h : RdO w o A zs) {g : Nat} {v1 v2 : Value} {s : Int} {b : Bool} (hg : CellQ w g v1 s b v2) (hv : ∀ x, v1 ≠ .int .i64 x) (ha : zs ≠ [] → Away A g) (v' : Value) (hv' : ∀ x, v' ≠ .int .i64 x) (s' : Int) (b' : Bool) (v2' : Value) : RdO (rowSet w g v' s' b' v2') o A zs :=
  (((h.putQ hg hv ha 0 v').putQ (hg.set v') hv' ha 1 (.int .i64 s')).putQ ((hg.set v').set1 s') hv' ha 2 (.bool b')).putQ (((hg.set v').set1 s').set2 b') hv' ha 3 v2'
theorem eltW.putRow {w : World} {o : Option Nat} {A : Option Addr} {k c : Nat} {s : Int} {b : Bool} {A2 : Option Addr} {n2 c2 : Nat} {r : List Int × Int} (h : eltW.rel w o [.slice A k c, .int .i64 s, .bool b, .slice A2 n2 c2] r) {g : Nat} {v1 v2 : Value} {s1 : Int} {b1 : Bool} (hg : CellQ w g v1 s1 b1 v2) (hv : ∀ x, v1 ≠ .int .i64 x) (ha : r.1 ≠ [] → Away A g) (v' : Value) (hv' : ∀ x, v' ≠ .int .i64 x) (s' : Int) (b' : Bool) (v2' : Value) : eltW.rel (rowSet w g v' s' b' v2') o [.slice A k c, .int .i64 s, .bool b, .slice A2 n2 c2] r := by
  obtain ⟨A', c', s', b', A2', n2', c2', e, h1, h2, h3, h4⟩ := h
  cases e
  exact ⟨A, c, s, b, A2, n2, c2, rfl, h1, h2, h3.putRow hg hv ha v' hv' _ _ v2', h4.putRow hg hv v' hv' _ _ v2'⟩
theorem RowQ.eltO {w0 w : World} {v : Value} {r : List Int × Int} (h : RowQ w0 w v r.1 r.2) {o : Option Nat} (ho : ∀ g, o = some g → g < w0.heap.size ∧ Pat okW 4 w (some g)) :
    ∃ A c s b A2 n2 c2, v = .agg #[.slice A r.1.length c, .int .i64 s, .bool b, .slice A2 n2 c2] ∧ eltW.rel w o [.slice A r.1.length c, .int .i64 s, .bool b, .slice A2 n2 c2] r ∧ eltW.rel w none [.slice A r.1.length c, .int .i64 s, .bool b, .slice A2 n2 c2] r ∧ ∀ b off, A = some ⟨b, off, none⟩ → w0.heap.size ≤ b := by
  obtain ⟨A, c, s, b, A2, n2, c2, rfl, h1, h2, h3, h4, h5⟩ := h
  have hnone : eltW.rel w none [.slice A r.1.length c, .int .i64 s, .bool b, .slice A2 n2 c2] r := ⟨A, c, s, b, A2, n2, c2, rfl, h1, h2, h3.none, h4.ria⟩
  refine ⟨A, c, s, b, A2, n2, c2, rfl, ?_, hnone, h5⟩
  cases o with
  | none => exact hnone
  | some g =>
    obtain ⟨hg, hp⟩ := ho g rfl
    exact eltW.past hp h1 h2 h3 h4 fun b off e _ eb => by have := h5 b off e; omega
def PBox (w0 wx : World) (o : Option Nat) (n : Nat) (p : List Int × Int) (u : Value) : Prop :=
  ∃ gp A c s b A2 n2 c2, u = .pointer (some ⟨gp, 0, none⟩) ∧ CellQ wx gp (.slice A n c) s b (.slice A2 n2 c2) ∧ eltW.rel wx o [.slice A n c, .int .i64 s, .bool b, .slice A2 n2 c2] p ∧ eltW.rel wx none [.slice A n c, .int .i64 s, .bool b, .slice A2 n2 c2] p ∧ w0.heap.size ≤ gp
theorem rdE_src {w W : World} {A : Option Addr} {fs : List (List Int × Int)} (h : RdE eltW w A fs) (hu : Up w W) {g : Nat} (hg : w.heap.size ≤ g) : fs ≠ [] → ∃ b off css, A = some ⟨b, off, none⟩ ∧ Elts (eltV none) W (some g) css fs ∧ ∀ j u, css.flatten[j]? = some u → W.cell? ⟨b, off + j, none⟩ = some u := fun hn => by
  obtain ⟨b, off, rfl, hb, hc⟩ := h hn
  obtain ⟨css, h1, h2⟩ := rde_eltsO (E := eltV none) (w := w) (o := some g) fs off fun i hi => by
    obtain ⟨cs, k1, k2⟩ := hc i hi
    exact ⟨cs, ⟨eltW.ahead k1 hg, k1⟩, k2⟩
  exact ⟨b, off, css, rfl, h1.map fun h => (eltV none).up h hu, fun j u e => (hu.cells.1 _ _ hb).trans (h2 j u e)⟩
theorem OwP.rowAt {o2 : Option Nat} {w0 w : World} {t : TypeId} {A : Option Addr} {n c : Nat} {zs : List (List Int × Int)} (h : OwP (eltV o2) okW w0 w t (.slice A n c) zs) {i : Nat} (hi : i < zs.length) :
    ∃ g, A = some ⟨g, 0, none⟩ ∧ n = zs.length ∧ w0.heap.size ≤ g ∧ g < w.heap.size ∧ (∀ j, w.frozen? ⟨g, j, none⟩ = false) ∧ ∃ B k c1 s b B2 n2 c2, k = zs[i].1.length ∧ (eltV o2).rel w (some g) [.slice B k c1, .int .i64 s, .bool b, .slice B2 n2 c2] zs[i] ∧ w.cell? ⟨g, i * 4, none⟩ = some (.slice B k c1) ∧ w.cell? ⟨g, i * 4 + 1, none⟩ = some (.int .i64 s) ∧ w.cell? ⟨g, i * 4 + 2, none⟩ = some (.bool b) ∧ w.cell? ⟨g, i * 4 + 3, none⟩ = some (.slice B2 n2 c2) := by
  obtain ⟨g, c1, e, -, -, -, hb, hlt, hf, hc⟩ := h.form (by intro e; subst e; simp at hi)
  injection e with e1 e2 e3
  obtain ⟨cs, k1, k2⟩ := hc i hi
  obtain ⟨B, c3, s, b, B2, n2, c2, rfl, -⟩ := id k1.1
  exact ⟨g, e1, e2, hb, hlt, hf, B, _, c3, s, b, B2, n2, c2, rfl, k1, k2 0 _ rfl, k2 1 _ rfl, k2 2 _ rfl, k2 3 _ rfl⟩
theorem OwP.rowAtW {w0 w : World} {t : TypeId} {A : Option Addr} {n c : Nat} {zs : List (List Int × Int)} (h : OwP eltW okW w0 w t (.slice A n c) zs) {i : Nat} (hi : i < zs.length) :
    ∃ g, A = some ⟨g, 0, none⟩ ∧ n = zs.length ∧ w0.heap.size ≤ g ∧ g < w.heap.size ∧ (∀ j, w.frozen? ⟨g, j, none⟩ = false) ∧ ∃ B k c1 s b B2 n2 c2, k = zs[i].1.length ∧ eltW.rel w (some g) [.slice B k c1, .int .i64 s, .bool b, .slice B2 n2 c2] zs[i] ∧ w.cell? ⟨g, i * 4, none⟩ = some (.slice B k c1) ∧ w.cell? ⟨g, i * 4 + 1, none⟩ = some (.int .i64 s) ∧ w.cell? ⟨g, i * 4 + 2, none⟩ = some (.bool b) ∧ w.cell? ⟨g, i * 4 + 3, none⟩ = some (.slice B2 n2 c2) := by
  obtain ⟨g, c1, e, -, -, -, hb, hlt, hf, hc⟩ := h.form (by intro e; subst e; simp at hi)
  injection e with e1 e2 e3
  obtain ⟨cs, k1, k2⟩ := hc i hi
  obtain ⟨B, c3, s, b, B2, n2, c2, rfl, -⟩ := id k1
  exact ⟨g, e1, e2, hb, hlt, hf, B, _, c3, s, b, B2, n2, c2, rfl, k1, k2 0 _ rfl, k2 1 _ rfl, k2 2 _ rfl, k2 3 _ rfl⟩
theorem refPrimed_new (A A2 : Option Addr) (c c2 n2 v : Nat) (s : Int) (b : Bool) (f : List Int × Int) (w : World) (hn : f.1.length ≤ 1000000) (hr : RdE eltR w A f.1) (hx : RI w (.agg #[.int .i64 s, .bool b, .slice A2 n2 c2]) f.2) (hbz : ∀ z, z ∈ f.1 → rl z ≤ 536870912) (hbx : rl f.2 ≤ 536870912) (hv : f.1.getD v 0 ≠ 0) :
    Calls Tryz.prog 97 #[.agg #[.slice A f.1.length c, .int .i64 s, .bool b, .slice A2 n2 c2]] w fun e w' => ∃ u, e = .returned u ∧ RowQ w w' u (primF f).1 (primF f).2 ∧ Up w w' := by
  have HDV := Lib.hid (fun W (hu : Up w W) => refDivisor_any A A2 c c2 n2 s b f.1 f.2 W hn (hr.up hu) (hx.up hu) hbz hbx)
  have hd : gcdR f.2.natAbs f.1 ≠ 0 := fun e => by
    rcases getD_mem0 f.1 v with h | h
    · exact hv h
    · have := gcdR_dvd f.1 f.2.natAbs _ h
      rw [e] at this
      exact hv (by simpa using this)
  rw [primF_eq, if_neg hd]
  exact refPrimed_big A A2 c c2 n2 s b f.1 f.2 w _ hd hn hbz hbx hr hx HDV
theorem OwP.src {o2 : Option Nat} {w0 w W : World} {t : TypeId} {g n c : Nat} {zs : List (List Int × Int)} (h : OwP (eltV o2) okW w0 w t (.slice (some ⟨g, 0, none⟩) n c) zs) (hn : zs ≠ []) (hu : Up w W) (v : Value) (hv : ∀ g', v.ownBlock = some g' → w.heap.size ≤ g') (k m : Nat) (A : Option Addr) (zs2 : List (List Int × Int)) (hz : zs2 = (zs.drop k).take m) (hA : zs2 ≠ [] → A = some ⟨g, k * 4, none⟩) :
    zs2 ≠ [] → ∃ b off css2, A = some ⟨b, off, none⟩ ∧ Elts (eltV o2) W v.ownBlock css2 zs2 ∧ ∀ j u, css2.flatten[j]? = some u → W.cell? ⟨b, off + j, none⟩ = some u := fun hne => by
  have hgl := (h.lt g rfl).2
  obtain ⟨css, h1, h2⟩ := h.part hn k m (Nat.le_refl _)
  rw [hA hne]
  rw [hz]
  rcases hv' : v.ownBlock with _ | g'
  · exact ⟨g, k * 4, css, rfl, h1.map fun h => (eltV o2).up (eltV_none h) hu, fun j u e => (hu.cells.1 _ _ hgl).trans (h2 j u e)⟩
  · obtain ⟨css, h1, h2⟩ := h.part hn k m (hv g' hv')
    exact ⟨g, k * 4, css, rfl, h1.map fun h => (eltV o2).up h hu, fun j u e => (hu.cells.1 _ _ hgl).trans (h2 j u e)⟩
theorem eltW_parts {w : World} {o : Option Nat} {A : Option Addr} {k c : Nat} {s : Int} {b : Bool} {A2 : Option Addr} {n2 c2 : Nat} {r : List Int × Int} (h : eltW.rel w o [.slice A k c, .int .i64 s, .bool b, .slice A2 n2 c2] r) : k = r.1.length ∧ RdE eltR w A r.1 ∧ RI w (.agg #[.int .i64 s, .bool b, .slice A2 n2 c2]) r.2 := by
  obtain ⟨A', c', s', b', A2', n2', c2', e, h1, h2, h3, h4⟩ := eltW_row h
  cases e
  exact ⟨rfl, h3, h4⟩
theorem PBox.up {w0 w w' : World} {o : Option Nat} {n : Nat} {p : List Int × Int} {u : Value} (h : PBox w0 w o n p u) (hu : Up w w') : PBox w0 w' o n p u := by
  obtain ⟨gp, A, c, s, b, A2, n2, c2, e, h1, h2, h3, h4⟩ := h
  exact ⟨gp, A, c, s, b, A2, n2, c2, e, h1.up hu, eltW.up h2 hu, eltW.up h3 hu, h4⟩
theorem refClear_two (A A2 E E2 : Option Addr) (c c2 n2 k k2 f f2 m2 v : Nat) (s t : Int) (b d : Bool) (r p : List Int × Int) (w : World) (hn : r.1.length ≤ 1000) (hk : k = r.1.length) (hk2 : k2 = p.1.length) (hl : p.1.length = r.1.length) {o2 : Option Nat} {g : Nat} (hr : (eltV o2).rel w (some g) [.slice A k c, .int .i64 s, .bool b, .slice A2 n2 c2] r) (hp : RdE eltR w E p.1) (hy : RI w (.agg #[.int .i64 t, .bool d, .slice E2 m2 f2]) p.2)
    (hg : g < w.heap.size) (hgp : Pat okW 4 w (some g)) (ho : ∀ g', o2 = some g' → g' < w.heap.size ∧ Pat okW 4 w (some g'))
    (hv : v < r.1.length) (h0 : ∀ i, i < v → p.1.getD i 0 = 0) (h1 : 0 < p.1.getD v 0) (hb1 : (∀ z, z ∈ r.1 → rl z ≤ 100000) ∧ rl r.2 ≤ 100000) (hb2 : (∀ z, z ∈ p.1 → rl z ≤ 100000) ∧ rl p.2 ≤ 100000) :
    Calls Tryz.prog 99 #[.agg #[.slice A k c, .int .i64 s, .bool b, .slice A2 n2 c2], .agg #[.slice E k2 f, .int .i64 t, .bool d, .slice E2 m2 f2]] w fun e w' => ∃ A' c' s' b' A3 n3 c3, e = .returned (.agg #[.slice A' r.1.length c', .int .i64 s', .bool b', .slice A3 n3 c3]) ∧ (eltV o2).rel w' (some g) [.slice A' r.1.length c', .int .i64 s', .bool b', .slice A3 n3 c3] (clearF p v r) ∧ Up w w' := by
  refine Calls.mono (refClear_free A A2 E E2 c c2 n2 k k2 f f2 m2 v s t b d r p w hn hk hk2 hl (eltW_none hr.1) hp hy hv h0 h1 hb1 hb2) ?_
  rintro e w' ⟨A', c', s', b', A3, n3, c3, rfl, hall, hnone, hu⟩
  refine ⟨A', c', s', b', A3, n3, c3, rfl, ⟨hall g hg hgp hr.1, ?_⟩, hu⟩
  cases o2 with
  | none => exact hnone
  | some g' => exact hall g' (ho g' rfl).1 (ho g' rfl).2 hr.2
theorem Up.put4c {w0 w : World} {g : Nat} (h : Up w0 w) (hg : w0.heap.size ≤ g) (o : Nat) (a b c d : Value) : Up w0 (put4c w g o a b c d) :=
  (((Below.setCell (p := ⟨g, o, none⟩) h hg a).setCell (p := ⟨g, o + 1, none⟩) hg b).setCell (p := ⟨g, o + 2, none⟩) hg c).setCell (p := ⟨g, o + 3, none⟩) hg d
theorem PBox.stored {w0 w1 w : World} {g m cap gp n : Nat} {p : List Int × Int} {ys : List (List Int × Int)} (h : PBox w0 w (some g) n p (.pointer (some ⟨gp, 0, none⟩))) (hne : gp ≠ g) (ho : OwP eltW okW w1 w 59 (.slice (some ⟨g, 0, none⟩) m cap) ys) (o : Nat) (a b c d : Value) : PBox w0 (put4c w g o a b c d) (some g) n p (.pointer (some ⟨gp, 0, none⟩)) := by
  obtain ⟨gp', A, c', s, b', A2, n2, c2, e, h1, h2, h3, h4⟩ := h
  injection e with e
  injection e with e
  injection e with e
  subst e
  have h5 := eltW.stored ho h2 o a b c d
  refine ⟨gp, A, c', s, b', A2, n2, c2, rfl, ?_, h5, eltW_none h5, h4⟩
  exact (((h1.far hne o a).far hne (o + 1) b).far hne (o + 2) c).far hne (o + 3) d
theorem OwP.pat {α : Type} {E : Elt α} {ok : Nat → Value → Prop} {w0 w : World} {t : TypeId} {v : Value} {zs : List α} (h : OwP E ok w0 w t v zs) : Pat ok E.size w v.ownBlock := h.2
end Go.Proofs.YtacbjbnocepnaaaGreatDoor
