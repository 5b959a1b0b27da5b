/- The solution, the rank and the echelon form of the reference, and the walk of the law. -/
import Derived.Test.YtacbjbnocepnaaaGreatDoorQIE
import Derived.Test.YtacbjbnocepnaaaGreatDoorQHJ
import Derived.Test.YtacbjbnocepnaaaGreatDoorQIF
import Derived.Test.YtacbjbnocepnaaaGreatDoorQGR
import Derived.Test.YtacbjbnocepnaaaGreatDoorQIA
import Derived.Deep.RegionWith
import Derived.Test.YtacbjbnocepnaaaGreatDoorQHI
import Derived.Test.YtacbjbnocepnaaaGreatDoorQGO
import Derived.Test.YtacbjbnocepnaaaGreatDoorQHR
import Derived.Test.YtacbjbnocepnaaaGreatDoorQIL
import Derived.Test.YtacbjbnocepnaaaGreatDoorQHX
import Derived.Test.YtacbjbnocepnaaaGreatDoorQIH
import Derived.Test.YtacbjbnocepnaaaGreatDoorQHT2
import Derived.Test.YtacbjbnocepnaaaGreatDoorQHF
import Derived.Test.YtacbjbnocepnaaaGreatDoorQHG
import Derived.Test.YtacbjbnocepnaaaGreatDoorQGS
namespace Go.Proofs.YtacbjbnocepnaaaGreatDoor
open Go.RowKit Fm
def storeL : World → Nat → Nat → List Value → World
  | w, _, _, [] => w
  | w, g, o, c :: cs => storeL (w.setCell ⟨g, o, none⟩ c) g (o + 1) cs
theorem set_split {α : Type} (l : List α) (o : Nat) (c : α) (h : o < l.length) : (l.set o c).take (o + 1) = l.take o ++ [c] ∧ ∀ k, (l.set o c).drop (o + 1 + k) = l.drop (o + 1 + k) := by
  refine ⟨?_, fun k => ?_⟩
  · rw [List.take_succ_eq_append_getElem (by rw [List.length_set]; exact h), List.getElem_set_self, List.take_set_of_le (Nat.le_refl o)]
  · rw [List.drop_set_of_lt (by omega)]
theorem storeL_heap : ∀ (cs : List Value) (w : World) (g o : Nat) (cur : Array Value) (t : TypeId), w.heap[g]? = some (.cells cur t (0, 0)) → o + cs.length ≤ cur.size → ∃ arr, (storeL w g o cs).heap[g]? = some (.cells arr t (0, 0)) ∧ arr.toList = cur.toList.take o ++ cs ++ cur.toList.drop (o + cs.length) := by
  intro cs
  induction cs with
  | nil => intro w g o cur t h _; exact ⟨cur, h, by simp⟩
  | cons c cs ih =>
    intro w g o cur t h hl
    simp only [List.length_cons] at hl
    have h1 : (w.setCell ⟨g, o, none⟩ c).heap[g]? = some (.cells (cur.setIfInBounds o c) t (0, 0)) := by
      simp [World.setCell, Array.getElem?_modify, h]
    obtain ⟨arr, k1, k2⟩ := ih (w.setCell ⟨g, o, none⟩ c) g (o + 1) _ t h1 (by rw [Array.size_setIfInBounds]; omega)
    refine ⟨arr, k1, ?_⟩
    obtain ⟨s1, s2⟩ := set_split cur.toList o c (by simp; omega)
    rw [k2, Array.toList_setIfInBounds, s1, s2, List.length_cons]
    simp only [List.append_assoc, List.cons_append, List.nil_append]
    rw [show o + 1 + cs.length = o + (cs.length + 1) by omega]
theorem storeL_grown : ∀ (cs : List Value) (w : World) (g o : Nat), w.grownBy (storeL w g o cs) (some g) := by
  intro cs
  induction cs with
  | nil => intro w g o; exact ⟨rfl, rfl, rfl, Nat.le_refl _, fun _ _ _ => rfl⟩
  | cons c cs ih =>
    intro w g o
    have h1 : w.grownBy (w.setCell ⟨g, o, none⟩ c) (some g) := ⟨rfl, rfl, rfl, by simp [World.setCell], fun k hk hne => Below.heap_setCell w ⟨g, o, none⟩ c k (fun e => hne (by rw [e]))⟩
    exact grown_trans h1 (ih _ g (o + 1))
theorem Up.storeL {w0 : World} : ∀ (cs : List Value) (w : World) (g o : Nat), Up w0 w → w0.heap.size ≤ g → Up w0 (storeL w g o cs) := by
  intro cs
  induction cs with
  | nil => intro w g o h _; exact h
  | cons c cs ih => intro w g o h hg; exact ih _ g (o + 1) (Below.setCell (p := ⟨g, o, none⟩) h hg c) hg
theorem take_setG {α : Type} (s : Nat) (x : List α) (l : List α) (o m : Nat) (hx : x.length = s) (ho : o + s ≤ m) (hm : m ≤ l.length) : (l.take o ++ x ++ l.drop (o + s)).take m = (l.take m).take o ++ x ++ (l.take m).drop (o + s) := by
  have h1 : (l.take o).length = o := by rw [List.length_take]; omega
  rw [List.append_assoc, List.take_append, List.take_append, h1, hx, List.take_of_length_le (l := l.take o) (by omega), List.take_of_length_le (l := x) (by omega), List.take_take, Nat.min_eq_left (by omega), List.drop_take, List.append_assoc, show m - o - s = m - (o + s) by omega]
theorem OwP.storeG {α : Type} {E : Elt α} {ok : Nat → Value → Prop} {w0 w : World} {t : TypeId} {g n cap : Nat} {zs : List α} (h : OwP E ok w0 w t (.slice (some ⟨g, 0, none⟩) n cap) zs) {i : Nat} (hi : i < zs.length) {cs : List Value} {z : α} (hz : E.rel w (some g) cs z) (hokc : ∀ j u, cs[j]? = some u → ok j u) :
    OwP E ok w0 (storeL w g (i * E.size) cs) t (.slice (some ⟨g, 0, none⟩) n cap) (zs.set i z) := by
  obtain ⟨⟨css, h1, ⟨hl, h2⟩, h3⟩, hp⟩ := h
  rcases h2 with ⟨e, -⟩ | ⟨g', cap', cur, e, hb, hg, hnc, hcm, hcs, htk⟩
  · cases e
  injection e with e1 e2 e3
  injection e1 with e1
  injection e1 with e1
  subst e1; subst e3
  have hgr := storeL_grown cs w g (i * E.size)
  have hcl : css.length = zs.length := h1.length
  have hfl := h1.flat_len
  have hcz := E.len hz
  have hio : i * E.size + E.size ≤ zs.length * E.size := by
    rw [← Nat.succ_mul]; exact Nat.mul_le_mul_right _ hi
  have hlc : zs.length * E.size ≤ cur.size := by
    have := congrArg List.length htk
    rw [List.length_take] at this
    simp only [Array.length_toList] at this
    omega
  obtain ⟨arr, hh, harr⟩ := storeL_heap cs w g (i * E.size) cur t hg (by omega)
  rw [hcz] at harr
  have hn : n = zs.length := by omega
  have hset : (css.set i cs).flatten = css.flatten.take (i * E.size) ++ cs ++ css.flatten.drop (i * E.size + E.size) := flatten_set E.size css i _ h1.lens hcz (by omega)
  have hcur : ∀ u ∈ cur.toList, NoDig u := fun u hu => by
    obtain ⟨j, hj, rfl⟩ := List.mem_iff_getElem.1 hu
    intro x e
    refine h3 g rfl j x ?_
    rw [cell_of_row w g j _ _ _ hg, ← e]
    simp at hj
    rw [Array.getElem?_eq_getElem hj]; simp
  have hpat : PatL ok E.size cur.toList := heap_pat hg hp
  have hln : css.flatten.length = zs.length * E.size := hfl
  have hsl : (zs.set i z).length = zs.length := List.length_set
  have has : arr.size = cur.size := by
    have := congrArg List.length harr
    simp only [List.length_append, List.length_take, List.length_drop, Array.length_toList, hcz] at this
    omega
  refine ⟨⟨css.set i cs, ?_, ⟨?_, .inr ⟨g, cap, arr, by rw [hsl, hn], hb, hh, by rw [hsl]; exact hnc, hcm, by rw [has]; exact hcs, ?_⟩⟩, ?_⟩, ?_⟩
  · exact (Elts.set_ hz i h1).map fun h => E.grow h hgr h3
  · rw [hset]
    simp only [List.length_append, List.length_take, List.length_drop]
    rw [hsl, hcz]
    omega
  · rw [hsl, harr, hset, take_setG E.size _ _ _ _ hcz (by omega) (by simp only [Array.length_toList]; omega), htk]
  · intro g' hg'
    cases hg'
    refine nodig_heap hh fun u hu => ?_
    rw [harr] at hu
    simp only [List.mem_append] at hu
    rcases hu with (hu | hu) | hu
    · exact hcur u (List.mem_of_mem_take hu)
    · exact E.nod hz u hu
    · exact hcur u (List.mem_of_mem_drop hu)
  · intro g' hg'
    cases hg'
    refine pat_heap hh ?_
    rw [harr]
    have hi4 : (cur.toList.take (i * E.size)).length = i * E.size := by rw [List.length_take]; simp only [Array.length_toList]; omega
    exact ((hpat.take _).append (by rw [hi4, Nat.mul_mod_left]) (PatL.one hcz hokc)).append (by rw [List.length_append, hi4, hcz, ← Nat.succ_mul, Nat.mul_mod_left]) (hpat.drop (by rw [← Nat.succ_mul, Nat.mul_mod_left]))
theorem flat_len_rep {α : Type} (cs : List α) : ∀ n, (List.replicate n cs).flatten.length = n * cs.length := by
  intro n
  induction n with
  | zero => simp
  | succ n ih => rw [List.replicate_succ, List.flatten_cons, List.length_append, ih, Nat.succ_mul]; omega
theorem flat_rep {α : Type} (cs : List α) : ∀ (n j : Nat), j < n * cs.length → (List.replicate n cs).flatten[j]? = cs[j % cs.length]? := by
  intro n
  induction n with
  | zero => intro j hj; omega
  | succ n ih =>
    intro j hj
    rw [List.replicate_succ, List.flatten_cons]
    rcases Nat.lt_or_ge j cs.length with h | h
    · rw [List.getElem?_append_left h, Nat.mod_eq_of_lt h]
    · rw [List.getElem?_append_right h, ih _ (by rw [Nat.succ_mul] at hj; omega), Nat.mod_eq_sub_mod h]
end Go.Proofs.YtacbjbnocepnaaaGreatDoor
namespace Go.Proofs.YtacbjbnocepnaaaGreatDoor
open Go.RowKit Fm
def zcsU : List Value := [.int .i64 0, .bool false, .slice none 0 0, .int .i64 0, .bool false, .slice none 0 0]
def zeroU (n : Nat) : Array Value := madeCells (Value.agg #[.int .i64 0, .bool false, .slice none 0 0, .int .i64 0, .bool false, .slice none 0 0]).cells (n * 6)
theorem zeroU_size (n : Nat) : (zeroU n).size = n * 6 := by simp [zeroU, madeCells, Value.cells]
theorem zeroU_list (n : Nat) : (zeroU n).toList = (List.replicate n zcsU).flatten := by
  have hfl : (List.replicate n zcsU).flatten.length = n * 6 := flat_len_rep zcsU n
  refine List.ext_getElem (by rw [Array.length_toList, zeroU_size, hfl]) fun j h1 h2 => ?_
  have hj : j < n * 6 := by rw [hfl] at h2; exact h2
  have k1 := flat_rep zcsU n j hj
  rw [List.getElem?_eq_getElem h2] at k1
  have hm : j % 6 < 6 := Nat.mod_lt _ (by decide)
  have k2 : zcsU[j % zcsU.length]? = some ((zeroU n).toList[j]) := by
    rw [Array.getElem_toList]
    show zcsU[j % 6]? = _
    simp only [zeroU, madeCells, Value.cells, Array.getElem_map, Array.getElem_range, zcsU]
    have e : (#[Value.int IntKind.i64 0, Value.bool false, Value.slice none 0 0, Value.int IntKind.i64 0, Value.bool false, Value.slice none 0 0] : Array Value).size = 6 := rfl
    match j % 6, hm with
    | 0, _ => simp
    | 1, _ => simp
    | 2, _ => simp
    | 3, _ => simp
    | 4, _ => simp
    | 5, _ => simp
  rw [k2] at k1
  injection k1 with k1
  exact k1.symm
theorem mkRats (n : Nat) (hn : n ≤ 4294967296) (w : World) : (Instr.makeSlice 61 (.int .i64 (n : Int)) (.int .i64 (n : Int))).run Tryz.prog w =
    .ok (.slice (some ⟨w.heap.size, 0, none⟩) n n) (w.alloc (.cells (zeroU n) 50)) := by
  obtain ⟨i0, hi, hz0, hz1, hz2⟩ := info_parts info_rq
  have h := run_make (P := Tryz.prog) w 61 50 i0 _ Tryz.underlying61 hi hz0 .i64 .i64 n n (by omega) (by omega) (by rw [hz2]; omega) (by omega)
  rw [h, hz1]; simp only [Int.toNat_natCast, zeroU]
def eltU : Elt (Option Rat) where
  size := 6
  rel w o cs x := match x with
    | none => cs = zcsU
    | some q => eltQ.rel w o cs q
  pos := by decide
  len := by
    rintro w o cs x h
    cases x with
    | none => subst h; rfl
    | some q => exact eltQ.len h
  one := by
    rintro w o cs x h
    cases x with
    | none => subst h; intro u hu; simp [zcsU] at hu; rcases hu with rfl | rfl | rfl | rfl | rfl | rfl <;> rfl
    | some q => exact eltQ.one h
  nod := by
    rintro w o cs x h
    cases x with
    | none => subst h; intro u hu; exact zrq_nod u (by simpa [zcsU, Value.cells] using hu)
    | some q => exact eltQ.nod h
  up := by
    rintro w w' o cs x h hu
    cases x with
    | none => exact h
    | some q => exact eltQ.up h hu
  grow := by
    rintro w w' o cs x h hg hd
    cases x with
    | none => exact h
    | some q => exact eltQ.grow h hg hd
  move := by
    rintro w o cs x h
    cases x with
    | none => exact h
    | some q => exact eltQ.move h
def okU : Nat → Value → Prop := fun j u => j % 3 ≠ 0 → ∀ x, u ≠ .int .i64 x
theorem okU_elt {s s2 : Int} {b b2 : Bool} {A A2 : Option Addr} {n c n2 c2 : Nat} : ∀ j u, ([.int .i64 s, .bool b, .slice A n c, .int .i64 s2, .bool b2, .slice A2 n2 c2] : List Value)[j]? = some u → okU j u := fun j u e hj x => by
  match j, e, hj with
  | 0, _, hj => exact absurd rfl hj
  | 1, e, _ => simp at e; subst e; intro h; cases h
  | 2, e, _ => simp at e; subst e; intro h; cases h
  | 3, _, hj => exact absurd rfl hj
  | 4, e, _ => simp at e; subst e; intro h; cases h
  | 5, e, _ => simp at e; subst e; intro h; cases h
theorem okU_away {w : World} {g : Nat} (hp : Pat okU 6 w (some g)) {A : Option Addr} {n c m : Nat} (h : Ev w (.slice A n c) m) (hm : 2305843009213693952 ≤ m) : Away A g := by
  intro b' off e e2
  obtain ⟨b2, off2, e3, hb, hc⟩ := ev_ne h (by omega)
  rw [e] at e3
  cases e3
  subst e2
  have hl := digs_len3 hm
  have k0 := hp b' rfl _ _ (hc 0 (by omega))
  have k1 := hp b' rfl _ _ (hc 1 (by omega))
  rcases Nat.decEq ((off + 0) % 6 % 3) 0 with h0 | h0
  · exact k0 h0 _ rfl
  · exact k1 (by omega) _ rfl
theorem RQ.eltU {w : World} {u : Value} {q : Rat} (h : RQ w u q) {g : Nat} (hp : Pat okU 6 w (some g)) : ∃ s b A n c s2 b2 A2 n2 c2, u = .agg #[.int .i64 s, .bool b, .slice A n c, .int .i64 s2, .bool b2, .slice A2 n2 c2] ∧ eltU.rel w (some g) [.int .i64 s, .bool b, .slice A n c, .int .i64 s2, .bool b2, .slice A2 n2 c2] (some q) := by
  obtain ⟨s, s2, b, b2, A, A2, n, c, n2, c2, rfl, h1, h2⟩ := h
  have key : ∀ {s : Int} {b : Bool} {A : Option Addr} {n c : Nat} {z : Int}, RI w (.agg #[.int .i64 s, .bool b, .slice A n c]) z → RIa w (some g) s b A n c z := fun h => by
    obtain ⟨s', b', A', n', c', e, h⟩ := h
    cases e
    rcases h with h | ⟨k1, k2, k3, k4⟩
    · exact .inl h
    · exact .inr ⟨k1, k2, k3, k4, fun k e => by cases e; exact okU_away hp k4 k3⟩
  exact ⟨s, b, A, n, c, s2, b2, A2, n2, c2, rfl, s, b, A, n, c, s2, b2, A2, n2, c2, rfl, key h1, key h2⟩
theorem elts_rep (w : World) (o : Option Nat) : ∀ n, Elts eltU w o (List.replicate n zcsU) (List.replicate n none)
  | 0 => trivial
  | n + 1 => ⟨rfl, elts_rep w o n⟩
theorem OwP.madeU (w : World) (n : Nat) (hn : n ≤ 4294967296) : OwP eltU okU w (w.alloc (.cells (zeroU n) 50)) 50 (.slice (some ⟨w.heap.size, 0, none⟩) n n) (List.replicate n none) := by
  have hh : (w.alloc (.cells (zeroU n) 50)).heap[w.heap.size]? = some (.cells (zeroU n) 50 (0, 0)) := heap_alloc_new w _
  have hfl : (List.replicate n zcsU).flatten.length = n * 6 := (elts_rep w none n).flat_len.trans (by rw [List.length_replicate]; rfl)
  refine ⟨⟨List.replicate n zcsU, elts_rep _ _ n, ⟨by rw [hfl, List.length_replicate]; rfl, .inr ⟨w.heap.size, n, zeroU n, by rw [List.length_replicate], Nat.le_refl _, hh, by rw [List.length_replicate]; exact Nat.le_refl _, by unfold maxLen; omega, by rw [zeroU_size]; rfl, ?_⟩⟩, fun g hg => ?_⟩, fun g hg => ?_⟩
  · rw [List.length_replicate, zeroU_list]
    exact List.take_of_length_le (by rw [hfl]; exact Nat.le_refl _)
  · cases hg
    exact nodig_heap hh (by rw [zeroU_list]; exact (elts_rep w none n).all eltU.nod)
  · cases hg
    refine pat_heap hh ?_
    rw [zeroU_list]
    exact (elts_rep w none n).pat (E := eltU) (fun {cs z} h => by
      cases z with
      | none => subst h; exact okU_elt
      | some q => obtain ⟨s, b, A, n, c, s2, b2, A2, n2, c2, rfl, -⟩ := h; exact okU_elt)
theorem six_of {cs : List Value} (h : cs.length = 6) : ∃ a b c d e f, cs = [a, b, c, d, e, f] := by
  match cs, h with
  | [a, b, c, d, e, f], _ => exact ⟨a, b, c, d, e, f, rfl⟩
theorem OwP.cellsU {w0 w : World} {t : TypeId} {g n c : Nat} {zs : List (Option Rat)} (h : OwP eltU okU w0 w t (.slice (some ⟨g, 0, none⟩) n c) zs) {i : Nat} (hi : i < zs.length) :
    g < w.heap.size ∧ (∀ j, w.frozen? ⟨g, j, none⟩ = false) ∧ ∃ a b c d e f, w.cell? ⟨g, i * 6, none⟩ = some a ∧ w.cell? ⟨g, i * 6 + 1, none⟩ = some b ∧ w.cell? ⟨g, i * 6 + 2, none⟩ = some c ∧ w.cell? ⟨g, i * 6 + 3, none⟩ = some d ∧ w.cell? ⟨g, i * 6 + 4, none⟩ = some e ∧ w.cell? ⟨g, i * 6 + 5, none⟩ = some f := by
  obtain ⟨g1, c1, e, -, -, -, hb, hlt, hf, hc⟩ := h.form (by intro e; subst e; simp at hi)
  injection e with e1 e2 e3
  injection e1 with e1
  injection e1 with e1
  subst e1
  obtain ⟨cs, k1, k2⟩ := hc i hi
  obtain ⟨a, b, c, d, e, f, rfl⟩ := six_of (eltU.len k1)
  exact ⟨hlt, hf, a, b, c, d, e, f, k2 0 _ rfl, k2 1 _ rfl, k2 2 _ rfl, k2 3 _ rfl, k2 4 _ rfl, k2 5 _ rfl⟩
theorem OwP.readU {w0 w : World} {t : TypeId} {g n c : Nat} {qs : List Rat} (h : OwP eltU okU w0 w t (.slice (some ⟨g, 0, none⟩) n c) (qs.map some)) : RdE eltQ w (some ⟨g, 0, none⟩) qs := fun hn => by
  obtain ⟨g1, c1, e, -, -, -, hb, hlt, hf, hc⟩ := h.form (by intro e; exact hn (List.map_eq_nil_iff.1 e))
  injection e with e1 e2 e3
  injection e1 with e1
  injection e1 with e1
  subst e1
  refine ⟨g, 0, rfl, hlt, fun i hi => ?_⟩
  obtain ⟨cs, k1, k2⟩ := hc i (by rw [List.length_map]; exact hi)
  rw [List.getElem_map] at k1
  exact ⟨cs, eltQ_none k1, fun j u e => by rw [Nat.zero_add]; exact k2 j u e⟩
end Go.Proofs.YtacbjbnocepnaaaGreatDoor
namespace Go.Proofs.YtacbjbnocepnaaaGreatDoor
open Go.RowKit Fm
def put6c (w : World) (g o : Nat) (a b c d e f : Value) : World := (((((w.setCell ⟨g, o, none⟩ a).setCell ⟨g, o + 1, none⟩ b).setCell ⟨g, o + 2, none⟩ c).setCell ⟨g, o + 3, none⟩ d).setCell ⟨g, o + 4, none⟩ e).setCell ⟨g, o + 5, none⟩ f
theorem storeL6 (w : World) (g o : Nat) (a b c d e f : Value) : storeL w g o [a, b, c, d, e, f] = put6c w g o a b c d e f := rfl
theorem OwP.storeU {w0 w : World} {t : TypeId} {g n cap : Nat} {zs : List (Option Rat)} (h : OwP eltU okU w0 w t (.slice (some ⟨g, 0, none⟩) n cap) zs) {i : Nat} (hi : i < zs.length) {s : Int} {b : Bool} {A : Option Addr} {m c : Nat} {s2 : Int} {b2 : Bool} {A2 : Option Addr} {n2 c2 : Nat} {z : Option Rat} (hz : eltU.rel w (some g) [.int .i64 s, .bool b, .slice A m c, .int .i64 s2, .bool b2, .slice A2 n2 c2] z) :
    OwP eltU okU w0 (put6c w g (i * 6) (.int .i64 s) (.bool b) (.slice A m c) (.int .i64 s2) (.bool b2) (.slice A2 n2 c2)) t (.slice (some ⟨g, 0, none⟩) n cap) (zs.set i z) := by
  rw [← storeL6]
  exact h.storeG hi hz okU_elt
theorem Up.put6c {w0 w : World} {g : Nat} (h : Up w0 w) (hg : w0.heap.size ≤ g) (o : Nat) (a b c d e f : Value) : Up w0 (put6c w g o a b c d e f) := by
  rw [← storeL6]
  exact Up.storeL _ _ _ _ h hg
def pointR (n : Nat) (ls : List Nat) (L : List (List Int × Int)) : List Rat := (ls.zip L).foldl (fun xs p => xs.set p.1 (ratOf (-(p.2.2)) (p.2.1.getD p.1 0))) (List.replicate n 0)
theorem pointR_next (n : Nat) (ls : List Nat) (L : List (List Int × Int)) (i : Nat) (h1 : i < ls.length) (h2 : i < L.length) : pointR n (ls.take (i + 1)) (L.take (i + 1)) = (pointR n (ls.take i) (L.take i)).set ls[i] (ratOf (-(L[i].2)) (L[i].1.getD ls[i] 0)) := by
  unfold pointR
  rw [List.take_succ_eq_append_getElem h1, List.take_succ_eq_append_getElem h2, List.zip_append (by rw [List.length_take, List.length_take]; omega), List.foldl_append]
  rfl
theorem pointR_length (n : Nat) (ls : List Nat) (L : List (List Int × Int)) : (pointR n ls L).length = n := by
  unfold pointR
  have : ∀ (l : List (Nat × (List Int × Int))) (xs : List Rat), (l.foldl (fun xs p => xs.set p.1 (ratOf (-(p.2.2)) (p.2.1.getD p.1 0))) xs).length = xs.length := by
    intro l
    induction l with
    | nil => intro xs; rfl
    | cons p l ih => intro xs; rw [List.foldl_cons, ih, List.length_set]
  rw [this, List.length_replicate]
set_option maxHeartbeats 4000000 in
set_option maxRecDepth 10000 in
theorem refPoint_any (A : Option Addr) (c n : Nat) (ls : List Nat) (L : List (List Int × Int)) (w : World) (hn : n ≤ 8) (hL8 : L.length ≤ 1000) (hll : ls.length = L.length) (hr : RdE eltW w A L)
    (hL : ∀ i (h1 : i < ls.length) (h2 : i < L.length), L[i].1.length = n ∧ ls[i] < n ∧ (∀ j, j < ls[i] → L[i].1.getD j 0 = 0) ∧ L[i].1.getD ls[i] 0 ≠ 0 ∧ (∀ z, z ∈ L[i].1 → rl z ≤ 1023) ∧ rl L[i].2 ≤ 1023) :
    Calls Tryz.prog 65 #[.int .i64 n, .slice A L.length c] w fun e w' => ∃ g, e = .returned (.slice (some ⟨g, 0, none⟩) n n) ∧ RdE eltQ w' (some ⟨g, 0, none⟩) (pointR n ls L) ∧ Up w w' := by
  have hmk : ∀ W, (Instr.makeSlice 61 (.int .i64 (n : Int)) (.int .i64 (n : Int))).run Tryz.prog W = .ok (.slice (some ⟨W.heap.size, 0, none⟩) n n) (W.alloc (.cells (zeroU n) 50)) := fun W => mkRats n (by omega) W
  have HM := Lib.hid (OwP.madeU w n (by omega))
  have HUM := Lib.hid (Up.alloc w (.cells (zeroU n) 50))
  have HWH := Lib.hid (fun W => refWhole_q 0 W (by decide) (by decide))
  have HLL := Lib.hid hll
  have HLD := Lib.hid hL
  clear hL hll
  go_enter Tryz.func65, Tryz.ntmps65
  go_wp2_with fail
  obtain ⟨g, hg⟩ : ∃ g, g = w.heap.size := ⟨_, rfl⟩
  have HG := Lib.hid (show w.heap.size ≤ g by omega)
  rw [← hg] at HM ⊢
  generalize w.alloc (.cells (zeroU n) 50) = wB at *
  clear hg hmk
  go_loopw [14] (fun i wr => ∃ k : Nat, k ≤ n ∧ i = .int .i64 k ∧ Hid (OwP eltU okU w wr 50 (.slice (some ⟨g, 0, none⟩) n n) (partF (fun _ => some (0 : Rat)) (List.replicate n none) k)) ∧ Hid (Up w wr)) (fun i _ => n - (intOf i).toNat)
  case atStart => exact ⟨0, by omega, rfl, by rw [partF_zero]; exact HM, HUM⟩
  case round =>
    obtain ⟨k, hk, rfl, HO, HU⟩ := hrel
    by_cases hkn : k < n
    · have HST := Lib.hid (partF_set (fun _ => some (0 : Rat)) (List.replicate n none) k (by rw [List.length_replicate]; exact hkn))
      have HPL := Lib.hid (show k < (partF (fun _ => some (0 : Rat)) (List.replicate n none) k).length by rw [partF_length, List.length_replicate]; exact hkn)
      go_wp2_with fail
      refine Calls.mono (HWH.out _) ?_
      rintro e w5 ⟨v, rfl, hv, hu⟩
      have HO5 := Lib.hid (HO.out.up hu)
      have HU5 := Lib.hid (HU.out.trans hu)
      obtain ⟨s, b, B, m, c1, s2, b2, B2, n2, c2, rfl, he⟩ := RQ.eltU hv (g := g) HO5.out.pat
      have hz : ((0 : Int) : Rat) = 0 := rfl
      rw [hz] at he
      have HO9 := Lib.hid (HO5.out.storeU HPL.out he)
      rw [HST.out] at HO9
      have HU9 := Lib.hid (Up.put6c HU5.out HG.out (k * 6) (.int .i64 s) (.bool b) (.slice B m c1) (.int .i64 s2) (.bool b2) (.slice B2 n2 c2))
      obtain ⟨lt5, hfz, X1, X2, X3, X4, X5, X6, e0, e1, e2, e3, e4, e5⟩ := HO5.out.cellsU HPL.out
      have hz0 := hfz (k * 6)
      have hz1 := hfz (k * 6 + 1)
      have hz2 := hfz (k * 6 + 2)
      have hz3 := hfz (k * 6 + 3)
      have hz4 := hfz (k * 6 + 4)
      have hz5 := hfz (k * 6 + 5)
      have i0 : (0 : Int) ≤ (k : Int) := by omega
      have i1 : (k : Int) < (n : Int) := by omega
      clear hu hv he hfz hz HO HU
      go_wp2_with fail
      exact ⟨⟨k + 1, by omega, by simp, HO9, HU9⟩, by simp [intOf]; omega⟩
    · have hke : k = n := by omega
      subst hke
      have HO2 : Hid (OwP eltU okU w wr 50 (.slice (some ⟨g, 0, none⟩) k k) ((pointR k (ls.take 0) (L.take 0)).map some)) := Lib.hid (by
        have h := HO.out
        have e1 : (List.replicate k (none : Option Rat)).length = k := List.length_replicate
        have e2 : partF (fun _ => some (0 : Rat)) (List.replicate k none) k = (pointR k (ls.take 0) (L.take 0)).map some := by
          conv => lhs; rw [← e1]
          rw [e1]
          have := partF_all (fun _ => some (0 : Rat)) (List.replicate k (none : Option Rat))
          rw [e1] at this
          rw [this]
          simp [pointR]
        rw [e2] at h
        exact h)
      generalize wr = wo at *
      go_wp2_with fail
      go_loopw [24] (fun i wr => ∃ j : Nat, j ≤ L.length ∧ i = .int .i64 j ∧ Hid (OwP eltU okU w wr 50 (.slice (some ⟨g, 0, none⟩) k k) ((pointR k (ls.take j) (L.take j)).map some)) ∧ Hid (Up w wr)) (fun i _ => L.length - (intOf i).toNat)
      case atStart => exact ⟨0, by omega, rfl, HO2, HU⟩
      case round =>
        obtain ⟨j, hj, rfl, HP, HV⟩ := hrel
        by_cases hjl : j < L.length
        · have hjs : j < ls.length := by have := HLL.out; omega
          obtain ⟨h1, h2, h3, h4, h5, h6⟩ := HLD.out j hjs hjl
          have HNX := Lib.hid (pointR_next k ls L j hjs hjl)
          obtain ⟨b9, off, cs, rfl, hbb, hrel1, hcell⟩ := (hr.up HV.out).at_ hjl
          obtain ⟨E1, d1, s1, b1, E2, n2, d2, rfl, -⟩ := id hrel1
          obtain ⟨-, p1, p2⟩ := eltW_parts hrel1
          have e0 := hcell 0 _ rfl
          have e1 := hcell 1 _ rfl
          have e2 := hcell 2 _ rfl
          have e3 := hcell 3 _ rfl
          simp only [eltW, Nat.add_zero] at e0 e1 e2 e3
          have hvl : ls[j] < L[j].1.length := by omega
          obtain ⟨b8, off2, ds, rfl, hbb2, ⟨t1, q1', D1, m1, j1, rfl, hz⟩, hcell2⟩ := p1.at_ hvl
          have f0 := hcell2 0 _ rfl
          have f1 := hcell2 1 _ rfl
          have f2 := hcell2 2 _ rfl
          simp only [eltR, Nat.add_zero] at f0 f1 f2
          have hgd : L[j].1.getD ls[j] 0 = L[j].1[ls[j]] := by rw [List.getD_eq_getElem?_getD, List.getElem?_eq_getElem hvl]; rfl
          have HL1 := Lib.hid (fun W (hu : Up wr W) => refLead_any (some ⟨b8, off2, none⟩) E2 d1 d2 n2 ls[j] s1 b1 L[j].1 W (by omega) (p1.up hu) hvl h3 h4)
          have HMI := Lib.hid (fun W (hu : Up wr W) => refMinus_any _ L[j].2 W (p2.up hu))
          rw [hgd] at h4 HNX
          have hr1 := h5 _ (List.getElem_mem hvl)
          have HMK := Lib.hid (fun W u (h : RI W u (-(L[j].2))) (hu : Up wr W) => refMake_q u _ _ _ W h (hz.ri.up hu) h4 (by rw [rl_neg]; omega) (by omega))
          have HPL := Lib.hid (show ls[j] < ((pointR k (ls.take j) (L.take j)).map some).length by rw [List.length_map, pointR_length]; exact h2)
          have HMS := Lib.hid (fun x : Rat => (List.map_set (f := some) (l := pointR k (ls.take j) (L.take j)) (i := ls[j]) (a := x)))
          have HUB := Lib.hid (Up.alloc wr (.cells #[.slice (some ⟨b8, off2, none⟩) L[j].1.length d1, .int .i64 s1, .bool b1, .slice E2 n2 d2] 59))
          have HCB := Lib.hid (CellQ.new wr (.slice (some ⟨b8, off2, none⟩) L[j].1.length d1) (.slice E2 n2 d2) s1 b1)
          have hjb : j ≤ 1000 := by omega
          rw [h1] at e0 HL1 HUB HCB
          clear hcell hcell2 hrel1 p1 p2 hz hgd h1 h3 h5 h6 hr1 h4
          generalize L[j].1[ls[j]] = y at *
          generalize L[j].2 = x at *
          generalize hv : ls[j] = v at *
          clear hv hjs hvl
          go_wp2_with fail
          refine Calls.mono (HL1.out _ HUB.out) ?_
          rintro e w5 ⟨rfl, hu⟩
          have HU5 := Lib.hid (HUB.out.trans hu)
          have HCB5 := Lib.hid (HCB.out.up hu)
          have HFF := Lib.hid (And.intro ((HU5.out.cells.1 _ _ hbb2).trans f0) (And.intro ((HU5.out.cells.1 _ _ hbb2).trans f1) ((HU5.out.cells.1 _ _ hbb2).trans f2)))
          have HB2 := Lib.hid (Nat.lt_of_lt_of_le hbb2 HU5.out.size)
          have HP5 := Lib.hid (HP.out.up HU5.out)
          have HV5 := Lib.hid (HV.out.trans HU5.out)
          obtain ⟨gb, hgb⟩ : ∃ gb, gb = wr.heap.size := ⟨_, rfl⟩
          rw [← hgb] at HCB5 ⊢
          clear hu hgb e0 e1 e2 e3 f0 f1 f2 hbb hbb2 HL1 HCB
          obtain ⟨q0, q1, q2, q3, -, lq⟩ := HCB5.out.facts
          obtain ⟨f0, f1, f2⟩ := HFF.out
          have lf := HB2.out
          have i0 : (0 : Int) ≤ (v : Int) := by omega
          have i1 : (v : Int) < (k : Int) := by omega
          go_upto_region 11 with fail
          go_region_with
            ((first
              | (go_at_call 105
                 refine Calls.mono (HMI.out _ (HU5.out.trans (by (repeat (first | exact Below.refl _ _ | exact Hid.out (by assumption) | refine Up.trans ?_ (Up.drew _) | refine Up.trans ?_ (Up.drewN _ _) | refine Up.trans ?_ (Up.alloc _ _) | refine Up.trans ?_ (Hid.out (by assumption))))))) ?_
                 rintro e w6 ⟨u6, rfl, hv6, hu⟩
                 obtain ⟨s6, b6, A6, n6, c6, rfl, -⟩ := hv6.open_
                 have HU6 := Lib.hid hu
                 have HV6 := Lib.hid hv6
                 obtain ⟨q0, q1, q2, q3, -, lq⟩ := (HCB5.out.up (w' := w6) (by (repeat (first | exact Below.refl _ _ | exact Hid.out (by assumption) | refine Up.trans ?_ (Up.drew _) | refine Up.trans ?_ (Up.drewN _ _) | refine Up.trans ?_ (Up.alloc _ _) | refine Up.trans ?_ (Hid.out (by assumption)))))).facts
                 have HU56 := show Up w5 w6 by (repeat (first | exact Below.refl _ _ | exact Hid.out (by assumption) | refine Up.trans ?_ (Up.drew _) | refine Up.trans ?_ (Up.drewN _ _) | refine Up.trans ?_ (Up.alloc _ _) | refine Up.trans ?_ (Hid.out (by assumption))))
                 have f0 := (HU56.cells.1 _ _ HB2.out).trans HFF.out.1
                 have f1 := (HU56.cells.1 _ _ HB2.out).trans HFF.out.2.1
                 have f2 := (HU56.cells.1 _ _ HB2.out).trans HFF.out.2.2
                 clear hu hv6 HU56)
              | (go_at_call 70
                 refine Calls.mono (HMK.out _ _ (HV6.out.up (by (repeat (first | exact Below.refl _ _ | exact Hid.out (by assumption) | refine Up.trans ?_ (Up.drew _) | refine Up.trans ?_ (Up.drewN _ _) | refine Up.trans ?_ (Up.alloc _ _) | refine Up.trans ?_ (Hid.out (by assumption)))))) (HU5.out.trans (by (repeat (first | exact Below.refl _ _ | exact Hid.out (by assumption) | refine Up.trans ?_ (Up.drew _) | refine Up.trans ?_ (Up.drewN _ _) | refine Up.trans ?_ (Up.alloc _ _) | refine Up.trans ?_ (Hid.out (by assumption))))))) ?_
                 rintro e w7 ⟨u7, rfl, hv7, hu⟩
                 have HU7 := Lib.hid hu
                 have HP7 := Lib.hid (HP5.out.up (w' := w7) (by (repeat (first | exact Below.refl _ _ | exact Hid.out (by assumption) | refine Up.trans ?_ (Up.drew _) | refine Up.trans ?_ (Up.drewN _ _) | refine Up.trans ?_ (Up.alloc _ _) | refine Up.trans ?_ (Hid.out (by assumption))))))
                 obtain ⟨s7, b7, A7, n7, c7, s8, b8', A8, n8, c8, rfl, he⟩ := RQ.eltU hv7 (g := g) HP7.out.pat
                 have HE7 := Lib.hid he
                 obtain ⟨lt7, hfz, X1, X2, X3, X4, X5, X6, x0, x1, x2, x3, x4, x5⟩ := HP7.out.cellsU HPL.out
                 have z0 := hfz (v * 6)
                 have z1 := hfz (v * 6 + 1)
                 have z2 := hfz (v * 6 + 2)
                 have z3 := hfz (v * 6 + 3)
                 have z4 := hfz (v * 6 + 4)
                 have z5 := hfz (v * 6 + 5)
                 clear hu hv7 he hfz)))
          all_goals
            have HP9 := Lib.hid (HP7.out.storeU HPL.out HE7.out)
            rw [← HMS.out, ← HNX.out] at HP9
            have HU9 := Lib.hid (Up.put6c (show Up w w7 from HV5.out.trans (by (repeat (first | exact Below.refl _ _ | exact Hid.out (by assumption) | refine Up.trans ?_ (Up.drew _) | refine Up.trans ?_ (Up.drewN _ _) | refine Up.trans ?_ (Up.alloc _ _) | refine Up.trans ?_ (Hid.out (by assumption)))))) HG.out (v * 6) (.int .i64 s7) (.bool b7) (.slice A7 n7 c7) (.int .i64 s8) (.bool b8') (.slice A8 n8 c8))
            clear x0 x1 x2 x3 x4 x5 z0 z1 z2 z3 z4 z5 lt7 q0 q1 q2 q3 lq f0 f1 f2
            go_wp2
            exact ⟨⟨j + 1, by omega, by simp, HP9, HU9⟩, by simp [intOf]; omega⟩
        · have hje : j = L.length := by omega
          subst hje
          have HE : Hid (RdE eltQ wr (some ⟨g, 0, none⟩) (pointR k ls L)) := Lib.hid (by
            have h := HP.out.readU
            rwa [List.take_of_length_le (Nat.le_refl _), List.take_of_length_le (by rw [HLL.out]; exact Nat.le_refl _)] at h)
          go_wp2
          go_ret
          exact ⟨g, rfl, HE.out, HV.out⟩
end Go.Proofs.YtacbjbnocepnaaaGreatDoor
namespace Go.Proofs.YtacbjbnocepnaaaGreatDoor
open Go.RowKit Fm
def NumsRes (w' : World) (qs : List Rat) (e : Ending) : Prop :=
  ∃ v er, e = .returned (.tuple #[v, .int .i64 er]) ∧ if qs.all fits = true then (∃ A c, v = .slice A qs.length c ∧ qs.length ≤ c ∧ c ≤ maxLen ∧ RdN w' A (qs.map fun q => (q.num, (q.den : Int)))) ∧ er = 0 else v = .slice none 0 0 ∧ er = 3
theorem eltN_none {w : World} {o : Option Nat} {cs : List Value} {z : Int × Int} (h : eltN.rel w o cs z) : eltN.rel w none cs z := h
set_option maxHeartbeats 4000000 in
set_option maxRecDepth 10000 in
theorem refNums_any (A : Option Addr) (c : Nat) (qs : List Rat) (w : World) (hn : qs.length ≤ 1000000) (hr : RdE eltQ w A qs) :
    Calls Tryz.prog 64 #[.slice A qs.length c] w fun e w' => NumsRes w' qs e ∧ Up w w' := by
  go_enter Tryz.func64, Tryz.ntmps64
  go_wp2
  go_loopw [4, 11] (fun v i wr => ∃ k : Nat, k ≤ qs.length ∧ i = .int .i64 k ∧ Hid ((qs.take k).all fits = true) ∧ Hid (OwE eltN w wr 55 v ((qs.take k).map fun q => (q.num, (q.den : Int)))) ∧ Hid (Up w wr)) (fun _ i _ => qs.length - (intOf i).toNat)
  case atStart => exact ⟨0, by omega, rfl, Lib.hid rfl, Lib.hid (OwE.nil _ _ _ _), Lib.hid (Up.refl _)⟩
  case round =>
    obtain ⟨i, hi, rfl, HK, HOW, HU⟩ := hrel
    by_cases hil : i < qs.length
    · obtain ⟨b9, off, cs, rfl, hbb, hrel1, hcell⟩ := (hr.up HU.out).at_ hil
      obtain ⟨s1, b1, A1, n1, c1, s2, b2, A2, n2, c2, rfl, -⟩ := id hrel1
      have HRQ := Lib.hid (eltQ_rq hrel1)
      have e0 := hcell 0 _ rfl
      have e1 := hcell 1 _ rfl
      have e2 := hcell 2 _ rfl
      have e3 := hcell 3 _ rfl
      have e4 := hcell 4 _ rfl
      have e5 := hcell 5 _ rfl
      simp only [eltQ, Nat.add_zero] at e0 e1 e2 e3 e4 e5
      have HNEXT : Hid ((qs.take (i + 1)).map (fun q => (q.num, (q.den : Int))) = (qs.take i).map (fun q => (q.num, (q.den : Int))) ++ [(qs[i].num, (qs[i].den : Int))]) := Lib.hid (by rw [List.take_succ_eq_append_getElem hil, List.map_append]; rfl)
      have HKN : Hid ((qs.take (i + 1)).all fits = fits qs[i]) := Lib.hid (by
        rw [List.take_succ_eq_append_getElem hil, List.all_append, HK.out]; simp)
      have HFALSE : Hid (fits qs[i] = false → ¬ qs.all fits = true) := Lib.hid (fun h => by
        rw [Bool.not_eq_true, List.all_eq_false]
        exact ⟨qs[i], List.getElem_mem hil, by rw [h]; simp⟩)
      have HLEN : Hid (((qs.take i).map (fun q => (q.num, (q.den : Int)))).length ≤ 1000000000) := Lib.hid (by rw [List.length_map, List.length_take]; omega)
      have HFR := Lib.hid (fun W (hu : Up wr W) => refFrom_any _ _ _ W (HRQ.out.up hu))
      rw [smallOk_fits] at HFR
      clear hcell hrel1
      generalize qs[i] = q at *
      have HUB := Lib.hid (Up.alloc wr (.cells #[.int .i64 s1, .bool b1, .slice A1 n1 c1, .int .i64 s2, .bool b2, .slice A2 n2 c2] 50))
      rcases hall : fits q with _ | _
      · have HF := Lib.hid (HFALSE.out hall)
        rw [hall] at HFR
        simp only [Bool.false_eq_true, if_false] at HFR
        clear hall HKN HFALSE
        go_wp2_with fail
        refine Calls.mono (HFR.out _ HUB.out) ?_
        rintro e w6 ⟨rfl, hu⟩
        have HU6 := Lib.hid hu
        clear hu hbb
        go_wp2
        refine bodyPost_ret (by simp [results, Tryz.results64, go_sem]; try rfl) rfl ?_
        exact ⟨⟨_, _, rfl, by rw [if_neg HF.out]; exact ⟨rfl, rfl⟩⟩, by (repeat (first | exact Below.refl _ _ | exact Hid.out (by assumption) | refine Up.trans ?_ (Up.drew _) | refine Up.trans ?_ (Up.drewN _ _) | refine Up.trans ?_ (Up.alloc _ _) | refine Up.trans ?_ (Hid.out (by assumption))))⟩
      · rw [hall] at HFR HKN
        simp only [if_true] at HFR
        clear hall HFALSE
        go_wp2_with fail
        refine Calls.mono (HFR.out _ HUB.out) ?_
        rintro e w6 ⟨rfl, hu⟩
        have HU6 := Lib.hid hu
        clear hu hbb
        have HUY := Lib.hid (Up.alloc w6 (.cells #[.int .i64 q.num, .int .i64 q.den] 55))
        go_wp2_with (at_builtin; refine wpList_pushE eltN w rfl (.tmp 22) (.tmp 24) 23 55 rfl _ 16 Tryz.underlying23 info_numz rfl znum_nod (by decide) _ _ rfl (HOW.out.up ((HUB.out.trans HU6.out).trans (HUY.out.trans (Up.alloc _ _)))) (by (repeat (first | exact Below.refl _ _ | exact Hid.out (by assumption) | refine Up.trans ?_ (Up.drew _) | refine Up.trans ?_ (Up.drewN _ _) | refine Up.trans ?_ (Up.alloc _ _) | refine Up.trans ?_ (Hid.out (by assumption))))) ⟨w6.heap.size + 1, 0, none⟩ rfl [.int .i64 q.num, .int .i64 q.den] (q.num, (q.den : Int)) (new_cellsE (w6.alloc (.cells #[.int .i64 q.num, .int .i64 q.den] 55)) [.int .i64 q.num, .int .i64 q.den] _ _ (size_alloc _ _).symm) rfl HLEN.out ?_; intro v' w' hown' hup')
        exact ⟨⟨i + 1, by omega, by simp, HKN, by rw [HNEXT.out]; exact Lib.hid hown', Lib.hid hup'⟩, by simp [intOf]; omega⟩
    · have hie : i = qs.length := by omega
      subst hie
      rw [List.take_length] at HOW HK
      obtain ⟨A6, c6, hv6, k1, k2, k3, k4⟩ := HOW.out.read eltN_none
      rw [List.length_map] at hv6 k1
      have HR := Lib.hid (And.intro k1 (And.intro k2 (And.intro k3.n k4)))
      rw [hv6]
      clear hv6 k1 k2 k3 k4
      go_wp2
      refine bodyPost_ret (by simp [results, Tryz.results64, go_sem]; try rfl) rfl ?_
      exact ⟨⟨_, _, rfl, by rw [if_pos HK.out]; exact ⟨⟨A6, c6, rfl, HR.out.1, HR.out.2.1, HR.out.2.2.1⟩, rfl⟩⟩, by (repeat (first | exact Below.refl _ _ | exact Hid.out (by assumption) | refine Up.trans ?_ (Up.drew _) | refine Up.trans ?_ (Up.drewN _ _) | refine Up.trans ?_ (Up.alloc _ _) | refine Up.trans ?_ (Hid.out (by assumption))))⟩
end Go.Proofs.YtacbjbnocepnaaaGreatDoor
namespace Go.Proofs.YtacbjbnocepnaaaGreatDoor
open Go.RowKit Fm
def bareF (f : List Int × Int) : List Int × Int := (f.1, 0)
set_option maxHeartbeats 2000000 in
set_option maxRecDepth 10000 in
theorem refBare_any (A : Option Addr) (c : Nat) (fs : List (List Int × Int)) (w : World) (hn : fs.length ≤ 1000000) (hr : RdE eltW w A fs) :
    Calls Tryz.prog 66 #[.slice A fs.length c] w fun e w' => ∃ A' c', e = .returned (.slice A' (fs.map bareF).length c') ∧ RdE eltW w' A' (fs.map bareF) ∧ Up w w' := by
  go_enter Tryz.func66, Tryz.ntmps66
  go_wp2
  go_loopw [3, 8] (fun v i wr => ∃ k : Nat, k ≤ fs.length ∧ i = .int .i64 k ∧ Hid (OwE eltW w wr 59 v ((fs.take k).map bareF)) ∧ Hid (∀ g, Value.ownBlock v = some g → w.heap.size ≤ g) ∧ Hid (Up w wr)) (fun _ i _ => fs.length - (intOf i).toNat)
  case atStart => exact ⟨0, by omega, rfl, Lib.hid (OwE.nil _ _ _ _), Lib.hid (fun g e => by cases e), Lib.hid (Up.refl _)⟩
  case round =>
    obtain ⟨k, hkk, rfl, HOW, HOB, HU⟩ := hrel
    by_cases hkl : k < fs.length
    · obtain ⟨b9, off, cs, rfl, hbb, hrel1, hcell⟩ := hr.at_ hkl
      obtain ⟨A5, c5, s5, b5, A6, n6, c6, rfl, -⟩ := id hrel1
      have hup := HU.out.cells.1
      have e0 := (hup _ _ hbb).trans (hcell 0 _ rfl)
      have e1 := (hup _ _ hbb).trans (hcell 1 _ rfl)
      have e2 := (hup _ _ hbb).trans (hcell 2 _ rfl)
      have e3 := (hup _ _ hbb).trans (hcell 3 _ rfl)
      have hbw : b9 < wr.heap.size := Nat.lt_of_lt_of_le hbb HU.out.size
      simp only [eltW, Nat.add_zero] at e0 e1 e2 e3
      have HNEXT : Hid ((fs.take (k + 1)).map bareF = (fs.take k).map bareF ++ [bareF fs[k]]) := Lib.hid (by rw [List.take_succ_eq_append_getElem hkl, List.map_append]; rfl)
      have HLEN : Hid (((fs.take k).map bareF).length ≤ 1000000000) := Lib.hid (by rw [List.length_map, List.length_take]; omega)
      have HREL := Lib.hid (fun W (hu : Up w W) => show eltW.rel W (Value.ownBlock u3) [.slice A5 fs[k].1.length c5, .int .i64 0, .bool false, .slice none 0 0] (bareF fs[k]) from by
        have key : ∀ o, eltW.rel w o [.slice A5 fs[k].1.length c5, .int .i64 s5, .bool b5, .slice A6 n6 c6] fs[k] → eltW.rel w o [.slice A5 fs[k].1.length c5, .int .i64 0, .bool false, .slice none 0 0] (bareF fs[k]) := fun o h => by
          obtain ⟨A', c', s', b', A2', n2', c2', e, h1, h2, h3, h4⟩ := h
          cases e
          exact ⟨A5, c5, 0, false, none, 0, 0, rfl, h1, h2, h3, .inl ⟨rfl, rfl, by simp [bareF]⟩⟩
        refine eltW.up ?_ hu
        rcases hv : Value.ownBlock u3 with _ | g
        · exact key _ hrel1
        · exact key _ (eltW.ahead hrel1 (HOB.out g hv)))
      clear hcell hrel1 hup hbb
      generalize fs[k] = f at *
      generalize f.1.length = zl at *
      have HUY := Lib.hid (Up.alloc wr (.cells #[.slice A5 zl c5, .int .i64 s5, .bool b5, .slice A6 n6 c6] 59))
      go_wp2_with (at_builtin; refine wpList_pushQ eltW w rfl (.tmp 12) (.tmp 16) 82 59 rfl _ 64 Tryz.underlying82 info_rw rfl zrw_nod (by decide) _ ((fs.take k).map bareF) rfl (HOW.out.up (HUY.out.trans (Up.alloc _ _))) (HU.out.trans (HUY.out.trans (Up.alloc _ _))) ⟨wr.heap.size + 1, 0, none⟩ rfl [.slice A5 zl c5, .int .i64 0, .bool false, .slice none 0 0] (bareF f) (new_cellsE (wr.alloc (.cells #[.slice A5 zl c5, .int .i64 s5, .bool b5, .slice A6 n6 c6] 59)) [.slice A5 zl c5, .int .i64 0, .bool false, .slice none 0 0] _ _ (size_alloc _ _).symm) (HREL.out _ (HU.out.trans (HUY.out.trans (Up.alloc _ _)))) HLEN.out ?_; intro v' w' hown' hup')
      have HOB' := Lib.hid (fun g (hg : Value.ownBlock v' = some g) => (show w.heap.size ≤ g from by
        obtain ⟨css, -, h2, -⟩ := id hown'
        exact (h2.lt g hg).1))
      exact ⟨⟨k + 1, by omega, by simp, by rw [HNEXT.out]; exact Lib.hid hown', HOB', Lib.hid hup'⟩, by simp [intOf]; omega⟩
    · have hke : k = fs.length := by omega
      subst hke
      rw [List.take_of_length_le (Nat.le_refl _)] at HOW
      obtain ⟨A5, c5, hv5, -, -, h3, -⟩ := HOW.out.read eltW_none
      have H3 := Lib.hid h3
      rw [hv5]
      clear h3 hv5
      go_wp2
      go_ret
      exact ⟨A5, c5, rfl, H3.out, HU.out⟩
end Go.Proofs.YtacbjbnocepnaaaGreatDoor
namespace Go.Proofs.YtacbjbnocepnaaaGreatDoor
open Fm
theorem leadR_lt {n : Nat} {S : Sys} {c : Nat} (h : c ∈ leadR n S) : c < n ∧ (S.getD c none).isSome = true := by
  unfold leadR at h
  simpa using h
def solR (n : Nat) (S : Sys) (ls : List Nat) : List Rat := ls.foldl (fun xs c => xs.set c (solQ n S c)) (List.replicate n 0)
theorem point_sol (n : Nat) (S : Sys) : pointR n (leadR n S) ((rowsR n S).map (toF n)) = solR n S (leadR n S) := by
  unfold pointR solR rowsR
  rw [List.map_map]
  have key : ∀ (ls : List Nat) (xs : List Rat), (∀ c, c ∈ ls → c < n ∧ (S.getD c none).isSome = true) → (ls.zip (ls.map (toF n ∘ fun c => (S.getD c none).getD []))).foldl (fun xs p => xs.set p.1 (ratOf (-(p.2.2)) (p.2.1.getD p.1 0))) xs = ls.foldl (fun xs c => xs.set c (solQ n S c)) xs := by
    intro ls
    induction ls with
    | nil => intro xs _; rfl
    | cons c ls ih =>
      intro xs h
      rw [List.map_cons, List.zip_cons_cons, List.foldl_cons, List.foldl_cons, ih _ (fun d hd => h d (by simp [hd]))]
      obtain ⟨hc, hs⟩ := h c (by simp)
      have e : ratOf (-((toF n ∘ fun c => (S.getD c none).getD []) c).2) (((toF n ∘ fun c => (S.getD c none).getD []) c).1.getD c 0) = solQ n S c := by
        unfold solQ ratOf toF
        simp only [Function.comp]
        congr 1
        rw [List.getD_eq_getElem?_getD, List.getElem?_take, if_pos hc, ← List.getD_eq_getElem?_getD]
      simp only at e ⊢
      rw [e]
  exact key _ _ fun c hc => leadR_lt hc
theorem echF_get {n : Nat} {fs : List (List Int × Int)} {i : Nat} (h : i < (echF n fs).length) (h1 : i < (leadR n (sysR n (fs.map rowF))).length) : (echF n fs)[i] = toF n (((sysR n (fs.map rowF)).getD (leadR n (sysR n (fs.map rowF)))[i] none).getD []) := by
  have e : (echF n fs)[i]? = some (toF n (((sysR n (fs.map rowF)).getD (leadR n (sysR n (fs.map rowF)))[i] none).getD [])) := by
    unfold echF rowsR
    rw [List.getElem?_map, List.getElem?_map, List.getElem?_eq_getElem h1]
    rfl
  rw [List.getElem?_eq_getElem h] at e
  injection e
theorem solR_map (n : Nat) (S : Sys) (ls : List Nat) : (solR n S ls).map (fun q => (q.num, (q.den : Int))) = solAt n S ls := by
  unfold solR solAt
  have key : ∀ (ls : List Nat) (xs : List Rat), (ls.foldl (fun xs c => xs.set c (solQ n S c)) xs).map (fun q => (q.num, (q.den : Int))) = ls.foldl (fun xs c => xs.set c (solN n S c)) (xs.map (fun q => (q.num, (q.den : Int)))) := by
    intro ls
    induction ls with
    | nil => intro xs; rfl
    | cons c ls ih => intro xs; rw [List.foldl_cons, List.foldl_cons, ih, List.map_set]; rfl
  rw [key, List.map_replicate]
  rfl
theorem solR_get (n : Nat) (S : Sys) : ∀ (l : List Nat) (xs : List Rat) (i : Nat), i < xs.length → (l.foldl (fun xs c => xs.set c (solQ n S c)) xs).getD i 0 = if i ∈ l then solQ n S i else xs.getD i 0 := by
  intro l
  induction l with
  | nil => intro xs i _; simp
  | cons c l ih =>
    intro xs i hi
    rw [List.foldl_cons, ih _ i (by simpa using hi)]
    by_cases h1 : i ∈ l
    · rw [if_pos h1, if_pos (by simp [h1])]
    · rw [if_neg h1]
      by_cases h2 : i = c
      · subst h2
        rw [if_pos (by simp), List.getD_eq_getElem?_getD, List.getElem?_set_self hi]; rfl
      · rw [if_neg (by simp [h1, h2]), List.getD_eq_getElem?_getD, List.getElem?_set_ne (Ne.symm h2), List.getD_eq_getElem?_getD]
theorem solR_length (n : Nat) (S : Sys) (ls : List Nat) : (solR n S ls).length = n := by
  have := congrArg List.length (solR_map n S ls)
  rw [List.length_map, solAt_length] at this
  exact this
theorem solR_fits (n : Nat) (S : Sys) : (solR n S (leadR n S)).all fits = (leadR n S).all (fun c => fits (solQ n S c)) := by
  have hl := solR_length n S (leadR n S)
  have hg : ∀ i (hi : i < n), (solR n S (leadR n S))[i]'(by omega) = if i ∈ leadR n S then solQ n S i else 0 := fun i hi => by
    have h1 := solR_get n S (leadR n S) (List.replicate n 0) i (by simpa using hi)
    have h2 : (solR n S (leadR n S)).getD i 0 = (solR n S (leadR n S))[i]'(by omega) := by
      rw [List.getD_eq_getElem?_getD, List.getElem?_eq_getElem (by omega)]; rfl
    rw [← h2]
    unfold solR
    rw [h1, List.getD_eq_getElem?_getD, List.getElem?_replicate, if_pos hi]
    rfl
  rw [Bool.eq_iff_iff, List.all_eq_true, List.all_eq_true]
  constructor
  · intro h c hc
    have h1 := hg c (leadR_lt hc).1
    rw [if_pos hc] at h1
    rw [← h1]
    exact h _ (List.getElem_mem _)
  · intro h q hq
    obtain ⟨i, hi, rfl⟩ := List.mem_iff_getElem.1 hq
    rw [hg i (by omega)]
    split
    · rename_i hm; exact h i hm
    · rfl
def echO (n : Int) (fs : List (List Int × Int)) : List (List Int × Int) × Bool × Int :=
  if validFs n fs = true then
    if ((sysR n.toNat (fs.map rowF)).getD n.toNat none).isNone = true then
      if (rowsR n.toNat (sysR n.toNat (fs.map rowF))).all (fun r => r.all limI) = true then (echF n.toNat fs, true, 0) else ([], false, 3)
    else ([], false, 0)
  else ([], false, 1)
def solO (n : Int) (fs : List (List Int × Int)) : List (Int × Int) × Bool × Int :=
  if validFs n fs = true then
    if ((sysR n.toNat (fs.map rowF)).getD n.toNat none).isNone = true then
      if (leadR n.toNat (sysR n.toNat (fs.map rowF))).all (fun c => fits (solQ n.toNat (sysR n.toNat (fs.map rowF)) c)) = true then (solF n.toNat fs, true, 0) else ([], false, 3)
    else ([], false, 0)
  else ([], false, 1)
def rankO (n : Int) (fs : List (List Int × Int)) : Int × Int :=
  if validFs n fs = true then (((leadR n.toNat (sysR n.toNat (fs.map rowF))).length : Int), 0) else (0, 1)
theorem ech_lim {n : Nat} {S : Sys} (h : Ech n S) : ((rowsR n S).map (toF n)).all (fun f => f.1.all limI && limI f.2) = (rowsR n S).all (fun r => r.all limI) := by
  rw [List.all_map]
  have : ∀ r, r ∈ rowsR n S → ((fun f : List Int × Int => f.1.all limI && limI f.2) ∘ toF n) r = r.all limI := fun r hr => by
    have hl := rows_len h r hr
    have e := rowF_parts r n hl
    simp only [Function.comp, toF]
    conv => rhs; rw [← e]
    unfold rowF
    rw [List.all_append]
    simp
  rw [Bool.eq_iff_iff, List.all_eq_true, List.all_eq_true]
  exact ⟨fun k r hr => by rw [← this r hr]; exact k r hr, fun k r hr => by rw [this r hr]; exact k r hr⟩
theorem bare_rows {n : Nat} {fs : List (List Int × Int)} (h : ∀ f, f ∈ fs → f.1.length = n) : (fs.map bareF).map rowF = (fs.map rowF).map (bareR n) := by
  rw [List.map_map, List.map_map]
  apply List.map_congr_left
  intro f hf
  have := h f hf
  simp only [Function.comp, bareF, bareR, rowF]
  rw [List.take_left' this]
theorem rows_bare {n : Nat} {fs : List (List Int × Int)} (h : RowsOk n 0 3 (fs, [])) : RowsOk n 0 3 (fs.map bareF, []) := by
  refine ⟨fun r hr => ?_, fun r hr => by cases hr⟩
  obtain ⟨f, h1, rfl⟩ := List.mem_map.1 hr
  obtain ⟨k1, k2, k3⟩ := h.one f h1
  have k4 := rowF_rl.1 k3
  have h0 : rl 0 ≤ 3 := rl_int (z := 0) (by omega) (by omega)
  refine ⟨k1, k2, rowF_rl.2 ⟨k4.1, ?_⟩⟩
  unfold bareF
  exact h0
theorem rank_bare {n : Nat} (hn : n ≤ 8) {fs : List (List Int × Int)} (h : ∀ f, f ∈ fs → f.1.length = n) : (solL n (fs.map bareF)).length = (leadR n (sysR n (fs.map rowF))).length := by
  have hl : ∀ r, r ∈ fs.map rowF → r.length = n + 1 := fun r hr => by
    obtain ⟨f, h1, rfl⟩ := List.mem_map.1 hr
    simp [rowF, h f h1]
  unfold solL
  rw [bare_rows h, bare_last (by omega) hl]
  simp only [Option.isNone_none, if_true]
  unfold echF
  rw [List.length_map, bare_rows h]
  unfold rowsR
  rw [List.length_map, lead_bare (by omega) hl]
end Go.Proofs.YtacbjbnocepnaaaGreatDoor
namespace Go.Proofs.YtacbjbnocepnaaaGreatDoor
open Go.RowKit Fm
set_option maxHeartbeats 1000000 in
set_option maxRecDepth 10000 in
theorem linRank_bad (A : Option Addr) (c : Nat) (n : Int) (fs : List (List Int × Int)) (w : World) (hc : fs.length ≤ 9223372036854775807) (hr : RdE eltForm w A fs) (hv : validFs n fs = false) :
    Calls Tryz.prog 17 #[.int .i64 n, .slice A fs.length c] w fun e w' => e = .returned (.tuple #[.int .i64 0, .int .i64 1]) ∧ Up w w' := by
  have HV := Lib.hid (fun W (hu : Up w W) => validForms_any A c n fs W hc (hr.up hu))
  rw [hv] at HV
  clear hr hv hc
  go_enter Tryz.func17, Tryz.ntmps17
  go_wp2_with fail
  refine Calls.mono (HV.out _ (by (repeat (first | exact Below.refl _ _ | exact Hid.out (by assumption) | refine Up.trans ?_ (Up.drew _) | refine Up.trans ?_ (Up.drewN _ _) | refine Up.trans ?_ (Up.alloc _ _) | refine Up.trans ?_ (Hid.out (by assumption)))))) ?_
  rintro e w1 ⟨rfl, hu⟩
  have HU1 := Lib.hid hu
  clear hu
  go_wp2
  refine bodyPost_ret (by simp [results, Tryz.results17, go_sem]; try rfl) rfl ?_
  exact ⟨rfl, by (repeat (first | exact Below.refl _ _ | exact Hid.out (by assumption) | refine Up.trans ?_ (Up.drew _) | refine Up.trans ?_ (Up.drewN _ _) | refine Up.trans ?_ (Up.alloc _ _) | refine Up.trans ?_ (Hid.out (by assumption))))⟩
set_option maxHeartbeats 2000000 in
set_option maxRecDepth 10000 in
theorem linRank_ok (A : Option Addr) (c n : Nat) (fs : List (List Int × Int)) (w : World) (hc : fs.length ≤ 9223372036854775807) (hr : RdE eltForm w A fs) (hv : validFs n fs = true) (ht : Tab w) :
    Calls Tryz.prog 17 #[.int .i64 n, .slice A fs.length c] w fun e w' => e = .returned (.tuple #[.int .i64 (leadR n (sysR n (fs.map rowF))).length, .int .i64 0]) ∧ Up w w' := by
  obtain ⟨-, hn8, h120, hall⟩ := validFs_all hv
  have hn : n ≤ 8 := by omega
  have HV := Lib.hid (fun W (hu : Up w W) => validForms_any A c n fs W hc (hr.up hu))
  rw [hv] at HV
  have HSO := Lib.hid (fun W (hu : Up w W) => linSystemOf_any A c n fs W (by omega) (by omega) (hr.up hu) (by simpa using hall) (ht.up hu))
  generalize sysR n (fs.map rowF) = S at *
  have HLI : Hid ((leadI n S).length = (leadR n S).length) := Lib.hid (by unfold leadI; rw [List.length_map])
  clear hr hv hall h120 hn8
  go_enter Tryz.func17, Tryz.ntmps17
  go_wp2_with fail
  refine Calls.mono (HV.out _ (by (repeat (first | exact Below.refl _ _ | exact Hid.out (by assumption) | refine Up.trans ?_ (Up.drew _) | refine Up.trans ?_ (Up.drewN _ _) | refine Up.trans ?_ (Up.alloc _ _) | refine Up.trans ?_ (Hid.out (by assumption)))))) ?_
  rintro e w1 ⟨rfl, hu⟩
  have HU1 := Lib.hid hu
  clear hu
  go_wp2_with fail
  refine Calls.mono (HSO.out _ (by (repeat (first | exact Below.refl _ _ | exact Hid.out (by assumption) | refine Up.trans ?_ (Up.drew _) | refine Up.trans ?_ (Up.drewN _ _) | refine Up.trans ?_ (Up.alloc _ _) | refine Up.trans ?_ (Hid.out (by assumption)))))) ?_
  rintro e w2 ⟨arr, rfl, hs, hu⟩
  have HU2 := Lib.hid hu
  have HS2 := Lib.hid hs.var
  have HUA := Lib.hid (Up.alloc w2 (.cells arr 93))
  obtain ⟨A0, m0, k0, A1, m1, k1, A2, m2, k2, A3, m3, k3, A4, m4, k4, A5, m5, k5, A6, m6, k6, A7, m7, k7, A8, m8, k8, A9, m9, k9, rfl⟩ := hs.open_
  clear hu hs
  go_wp2_with fail
  generalize w2.alloc (.cells #[.int .i64 n, .slice A0 m0 k0, .slice A1 m1 k1, .slice A2 m2 k2, .slice A3 m3 k3, .slice A4 m4 k4, .slice A5 m5 k5, .slice A6 m6 k6, .slice A7 m7 k7, .slice A8 m8 k8, .slice A9 m9 k9] 93) = w3 at *
  obtain ⟨g, hg⟩ : ∃ g, g = w2.heap.size := ⟨_, rfl⟩
  rw [← hg] at HS2 ⊢
  clear hg
  refine Calls.mono (sysLeading_any g n S w3 (by omega) HS2.out) ?_
  rintro e w4 ⟨B, d, rfl, -, -, -, -, hu⟩
  have HU4 := Lib.hid hu
  clear hu
  go_wp2
  refine bodyPost_ret (by simp [results, Tryz.results17, go_sem]; try rfl) rfl ?_
  exact ⟨by rw [HLI.out], by (repeat (first | exact Below.refl _ _ | exact Hid.out (by assumption) | refine Up.trans ?_ (Up.drew _) | refine Up.trans ?_ (Up.drewN _ _) | refine Up.trans ?_ (Up.alloc _ _) | refine Up.trans ?_ (Hid.out (by assumption))))⟩
theorem linRank_any (A : Option Addr) (c : Nat) (n : Int) (fs : List (List Int × Int)) (w : World) (hc : fs.length ≤ 9223372036854775807) (hr : RdE eltForm w A fs) (ht : Tab w) :
    Calls Tryz.prog 17 #[.int .i64 n, .slice A fs.length c] w fun e w' => e = .returned (.tuple #[.int .i64 (rankO n fs).1, .int .i64 (rankO n fs).2]) ∧ Up w w' := by
  rcases hv : validFs n fs with _ | _
  · have e : rankO n fs = (0, 1) := by unfold rankO; rw [hv]; rfl
    rw [e]
    exact linRank_bad A c n fs w hc hr hv
  · obtain ⟨m, rfl, -, -⟩ := validFs_dim9 hv
    have e : rankO (m : Int) fs = (((leadR m (sysR m (fs.map rowF))).length : Int), 0) := by unfold rankO; rw [hv]; rfl
    rw [e]
    exact linRank_ok A c m fs w hc hr hv ht
theorem linEchelon_any (A : Option Addr) (c : Nat) (n : Int) (fs : List (List Int × Int)) (w : World) (hc : fs.length ≤ 9223372036854775807) (hr : RdE eltForm w A fs) (ht : Tab w) :
    Calls Tryz.prog 13 #[.int .i64 n, .slice A fs.length c] w fun e w' => ∃ A' c', e = .returned (.tuple #[.slice A' (echO n fs).1.length c', .bool (echO n fs).2.1, .int .i64 (echO n fs).2.2]) ∧ RdE eltForm w' A' (echO n fs).1 ∧ Up w w' := by
  unfold echO
  rcases hv : validFs n fs with _ | _
  · rw [if_neg (by decide)]
    refine Calls.mono (echelon_bad A c n fs w hc hr hv) ?_
    rintro e w' ⟨rfl, hu⟩
    exact ⟨none, 0, rfl, fun h => absurd rfl h, hu⟩
  · obtain ⟨m, rfl, -, -⟩ := validFs_dim9 hv
    rw [if_pos rfl, Int.toNat_natCast]
    rcases hs : ((sysR m (fs.map rowF)).getD m none).isNone with _ | _
    · rw [if_neg (by decide)]
      refine Calls.mono (echelon_none A c m fs w hc hr hv ht hs) ?_
      rintro e w' ⟨rfl, hu⟩
      exact ⟨none, 0, rfl, fun h => absurd rfl h, hu⟩
    · rw [if_pos rfl]
      rcases hl : (rowsR m (sysR m (fs.map rowF))).all (fun r => r.all limI) with _ | _
      · rw [if_neg (by decide)]
        refine Calls.mono (echelon_full A c m fs w hc hr hv ht hs hl) ?_
        rintro e w' ⟨rfl, hu⟩
        exact ⟨none, 0, rfl, fun h => absurd rfl h, hu⟩
      · rw [if_pos rfl]
        refine Calls.mono (echelon_some A c m fs w hc hr hv ht hs hl) ?_
        rintro e w' ⟨A', c', rfl, h, hu⟩
        exact ⟨A', c', rfl, h, hu⟩
set_option maxHeartbeats 1000000 in
set_option maxRecDepth 10000 in
theorem linSolve_bad (A : Option Addr) (c : Nat) (n : Int) (fs : List (List Int × Int)) (w : World) (hc : fs.length ≤ 9223372036854775807) (hr : RdE eltForm w A fs) (hv : validFs n fs = false) :
    Calls Tryz.prog 15 #[.int .i64 n, .slice A fs.length c] w fun e w' => e = .returned (.tuple #[.slice none 0 0, .bool false, .int .i64 1]) ∧ Up w w' := by
  have HV := Lib.hid (fun W (hu : Up w W) => validForms_any A c n fs W hc (hr.up hu))
  rw [hv] at HV
  clear hr hv hc
  go_enter Tryz.func15, Tryz.ntmps15
  go_wp2_with fail
  refine Calls.mono (HV.out _ (by (repeat (first | exact Below.refl _ _ | exact Hid.out (by assumption) | refine Up.trans ?_ (Up.drew _) | refine Up.trans ?_ (Up.drewN _ _) | refine Up.trans ?_ (Up.alloc _ _) | refine Up.trans ?_ (Hid.out (by assumption)))))) ?_
  rintro e w1 ⟨rfl, hu⟩
  have HU1 := Lib.hid hu
  clear hu
  go_wp2
  refine bodyPost_ret (by simp [results, Tryz.results15, go_sem]; try rfl) rfl ?_
  exact ⟨rfl, by (repeat (first | exact Below.refl _ _ | exact Hid.out (by assumption) | refine Up.trans ?_ (Up.drew _) | refine Up.trans ?_ (Up.drewN _ _) | refine Up.trans ?_ (Up.alloc _ _) | refine Up.trans ?_ (Hid.out (by assumption))))⟩
theorem linSolve_any (A : Option Addr) (c : Nat) (n : Int) (fs : List (List Int × Int)) (w : World) (hc : fs.length ≤ 9223372036854775807) (hr : RdE eltForm w A fs) (ht : Tab w) :
    Calls Tryz.prog 15 #[.int .i64 n, .slice A fs.length c] w fun e w' => ∃ A' c', e = .returned (.tuple #[.slice A' (solO n fs).1.length c', .bool (solO n fs).2.1, .int .i64 (solO n fs).2.2]) ∧ (solO n fs).1.length ≤ c' ∧ c' ≤ maxLen ∧ RdN w' A' (solO n fs).1 ∧ Up w w' := by
  unfold solO
  rcases hv : validFs n fs with _ | _
  · rw [if_neg (by decide)]
    refine Calls.mono (linSolve_bad A c n fs w hc hr hv) ?_
    rintro e w' ⟨rfl, hu⟩
    exact ⟨none, 0, rfl, Nat.le_refl _, Nat.zero_le _, fun h => absurd rfl h, hu⟩
  · obtain ⟨m, rfl, hm8, -⟩ := validFs_dim9 hv
    rw [if_pos rfl, Int.toNat_natCast]
    rcases hs : ((sysR m (fs.map rowF)).getD m none).isNone with _ | _
    · rw [if_neg (by decide)]
      refine Calls.mono (solve_ok A c m fs w hc hr hv ht) ?_
      rintro e w' ⟨⟨v, b, er, rfl, h⟩, hu⟩
      rw [if_pos hs] at h
      obtain ⟨rfl, rfl, rfl⟩ := h
      exact ⟨none, 0, rfl, Nat.le_refl _, Nat.zero_le _, fun h => absurd rfl h, hu⟩
    · rw [if_pos rfl]
      rcases hl : (leadR m (sysR m (fs.map rowF))).all (fun c => fits (solQ m (sysR m (fs.map rowF)) c)) with _ | _
      · rw [if_neg (by decide)]
        refine Calls.mono (solve_full A c m fs w hc hr hv ht hs hl) ?_
        rintro e w' ⟨rfl, hu⟩
        exact ⟨none, 0, rfl, Nat.le_refl _, Nat.zero_le _, fun h => absurd rfl h, hu⟩
      · rw [if_pos rfl]
        refine Calls.mono (solve_some A c m fs w hc hr hv ht hs hl) ?_
        rintro e w' ⟨g, rfl, h, hu⟩
        exact ⟨_, m, rfl, by rw [solAt_length]; exact Nat.le_refl _, by unfold maxLen; omega, h, hu⟩
end Go.Proofs.YtacbjbnocepnaaaGreatDoor
namespace Go.Proofs.YtacbjbnocepnaaaGreatDoor
open Go.RowKit Fm
def EchAns (w' : World) (o : List (List Int × Int) × Bool × Int) (e : Ending) : Prop := ∃ A' c', e = .returned (.tuple #[.slice A' o.1.length c', .bool o.2.1, .int .i64 o.2.2]) ∧ RdE eltForm w' A' o.1
def SolAns (w' : World) (o : List (Int × Int) × Bool × Int) (e : Ending) : Prop := ∃ A' c', e = .returned (.tuple #[.slice A' o.1.length c', .bool o.2.1, .int .i64 o.2.2]) ∧ RdN w' A' o.1
set_option maxHeartbeats 1000000 in
set_option maxRecDepth 10000 in
theorem refEchelon_bad (A : Option Addr) (c : Nat) (n : Int) (fs : List (List Int × Int)) (w : World) (hc : fs.length ≤ 9223372036854775807) (hr : RdE eltForm w A fs) (hv : validFs n fs = false) :
    Calls Tryz.prog 14 #[.int .i64 n, .slice A fs.length c] w fun e w' => e = .returned (.tuple #[.slice none 0 0, .bool false, .int .i64 1]) ∧ Up w w' := by
  have HV := Lib.hid (fun W (hu : Up w W) => refValidForms_any A c n fs W hc (hr.up hu))
  rw [hv] at HV
  clear hr hv hc
  go_enter Tryz.func14, Tryz.ntmps14
  go_wp2_with fail
  refine Calls.mono (HV.out _ (by (repeat (first | exact Below.refl _ _ | exact Hid.out (by assumption) | refine Up.trans ?_ (Up.drew _) | refine Up.trans ?_ (Up.drewN _ _) | refine Up.trans ?_ (Up.alloc _ _) | refine Up.trans ?_ (Hid.out (by assumption)))))) ?_
  rintro e w1 ⟨rfl, hu⟩
  have HU1 := Lib.hid hu
  clear hu
  go_wp2
  refine bodyPost_ret (by simp [results, Tryz.results14, go_sem]; try rfl) rfl ?_
  exact ⟨rfl, by (repeat (first | exact Below.refl _ _ | exact Hid.out (by assumption) | refine Up.trans ?_ (Up.drew _) | refine Up.trans ?_ (Up.drewN _ _) | refine Up.trans ?_ (Up.alloc _ _) | refine Up.trans ?_ (Hid.out (by assumption))))⟩
set_option maxHeartbeats 1000000 in
set_option maxRecDepth 10000 in
theorem refSolve_bad (A : Option Addr) (c : Nat) (n : Int) (fs : List (List Int × Int)) (w : World) (hc : fs.length ≤ 9223372036854775807) (hr : RdE eltForm w A fs) (hv : validFs n fs = false) :
    Calls Tryz.prog 16 #[.int .i64 n, .slice A fs.length c] w fun e w' => e = .returned (.tuple #[.slice none 0 0, .bool false, .int .i64 1]) ∧ Up w w' := by
  have HV := Lib.hid (fun W (hu : Up w W) => refValidForms_any A c n fs W hc (hr.up hu))
  rw [hv] at HV
  clear hr hv hc
  go_enter Tryz.func16, Tryz.ntmps16
  go_wp2_with fail
  refine Calls.mono (HV.out _ (by (repeat (first | exact Below.refl _ _ | exact Hid.out (by assumption) | refine Up.trans ?_ (Up.drew _) | refine Up.trans ?_ (Up.drewN _ _) | refine Up.trans ?_ (Up.alloc _ _) | refine Up.trans ?_ (Hid.out (by assumption)))))) ?_
  rintro e w1 ⟨rfl, hu⟩
  have HU1 := Lib.hid hu
  clear hu
  go_wp2
  refine bodyPost_ret (by simp [results, Tryz.results16, go_sem]; try rfl) rfl ?_
  exact ⟨rfl, by (repeat (first | exact Below.refl _ _ | exact Hid.out (by assumption) | refine Up.trans ?_ (Up.drew _) | refine Up.trans ?_ (Up.drewN _ _) | refine Up.trans ?_ (Up.alloc _ _) | refine Up.trans ?_ (Hid.out (by assumption))))⟩
set_option maxHeartbeats 1000000 in
set_option maxRecDepth 10000 in
theorem refRank_bad (A : Option Addr) (c : Nat) (n : Int) (fs : List (List Int × Int)) (w : World) (hc : fs.length ≤ 9223372036854775807) (hr : RdE eltForm w A fs) (hv : validFs n fs = false) :
    Calls Tryz.prog 18 #[.int .i64 n, .slice A fs.length c] w fun e w' => e = .returned (.tuple #[.int .i64 0, .int .i64 1]) ∧ Up w w' := by
  have HV := Lib.hid (fun W (hu : Up w W) => refValidForms_any A c n fs W hc (hr.up hu))
  rw [hv] at HV
  clear hr hv hc
  go_enter Tryz.func18, Tryz.ntmps18
  go_wp2_with fail
  refine Calls.mono (HV.out _ (by (repeat (first | exact Below.refl _ _ | exact Hid.out (by assumption) | refine Up.trans ?_ (Up.drew _) | refine Up.trans ?_ (Up.drewN _ _) | refine Up.trans ?_ (Up.alloc _ _) | refine Up.trans ?_ (Hid.out (by assumption)))))) ?_
  rintro e w1 ⟨rfl, hu⟩
  have HU1 := Lib.hid hu
  clear hu
  go_wp2
  refine bodyPost_ret (by simp [results, Tryz.results18, go_sem]; try rfl) rfl ?_
  exact ⟨rfl, by (repeat (first | exact Below.refl _ _ | exact Hid.out (by assumption) | refine Up.trans ?_ (Up.drew _) | refine Up.trans ?_ (Up.drewN _ _) | refine Up.trans ?_ (Up.alloc _ _) | refine Up.trans ?_ (Hid.out (by assumption))))⟩
theorem valid_rows {n : Nat} {fs : List (List Int × Int)} (hv : validFs n fs = true) : ∀ f, f ∈ fs → f.1.length ≤ 1000000 ∧ (∀ y, y ∈ f.1 → limI y = true) ∧ limI f.2 = true := fun f hf => by
  have h := validFs_each hv f hf
  simp only [validF, Bool.and_eq_true, List.all_eq_true, decide_eq_true_eq] at h
  exact ⟨by have := ((rowsOk_of hv).one f hf).1; have h9 := validFs_dim9 hv; obtain ⟨m, h1, h2, -⟩ := h9; omega, h.2, h.1.2⟩
set_option maxHeartbeats 2000000 in
set_option maxRecDepth 10000 in
theorem refEchelon_ok (A : Option Addr) (c n : Nat) (fs : List (List Int × Int)) (w : World) (hc : fs.length ≤ 9223372036854775807) (hr : RdE eltForm w A fs) (hv : validFs n fs = true) :
    Calls Tryz.prog 14 #[.int .i64 n, .slice A fs.length c] w fun e w' => EchAns w' (echO n fs) e ∧ Up w w' := by
  obtain ⟨-, hn8, h120, hall⟩ := validFs_all hv
  have hn : n ≤ 8 := by omega
  have hro := rowsOk_of hv
  have HV := Lib.hid (fun W (hu : Up w W) => refValidForms_any A c n fs W hc (hr.up hu))
  rw [hv] at HV
  have HA := Lib.hid (fun W (hu : Up w W) => refRows_any A c fs W (by omega) (hr.up hu) (valid_rows hv))
  have HS := Lib.hid (fun W A' c' (h : RdE eltW W A' fs) => refSolved_of A' c' n fs W hn (by omega) h hro)
  have hE : Ech n (sysR n (fs.map rowF)) := (sysR_red n (by omega) _ (fun r hr => by
    obtain ⟨f, h1, rfl⟩ := List.mem_map.1 hr
    simp [rowF, (hro.one f h1).1])).ech
  have HLL := Lib.hid (ech_lim hE)
  have h8 := solL_ok hn hro
  have hlen := solL_len hn hro
  have HE : Hid (echO n fs = if ((sysR n (fs.map rowF)).getD n none).isNone = true then (if (rowsR n (sysR n (fs.map rowF))).all (fun r => r.all limI) = true then (echF n fs, true, 0) else ([], false, 3)) else ([], false, 0)) := Lib.hid (by unfold echO; rw [hv, if_pos rfl, Int.toNat_natCast])
  rw [HE.out]
  rcases hs : ((sysR n (fs.map rowF)).getD n none).isNone with _ | _
  · have hsl : solL n fs = [] := by unfold solL; rw [hs, if_neg (by decide)]
    rw [hs, hsl] at HS
    rw [if_neg (by decide)]
    clear hr hv hro hE HLL h8 hlen HE hs hsl hall h120 hn8
    go_enter Tryz.func14, Tryz.ntmps14
    go_wp2_with fail
    refine Calls.mono (HV.out _ (by (repeat (first | exact Below.refl _ _ | exact Hid.out (by assumption) | refine Up.trans ?_ (Up.drew _) | refine Up.trans ?_ (Up.drewN _ _) | refine Up.trans ?_ (Up.alloc _ _) | refine Up.trans ?_ (Hid.out (by assumption)))))) ?_
    rintro e w1 ⟨rfl, hu⟩
    have HU1 := Lib.hid hu
    clear hu
    go_wp2_with fail
    refine Calls.mono (HA.out _ (by (repeat (first | exact Below.refl _ _ | exact Hid.out (by assumption) | refine Up.trans ?_ (Up.drew _) | refine Up.trans ?_ (Up.drewN _ _) | refine Up.trans ?_ (Up.alloc _ _) | refine Up.trans ?_ (Hid.out (by assumption)))))) ?_
    rintro e w3 ⟨A3, c3, rfl, hr3, hu⟩
    have HU3 := Lib.hid hu
    have HR3 := Lib.hid hr3
    clear hu hr3
    go_wp2_with fail
    refine Calls.mono (HS.out _ _ _ HR3.out) ?_
    rintro e w4 ⟨A4, c4, rfl, -, hu⟩
    have HU4 := Lib.hid hu
    clear hu
    go_wp2
    refine bodyPost_ret (by simp [results, Tryz.results14, go_sem]; try rfl) rfl ?_
    exact ⟨⟨none, 0, rfl, fun h => absurd rfl h⟩, by (repeat (first | exact Below.refl _ _ | exact Hid.out (by assumption) | refine Up.trans ?_ (Up.drew _) | refine Up.trans ?_ (Up.drewN _ _) | refine Up.trans ?_ (Up.alloc _ _) | refine Up.trans ?_ (Hid.out (by assumption))))⟩
  · have hsl : solL n fs = echF n fs := by unfold solL; rw [hs, if_pos rfl]
    rw [hs, hsl] at HS
    rw [hsl] at h8 hlen
    rw [if_pos rfl]
    have HF := Lib.hid (fun W A' c' (h : RdE eltW W A' (echF n fs)) => refForms_any A' c' (echF n fs) W (by omega) (fun f hf => by have := (h8 f hf).1; omega) h)
    clear hr hv hro hE h8 hlen HE hs hsl hall h120 hn8
    unfold FormsRes at HF
    rw [HLL.out] at HF
    clear HLL
    generalize echF n fs = E at *
    generalize hlb : (rowsR n (sysR n (fs.map rowF))).all (fun r => r.all limI) = lb at *
    clear hlb
    go_enter Tryz.func14, Tryz.ntmps14
    go_wp2_with fail
    refine Calls.mono (HV.out _ (by (repeat (first | exact Below.refl _ _ | exact Hid.out (by assumption) | refine Up.trans ?_ (Up.drew _) | refine Up.trans ?_ (Up.drewN _ _) | refine Up.trans ?_ (Up.alloc _ _) | refine Up.trans ?_ (Hid.out (by assumption)))))) ?_
    rintro e w1 ⟨rfl, hu⟩
    have HU1 := Lib.hid hu
    clear hu
    go_wp2_with fail
    refine Calls.mono (HA.out _ (by (repeat (first | exact Below.refl _ _ | exact Hid.out (by assumption) | refine Up.trans ?_ (Up.drew _) | refine Up.trans ?_ (Up.drewN _ _) | refine Up.trans ?_ (Up.alloc _ _) | refine Up.trans ?_ (Hid.out (by assumption)))))) ?_
    rintro e w3 ⟨A3, c3, rfl, hr3, hu⟩
    have HU3 := Lib.hid hu
    have HR3 := Lib.hid hr3
    clear hu hr3
    go_wp2_with fail
    refine Calls.mono (HS.out _ _ _ HR3.out) ?_
    rintro e w4 ⟨A4, c4, rfl, hr4, hu⟩
    have HU4 := Lib.hid hu
    have HR4 := Lib.hid hr4
    clear hu hr4
    go_wp2_with fail
    refine Calls.mono (HF.out _ _ _ HR4.out) ?_
    rintro e w5 ⟨⟨v, er, rfl, h⟩, hu⟩
    have HU5 := Lib.hid hu
    cases lb
    · rw [if_neg (by decide)] at h
      obtain ⟨rfl, rfl⟩ := h
      clear hu
      go_wp2
      refine bodyPost_ret (by simp [results, Tryz.results14, go_sem]; try rfl) rfl ?_
      exact ⟨⟨none, 0, rfl, fun h => absurd rfl h⟩, by (repeat (first | exact Below.refl _ _ | exact Hid.out (by assumption) | refine Up.trans ?_ (Up.drew _) | refine Up.trans ?_ (Up.drewN _ _) | refine Up.trans ?_ (Up.alloc _ _) | refine Up.trans ?_ (Hid.out (by assumption))))⟩
    · rw [if_pos rfl] at h
      obtain ⟨⟨A5, c5, rfl, -, -, h5⟩, rfl⟩ := h
      have H5 := Lib.hid h5
      clear hu h5
      go_wp2
      refine bodyPost_ret (by simp [results, Tryz.results14, go_sem]; try rfl) rfl ?_
      exact ⟨⟨A5, c5, rfl, H5.out⟩, by (repeat (first | exact Below.refl _ _ | exact Hid.out (by assumption) | refine Up.trans ?_ (Up.drew _) | refine Up.trans ?_ (Up.drewN _ _) | refine Up.trans ?_ (Up.alloc _ _) | refine Up.trans ?_ (Hid.out (by assumption))))⟩
theorem refEchelon_any (A : Option Addr) (c : Nat) (n : Int) (fs : List (List Int × Int)) (w : World) (hc : fs.length ≤ 9223372036854775807) (hr : RdE eltForm w A fs) :
    Calls Tryz.prog 14 #[.int .i64 n, .slice A fs.length c] w fun e w' => ∃ A' c', e = .returned (.tuple #[.slice A' (echO n fs).1.length c', .bool (echO n fs).2.1, .int .i64 (echO n fs).2.2]) ∧ RdE eltForm w' A' (echO n fs).1 ∧ Up w w' := by
  rcases hv : validFs n fs with _ | _
  · have e : echO n fs = ([], false, 1) := by unfold echO; rw [hv]; rfl
    rw [e]
    refine Calls.mono (refEchelon_bad A c n fs w hc hr hv) ?_
    rintro e w' ⟨rfl, hu⟩
    exact ⟨none, 0, rfl, fun h => absurd rfl h, hu⟩
  · obtain ⟨m, rfl, -, -⟩ := validFs_dim9 hv
    refine Calls.mono (refEchelon_ok A c m fs w hc hr hv) ?_
    rintro e w' ⟨⟨A', c', rfl, h⟩, hu⟩
    exact ⟨A', c', rfl, h, hu⟩
set_option maxHeartbeats 2000000 in
set_option maxRecDepth 10000 in
theorem refSolve_ok (A : Option Addr) (c n : Nat) (fs : List (List Int × Int)) (w : World) (hc : fs.length ≤ 9223372036854775807) (hr : RdE eltForm w A fs) (hv : validFs n fs = true) :
    Calls Tryz.prog 16 #[.int .i64 n, .slice A fs.length c] w fun e w' => SolAns w' (solO n fs) e ∧ Up w w' := by
  obtain ⟨-, hn8, h120, hall⟩ := validFs_all hv
  have hn : n ≤ 8 := by omega
  have hro := rowsOk_of hv
  have HV := Lib.hid (fun W (hu : Up w W) => refValidForms_any A c n fs W hc (hr.up hu))
  rw [hv] at HV
  have HA := Lib.hid (fun W (hu : Up w W) => refRows_any A c fs W (by omega) (hr.up hu) (valid_rows hv))
  have HS := Lib.hid (fun W A' c' (h : RdE eltW W A' fs) => refSolved_of A' c' n fs W hn (by omega) h hro)
  have hE : Ech n (sysR n (fs.map rowF)) := (sysR_red n (by omega) _ (fun r hr => by
    obtain ⟨f, h1, rfl⟩ := List.mem_map.1 hr
    simp [rowF, (hro.one f h1).1])).ech
  have h8 := solL_ok hn hro
  have hlen := solL_len hn hro
  have HE : Hid (solO n fs = if ((sysR n (fs.map rowF)).getD n none).isNone = true then (if (leadR n (sysR n (fs.map rowF))).all (fun c => fits (solQ n (sysR n (fs.map rowF)) c)) = true then (solF n fs, true, 0) else ([], false, 3)) else ([], false, 0)) := Lib.hid (by unfold solO; rw [hv, if_pos rfl, Int.toNat_natCast])
  rw [HE.out]
  rcases hs : ((sysR n (fs.map rowF)).getD n none).isNone with _ | _
  · have hsl : solL n fs = [] := by unfold solL; rw [hs, if_neg (by decide)]
    rw [hs, hsl] at HS
    rw [if_neg (by decide)]
    clear hr hv hro hE h8 hlen HE hs hsl hall h120 hn8
    go_enter Tryz.func16, Tryz.ntmps16
    go_wp2_with fail
    refine Calls.mono (HV.out _ (by (repeat (first | exact Below.refl _ _ | exact Hid.out (by assumption) | refine Up.trans ?_ (Up.drew _) | refine Up.trans ?_ (Up.drewN _ _) | refine Up.trans ?_ (Up.alloc _ _) | refine Up.trans ?_ (Hid.out (by assumption)))))) ?_
    rintro e w1 ⟨rfl, hu⟩
    have HU1 := Lib.hid hu
    clear hu
    go_wp2_with fail
    refine Calls.mono (HA.out _ (by (repeat (first | exact Below.refl _ _ | exact Hid.out (by assumption) | refine Up.trans ?_ (Up.drew _) | refine Up.trans ?_ (Up.drewN _ _) | refine Up.trans ?_ (Up.alloc _ _) | refine Up.trans ?_ (Hid.out (by assumption)))))) ?_
    rintro e w3 ⟨A3, c3, rfl, hr3, hu⟩
    have HU3 := Lib.hid hu
    have HR3 := Lib.hid hr3
    clear hu hr3
    go_wp2_with fail
    refine Calls.mono (HS.out _ _ _ HR3.out) ?_
    rintro e w4 ⟨A4, c4, rfl, -, hu⟩
    have HU4 := Lib.hid hu
    clear hu
    go_wp2
    refine bodyPost_ret (by simp [results, Tryz.results16, go_sem]; try rfl) rfl ?_
    exact ⟨⟨none, 0, rfl, fun h => absurd rfl h⟩, by (repeat (first | exact Below.refl _ _ | exact Hid.out (by assumption) | refine Up.trans ?_ (Up.drew _) | refine Up.trans ?_ (Up.drewN _ _) | refine Up.trans ?_ (Up.alloc _ _) | refine Up.trans ?_ (Hid.out (by assumption))))⟩
  · have hsl : solL n fs = echF n fs := by unfold solL; rw [hs, if_pos rfl]
    rw [hs, hsl] at HS
    rw [hsl] at h8 hlen
    rw [if_pos rfl]
    have hll : (leadR n (sysR n (fs.map rowF))).length = (echF n fs).length := by unfold echF rowsR; rw [List.length_map, List.length_map]
    have HP := Lib.hid (fun W A' c' (h : RdE eltW W A' (echF n fs)) => refPoint_any A' c' n (leadR n (sysR n (fs.map rowF))) (echF n fs) W hn (by omega) hll h (fun i h1 h2 => by
      obtain ⟨g1, g2, g3⟩ := h8 _ (List.getElem_mem h2)
      obtain ⟨k1, k2⟩ := leadR_lt (List.getElem_mem h1)
      have he := echF_get h2 h1
      rcases hp : (sysR n (fs.map rowF)).getD (leadR n (sysR n (fs.map rowF)))[i] none with _ | r
      · rw [hp] at k2; cases k2
      · rw [hp] at he
        have hla := hE.2 _ _ hp
        have hgd : ∀ j, j < n → (echF n fs)[i].1.getD j 0 = r.getD j 0 := fun j hj => by
          rw [he]
          show (r.take n).getD j 0 = r.getD j 0
          rw [List.getD_eq_getElem?_getD, List.getElem?_take, if_pos hj, ← List.getD_eq_getElem?_getD]
        exact ⟨g1, k1, fun j hj => by rw [hgd j (by omega)]; exact hla.before j hj, by rw [hgd _ k1]; exact hla.at_, g2, g3⟩))
    have hpt : pointR n (leadR n (sysR n (fs.map rowF))) (echF n fs) = solR n (sysR n (fs.map rowF)) (leadR n (sysR n (fs.map rowF))) := point_sol _ _
    rw [hpt] at HP
    have hsr := solR_length n (sysR n (fs.map rowF)) (leadR n (sysR n (fs.map rowF)))
    have HN := Lib.hid (fun W A' c' (h : RdE eltQ W A' (solR n (sysR n (fs.map rowF)) (leadR n (sysR n (fs.map rowF))))) => refNums_any A' c' _ W (by omega) h)
    rw [hsr] at HN
    unfold NumsRes at HN
    rw [solR_fits, solR_map, hsr] at HN
    have HSR := Lib.hid (show (solF n fs).length = n from solAt_length _ _ _)
    clear hr hv hro hE h8 hlen HE hs hsl hall h120 hn8 hll hpt hsr
    change Hid (∀ W A' c', RdE eltQ W A' (solR n (sysR n (fs.map rowF)) (leadR n (sysR n (fs.map rowF)))) → Calls Tryz.prog 64 #[.slice A' n c'] W fun e w' => (∃ v er, e = .returned (.tuple #[v, .int .i64 er]) ∧ if (leadR n (sysR n (fs.map rowF))).all (fun c => fits (solQ n (sysR n (fs.map rowF)) c)) = true then (∃ A c, v = .slice A n c ∧ n ≤ c ∧ c ≤ maxLen ∧ RdN w' A (solF n fs)) ∧ er = 0 else v = .slice none 0 0 ∧ er = 3) ∧ Up W w') at HN
    generalize solR n (sysR n (fs.map rowF)) (leadR n (sysR n (fs.map rowF))) = Q at *
    generalize solF n fs = X at *
    generalize echF n fs = E at *
    generalize hlb : (leadR n (sysR n (fs.map rowF))).all (fun c => fits (solQ n (sysR n (fs.map rowF)) c)) = lb at *
    clear hlb
    go_enter Tryz.func16, Tryz.ntmps16
    go_wp2_with fail
    refine Calls.mono (HV.out _ (by (repeat (first | exact Below.refl _ _ | exact Hid.out (by assumption) | refine Up.trans ?_ (Up.drew _) | refine Up.trans ?_ (Up.drewN _ _) | refine Up.trans ?_ (Up.alloc _ _) | refine Up.trans ?_ (Hid.out (by assumption)))))) ?_
    rintro e w1 ⟨rfl, hu⟩
    have HU1 := Lib.hid hu
    clear hu
    go_wp2_with fail
    refine Calls.mono (HA.out _ (by (repeat (first | exact Below.refl _ _ | exact Hid.out (by assumption) | refine Up.trans ?_ (Up.drew _) | refine Up.trans ?_ (Up.drewN _ _) | refine Up.trans ?_ (Up.alloc _ _) | refine Up.trans ?_ (Hid.out (by assumption)))))) ?_
    rintro e w3 ⟨A3, c3, rfl, hr3, hu⟩
    have HU3 := Lib.hid hu
    have HR3 := Lib.hid hr3
    clear hu hr3
    go_wp2_with fail
    refine Calls.mono (HS.out _ _ _ HR3.out) ?_
    rintro e w4 ⟨A4, c4, rfl, hr4, hu⟩
    have HU4 := Lib.hid hu
    have HR4 := Lib.hid hr4
    clear hu hr4
    go_wp2_with fail
    refine Calls.mono (HP.out _ _ _ HR4.out) ?_
    rintro e w5 ⟨g5, rfl, hr5, hu⟩
    have HU5 := Lib.hid hu
    have HR5 := Lib.hid hr5
    clear hu hr5
    go_wp2_with fail
    refine Calls.mono (HN.out _ _ _ HR5.out) ?_
    rintro e w6 ⟨⟨v, er, rfl, h⟩, hu⟩
    have HU6 := Lib.hid hu
    cases lb
    · rw [if_neg (by decide)] at h
      obtain ⟨rfl, rfl⟩ := h
      clear hu
      go_wp2
      refine bodyPost_ret (by simp [results, Tryz.results16, go_sem]; try rfl) rfl ?_
      exact ⟨⟨none, 0, rfl, fun h => absurd rfl h⟩, by (repeat (first | exact Below.refl _ _ | exact Hid.out (by assumption) | refine Up.trans ?_ (Up.drew _) | refine Up.trans ?_ (Up.drewN _ _) | refine Up.trans ?_ (Up.alloc _ _) | refine Up.trans ?_ (Hid.out (by assumption))))⟩
    · rw [if_pos rfl] at h
      obtain ⟨⟨A6, c6, rfl, -, -, h5⟩, rfl⟩ := h
      have H5 := Lib.hid h5
      clear hu h5
      go_wp2
      refine bodyPost_ret (by simp [results, Tryz.results16, go_sem]; try rfl) rfl ?_
      exact ⟨⟨A6, c6, by rw [show (X, true, (0 : Int)).1.length = n from HSR.out], H5.out⟩, by (repeat (first | exact Below.refl _ _ | exact Hid.out (by assumption) | refine Up.trans ?_ (Up.drew _) | refine Up.trans ?_ (Up.drewN _ _) | refine Up.trans ?_ (Up.alloc _ _) | refine Up.trans ?_ (Hid.out (by assumption))))⟩
theorem refSolve_any (A : Option Addr) (c : Nat) (n : Int) (fs : List (List Int × Int)) (w : World) (hc : fs.length ≤ 9223372036854775807) (hr : RdE eltForm w A fs) :
    Calls Tryz.prog 16 #[.int .i64 n, .slice A fs.length c] w fun e w' => ∃ A' c', e = .returned (.tuple #[.slice A' (solO n fs).1.length c', .bool (solO n fs).2.1, .int .i64 (solO n fs).2.2]) ∧ RdN w' A' (solO n fs).1 ∧ Up w w' := by
  rcases hv : validFs n fs with _ | _
  · have e : solO n fs = ([], false, 1) := by unfold solO; rw [hv]; rfl
    rw [e]
    refine Calls.mono (refSolve_bad A c n fs w hc hr hv) ?_
    rintro e w' ⟨rfl, hu⟩
    exact ⟨none, 0, rfl, fun h => absurd rfl h, hu⟩
  · obtain ⟨m, rfl, -, -⟩ := validFs_dim9 hv
    refine Calls.mono (refSolve_ok A c m fs w hc hr hv) ?_
    rintro e w' ⟨⟨A', c', rfl, h⟩, hu⟩
    exact ⟨A', c', rfl, h, hu⟩
set_option maxHeartbeats 2000000 in
set_option maxRecDepth 10000 in
theorem refRank_ok (A : Option Addr) (c n : Nat) (fs : List (List Int × Int)) (w : World) (hc : fs.length ≤ 9223372036854775807) (hr : RdE eltForm w A fs) (hv : validFs n fs = true) :
    Calls Tryz.prog 18 #[.int .i64 n, .slice A fs.length c] w fun e w' => e = .returned (.tuple #[.int .i64 (leadR n (sysR n (fs.map rowF))).length, .int .i64 0]) ∧ Up w w' := by
  obtain ⟨-, hn8, h120, hall⟩ := validFs_all hv
  have hn : n ≤ 8 := by omega
  have hro := rowsOk_of hv
  have HV := Lib.hid (fun W (hu : Up w W) => refValidForms_any A c n fs W hc (hr.up hu))
  rw [hv] at HV
  have HA := Lib.hid (fun W (hu : Up w W) => refRows_any A c fs W (by omega) (hr.up hu) (valid_rows hv))
  have HB := Lib.hid (fun W A' c' (h : RdE eltW W A' fs) => refBare_any A' c' fs W (by omega) h)
  have hrb := rows_bare hro
  have HS := Lib.hid (fun W A' c' (h : RdE eltW W A' (fs.map bareF)) => refSolved_of A' c' n (fs.map bareF) W hn (by rw [List.length_map]; omega) h hrb)
  have HRB := Lib.hid (rank_bare hn (fun f hf => (hro.one f hf).1))
  generalize solL n (fs.map bareF) = X at *
  generalize fs.map bareF = gs at *
  clear hr hv hro hrb hall h120 hn8
  go_enter Tryz.func18, Tryz.ntmps18
  go_wp2_with fail
  refine Calls.mono (HV.out _ (by (repeat (first | exact Below.refl _ _ | exact Hid.out (by assumption) | refine Up.trans ?_ (Up.drew _) | refine Up.trans ?_ (Up.drewN _ _) | refine Up.trans ?_ (Up.alloc _ _) | refine Up.trans ?_ (Hid.out (by assumption)))))) ?_
  rintro e w1 ⟨rfl, hu⟩
  have HU1 := Lib.hid hu
  clear hu
  go_wp2_with fail
  refine Calls.mono (HA.out _ (by (repeat (first | exact Below.refl _ _ | exact Hid.out (by assumption) | refine Up.trans ?_ (Up.drew _) | refine Up.trans ?_ (Up.drewN _ _) | refine Up.trans ?_ (Up.alloc _ _) | refine Up.trans ?_ (Hid.out (by assumption)))))) ?_
  rintro e w3 ⟨A3, c3, rfl, hr3, hu⟩
  have HU3 := Lib.hid hu
  have HR3 := Lib.hid hr3
  clear hu hr3
  go_wp2_with fail
  refine Calls.mono (HB.out _ _ _ HR3.out) ?_
  rintro e w4 ⟨A4, c4, rfl, hr4, hu⟩
  have HU4 := Lib.hid hu
  have HR4 := Lib.hid hr4
  clear hu hr4
  go_wp2_with fail
  refine Calls.mono (HS.out _ _ _ HR4.out) ?_
  rintro e w5 ⟨A5, c5, rfl, -, hu⟩
  have HU5 := Lib.hid hu
  clear hu
  go_wp2
  refine bodyPost_ret (by simp [results, Tryz.results18, go_sem]; try rfl) rfl ?_
  exact ⟨by rw [HRB.out], by (repeat (first | exact Below.refl _ _ | exact Hid.out (by assumption) | refine Up.trans ?_ (Up.drew _) | refine Up.trans ?_ (Up.drewN _ _) | refine Up.trans ?_ (Up.alloc _ _) | refine Up.trans ?_ (Hid.out (by assumption))))⟩
theorem refRank_any (A : Option Addr) (c : Nat) (n : Int) (fs : List (List Int × Int)) (w : World) (hc : fs.length ≤ 9223372036854775807) (hr : RdE eltForm w A fs) :
    Calls Tryz.prog 18 #[.int .i64 n, .slice A fs.length c] w fun e w' => e = .returned (.tuple #[.int .i64 (rankO n fs).1, .int .i64 (rankO n fs).2]) ∧ Up w w' := by
  rcases hv : validFs n fs with _ | _
  · have e : rankO n fs = (0, 1) := by unfold rankO; rw [hv]; rfl
    rw [e]
    exact refRank_bad A c n fs w hc hr hv
  · obtain ⟨m, rfl, -, -⟩ := validFs_dim9 hv
    have e : rankO (m : Int) fs = (((leadR m (sysR m (fs.map rowF))).length : Int), 0) := by unfold rankO; rw [hv]; rfl
    rw [e]
    exact refRank_ok A c m fs w hc hr hv
end Go.Proofs.YtacbjbnocepnaaaGreatDoor
namespace Go.Proofs.YtacbjbnocepnaaaGreatDoor
open Go.RowKit Fm
set_option maxHeartbeats 2000000 in
set_option maxRecDepth 10000 in
theorem linEchelonLaw_any (A : Option Addr) (c : Nat) (n : Int) (fs : List (List Int × Int)) (w : World) (hc : fs.length ≤ c) (hcm : c ≤ maxLen) (hr : RdE eltForm w A fs) (ht : Tab w) :
    Calls Tryz.prog 4 #[.int .i64 n, .slice A fs.length c] w fun e w' => e = .returned (.bool true) ∧ Up w w' := by
  have hl1 := len_le hc hcm
  have HF := Lib.hid (fun W (hu : Up w W) => few_all A c fs W hl1 (hr.up hu))
  have HE := Lib.hid (fun W (hu : Up w W) => linEchelon_any A c n fs W hl1 (hr.up hu) (ht.up hu))
  have HE2 := Lib.hid (fun W (hu : Up w W) => refEchelon_any A c n fs W hl1 (hr.up hu))
  have HS := Lib.hid (fun W (hu : Up w W) => linSolve_any A c n fs W hl1 (hr.up hu) (ht.up hu))
  have HS2 := Lib.hid (fun W (hu : Up w W) => refSolve_any A c n fs W hl1 (hr.up hu))
  have HR := Lib.hid (fun W (hu : Up w W) => linRank_any A c n fs W hl1 (hr.up hu) (ht.up hu))
  have HR2 := Lib.hid (fun W (hu : Up w W) => refRank_any A c n fs W hl1 (hr.up hu))
  have HAW := Lib.hid (fun W (hu : Up w W) => linAwake_any W (ht.up hu))
  have hel : (echO n fs).1.length ≤ 9223372036854775807 := by
    unfold echO
    split
    · split
      · split
        · rename_i hv _ _
          obtain ⟨m, rfl, h8, -⟩ := validFs_dim9 hv
          unfold echF rowsR
          rw [List.length_map, List.length_map]
          have := List.length_filter_le (fun c => ((sysR (m : Int).toNat (fs.map rowF)).getD c none).isSome) (List.range (m : Int).toNat)
          rw [List.length_range] at this
          unfold leadR
          omega
        · exact Nat.zero_le _
      · exact Nat.zero_le _
    · exact Nat.zero_le _
  have HSF := Lib.hid (fun W A' B' c' d' (h : RdE eltForm W A' (echO n fs).1) (h2 : RdE eltForm W B' (echO n fs).1) => sameForms_any A' B' c' d' (echO n fs).1 (echO n fs).1 W hel hel h h2)
  rw [decide_eq_true rfl] at HSF
  have HSN := Lib.hid (fun W A' B' c' d' (h0 : (solO n fs).1.length ≤ c') (h1 : c' ≤ maxLen) (h : RdN W A' (solO n fs).1) (h2 : RdN W B' (solO n fs).1) => refSame_any A' B' c' d' (solO n fs).1 W h0 h1 h h2)
  clear hr ht hl1 hc hcm hel
  generalize fewF fs = p at *
  generalize (echO n fs).1 = E at *
  generalize (echO n fs).2.1 = a at *
  generalize (echO n fs).2.2 = x at *
  generalize (solO n fs).1 = X at *
  generalize (solO n fs).2.1 = b at *
  generalize (solO n fs).2.2 = y at *
  generalize (rankO n fs).1 = r at *
  generalize (rankO n fs).2 = z at *
  go_enter Tryz.func4, Tryz.ntmps4
  go_wp2_with fail
  refine Calls.mono (HF.out _ (by (repeat (first | exact Below.refl _ _ | exact Hid.out (by assumption) | refine Up.trans ?_ (Up.drew _) | refine Up.trans ?_ (Up.drewN _ _) | refine Up.trans ?_ (Up.alloc _ _) | refine Up.trans ?_ (Hid.out (by assumption)))))) ?_
  rintro e w1 ⟨rfl, hu⟩
  have HU1 := Lib.hid hu
  clear hu
  cases p
  · go_wp2_with fail
    refine Calls.mono (HAW.out _ (by (repeat (first | exact Below.refl _ _ | exact Hid.out (by assumption) | refine Up.trans ?_ (Up.drew _) | refine Up.trans ?_ (Up.drewN _ _) | refine Up.trans ?_ (Up.alloc _ _) | refine Up.trans ?_ (Hid.out (by assumption)))))) ?_
    rintro e w2 ⟨rfl, hu⟩
    have HU2 := Lib.hid hu
    clear hu
    go_wp2
    go_ret
    exact ⟨rfl, by (repeat (first | exact Below.refl _ _ | exact Hid.out (by assumption) | refine Up.trans ?_ (Up.drew _) | refine Up.trans ?_ (Up.drewN _ _) | refine Up.trans ?_ (Up.alloc _ _) | refine Up.trans ?_ (Hid.out (by assumption))))⟩
  · go_wp2_with fail
    refine Calls.mono (HE.out _ HU1.out) ?_
    rintro e w2 ⟨A2, c2, rfl, h2, hu⟩
    have HV2 := Lib.hid (HU1.out.trans hu)
    have HX2 := Lib.hid h2
    clear hu h2
    go_wp2_with fail
    refine Calls.mono (HE2.out _ HV2.out) ?_
    rintro e w3 ⟨A3, c3, rfl, h3, hu⟩
    have HV3 := Lib.hid (HV2.out.trans hu)
    have HX3 := Lib.hid h3
    have HX23 := Lib.hid (HX2.out.up hu)
    clear hu h3
    go_wp2_with fail
    refine Calls.mono (HS.out _ HV3.out) ?_
    rintro e w4 ⟨A4, c4, rfl, h40, h41, h4, hu⟩
    have HV4 := Lib.hid (HV3.out.trans hu)
    have HX4 := Lib.hid (And.intro h40 (And.intro h41 h4))
    have HU34 := Lib.hid hu
    clear hu h4 h40 h41
    go_wp2_with fail
    refine Calls.mono (HS2.out _ HV4.out) ?_
    rintro e w5 ⟨A5, c5, rfl, h5, hu⟩
    have HV5 := Lib.hid (HV4.out.trans hu)
    have HX5 := Lib.hid h5
    have HU35 := Lib.hid (HU34.out.trans hu)
    have HX45 := Lib.hid (HX4.out.2.2.up hu)
    clear hu h5
    go_wp2_with fail
    refine Calls.mono (HR.out _ HV5.out) ?_
    rintro e w6 ⟨rfl, hu⟩
    have HV6 := Lib.hid (HV5.out.trans hu)
    have HU56 := Lib.hid hu
    clear hu
    go_wp2_with fail
    refine Calls.mono (HR2.out _ HV6.out) ?_
    rintro e w7 ⟨rfl, hu⟩
    have HV7 := Lib.hid (HV6.out.trans hu)
    have HU57 := Lib.hid (HU56.out.trans hu)
    have HU37 := Lib.hid (HU35.out.trans HU57.out)
    clear hu
    go_wp2_with fail
    refine Calls.mono (HSF.out _ _ _ _ _ (HX23.out.up HU37.out) (HX3.out.up HU37.out)) ?_
    rintro e w8 ⟨rfl, hu⟩
    have HV8 := Lib.hid (HV7.out.trans hu)
    have HU58 := Lib.hid (HU57.out.trans hu)
    clear hu
    cases a <;> cases b <;>
    · go_wp2_with fail
      refine Calls.mono (HSN.out _ _ _ _ _ HX4.out.1 HX4.out.2.1 (HX45.out.up HU58.out) (HX5.out.up HU58.out)) ?_
      rintro e w9 ⟨rfl, hu⟩
      have HV9 := Lib.hid (HV8.out.trans hu)
      clear hu
      go_wp2_with fail
      refine Calls.mono (HAW.out _ HV9.out) ?_
      rintro e w10 ⟨rfl, hu⟩
      have HV10 := Lib.hid (HV9.out.trans hu)
      clear hu
      go_wp2
      go_ret
      exact ⟨rfl, HV10.out⟩
end Go.Proofs.YtacbjbnocepnaaaGreatDoor
