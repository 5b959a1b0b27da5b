/- Lists of one's own: append of a slice of elements, a row stored; plain facts about the reference's elimination, and one contract of the clearing of a row. -/
import Derived.Test.YtacbjbnocepnaaaGreatDoorQHR
import Derived.Test.YtacbjbnocepnaaaGreatDoorQHX
import Derived.Test.YtacbjbnocepnaaaGreatDoorQIB
namespace Go.Proofs.YtacbjbnocepnaaaGreatDoor
open Go.RowKit Fm
theorem run_pushM (w : World) (base : Nat) (t ty e : TypeId) (i : TypeInfo) (z : Value) (size bytes : Nat) (ht : Tryz.prog.underlying t = some (.slice e)) (hi : Tryz.prog.info? e = some i) (hz : i.zero = some z)
    (hsize : i.size = size) (hby : i.bytes = bytes) (hzs : z.cells.size = size) (hsz : 0 < size)
    (v : Value) (n : Nat) (xs : List Value) (hown : w.ownsRow base e size v n xs) (hnd : NoDigs w v.ownBlock)
    (a : Addr) (m c : Nat) (hm0 : 0 < m ∨ v ≠ .slice none 0 0) (news : List Value) (hl : news.length = m * size) (hnews : ∀ j u, news[j]? = some u → w.cell? (a.add j) = some u) (h1 : ∀ u ∈ news, u.oneCell' = true)
    (hnn : ∀ u ∈ news, NoDig u) (hzz : ∀ u ∈ z.cells.toList, NoDig u) (h63 : n + m ≤ maxLen) (hbytes : (n + m) * bytes ≤ 140737488355328) (hbase : base ≤ w.heap.size) :
    ∃ v' w', (Builtin.append_ #[t, t] ty #[v, .slice (some a) m c]).run Tryz.prog w = .ok v' w' ∧ w'.ownsRow base e size v' (n + m) (xs ++ news) ∧ w.grownBy w' v.ownBlock ∧ NoDigs w' v'.ownBlock ∧ (v'.ownBlock = v.ownBlock ∨ (v'.ownBlock = some w.heap.size ∧ w.grownBy w' (some w.heap.size))) := by
  have hl1 := hl
  obtain ⟨v', w', hr, h2, h3, -⟩ := run_append_own (P := Tryz.prog) w base t ty e i z size bytes ht hi hz hsize hby hzs hsz v n xs hown a m c news hl1 hnews h1 h63 hbytes hbase
  refine ⟨v', w', hr, h2, h3, ?_⟩
  have hsmall : n + m ≤ 9223372036854775807 := by simp only [maxLen] at h63; omega
  subst hsize
  subst hby
  rcases hown.2 with ⟨rfl, rfl⟩ | ⟨g, cap, cur, rfl, hbg, hg, hnc, hcm, hcs, htake⟩
  · have hm0 : 0 < m := hm0.resolve_right fun h => h rfl
    have hr2 := run_append_nil (P := Tryz.prog) w t ty e i z ht hi hz a m c news hl1 hnews (by first | omega | (rw [Nat.zero_add] at hbytes; omega)) (by first | omega | (rw [Nat.zero_add] at hbytes; omega)) (by first | omega | (rw [Nat.zero_add] at hbytes; omega))
    rw [hr2] at hr
    injection hr with e1 e2
    subst e1; subst e2
    refine ⟨fun g hg => ?_, .inr ⟨rfl, rfl, rfl, rfl, by simp, fun k hk _ => heap_alloc_old w.drew _ hk⟩⟩
    cases hg
    refine nodig_heap (heap_alloc_new w.drew _) fun u hu => ?_
    simp only [Array.toList_append, List.mem_append] at hu
    rcases hu with hu | hu
    · exact hnn u hu
    · exact nodig_zero (by rw [hzs]; exact hsz) hzz _ u hu
  · by_cases hroom : n + m ≤ cap
    · have hfit : n * i.size + news.length ≤ cur.size := by rw [hl1, hcs, ← Nat.add_mul]; exact Nat.mul_le_mul_right _ hroom
      have hr2 := run_append_room (P := Tryz.prog) w t ty e i ht hi g n cap cur hg a m c news hl1 hnews h1 hroom hfit
      rw [hr2] at hr
      injection hr with e1 e2
      subst e1; subst e2
      have hcur : ∀ u ∈ cur.toList, NoDig u := fun u hu => by
        obtain ⟨j, hj, rfl⟩ := List.mem_iff_getElem.1 hu
        intro x e
        refine hnd g rfl j x ?_
        rw [cell_of_row w g j _ _ _ hg, ← e]
        simp at hj
        rw [Array.getElem?_eq_getElem hj]; simp
      refine ⟨fun g' hg' => ?_, .inl rfl⟩
      cases hg'
      refine nodig_heap (setRow_heap w g cur _ e _ hg) fun u hu => ?_
      simp only [List.mem_append] at hu
      rcases hu with (hu | hu) | hu
      · exact hcur u (List.mem_of_mem_take hu)
      · exact hnn u hu
      · exact hcur u (List.mem_of_mem_drop hu)
    · have holds : ∀ j u, xs[j]? = some u → w.cell? ((⟨g, 0, none⟩ : Addr).add j) = some u := hown.cells (g := g) rfl
      have hr2 := run_append_grow (P := Tryz.prog) w t ty e i z ht hi hz ⟨g, 0, none⟩ n cap xs hown.1 holds a m c news hl1 hnews (by omega) (by omega) (growslice_fits (by omega) hbytes)
      rw [hr2] at hr
      injection hr with e1 e2
      subst e1; subst e2
      refine ⟨fun g' hg' => ?_, .inr ⟨rfl, rfl, rfl, rfl, by simp, fun k hk _ => heap_alloc_old w.drew _ hk⟩⟩
      cases hg'
      refine nodig_heap (heap_alloc_new w.drew _) fun u hu => ?_
      simp only [Array.toList_append, List.mem_append] at hu
      rcases hu with (hu | hu) | hu
      · have hmm : u ∈ cur.toList := by rw [← htake] at hu; exact List.mem_of_mem_take (by simpa using hu)
        obtain ⟨j, hj, rfl⟩ := List.mem_iff_getElem.1 hmm
        intro x e
        refine hnd g rfl j x ?_
        rw [cell_of_row w g j _ _ _ hg, ← e]
        simp at hj
        rw [Array.getElem?_eq_getElem hj]; simp
      · exact hnn u hu
      · exact nodig_zero (by rw [hzs]; exact hsz) hzz _ u hu
theorem pat_pushM (ok : Nat → Value → Prop) (w : World) (base : Nat) (t ty e : TypeId) (i : TypeInfo) (z : Value) (size bytes : Nat) (ht : Tryz.prog.underlying t = some (.slice e)) (hi : Tryz.prog.info? e = some i) (hz : i.zero = some z)
    (hsize : i.size = size) (hby : i.bytes = bytes) (hzs : z.cells.size = size) (hsz : 0 < size)
    (v : Value) (n : Nat) (xs : List Value) (hown : w.ownsRow base e size v n xs) (hp : Pat ok size w v.ownBlock)
    (a : Addr) (m c : Nat) (hm0 : 0 < m ∨ v ≠ .slice none 0 0) (news : List Value) (hl : news.length = m * size) (hnews : ∀ j u, news[j]? = some u → w.cell? (a.add j) = some u) (h1 : ∀ u ∈ news, u.oneCell' = true)
    (hnn : PatL ok size news) (hzz : ∀ j u, z.cells[j]? = some u → ok j u) (h63 : n + m ≤ maxLen) (hbytes : (n + m) * bytes ≤ 140737488355328)
    (v' : Value) (w' : World) (hr : (Builtin.append_ #[t, t] ty #[v, .slice (some a) m c]).run Tryz.prog w = .ok v' w') : Pat ok size w' v'.ownBlock := by
  have hl1 := hl
  have hsmall : n + m ≤ 9223372036854775807 := by simp only [maxLen] at h63; omega
  subst hsize
  subst hby
  rcases hown.2 with ⟨rfl, rfl⟩ | ⟨g, cap, cur, rfl, hbg, hg, hnc, hcm, hcs, htake⟩
  · have hm0 : 0 < m := hm0.resolve_right fun h => h rfl
    have hr2 := run_append_nil (P := Tryz.prog) w t ty e i z ht hi hz a m c news hl1 hnews (by first | omega | (rw [Nat.zero_add] at hbytes; omega)) (by first | omega | (rw [Nat.zero_add] at hbytes; omega)) (by first | omega | (rw [Nat.zero_add] at hbytes; omega))
    rw [hr2] at hr
    injection hr with e1 e2
    subst e1; subst e2
    intro g hg
    cases hg
    refine pat_heap (heap_alloc_new w.drew _) ?_
    simp only [Array.toList_append]
    exact hnn.append (by rw [hl, Nat.mul_mod_left]) (hzs ▸ PatL.zero (by rw [hzs]; exact hsz) hzz _)
  · by_cases hroom : n + m ≤ cap
    · have hfit : n * i.size + news.length ≤ cur.size := by rw [hl1, hcs, ← Nat.add_mul]; exact Nat.mul_le_mul_right _ hroom
      have hr2 := run_append_room (P := Tryz.prog) w t ty e i ht hi g n cap cur hg a m c news hl1 hnews h1 hroom hfit
      rw [hr2] at hr
      injection hr with e1 e2
      subst e1; subst e2
      have hcur := heap_pat hg hp
      intro g' hg'
      cases hg'
      refine pat_heap (setRow_heap w g cur _ e _ hg) ?_
      have hmm : n * i.size ≤ cur.toList.length := by simp; omega
      refine (((hcur.take _).append ?_ hnn).append ?_ (hcur.drop ?_))
      · rw [List.length_take, Nat.min_eq_left hmm, Nat.mul_mod_left]
      · rw [List.length_append, List.length_take, Nat.min_eq_left hmm, hl, ← Nat.add_mul, Nat.mul_mod_left]
      · rw [hl, ← Nat.add_mul, Nat.mul_mod_left]
    · have holds : ∀ j u, xs[j]? = some u → w.cell? ((⟨g, 0, none⟩ : Addr).add j) = some u := hown.cells (g := g) rfl
      have hr2 := run_append_grow (P := Tryz.prog) w t ty e i z ht hi hz ⟨g, 0, none⟩ n cap xs hown.1 holds a m c news hl1 hnews (by omega) (by omega) (growslice_fits (by omega) hbytes)
      rw [hr2] at hr
      injection hr with e1 e2
      subst e1; subst e2
      intro g' hg'
      cases hg'
      have hcur := heap_pat hg hp
      refine pat_heap (heap_alloc_new w.drew _) ?_
      simp only [Array.toList_append]
      have hxs : PatL ok i.size xs := by
        have h9 := hcur.take (n * i.size)
        have h8 : xs = cur.toList.take (n * i.size) := by first | exact htake.symm | (rw [← htake]; simp)
        rw [h8]; exact h9
      have hxl : xs.length % i.size = 0 := by rw [hown.1, Nat.mul_mod_left]
      refine ((hxs.append hxl hnn).append ?_ (hzs ▸ PatL.zero (by rw [hzs]; exact hsz) hzz _))
      simp only [List.length_append, hown.1, hl]
      rw [← Nat.add_mul, Nat.mul_mod_left]
theorem Elts.join {α : Type} {E : Elt α} {w : World} {o : Option Nat} {css2 : List (List Value)} {zs2 : List α} (h2 : Elts E w o css2 zs2) : ∀ {css : List (List Value)} {zs : List α}, Elts E w o css zs → Elts E w o (css ++ css2) (zs ++ zs2)
  | [], [], _ => h2
  | _ :: _, _ :: _, h => ⟨h.1, Elts.join h2 h.2⟩
  | [], _ :: _, h => h.elim
  | _ :: _, [], h => h.elim
theorem Elts.flat_len {α : Type} {E : Elt α} {w : World} {o : Option Nat} : ∀ {css : List (List Value)} {zs : List α}, Elts E w o css zs → css.flatten.length = zs.length * E.size
  | [], [], _ => by simp
  | cs :: css, z :: zs, h => by
    rw [List.flatten_cons, List.length_append, E.len h.1, Elts.flat_len h.2, List.length_cons, Nat.succ_mul]; omega
  | [], _ :: _, h => h.elim
  | _ :: _, [], h => h.elim
theorem Elts.all {α : Type} {E : Elt α} {w : World} {o : Option Nat} {p : Value → Prop} (hp : ∀ {cs z}, E.rel w o cs z → ∀ u ∈ cs, p u) : ∀ {css : List (List Value)} {zs : List α}, Elts E w o css zs → ∀ u ∈ css.flatten, p u
  | [], [], _ => fun u hu => by simp at hu
  | cs :: css, z :: zs, h => fun u hu => by
    rw [List.flatten_cons, List.mem_append] at hu
    rcases hu with hu | hu
    · exact hp h.1 u hu
    · exact Elts.all hp h.2 u hu
  | [], _ :: _, h => h.elim
  | _ :: _, [], h => h.elim
theorem Elts.pat {α : Type} {E : Elt α} {ok : Nat → Value → Prop} {w : World} {o : Option Nat} (hok : ∀ {cs z}, E.rel w o cs z → ∀ j u, cs[j]? = some u → ok j u) : ∀ {css : List (List Value)} {zs : List α}, Elts E w o css zs → PatL ok E.size css.flatten
  | [], [], _ => fun j u e => by simp at e
  | cs :: css, z :: zs, h => by
    rw [List.flatten_cons]
    exact (PatL.one (E.len h.1) (hok h.1)).append (by rw [E.len h.1, Nat.mod_self]) (Elts.pat hok h.2)
  | [], _ :: _, h => h.elim
  | _ :: _, [], h => h.elim
end Go.Proofs.YtacbjbnocepnaaaGreatDoor
namespace Go.Proofs.YtacbjbnocepnaaaGreatDoor
open Go.RowKit Fm
theorem flatten_set {α : Type} (size : Nat) : ∀ (css : List (List α)) (i : Nat) (cs : List α), (∀ x, x ∈ css → x.length = size) → cs.length = size → i < css.length → (css.set i cs).flatten = css.flatten.take (i * size) ++ cs ++ css.flatten.drop (i * size + size) := by
  intro css
  induction css with
  | nil => intro i cs _ _ hi; simp at hi
  | cons c0 css ih =>
    intro i cs h hc hi
    have h0 := h c0 (by simp)
    cases i with
    | zero =>
      simp only [List.set_cons_zero, List.flatten_cons, Nat.zero_mul, List.take_zero, List.nil_append, Nat.zero_add]
      rw [List.drop_append_of_le_length (by omega), List.drop_of_length_le (by omega), List.nil_append]
    | succ i =>
      have e1 : (i + 1) * size = c0.length + i * size := by rw [Nat.succ_mul, h0]; omega
      have t1 : (c0 ++ css.flatten).take (c0.length + i * size) = c0 ++ css.flatten.take (i * size) := by simp [List.take_append, List.take_of_length_le]
      have t2 : (c0 ++ css.flatten).drop (c0.length + (i * size + size)) = css.flatten.drop (i * size + size) := by simp [List.drop_append, List.drop_of_length_le]
      rw [List.set_cons_succ, List.flatten_cons, List.flatten_cons, ih i cs (fun x hx => h x (by simp [hx])) hc (by simpa using hi), e1, Nat.add_assoc, t1, t2]
      simp [List.append_assoc]
theorem set4 {α : Type} (a b c d : α) : ∀ (o : Nat) (l : List α), o + 4 ≤ l.length → (((l.set o a).set (o + 1) b).set (o + 2) c).set (o + 3) d = l.take o ++ [a, b, c, d] ++ l.drop (o + 4) := by
  intro o
  induction o with
  | zero =>
    intro l h
    match l, h with
    | x0 :: x1 :: x2 :: x3 :: l, _ => rfl
  | succ o ih =>
    intro l h
    match l, h with
    | x :: l, h =>
      have := ih l (by simpa using h)
      have e1 : o + 1 + 4 = (o + 4) + 1 := by omega
      have e2 : o + 1 + 1 = (o + 1) + 1 := rfl
      have e3 : o + 1 + 2 = (o + 2) + 1 := by omega
      have e4 : o + 1 + 3 = (o + 3) + 1 := by omega
      rw [e1, e3, e4, List.set_cons_succ, List.set_cons_succ, List.set_cons_succ, List.set_cons_succ, this, List.take_succ_cons, List.drop_succ_cons, List.cons_append, List.cons_append]
theorem take_set4 {α : Type} (x : List α) (l : List α) (o m : Nat) (hx : x.length = 4) (ho : o + 4 ≤ m) (hm : m ≤ l.length) : (l.take o ++ x ++ l.drop (o + 4)).take m = (l.take m).take o ++ x ++ (l.take m).drop (o + 4) := by
  have h1 : (l.take o).length = o := by rw [List.length_take]; omega
  rw [List.append_assoc, List.take_append, List.take_append, h1, hx, List.take_of_length_le (l := l.take o) (by omega), List.take_of_length_le (l := x) (by omega), List.take_take, Nat.min_eq_left (by omega), List.drop_take, List.append_assoc, show m - o - 4 = m - (o + 4) by omega]
theorem Elts.lens {α : Type} {E : Elt α} {w : World} {o : Option Nat} : ∀ {css : List (List Value)} {zs : List α}, Elts E w o css zs → ∀ x, x ∈ css → x.length = E.size
  | [], [], _, x, hx => by simp at hx
  | _ :: _, _ :: _, h, x, hx => by
    rcases List.mem_cons.1 hx with e | hx
    · rw [e]; exact E.len h.1
    · exact Elts.lens h.2 x hx
  | [], _ :: _, h, _, _ => h.elim
  | _ :: _, [], h, _, _ => h.elim
theorem Elts.set_ {α : Type} {E : Elt α} {w : World} {o : Option Nat} {cs : List Value} {z : α} (hz : E.rel w o cs z) : ∀ {css : List (List Value)} {zs : List α} (i : Nat), Elts E w o css zs → Elts E w o (css.set i cs) (zs.set i z)
  | [], [], _, _ => trivial
  | _ :: _, _ :: _, 0, h => ⟨hz, h.2⟩
  | _ :: _, _ :: _, i + 1, h => ⟨h.1, Elts.set_ hz i h.2⟩
  | [], _ :: _, _, h => h.elim
  | _ :: _, [], _, h => h.elim
def put4c (w : World) (g o : Nat) (a b c d : Value) : World := (((w.setCell ⟨g, o, none⟩ a).setCell ⟨g, o + 1, none⟩ b).setCell ⟨g, o + 2, none⟩ c).setCell ⟨g, o + 3, none⟩ d
theorem put4c_heap {w : World} {g o : Nat} {cur : Array Value} {t : TypeId} (hg : w.heap[g]? = some (.cells cur t (0, 0))) (a b c d : Value) : (put4c w g o a b c d).heap[g]? = some (.cells ((((cur.setIfInBounds o a).setIfInBounds (o + 1) b).setIfInBounds (o + 2) c).setIfInBounds (o + 3) d) t (0, 0)) := by
  unfold put4c
  simp [World.setCell, Array.getElem?_modify, hg]
theorem put4c_grown (w : World) (g o : Nat) (a b c d : Value) : w.grownBy (put4c w g o a b c d) (some g) := by
  refine ⟨rfl, rfl, rfl, by simp [put4c, World.setCell], fun k hk hne => ?_⟩
  have hkg : k ≠ g := fun e => hne (by rw [e])
  unfold put4c
  exact (Below.heap_setCell _ ⟨g, o + 3, none⟩ d k hkg).trans ((Below.heap_setCell _ ⟨g, o + 2, none⟩ c k hkg).trans ((Below.heap_setCell _ ⟨g, o + 1, none⟩ b k hkg).trans (Below.heap_setCell w ⟨g, o, none⟩ a k hkg)))
theorem OwP.storeW {w0 w : World} {g n cap : Nat} {zs : List (List Int × Int)} (h : OwP eltW okW w0 w 59 (.slice (some ⟨g, 0, none⟩) n cap) zs) {i : Nat} (hi : i < zs.length) {A : Option Addr} {k c : Nat} {s : Int} {b : Bool} {A2 : Option Addr} {n2 c2 : Nat} {z : List Int × Int} (hz : eltW.rel w (some g) [.slice A k c, .int .i64 s, .bool b, .slice A2 n2 c2] z) :
    OwP eltW okW w0 (put4c w g (i * 4) (.slice A k c) (.int .i64 s) (.bool b) (.slice A2 n2 c2)) 59 (.slice (some ⟨g, 0, none⟩) n cap) (zs.set i z) := by
  obtain ⟨⟨css, h1, ⟨hl, h2⟩, h3⟩, hp⟩ := h
  rcases h2 with ⟨e, -⟩ | ⟨g', cap', cur, e, hb, hg, hnc, hcm, hcs, htk⟩
  · cases e
  injection e with e1 e2 e3
  injection e1 with e1
  injection e1 with e1
  subst e1; subst e3
  have hgr := put4c_grown w g (i * 4) (.slice A k c) (.int .i64 s) (.bool b) (.slice A2 n2 c2)
  have hh := put4c_heap (o := i * 4) hg (.slice A k c) (.int .i64 s) (.bool b) (.slice A2 n2 c2)
  have hcl : css.length = zs.length := h1.length
  have hsz : eltW.size = 4 := rfl
  rw [hsz] at hl htk hcs
  have hfl := h1.flat_len
  rw [hsz] at hfl
  have hio : i * 4 + 4 ≤ zs.length * 4 := by omega
  have hlc : zs.length * 4 ≤ cur.size := by
    have := congrArg List.length htk
    rw [List.length_take] at this
    simp at this
    omega
  have harr : ((((cur.setIfInBounds (i * 4) (.slice A k c)).setIfInBounds (i * 4 + 1) (.int .i64 s)).setIfInBounds (i * 4 + 2) (.bool b)).setIfInBounds (i * 4 + 3) (.slice A2 n2 c2)).toList = cur.toList.take (i * 4) ++ [.slice A k c, .int .i64 s, .bool b, .slice A2 n2 c2] ++ cur.toList.drop (i * 4 + 4) := by
    simp only [Array.toList_setIfInBounds]
    exact set4 _ _ _ _ (i * 4) cur.toList (by simp; omega)
  have hn : n = zs.length := by omega
  have hset : (css.set i [.slice A k c, .int .i64 s, .bool b, .slice A2 n2 c2]).flatten = css.flatten.take (i * 4) ++ [.slice A k c, .int .i64 s, .bool b, .slice A2 n2 c2] ++ css.flatten.drop (i * 4 + 4) := flatten_set 4 css i _ h1.lens rfl (by omega)
  have hcur : ∀ u ∈ cur.toList, NoDig u := fun u hu => by
    obtain ⟨j, hj, rfl⟩ := List.mem_iff_getElem.1 hu
    intro x e
    refine h3 g rfl j x ?_
    rw [cell_of_row w g j _ _ _ hg, ← e]
    simp at hj
    rw [Array.getElem?_eq_getElem hj]; simp
  have hpat : PatL okW 4 cur.toList := heap_pat hg hp
  have hln : css.flatten.length = zs.length * 4 := hfl
  have hsl : (zs.set i z).length = zs.length := List.length_set
  refine ⟨⟨css.set i [.slice A k c, .int .i64 s, .bool b, .slice A2 n2 c2], ?_, ⟨?_, .inr ⟨g, cap, _, by rw [hsl, hn], hb, hh, by rw [hsl]; exact hnc, hcm, ?_, ?_⟩⟩, ?_⟩, ?_⟩
  · exact (Elts.set_ hz i h1).map fun h => eltW.grow h hgr h3
  · rw [hset]
    simp only [List.length_append, List.length_take, List.length_drop, List.length_cons, List.length_nil]
    rw [hsl]
    show _ = zs.length * 4
    omega
  · simp only [Array.size_setIfInBounds]
    exact hcs
  · rw [hsl]
    show List.take (zs.length * 4) _ = _
    rw [harr, hset, take_set4 _ _ _ _ rfl (by omega) (by simp; omega), htk]
  · intro g' hg'
    cases hg'
    refine nodig_heap hh fun u hu => ?_
    rw [harr] at hu
    simp only [List.mem_append] at hu
    rcases hu with (hu | hu) | hu
    · exact hcur u (List.mem_of_mem_take hu)
    · exact eltW.nod hz u hu
    · exact hcur u (List.mem_of_mem_drop hu)
  · intro g' hg'
    cases hg'
    refine pat_heap hh ?_
    rw [harr]
    have hi4 : (cur.toList.take (i * 4)).length = i * 4 := by rw [List.length_take]; simp; omega
    exact ((hpat.take _).append (by rw [hi4, Nat.mul_mod_left]) (PatL.one rfl okW_elt)).append (by rw [List.length_append, hi4]; simp) (hpat.drop (by omega))
end Go.Proofs.YtacbjbnocepnaaaGreatDoor
namespace Go.Proofs.YtacbjbnocepnaaaGreatDoor
open Fm
def clearR (p : List Int) (v : Nat) (r : List Int) : List Int :=
  if r.getD v 0 = 0 then r else
    primR (plusR (timesR (if p.getD v 0 < 0 then -(p.getD v 0) else p.getD v 0) r) (timesR (if p.getD v 0 < 0 then r.getD v 0 else -(r.getD v 0)) p))
def stepS (v : Nat) (st : List (List Int) × List (List Int)) : List (List Int) × List (List Int) :=
  match st.1.findIdx? (fun r => decide (r.getD v 0 ≠ 0)) with
  | none => st
  | some a => ((st.1.eraseIdx a).map (clearR (posR v (primR (st.1.getD a []))) v), st.2.map (clearR (posR v (primR (st.1.getD a []))) v) ++ [posR v (primR (st.1.getD a []))])
def solvedS (k : Nat) (l : List (List Int)) : List (List Int) × List (List Int) := (List.range k).foldl (fun st v => stepS v st) (l, [])
theorem solvedS_next (k : Nat) (l : List (List Int)) : solvedS (k + 1) l = stepS k (solvedS k l) := by
  unfold solvedS; rw [List.range_succ, List.foldl_append]; rfl
theorem clearR_length {p r : List Int} {v : Nat} (h : r.length = p.length) : (clearR p v r).length = r.length := by
  unfold clearR
  split
  · rfl
  · rw [primR_length]; simp [plusR, timesR, h]
theorem mix_get {r p : List Int} (h : r.length = p.length) (k m : Int) (i : Nat) : (plusR (timesR k r) (timesR m p)).getD i 0 = r.getD i 0 * k + p.getD i 0 * m := by
  rw [getD_zip _ _ (by simp [timesR, h])]
  unfold timesR
  rw [getD_map0 _ (by simp), getD_map0 _ (by simp)]
theorem clearR_at {p r : List Int} {v : Nat} (h : r.length = p.length) : (clearR p v r).getD v 0 = 0 := by
  unfold clearR
  split
  · assumption
  · rw [primR_zero, mix_get h]
    split
    · rw [Int.mul_neg, Int.mul_comm (p.getD v 0)]; omega
    · rw [Int.mul_neg, Int.mul_comm (p.getD v 0)]; omega
theorem clearR_zero {p r : List Int} {v i : Nat} (h : r.length = p.length) (hr : r.getD i 0 = 0) (hp : p.getD i 0 = 0) : (clearR p v r).getD i 0 = 0 := by
  unfold clearR
  split
  · exact hr
  · rw [primR_zero, mix_get h, hr, hp]; simp
theorem primR_sign (r : List Int) (i : Nat) (h : 0 < r.getD i 0) : 0 < (primR r).getD i 0 := by
  obtain ⟨g, h0, h1, h2⟩ := primR_times r
  have e : (timesR g (primR r)).getD i 0 = (primR r).getD i 0 * g := by unfold timesR; exact getD_map0 _ (by simp) _ _
  rw [h2] at e
  rw [e] at h
  rcases Int.lt_or_le 0 ((primR r).getD i 0) with h3 | h3
  · exact h3
  · have := Int.mul_nonpos_of_nonpos_of_nonneg h3 h1
    omega
theorem clearR_pos {p r : List Int} {v i : Nat} (h : r.length = p.length) (hr : 0 < r.getD i 0) (hp : p.getD i 0 = 0) (hpv : p.getD v 0 ≠ 0) : 0 < (clearR p v r).getD i 0 := by
  unfold clearR
  split
  · exact hr
  · refine primR_sign _ _ ?_
    rw [mix_get h, hp]
    split
    · have : 0 < r.getD i 0 * -(p.getD v 0) := Int.mul_pos hr (by omega)
      omega
    · have : 0 < r.getD i 0 * p.getD v 0 := Int.mul_pos hr (by omega)
      omega
theorem clearR_prim {p r : List Int} {v i : Nat} (h : r.length = p.length) (hr : PrimR r) (h0 : 0 < r.getD i 0) (hp : p.getD i 0 = 0) (hpv : p.getD v 0 ≠ 0) : PrimR (clearR p v r) := by
  have h2 := clearR_pos (v := v) h h0 hp hpv
  unfold clearR at h2 ⊢
  split
  · exact hr
  · rename_i hh
    rw [if_neg hh] at h2
    exact primR_prim (c := i) (fun e => by rw [(primR_zero _ i).2 e] at h2; omega)
theorem dotR_clear {p r : List Int} {v : Nat} (h : r.length = p.length) (hpv : p.getD v 0 ≠ 0) (X : Nat → Rat) (h0 : dotR p X = 0) : dotR (clearR p v r) X = 0 ↔ dotR r X = 0 := by
  unfold clearR
  split
  · exact Iff.rfl
  · rw [dotR_prim, dotR_plus _ _ _ (by simp [timesR, h]), dotR_times, dotR_times, h0, Rat.mul_zero, Rat.add_zero]
    constructor
    · intro e
      rcases Rat.mul_eq_zero.1 e with e | e
      · exfalso
        have := int_rat_zero.1 e
        split at this <;> omega
      · exact e
    · intro e; rw [e, Rat.mul_zero]
structure SolInv (n v : Nat) (l rest out : List (List Int)) (T : Sys) : Prop where
  ech : Ech n T
  prim : ∀ c r, T.getD c none = some r → PrimR r ∧ 0 < r.getD c 0
  zero : ∀ c d r q, d ≠ c → T.getD c none = some r → T.getD d none = some q → q.getD c 0 = 0
  none_ : ∀ c, v ≤ c → T.getD c none = none
  len : ∀ r, r ∈ rest → r.length = n + 1
  before : ∀ r, r ∈ rest → ∀ i, i < v → r.getD i 0 = 0
  out_ : out = rowsR v T
  sol : ∀ X, ((∀ r, r ∈ rest → dotR r X = 0) ∧ ZS T X) ↔ ∀ r, r ∈ l → dotR r X = 0
theorem rowsR_succ (v : Nat) (T : Sys) : rowsR (v + 1) T = rowsR v T ++ (match T.getD v none with | none => [] | some r => [r]) := by
  unfold rowsR leadR
  rw [List.range_succ, List.filter_append, List.map_append]
  congr 1
  cases h : T.getD v none with
  | none => rw [List.getD_eq_getElem?_getD] at h; simp [List.filter, h]
  | some r => rw [List.getD_eq_getElem?_getD] at h; simp [List.filter, h]
theorem rowsR_map {v : Nat} {T U : Sys} {f : List Int → List Int} (h : ∀ c, c < v → U.getD c none = (T.getD c none).map f) : rowsR v U = (rowsR v T).map f := by
  induction v with
  | zero => simp [rowsR, leadR]
  | succ v ih =>
    rw [rowsR_succ, rowsR_succ, List.map_append, ih (fun c hc => h c (by omega)), h v (by omega)]
    congr 1
    cases T.getD v none <;> simp
theorem findIdx_some {l : List (List Int)} {v a : Nat} (h : l.findIdx? (fun r => decide (r.getD v 0 ≠ 0)) = some a) : ∃ ha : a < l.length, (l[a]).getD v 0 ≠ 0 := by
  rw [List.findIdx?_eq_some_iff_getElem] at h
  obtain ⟨h1, h2, -⟩ := h
  exact ⟨h1, by simpa using h2⟩
theorem findIdx_none {l : List (List Int)} {v : Nat} (h : l.findIdx? (fun r => decide (r.getD v 0 ≠ 0)) = none) : ∀ r, r ∈ l → r.getD v 0 = 0 := by
  rw [List.findIdx?_eq_none_iff] at h
  intro r hr
  have := h r hr
  simpa using this
theorem mem_erase_cases {l : List (List Int)} {a : Nat} (ha : a < l.length) (r : List Int) : r ∈ l ↔ r = l[a] ∨ r ∈ l.eraseIdx a := by
  constructor
  · intro h
    obtain ⟨i, hi, rfl⟩ := List.mem_iff_getElem.1 h
    by_cases e : i = a
    · subst e; left; rfl
    · right; exact (List.mem_eraseIdx_iff_getElem).2 ⟨i, hi, e, rfl⟩
  · rintro (rfl | h)
    · exact List.getElem_mem ha
    · exact List.mem_of_mem_eraseIdx h
theorem step_inv {n v : Nat} (hn : n ≤ 9) (hv : v < n) {l rest out : List (List Int)} {T : Sys} (h : SolInv n v l rest out T) : ∃ U, SolInv n (v + 1) l (stepS v (rest, out)).1 (stepS v (rest, out)).2 U := by
  unfold stepS
  cases hf : rest.findIdx? (fun r => decide (r.getD v 0 ≠ 0)) with
  | none =>
    have h0 := findIdx_none hf
    refine ⟨T, h.ech, h.prim, h.zero, fun c hc => h.none_ c (by omega), h.len, fun r hr i hi => ?_, ?_, h.sol⟩
    · rcases Nat.lt_or_ge i v with h1 | h1
      · exact h.before r hr i h1
      · have : i = v := by omega
        subst this; exact h0 r hr
    · rw [rowsR_succ, h.none_ v (Nat.le_refl _), List.append_nil]; exact h.out_
  | some a =>
    obtain ⟨ha, hne⟩ := findIdx_some hf
    have hga : rest.getD a [] = rest[a] := by rw [List.getD_eq_getElem?_getD, List.getElem?_eq_getElem ha]; rfl
    simp only
    rw [hga]
    have hmem := List.getElem_mem ha
    generalize hra : rest[a] = ra at *
    have hlr : LeadAt n v ra := ⟨h.len _ hmem, by omega, hne, fun i hi => h.before _ hmem i hi⟩
    have hlp : LeadAt n v (posR v (primR ra)) := posR_lead (primR_lead hlr)
    have hpp : PrimR (posR v (primR ra)) := (primR_prim hne).pos v
    have hps : 0 < (posR v (primR ra)).getD v 0 := posR_pos (fun e => hne ((primR_zero ra v).1 e))
    have hpd : ∀ X, dotR (posR v (primR ra)) X = 0 ↔ dotR ra X = 0 := fun X => by rw [dotR_pos, dotR_prim]
    generalize posR v (primR ra) = p at *
    have hU : ∀ c, ((T.map (Option.map (clearR p v))).set v (some p)).getD c none = if c = v then some p else (T.getD c none).map (clearR p v) := by
      intro c
      rw [getD_set _ v c _ (by rw [List.length_map, h.ech.1]; omega)]
      split
      · rename_i e; rw [if_pos e.symm]
      · rename_i e
        rw [if_neg (Ne.symm e)]
        simp only [List.getD_eq_getElem?_getD, List.getElem?_map]
        cases T[c]? <;> rfl
    have hT : ∀ c t, T.getD c none = some t → c < v ∧ t.length = p.length := fun c t ht => by
      refine ⟨?_, by rw [(h.ech.2 c t ht).len, hlp.len]⟩
      rcases Nat.lt_or_ge c v with h1 | h1
      · exact h1
      · rw [h.none_ c h1] at ht; cases ht
    have hpz : ∀ c t, T.getD c none = some t → p.getD c 0 = 0 := fun c t ht => hlp.before c (hT c t ht).1
    have hlead : ∀ c t, T.getD c none = some t → LeadAt n c (clearR p v t) := fun c t ht => by
      have h1 := h.ech.2 c t ht
      obtain ⟨h2, h3⟩ := hT c t ht
      refine ⟨by rw [clearR_length h3, h1.len], h1.le, ?_, fun i hi => clearR_zero h3 (h1.before i hi) (hlp.before i (by omega))⟩
      have := clearR_pos (v := v) h3 (h.prim c t ht).2 (hpz c t ht) (by omega)
      omega
    refine ⟨(T.map (Option.map (clearR p v))).set v (some p), ⟨by simp [h.ech.1], fun c r hr => ?_⟩, fun c r hr => ?_, fun c d r q hd hr hq => ?_, fun c hc => ?_, fun r hr => ?_, fun r hr i hi => ?_, ?_, fun X => ?_⟩
    · rw [hU] at hr
      split at hr
      · rename_i e; subst e; cases hr; exact hlp
      · cases ht : T.getD c none with
        | none => rw [ht] at hr; cases hr
        | some t => rw [ht] at hr; cases hr; exact hlead c t ht
    · rw [hU] at hr
      split at hr
      · rename_i e; subst e; cases hr; exact ⟨hpp, hps⟩
      · cases ht : T.getD c none with
        | none => rw [ht] at hr; cases hr
        | some t =>
          rw [ht] at hr; cases hr
          obtain ⟨h2, h3⟩ := hT c t ht
          obtain ⟨h4, h5⟩ := h.prim c t ht
          exact ⟨clearR_prim h3 h4 h5 (hpz c t ht) (by omega), clearR_pos h3 h5 (hpz c t ht) (by omega)⟩
    · rw [hU] at hr hq
      by_cases hcv : c = v
      · subst hcv
        rw [if_neg hd] at hq
        cases ht : T.getD d none with
        | none => rw [ht] at hq; cases hq
        | some t => rw [ht] at hq; cases hq; exact clearR_at (hT d t ht).2
      · rw [if_neg hcv] at hr
        cases hs : T.getD c none with
        | none => rw [hs] at hr; cases hr
        | some s =>
          by_cases hdv : d = v
          · subst hdv; rw [if_pos rfl] at hq; cases hq; exact hpz c s hs
          · rw [if_neg hdv] at hq
            cases ht : T.getD d none with
            | none => rw [ht] at hq; cases hq
            | some t => rw [ht] at hq; cases hq; exact clearR_zero (hT d t ht).2 (h.zero c d s t hd hs ht) (hpz c s hs)
    · rw [hU, if_neg (by omega), h.none_ c (by omega)]; rfl
    · obtain ⟨q, hq, rfl⟩ := List.mem_map.1 hr
      have hq2 := h.len q (List.mem_of_mem_eraseIdx hq)
      rw [clearR_length (by rw [hq2, hlp.len]), hq2]
    · obtain ⟨q, hq, rfl⟩ := List.mem_map.1 hr
      have hq1 := List.mem_of_mem_eraseIdx hq
      have e : q.length = p.length := by rw [h.len q hq1, hlp.len]
      rcases Nat.lt_or_ge i v with h1 | h1
      · exact clearR_zero e (h.before q hq1 i h1) (hlp.before i h1)
      · have : i = v := by omega
        subst this; exact clearR_at e
    · rw [rowsR_succ, hU, if_pos rfl, rowsR_map (T := T) (f := clearR p v) (fun c hc => by rw [hU, if_neg (by omega)]), ← h.out_]
    · rw [← h.sol X]
      have hz : ZS ((T.map (Option.map (clearR p v))).set v (some p)) X ↔ dotR p X = 0 ∧ ZS T X := by
        constructor
        · intro hh
          have hp0 : dotR p X = 0 := hh v p (by rw [hU, if_pos rfl])
          refine ⟨hp0, fun c t ht => ?_⟩
          obtain ⟨h2, h3⟩ := hT c t ht
          have := hh c (clearR p v t) (by rw [hU, if_neg (by omega), ht]; rfl)
          exact (dotR_clear h3 (by omega) X hp0).1 this
        · rintro ⟨hp0, hh⟩ c r hr
          rw [hU] at hr
          split at hr
          · cases hr; exact hp0
          · cases ht : T.getD c none with
            | none => rw [ht] at hr; cases hr
            | some t =>
              rw [ht] at hr; cases hr
              exact (dotR_clear (hT c t ht).2 (by omega) X hp0).2 (hh c t ht)
      rw [hz, hpd X]
      constructor
      · rintro ⟨h1, h2, h3⟩
        refine ⟨fun r hr => ?_, h3⟩
        rcases (mem_erase_cases ha r).1 hr with h4 | h4
        · rw [h4, hra]; exact h2
        · exact (dotR_clear (by rw [h.len r hr, hlp.len]) (by omega) X ((hpd X).2 h2)).1 (h1 _ (List.mem_map_of_mem h4))
      · rintro ⟨h1, h3⟩
        have h2 := h1 _ hmem
        refine ⟨fun r hr => ?_, h2, h3⟩
        obtain ⟨q, hq, rfl⟩ := List.mem_map.1 hr
        have hq1 := List.mem_of_mem_eraseIdx hq
        exact (dotR_clear (by rw [h.len q hq1, hlp.len]) (by omega) X ((hpd X).2 h2)).2 (h1 q hq1)
theorem solved_inv {n : Nat} (hn : n ≤ 9) {l : List (List Int)} (hl : ∀ r, r ∈ l → r.length = n + 1) : ∀ v, v ≤ n → ∃ T, SolInv n v l (solvedS v l).1 (solvedS v l).2 T := by
  intro v
  induction v with
  | zero =>
    intro _
    refine ⟨List.replicate 10 none, startR n, fun c r h => ?_, fun c d r q _ h _ => ?_, fun c _ => ?_, hl, fun r _ i hi => by omega, by simp [solvedS, rowsR, leadR], fun X => ?_⟩
    · have := (startR n).2 c r h
      simp only [List.getD_eq_getElem?_getD, List.getElem?_replicate] at h
      split at h <;> simp at h
    · simp only [List.getD_eq_getElem?_getD, List.getElem?_replicate] at h
      split at h <;> simp at h
    · simp only [List.getD_eq_getElem?_getD, List.getElem?_replicate]; split <;> rfl
    · exact ⟨fun h => h.1, fun h => ⟨h, start_ZS X⟩⟩
  | succ v ih =>
    intro hv
    obtain ⟨T, hT⟩ := ih (by omega)
    rw [solvedS_next]
    exact step_inv hn (by omega) hT
theorem solved_eq {n : Nat} (hn : n ≤ 9) {l : List (List Int)} (hl : ∀ r, r ∈ l → r.length = n + 1) :
    ((solvedS n l).1.all (fun r => decide (r.getD n 0 = 0)) = ((sysR n l).getD n none).isNone) ∧
    ((sysR n l).getD n none = none → (solvedS n l).2 = rowsR n (sysR n l)) := by
  obtain ⟨T, h⟩ := solved_inv hn hl n (Nat.le_refl _)
  have hS := sysR_red n hn l hl
  have hTr : Red n T := ⟨h.ech, fun c r _ => h.prim c r, fun c d r q _ => h.zero c d r q⟩
  have hrest : ∀ r, r ∈ (solvedS n l).1 → ∀ X : Nat → Rat, dotR r X = ((r.getD n 0 : Int) : Rat) * X n := fun r hr X =>
    dotR_one (by rw [h.len r hr]; omega) fun i hi hin => Or.inl (h.before r hr i (by rw [h.len r hr] at hi; omega))
  by_cases hall : ∀ r, r ∈ (solvedS n l).1 → r.getD n 0 = 0
  · have e : sysR n l = T := red_unique hS hTr fun X => by
      rw [sysR_ZS n hn X l hl, ← h.sol X]
      exact ⟨fun hh => hh.2, fun hh => ⟨fun r hr => by rw [hrest r hr X, hall r hr]; exact Rat.zero_mul _, hh⟩⟩
    have hnn := h.none_ n (Nat.le_refl _)
    rw [e, hnn]
    refine ⟨?_, fun _ => h.out_⟩
    simp only [Option.isNone_none, List.all_eq_true, decide_eq_true_eq]
    exact hall
  · have hsome : ∃ q, (sysR n l).getD n none = some q := by
      cases hq : (sysR n l).getD n none with
      | some q => exact ⟨q, rfl⟩
      | none =>
        exfalso
        have h1 := (sysR_ZS n hn _ l hl).1 (spec_ZS hS (Nat.le_refl _) hq)
        have h2 := ((h.sol _).2 h1).1
        apply hall
        intro r hr
        have h3 := h2 r hr
        rw [hrest r hr] at h3
        have e1 : spec (sysR n l) n n = 1 := by unfold spec; rw [if_pos rfl]
        rw [e1, Rat.mul_one] at h3
        exact int_rat_zero.1 h3
    obtain ⟨q, hq⟩ := hsome
    rw [hq]
    refine ⟨?_, fun e => by cases e⟩
    simp only [Option.isNone_some]
    rw [Bool.eq_false_iff]
    intro hh
    apply hall
    simpa only [List.all_eq_true, decide_eq_true_eq] using hh
def bareR (n : Nat) (r : List Int) : List Int := r.take n ++ [0]
theorem dotR_append (r s : List Int) : ∀ X : Nat → Rat, dotR (r ++ s) X = dotR r X + dotR s (fun i => X (i + r.length)) := by
  induction r with
  | nil => intro X; simp [dotR, Rat.zero_add]
  | cons a r ih =>
    intro X
    simp only [List.cons_append, dotR, ih, List.length_cons]
    have e : (fun i => X (i + r.length + 1)) = fun i => X (i + (r.length + 1)) := by funext i; rfl
    rw [e, Rat.add_assoc]
theorem dotR_bare {n : Nat} {r : List Int} (h : r.length = n + 1) {X : Nat → Rat} (hX : X n = 0) : dotR (bareR n r) X = dotR r X := by
  have e : r = r.take n ++ [r.getD n 0] := (rowF_parts r n h).symm
  conv => rhs; rw [e]
  unfold bareR
  rw [dotR_append, dotR_append]
  have hl : (r.take n).length = n := by rw [List.length_take]; omega
  simp only [dotR, hl, Nat.zero_add, hX, Rat.mul_zero]
theorem lead_bare {n : Nat} (hn : n ≤ 9) {l : List (List Int)} (hl : ∀ r, r ∈ l → r.length = n + 1) : leadR n (sysR n (l.map (bareR n))) = leadR n (sysR n l) := by
  have hl2 : ∀ r, r ∈ l.map (bareR n) → r.length = n + 1 := fun r hr => by
    obtain ⟨q, h1, rfl⟩ := List.mem_map.1 hr
    have := hl q h1
    simp [bareR, this]
  have hS := sysR_red n hn l hl
  have hT := sysR_red n hn _ hl2
  have hz : ∀ X : Nat → Rat, X n = 0 → (ZS (sysR n (l.map (bareR n))) X ↔ ZS (sysR n l) X) := fun X hX => by
    rw [sysR_ZS n hn X l hl, sysR_ZS n hn X _ hl2]
    simp only [List.mem_map, forall_exists_index, and_imp, forall_apply_eq_imp_iff₂]
    exact ⟨fun hh r hr => by rw [← dotR_bare (hl r hr) hX]; exact hh r hr, fun hh r hr => by rw [dotR_bare (hl r hr) hX]; exact hh r hr⟩
  have key : ∀ (S T : Sys), Red n S → Red n T → (∀ X : Nat → Rat, X n = 0 → ZS T X → ZS S X) → ∀ c, c < n → (S.getD c none).isSome = true → (T.getD c none).isSome = true := by
    intro S T hS hT hz c hc hs
    cases hr : S.getD c none with
    | none => rw [hr] at hs; cases hs
    | some r =>
      cases ht : T.getD c none with
      | some t => rfl
      | none =>
        exfalso
        have hgt : ∀ i, c < i → i ≤ n → spec T c i = 0 := fun i hi hin => by
          unfold spec
          rw [if_neg (by omega)]
          cases hq : T.getD i none with
          | none => rfl
          | some q =>
            simp only
            rw [(hT.ech.2 i q hq).before c hi]
            have : ((0 : Int) : Rat) = 0 := rfl
            rw [this, Rat.div_def]; grind
        have h1 := hz _ (hgt n hc (Nat.le_refl _)) (spec_ZS hT (by omega) ht)
        have h2 := lead_zero hS.ech hr h1 hgt
        unfold spec at h2
        rw [if_pos rfl] at h2
        exact absurd h2 (by decide)
  unfold leadR
  apply List.filter_congr
  intro c hc
  have hc2 : c < n := List.mem_range.1 hc
  exact Bool.eq_iff_iff.2 ⟨key _ _ hT hS (fun X hX => (hz X hX).2) c hc2, key _ _ hS hT (fun X hX => (hz X hX).1) c hc2⟩
theorem bare_last {n : Nat} (hn : n ≤ 9) {l : List (List Int)} (hl : ∀ r, r ∈ l → r.length = n + 1) : (sysR n (l.map (bareR n))).getD n none = none := by
  have hl2 : ∀ r, r ∈ l.map (bareR n) → r.length = n + 1 := fun r hr => by
    obtain ⟨q, h1, rfl⟩ := List.mem_map.1 hr
    have := hl q h1
    simp [bareR, this]
  have hT := sysR_red n hn _ hl2
  cases hr : (sysR n (l.map (bareR n))).getD n none with
  | none => rfl
  | some r =>
    exfalso
    have h1 : ZS (sysR n (l.map (bareR n))) (fun i => if i = n then 1 else 0) := (sysR_ZS n hn _ _ hl2).2 fun q hq => by
      obtain ⟨t, h1, rfl⟩ := List.mem_map.1 hq
      have h2 := hl t h1
      rw [dotR_delta _ n 1 (by simp [bareR, h2])]
      have : (bareR n t).getD n 0 = 0 := by
        unfold bareR
        rw [List.getD_eq_getElem?_getD, List.getElem?_append_right (by rw [List.length_take]; omega), List.length_take]
        simp [h2]
      rw [this]; exact Rat.zero_mul _
    have h2 := lead_zero hT.ech hr h1 (fun i hi hin => by omega)
    simp at h2
end Go.Proofs.YtacbjbnocepnaaaGreatDoor
namespace Go.Proofs.YtacbjbnocepnaaaGreatDoor
open Go.RowKit Fm
def clearF (p : List Int × Int) (v : Nat) (f : List Int × Int) : List Int × Int :=
  if f.1.getD v 0 = 0 then f else primF (List.zipWith (· + ·) (f.1.map (· * p.1.getD v 0)) (p.1.map (· * -(f.1.getD v 0))), f.2 * p.1.getD v 0 + p.2 * -(f.1.getD v 0))
theorem eltR.past {w : World} {g : Nat} (hp : Pat okW 4 w (some g)) {cs : List Value} {z : Int} (h : eltR.rel w none cs z) : eltR.rel w (some g) cs z := by
  obtain ⟨s, b, A, n, c, rfl, h⟩ := h
  refine ⟨s, b, A, n, c, rfl, ?_⟩
  rcases h with h | ⟨h1, h2, h3, h4, -⟩
  · exact .inl h
  · refine .inr ⟨h1, h2, h3, h4, fun k e => ?_⟩
    cases e
    exact okW_away hp h4 h3
theorem eltW.past {w : World} {g : Nat} (hp : Pat okW 4 w (some g)) {A : Option Addr} {c : Nat} {s : Int} {b : Bool} {A2 : Option Addr} {n2 c2 : Nat} {f : List Int × Int} (h1 : f.1.length ≤ c) (h2 : c ≤ maxLen) (h3 : RdE eltR w A f.1) (h4 : RI w (.agg #[.int .i64 s, .bool b, .slice A2 n2 c2]) f.2) (h5 : ∀ b off, A = some ⟨b, off, none⟩ → f.1 ≠ [] → b ≠ g) : eltW.rel w (some g) [.slice A f.1.length c, .int .i64 s, .bool b, .slice A2 n2 c2] f := by
  refine ⟨A, c, s, b, A2, n2, c2, rfl, h1, h2, fun hn => ?_, ?_⟩
  · obtain ⟨b', off, rfl, hb, hc⟩ := h3 hn
    refine ⟨b', off, rfl, hb, fun k hk => (by cases hk; exact h5 b' off rfl hn), fun i hi => ?_⟩
    obtain ⟨cs, k1, k2⟩ := hc i hi
    exact ⟨cs, eltR.past hp k1, k2⟩
  · obtain ⟨s', b', A', n', c', e, h6⟩ := eltR.past hp (show eltR.rel w none [.int .i64 s, .bool b, .slice A2 n2 c2] f.2 from ⟨s, b, A2, n2, c2, rfl, h4.ria⟩)
    cases e
    exact h6
end Go.Proofs.YtacbjbnocepnaaaGreatDoor
namespace Go.Proofs.YtacbjbnocepnaaaGreatDoor
open Go.RowKit Fm
theorem getD_row {f : List Int × Int} {v : Nat} (hv : v < f.1.length) : (rowF f).getD v 0 = f.1.getD v 0 := by
  unfold rowF
  rw [List.getD_eq_getElem?_getD, List.getD_eq_getElem?_getD, List.getElem?_append_left hv]
theorem rowF_primF (f : List Int × Int) : rowF (primF f) = primR (rowF f) := by
  unfold primF
  exact rowF_parts _ _ (by rw [primR_length]; simp [rowF])
theorem rowF_clearF {p r : List Int × Int} {v : Nat} (hl : p.1.length = r.1.length) (hv : v < r.1.length) (h1 : 0 < p.1.getD v 0) : rowF (clearF p v r) = clearR (rowF p) v (rowF r) := by
  unfold clearF clearR
  rw [getD_row hv, getD_row (f := p) (by omega)]
  by_cases hz : r.1.getD v 0 = 0
  · rw [if_pos hz, if_pos hz]
  · rw [if_neg hz, if_neg hz, rowF_primF, if_neg (show ¬ p.1.getD v 0 < 0 by omega), if_neg (show ¬ p.1.getD v 0 < 0 by omega)]
    congr 1
    unfold rowF plusR timesR
    rw [List.map_append, List.map_append, List.zipWith_append (by simp [hl])]
    rfl
theorem clearF_length {p r : List Int × Int} {v : Nat} (hl : p.1.length = r.1.length) : (clearF p v r).1.length = r.1.length := by
  unfold clearF
  split
  · rfl
  · unfold primF
    rw [List.length_take, primR_length]
    simp [rowF, hl]
end Go.Proofs.YtacbjbnocepnaaaGreatDoor
namespace Go.Proofs.YtacbjbnocepnaaaGreatDoor
open Go.RowKit Fm
theorem rowF_mem {f : List Int × Int} {z : Int} : z ∈ rowF f ↔ z ∈ f.1 ∨ z = f.2 := by
  unfold rowF
  rw [List.mem_append, List.mem_singleton]
theorem rowF_rl {f : List Int × Int} {B : Nat} : (∀ z, z ∈ rowF f → rl z ≤ B) ↔ (∀ z, z ∈ f.1 → rl z ≤ B) ∧ rl f.2 ≤ B :=
  ⟨fun h => ⟨fun z hz => h z (rowF_mem.2 (.inl hz)), h _ (rowF_mem.2 (.inr rfl))⟩, fun h z hz => by
    rcases rowF_mem.1 hz with hz | rfl
    · exact h.1 z hz
    · exact h.2⟩
theorem primF_rl {f : List Int × Int} {B : Nat} (h : ∀ z, z ∈ rowF f → rl z ≤ B) : ∀ z, z ∈ rowF (primF f) → rl z ≤ B := by
  intro z hz
  rw [rowF_primF] at hz
  unfold primR at hz
  split at hz
  · exact h z hz
  · obtain ⟨q, hq, rfl⟩ := List.mem_map.1 hz
    exact rl_tdiv (h q hq)
theorem getD_rl {l : List Int} {B : Nat} (hB : 3 ≤ B) (h : ∀ z, z ∈ l → rl z ≤ B) (v : Nat) : rl (l.getD v 0) ≤ B := by
  rcases getD_mem0 l v with e | e
  · rw [e]; exact Nat.le_trans (rl_int (by omega) (by omega)) hB
  · exact h _ e
theorem clearF_rl {p r : List Int × Int} {v B : Nat} (hB : 3 ≤ B) (hp : ∀ z, z ∈ rowF p → rl z ≤ B) (hr : ∀ z, z ∈ rowF r → rl z ≤ B) : ∀ z, z ∈ rowF (clearF p v r) → rl z ≤ 2 * B + 1 := by
  have hp' := rowF_rl.1 hp
  have hr' := rowF_rl.1 hr
  unfold clearF
  split
  · exact fun z hz => Nat.le_trans (hr z hz) (by omega)
  · have hpv := getD_rl hB hp'.1 v
    have hrv := getD_rl hB hr'.1 v
    refine primF_rl (rowF_rl.2 ⟨fun z hz => ?_, ?_⟩)
    · obtain ⟨k, hk, rfl⟩ := List.mem_iff_getElem.1 hz
      rw [List.getElem_zipWith, List.getElem_map, List.getElem_map]
      exact rl_add (k := 2 * B) (rl_mul (hr'.1 _ (List.getElem_mem _)) hpv (by omega)) (rl_mul (hp'.1 _ (List.getElem_mem _)) (show rl (-(r.1.getD v 0)) ≤ B by rw [rl_neg]; exact hrv) (by omega)) (by omega)
    · exact rl_add (k := 2 * B) (rl_mul hr'.2 hpv (by omega)) (rl_mul hp'.2 (show rl (-(r.1.getD v 0)) ≤ B by rw [rl_neg]; exact hrv) (by omega)) (by omega)
end Go.Proofs.YtacbjbnocepnaaaGreatDoor
