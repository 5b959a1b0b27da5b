/- What a further law needs. -/
import Derived.Test.YtacbjbnocepnaaaGreatDoorQL1
import Derived.Test.YtacbjbnocepnaaaGreatDoorQHN
import Derived.Test.YtacbjbnocepnaaaGreatDoorQHR
import Derived.Test.YtacbjbnocepnaaaGreatDoorQHG
import Derived.Test.YtacbjbnocepnaaaGreatDoorQHJ
import Derived.Deep.RegionLawGrows
namespace Go.Proofs.YtacbjbnocepnaaaGreatDoor
open Go.RowKit Fm
def lcmR : Nat → List Nat → Nat
  | l, [] => l
  | l, q :: qs => lcmR (Nat.lcm l q) qs
theorem lcmR_append (qs rs : List Nat) : ∀ l, lcmR l (qs ++ rs) = lcmR (lcmR l qs) rs := by
  induction qs with
  | nil => intro l; rfl
  | cons q qs ih => intro l; exact ih _
theorem lcmR_pos (qs : List Nat) (h : ∀ q, q ∈ qs → 0 < q) : ∀ l, 0 < l → 0 < lcmR l qs := by
  induction qs with
  | nil => exact fun l hl => hl
  | cons q qs ih => exact fun l hl => ih (fun x hx => h x (List.mem_cons_of_mem _ hx)) _ (Nat.lcm_pos hl (h q (List.mem_cons_self ..)))
def lowN (xs : List (Int × Int)) : Nat := lcmR 1 (xs.map fun p => p.2.natAbs)
theorem lowN_next (xs : List (Int × Int)) (k : Nat) (hk : k < xs.length) : lowN (xs.take (k + 1)) = Nat.lcm (lowN (xs.take k)) xs[k].2.natAbs := by
  unfold lowN
  rw [List.take_succ_eq_append_getElem hk, List.map_append, lcmR_append]
  rfl
theorem lowN_pos (xs : List (Int × Int)) (h : ∀ p, p ∈ xs → 0 < p.2) : 0 < lowN xs := by
  refine lcmR_pos _ (fun q hq => ?_) 1 (by decide)
  obtain ⟨p, hp, rfl⟩ := List.mem_map.1 hq
  have := h p hp
  omega
theorem lcm_int {l x : Nat} (hl : 0 < l) : ((l : Int).tdiv (Int.gcd l x : Nat)) * x = (Nat.lcm l x : Nat) := by
  have hd : Nat.gcd l x ∣ l := Nat.gcd_dvd_left l x
  have hg : 0 < Nat.gcd l x := Nat.gcd_pos_of_pos_left _ hl
  obtain ⟨m, hm⟩ := hd
  have e1 : Int.gcd (l : Int) (x : Int) = Nat.gcd l x := by simp [Int.gcd]
  have e2 : (l : Int) = (Nat.gcd l x : Nat) * (m : Nat) := by rw [← Int.natCast_mul, ← hm]
  rw [e1]
  conv => lhs; rw [e2]
  rw [Int.mul_tdiv_cancel_left _ (by omega), Nat.lcm]
  have e3 : l * x / Nat.gcd l x = m * x := by
    conv => lhs; lhs; rw [hm, Nat.mul_assoc]
    exact Nat.mul_div_cancel_left _ hg
  rw [e3, Int.natCast_mul]
theorem lowN_bl (xs : List (Int × Int)) (hx : ∀ p, p ∈ xs → Rng p.1 p.2) (hp : ∀ p, p ∈ xs → 0 < p.2) : ∀ k, k ≤ xs.length → bl ((lowN (xs.take k) : Nat) : Int) ≤ 2 * k + 1 := by
  intro k
  induction k with
  | zero => intro _; rw [List.take_zero]; exact Nat.le_trans (show bl ((lowN [] : Nat) : Int) ≤ 1 from digs_length_le (B := 4294967296) (k := 1) (by omega) (by decide)) (by omega)
  | succ k ih =>
    intro hk
    have h1 := ih (by omega)
    rw [lowN_next xs k (by omega)]
    have hl := lowN_pos (xs.take k) (fun p h => hp p (List.mem_of_mem_take h))
    have hR := hx _ (List.getElem_mem (show k < xs.length by omega))
    have h0 := hp _ (List.getElem_mem (show k < xs.length by omega))
    rw [← lcm_int hl]
    refine bl_mul (bl_tdiv h1) (l := 2) ?_ (by omega)
    refine bl_small ?_
    unfold Rng at hR
    omega
theorem mkInts2 (n : Nat) (hn : n ≤ 4294967296) (w : World) : (Instr.makeSlice 89 (.int .i64 (n : Int)) (.int .i64 (n : Int))).run Tryz.prog w =
    .ok (.slice (some ⟨w.heap.size, 0, none⟩) n n) (w.alloc (.cells (zeroRow n) 108)) := by
  obtain ⟨i0, hi, hz0, hz1, hz2⟩ := info_parts info_int
  have h := run_make (P := Tryz.prog) w 89 108 i0 (.agg #[.int .i64 0, .slice none 0 0]) Tryz.underlying89 hi hz0 .i64 .i64 n n (by omega) (by omega) (by rw [hz2]; omega) (by omega)
  rw [h, hz1]; simp only [Int.toNat_natCast, zeroRow]
end Go.Proofs.YtacbjbnocepnaaaGreatDoor
namespace Go.Proofs.YtacbjbnocepnaaaGreatDoor
open Go.RowKit Fm
theorem OwP.base {w0 w0' w : World} {v : Value} {zs : List Int} (h : OwP eltR okR w0 w 48 v zs) (hs : w0'.heap.size = w0.heap.size) : OwP eltR okR w0' w 48 v zs := ⟨h.1.base hs, h.2⟩
end Go.Proofs.YtacbjbnocepnaaaGreatDoor
namespace Go.Proofs.YtacbjbnocepnaaaGreatDoor
open Go.RowKit Fm
end Go.Proofs.YtacbjbnocepnaaaGreatDoor
namespace Go.Proofs.YtacbjbnocepnaaaGreatDoor
open Go.RowKit Fm
end Go.Proofs.YtacbjbnocepnaaaGreatDoor
namespace Go.Proofs.YtacbjbnocepnaaaGreatDoor
open Go.RowKit Fm
theorem SysB.len {w : World} {g n : Nat} {S : Sys} (h : SysB w g n S) : S.length = 10 := by
  obtain ⟨arr, -, -, -, h1, -⟩ := h
  exact h1
end Go.Proofs.YtacbjbnocepnaaaGreatDoor
namespace Go.Proofs.YtacbjbnocepnaaaGreatDoor
open Go.RowKit Fm
end Go.Proofs.YtacbjbnocepnaaaGreatDoor
namespace Go.Proofs.YtacbjbnocepnaaaGreatDoor
open Go.RowKit Fm
theorem SysV.up {w w' : World} {arr : Array Value} {n : Nat} {S : Sys} (h : SysV w arr n S) (hu : Up w w') : SysV w' arr n S := by
  refine ⟨h.1, h.2.1, h.2.2.1, fun c hc => ?_⟩
  obtain ⟨A, m, k, e1, e2⟩ := h.2.2.2 c hc
  refine ⟨A, m, k, e1, fun g hg => (e2 g (Nat.le_trans hu.size hg)).up hu⟩
end Go.Proofs.YtacbjbnocepnaaaGreatDoor
namespace Go.Proofs.YtacbjbnocepnaaaGreatDoor
open Fm
end Go.Proofs.YtacbjbnocepnaaaGreatDoor
namespace Go.Proofs.YtacbjbnocepnaaaGreatDoor
open Fm
theorem gcdR_times (x : Int) (r : List Int) : ∀ g, gcdR (x.natAbs * g) (timesR x r) = x.natAbs * gcdR g r := by
  induction r with
  | nil => intro g; rfl
  | cons a r ih =>
    intro g
    have := ih (Nat.gcd g a.natAbs)
    unfold timesR at this ⊢
    simp only [List.map_cons, gcdR]
    rw [← this, ← Nat.gcd_mul_left, Int.natAbs_mul, Nat.mul_comm a.natAbs]
def PrimR (r : List Int) : Prop := gcdR 0 r = 1
theorem gcdR_times0 (x : Int) (r : List Int) : gcdR 0 (timesR x r) = x.natAbs * gcdR 0 r := by
  have := gcdR_times x r 0
  rwa [Nat.mul_zero] at this
theorem negR_times (r : List Int) : negR r = timesR (-1) r := by
  unfold negR timesR
  apply List.map_congr_left
  intro a _; omega
theorem PrimR.pos {r : List Int} (h : PrimR r) (c : Nat) : PrimR (posR c r) := by
  unfold posR
  split
  · rw [negR_times]; unfold PrimR; rw [gcdR_times0]; unfold PrimR at h; rw [h]; rfl
  · exact h
end Go.Proofs.YtacbjbnocepnaaaGreatDoor
namespace Go.Proofs.YtacbjbnocepnaaaGreatDoor
open Go.RowKit Fm
theorem Elts.flat_len {α : Type} {E : Elt α} {w : World} {o : Option Nat} : ∀ {css : List (List Value)} {zs : List α}, Elts E w o css zs → css.flatten.length = zs.length * E.size
  | [], [], _ => by simp
  | cs :: css, z :: zs, h => by
    rw [List.flatten_cons, List.length_append, E.len h.1, Elts.flat_len h.2, List.length_cons, Nat.succ_mul]; omega
  | [], _ :: _, h => h.elim
  | _ :: _, [], h => h.elim
theorem Elts.all {α : Type} {E : Elt α} {w : World} {o : Option Nat} {p : Value → Prop} (hp : ∀ {cs z}, E.rel w o cs z → ∀ u ∈ cs, p u) : ∀ {css : List (List Value)} {zs : List α}, Elts E w o css zs → ∀ u ∈ css.flatten, p u
  | [], [], _ => fun u hu => by simp at hu
  | cs :: css, z :: zs, h => fun u hu => by
    rw [List.flatten_cons, List.mem_append] at hu
    rcases hu with hu | hu
    · exact hp h.1 u hu
    · exact Elts.all hp h.2 u hu
  | [], _ :: _, h => h.elim
  | _ :: _, [], h => h.elim
end Go.Proofs.YtacbjbnocepnaaaGreatDoor
namespace Go.Proofs.YtacbjbnocepnaaaGreatDoor
open Go.RowKit Fm
theorem flatten_set {α : Type} (size : Nat) : ∀ (css : List (List α)) (i : Nat) (cs : List α), (∀ x, x ∈ css → x.length = size) → cs.length = size → i < css.length → (css.set i cs).flatten = css.flatten.take (i * size) ++ cs ++ css.flatten.drop (i * size + size) := by
  intro css
  induction css with
  | nil => intro i cs _ _ hi; simp at hi
  | cons c0 css ih =>
    intro i cs h hc hi
    have h0 := h c0 (by simp)
    cases i with
    | zero =>
      simp only [List.set_cons_zero, List.flatten_cons, Nat.zero_mul, List.take_zero, List.nil_append, Nat.zero_add]
      rw [List.drop_append_of_le_length (by omega), List.drop_of_length_le (by omega), List.nil_append]
    | succ i =>
      have e1 : (i + 1) * size = c0.length + i * size := by rw [Nat.succ_mul, h0]; omega
      have t1 : (c0 ++ css.flatten).take (c0.length + i * size) = c0 ++ css.flatten.take (i * size) := by simp [List.take_append, List.take_of_length_le]
      have t2 : (c0 ++ css.flatten).drop (c0.length + (i * size + size)) = css.flatten.drop (i * size + size) := by simp [List.drop_append, List.drop_of_length_le]
      rw [List.set_cons_succ, List.flatten_cons, List.flatten_cons, ih i cs (fun x hx => h x (by simp [hx])) hc (by simpa using hi), e1, Nat.add_assoc, t1, t2]
      simp [List.append_assoc]
theorem Elts.lens {α : Type} {E : Elt α} {w : World} {o : Option Nat} : ∀ {css : List (List Value)} {zs : List α}, Elts E w o css zs → ∀ x, x ∈ css → x.length = E.size
  | [], [], _, x, hx => by simp at hx
  | _ :: _, _ :: _, h, x, hx => by
    rcases List.mem_cons.1 hx with e | hx
    · rw [e]; exact E.len h.1
    · exact Elts.lens h.2 x hx
  | [], _ :: _, h, _, _ => h.elim
  | _ :: _, [], h, _, _ => h.elim
theorem Elts.set_ {α : Type} {E : Elt α} {w : World} {o : Option Nat} {cs : List Value} {z : α} (hz : E.rel w o cs z) : ∀ {css : List (List Value)} {zs : List α} (i : Nat), Elts E w o css zs → Elts E w o (css.set i cs) (zs.set i z)
  | [], [], _, _ => trivial
  | _ :: _, _ :: _, 0, h => ⟨hz, h.2⟩
  | _ :: _, _ :: _, i + 1, h => ⟨h.1, Elts.set_ hz i h.2⟩
  | [], _ :: _, _, h => h.elim
  | _ :: _, [], _, h => h.elim
def put4c (w : World) (g o : Nat) (a b c d : Value) : World := (((w.setCell ⟨g, o, none⟩ a).setCell ⟨g, o + 1, none⟩ b).setCell ⟨g, o + 2, none⟩ c).setCell ⟨g, o + 3, none⟩ d
end Go.Proofs.YtacbjbnocepnaaaGreatDoor
namespace Go.Proofs.YtacbjbnocepnaaaGreatDoor
open Fm
end Go.Proofs.YtacbjbnocepnaaaGreatDoor
namespace Go.Proofs.YtacbjbnocepnaaaGreatDoor
open Go.RowKit Fm
end Go.Proofs.YtacbjbnocepnaaaGreatDoor
namespace Go.Proofs.YtacbjbnocepnaaaGreatDoor
open Go.RowKit Fm
end Go.Proofs.YtacbjbnocepnaaaGreatDoor
namespace Go.Proofs.YtacbjbnocepnaaaGreatDoor
open Go.RowKit Fm
end Go.Proofs.YtacbjbnocepnaaaGreatDoor
namespace Go.Proofs.YtacbjbnocepnaaaGreatDoor
open Go.RowKit Fm
def storeL : World → Nat → Nat → List Value → World
  | w, _, _, [] => w
  | w, g, o, c :: cs => storeL (w.setCell ⟨g, o, none⟩ c) g (o + 1) cs
theorem set_split {α : Type} (l : List α) (o : Nat) (c : α) (h : o < l.length) : (l.set o c).take (o + 1) = l.take o ++ [c] ∧ ∀ k, (l.set o c).drop (o + 1 + k) = l.drop (o + 1 + k) := by
  refine ⟨?_, fun k => ?_⟩
  · rw [List.take_succ_eq_append_getElem (by rw [List.length_set]; exact h), List.getElem_set_self, List.take_set_of_le (Nat.le_refl o)]
  · rw [List.drop_set_of_lt (by omega)]
theorem storeL_heap : ∀ (cs : List Value) (w : World) (g o : Nat) (cur : Array Value) (t : TypeId), w.heap[g]? = some (.cells cur t (0, 0)) → o + cs.length ≤ cur.size → ∃ arr, (storeL w g o cs).heap[g]? = some (.cells arr t (0, 0)) ∧ arr.toList = cur.toList.take o ++ cs ++ cur.toList.drop (o + cs.length) := by
  intro cs
  induction cs with
  | nil => intro w g o cur t h _; exact ⟨cur, h, by simp⟩
  | cons c cs ih =>
    intro w g o cur t h hl
    simp only [List.length_cons] at hl
    have h1 : (w.setCell ⟨g, o, none⟩ c).heap[g]? = some (.cells (cur.setIfInBounds o c) t (0, 0)) := by
      simp [World.setCell, Array.getElem?_modify, h]
    obtain ⟨arr, k1, k2⟩ := ih (w.setCell ⟨g, o, none⟩ c) g (o + 1) _ t h1 (by rw [Array.size_setIfInBounds]; omega)
    refine ⟨arr, k1, ?_⟩
    obtain ⟨s1, s2⟩ := set_split cur.toList o c (by simp; omega)
    rw [k2, Array.toList_setIfInBounds, s1, s2, List.length_cons]
    simp only [List.append_assoc, List.cons_append, List.nil_append]
    rw [show o + 1 + cs.length = o + (cs.length + 1) by omega]
theorem storeL_grown : ∀ (cs : List Value) (w : World) (g o : Nat), w.grownBy (storeL w g o cs) (some g) := by
  intro cs
  induction cs with
  | nil => intro w g o; exact ⟨rfl, rfl, rfl, Nat.le_refl _, fun _ _ _ => rfl⟩
  | cons c cs ih =>
    intro w g o
    have h1 : w.grownBy (w.setCell ⟨g, o, none⟩ c) (some g) := ⟨rfl, rfl, rfl, by simp [World.setCell], fun k hk hne => Below.heap_setCell w ⟨g, o, none⟩ c k (fun e => hne (by rw [e]))⟩
    exact grown_trans h1 (ih _ g (o + 1))
theorem Up.storeL {w0 : World} : ∀ (cs : List Value) (w : World) (g o : Nat), Up w0 w → w0.heap.size ≤ g → Up w0 (storeL w g o cs) := by
  intro cs
  induction cs with
  | nil => intro w g o h _; exact h
  | cons c cs ih => intro w g o h hg; exact ih _ g (o + 1) (Below.setCell (p := ⟨g, o, none⟩) h hg c) hg
theorem take_setG {α : Type} (s : Nat) (x : List α) (l : List α) (o m : Nat) (hx : x.length = s) (ho : o + s ≤ m) (hm : m ≤ l.length) : (l.take o ++ x ++ l.drop (o + s)).take m = (l.take m).take o ++ x ++ (l.take m).drop (o + s) := by
  have h1 : (l.take o).length = o := by rw [List.length_take]; omega
  rw [List.append_assoc, List.take_append, List.take_append, h1, hx, List.take_of_length_le (l := l.take o) (by omega), List.take_of_length_le (l := x) (by omega), List.take_take, Nat.min_eq_left (by omega), List.drop_take, List.append_assoc, show m - o - s = m - (o + s) by omega]
theorem OwP.storeG {α : Type} {E : Elt α} {ok : Nat → Value → Prop} {w0 w : World} {t : TypeId} {g n cap : Nat} {zs : List α} (h : OwP E ok w0 w t (.slice (some ⟨g, 0, none⟩) n cap) zs) {i : Nat} (hi : i < zs.length) {cs : List Value} {z : α} (hz : E.rel w (some g) cs z) (hokc : ∀ j u, cs[j]? = some u → ok j u) :
    OwP E ok w0 (storeL w g (i * E.size) cs) t (.slice (some ⟨g, 0, none⟩) n cap) (zs.set i z) := by
  obtain ⟨⟨css, h1, ⟨hl, h2⟩, h3⟩, hp⟩ := h
  rcases h2 with ⟨e, -⟩ | ⟨g', cap', cur, e, hb, hg, hnc, hcm, hcs, htk⟩
  · cases e
  injection e with e1 e2 e3
  injection e1 with e1
  injection e1 with e1
  subst e1; subst e3
  have hgr := storeL_grown cs w g (i * E.size)
  have hcl : css.length = zs.length := h1.length
  have hfl := h1.flat_len
  have hcz := E.len hz
  have hio : i * E.size + E.size ≤ zs.length * E.size := by
    rw [← Nat.succ_mul]; exact Nat.mul_le_mul_right _ hi
  have hlc : zs.length * E.size ≤ cur.size := by
    have := congrArg List.length htk
    rw [List.length_take] at this
    simp only [Array.length_toList] at this
    omega
  obtain ⟨arr, hh, harr⟩ := storeL_heap cs w g (i * E.size) cur t hg (by omega)
  rw [hcz] at harr
  have hn : n = zs.length := by omega
  have hset : (css.set i cs).flatten = css.flatten.take (i * E.size) ++ cs ++ css.flatten.drop (i * E.size + E.size) := flatten_set E.size css i _ h1.lens hcz (by omega)
  have hcur : ∀ u ∈ cur.toList, NoDig u := fun u hu => by
    obtain ⟨j, hj, rfl⟩ := List.mem_iff_getElem.1 hu
    intro x e
    refine h3 g rfl j x ?_
    rw [cell_of_row w g j _ _ _ hg, ← e]
    simp at hj
    rw [Array.getElem?_eq_getElem hj]; simp
  have hpat : PatL ok E.size cur.toList := heap_pat hg hp
  have hln : css.flatten.length = zs.length * E.size := hfl
  have hsl : (zs.set i z).length = zs.length := List.length_set
  have has : arr.size = cur.size := by
    have := congrArg List.length harr
    simp only [List.length_append, List.length_take, List.length_drop, Array.length_toList, hcz] at this
    omega
  refine ⟨⟨css.set i cs, ?_, ⟨?_, .inr ⟨g, cap, arr, by rw [hsl, hn], hb, hh, by rw [hsl]; exact hnc, hcm, by rw [has]; exact hcs, ?_⟩⟩, ?_⟩, ?_⟩
  · exact (Elts.set_ hz i h1).map fun h => E.grow h hgr h3
  · rw [hset]
    simp only [List.length_append, List.length_take, List.length_drop]
    rw [hsl, hcz]
    omega
  · rw [hsl, harr, hset, take_setG E.size _ _ _ _ hcz (by omega) (by simp only [Array.length_toList]; omega), htk]
  · intro g' hg'
    cases hg'
    refine nodig_heap hh fun u hu => ?_
    rw [harr] at hu
    simp only [List.mem_append] at hu
    rcases hu with (hu | hu) | hu
    · exact hcur u (List.mem_of_mem_take hu)
    · exact E.nod hz u hu
    · exact hcur u (List.mem_of_mem_drop hu)
  · intro g' hg'
    cases hg'
    refine pat_heap hh ?_
    rw [harr]
    have hi4 : (cur.toList.take (i * E.size)).length = i * E.size := by rw [List.length_take]; simp only [Array.length_toList]; omega
    exact ((hpat.take _).append (by rw [hi4, Nat.mul_mod_left]) (PatL.one hcz hokc)).append (by rw [List.length_append, hi4, hcz, ← Nat.succ_mul, Nat.mul_mod_left]) (hpat.drop (by rw [← Nat.succ_mul, Nat.mul_mod_left]))
theorem flat_len_rep {α : Type} (cs : List α) : ∀ n, (List.replicate n cs).flatten.length = n * cs.length := by
  intro n
  induction n with
  | zero => simp
  | succ n ih => rw [List.replicate_succ, List.flatten_cons, List.length_append, ih, Nat.succ_mul]; omega
theorem flat_rep {α : Type} (cs : List α) : ∀ (n j : Nat), j < n * cs.length → (List.replicate n cs).flatten[j]? = cs[j % cs.length]? := by
  intro n
  induction n with
  | zero => intro j hj; omega
  | succ n ih =>
    intro j hj
    rw [List.replicate_succ, List.flatten_cons]
    rcases Nat.lt_or_ge j cs.length with h | h
    · rw [List.getElem?_append_left h, Nat.mod_eq_of_lt h]
    · rw [List.getElem?_append_right h, ih _ (by rw [Nat.succ_mul] at hj; omega), Nat.mod_eq_sub_mod h]
theorem made_list (cs : List Value) (hs : 0 < cs.length) (n : Nat) : (madeCells cs.toArray (n * cs.length)).toList = (List.replicate n cs).flatten := by
  have hfl := flat_len_rep cs n
  have hsz : (madeCells cs.toArray (n * cs.length)).size = n * cs.length := by simp [madeCells]
  refine List.ext_getElem (by rw [Array.length_toList, hsz, hfl]) fun j h1 h2 => ?_
  have hj : j < n * cs.length := by rw [hfl] at h2; exact h2
  have k1 := flat_rep cs n j hj
  have hm : j % cs.length < cs.length := Nat.mod_lt _ hs
  rw [List.getElem?_eq_getElem h2, List.getElem?_eq_getElem hm] at k1
  injection k1 with k1
  rw [k1, Array.getElem_toList]
  simp only [madeCells, Array.getElem_map, Array.getElem_range, List.size_toArray]
  rw [getElem!_pos cs.toArray (j % cs.length) (by simpa using hm)]
  simp
theorem elts_same {α : Type} {E : Elt α} {w : World} {o : Option Nat} {cs : List Value} {z : α} (h : E.rel w o cs z) : ∀ n, Elts E w o (List.replicate n cs) (List.replicate n z)
  | 0 => trivial
  | n + 1 => ⟨h, elts_same h n⟩
theorem OwP.made {α : Type} {E : Elt α} {ok : Nat → Value → Prop} {cs : List Value} {z : α} (hz : ∀ w o, E.rel w o cs z) (hok : ∀ j u, cs[j]? = some u → ok j u) (w : World) (t : TypeId) (n : Nat) (hn : n ≤ 4294967296) :
    OwP E ok w (w.alloc (.cells (madeCells cs.toArray (n * E.size)) t)) t (.slice (some ⟨w.heap.size, 0, none⟩) n n) (List.replicate n z) := by
  have hcl : cs.length = E.size := E.len (hz w none)
  have hh : (w.alloc (.cells (madeCells cs.toArray (n * E.size)) t)).heap[w.heap.size]? = some (.cells (madeCells cs.toArray (n * E.size)) t (0, 0)) := heap_alloc_new w _
  have hml : (madeCells cs.toArray (n * E.size)).toList = (List.replicate n cs).flatten := by
    rw [← hcl]; exact made_list cs (by rw [hcl]; exact E.pos) n
  have hfl : (List.replicate n cs).flatten.length = n * E.size := by rw [flat_len_rep, hcl]
  refine ⟨⟨List.replicate n cs, elts_same (hz _ _) n, ⟨by rw [hfl, List.length_replicate], .inr ⟨w.heap.size, n, _, by rw [List.length_replicate], Nat.le_refl _, hh, by rw [List.length_replicate]; exact Nat.le_refl _, by unfold maxLen; omega, by simp [madeCells], ?_⟩⟩, fun g hg => ?_⟩, fun g hg => ?_⟩
  · rw [List.length_replicate, hml]
    exact List.take_of_length_le (by rw [hfl]; exact Nat.le_refl _)
  · cases hg
    exact nodig_heap hh (by rw [hml]; exact (elts_same (hz w none) n).all E.nod)
  · cases hg
    refine pat_heap hh ?_
    rw [hml]
    intro j u e
    have hj : j < n * cs.length := by
      rcases Nat.lt_or_ge j (n * cs.length) with h | h
      · exact h
      · rw [List.getElem?_eq_none (by rw [flat_len_rep]; exact h)] at e; cases e
    rw [flat_rep cs n j hj, hcl] at e
    exact hok _ _ e
end Go.Proofs.YtacbjbnocepnaaaGreatDoor
namespace Go.Proofs.YtacbjbnocepnaaaGreatDoor
open Go.RowKit Fm
def FP (w : World) (v : Value) (p : Int × Int) : Prop := ∃ s A n c t F m k, v = .agg #[.int .i64 s, .slice A n c, .int .i64 t, .slice F m k] ∧ IV w (.agg #[.int .i64 s, .slice A n c]) p.1 ∧ IV w (.agg #[.int .i64 t, .slice F m k]) p.2
set_option maxHeartbeats 2000000 in
set_option maxRecDepth 10000 in
theorem fracOfP_any (x y : Int) (w : World) (x1 : -9223372036854775808 ≤ x) (x2 : x ≤ 9223372036854775807) (y1 : -9223372036854775808 ≤ y) (y2 : y ≤ 9223372036854775807) :
    Calls Tryz.prog 119 #[.agg #[.int .i64 x, .int .i64 y]] w fun e w' => ∃ v, e = .returned v ∧ FP w' v (x, y) ∧ Up w w' := by
  have HO1 := Lib.hid (fun W => of_any x W x1 x2)
  have HO2 := Lib.hid (fun W => of_any y W y1 y2)
  clear x1 x2 y1 y2
  go_enter Tryz.func119, Tryz.ntmps119
  go_wp2_with fail
  obtain ⟨wB, hwB⟩ : ∃ wB, wB = (w.alloc (.cells #[.int .i64 x, .int .i64 y] 55)).alloc (.cells #[.int .i64 0, .slice none 0 0, .int .i64 0, .slice none 0 0] 110) := ⟨_, rfl⟩
  have HN := Lib.hid (show CellN wB w.heap.size x y by rw [hwB]; exact (CellN.new w x y).up (Up.alloc _ _))
  have HRS := Lib.hid (show Res4 wB (w.heap.size + 1) by rw [hwB]; have := Res4.new (w.alloc (.cells #[.int .i64 x, .int .i64 y] 55)); simpa using this)
  have HU := Lib.hid (show Up w wB by rw [hwB]; exact (Up.alloc _ _).trans (Up.alloc _ _))
  rw [← hwB]
  clear hwB
  obtain ⟨a0, a1, -, -, la⟩ := HN.out.facts
  have hne1 : (w.heap.size = w.heap.size + 1) = False := by simp
  have hne2 : (w.heap.size + 1 = w.heap.size) = False := by simp
  go_region_held3 (fun w' => w'.cell? ⟨w.heap.size, 0, none⟩ = some (.int .i64 x) ∧ w'.cell? ⟨w.heap.size, 1, none⟩ = some (.int .i64 y)) (go_keep)
    ((first
      | (go_at_call_of 116 (Value.int IntKind.i64 x)
         refine Calls.mono (HO1.out _) ?_
         rintro e w5 ⟨v5, rfl, hv5, hu5⟩
         have HU5 := Lib.hid hu5
         obtain ⟨a0, a1, -, -, la⟩ := (HN.out.up (w' := w5) (by (repeat (first | exact Below.refl _ _ | exact Hid.out (by assumption) | refine Up.trans ?_ (Up.drew _) | refine Up.trans ?_ (Up.drewN _ _) | refine Up.trans ?_ (Up.alloc _ _) | refine Up.trans ?_ (Hid.out (by assumption)))))).facts
         obtain ⟨s5, A5, n5, c5, rfl, -, -, -, -, -⟩ := hv5.open_
         have HV5 := Lib.hid hv5
         clear hv5 hu5)
      | (go_at_call_of 116 (Value.int IntKind.i64 y)
         refine Calls.mono (HO2.out _) ?_
         rintro e w7 ⟨v7, rfl, hv7, hu7⟩
         have HU7 := Lib.hid hu7
         obtain ⟨a0, a1, -, -, la⟩ := (HN.out.up (w' := w7) (by (repeat (first | exact Below.refl _ _ | exact Hid.out (by assumption) | refine Up.trans ?_ (Up.drew _) | refine Up.trans ?_ (Up.drewN _ _) | refine Up.trans ?_ (Up.alloc _ _) | refine Up.trans ?_ (Hid.out (by assumption)))))).facts
         obtain ⟨r0, r1, r2, r3, f0, f1, f2, f3⟩ := (HRS.out.up (w' := w7) (by (repeat (first | exact Below.refl _ _ | exact Hid.out (by assumption) | refine Up.trans ?_ (Up.drew _) | refine Up.trans ?_ (Up.drewN _ _) | refine Up.trans ?_ (Up.alloc _ _) | refine Up.trans ?_ (Hid.out (by assumption)))))).facts
         have HRS7 := Lib.hid (HRS.out.up (w' := w7) (by (repeat (first | exact Below.refl _ _ | exact Hid.out (by assumption) | refine Up.trans ?_ (Up.drew _) | refine Up.trans ?_ (Up.drewN _ _) | refine Up.trans ?_ (Up.alloc _ _) | refine Up.trans ?_ (Hid.out (by assumption))))))
         obtain ⟨s7, A7, n7, c7, rfl, -, -, -, -, -⟩ := hv7.open_
         have HV7 := Lib.hid hv7
         clear hv7 hu7)))
  have hq := HRS7.out.stored (.int .i64 s5) (.slice A5 n5 c5) (.int .i64 s7) (.slice A7 n7 c7)
  have HVA := Lib.hid ((show IV w7 (.agg #[.int .i64 s5, .slice A5 n5 c5]) x by (refine IV.up (Hid.out (by assumption)) ?_; (repeat (first | exact Below.refl _ _ | exact Hid.out (by assumption) | refine Up.trans ?_ (Up.drew _) | refine Up.trans ?_ (Up.drewN _ _) | refine Up.trans ?_ (Up.alloc _ _) | refine Up.trans ?_ (Hid.out (by assumption)))))).put4 HRS7.out (.int .i64 s5) (.slice A5 n5 c5) (.int .i64 s7) (.slice A7 n7 c7))
  have HVB := Lib.hid (HV7.out.put4 HRS7.out (.int .i64 s5) (.slice A5 n5 c5) (.int .i64 s7) (.slice A7 n7 c7))
  have HUF := Lib.hid ((show Up w w7 by (repeat (first | exact Below.refl _ _ | exact Hid.out (by assumption) | refine Up.trans ?_ (Up.drew _) | refine Up.trans ?_ (Up.drewN _ _) | refine Up.trans ?_ (Up.alloc _ _) | refine Up.trans ?_ (Hid.out (by assumption))))).put4 (show w.heap.size ≤ w.heap.size + 1 by omega) (.int .i64 s5) (.slice A5 n5 c5) (.int .i64 s7) (.slice A7 n7 c7))
  unfold put4 at hq HVA HVB HUF
  obtain ⟨hq0, hq1, hq2, hq3⟩ := hq
  go_wp2
  refine bodyPost_ret (by simp [results, Tryz.results119, go_sem, hq0, hq1, hq2, hq3]; try rfl) rfl ?_
  exact ⟨_, rfl, ⟨_, _, _, _, _, _, _, _, rfl, HVA.out, HVB.out⟩, HUF.out⟩
def eltP : Elt (Int × Int) where
  size := 4
  rel w _ cs p := ∃ s A n c t F m k, cs = [.int .i64 s, .slice A n c, .int .i64 t, .slice F m k] ∧ IVp w s (.slice A n c) p.1 ∧ IVp w t (.slice F m k) p.2
  pos := by decide
  len := by rintro w o cs z ⟨s, A, n, c, t, F, m, k, rfl, -⟩; rfl
  one := by rintro w o cs z ⟨s, A, n, c, t, F, m, k, rfl, -⟩ u hu; simp at hu; rcases hu with rfl | rfl | rfl | rfl <;> rfl
  nod := by
    rintro w o cs z ⟨s, A, n, c, t, F, m, k, rfl, -⟩ u hu
    simp at hu
    rcases hu with rfl | rfl | rfl | rfl
    · exact NoDig.int _
    · exact NoDig.slice _ _ _
    · exact NoDig.int _
    · exact NoDig.slice _ _ _
  up := by rintro w w' o cs z ⟨s, A, n, c, t, F, m, k, rfl, h1, h2⟩ hu; exact ⟨s, A, n, c, t, F, m, k, rfl, h1.up hu, h2.up hu⟩
  grow := by rintro w w' o cs z ⟨s, A, n, c, t, F, m, k, rfl, h1, h2⟩ hg hd; exact ⟨s, A, n, c, t, F, m, k, rfl, h1.grown hg hd, h2.grown hg hd⟩
  move := fun h => h
def zcsP : List Value := [.int .i64 0, .slice none 0 0, .int .i64 0, .slice none 0 0]
def okA : Nat → Value → Prop := fun _ _ => True
theorem ivp_zero (w : World) : IVp w 0 (.slice none 0 0) 0 := .inl ⟨by decide, rfl, none, 0, rfl, Nat.le_refl _, Nat.zero_le _, fun h => absurd rfl h⟩
theorem zcsP_rel (w : World) (o : Option Nat) : eltP.rel w o zcsP (0, 0) := ⟨0, none, 0, 0, 0, none, 0, 0, rfl, ivp_zero w, ivp_zero w⟩
theorem info_fr : (Tryz.prog.info? 110).map (fun i => (i.zero, i.size, i.bytes)) = some (some (.agg #[.int .i64 0, .slice none 0 0, .int .i64 0, .slice none 0 0]), 4, 64) := by kernel_rfl
theorem mkFracs (n : Nat) (hn : n ≤ 4294967296) (w : World) : (Instr.makeSlice 163 (.int .i64 (n : Int)) (.int .i64 (n : Int))).run Tryz.prog w =
    .ok (.slice (some ⟨w.heap.size, 0, none⟩) n n) (w.alloc (.cells (madeCells zcsP.toArray (n * 4)) 110)) := by
  obtain ⟨i0, hi, hz0, hz1, hz2⟩ := info_parts info_fr
  have h := run_make (P := Tryz.prog) w 163 110 i0 _ Tryz.underlying163 hi hz0 .i64 .i64 n n (by omega) (by omega) (by rw [hz2]; omega) (by omega)
  rw [h, hz1]; simp only [Int.toNat_natCast]; rfl
theorem up_put4p {w0 w : World} {g : Nat} (h : Up w0 w) (hg : w0.heap.size ≤ g) (o : Nat) (a b c d : Value) : Up w0 (put4c w g o a b c d) :=
  (((Below.setCell (p := ⟨g, o, none⟩) h hg a).setCell (p := ⟨g, o + 1, none⟩) hg b).setCell (p := ⟨g, o + 2, none⟩) hg c).setCell (p := ⟨g, o + 3, none⟩) hg d
def fillP (xs : List (Int × Int)) (k : Nat) : List (Int × Int) := xs.take k ++ List.replicate (xs.length - k) (0, 0)
theorem fillP_zero (xs : List (Int × Int)) : fillP xs 0 = List.replicate xs.length (0, 0) := by simp [fillP]
theorem fillP_all (xs : List (Int × Int)) : fillP xs xs.length = xs := by simp [fillP]
theorem fillP_length (xs : List (Int × Int)) (k : Nat) (hk : k ≤ xs.length) : (fillP xs k).length = xs.length := by simp [fillP]; omega
theorem fillP_next (xs : List (Int × Int)) (k : Nat) (hk : k < xs.length) : (fillP xs k).set k xs[k] = fillP xs (k + 1) := by
  unfold fillP
  have e : (xs.take k).length = k := by rw [List.length_take]; omega
  rw [List.set_append_right _ _ (by omega), e, Nat.sub_self, show xs.length - k = (xs.length - (k + 1)) + 1 by omega, List.replicate_succ, List.set_cons_zero, List.take_succ_eq_append_getElem hk, List.append_assoc]
  rfl
theorem four_of {cs : List Value} (h : cs.length = 4) : ∃ a b c d, cs = [a, b, c, d] := by
  match cs, h with
  | [a, b, c, d], _ => exact ⟨a, b, c, d, rfl⟩
theorem OwP.cellsP {w0 w : World} {t : TypeId} {g n c : Nat} {zs : List (Int × Int)} (h : OwP eltP okA w0 w t (.slice (some ⟨g, 0, none⟩) n c) zs) {i : Nat} (hi : i < zs.length) :
    g < w.heap.size ∧ (∀ j, w.frozen? ⟨g, j, none⟩ = false) ∧ ∃ a b c d, w.cell? ⟨g, i * 4, none⟩ = some a ∧ w.cell? ⟨g, i * 4 + 1, none⟩ = some b ∧ w.cell? ⟨g, i * 4 + 2, none⟩ = some c ∧ w.cell? ⟨g, i * 4 + 3, none⟩ = some d := by
  obtain ⟨⟨css, h1, h2, h3⟩, h4⟩ := h
  rcases h2.2 with ⟨e, -⟩ | ⟨g1, cap, cur, e, hb, hg, hle, hcm, hsz, htk⟩
  · cases e
  · injection e with e1 e2 e3
    injection e1 with e1
    injection e1 with e1
    subst e1
    obtain ⟨cs, k1, k2⟩ := h1.cell i hi
    obtain ⟨a, b, c, d, rfl⟩ := four_of (eltP.len k1)
    have key : ∀ j u, ([a, b, c, d] : List Value)[j]? = some u → w.cell? ⟨g, i * 4 + j, none⟩ = some u := fun j u hj => by
      have hjl : j < 4 := (List.getElem?_eq_some_iff.1 hj).1
      have hc := h2.cells (g := g) rfl (i * 4 + j) u (by rw [show i * 4 + j = i * eltP.size + j from rfl, k2 j hjl, hj])
      rw [add_zero_off] at hc
      exact hc
    exact ⟨(h2.lt g rfl).2, fun j => by simp [World.frozen?, hg], a, b, c, d, key 0 _ rfl, key 1 _ rfl, key 2 _ rfl, key 3 _ rfl⟩
theorem OwP.storeP {w0 w : World} {t : TypeId} {g n cap : Nat} {zs : List (Int × Int)} (h : OwP eltP okA w0 w t (.slice (some ⟨g, 0, none⟩) n cap) zs) {i : Nat} (hi : i < zs.length) {s : Int} {A : Option Addr} {m c : Nat} {s2 : Int} {A2 : Option Addr} {n2 c2 : Nat} {z : Int × Int} (hz : eltP.rel w (some g) [.int .i64 s, .slice A m c, .int .i64 s2, .slice A2 n2 c2] z) :
    OwP eltP okA w0 (put4c w g (i * 4) (.int .i64 s) (.slice A m c) (.int .i64 s2) (.slice A2 n2 c2)) t (.slice (some ⟨g, 0, none⟩) n cap) (zs.set i z) :=
  h.storeG hi hz fun _ _ _ => trivial
theorem OwP.readP {w0 w : World} {t : TypeId} {g n c : Nat} {zs : List (Int × Int)} (h : OwP eltP okA w0 w t (.slice (some ⟨g, 0, none⟩) n c) zs) : RdE eltP w (some ⟨g, 0, none⟩) zs := by
  obtain ⟨A, c', e, -, -, h3, -⟩ := h.1.read (fun h => h)
  injection e with e1
  rw [e1]
  exact h3
theorem FP.elt {w : World} {v : Value} {p : Int × Int} (h : FP w v p) (o : Option Nat) : ∃ s A n c t F m k, v = .agg #[.int .i64 s, .slice A n c, .int .i64 t, .slice F m k] ∧ eltP.rel w o [.int .i64 s, .slice A n c, .int .i64 t, .slice F m k] p := by
  obtain ⟨s, A, n, c, t, F, m, k, rfl, ⟨s', d', e, h1⟩, ⟨t', f', e2, h2⟩⟩ := h
  cases e
  cases e2
  exact ⟨s, A, n, c, t, F, m, k, rfl, s, A, n, c, t, F, m, k, rfl, h1, h2⟩
set_option maxHeartbeats 2000000 in
set_option maxRecDepth 10000 in
theorem tops_any (A : Option Addr) (c : Nat) (xs : List (Int × Int)) (w : World) (hn : xs.length ≤ 1000000) (hr : RdE eltP w A xs) (hx : ∀ p, p ∈ xs → Rng p.1 p.2) (hp : ∀ p, p ∈ xs → 0 < p.2) (ht : Tab w) :
    Calls Tryz.prog 122 #[.slice A xs.length c] w fun e w' => ∃ v1 v2, e = .returned (.tuple #[v1, v2]) ∧ RowF w w' v1 (xs.map fun p => p.1 * (lowN xs : Int).tdiv p.2) ∧ IV w' v2 (lowN xs : Nat) ∧ Up w w' := by
  have hmk : ∀ W, (Instr.makeSlice 89 (.int .i64 (xs.length : Int)) (.int .i64 (xs.length : Int))).run Tryz.prog W = .ok (.slice (some ⟨W.heap.size, 0, none⟩) xs.length xs.length) (W.alloc (.cells (zeroRow xs.length) 108)) := fun W => mkInts2 xs.length (by omega) W
  have HOF := Lib.hid (fun n W (h1 : -9223372036854775808 ≤ n) (h2 : n ≤ 9223372036854775807) => of_any n W h1 h2)
  have HBL := Lib.hid (lowN_bl xs hx hp)
  have HLP := Lib.hid (fun k => lowN_pos (xs.take k) (fun p h => hp p (List.mem_of_mem_take h)))
  have HT := Lib.hid ht
  clear ht
  go_enter Tryz.func122, Tryz.ntmps122
  go_wp2_with fail
  refine Calls.mono (HOF.out _ _ (by decide) (by decide)) ?_
  rintro e w1 ⟨v1, rfl, hv, hu⟩
  obtain ⟨s1, A1, n1, c1, rfl, -⟩ := hv.open_
  have HU1 := Lib.hid hu
  have HV1 := Lib.hid hv
  clear hu hv
  go_wp2_with fail
  have HZ2 := Lib.hid (((CellZ.new w 0 none 0 0).up HU1.out).up (Up.alloc w1 (.cells #[.int .i64 s1, .slice A1 n1 c1] 108)))
  have HC2 := Lib.hid (CellZ.new w1 s1 A1 n1 c1)
  have HV2 := Lib.hid (HV1.out.up (Up.alloc w1 (.cells #[.int .i64 s1, .slice A1 n1 c1] 108)))
  have HU2 := Lib.hid (((Up.alloc w _).trans HU1.out).trans (Up.alloc w1 (.cells #[.int .i64 s1, .slice A1 n1 c1] 108)))
  obtain ⟨g0, hg0⟩ : ∃ g0, g0 = w1.heap.size := ⟨_, rfl⟩
  have HG0 := Lib.hid (show w.heap.size ≤ g0 by have := ((Up.alloc w _).trans HU1.out).size; omega)
  have HZN := Lib.hid (show w.heap.size ≠ g0 by have h1 := HU1.out.size; rw [size_alloc] at h1; omega)
  rw [← hg0] at HC2 ⊢
  obtain ⟨gz, hgz⟩ : ∃ gz, gz = w.heap.size := ⟨_, rfl⟩
  have HGZZ := Lib.hid (show w.heap.size ≤ gz by omega)
  rw [← hgz] at HZ2 HZN ⊢
  clear hgz
  generalize w1.alloc (.cells #[.int .i64 s1, .slice A1 n1 c1] 108) = wB at *
  clear HV1 HU1 hg0
  go_loopw [13] (fun i wr => ∃ k : Nat, k ≤ xs.length ∧ i = .int .i64 k ∧ ∃ s A1 n1 c1, Hid (CellZ wr gz 0 none 0 0) ∧ Hid (CellZ wr g0 s A1 n1 c1) ∧ Hid (IV wr (.agg #[.int .i64 s, .slice A1 n1 c1]) (lowN (xs.take k) : Nat)) ∧ Hid (Up w wr)) (fun i _ => xs.length - (intOf i).toNat)
  case atStart => exact ⟨0, by omega, rfl, _, _, _, _, HZ2, HC2, HV2, HU2⟩
  case round =>
    obtain ⟨k, hk, rfl, s2, A2, n2, c2, HZ, HC, HV, HU⟩ := hrel
    by_cases hkl : k < xs.length
    · obtain ⟨b, off, cs, rfl, hbb, ⟨e1, B1, o1, k1, e2, B2, o2, k2, rfl, hv1, hv2⟩, hcell⟩ := (hr.up HU.out).at_ hkl
      have d0 := hcell 0 _ rfl
      have d1 := hcell 1 _ rfl
      have d2 := hcell 2 _ rfl
      have d3 := hcell 3 _ rfl
      simp only [eltP, Nat.add_zero] at d0 d1 d2 d3
      clear hcell
      have hR := hx _ (List.getElem_mem hkl)
      have hP := hp _ (List.getElem_mem hkl)
      have hN := lowN_next xs k hkl
      have HB := Lib.hid (HBL.out k (by omega))
      have HL0 := Lib.hid (HLP.out k)
      generalize xs[k].1 = x at *
      generalize xs[k].2 = y at *
      generalize lowN (xs.take k) = l at *
      unfold Rng at hR
      obtain ⟨Y, rfl⟩ : ∃ Y : Nat, y = (Y : Int) := ⟨y.toNat, by omega⟩
      have HN : Hid (((l : Nat) : Int).tdiv (Int.gcd (l : Nat) (Y : Nat) : Nat) * (Y : Nat) = (lowN (xs.take (k + 1)) : Nat)) := Lib.hid (by rw [hN, Int.natAbs_natCast]; exact lcm_int HL0.out)
      have HY2 := Lib.hid (show bl ((Y : Nat) : Int) ≤ 2 from bl_small (by omega))
      have HVY := Lib.hid (show IV wr (.agg #[.int .i64 e2, .slice B2 o2 k2]) (Y : Nat) from ⟨_, _, rfl, hv2⟩)
      have HGZ := Lib.hid (show ((Int.gcd ((l : Nat) : Int) (Y : Nat) : Nat) : Int) ≠ 0 from by have h1 := HL0.out; have h2 := Int.gcd_pos_of_ne_zero_left (Y : Int) (show ((l : Nat) : Int) ≠ 0 by omega); omega)
      have HBK := Lib.hid (show bl ((l : Nat) : Int) ≤ 67108860 by have := HB.out; omega)
      have HGC := Lib.hid (fun W u v (h1 : IV W u (l : Nat)) (h2 : IV W v (Y : Nat)) (hu : Up w W) => intGcd_any u v _ _ W h1 h2 (Nat.le_trans HBK.out (by omega)) (Nat.le_trans HY2.out (by omega)) (HT.out.up hu))
      have HQU := Lib.hid (fun W u v (h1 : IV W u (l : Nat)) (h2 : IV W v (Int.gcd ((l : Nat) : Int) (Y : Nat) : Nat)) => intQuo_any u v _ _ W h1 h2 (Nat.le_trans HBK.out (by omega)) HGZ.out)
      have HTM := Lib.hid (fun W u v (h1 : IV W u (((l : Nat) : Int).tdiv (Int.gcd ((l : Nat) : Int) (Y : Nat) : Nat))) (h2 : IV W v (Y : Nat)) => intTimes_any u v _ _ W h1 h2 (Nat.le_trans (bl_tdiv HBK.out) (by omega)) (Nat.le_trans HY2.out (by omega)))
      rw [HN.out] at HTM
      clear hR hP hN hv1 hv2
      go_upto_region 5 with fail
      have HC3 := Lib.hid HC.out
      have HZ3 := Lib.hid HZ.out
      have HX3 := Lib.hid (Cell4.new wr e1 (.slice B1 o1 k1) e2 (.slice B2 o2 k2))
      have HUX := Lib.hid (Up.alloc wr (.cells #[.int .i64 e1, .slice B1 o1 k1, .int .i64 e2, .slice B2 o2 k2] 110))
      obtain ⟨wX, hwX⟩ : ∃ wX, wX = wr.alloc (.cells #[.int .i64 e1, .slice B1 o1 k1, .int .i64 e2, .slice B2 o2 k2] 110) := ⟨_, rfl⟩
      obtain ⟨g7, hg7⟩ : ∃ g7, g7 = wr.heap.size := ⟨_, rfl⟩
      have HN7 := Lib.hid (show g0 ≠ g7 by have := HC3.out.lt; omega)
      rw [← hwX] at HX3 HUX ⊢
      rw [← hg7] at HX3 ⊢
      have HV4 := Lib.hid (HV.out.up HUX.out)
      have HV3 := Lib.hid (HVY.out.up HUX.out)
      have HU4 := Lib.hid (HU.out.trans HUX.out)
      have HCX := Lib.hid (HC3.out.up HUX.out)
      have HZX := Lib.hid (HZ3.out.up HUX.out)
      clear hwX hg7 d0 d1 d2 d3 hbb HU
      obtain ⟨z0, z1, y0, y1, lz⟩ := HCX.out.facts
      obtain ⟨-, -, t2, t3, lt⟩ := HX3.out.facts
      go_region_law
        ((first
          | (go_simp
             go_at_call 100
             refine Calls.mono (HGC.out _ _ _ (HV4.out.up (by (repeat (first | exact Below.refl _ _ | exact Hid.out (by assumption) | refine Up.trans ?_ (Up.drew _) | refine Up.trans ?_ (Up.drewN _ _) | refine Up.trans ?_ (Up.alloc _ _) | refine Up.trans ?_ (Hid.out (by assumption)))))) (HV3.out.up (by (repeat (first | exact Below.refl _ _ | exact Hid.out (by assumption) | refine Up.trans ?_ (Up.drew _) | refine Up.trans ?_ (Up.drewN _ _) | refine Up.trans ?_ (Up.alloc _ _) | refine Up.trans ?_ (Hid.out (by assumption)))))) (by (repeat (first | exact Below.refl _ _ | exact Hid.out (by assumption) | refine Up.trans ?_ (Up.drew _) | refine Up.trans ?_ (Up.drewN _ _) | refine Up.trans ?_ (Up.alloc _ _) | refine Up.trans ?_ (Hid.out (by assumption)))))) ?_
             rintro e w4 ⟨v4, rfl, hv, hu⟩
             obtain ⟨s4, A4, n4, c4, rfl, -⟩ := hv.open_
             have HU5 := Lib.hid hu
             have HV5 := Lib.hid hv
             obtain ⟨z0, z1, y0, y1, lz⟩ := (HCX.out.up (w' := w4) (by (repeat (first | exact Below.refl _ _ | exact Hid.out (by assumption) | refine Up.trans ?_ (Up.drew _) | refine Up.trans ?_ (Up.drewN _ _) | refine Up.trans ?_ (Up.alloc _ _) | refine Up.trans ?_ (Hid.out (by assumption)))))).facts
             obtain ⟨-, -, t2, t3, lt⟩ := (HX3.out.up (w' := w4) (by (repeat (first | exact Below.refl _ _ | exact Hid.out (by assumption) | refine Up.trans ?_ (Up.drew _) | refine Up.trans ?_ (Up.drewN _ _) | refine Up.trans ?_ (Up.alloc _ _) | refine Up.trans ?_ (Hid.out (by assumption)))))).facts
             clear hu hv)
          | (go_simp
             go_at_call 102
             refine Calls.mono (HQU.out _ _ _ (HV4.out.up (by (repeat (first | exact Below.refl _ _ | exact Hid.out (by assumption) | refine Up.trans ?_ (Up.drew _) | refine Up.trans ?_ (Up.drewN _ _) | refine Up.trans ?_ (Up.alloc _ _) | refine Up.trans ?_ (Hid.out (by assumption)))))) (HV5.out.up (by (repeat (first | exact Below.refl _ _ | exact Hid.out (by assumption) | refine Up.trans ?_ (Up.drew _) | refine Up.trans ?_ (Up.drewN _ _) | refine Up.trans ?_ (Up.alloc _ _) | refine Up.trans ?_ (Hid.out (by assumption))))))) ?_
             rintro e w5 ⟨v5, rfl, hv, hu⟩
             obtain ⟨s5, A5, n5, c5, rfl, -⟩ := hv.open_
             have HU6 := Lib.hid hu
             have HV6 := Lib.hid hv
             obtain ⟨z0, z1, y0, y1, lz⟩ := (HCX.out.up (w' := w5) (by (repeat (first | exact Below.refl _ _ | exact Hid.out (by assumption) | refine Up.trans ?_ (Up.drew _) | refine Up.trans ?_ (Up.drewN _ _) | refine Up.trans ?_ (Up.alloc _ _) | refine Up.trans ?_ (Hid.out (by assumption)))))).facts
             obtain ⟨-, -, t2, t3, lt⟩ := (HX3.out.up (w' := w5) (by (repeat (first | exact Below.refl _ _ | exact Hid.out (by assumption) | refine Up.trans ?_ (Up.drew _) | refine Up.trans ?_ (Up.drewN _ _) | refine Up.trans ?_ (Up.alloc _ _) | refine Up.trans ?_ (Hid.out (by assumption)))))).facts
             clear hu hv)
          | (go_simp
             go_at_call 140
             refine Calls.mono (HTM.out _ _ _ (HV6.out.up (by (repeat (first | exact Below.refl _ _ | exact Hid.out (by assumption) | refine Up.trans ?_ (Up.drew _) | refine Up.trans ?_ (Up.drewN _ _) | refine Up.trans ?_ (Up.alloc _ _) | refine Up.trans ?_ (Hid.out (by assumption)))))) (HV3.out.up (by (repeat (first | exact Below.refl _ _ | exact Hid.out (by assumption) | refine Up.trans ?_ (Up.drew _) | refine Up.trans ?_ (Up.drewN _ _) | refine Up.trans ?_ (Up.alloc _ _) | refine Up.trans ?_ (Hid.out (by assumption))))))) ?_
             rintro e w6 ⟨v6, rfl, hv, hu⟩
             obtain ⟨s6, A6, n6, c6, rfl, -⟩ := hv.open_
             have HU7 := Lib.hid hu
             have HV7 := Lib.hid hv
             obtain ⟨z0, z1, y0, y1, lz⟩ := (HCX.out.up (w' := w6) (by (repeat (first | exact Below.refl _ _ | exact Hid.out (by assumption) | refine Up.trans ?_ (Up.drew _) | refine Up.trans ?_ (Up.drewN _ _) | refine Up.trans ?_ (Up.alloc _ _) | refine Up.trans ?_ (Hid.out (by assumption)))))).facts
             obtain ⟨-, -, t2, t3, lt⟩ := (HX3.out.up (w' := w6) (by (repeat (first | exact Below.refl _ _ | exact Hid.out (by assumption) | refine Up.trans ?_ (Up.drew _) | refine Up.trans ?_ (Up.drewN _ _) | refine Up.trans ?_ (Up.alloc _ _) | refine Up.trans ?_ (Hid.out (by assumption)))))).facts
             clear hu hv)))
      all_goals
        have HC6 := Lib.hid (HCX.out.up (w' := w6) (by (repeat (first | exact Below.refl _ _ | exact Hid.out (by assumption) | refine Up.trans ?_ (Up.drew _) | refine Up.trans ?_ (Up.drewN _ _) | refine Up.trans ?_ (Up.alloc _ _) | refine Up.trans ?_ (Hid.out (by assumption))))))
        have HC7 := Lib.hid (HC6.out.set s6 A6 n6 c6)
        have HZ7 := Lib.hid ((HZX.out.up (w' := w6) (by (repeat (first | exact Below.refl _ _ | exact Hid.out (by assumption) | refine Up.trans ?_ (Up.drew _) | refine Up.trans ?_ (Up.drewN _ _) | refine Up.trans ?_ (Up.alloc _ _) | refine Up.trans ?_ (Hid.out (by assumption)))))).far HZN.out 0 1 (.int .i64 s6) (.slice A6 n6 c6))
        have HV8 := Lib.hid (HV7.out.put HC6.out.not_digit 0 1 (.int .i64 s6) (.slice A6 n6 c6))
        have HU8 := Lib.hid (Up.stored (show Up w w6 by (repeat (first | exact Below.refl _ _ | exact Hid.out (by assumption) | refine Up.trans ?_ (Up.drew _) | refine Up.trans ?_ (Up.drewN _ _) | refine Up.trans ?_ (Up.alloc _ _) | refine Up.trans ?_ (Hid.out (by assumption))))) HG0.out (.int .i64 s6) (.slice A6 n6 c6))
        clear HC6 z0 z1 y0 y1 lz t2 t3 lt
        go_wp2
        exact ⟨⟨k + 1, by omega, by simp, s6, A6, n6, c6, HZ7, HC7, HV8, HU8⟩, by simp [intOf]; omega⟩
    · have hke : k = xs.length := by omega
      subst hke
      rw [List.take_length] at HV
      have HTL : Hid ((xs.map fun p => p.1 * (lowN xs : Int).tdiv p.2).length = xs.length) := Lib.hid (by rw [List.length_map])
      have HB0 := Lib.hid (RowB.new wr xs.length)
      have HUT := Lib.hid (Up.alloc wr (.cells (zeroRow xs.length) 108))
      have HLB := Lib.hid (show bl ((lowN xs : Nat) : Int) ≤ 67108860 by have := HBL.out xs.length (Nat.le_refl _); rw [List.take_length] at this; omega)
      have HLM : Hid (xs.length ≤ maxLen) := Lib.hid (by unfold maxLen; omega)
      go_wp2_with fail
      obtain ⟨wT, hwT⟩ : ∃ wT, wT = wr.alloc (.cells (zeroRow xs.length) 108) := ⟨_, rfl⟩
      obtain ⟨gt, hgt⟩ : ∃ gt, gt = wr.heap.size := ⟨_, rfl⟩
      rw [← hwT] at HB0 HUT ⊢
      rw [← hgt] at HB0 ⊢
      have HGT := Lib.hid (show w.heap.size ≤ gt by have := HU.out.size; omega)
      have HNT := Lib.hid (show g0 ≠ gt by have := HC.out.lt; omega)
      have HCT := Lib.hid (HC.out.up HUT.out)
      have HZT := Lib.hid (HZ.out.up HUT.out)
      have HZM := Lib.hid (show gz ≠ gt by have := HZ.out.lt; omega)
      have HVT := Lib.hid (HV.out.up HUT.out)
      have HUW := Lib.hid (HU.out.trans HUT.out)
      clear hwT hgt hmk HU HUT HC HV HZ HBL HLP HV2 HU2 HC2 HZ2
      go_loopw [32] (fun i wr => ∃ k : Nat, k ≤ xs.length ∧ i = .int .i64 k ∧ Hid (RowB wr gt (fillR (xs.map fun p => p.1 * (lowN xs : Int).tdiv p.2) k)) ∧ Hid (CellZ wr gz 0 none 0 0) ∧ Hid (CellZ wr g0 s2 A2 n2 c2) ∧ Hid (IV wr (.agg #[.int .i64 s2, .slice A2 n2 c2]) (lowN xs : Nat)) ∧ Hid (Up w wr)) (fun i _ => xs.length - (intOf i).toNat)
      case atStart => exact ⟨0, by omega, rfl, Lib.hid (by rw [fillR_zero, HTL.out]; exact HB0.out), HZT, HCT, HVT, HUW⟩
      case round =>
        obtain ⟨k, hk2, rfl, HB, HZ, HC, HV, HU⟩ := hrel
        by_cases hkl2 : k < xs.length
        · obtain ⟨b, off, cs, rfl, hbb, ⟨e1, B1, o1, k1, e2, B2, o2, k2, rfl, hv1, hv2⟩, hcell⟩ := (hr.up HU.out).at_ hkl2
          have d0 := hcell 0 _ rfl
          have d1 := hcell 1 _ rfl
          have d2 := hcell 2 _ rfl
          have d3 := hcell 3 _ rfl
          simp only [eltP, Nat.add_zero] at d0 d1 d2 d3
          clear hcell
          have hR := hx _ (List.getElem_mem hkl2)
          have hP := hp _ (List.getElem_mem hkl2)
          have HNEXT : Hid (fillR (xs.map fun p => p.1 * (lowN xs : Int).tdiv p.2) (k + 1) = (fillR (xs.map fun p => p.1 * (lowN xs : Int).tdiv p.2) k).set k (xs[k].1 * (lowN xs : Int).tdiv xs[k].2)) := Lib.hid (by
            rw [← fillR_next _ k (by rw [HTL.out]; exact hkl2), List.getElem_map])
          have HIL : Hid (k < (fillR (xs.map fun p => p.1 * (lowN xs : Int).tdiv p.2) k).length) := Lib.hid (by rw [fillR_length _ _ (by rw [HTL.out]; omega), HTL.out]; exact hkl2)
          generalize xs[k].1 = x at *
          generalize xs[k].2 = y at *
          unfold Rng at hR
          have HVX := Lib.hid (show IV wr (.agg #[.int .i64 e1, .slice B1 o1 k1]) x from ⟨_, _, rfl, hv1⟩)
          have HVY := Lib.hid (show IV wr (.agg #[.int .i64 e2, .slice B2 o2 k2]) y from ⟨_, _, rfl, hv2⟩)
          have HX2 := Lib.hid (show bl x ≤ 2 from bl_small (by omega))
          have HQU := Lib.hid (fun W u v (h1 : IV W u (lowN xs : Nat)) (h2 : IV W v y) => intQuo_any u v _ _ W h1 h2 (Nat.le_trans HLB.out (by omega)) (by omega))
          have HTM := Lib.hid (fun W u v (h1 : IV W u x) (h2 : IV W v ((lowN xs : Int).tdiv y)) => intTimes_any u v _ _ W h1 h2 (Nat.le_trans HX2.out (by omega)) (Nat.le_trans (bl_tdiv HLB.out) (by omega)))
          clear hR hP hv1 hv2
          go_upto_region 11 with fail
          have HN3 := Lib.hid (Cell4.new wr e1 (.slice B1 o1 k1) e2 (.slice B2 o2 k2))
          have HUX := Lib.hid (Up.alloc wr (.cells #[.int .i64 e1, .slice B1 o1 k1, .int .i64 e2, .slice B2 o2 k2] 110))
          obtain ⟨wX, hwX⟩ : ∃ wX, wX = wr.alloc (.cells #[.int .i64 e1, .slice B1 o1 k1, .int .i64 e2, .slice B2 o2 k2] 110) := ⟨_, rfl⟩
          obtain ⟨gx, hgx⟩ : ∃ gx, gx = wr.heap.size := ⟨_, rfl⟩
          rw [← hwX] at HN3 HUX ⊢
          rw [← hgx] at HN3 ⊢
          have HX5 := Lib.hid (HVX.out.up HUX.out)
          have HY5 := Lib.hid (HVY.out.up HUX.out)
          have HC3 := Lib.hid (HC.out.up HUX.out)
          have HZ3 := Lib.hid (HZ.out.up HUX.out)
          have HV3 := Lib.hid (HV.out.up HUX.out)
          have HB3 := Lib.hid (HB.out.up HUX.out)
          have HUU := Lib.hid (HU.out.trans HUX.out)
          clear hwX hgx d0 d1 d2 d3 hbb HU HUX HC HV HZ HB
          obtain ⟨z0, z1, -, -, lz⟩ := HC3.out.facts
          obtain ⟨t0, t1, t2, t3, lt⟩ := HN3.out.facts
          obtain ⟨sb, Bb, mb, kb, b0, b1⟩ := HB3.out.cells HIL.out
          have f3 := HB3.out.frozen (k * 2)
          have f4 := HB3.out.frozen (k * 2 + 1)
          have lb := HB3.out.lt
          go_region_law
            ((first
              | (go_simp
                 go_at_call 102
                 refine Calls.mono (HQU.out _ _ _ (HV3.out.up (by (repeat (first | exact Below.refl _ _ | exact Hid.out (by assumption) | refine Up.trans ?_ (Up.drew _) | refine Up.trans ?_ (Up.drewN _ _) | refine Up.trans ?_ (Up.alloc _ _) | refine Up.trans ?_ (Hid.out (by assumption)))))) (HY5.out.up (by (repeat (first | exact Below.refl _ _ | exact Hid.out (by assumption) | refine Up.trans ?_ (Up.drew _) | refine Up.trans ?_ (Up.drewN _ _) | refine Up.trans ?_ (Up.alloc _ _) | refine Up.trans ?_ (Hid.out (by assumption))))))) ?_
                 rintro e w6 ⟨v6, rfl, hv, hu⟩
                 obtain ⟨s6, A6, n6, c6, rfl, -⟩ := hv.open_
                 have HU6 := Lib.hid hu
                 have HV6 := Lib.hid hv
                 obtain ⟨z0, z1, -, -, lz⟩ := (HC3.out.up (w' := w6) (by (repeat (first | exact Below.refl _ _ | exact Hid.out (by assumption) | refine Up.trans ?_ (Up.drew _) | refine Up.trans ?_ (Up.drewN _ _) | refine Up.trans ?_ (Up.alloc _ _) | refine Up.trans ?_ (Hid.out (by assumption)))))).facts
                 obtain ⟨t0, t1, t2, t3, lt⟩ := (HN3.out.up (w' := w6) (by (repeat (first | exact Below.refl _ _ | exact Hid.out (by assumption) | refine Up.trans ?_ (Up.drew _) | refine Up.trans ?_ (Up.drewN _ _) | refine Up.trans ?_ (Up.alloc _ _) | refine Up.trans ?_ (Hid.out (by assumption)))))).facts
                 clear hu hv)
              | (go_simp
                 go_at_call 140
                 refine Calls.mono (HTM.out _ _ _ (HX5.out.up (by (repeat (first | exact Below.refl _ _ | exact Hid.out (by assumption) | refine Up.trans ?_ (Up.drew _) | refine Up.trans ?_ (Up.drewN _ _) | refine Up.trans ?_ (Up.alloc _ _) | refine Up.trans ?_ (Hid.out (by assumption)))))) (HV6.out.up (by (repeat (first | exact Below.refl _ _ | exact Hid.out (by assumption) | refine Up.trans ?_ (Up.drew _) | refine Up.trans ?_ (Up.drewN _ _) | refine Up.trans ?_ (Up.alloc _ _) | refine Up.trans ?_ (Hid.out (by assumption))))))) ?_
                 rintro e w7 ⟨v7, rfl, hv, hu⟩
                 obtain ⟨s7, A7, n7, c7, rfl, -⟩ := hv.open_
                 have HU7 := Lib.hid hu
                 have HV7 := Lib.hid hv
                 have HB7 := Lib.hid (HB3.out.up (w' := w7) (by (repeat (first | exact Below.refl _ _ | exact Hid.out (by assumption) | refine Up.trans ?_ (Up.drew _) | refine Up.trans ?_ (Up.drewN _ _) | refine Up.trans ?_ (Up.alloc _ _) | refine Up.trans ?_ (Hid.out (by assumption))))))
                 obtain ⟨sb, Bb, mb, kb, b0, b1⟩ := HB7.out.cells HIL.out
                 have f3 := HB7.out.frozen (k * 2)
                 have f4 := HB7.out.frozen (k * 2 + 1)
                 have lb := HB7.out.lt
                 clear hu hv)))
          all_goals
            have HB8 := Lib.hid (HB7.out.store HIL.out HV7.out)
            have HC8 := Lib.hid ((HC3.out.up (w' := w7) (by (repeat (first | exact Below.refl _ _ | exact Hid.out (by assumption) | refine Up.trans ?_ (Up.drew _) | refine Up.trans ?_ (Up.drewN _ _) | refine Up.trans ?_ (Up.alloc _ _) | refine Up.trans ?_ (Hid.out (by assumption)))))).far HNT.out (k * 2) (k * 2 + 1) (.int .i64 s7) (.slice A7 n7 c7))
            have HZ8 := Lib.hid ((HZ3.out.up (w' := w7) (by (repeat (first | exact Below.refl _ _ | exact Hid.out (by assumption) | refine Up.trans ?_ (Up.drew _) | refine Up.trans ?_ (Up.drewN _ _) | refine Up.trans ?_ (Up.alloc _ _) | refine Up.trans ?_ (Hid.out (by assumption)))))).far HZM.out (k * 2) (k * 2 + 1) (.int .i64 s7) (.slice A7 n7 c7))
            have HV8 := Lib.hid ((HV3.out.up (w' := w7) (by (repeat (first | exact Below.refl _ _ | exact Hid.out (by assumption) | refine Up.trans ?_ (Up.drew _) | refine Up.trans ?_ (Up.drewN _ _) | refine Up.trans ?_ (Up.alloc _ _) | refine Up.trans ?_ (Hid.out (by assumption)))))).put HB7.out.not_digit (k * 2) (k * 2 + 1) (.int .i64 s7) (.slice A7 n7 c7))
            have HU8 := Lib.hid (((show Up w w7 by (repeat (first | exact Below.refl _ _ | exact Hid.out (by assumption) | refine Up.trans ?_ (Up.drew _) | refine Up.trans ?_ (Up.drewN _ _) | refine Up.trans ?_ (Up.alloc _ _) | refine Up.trans ?_ (Hid.out (by assumption))))).setCell (p := ⟨gt, k * 2, none⟩) HGT.out (.int .i64 s7)).setCell (p := ⟨gt, k * 2 + 1, none⟩) HGT.out (.slice A7 n7 c7))
            clear z0 z1 lz t0 t1 t2 t3 lt b0 b1 f3 f4 lb
            go_wp2
            exact ⟨⟨k + 1, by omega, by simp, by rw [HNEXT.out]; exact HB8, HZ8, HC8, HV8, HU8⟩, by simp [intOf]; omega⟩
        · have hke : k = xs.length := by omega
          subst hke
          have HF := Lib.hid (by have := HB.out; rw [← HTL.out, fillR_all] at this; exact this)
          obtain ⟨z0, z1, -, -, lz⟩ := HC.out.facts
          obtain ⟨r0, r1, y0, y1, lr⟩ := HZ.out.facts
          have HZ8 := Lib.hid (HZ.out.set s2 A2 n2 c2)
          have HF8 := Lib.hid (HF.out.far HZM.out.symm HZ.out.not_digit 0 1 (.int .i64 s2) (.slice A2 n2 c2))
          have HV8 := Lib.hid (HV.out.put HZ.out.not_digit 0 1 (.int .i64 s2) (.slice A2 n2 c2))
          have HU8 := Lib.hid (Up.stored HU.out HGZZ.out (.int .i64 s2) (.slice A2 n2 c2))
          go_upto_region 13 with fail
          go_region_with (fail)
          all_goals
            go_wp2
            obtain ⟨z0, z1, -, -, -⟩ := HZ8.out.facts
            refine bodyPost_ret (by simp [results, Tryz.results122, go_sem, z0, z1]; try rfl) rfl ?_
            exact ⟨_, _, rfl, ⟨some ⟨gt, 0, none⟩, xs.length, by rw [HTL.out], by rw [HTL.out]; exact Nat.le_refl _, HLM.out, by first | exact HF8.out.rdz | exact (HF8.out.up (Up.drew _)).rdz, fun b off e => by cases e; exact HGT.out⟩, by first | exact HV8.out | exact HV8.out.up (Up.drew _), by first | exact HU8.out | exact HU8.out.trans (Up.drew _)⟩
set_option maxHeartbeats 2000000 in
set_option maxRecDepth 10000 in
theorem common_any (A : Option Addr) (c : Nat) (xs : List (Int × Int)) (w : World) (hn : xs.length ≤ 1000000) (hr : RdN w A xs) (hx : ∀ p, p ∈ xs → Rng p.1 p.2) (hp : ∀ p, p ∈ xs → 0 < p.2) (ht : Tab w) :
    Calls Tryz.prog 85 #[.slice A xs.length c] w fun e w' => ∃ v1 v2, e = .returned (.tuple #[v1, v2]) ∧ RowF w w' v1 (xs.map fun p => p.1 * (lowN xs : Int).tdiv p.2) ∧ IV w' v2 (lowN xs : Nat) ∧ Up w w' := by
  have hmk : ∀ W, (Instr.makeSlice 163 (.int .i64 (xs.length : Int)) (.int .i64 (xs.length : Int))).run Tryz.prog W = .ok (.slice (some ⟨W.heap.size, 0, none⟩) xs.length xs.length) (W.alloc (.cells (madeCells zcsP.toArray (xs.length * 4)) 110)) := fun W => mkFracs xs.length (by omega) W
  have HOF := Lib.hid (fun x y W (h : Rng x y) => fracOfP_any x y W h.1 h.2.1 h.2.2.1 h.2.2.2)
  have HTP := Lib.hid (fun W A' c' (hu : Up w W) (h : RdE eltP W A' xs) => tops_any A' c' xs W hn h hx hp (ht.up hu))
  have HMD := Lib.hid (fun W => OwP.made (E := eltP) (ok := okA) zcsP_rel (fun _ _ _ => trivial) W 110 xs.length (by omega))
  clear ht hp
  go_enter Tryz.func85, Tryz.ntmps85
  go_wp2_with fail
  have HZ0 := Lib.hid ((CellZ.new w 0 none 0 0).up (Up.alloc (w.alloc (.cells #[.int .i64 0, .slice none 0 0] 108)) (.cells (madeCells zcsP.toArray (xs.length * 4)) 110)))
  have HO0 := Lib.hid (HMD.out (w.alloc (.cells #[.int .i64 0, .slice none 0 0] 108)))
  have HU0 := Lib.hid ((Up.alloc w (.cells #[.int .i64 0, .slice none 0 0] 108)).trans (Up.alloc _ (.cells (madeCells zcsP.toArray (xs.length * 4)) 110)))
  obtain ⟨wA, hwA⟩ : ∃ wA, wA = w.alloc (.cells #[.int .i64 0, .slice none 0 0] 108) := ⟨_, rfl⟩
  have HSA := Lib.hid (show w.heap.size < wA.heap.size by rw [hwA, size_alloc]; omega)
  rw [← hwA] at HZ0 HO0 HU0
  obtain ⟨g, hg⟩ : ∃ g, g = w.heap.size + 1 := ⟨_, rfl⟩
  have hgA : wA.heap.size = g := by rw [hwA, size_alloc, hg]
  rw [hgA] at HO0
  have HGG := Lib.hid (show w.heap.size ≤ g ∧ w.heap.size ≠ g by omega)
  have HGA := Lib.hid hgA
  rw [← hg, ← hwA]
  generalize hgz : w.heap.size = gz at *
  have HGZ := Lib.hid hgz
  change Hid (OwP eltP okA wA (wA.alloc (.cells (madeCells zcsP.toArray (xs.length * 4)) 110)) 110 (.slice (some ⟨g, 0, none⟩) xs.length xs.length) (List.replicate xs.length (0, 0))) at HO0
  generalize wA.alloc (.cells (madeCells zcsP.toArray (xs.length * 4)) 110) = wB at *
  clear hwA hgA hg hmk hgz HMD
  go_loopw [12] (fun i wr => ∃ k : Nat, k ≤ xs.length ∧ i = .int .i64 k ∧ Hid (OwP eltP okA wA wr 110 (.slice (some ⟨g, 0, none⟩) xs.length xs.length) (fillP xs k)) ∧ Hid (CellZ wr gz 0 none 0 0) ∧ Hid (Up w wr)) (fun i _ => xs.length - (intOf i).toNat)
  case atStart => exact ⟨0, by omega, rfl, by rw [fillP_zero]; exact HO0, HZ0, HU0⟩
  case round =>
    obtain ⟨k, hk, rfl, HO, HZ, HU⟩ := hrel
    by_cases hkl : k < xs.length
    · obtain ⟨b, off, rfl, hbb, d0, d1⟩ := (hr.up HU.out).at_ hkl
      have HR := Lib.hid (hx _ (List.getElem_mem hkl))
      have HST := Lib.hid (fillP_next xs k hkl)
      have HPL := Lib.hid (show k < (fillP xs k).length by rw [fillP_length _ _ hk]; exact hkl)
      have HXE : Hid (xs[k] = (xs[k].1, xs[k].2)) := Lib.hid rfl
      rw [HXE.out] at HST
      generalize xs[k].1 = x at *
      generalize xs[k].2 = y at *
      clear HXE
      have HUX := Lib.hid (Up.alloc wr (.cells #[.int .i64 x, .int .i64 y] 55))
      go_wp2_with fail
      refine Calls.mono (HOF.out _ _ _ HR.out) ?_
      rintro e w5 ⟨v5, rfl, hv, hu⟩
      obtain ⟨s5, A5, n5, c5, t5, F5, m5, k5, rfl, he⟩ := hv.elt (some g)
      have HU5 := Lib.hid (HUX.out.trans hu)
      have HO5 := Lib.hid (HO.out.up HU5.out)
      have HZ5 := Lib.hid (HZ.out.up HU5.out)
      have HO9 := Lib.hid (HO5.out.storeP HPL.out he)
      rw [HST.out] at HO9
      have HU9 := Lib.hid (up_put4p (HU.out.trans HU5.out) (by rw [HGZ.out]; exact HGG.out.1) (k * 4) (.int .i64 s5) (.slice A5 n5 c5) (.int .i64 t5) (.slice F5 m5 k5))
      have HZ9 : Hid (CellZ (put4c w5 g (k * 4) (.int .i64 s5) (.slice A5 n5 c5) (.int .i64 t5) (.slice F5 m5 k5)) gz 0 none 0 0) := Lib.hid ((HZ5.out.far HGG.out.2 (k * 4) (k * 4 + 1) (.int .i64 s5) (.slice A5 n5 c5)).far HGG.out.2 (k * 4 + 2) (k * 4 + 3) (.int .i64 t5) (.slice F5 m5 k5))
      obtain ⟨lt5, hfz, X1, X2, X3, X4, e0, e1, e2, e3⟩ := HO5.out.cellsP HPL.out
      have hz0 := hfz (k * 4)
      have hz1 := hfz (k * 4 + 1)
      have hz2 := hfz (k * 4 + 2)
      have hz3 := hfz (k * 4 + 3)
      have i0 : (0 : Int) ≤ (k : Int) := by omega
      have i1 : (k : Int) < (xs.length : Int) := by omega
      clear hu hv he hfz d0 d1 hbb HO HU HZ
      go_wp2_with fail
      exact ⟨⟨k + 1, by omega, by simp, HO9, HZ9, HU9⟩, by simp [intOf]; omega⟩
    · have hke : k = xs.length := by omega
      subst hke
      rw [fillP_all] at HO
      go_wp2_with fail
      refine Calls.mono (HTP.out _ _ _ HU.out HO.out.readP) ?_
      rintro e w6 ⟨v1, v2, rfl, hrow, hiv, hu⟩
      obtain ⟨A1, c1, rfl, h1, h2, h3, h4⟩ := hrow
      obtain ⟨s2, A2, n2, c2, rfl, -⟩ := hiv.open_
      have HZ6 := Lib.hid (HZ.out.up hu)
      have HZ8 := Lib.hid (HZ6.out.set s2 A2 n2 c2)
      obtain ⟨r0, r1, y0, y1, lr⟩ := HZ6.out.facts
      have HRZ := Lib.hid (And.intro h1 (And.intro h2 (And.intro (show RdZ ((w6.setCell ⟨gz, 0, none⟩ (.int .i64 s2)).setCell ⟨gz, 1, none⟩ (.slice A2 n2 c2)) A1 (xs.map fun p => p.1 * (lowN xs : Int).tdiv p.2) from h3.same (fun b off e e2 => by
        have := h4 b off e
        have h6 := HU.out.size
        have h7 := HSA.out
        have h8 := HGZ.out
        have h9 := HZ.out.lt
        omega) HZ6.out.not_digit (((SameBut.refl gz w6).set 0 (.int .i64 s2)).set 1 (.slice A2 n2 c2))) (fun b off e => Nat.le_trans HU.out.size (h4 b off e)))))
      have HV8 := Lib.hid (hiv.put HZ6.out.not_digit 0 1 (.int .i64 s2) (.slice A2 n2 c2))
      have HU8 := Lib.hid (Up.stored (HU.out.trans hu) (show w.heap.size ≤ gz by rw [HGZ.out]; exact Nat.le_refl _) (.int .i64 s2) (.slice A2 n2 c2))
      clear hu hiv h1 h2 h3 h4
      go_wp2
      obtain ⟨z0, z1, -, -, -⟩ := HZ8.out.facts
      refine bodyPost_ret (by simp [results, Tryz.results85, go_sem, z0, z1]; try rfl) rfl ?_
      exact ⟨_, _, rfl, ⟨A1, c1, by rw [List.length_map], HRZ.out.1, HRZ.out.2.1, HRZ.out.2.2.1, HRZ.out.2.2.2⟩, HV8.out, HU8.out⟩
end Go.Proofs.YtacbjbnocepnaaaGreatDoor
