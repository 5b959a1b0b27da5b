/- What a further law needs. -/
import Derived.Test.YtacbjbnocepnaaaGreatDoorQHN
import Derived.Test.YtacbjbnocepnaaaGreatDoorQHT
import Derived.Test.YtacbjbnocepnaaaGreatDoorQHR
import Derived.Test.YtacbjbnocepnaaaGreatDoorQHG
import Derived.Test.YtacbjbnocepnaaaGreatDoorQHJ
import Derived.Test.YtacbjbnocepnaaaGreatDoorQHS
import Derived.Test.YtacbjbnocepnaaaGreatDoorQC1
import Derived.Deep.RegionLawGrows
namespace Go.Proofs.YtacbjbnocepnaaaGreatDoor
open Go.RowKit Fm
def lcmR : Nat → List Nat → Nat
  | l, [] => l
  | l, q :: qs => lcmR (Nat.lcm l q) qs
theorem lcmR_append (qs rs : List Nat) : ∀ l, lcmR l (qs ++ rs) = lcmR (lcmR l qs) rs := by
  induction qs with
  | nil => intro l; rfl
  | cons q qs ih => intro l; exact ih _
theorem lcmR_pos (qs : List Nat) (h : ∀ q, q ∈ qs → 0 < q) : ∀ l, 0 < l → 0 < lcmR l qs := by
  induction qs with
  | nil => exact fun l hl => hl
  | cons q qs ih => exact fun l hl => ih (fun x hx => h x (List.mem_cons_of_mem _ hx)) _ (Nat.lcm_pos hl (h q (List.mem_cons_self ..)))
def lowN (xs : List (Int × Int)) : Nat := lcmR 1 (xs.map fun p => p.2.natAbs)
theorem lowN_next (xs : List (Int × Int)) (k : Nat) (hk : k < xs.length) : lowN (xs.take (k + 1)) = Nat.lcm (lowN (xs.take k)) xs[k].2.natAbs := by
  unfold lowN
  rw [List.take_succ_eq_append_getElem hk, List.map_append, lcmR_append]
  rfl
theorem lowN_pos (xs : List (Int × Int)) (h : ∀ p, p ∈ xs → 0 < p.2) : 0 < lowN xs := by
  refine lcmR_pos _ (fun q hq => ?_) 1 (by decide)
  obtain ⟨p, hp, rfl⟩ := List.mem_map.1 hq
  have := h p hp
  omega
theorem lcm_int {l x : Nat} (hl : 0 < l) : ((l : Int).tdiv (Int.gcd l x : Nat)) * x = (Nat.lcm l x : Nat) := by
  have hd : Nat.gcd l x ∣ l := Nat.gcd_dvd_left l x
  have hg : 0 < Nat.gcd l x := Nat.gcd_pos_of_pos_left _ hl
  obtain ⟨m, hm⟩ := hd
  have e1 : Int.gcd (l : Int) (x : Int) = Nat.gcd l x := by simp [Int.gcd]
  have e2 : (l : Int) = (Nat.gcd l x : Nat) * (m : Nat) := by rw [← Int.natCast_mul, ← hm]
  rw [e1]
  conv => lhs; rw [e2]
  rw [Int.mul_tdiv_cancel_left _ (by omega), Nat.lcm]
  have e3 : l * x / Nat.gcd l x = m * x := by
    conv => lhs; lhs; rw [hm, Nat.mul_assoc]
    exact Nat.mul_div_cancel_left _ hg
  rw [e3, Int.natCast_mul]
theorem lowN_bl (xs : List (Int × Int)) (hx : ∀ p, p ∈ xs → Rng p.1 p.2) (hp : ∀ p, p ∈ xs → 0 < p.2) : ∀ k, k ≤ xs.length → bl ((lowN (xs.take k) : Nat) : Int) ≤ 2 * k + 1 := by
  intro k
  induction k with
  | zero => intro _; rw [List.take_zero]; exact Nat.le_trans (show bl ((lowN [] : Nat) : Int) ≤ 1 from digs_length_le (B := 4294967296) (k := 1) (by omega) (by decide)) (by omega)
  | succ k ih =>
    intro hk
    have h1 := ih (by omega)
    rw [lowN_next xs k (by omega)]
    have hl := lowN_pos (xs.take k) (fun p h => hp p (List.mem_of_mem_take h))
    have hR := hx _ (List.getElem_mem (show k < xs.length by omega))
    have h0 := hp _ (List.getElem_mem (show k < xs.length by omega))
    rw [← lcm_int hl]
    refine bl_mul (bl_tdiv h1) (l := 2) ?_ (by omega)
    refine bl_small ?_
    unfold Rng at hR
    omega
theorem mkInts2 (n : Nat) (hn : n ≤ 4294967296) (w : World) : (Instr.makeSlice 89 (.int .i64 (n : Int)) (.int .i64 (n : Int))).run Tryz.prog w =
    .ok (.slice (some ⟨w.heap.size, 0, none⟩) n n) (w.alloc (.cells (zeroRow n) 108)) := by
  obtain ⟨i0, hi, hz0, hz1, hz2⟩ := info_parts info_int
  have h := run_make (P := Tryz.prog) w 89 108 i0 (.agg #[.int .i64 0, .slice none 0 0]) Tryz.underlying89 hi hz0 .i64 .i64 n n (by omega) (by omega) (by rw [hz2]; omega) (by omega)
  rw [h, hz1]; simp only [Int.toNat_natCast, zeroRow]
def zeroQ (n : Nat) : Array Value := madeCells (Value.agg #[.int .i64 0, .bool false, .slice none 0 0]).cells (n * 3)
theorem zeroQ_get (n i : Nat) (hi : i < n) : (zeroQ n)[i * 3]? = some (.int .i64 0) ∧ (zeroQ n)[i * 3 + 1]? = some (.bool false) ∧ (zeroQ n)[i * 3 + 2]? = some (.slice none 0 0) := by
  have hs : (zeroQ n).size = n * 3 := by simp [zeroQ, madeCells, Value.cells]
  refine ⟨?_, ?_, ?_⟩
  · rw [Array.getElem?_eq_getElem (by rw [hs]; omega)]
    simp [zeroQ, madeCells, Value.cells]
  · rw [Array.getElem?_eq_getElem (by rw [hs]; omega)]
    have e : (i * 3 + 1) % 3 = 1 := by omega
    simp [zeroQ, madeCells, Value.cells, e]
  · rw [Array.getElem?_eq_getElem (by rw [hs]; omega)]
    have e : (i * 3 + 2) % 3 = 2 := by omega
    simp [zeroQ, madeCells, Value.cells, e]
theorem mkRefInts (n : Nat) (hn : n ≤ 4294967296) (w : World) : (Instr.makeSlice 57 (.int .i64 (n : Int)) (.int .i64 (n : Int))).run Tryz.prog w =
    .ok (.slice (some ⟨w.heap.size, 0, none⟩) n n) (w.alloc (.cells (zeroQ n) 48)) := by
  obtain ⟨i0, hi, hz0, hz1, hz2⟩ := info_parts info_ri
  have h := run_make (P := Tryz.prog) w 57 48 i0 (.agg #[.int .i64 0, .bool false, .slice none 0 0]) Tryz.underlying57 hi hz0 .i64 .i64 n n (by omega) (by omega) (by rw [hz2]; omega) (by omega)
  rw [h, hz1]; simp only [Int.toNat_natCast, zeroQ]
theorem zeroQ_rd (w : World) (n : Nat) : RdE eltR (w.alloc (.cells (zeroQ n) 48)) (some ⟨w.heap.size, 0, none⟩) (List.replicate n 0) := fun _ => by
  refine ⟨w.heap.size, 0, rfl, by rw [size_alloc]; omega, fun i hi => ?_⟩
  have hi2 : i < n := by simpa using hi
  obtain ⟨e0, e1, e2⟩ := zeroQ_get n i hi2
  refine ⟨[.int .i64 0, .bool false, .slice none 0 0], ⟨0, false, none, 0, 0, rfl, .inl ⟨rfl, by simp, by simp⟩⟩, fun j u hj => ?_⟩
  rw [cell_of_row _ w.heap.size _ _ _ _ (heap_alloc_new w _), show eltR.size = 3 from rfl, Nat.zero_add]
  match j, hj with
  | 0, hj => simp at hj; subst hj; exact e0
  | 1, hj => simp at hj; subst hj; exact e1
  | 2, hj => simp at hj; subst hj; exact e2
set_option maxHeartbeats 1000000 in
set_option maxRecDepth 10000 in
theorem refZero_any (n : Nat) (w : World) (hn : n ≤ 100000) : Calls Tryz.prog 91 #[.int .i64 n] w fun e w' => ∃ v, e = .returned v ∧ RowQ w w' v (List.replicate n 0) 0 ∧ Up w w' := by
  have hmk : ∀ W, (Instr.makeSlice 57 (.int .i64 (n : Int)) (.int .i64 (n : Int))).run Tryz.prog W = .ok (.slice (some ⟨W.heap.size, 0, none⟩) n n) (W.alloc (.cells (zeroQ n) 48)) := fun W => mkRefInts n (by omega) W
  go_enter Tryz.func91, Tryz.ntmps91
  go_wp2
  have hq := (CellQ.new w (.slice (some ⟨w.heap.size + 1, 0, none⟩) n n) (.slice none 0 0) 0 false).up (Up.alloc _ (.cells (zeroQ n) 48))
  have hz := zeroQ_rd (w.alloc (.cells #[.slice (some ⟨w.heap.size + 1, 0, none⟩) n n, .int .i64 0, .bool false, .slice none 0 0] 59)) n
  rw [size_alloc] at hz
  obtain ⟨z0, z1, z2, z3, -, -⟩ := hq.facts
  refine bodyPost_ret (by simp [results, Tryz.results91, go_sem, z0, z1, z2, z3]; try rfl) rfl ?_
  exact ⟨_, rfl, ⟨some ⟨w.heap.size + 1, 0, none⟩, n, 0, false, none, 0, 0, by rw [List.length_replicate], by rw [List.length_replicate]; exact Nat.le_refl _, by unfold maxLen; omega, hz, RIa.ri (o := none) (.inl ⟨rfl, rfl, by simp⟩), fun b off e => by cases e; omega⟩, (Up.alloc _ _).trans (Up.alloc _ _)⟩
def lcmD (qs : List Rat) : Nat := lcmR 1 (qs.map (·.den))
theorem lcmD_next (qs : List Rat) (k : Nat) (hk : k < qs.length) : lcmD (qs.take (k + 1)) = Nat.lcm (lcmD (qs.take k)) qs[k].den := by
  unfold lcmD
  rw [List.take_succ_eq_append_getElem hk, List.map_append, lcmR_append]
  rfl
theorem lcmD_pos (qs : List Rat) : 0 < lcmD qs := by
  refine lcmR_pos _ (fun q hq => ?_) 1 (by decide)
  obtain ⟨p, -, rfl⟩ := List.mem_map.1 hq
  exact Nat.pos_of_ne_zero p.den_nz
def addF (k : Nat) (g r : List Int × Int) (q : Rat) : List Int × Int :=
  (List.zipWith (· + ·) g.1 (r.1.map (· * (q.num * ((k : Int).tdiv q.den)))), g.2 + r.2 * (q.num * ((k : Int).tdiv q.den)))
def sumF (n k : Nat) : List (List Int × Int) → List Rat → List Int × Int := fun fs qs => (fs.zip qs).foldl (fun g p => addF k g p.1 p.2) (List.replicate n 0, 0)
theorem sumF_next (n k : Nat) (fs : List (List Int × Int)) (qs : List Rat) (i : Nat) (h1 : i < fs.length) (h2 : i < qs.length) : sumF n k (fs.take (i + 1)) (qs.take (i + 1)) = addF k (sumF n k (fs.take i) (qs.take i)) fs[i] qs[i] := by
  unfold sumF
  rw [List.take_succ_eq_append_getElem h1, List.take_succ_eq_append_getElem h2, List.zip_append (by rw [List.length_take, List.length_take]; omega), List.foldl_append]
  rfl
theorem sumF_length (n k : Nat) : ∀ (fs : List (List Int × Int)) (qs : List Rat) (g : List Int × Int), g.1.length = n → (∀ f, f ∈ fs → f.1.length = n) → ((fs.zip qs).foldl (fun g p => addF k g p.1 p.2) g).1.length = n := by
  intro fs
  induction fs with
  | nil => intro qs g hg _; simpa using hg
  | cons f fs ih =>
    intro qs g hg hf
    cases qs with
    | nil => simpa using hg
    | cons q qs =>
      simp only [List.zip_cons_cons, List.foldl_cons]
      refine ih qs _ ?_ fun f' hf' => hf f' (List.mem_cons_of_mem _ hf')
      have := hf f (List.mem_cons_self ..)
      simp [addF, hg, this]
theorem lcmD_rl (qs : List Rat) (h : ∀ q, q ∈ qs → QB q 3) : ∀ i, i ≤ qs.length → rl ((lcmD (qs.take i) : Nat) : Int) ≤ 3 * i + 1 := by
  intro i
  induction i with
  | zero => intro _; rw [List.take_zero]; exact rl_of_lt (k := 1) (by decide)
  | succ i ih =>
    intro hi
    have h1 := ih (by omega)
    rw [lcmD_next qs i (by omega), ← lcm_int (lcmD_pos _)]
    exact rl_mul (rl_tdiv h1) (h _ (List.getElem_mem (show i < qs.length by omega))).2 (by omega)
theorem addF_rl {k : Nat} {g r : List Int × Int} {q : Rat} {m : Nat} (hk : rl ((k : Nat) : Int) ≤ 700) (hm : 1000 ≤ m) (hq : QB q 3) (hr : (∀ y, y ∈ r.1 → rl y ≤ 3) ∧ rl r.2 ≤ 3) (hg : (∀ y, y ∈ g.1 → rl y ≤ m) ∧ rl g.2 ≤ m) : (∀ y, y ∈ (addF k g r q).1 → rl y ≤ m + 1) ∧ rl (addF k g r q).2 ≤ m + 1 := by
  have hc : rl (q.num * ((k : Int).tdiv q.den)) ≤ 703 := rl_mul hq.1 (rl_tdiv hk) (by omega)
  have ht : ∀ y, rl y ≤ 3 → rl (y * (q.num * ((k : Int).tdiv q.den))) ≤ m := fun y hy => rl_mul hy hc (by omega)
  refine ⟨fun y hy => ?_, rl_add hg.2 (ht _ hr.2) (Nat.le_refl _)⟩
  unfold addF at hy
  simp only at hy
  obtain ⟨i, hi, rfl⟩ := List.getElem_of_mem hy
  rw [List.getElem_zipWith]
  refine rl_add (hg.1 _ (List.getElem_mem _)) ?_ (Nat.le_refl _)
  rw [List.getElem_map]
  exact ht _ (hr.1 _ (List.getElem_mem _))
theorem sumF_rl (n k : Nat) (fs : List (List Int × Int)) (qs : List Rat) (hk : rl ((k : Nat) : Int) ≤ 700) (hl : fs.length = qs.length) (hq : ∀ q, q ∈ qs → QB q 3) (hf : ∀ f, f ∈ fs → (∀ y, y ∈ f.1 → rl y ≤ 3) ∧ rl f.2 ≤ 3) : ∀ i, i ≤ fs.length → (∀ y, y ∈ (sumF n k (fs.take i) (qs.take i)).1 → rl y ≤ 1000 + i) ∧ rl (sumF n k (fs.take i) (qs.take i)).2 ≤ 1000 + i := by
  intro i
  have h0 : rl 0 ≤ 1000 := Nat.le_trans (rl_of_lt (k := 1) (by decide)) (by omega)
  induction i with
  | zero =>
    intro _
    rw [List.take_zero, List.take_zero]
    refine ⟨fun y hy => ?_, h0⟩
    rw [List.eq_of_mem_replicate (show y ∈ List.replicate n 0 from hy)]
    exact h0
  | succ i ih =>
    intro hi
    have h1 : i < fs.length := by omega
    have h2 : i < qs.length := by omega
    rw [sumF_next n k fs qs i h1 h2]
    exact addF_rl hk (Nat.le_add_right 1000 i) (hq _ (List.getElem_mem h2)) (hf _ (List.getElem_mem h1)) (ih (by omega))
theorem sumF_len (n k : Nat) (fs : List (List Int × Int)) (qs : List Rat) (hf : ∀ f, f ∈ fs → f.1.length = n) (i : Nat) : (sumF n k (fs.take i) (qs.take i)).1.length = n :=
  sumF_length n k _ _ _ (by simp) fun f h => hf f (List.mem_of_mem_take h)
theorem SysB.len {w : World} {g n : Nat} {S : Sys} (h : SysB w g n S) : S.length = 10 := by
  obtain ⟨arr, -, -, -, h1, -⟩ := h
  exact h1
theorem SysV.up {w w' : World} {arr : Array Value} {n : Nat} {S : Sys} (h : SysV w arr n S) (hu : Up w w') : SysV w' arr n S := by
  refine ⟨h.1, h.2.1, h.2.2.1, fun c hc => ?_⟩
  obtain ⟨A, m, k, e1, e2⟩ := h.2.2.2 c hc
  refine ⟨A, m, k, e1, fun g hg => (e2 g (Nat.le_trans hu.size hg)).up hu⟩
end Go.Proofs.YtacbjbnocepnaaaGreatDoor
namespace Go.Proofs.YtacbjbnocepnaaaGreatDoor
open Fm
theorem gcdR_times (x : Int) (r : List Int) : ∀ g, gcdR (x.natAbs * g) (timesR x r) = x.natAbs * gcdR g r := by
  induction r with
  | nil => intro g; rfl
  | cons a r ih =>
    intro g
    have := ih (Nat.gcd g a.natAbs)
    unfold timesR at this ⊢
    simp only [List.map_cons, gcdR]
    rw [← this, ← Nat.gcd_mul_left, Int.natAbs_mul, Nat.mul_comm a.natAbs]
def PrimR (r : List Int) : Prop := gcdR 0 r = 1
theorem gcdR_times0 (x : Int) (r : List Int) : gcdR 0 (timesR x r) = x.natAbs * gcdR 0 r := by
  have := gcdR_times x r 0
  rwa [Nat.mul_zero] at this
theorem negR_times (r : List Int) : negR r = timesR (-1) r := by
  unfold negR timesR
  apply List.map_congr_left
  intro a _; omega
theorem PrimR.pos {r : List Int} (h : PrimR r) (c : Nat) : PrimR (posR c r) := by
  unfold posR
  split
  · rw [negR_times]; unfold PrimR; rw [gcdR_times0]; unfold PrimR at h; rw [h]; rfl
  · exact h
end Go.Proofs.YtacbjbnocepnaaaGreatDoor
namespace Go.Proofs.YtacbjbnocepnaaaGreatDoor
open Go.RowKit Fm
theorem Elts.flat_len {α : Type} {E : Elt α} {w : World} {o : Option Nat} : ∀ {css : List (List Value)} {zs : List α}, Elts E w o css zs → css.flatten.length = zs.length * E.size
  | [], [], _ => by simp
  | cs :: css, z :: zs, h => by
    rw [List.flatten_cons, List.length_append, E.len h.1, Elts.flat_len h.2, List.length_cons, Nat.succ_mul]; omega
  | [], _ :: _, h => h.elim
  | _ :: _, [], h => h.elim
theorem Elts.all {α : Type} {E : Elt α} {w : World} {o : Option Nat} {p : Value → Prop} (hp : ∀ {cs z}, E.rel w o cs z → ∀ u ∈ cs, p u) : ∀ {css : List (List Value)} {zs : List α}, Elts E w o css zs → ∀ u ∈ css.flatten, p u
  | [], [], _ => fun u hu => by simp at hu
  | cs :: css, z :: zs, h => fun u hu => by
    rw [List.flatten_cons, List.mem_append] at hu
    rcases hu with hu | hu
    · exact hp h.1 u hu
    · exact Elts.all hp h.2 u hu
  | [], _ :: _, h => h.elim
  | _ :: _, [], h => h.elim
theorem flatten_set {α : Type} (size : Nat) : ∀ (css : List (List α)) (i : Nat) (cs : List α), (∀ x, x ∈ css → x.length = size) → cs.length = size → i < css.length → (css.set i cs).flatten = css.flatten.take (i * size) ++ cs ++ css.flatten.drop (i * size + size) := by
  intro css
  induction css with
  | nil => intro i cs _ _ hi; simp at hi
  | cons c0 css ih =>
    intro i cs h hc hi
    have h0 := h c0 (by simp)
    cases i with
    | zero =>
      simp only [List.set_cons_zero, List.flatten_cons, Nat.zero_mul, List.take_zero, List.nil_append, Nat.zero_add]
      rw [List.drop_append_of_le_length (by omega), List.drop_of_length_le (by omega), List.nil_append]
    | succ i =>
      have e1 : (i + 1) * size = c0.length + i * size := by rw [Nat.succ_mul, h0]; omega
      have t1 : (c0 ++ css.flatten).take (c0.length + i * size) = c0 ++ css.flatten.take (i * size) := by simp [List.take_append, List.take_of_length_le]
      have t2 : (c0 ++ css.flatten).drop (c0.length + (i * size + size)) = css.flatten.drop (i * size + size) := by simp [List.drop_append, List.drop_of_length_le]
      rw [List.set_cons_succ, List.flatten_cons, List.flatten_cons, ih i cs (fun x hx => h x (by simp [hx])) hc (by simpa using hi), e1, Nat.add_assoc, t1, t2]
      simp [List.append_assoc]
theorem Elts.lens {α : Type} {E : Elt α} {w : World} {o : Option Nat} : ∀ {css : List (List Value)} {zs : List α}, Elts E w o css zs → ∀ x, x ∈ css → x.length = E.size
  | [], [], _, x, hx => by simp at hx
  | _ :: _, _ :: _, h, x, hx => by
    rcases List.mem_cons.1 hx with e | hx
    · rw [e]; exact E.len h.1
    · exact Elts.lens h.2 x hx
  | [], _ :: _, h, _, _ => h.elim
  | _ :: _, [], h, _, _ => h.elim
theorem Elts.set_ {α : Type} {E : Elt α} {w : World} {o : Option Nat} {cs : List Value} {z : α} (hz : E.rel w o cs z) : ∀ {css : List (List Value)} {zs : List α} (i : Nat), Elts E w o css zs → Elts E w o (css.set i cs) (zs.set i z)
  | [], [], _, _ => trivial
  | _ :: _, _ :: _, 0, h => ⟨hz, h.2⟩
  | _ :: _, _ :: _, i + 1, h => ⟨h.1, Elts.set_ hz i h.2⟩
  | [], _ :: _, _, h => h.elim
  | _ :: _, [], _, h => h.elim
def put4c (w : World) (g o : Nat) (a b c d : Value) : World := (((w.setCell ⟨g, o, none⟩ a).setCell ⟨g, o + 1, none⟩ b).setCell ⟨g, o + 2, none⟩ c).setCell ⟨g, o + 3, none⟩ d
def storeL : World → Nat → Nat → List Value → World
  | w, _, _, [] => w
  | w, g, o, c :: cs => storeL (w.setCell ⟨g, o, none⟩ c) g (o + 1) cs
theorem set_split {α : Type} (l : List α) (o : Nat) (c : α) (h : o < l.length) : (l.set o c).take (o + 1) = l.take o ++ [c] ∧ ∀ k, (l.set o c).drop (o + 1 + k) = l.drop (o + 1 + k) := by
  refine ⟨?_, fun k => ?_⟩
  · rw [List.take_succ_eq_append_getElem (by rw [List.length_set]; exact h), List.getElem_set_self, List.take_set_of_le (Nat.le_refl o)]
  · rw [List.drop_set_of_lt (by omega)]
theorem storeL_heap : ∀ (cs : List Value) (w : World) (g o : Nat) (cur : Array Value) (t : TypeId), w.heap[g]? = some (.cells cur t (0, 0)) → o + cs.length ≤ cur.size → ∃ arr, (storeL w g o cs).heap[g]? = some (.cells arr t (0, 0)) ∧ arr.toList = cur.toList.take o ++ cs ++ cur.toList.drop (o + cs.length) := by
  intro cs
  induction cs with
  | nil => intro w g o cur t h _; exact ⟨cur, h, by simp⟩
  | cons c cs ih =>
    intro w g o cur t h hl
    simp only [List.length_cons] at hl
    have h1 : (w.setCell ⟨g, o, none⟩ c).heap[g]? = some (.cells (cur.setIfInBounds o c) t (0, 0)) := by
      simp [World.setCell, Array.getElem?_modify, h]
    obtain ⟨arr, k1, k2⟩ := ih (w.setCell ⟨g, o, none⟩ c) g (o + 1) _ t h1 (by rw [Array.size_setIfInBounds]; omega)
    refine ⟨arr, k1, ?_⟩
    obtain ⟨s1, s2⟩ := set_split cur.toList o c (by simp; omega)
    rw [k2, Array.toList_setIfInBounds, s1, s2, List.length_cons]
    simp only [List.append_assoc, List.cons_append, List.nil_append]
    rw [show o + 1 + cs.length = o + (cs.length + 1) by omega]
theorem storeL_grown : ∀ (cs : List Value) (w : World) (g o : Nat), w.grownBy (storeL w g o cs) (some g) := by
  intro cs
  induction cs with
  | nil => intro w g o; exact ⟨rfl, rfl, rfl, Nat.le_refl _, fun _ _ _ => rfl⟩
  | cons c cs ih =>
    intro w g o
    have h1 : w.grownBy (w.setCell ⟨g, o, none⟩ c) (some g) := ⟨rfl, rfl, rfl, by simp [World.setCell], fun k hk hne => Below.heap_setCell w ⟨g, o, none⟩ c k (fun e => hne (by rw [e]))⟩
    exact grown_trans h1 (ih _ g (o + 1))
theorem Up.storeL {w0 : World} : ∀ (cs : List Value) (w : World) (g o : Nat), Up w0 w → w0.heap.size ≤ g → Up w0 (storeL w g o cs) := by
  intro cs
  induction cs with
  | nil => intro w g o h _; exact h
  | cons c cs ih => intro w g o h hg; exact ih _ g (o + 1) (Below.setCell (p := ⟨g, o, none⟩) h hg c) hg
theorem take_setG {α : Type} (s : Nat) (x : List α) (l : List α) (o m : Nat) (hx : x.length = s) (ho : o + s ≤ m) (hm : m ≤ l.length) : (l.take o ++ x ++ l.drop (o + s)).take m = (l.take m).take o ++ x ++ (l.take m).drop (o + s) := by
  have h1 : (l.take o).length = o := by rw [List.length_take]; omega
  rw [List.append_assoc, List.take_append, List.take_append, h1, hx, List.take_of_length_le (l := l.take o) (by omega), List.take_of_length_le (l := x) (by omega), List.take_take, Nat.min_eq_left (by omega), List.drop_take, List.append_assoc, show m - o - s = m - (o + s) by omega]
theorem OwP.storeG {α : Type} {E : Elt α} {ok : Nat → Value → Prop} {w0 w : World} {t : TypeId} {g n cap : Nat} {zs : List α} (h : OwP E ok w0 w t (.slice (some ⟨g, 0, none⟩) n cap) zs) {i : Nat} (hi : i < zs.length) {cs : List Value} {z : α} (hz : E.rel w (some g) cs z) (hokc : ∀ j u, cs[j]? = some u → ok j u) :
    OwP E ok w0 (storeL w g (i * E.size) cs) t (.slice (some ⟨g, 0, none⟩) n cap) (zs.set i z) := by
  obtain ⟨⟨css, h1, ⟨hl, h2⟩, h3⟩, hp⟩ := h
  rcases h2 with ⟨e, -⟩ | ⟨g', cap', cur, e, hb, hg, hnc, hcm, hcs, htk⟩
  · cases e
  injection e with e1 e2 e3
  injection e1 with e1
  injection e1 with e1
  subst e1; subst e3
  have hgr := storeL_grown cs w g (i * E.size)
  have hcl : css.length = zs.length := h1.length
  have hfl := h1.flat_len
  have hcz := E.len hz
  have hio : i * E.size + E.size ≤ zs.length * E.size := by
    rw [← Nat.succ_mul]; exact Nat.mul_le_mul_right _ hi
  have hlc : zs.length * E.size ≤ cur.size := by
    have := congrArg List.length htk
    rw [List.length_take] at this
    simp only [Array.length_toList] at this
    omega
  obtain ⟨arr, hh, harr⟩ := storeL_heap cs w g (i * E.size) cur t hg (by omega)
  rw [hcz] at harr
  have hn : n = zs.length := by omega
  have hset : (css.set i cs).flatten = css.flatten.take (i * E.size) ++ cs ++ css.flatten.drop (i * E.size + E.size) := flatten_set E.size css i _ h1.lens hcz (by omega)
  have hcur : ∀ u ∈ cur.toList, NoDig u := fun u hu => by
    obtain ⟨j, hj, rfl⟩ := List.mem_iff_getElem.1 hu
    intro x e
    refine h3 g rfl j x ?_
    rw [cell_of_row w g j _ _ _ hg, ← e]
    simp at hj
    rw [Array.getElem?_eq_getElem hj]; simp
  have hpat : PatL ok E.size cur.toList := heap_pat hg hp
  have hln : css.flatten.length = zs.length * E.size := hfl
  have hsl : (zs.set i z).length = zs.length := List.length_set
  have has : arr.size = cur.size := by
    have := congrArg List.length harr
    simp only [List.length_append, List.length_take, List.length_drop, Array.length_toList, hcz] at this
    omega
  refine ⟨⟨css.set i cs, ?_, ⟨?_, .inr ⟨g, cap, arr, by rw [hsl, hn], hb, hh, by rw [hsl]; exact hnc, hcm, by rw [has]; exact hcs, ?_⟩⟩, ?_⟩, ?_⟩
  · exact (Elts.set_ hz i h1).map fun h => E.grow h hgr h3
  · rw [hset]
    simp only [List.length_append, List.length_take, List.length_drop]
    rw [hsl, hcz]
    omega
  · rw [hsl, harr, hset, take_setG E.size _ _ _ _ hcz (by omega) (by simp only [Array.length_toList]; omega), htk]
  · intro g' hg'
    cases hg'
    refine nodig_heap hh fun u hu => ?_
    rw [harr] at hu
    simp only [List.mem_append] at hu
    rcases hu with (hu | hu) | hu
    · exact hcur u (List.mem_of_mem_take hu)
    · exact E.nod hz u hu
    · exact hcur u (List.mem_of_mem_drop hu)
  · intro g' hg'
    cases hg'
    refine pat_heap hh ?_
    rw [harr]
    have hi4 : (cur.toList.take (i * E.size)).length = i * E.size := by rw [List.length_take]; simp only [Array.length_toList]; omega
    exact ((hpat.take _).append (by rw [hi4, Nat.mul_mod_left]) (PatL.one hcz hokc)).append (by rw [List.length_append, hi4, hcz, ← Nat.succ_mul, Nat.mul_mod_left]) (hpat.drop (by rw [← Nat.succ_mul, Nat.mul_mod_left]))
theorem flat_len_rep {α : Type} (cs : List α) : ∀ n, (List.replicate n cs).flatten.length = n * cs.length := by
  intro n
  induction n with
  | zero => simp
  | succ n ih => rw [List.replicate_succ, List.flatten_cons, List.length_append, ih, Nat.succ_mul]; omega
theorem flat_rep {α : Type} (cs : List α) : ∀ (n j : Nat), j < n * cs.length → (List.replicate n cs).flatten[j]? = cs[j % cs.length]? := by
  intro n
  induction n with
  | zero => intro j hj; omega
  | succ n ih =>
    intro j hj
    rw [List.replicate_succ, List.flatten_cons]
    rcases Nat.lt_or_ge j cs.length with h | h
    · rw [List.getElem?_append_left h, Nat.mod_eq_of_lt h]
    · rw [List.getElem?_append_right h, ih _ (by rw [Nat.succ_mul] at hj; omega), Nat.mod_eq_sub_mod h]
theorem made_list (cs : List Value) (hs : 0 < cs.length) (n : Nat) : (madeCells cs.toArray (n * cs.length)).toList = (List.replicate n cs).flatten := by
  have hfl := flat_len_rep cs n
  have hsz : (madeCells cs.toArray (n * cs.length)).size = n * cs.length := by simp [madeCells]
  refine List.ext_getElem (by rw [Array.length_toList, hsz, hfl]) fun j h1 h2 => ?_
  have hj : j < n * cs.length := by rw [hfl] at h2; exact h2
  have k1 := flat_rep cs n j hj
  have hm : j % cs.length < cs.length := Nat.mod_lt _ hs
  rw [List.getElem?_eq_getElem h2, List.getElem?_eq_getElem hm] at k1
  injection k1 with k1
  rw [k1, Array.getElem_toList]
  simp only [madeCells, Array.getElem_map, Array.getElem_range, List.size_toArray]
  rw [getElem!_pos cs.toArray (j % cs.length) (by simpa using hm)]
  simp
theorem elts_same {α : Type} {E : Elt α} {w : World} {o : Option Nat} {cs : List Value} {z : α} (h : E.rel w o cs z) : ∀ n, Elts E w o (List.replicate n cs) (List.replicate n z)
  | 0 => trivial
  | n + 1 => ⟨h, elts_same h n⟩
theorem OwP.made {α : Type} {E : Elt α} {ok : Nat → Value → Prop} {cs : List Value} {z : α} (hz : ∀ w o, E.rel w o cs z) (hok : ∀ j u, cs[j]? = some u → ok j u) (w : World) (t : TypeId) (n : Nat) (hn : n ≤ 4294967296) :
    OwP E ok w (w.alloc (.cells (madeCells cs.toArray (n * E.size)) t)) t (.slice (some ⟨w.heap.size, 0, none⟩) n n) (List.replicate n z) := by
  have hcl : cs.length = E.size := E.len (hz w none)
  have hh : (w.alloc (.cells (madeCells cs.toArray (n * E.size)) t)).heap[w.heap.size]? = some (.cells (madeCells cs.toArray (n * E.size)) t (0, 0)) := heap_alloc_new w _
  have hml : (madeCells cs.toArray (n * E.size)).toList = (List.replicate n cs).flatten := by
    rw [← hcl]; exact made_list cs (by rw [hcl]; exact E.pos) n
  have hfl : (List.replicate n cs).flatten.length = n * E.size := by rw [flat_len_rep, hcl]
  refine ⟨⟨List.replicate n cs, elts_same (hz _ _) n, ⟨by rw [hfl, List.length_replicate], .inr ⟨w.heap.size, n, _, by rw [List.length_replicate], Nat.le_refl _, hh, by rw [List.length_replicate]; exact Nat.le_refl _, by unfold maxLen; omega, by simp [madeCells], ?_⟩⟩, fun g hg => ?_⟩, fun g hg => ?_⟩
  · rw [List.length_replicate, hml]
    exact List.take_of_length_le (by rw [hfl]; exact Nat.le_refl _)
  · cases hg
    exact nodig_heap hh (by rw [hml]; exact (elts_same (hz w none) n).all E.nod)
  · cases hg
    refine pat_heap hh ?_
    rw [hml]
    intro j u e
    have hj : j < n * cs.length := by
      rcases Nat.lt_or_ge j (n * cs.length) with h | h
      · exact h
      · rw [List.getElem?_eq_none (by rw [flat_len_rep]; exact h)] at e; cases e
    rw [flat_rep cs n j hj, hcl] at e
    exact hok _ _ e
end Go.Proofs.YtacbjbnocepnaaaGreatDoor
