/- Contract of the zero row of the reference implementation; plain facts about sums of rows. -/
import Derived.Test.YtgcmogldiahdpaaGreatDoorQHS
import Derived.Test.YtgcmogldiahdpaaGreatDoorQHN
namespace Go.Proofs.YtgcmogldiahdpaaGreatDoor
open Go.RowKit Fm
/-- The cells of a made list of integers of the reference. -/
def zeroQ (n : Nat) : Array Value := madeCells (Value.agg #[.int .i64 0, .bool false, .slice none 0 0]).cells (n * 3)
theorem zeroQ_get (n i : Nat) (hi : i < n) : (zeroQ n)[i * 3]? = some (.int .i64 0) ∧ (zeroQ n)[i * 3 + 1]? = some (.bool false) ∧ (zeroQ n)[i * 3 + 2]? = some (.slice none 0 0) := by
  have hs : (zeroQ n).size = n * 3 := by simp [zeroQ, madeCells, Value.cells]
  refine ⟨?_, ?_, ?_⟩
  · rw [Array.getElem?_eq_getElem (by rw [hs]; omega)]
    simp [zeroQ, madeCells, Value.cells]
  · rw [Array.getElem?_eq_getElem (by rw [hs]; omega)]
    have e : (i * 3 + 1) % 3 = 1 := by omega
    simp [zeroQ, madeCells, Value.cells, e]
  · rw [Array.getElem?_eq_getElem (by rw [hs]; omega)]
    have e : (i * 3 + 2) % 3 = 2 := by omega
    simp [zeroQ, madeCells, Value.cells, e]
theorem mkRefInts (n : Nat) (hn : n ≤ 4294967296) (w : World) : (Instr.makeSlice 68 (.int .i64 (n : Int)) (.int .i64 (n : Int))).run Tryz.prog w =
    .ok (.slice (some ⟨w.heap.size, 0, none⟩) n n) (w.alloc (.cells (zeroQ n) 61)) := by
  obtain ⟨i0, hi, hz0, hz1, hz2⟩ := info_parts info_ri
  have h := run_make (P := Tryz.prog) w 68 61 i0 (.agg #[.int .i64 0, .bool false, .slice none 0 0]) Tryz.underlying68 hi hz0 .i64 .i64 n n (by omega) (by omega) (by rw [hz2]; omega) (by omega)
  rw [h, hz1]; simp only [Int.toNat_natCast, zeroQ]
theorem zeroQ_rd (w : World) (n : Nat) : RdE eltR (w.alloc (.cells (zeroQ n) 61)) (some ⟨w.heap.size, 0, none⟩) (List.replicate n 0) := fun _ => by
  refine ⟨w.heap.size, 0, rfl, by rw [size_alloc]; omega, fun i hi => ?_⟩
  have hi2 : i < n := by simpa using hi
  obtain ⟨e0, e1, e2⟩ := zeroQ_get n i hi2
  refine ⟨[.int .i64 0, .bool false, .slice none 0 0], ⟨0, false, none, 0, 0, rfl, .inl ⟨rfl, by simp, by simp⟩⟩, fun j u hj => ?_⟩
  rw [cell_of_row _ w.heap.size _ _ _ _ (heap_alloc_new w _), show eltR.size = 3 from rfl, Nat.zero_add]
  match j, hj with
  | 0, hj => simp at hj; subst hj; exact e0
  | 1, hj => simp at hj; subst hj; exact e1
  | 2, hj => simp at hj; subst hj; exact e2
set_option maxHeartbeats 1000000 in
set_option maxRecDepth 10000 in
theorem refZero_any (n : Nat) (w : World) (hn : n ≤ 100000) : Calls Tryz.prog 146 #[.int .i64 n] w fun e w' => ∃ v, e = .returned v ∧ RowQ w w' v (List.replicate n 0) 0 ∧ Up w w' := by
  have hmk : ∀ W, (Instr.makeSlice 68 (.int .i64 (n : Int)) (.int .i64 (n : Int))).run Tryz.prog W = .ok (.slice (some ⟨W.heap.size, 0, none⟩) n n) (W.alloc (.cells (zeroQ n) 61)) := fun W => mkRefInts n (by omega) W
  go_enter Tryz.func146, Tryz.ntmps146
  go_wp2
  have hq := (CellQ.new w (.slice (some ⟨w.heap.size + 1, 0, none⟩) n n) (.slice none 0 0) 0 false).up (Up.alloc _ (.cells (zeroQ n) 61))
  have hz := zeroQ_rd (w.alloc (.cells #[.slice (some ⟨w.heap.size + 1, 0, none⟩) n n, .int .i64 0, .bool false, .slice none 0 0] 70)) n
  rw [size_alloc] at hz
  obtain ⟨z0, z1, z2, z3, -, -⟩ := hq.facts
  refine bodyPost_ret (by simp [results, Tryz.results146, go_sem, z0, z1, z2, z3]; try rfl) rfl ?_
  exact ⟨_, rfl, ⟨some ⟨w.heap.size + 1, 0, none⟩, n, 0, false, none, 0, 0, by rw [List.length_replicate], by rw [List.length_replicate]; exact Nat.le_refl _, by unfold maxLen; omega, hz, RIa.ri (o := none) (.inl ⟨rfl, rfl, by simp⟩), fun b off e => by cases e; omega⟩, (Up.alloc _ _).trans (Up.alloc _ _)⟩
/-- A positive multiple of all lower numbers. -/
def lcmD (qs : List Rat) : Nat := lcmR 1 (qs.map (·.den))
theorem lcmD_next (qs : List Rat) (k : Nat) (hk : k < qs.length) : lcmD (qs.take (k + 1)) = Nat.lcm (lcmD (qs.take k)) qs[k].den := by
  unfold lcmD
  rw [List.take_succ_eq_append_getElem hk, List.map_append, lcmR_append]
  rfl
theorem lcmD_pos (qs : List Rat) : 0 < lcmD qs := by
  refine lcmR_pos _ (fun q hq => ?_) 1 (by decide)
  obtain ⟨p, -, rfl⟩ := List.mem_map.1 hq
  exact Nat.pos_of_ne_zero p.den_nz
/-- One row more, times a number, over the denominator k. -/
def addF (k : Nat) (g r : List Int × Int) (q : Rat) : List Int × Int :=
  (List.zipWith (· + ·) g.1 (r.1.map (· * (q.num * ((k : Int).tdiv q.den)))), g.2 + r.2 * (q.num * ((k : Int).tdiv q.den)))
def sumF (n k : Nat) : List (List Int × Int) → List Rat → List Int × Int := fun fs qs => (fs.zip qs).foldl (fun g p => addF k g p.1 p.2) (List.replicate n 0, 0)
theorem sumF_next (n k : Nat) (fs : List (List Int × Int)) (qs : List Rat) (i : Nat) (h1 : i < fs.length) (h2 : i < qs.length) : sumF n k (fs.take (i + 1)) (qs.take (i + 1)) = addF k (sumF n k (fs.take i) (qs.take i)) fs[i] qs[i] := by
  unfold sumF
  rw [List.take_succ_eq_append_getElem h1, List.take_succ_eq_append_getElem h2, List.zip_append (by rw [List.length_take, List.length_take]; omega), List.foldl_append]
  rfl
theorem sumF_length (n k : Nat) : ∀ (fs : List (List Int × Int)) (qs : List Rat) (g : List Int × Int), g.1.length = n → (∀ f, f ∈ fs → f.1.length = n) → ((fs.zip qs).foldl (fun g p => addF k g p.1 p.2) g).1.length = n := by
  intro fs
  induction fs with
  | nil => intro qs g hg _; simpa using hg
  | cons f fs ih =>
    intro qs g hg hf
    cases qs with
    | nil => simpa using hg
    | cons q qs =>
      simp only [List.zip_cons_cons, List.foldl_cons]
      refine ih qs _ ?_ fun f' hf' => hf f' (List.mem_cons_of_mem _ hf')
      have := hf f (List.mem_cons_self ..)
      simp [addF, hg, this]
end Go.Proofs.YtgcmogldiahdpaaGreatDoor
namespace Go.Proofs.YtgcmogldiahdpaaGreatDoor
open Go.RowKit Fm
theorem lcmD_rl (qs : List Rat) (h : ∀ q, q ∈ qs → QB q 3) : ∀ i, i ≤ qs.length → rl ((lcmD (qs.take i) : Nat) : Int) ≤ 3 * i + 1 := by
  intro i
  induction i with
  | zero => intro _; rw [List.take_zero]; exact rl_of_lt (k := 1) (by decide)
  | succ i ih =>
    intro hi
    have h1 := ih (by omega)
    rw [lcmD_next qs i (by omega), ← lcm_int (lcmD_pos _)]
    exact rl_mul (rl_tdiv h1) (h _ (List.getElem_mem (show i < qs.length by omega))).2 (by omega)
theorem lim_rl {y : Int} (h : limI y = true) : rl y ≤ 3 := by
  simp only [limI, decide_eq_true_eq] at h
  exact rl_int (by omega) (by omega)
theorem addF_rl {k : Nat} {g r : List Int × Int} {q : Rat} {m : Nat} (hk : rl ((k : Nat) : Int) ≤ 700) (hm : 1000 ≤ m) (hq : QB q 3) (hr : (∀ y, y ∈ r.1 → rl y ≤ 3) ∧ rl r.2 ≤ 3) (hg : (∀ y, y ∈ g.1 → rl y ≤ m) ∧ rl g.2 ≤ m) : (∀ y, y ∈ (addF k g r q).1 → rl y ≤ m + 1) ∧ rl (addF k g r q).2 ≤ m + 1 := by
  have hc : rl (q.num * ((k : Int).tdiv q.den)) ≤ 703 := rl_mul hq.1 (rl_tdiv hk) (by omega)
  have ht : ∀ y, rl y ≤ 3 → rl (y * (q.num * ((k : Int).tdiv q.den))) ≤ m := fun y hy => rl_mul hy hc (by omega)
  refine ⟨fun y hy => ?_, rl_add hg.2 (ht _ hr.2) (Nat.le_refl _)⟩
  unfold addF at hy
  simp only at hy
  obtain ⟨i, hi, rfl⟩ := List.getElem_of_mem hy
  rw [List.getElem_zipWith]
  refine rl_add (hg.1 _ (List.getElem_mem _)) ?_ (Nat.le_refl _)
  rw [List.getElem_map]
  exact ht _ (hr.1 _ (List.getElem_mem _))
theorem sumF_rl (n k : Nat) (fs : List (List Int × Int)) (qs : List Rat) (hk : rl ((k : Nat) : Int) ≤ 700) (hl : fs.length = qs.length) (hq : ∀ q, q ∈ qs → QB q 3) (hf : ∀ f, f ∈ fs → (∀ y, y ∈ f.1 → rl y ≤ 3) ∧ rl f.2 ≤ 3) : ∀ i, i ≤ fs.length → (∀ y, y ∈ (sumF n k (fs.take i) (qs.take i)).1 → rl y ≤ 1000 + i) ∧ rl (sumF n k (fs.take i) (qs.take i)).2 ≤ 1000 + i := by
  intro i
  have h0 : rl 0 ≤ 1000 := Nat.le_trans (rl_of_lt (k := 1) (by decide)) (by omega)
  induction i with
  | zero =>
    intro _
    rw [List.take_zero, List.take_zero]
    refine ⟨fun y hy => ?_, h0⟩
    rw [List.eq_of_mem_replicate (show y ∈ List.replicate n 0 from hy)]
    exact h0
  | succ i ih =>
    intro hi
    have h1 : i < fs.length := by omega
    have h2 : i < qs.length := by omega
    rw [sumF_next n k fs qs i h1 h2]
    exact addF_rl hk (Nat.le_add_right 1000 i) (hq _ (List.getElem_mem h2)) (hf _ (List.getElem_mem h1)) (ih (by omega))
theorem sumF_len (n k : Nat) (fs : List (List Int × Int)) (qs : List Rat) (hf : ∀ f, f ∈ fs → f.1.length = n) (i : Nat) : (sumF n k (fs.take i) (qs.take i)).1.length = n :=
  sumF_length n k _ _ _ (by simp) fun f h => hf f (List.mem_of_mem_take h)
end Go.Proofs.YtgcmogldiahdpaaGreatDoor
