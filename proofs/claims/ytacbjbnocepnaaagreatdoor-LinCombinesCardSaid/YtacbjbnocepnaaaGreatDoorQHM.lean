/- Lists of forms as arguments. -/
import Derived.Test.YtacbjbnocepnaaaGreatDoorQHK
import Derived.ProofKit
import Derived.OpenShut
import Derived.Deep.DeepHandedRow
import Derived.Lib.LaidTab
import Derived.Lib.SmallJoins
import Derived.LaidMore
import Derived.Carry
import Derived.Deep.SlicePairs
namespace Go.Proofs.YtacbjbnocepnaaaGreatDoor
open Go.ChangeShapes Go.WideShapes Go.ChangeAt Go.RowKit Go.Joins
theorem cellsInt_lin : Tryz.prog.cellsOf 3 = 1 := by kernel_rfl
theorem cellsForm_lin : Tryz.prog.cellsOf 28 = 2 := by kernel_rfl
theorem rng_lin {x : Int} (h : (Lit.int IntKind.i64 x).wf = true) : -9223372036854775808 ≤ x ∧ x ≤ 9223372036854775807 := by
  simpa [Lit.wf, IntKind.min, IntKind.max, IntKind.signed, IntKind.bits] using h
theorem block_lt {W : World} {b off : Nat} {v : Value} (h : W.cell? ⟨b, off, none⟩ = some v) : b < W.heap.size := by
  rcases Nat.lt_or_ge b W.heap.size with h1 | h1
  · exact h1
  · simp [World.cell?, Array.getElem?_eq_none h1] at h
theorem open_ints {H : Type} {enc : TypeId × Value → H} {W : World} {n : Nat} {v : Value} {y : DataW H × List MemPlace} (h : DataW.trod enc Tryz.prog W 0 (fun _ => true) true n 26 [v] = some y) :
    ∃ A xs c, v = .slice A xs.length c ∧ xs.length ≤ c ∧ c ≤ maxLen ∧ RdI W A xs ∧ ∀ x, x ∈ xs → -9223372036854775808 ≤ x ∧ x ≤ 9223372036854775807 := by
  rcases Go.Deep.open_slice1 Tryz.underlying26 cellsInt_lin h with ⟨hcs, -⟩ | ⟨a', len, cap, m, k, V, D, Pl, hcs, -, hl, hm, hmm, -, hall⟩
  · simp only [List.cons.injEq, and_true] at hcs
    subst hcs
    exact ⟨none, [], 0, rfl, Nat.le_refl _, Nat.zero_le _, fun h => absurd rfl h, fun q hq => by cases hq⟩
  · simp only [List.cons.injEq, and_true] at hcs
    subst hcs
    have hlm : len ≤ m := by rw [hmm]; simpa using hl
    have each : ∀ i, i < len → ∃ x : Int, V i = .int .i64 x ∧ -9223372036854775808 ≤ x ∧ x ≤ 9223372036854775807 := by
      intro i hi
      obtain ⟨-, h1⟩ := hall i (by omega)
      obtain ⟨x, e1, -, g1⟩ := DataW.trod_int Tryz.underlying3 h1
      simp only [List.cons.injEq, and_true] at e1
      exact ⟨x, e1, (rng_lin g1).1, (rng_lin g1).2⟩
    obtain ⟨q, hq⟩ : ∃ q : Nat → Int, ∀ i, i < len → V i = .int .i64 (q i) ∧ -9223372036854775808 ≤ q i ∧ q i ≤ 9223372036854775807 := by
      refine ⟨fun i => if h : i < len then (each i h).choose else 0, fun i hi => ?_⟩
      simp only [hi, dif_pos]
      exact (each i hi).choose_spec
    refine ⟨some a', (List.range len).map q, cap, by simp, by simpa using hl, hm, fun hne => ?_, fun z hz => ?_⟩
    · have hpos : 0 < len := by
        rcases Nat.eq_zero_or_pos len with h0 | h0
        · subst h0; exact absurd rfl hne
        · exact h0
      obtain ⟨b, off, spot⟩ := a'
      have hspot : spot = none := by simpa [Addr.add] using World.cell?_spot (hall 0 (by omega)).1
      subst hspot
      have hcell : ∀ i, i < len → W.cell? ⟨b, off + i, none⟩ = some (.int .i64 (q i)) := fun i hi => by
        have h0 := (hall i (by omega)).1
        rw [(hq i hi).1] at h0
        by_cases hz : i = 0
        · subst hz; simpa [Addr.add] using h0
        · simpa [Addr.add, hz] using h0
      refine ⟨b, off, rfl, block_lt (hcell 0 hpos), fun i hi => ?_⟩
      have hi' : i < len := by simpa using hi
      simp only [List.getElem_map, List.getElem_range]
      exact hcell i hi'
    · obtain ⟨i, hi, rfl⟩ := List.mem_map.1 hz
      exact (hq i (by simpa using hi)).2
set_option maxRecDepth 100000 in
theorem open_forms {H : Type} {base : Nat} {enc : TypeId × Value → H} {W : World} {v : Value} {d : DataW H} {p : List MemPlace} (hv : Value.okWide Tryz.prog W .any base 22 v) (h : DataW.Trod enc Tryz.prog W 0 (fun _ => true) true 22 v d p) :
    ∃ (A : Option Addr) (fs : List (List Int × Int)) (c : Nat), v = .slice A fs.length c ∧ fs.length ≤ c ∧ c ≤ maxLen ∧ RdE eltForm W A fs ∧ ∀ f, f ∈ fs → (∀ x, x ∈ f.1 → -9223372036854775808 ≤ x ∧ x ≤ 9223372036854775807) ∧ -9223372036854775808 ≤ f.2 ∧ f.2 ≤ 9223372036854775807 := by
  obtain ⟨a, len, cap, rfl⟩ := okWide_slice Tryz.underlying22 hv
  obtain ⟨fuel, hf⟩ := h
  rcases Go.Deep.open_slice_pairs Tryz.underlying22 Tryz.underlying28 cellsForm_lin rfl rfl (by kernel_rfl) (by kernel_rfl) (by simpa [Value.cells] using hf) with ⟨hcs, -⟩ | ⟨a', len', cap', m, k, V0, V1, D0, D1, P0, P1, hcs, -, hl, hm, hmm, -, hall⟩
  · simp only [List.cons.injEq, and_true, Value.slice.injEq] at hcs
    obtain ⟨rfl, rfl, rfl⟩ := hcs
    exact ⟨none, [], 0, rfl, Nat.le_refl _, Nat.zero_le _, fun h => absurd rfl h, fun q hq => by cases hq⟩
  · simp only [List.cons.injEq, and_true, Value.slice.injEq] at hcs
    obtain ⟨rfl, rfl, rfl⟩ := hcs
    have hlm : len ≤ m := by rw [hmm]; simpa using hl
    have each : ∀ i, i < len → ∃ z : Option Addr × (List Int × Int) × Nat, V0 i = .slice z.1 z.2.1.1.length z.2.2 ∧ V1 i = .int .i64 z.2.1.2 ∧ z.2.1.1.length ≤ z.2.2 ∧ z.2.2 ≤ maxLen ∧ RdI W z.1 z.2.1.1 ∧ (∀ x, x ∈ z.2.1.1 → -9223372036854775808 ≤ x ∧ x ≤ 9223372036854775807) ∧ -9223372036854775808 ≤ z.2.1.2 ∧ z.2.1.2 ≤ 9223372036854775807 := by
      intro i hi
      obtain ⟨-, -, h0, h1⟩ := hall i (by omega)
      obtain ⟨y, e1, -, g1⟩ := DataW.trod_int Tryz.underlying3 h1
      obtain ⟨A, xs, c, e0, k1, k2, k3, k4⟩ := open_ints h0
      simp only [List.cons.injEq, and_true] at e1
      exact ⟨(A, (xs, y), c), e0, e1, k1, k2, k3, k4, (rng_lin g1).1, (rng_lin g1).2⟩
    obtain ⟨q, hq⟩ : ∃ q : Nat → Option Addr × (List Int × Int) × Nat, ∀ i, i < len → V0 i = .slice (q i).1 (q i).2.1.1.length (q i).2.2 ∧ V1 i = .int .i64 (q i).2.1.2 ∧ (q i).2.1.1.length ≤ (q i).2.2 ∧ (q i).2.2 ≤ maxLen ∧ RdI W (q i).1 (q i).2.1.1 ∧ (∀ x, x ∈ (q i).2.1.1 → -9223372036854775808 ≤ x ∧ x ≤ 9223372036854775807) ∧ -9223372036854775808 ≤ (q i).2.1.2 ∧ (q i).2.1.2 ≤ 9223372036854775807 := by
      refine ⟨fun i => if h : i < len then (each i h).choose else (none, ([], 0), 0), fun i hi => ?_⟩
      simp only [hi, dif_pos]
      exact (each i hi).choose_spec
    refine ⟨some a', (List.range len).map fun i => (q i).2.1, cap, by simp, by simpa using hl, hm, fun hne => ?_, fun z hz => ?_⟩
    · have hpos : 0 < len := by
        rcases Nat.eq_zero_or_pos len with h0 | h0
        · subst h0; exact absurd rfl hne
        · exact h0
      obtain ⟨b, off, spot⟩ := a'
      have hspot : spot = none := by simpa [Addr.add] using World.cell?_spot (hall 0 (by omega)).1
      subst hspot
      have hcell : ∀ i, i < len → W.cell? ⟨b, off + i * 2, none⟩ = some (V0 i) ∧ W.cell? ⟨b, off + i * 2 + 1, none⟩ = some (V1 i) := fun i hi => by
        have h0 := hall i (by omega)
        refine ⟨?_, ?_⟩
        · by_cases hz : i = 0
          · subst hz; simpa [Addr.add] using h0.1
          · have hz2 : ¬ i * 2 = 0 := by omega
            simpa [Addr.add, hz2] using h0.1
        · rw [Nat.add_assoc]
          simpa [Addr.add] using h0.2.1
      refine ⟨b, off, rfl, by have := (hcell 0 hpos).1; exact block_lt this, fun i hi => ?_⟩
      have hi' : i < len := by simpa using hi
      obtain ⟨e0, e1, k1, k2, k3, -, -⟩ := hq i hi'
      obtain ⟨t0, t1⟩ := hcell i hi'
      rw [e0] at t0
      rw [e1] at t1
      simp only [List.getElem_map, List.getElem_range]
      refine ⟨[.slice (q i).1 (q i).2.1.1.length (q i).2.2, .int .i64 (q i).2.1.2], ⟨_, _, rfl, k1, k2, k3, fun g hg => by cases hg⟩, fun j u hj => ?_⟩
      match j, hj with
      | 0, hj => simp at hj; subst hj; simpa [eltForm] using t0
      | 1, hj => simp at hj; subst hj; simpa [eltForm] using t1
    · obtain ⟨i, hi, rfl⟩ := List.mem_map.1 hz
      exact (hq i (by simpa using hi)).2.2.2.2.2
end Go.Proofs.YtacbjbnocepnaaaGreatDoor
