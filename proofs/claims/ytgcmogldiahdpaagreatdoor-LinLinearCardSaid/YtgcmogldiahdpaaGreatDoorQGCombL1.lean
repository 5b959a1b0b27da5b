/- Walks of a law. -/
import Derived.Test.YtgcmogldiahdpaaGreatDoorQGComb1
import Derived.Test.YtgcmogldiahdpaaGreatDoorQGComb4
import Derived.Test.YtgcmogldiahdpaaGreatDoorQHK
namespace Go.Proofs.YtgcmogldiahdpaaGreatDoor
open Go.RowKit Fm
/-- The sum of products, place by place. -/
def EV (g X : Nat → Rat) : Nat → Rat
  | 0 => 0
  | n + 1 => EV g X n + g n * X n
theorem EV_congr {g h X : Nat → Rat} : ∀ n, (∀ i, i < n → g i = h i) → EV g X n = EV h X n := by
  intro n
  induction n with
  | zero => intro _; rfl
  | succ n ih => intro hh; simp only [EV]; rw [ih (fun i hi => hh i (by omega)), hh n (by omega)]
theorem EV_mul (c : Rat) (g X : Nat → Rat) : ∀ n, EV (fun i => c * g i) X n = c * EV g X n := by
  intro n
  induction n with
  | zero => simp only [EV]; rw [Rat.mul_zero]
  | succ n ih => simp only [EV]; rw [ih, Rat.mul_add, Rat.mul_assoc]
theorem EV_add (g h X : Nat → Rat) : ∀ n, EV (fun i => g i + h i) X n = EV g X n + EV h X n := by
  intro n
  induction n with
  | zero => simp only [EV]; rw [Rat.add_zero]
  | succ n ih =>
    simp only [EV]
    rw [ih, Rat.add_mul, Rat.add_assoc, Rat.add_assoc, ← Rat.add_assoc (EV h X n), Rat.add_comm (EV h X n), Rat.add_assoc]
theorem EV_zero (X : Nat → Rat) : ∀ n, EV (fun _ => 0) X n = 0 := by
  intro n
  induction n with
  | zero => rfl
  | succ n ih => simp only [EV]; rw [ih, Rat.zero_mul, Rat.add_zero]
/-- A number of a list at a place. -/
def numAt (m : List (Int × Int)) (i : Nat) : Rat := ratOf (m.getD i (0, 1)).1 (m.getD i (0, 1)).2
theorem dotQ_EV (l m : List (Int × Int)) (h : l.length = m.length) : ∀ k, k ≤ l.length → dotQ (l.take k) (m.take k) = EV (numAt l) (numAt m) k := by
  intro k
  induction k with
  | zero => intro _; rfl
  | succ k ih =>
    intro hk
    have h1 : k < l.length := by omega
    have h2 : k < m.length := by omega
    rw [List.take_succ_eq_append_getElem h1, List.take_succ_eq_append_getElem h2, dotQ_append _ _ _ _ (by rw [List.length_take, List.length_take]; omega), ih (by omega)]
    simp only [EV, dotQ, Rat.add_zero, numAt]
    rw [List.getD_eq_getElem?_getD, List.getElem?_eq_getElem h1, List.getD_eq_getElem?_getD, List.getElem?_eq_getElem h2]
    rfl
theorem valQ_EV (f : List Int × Int) (xs : List (Int × Int)) (h : f.1.length = xs.length) : valQ f xs = EV (fun i => (((rowF f).getD i 0 : Int) : Rat)) (numAt (xs ++ [(1, 1)])) (xs.length + 1) := by
  have hl : ((rowF f).map fun y => (y, (1 : Int))).length = (xs ++ [((1 : Int), (1 : Int))]).length := by simp [rowF, h]
  have hk : ((rowF f).map fun y => (y, (1 : Int))).length = xs.length + 1 := by simp [rowF, h]
  have h1 := dotQ_EV _ _ hl (xs.length + 1) (by omega)
  rw [List.take_of_length_le (by omega), List.take_of_length_le (by simp)] at h1
  unfold valQ
  rw [h1]
  refine EV_congr _ fun i hi => ?_
  unfold numAt
  have hi2 : i < (rowF f).length := by simpa [rowF, h] using hi
  rw [List.getD_eq_getElem?_getD, List.getElem?_map, List.getElem?_eq_getElem hi2, List.getD_eq_getElem?_getD, List.getElem?_eq_getElem hi2]
  exact ratOf_one _
/-- The sum of the values, multiplied by the numbers. -/
def linR (xs : List (Int × Int)) : List (List Int × Int) → List (Int × Int) → Rat
  | f :: fs, m :: ms => ratOf m.1 m.2 * valQ f xs + linR xs fs ms
  | _, _ => 0
theorem sumQ_cons (f : List Int × Int) (fs : List (List Int × Int)) (m : Int × Int) (ms : List (Int × Int)) (i : Nat) : sumQ (f :: fs) (m :: ms) i = ratOf m.1 m.2 * (((rowF f).getD i 0 : Int) : Rat) + sumQ fs ms i := by
  unfold sumQ colN
  simp only [List.map_cons, dotQ]
  rw [ratOf_one, Rat.mul_comm]
theorem EV_sumQ (xs : List (Int × Int)) : ∀ (fs : List (List Int × Int)) (ms : List (Int × Int)), fs.length = ms.length → (∀ f, f ∈ fs → f.1.length = xs.length) → EV (sumQ fs ms) (numAt (xs ++ [(1, 1)])) (xs.length + 1) = linR xs fs ms := by
  intro fs
  induction fs with
  | nil =>
    intro ms _ _
    have h0 : sumQ [] ms = fun _ => 0 := by funext i; unfold sumQ colN; simp [dotQ]
    rw [h0, EV_zero]
    simp [linR]
  | cons f fs ih =>
    intro ms hl hf
    cases ms with
    | nil => simp at hl
    | cons m ms =>
      have h1 : sumQ (f :: fs) (m :: ms) = fun i => ratOf m.1 m.2 * (((rowF f).getD i 0 : Int) : Rat) + sumQ fs ms i := by funext i; exact sumQ_cons f fs m ms i
      rw [h1, EV_add (fun i => ratOf m.1 m.2 * (((rowF f).getD i 0 : Int) : Rat)) (sumQ fs ms), EV_mul, ih ms (by simpa using hl) (fun g hg => hf g (List.mem_cons_of_mem _ hg)), ← valQ_EV f xs (hf f (List.mem_cons_self ..))]
      rfl
/-- The same sum, one after the other. -/
def linS (xs : List (Int × Int)) (fs : List (List Int × Int)) (ms : List (Int × Int)) : Rat := (fs.zip ms).foldl (fun a p => a + ratOf p.2.1 p.2.2 * valQ p.1 xs) 0
theorem linS_next (xs : List (Int × Int)) (fs : List (List Int × Int)) (ms : List (Int × Int)) (i : Nat) (h1 : i < fs.length) (h2 : i < ms.length) : linS xs (fs.take (i + 1)) (ms.take (i + 1)) = linS xs (fs.take i) (ms.take i) + ratOf ms[i].1 ms[i].2 * valQ fs[i] xs := by
  unfold linS
  rw [List.take_succ_eq_append_getElem h1, List.take_succ_eq_append_getElem h2, List.zip_append (by rw [List.length_take, List.length_take]; omega), List.foldl_append]
  rfl
theorem linS_linR (xs : List (Int × Int)) (fs : List (List Int × Int)) (ms : List (Int × Int)) : linS xs fs ms = linR xs fs ms := by
  have key : ∀ (fs : List (List Int × Int)) (ms : List (Int × Int)) (a : Rat), (fs.zip ms).foldl (fun a p => a + ratOf p.2.1 p.2.2 * valQ p.1 xs) a = a + linR xs fs ms := by
    intro fs
    induction fs with
    | nil => intro ms a; simp [linR, Rat.add_zero]
    | cons f fs ih =>
      intro ms a
      cases ms with
      | nil => simp [linR, Rat.add_zero]
      | cons m ms =>
        simp only [List.zip_cons_cons, List.foldl_cons, linR]
        rw [ih, Rat.add_assoc]
  unfold linS
  rw [key, Rat.zero_add]
theorem topsN_at (xs : List (Int × Int)) (hp : ∀ p, p ∈ xs → 0 < p.2) (i : Nat) (hi : i < xs.length) : (((topsN xs).getD i 0 : Int) : Rat) = ((lowN xs : Nat) : Rat) * ratOf xs[i].1 xs[i].2 := by
  have h1 : (topsN xs).getD i 0 = xs[i].1 * (lowN xs : Int).tdiv xs[i].2 := by
    rw [List.getD_eq_getElem?_getD, List.getElem?_eq_getElem (by rw [topsN_length]; exact hi)]
    simp [topsN]
  have h2 := hp _ (List.getElem_mem hi)
  have h3 : xs[i].2.natAbs ∣ lowN xs := ((lcmR_dvd (xs.map fun p => p.2.natAbs) 1 (lowN xs)).1 (Nat.dvd_refl _)).2 _ (List.mem_map_of_mem (f := fun p : Int × Int => p.2.natAbs) (List.getElem_mem hi))
  rw [h1]
  generalize xs[i].1 = x at *
  generalize xs[i].2 = y at *
  obtain ⟨Y, rfl⟩ : ∃ Y : Nat, y = (Y : Int) := ⟨y.toNat, by omega⟩
  rw [Int.natAbs_natCast] at h3
  obtain ⟨u, hu⟩ := h3
  rw [hu, Int.natCast_mul, Int.mul_tdiv_cancel_left _ (by omega)]
  have h4 : (((Y * u : Nat)) : Rat) = (((Y * u : Nat) : Int) : Rat) := (Rat.intCast_natCast _).symm
  rw [h4, int_divInt, int_divInt ((Y * u : Nat) : Int)]
  unfold ratOf
  rw [Rat.divInt_mul_divInt, Rat.divInt_eq_divInt_iff (by omega) (by omega), Int.natCast_mul]
  simp only [Int.one_mul, Int.mul_one]
  rw [Int.mul_comm ((Y : Int) * u) x, Int.mul_assoc, Int.mul_comm (Y : Int) u]
theorem rowF_split (T : List Int) (n : Nat) (h : T.length = n + 1) : rowF (T.take n, T.getD n 0) = T := by
  unfold rowF
  have h1 : T.getD n 0 = T[n] := by rw [List.getD_eq_getElem?_getD, List.getElem?_eq_getElem (by omega)]; rfl
  simp only
  rw [h1, ← List.take_succ_eq_append_getElem (by omega), List.take_of_length_le (by omega)]
/-- The value of a combination. -/
theorem comb_value (n : Nat) (fs : List (List Int × Int)) (ms xs : List (Int × Int)) (hl : fs.length = ms.length) (hf : ∀ f, f ∈ fs → f.1.length = xs.length) (hx : xs.length = n) (h : combOk n fs ms = true) :
    0 < combK n fs ms ∧ (combF n fs ms).1.length = n ∧ valQ (combF n fs ms) xs = (combK n fs ms : Rat) * linS xs fs ms := by
  have ho : oneOk (sumsN fs ms (n + 1)) = true := by
    unfold combOk at h
    rw [Bool.and_eq_true] at h
    exact h.2
  have hpos : ∀ p, p ∈ sumsN fs ms (n + 1) → 0 < p.2 := fun p hp => by
    obtain ⟨i, -, rfl⟩ := List.mem_map.1 hp
    have := (sumQ fs ms i).den_nz
    show (0 : Int) < ((sumQ fs ms i).den : Int)
    omega
  have hL := lowN_pos _ hpos
  have htl : (topsN (sumsN fs ms (n + 1))).length = n + 1 := by rw [topsN_length, sumsN_length]
  have e1 : combF n fs ms = ((topsN (sumsN fs ms (n + 1))).take n, (topsN (sumsN fs ms (n + 1))).getD n 0) := by unfold combF oneF; rw [h, ho]; rfl
  have e2 : combK n fs ms = (lowN (sumsN fs ms (n + 1)) : Nat) := by unfold combK oneK; rw [h, ho]; rfl
  have e3 : (combF n fs ms).1.length = n := by rw [e1]; simp only; rw [List.length_take, htl]; omega
  refine ⟨by rw [e2]; omega, e3, ?_⟩
  rw [valQ_EV _ xs (by rw [e3, hx]), e1, rowF_split _ n htl, e2, linS_linR, ← EV_sumQ xs fs ms hl hf, Rat.intCast_natCast, ← EV_mul]
  refine EV_congr _ fun i hi => ?_
  have hi2 : i < (sumsN fs ms (n + 1)).length := by rw [sumsN_length]; omega
  rw [topsN_at _ hpos i hi2]
  simp only [sumsN, List.getElem_map, List.getElem_range]
  rw [ratOf_self]
end Go.Proofs.YtgcmogldiahdpaaGreatDoor
