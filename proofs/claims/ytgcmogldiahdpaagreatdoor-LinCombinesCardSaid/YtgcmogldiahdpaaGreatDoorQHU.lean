/- The combination of the reference and that of the program are the same. -/
import Derived.Test.YtgcmogldiahdpaaGreatDoorQHT
import Derived.Test.YtgcmogldiahdpaaGreatDoorQHP
namespace Go.Proofs.YtgcmogldiahdpaaGreatDoor
open Go.RowKit Fm
theorem rowF_addF (k : Nat) (g f : List Int × Int) (q : Rat) (h : g.1.length = f.1.length) (i : Nat) : (rowF (addF k g f q)).getD i 0 = (rowF g).getD i 0 + (rowF f).getD i 0 * (q.num * ((k : Int).tdiv q.den)) := by
  have e1 : rowF (addF k g f q) = plusR (rowF g) (timesR (q.num * ((k : Int).tdiv q.den)) (rowF f)) := by
    unfold rowF addF plusR timesR
    simp only [List.map_append, List.map_cons, List.map_nil]
    rw [List.zipWith_append (by simpa using h)]
    rfl
  rw [e1, getD_zip _ _ (by unfold timesR rowF; simp [h]) i]
  congr 1
  unfold timesR
  exact getD_map0 (· * (q.num * ((k : Int).tdiv q.den))) (by simp) _ i
/-- The sum at one place. -/
def totF (k : Nat) : List (List Int × Int) → List Rat → Nat → Int
  | f :: fs, q :: qs, i => (rowF f).getD i 0 * (q.num * ((k : Int).tdiv q.den)) + totF k fs qs i
  | _, _, _ => 0
theorem sumF_tot (k n : Nat) : ∀ (fs : List (List Int × Int)) (qs : List Rat) (g : List Int × Int), g.1.length = n → (∀ f, f ∈ fs → f.1.length = n) → ∀ i, (rowF ((fs.zip qs).foldl (fun g p => addF k g p.1 p.2) g)).getD i 0 = (rowF g).getD i 0 + totF k fs qs i := by
  intro fs
  induction fs with
  | nil => intro qs g _ _ i; simp [totF]
  | cons f fs ih =>
    intro qs g hg hf i
    cases qs with
    | nil => simp [totF]
    | cons q qs =>
      have hfl := hf f (List.mem_cons_self ..)
      simp only [List.zip_cons_cons, List.foldl_cons, totF]
      rw [ih qs (addF k g f q) (by simp [addF, hg, hfl]) (fun f' h' => hf f' (List.mem_cons_of_mem _ h')) i, rowF_addF k g f q (by rw [hg, hfl]), Int.add_assoc]
theorem coef_rat (k : Nat) (q : Rat) (h : q.den ∣ k) : ((q.num * ((k : Int).tdiv q.den) : Int) : Rat) = q * (k : Rat) := by
  obtain ⟨u, hu⟩ := h
  have hd := q.den_nz
  have e1 : q * ((k : Nat) : Rat) = Rat.divInt q.num q.den * ((k : Int) : Rat) := by rw [Rat.num_divInt_den, Rat.intCast_natCast]
  rw [e1, hu, Int.natCast_mul, Int.mul_tdiv_cancel_left _ (by omega), int_divInt, int_divInt ((q.den : Int) * u), Rat.divInt_mul_divInt, Rat.divInt_eq_divInt_iff (by omega) (by omega)]
  simp only [Int.mul_one]
  rw [Int.mul_left_comm, Int.mul_comm ((q.den : Int))]
theorem totF_sumQ (k : Nat) : ∀ (fs : List (List Int × Int)) (ms : List (Int × Int)), fs.length = ms.length → (∀ q, q ∈ ratsOf ms → q.den ∣ k) → ∀ i, sumQ fs ms i * (k : Rat) = ((totF k fs (ratsOf ms) i : Int) : Rat) := by
  intro fs
  induction fs with
  | nil =>
    intro ms _ _ i
    have h0 : sumQ [] ms i = 0 := by unfold sumQ colN; simp [dotQ]
    rw [h0, Rat.zero_mul]
    simp [totF]
  | cons f fs ih =>
    intro ms hl hd i
    cases ms with
    | nil => simp at hl
    | cons m ms =>
      have e0 : ratsOf (m :: ms) = ratOf m.1 m.2 :: ratsOf ms := rfl
      rw [e0] at hd ⊢
      simp only [totF]
      rw [sumQ_cons, Rat.add_mul, ih ms (by simpa using hl) (fun q hq => hd q (List.mem_cons_of_mem _ hq)) i, Rat.intCast_add, Rat.intCast_mul, coef_rat k _ (hd _ (List.mem_cons_self ..))]
      congr 1
      rw [Rat.mul_comm (ratOf m.1 m.2), Rat.mul_assoc]
theorem lcmD_dvd (qs : List Rat) : ∀ q, q ∈ qs → q.den ∣ lcmD qs := fun _ hq =>
  ((lcmR_dvd (qs.map (·.den)) 1 (lcmD qs)).1 (Nat.dvd_refl _)).2 _ (List.mem_map_of_mem (f := fun q : Rat => q.den) hq)
theorem row_range (r : List Int) (n : Nat) (h : r.length = n + 1) : (List.range (n + 1)).map (fun i => r.getD i 0) = r := by
  apply List.ext_getElem
  · simp [h]
  · intro i h1 h2
    rw [List.getElem_map, List.getElem_range, List.getD_eq_getElem?_getD, List.getElem?_eq_getElem h2]
    rfl
/-- The reference's sum, divided by the common divisor, is the program's over the least common denominator. -/
theorem comb_ref (n : Nat) (fs : List (List Int × Int)) (ms : List (Int × Int)) (hl : fs.length = ms.length) (hf : ∀ f, f ∈ fs → f.1.length = n) (g : List Int × Int) (hg : g = sumF n (lcmD (ratsOf ms)) fs (ratsOf ms)) (D : Nat) (hD : D = Nat.gcd (gcdR g.2.natAbs g.1) (lcmD (ratsOf ms))) :
    rowF (g.1.map (·.tdiv (D : Int)), g.2.tdiv (D : Int)) = topsN (sumsN fs ms (n + 1)) ∧ ((lcmD (ratsOf ms) : Nat) : Int).tdiv (D : Int) = (lowN (sumsN fs ms (n + 1)) : Nat) := by
  have hK := lcmD_pos (ratsOf ms)
  have hgl : g.1.length = n := by
    rw [hg]
    exact sumF_length n _ fs (ratsOf ms) (List.replicate n 0, 0) (by simp) hf
  have hrl : (rowF g).length = n + 1 := by unfold rowF; simp [hgl]
  have hz : ∀ i, (rowF (List.replicate n (0 : Int), (0 : Int))).getD i 0 = 0 := fun i => by
    rcases getD_mem0 (rowF (List.replicate n (0 : Int), (0 : Int))) i with h | h
    · exact h
    · unfold rowF at h ⊢
      rcases List.mem_append.1 h with h1 | h1
      · exact List.eq_of_mem_replicate h1
      · simpa using h1
  have hG : ∀ i, sumQ fs ms i * ((lcmD (ratsOf ms) : Nat) : Rat) = (((rowF g).getD i 0 : Int) : Rat) := fun i => by
    rw [totF_sumQ _ fs ms hl (lcmD_dvd (ratsOf ms)) i]
    congr 1
    rw [hg]
    unfold sumF
    rw [sumF_tot (lcmD (ratsOf ms)) n fs (ratsOf ms) (List.replicate n 0, 0) (by simp) hf i, hz, Int.zero_add]
  obtain ⟨c1, c2⟩ := comb_alike (lcmD (ratsOf ms)) hK ((List.range (n + 1)).map fun i => (sumQ fs ms i, (rowF g).getD i 0)) (fun p hp => by
    obtain ⟨i, -, rfl⟩ := List.mem_map.1 hp
    exact hG i)
  have e1 : ((List.range (n + 1)).map fun i => (sumQ fs ms i, (rowF g).getD i 0)).map (·.2) = rowF g := by
    rw [List.map_map]
    exact row_range (rowF g) n hrl
  have e2 : ((List.range (n + 1)).map fun i => (sumQ fs ms i, (rowF g).getD i 0)).map (·.1.den) = (sumsN fs ms (n + 1)).map fun p => p.2.natAbs := by
    unfold sumsN
    rw [List.map_map, List.map_map]
    refine List.map_congr_left fun i _ => ?_
    simp
  have e3 : gcdR (lcmD (ratsOf ms)) (rowF g) = D := by
    rw [gcdR_start, gcdR_row, hD, Nat.gcd_comm]
  rw [e1, e2, e3] at c1
  rw [e1, e2, e3] at c2
  have hlow : lcmR 1 ((sumsN fs ms (n + 1)).map fun p => p.2.natAbs) = lowN (sumsN fs ms (n + 1)) := rfl
  rw [hlow] at c1 c2
  have hDk : D ∣ lcmD (ratsOf ms) := by rw [hD]; exact Nat.gcd_dvd_right _ _
  have hD0 : 0 < D := Nat.pos_of_dvd_of_pos hDk hK
  refine ⟨?_, ?_⟩
  · have e4 : rowF (g.1.map (·.tdiv (D : Int)), g.2.tdiv (D : Int)) = (rowF g).map (·.tdiv (D : Int)) := by unfold rowF; simp
    rw [e4]
    apply List.ext_getElem
    · rw [List.length_map, hrl, topsN_length, sumsN_length]
    · intro i h1 h2
      have hi : i < n + 1 := by rw [List.length_map, hrl] at h1; exact h1
      have h3 := c2 (sumQ fs ms i, (rowF g).getD i 0) (List.mem_map_of_mem (f := fun i => (sumQ fs ms i, (rowF g).getD i 0)) (List.mem_range.2 hi))
      rw [List.getElem_map]
      have e5 : (rowF g)[i]'(by omega) = (rowF g).getD i 0 := by rw [List.getD_eq_getElem?_getD, List.getElem?_eq_getElem (by omega)]; rfl
      have hi2 : i < (sumsN fs ms (n + 1)).length := by rw [sumsN_length]; exact hi
      have e6 : (topsN (sumsN fs ms (n + 1)))[i] = (sumsN fs ms (n + 1))[i].1 * (lowN (sumsN fs ms (n + 1)) : Int).tdiv (sumsN fs ms (n + 1))[i].2 := by simp [topsN]
      have e7 : (sumsN fs ms (n + 1))[i] = ((sumQ fs ms i).num, ((sumQ fs ms i).den : Int)) := by simp [sumsN]
      rw [e5, ← h3, e6, e7]
      rfl
  · rw [c1]
    obtain ⟨u, hu⟩ := hDk
    rw [hu, Nat.mul_div_cancel_left _ hD0, Int.natCast_mul, Int.mul_tdiv_cancel_left _ (by omega)]
theorem combOk_one (n : Nat) (fs : List (List Int × Int)) (ms : List (Int × Int)) : combOk n fs ms = oneOk (sumsN fs ms (n + 1)) := by
  unfold combOk
  rcases ho : oneOk (sumsN fs ms (n + 1)) with _ | _
  · rw [Bool.and_false]
  · rw [Bool.and_true, List.all_eq_true]
    intro i hi
    unfold oneOk at ho
    rw [Bool.and_eq_true] at ho
    have hpos : ∀ p, p ∈ sumsN fs ms (n + 1) → 0 < p.2 := fun p hp => by
      obtain ⟨i, -, rfl⟩ := List.mem_map.1 hp
      have := (sumQ fs ms i).den_nz
      show (0 : Int) < ((sumQ fs ms i).den : Int)
      omega
    have hL := lowN_pos _ hpos
    have hm : ((sumQ fs ms i).num, ((sumQ fs ms i).den : Int)) ∈ sumsN fs ms (n + 1) := List.mem_map_of_mem (f := fun i => ((sumQ fs ms i).num, ((sumQ fs ms i).den : Int))) hi
    have hdv : (sumQ fs ms i).den ∣ lowN (sumsN fs ms (n + 1)) := by
      have := ((lcmR_dvd ((sumsN fs ms (n + 1)).map fun p => p.2.natAbs) 1 (lowN (sumsN fs ms (n + 1)))).1 (Nat.dvd_refl _)).2 _ (List.mem_map_of_mem (f := fun p : Int × Int => p.2.natAbs) hm)
      simpa using this
    have ht : limI ((sumQ fs ms i).num * ((lowN (sumsN fs ms (n + 1)) : Int).tdiv (sumQ fs ms i).den)) = true := (List.all_eq_true.1 ho.1) _ (List.mem_map_of_mem (f := fun p : Int × Int => p.1 * (lowN (sumsN fs ms (n + 1)) : Int).tdiv p.2) hm)
    have hl2 := ho.2
    have hd0 := Nat.pos_of_ne_zero (sumQ fs ms i).den_nz
    generalize (sumQ fs ms i) = q at *
    generalize lowN (sumsN fs ms (n + 1)) = L at *
    obtain ⟨u, rfl⟩ := hdv
    have hu : 0 < u := Nat.pos_of_mul_pos_left hL
    rw [Int.natCast_mul, Int.mul_tdiv_cancel_left _ (by omega)] at ht
    simp only [limI, decide_eq_true_eq] at ht hl2
    have h1 : q.den ≤ q.den * u := Nat.le_mul_of_pos_right _ hu
    have h2 : (q.num * (u : Int)).natAbs ≤ 1152921504606846976 := by omega
    rw [Int.natAbs_mul, Int.natAbs_natCast] at h2
    have h3 : q.num.natAbs ≤ q.num.natAbs * u := Nat.le_mul_of_pos_right _ hu
    unfold fits within
    simp only [Bool.and_eq_true, decide_eq_true_eq]
    omega
end Go.Proofs.YtgcmogldiahdpaaGreatDoor
