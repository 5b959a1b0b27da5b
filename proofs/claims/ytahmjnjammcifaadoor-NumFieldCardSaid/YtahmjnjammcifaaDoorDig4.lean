import Derived.Test.YtahmjnjammcifaaDoorDig3
namespace Go.Proofs.YtahmjnjammcifaaDoor
open Go.RowKit Fm

theorem trim_own (g c n : Nat) (xs : List Nat) (w : World) (hrow : Row .u32 102 w g xs) (hok : Ok 4294967296 xs) (hn : n ≤ xs.length) (hc : n ≤ c) (hcm : c ≤ maxLen) :
    Calls Tryd.prog 88 #[.slice (some ⟨g, 0, none⟩) n c] w fun e w' => (e = .returned (.slice (some ⟨g, 0, none⟩) (digs 4294967296 (val 4294967296 (xs.take n))).length c) ∧ Own w g c (val 4294967296 (xs.take n))) ∧ w = w' := by
  have hl : (xs.take n).length = n := by rw [List.length_take]; omega
  have hr := (Rd.of_row0 hrow).take n
  have hd := digs_take (B := 4294967296) (by omega) (hok.take n)
  have h := trim_any (some ⟨g, 0, none⟩) c (xs.take n) w (by omega) hcm hr (hok.take n)
  rw [hl] at h
  refine h.mono ?_
  rintro e w' ⟨rfl, rfl⟩
  refine ⟨⟨rfl, xs, hrow, hok, by omega, ?_, by omega, hcm⟩, rfl⟩
  have := hd.2
  rw [List.take_take, Nat.min_eq_left (by omega)] at this
  exact this

set_option maxRecDepth 100000 in
theorem shrink_any (g c n s : Nat) (xs : List Nat) (w : World) (hrow : Row .u32 102 w g xs) (hok : Ok 4294967296 xs) (hn : n ≤ xs.length) (hc : n ≤ c) (hcm : c ≤ maxLen) (hs : s ≤ 4294967296) :
    Calls Tryd.prog 114 #[.slice (some ⟨g, 0, none⟩) n c, .int .i64 s] w fun e w' =>
      (e = .returned (.slice (some ⟨g, 0, none⟩) (digs 4294967296 (val 4294967296 (xs.take n) / 2 ^ s)).length c) ∧ Own w' g c (val 4294967296 (xs.take n) / 2 ^ s)) ∧ w.grownBy w' (some g) := by
  have hcm' := hcm
  unfold maxLen at hcm'
  obtain ⟨sk, p, hp, rfl⟩ : ∃ sk p, p < 32 ∧ s = 32 * sk + p := ⟨s / 32, s % 32, Nat.mod_lt _ (by omega), by omega⟩
  have hq : (((32 * sk + p : Nat) : Int)) / 32 = (sk : Int) := by omega
  have hm : (((32 * sk + p : Nat) : Int)) % 32 = (p : Int) := by omega
  rw [← val_shr_drop (by omega) hok]
  generalize hS : ((32 * sk + p : Nat) : Int) = S at *
  have hS0 : 0 ≤ S := by omega
  have hS1 : S ≤ 4294967296 := by omega
  clear hS
  have H0 : Row .u32 102 w g (shrAt p sk n xs 0) := by rw [shrAt_zero]; exact hrow
  clear hrow
  go_enter Tryd.func114, Tryd.ntmps114
  go_wp2
  rw [hq, hm]
  have HQ := Lib.hid hq
  have HM := Lib.hid hm
  clear hq hm
  go_loopw [7] (fun i wr => ∃ k : Nat, i = .int .i64 ((sk : Int) + k) ∧ (k = 0 ∨ sk + k ≤ n) ∧ Row .u32 102 wr g (shrAt p sk n xs k) ∧ w.grownBy wr (some g)) (fun i _ => n - (intOf i).toNat)
  case atStart => exact ⟨0, by simp, .inl rfl, H0, World.grownBy.refl w _⟩
  case round =>
    obtain ⟨k, rfl, hk, hrow, hg⟩ := hrel
    by_cases hlt : sk + k < n
    · have hlen := shrAt_length (p := p) hn (Nat.le_of_lt hlt)
      have hx1 := getElem_of_get? (shrAt_ge (p := p) hn (Nat.le_of_lt hlt) (show k ≤ sk + k by omega)) (by omega) (by omega)
      have hcell := hrow.cell (i := sk + k) (by omega)
      rw [hx1] at hcell
      have hfr := hrow.frozen k
      obtain ⟨vk, hcellk⟩ : ∃ vk, wr.cell? ⟨g, k, none⟩ = some vk := ⟨_, hrow.cell (i := k) (by omega)⟩
      have hset := shrAt_set (p := p) hn hlt
      obtain ⟨x0, hx0⟩ : ∃ x0, x0 = xs[sk + k] := ⟨_, rfl⟩
      have hxb := hok.get (k := sk + k) (by omega)
      have HC : ∀ y : Nat, Hid ((((x0 + 4294967296 * y) / 2 ^ p % 4294967296 : Nat) : Int) = ((x0 : Int) + y * 4294967296) / 2 ^ p % 4294967296) := fun y => by
        unfold Hid
        rw [Int.natCast_emod, Int.natCast_ediv, Int.natCast_add, Int.natCast_mul, Int.natCast_pow, Int.mul_comm (4294967296 : Nat)]; rfl
      have HS : Hid (∀ (y : Nat), (y = if sk + k + 1 < n then xs.getD (sk + k + 1) 0 else 0) → (shrAt p sk n xs k).set k ((x0 + 4294967296 * y) / 2 ^ p % 4294967296) = shrAt p sk n xs (k + 1)) := by rw [hx0]; exact hset
      rw [← hx0] at hcell hxb
      clear hset hx1 hx0
      have HL := Lib.hid hlen
      clear hlen
      by_cases h2 : sk + k + 1 < n
      · have hx2 := getElem_of_get? (shrAt_ge (p := p) hn (Nat.le_of_lt hlt) (show k ≤ sk + k + 1 by omega)) (by have := HL.out; omega) (by omega)
        have hcell2 := hrow.cell (i := sk + k + 1) (by have := HL.out; omega)
        rw [hx2] at hcell2
        clear hx2
        have hyb := hok.get (k := sk + k + 1) (by omega)
        have hset2 := HS.out (xs[sk + k + 1]'(by omega)) (by rw [if_pos h2, List.getD_eq_getElem?_getD, List.getElem?_eq_getElem (by omega)]; rfl)
        generalize xs[sk + k + 1] = y at *
        have HS2 := Lib.hid hset2
        clear hset2
        have hor : bits .or .u64 (x0 : Int) ((y : Int) * 4294967296) = ((x0 + y * 4294967296 : Nat) : Int) := or_u64 x0 y 32 (by omega) (by omega)
        go_wp2
        refine ⟨⟨k + 1, by go_num, .inr (by omega), ?_, grown_set hg _ _⟩, by simp [intOf]; omega⟩
        rw [← HS2.out, ← (HC y).out]
        exact hrow.set _ _
      · have hset2 := HS.out 0 (by rw [if_neg h2])
        have HS2 := Lib.hid hset2
        have hc0 := HC 0
        clear hset2
        go_wp2
        refine ⟨⟨k + 1, by go_num, .inr (by omega), ?_, grown_set hg _ _⟩, by simp [intOf]; omega⟩
        have e := hc0.out
        simp only [Nat.mul_zero, Nat.add_zero, Int.natCast_zero, Int.zero_mul, Int.add_zero] at e
        have e2 := HS2.out
        simp only [Nat.mul_zero, Nat.add_zero] at e2
        rw [← e2, ← e]
        exact hrow.set _ _
    · have hfin : ∃ j : Nat, j = n - sk ∧ Row .u32 102 wr g (shrAt p sk n xs (n - sk)) ∧ (shrAt p sk n xs (n - sk)).length = xs.length ∧ Ok 4294967296 (shrAt p sk n xs (n - sk)) ∧ (shrAt p sk n xs (n - sk)).take (n - sk) = shr p ((xs.take n).drop sk) := by
        have hkn : k = n - sk := by omega
        refine ⟨_, rfl, hkn ▸ hrow, ?_, shrAt_ok rfl hok, shrAt_take hn⟩
        rcases Nat.lt_or_ge n sk with h | h
        · have : n - sk = 0 := by omega
          rw [this, shrAt_zero]
        · exact shrAt_length hn (by omega)
      clear hrow
      obtain ⟨j, hj, hrow, hlen, hokz, htake⟩ := hfin
      rw [← hj] at hrow hlen hokz htake
      have HL := Lib.hid hlen
      have hjn : j ≤ n := by omega
      have HT := Lib.hid htake
      clear hlen htake
      generalize shrAt p sk n xs j = zs at *
      have hnlt : ¬ ((sk : Int) + k < n) := by omega
      clear H0
      have HK : ∀ q, q = j → Calls Tryd.prog 88 #[.slice (some ⟨g, 0, none⟩) q c] wr fun e w' => (e = .returned (.slice (some ⟨g, 0, none⟩) (digs 4294967296 (val 4294967296 (shr p ((xs.take n).drop sk)))).length c) ∧ Own wr g c (val 4294967296 (shr p ((xs.take n).drop sk)))) ∧ wr = w' := by
        rintro q rfl
        rw [← HT.out]
        exact trim_own g c q zs wr hrow hokz (by have := HL.out; omega) (by omega) hcm
      have HK := Lib.hid HK
      go_wp2_with fail
      all_goals
        first
          | (with_reducible refine (HK.out (n - sk) (by omega)).mono ?_)
          | (with_reducible refine (HK.out 0 (by omega)).mono ?_)
        rintro e w1 ⟨⟨rfl, ho⟩, rfl⟩
        go_wp2
        go_ret
        exact ⟨⟨rfl, ho⟩, hg⟩
end Go.Proofs.YtahmjnjammcifaaDoor
