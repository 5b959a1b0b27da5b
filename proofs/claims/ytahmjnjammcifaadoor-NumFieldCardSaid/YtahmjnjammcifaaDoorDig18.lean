import Derived.Test.YtahmjnjammcifaaDoorDig17
namespace Go.Proofs.YtahmjnjammcifaaDoor
open Go.RowKit Fm

theorem pos_of_odd {a : Nat} (h : a % 2 = 1) : 0 < a := by omega
theorem gcd_parts {n r : Nat} (hn : 0 < n) (hr : 0 < r) : Nat.gcd (n / 2 ^ twos n) (r / 2 ^ twos r) * 2 ^ min (twos n) (twos r) = Nat.gcd n r := by
  obtain ⟨h1, h2, _⟩ := odd_part n hn
  obtain ⟨h3, h4, _⟩ := odd_part r hr
  have := gcd_twos (i := twos n) (j := twos r) h1 h3
  rw [← h2, ← h4] at this
  rw [this, Nat.mul_comm]

set_option maxHeartbeats 1000000 in
set_option maxRecDepth 100000 in
theorem gcd_sw (A A2 : Option Addr) (c c2 m n : Nat) (w : World) (h1 : Dv w (.slice A (digs 4294967296 m).length c) m) (h2 : Dv w (.slice A2 (digs 4294967296 n).length c2) n)
    (hle : (digs 4294967296 n).length ≤ (digs 4294967296 m).length) (hm : (digs 4294967296 m).length ≤ 67108864) (ht : Tab w) (sw : Bool) (hsw : sw = true → (digs 4294967296 n).length < (digs 4294967296 m).length) :
    Calls Tryd.prog 84 (if sw then #[.slice A2 (digs 4294967296 n).length c2, .slice A (digs 4294967296 m).length c] else #[.slice A (digs 4294967296 m).length c, .slice A2 (digs 4294967296 n).length c2]) w
      fun e w' => ∃ v, e = .returned v ∧ Dv w' v (Nat.gcd m n) ∧ Up w w' := by
  have H1 := Lib.hid h1
  have H2 := Lib.hid h2
  have hn := digs_len_mono (show m % n ≤ m from Nat.mod_le m n)
  by_cases hn0 : n = 0
  · subst hn0
    rw [digs_zero, List.length_nil] at hsw ⊢
    have hb : (((0 : Nat) : Int) == 0) = true := rfl
    clear h1 h2
    cases sw
    case' true => have hlt := hsw rfl; simp only [if_true]
    case' false => simp only [Bool.false_eq_true, if_false]
    all_goals
      go_enter Tryd.func84, Tryd.ntmps84
      go_wp2
      go_ret
      exact ⟨_, rfl, (Nat.gcd_zero_right m).symm ▸ H1.out, Up.refl w⟩
  · have hn1 : 0 < n := Nat.pos_of_ne_zero hn0
    have hne : digs 4294967296 n ≠ [] := fun e => hn0 ((digs_eq_nil (by omega)).1 e)
    have hl : 0 < (digs 4294967296 n).length := List.length_pos_iff.2 hne
    have hb : (((digs 4294967296 n).length : Int) == 0) = false := by simp; omega
    have hqr := quoRem_dv _ _ m n w h1 h2 (by omega) hn1
    have HQR := Lib.hid hqr
    clear hqr h1 h2 hne
    have hln : (digs 4294967296 n).length ≤ 67108864 := by omega
    by_cases hr0 : m % n = 0
    · have hg : Nat.gcd m n = n := by rw [Nat.gcd_comm, Nat.gcd_rec, hr0, Nat.gcd_zero_left]
      have HG := Lib.hid hg
      clear hg
      cases sw
      case' true => have hlt := hsw rfl; simp only [if_true]
      case' false => simp only [Bool.false_eq_true, if_false]
      all_goals
        go_enter Tryd.func84, Tryd.ntmps84
        go_wp2_with fail
        refine HQR.out.mono ?_
        rintro e w1 ⟨v3, v4, rfl, hd3, hd4, hup⟩
        rw [hr0] at hd4
        obtain ⟨A4, c4, rfl, hc4, hcm4, hr4⟩ := hd4
        have HE2 := Lib.hid (Sl.up H2.out hup)
        rw [digs_zero, List.length_nil] at *
        go_wp2
        go_ret
        exact ⟨_, rfl, by rw [HG.out]; exact HE2.out, hup⟩
    · have hr1 : 0 < m % n := Nat.pos_of_ne_zero hr0
      have hg : Nat.gcd (n / 2 ^ twos n) (m % n / 2 ^ twos (m % n)) * 2 ^ min (twos n) (twos (m % n)) = Nat.gcd m n := by
        rw [gcd_parts hn1 hr1, Nat.gcd_comm m n, Nat.gcd_rec n m, Nat.gcd_comm]
      have HG := Lib.hid hg
      clear hg
      have ho1 := odd_part n hn1
      have ho2 := odd_part (m % n) hr1
      have ht1 := twos_le n hn1
      have ht2 := twos_le (m % n) hr1
      have hne4 : digs 4294967296 (m % n) ≠ [] := fun e => hr0 ((digs_eq_nil (by omega)).1 e)
      have hl4 : 0 < (digs 4294967296 (m % n)).length := List.length_pos_iff.2 hne4
      have hb4 : (((digs 4294967296 (m % n)).length : Int) == 0) = false := by simp; omega
      have hs1 := digs_len_mono ho1.2.2
      have hs2 := digs_len_mono ho2.2.2
      have HO1 := Lib.hid ho1
      have HO2 := Lib.hid ho2
      clear ho1 ho2 hne4
      cases sw
      case' true => have hlt := hsw rfl; simp only [if_true]
      case' false => simp only [Bool.false_eq_true, if_false]
      all_goals
        go_enter Tryd.func84, Tryd.ntmps84
        go_wp2_with fail
        refine HQR.out.mono ?_
        rintro e w1 ⟨v3, v4, rfl, hd3, hd4, hup⟩
        have HD4 := Lib.hid hd4
        obtain ⟨A4, c4, rfl, hc4, hcm4, hr4⟩ := hd4
        have HE2 := Lib.hid (Sl.up H2.out hup)
        have ht1' : Tab w1 := ht.up hup
        clear hd3
        go_wp2_with fail
        refine (zeros_any _ n w1 HE2.out hn1 ht1' (by omega)).mono ?_
        rintro e w2 ⟨rfl, rfl⟩
        go_wp2_with fail
        refine (zeros_any _ (m % n) w1 HD4.out hr1 ht1' (by omega)).mono ?_
        rintro e w2 ⟨rfl, rfl⟩
        go_wp2_with fail
        refine (right_own _ n (twos n) w1 HE2.out (by omega) (by omega)).mono ?_
        rintro e w2 ⟨ga, ca, rfl, hoa, hga, hup2⟩
        have HOA := Lib.hid hoa
        clear hoa
        go_wp2_with fail
        refine (right_own _ (m % n) (twos (m % n)) w2 (Sl.up HD4.out hup2) (by omega) (by omega)).mono ?_
        rintro e w3 ⟨gb, cb, rfl, hob, hgb, hup3⟩
        have HOB := Lib.hid hob
        clear hob
        go_wp2_with fail
        have hga2 := HOA.out.lt
        have hsz1 := hup.size
        have hsz2 := hup2.size
        refine (oddGcd_any _ _ (n / 2 ^ twos n) (m % n / 2 ^ twos (m % n)) _ w w3 ⟨ga, gb, ca, cb, _, _, rfl, rfl, HOA.out.up hup3, HOB.out, by omega, HO1.out.1, HO2.out.1, by omega, by omega, by omega, by omega, rfl, (hup.trans hup2).trans hup3, rfl⟩ ht).mono ?_
        rintro e w5 ⟨v5, rfl, hd5, hup5⟩
        have HD5 := Lib.hid hd5
        clear hd5
        go_wp2_with fail
        rw [show min (twos n : Int) (twos (m % n) : Int) = ((min (twos n) (twos (m % n)) : Nat) : Int) by omega]
        have hgl := digs_len_mono (Nat.gcd_le_left (n := m % n / 2 ^ twos (m % n)) (m := n / 2 ^ twos n) (pos_of_odd HO1.out.1))
        refine (left_dv _ _ (min (twos n) (twos (m % n))) w5 HD5.out (by omega) (by omega)).mono ?_
        rintro e w6 ⟨v6, rfl, hd6, hup6⟩
        rw [HG.out] at hd6
        have HD6 := Lib.hid hd6
        clear hd6
        go_wp2
        go_ret
        exact ⟨_, rfl, HD6.out, hup5.trans hup6⟩

theorem gcd_dv (v1 v2 : Value) (m n : Nat) (w : World) (h1 : Dv w v1 m) (h2 : Dv w v2 n) (hm : (digs 4294967296 m).length ≤ 67108864) (hn : (digs 4294967296 n).length ≤ 67108864) (ht : Tab w) :
    Calls Tryd.prog 84 #[v1, v2] w fun e w' => ∃ v, e = .returned v ∧ Dv w' v (Nat.gcd m n) ∧ Up w w' := by
  have g1 := h1
  have g2 := h2
  obtain ⟨A, c, rfl, hc, hcm, hr⟩ := h1
  obtain ⟨A2, c2, rfl, hc2, hcm2, hr2⟩ := h2
  rcases Nat.lt_or_ge (digs 4294967296 m).length (digs 4294967296 n).length with h | h
  · have := gcd_sw A2 A c2 c n m w g2 g1 (Nat.le_of_lt h) hn ht true (fun _ => h)
    simpa only [if_true, Nat.gcd_comm n m] using this
  · have := gcd_sw A A2 c c2 m n w g1 g2 h hm ht false (fun e => by cases e)
    simpa only [Bool.false_eq_true, if_false] using this
end Go.Proofs.YtahmjnjammcifaaDoor
