import Derived.Test.YtahmjnjammcifaaDoorDig14
namespace Go.Proofs.YtahmjnjammcifaaDoor
open Go.RowKit Fm

theorem ret_u64 {a b : Int} (h : a = b) : Ending.returned (.int .u64 a) = .returned (.int .u64 b) := by rw [h]

theorem word_any (v : Value) (n : Nat) (w : World) (h : Dv w v n) (hn : n < 18446744073709551616) :
    Calls Tryd.prog 87 #[v] w fun e w' => e = .returned (.int .u64 n) ∧ w = w' := by
  have hl := digs_length_le (B := 4294967296) (n := n) (k := 2) (by omega) (by omega)
  obtain ⟨A, c, rfl, hc, hcm, hr⟩ := h
  have hok := digs_ok (B := 4294967296) (by omega) n
  have hv := val_digs (B := 4294967296) (by omega) n
  generalize digs 4294967296 n = ds at *
  have HV := Lib.hid hv
  clear hv
  go_enter Tryd.func87, Tryd.ntmps87
  go_wp2
  go_loop [3, 8] (fun nv iv => ∃ k : Nat, iv = .int .i64 k ∧ k ≤ ds.length ∧ nv = .int .u64 (val 4294967296 (ds.take k))) (fun _ iv => ds.length - (intOf iv).toNat)
  case atStart => exact ⟨0, rfl, by omega, rfl⟩
  case round =>
    obtain ⟨k, rfl, hk, rfl⟩ := hrel
    rcases Nat.lt_or_ge k ds.length with hlt | hge
    · obtain ⟨b, off, rfl, hb, hcell⟩ := hr.at_ hlt
      have hxb := hok.get hlt
      have htk := val_take_succ 4294967296 hlt
      have hlow := val_lt (B := 4294967296) (by omega) (hok.take k)
      rw [List.length_take, Nat.min_eq_left hk] at hlow
      generalize ds[k] = x at *
      generalize hT : val 4294967296 (ds.take k) = T at *
      have HTK := Lib.hid htk
      clear htk hT
      by_cases h0 : k = 0
      · subst h0
        have hT0 : T < 1 := by simpa using hlow
        obtain rfl : T = 0 := by omega
        rw [Nat.add_zero] at hcell
        have hor : bits .or .u64 (0 : Int) (x : Int) = (x : Int) := by
          have := u64_or_nat 0 x (by omega) (by omega)
          simpa using this
        clear hT0 hlow
        go_wp2
        refine ⟨⟨1, rfl, by omega, by rw [HTK.out, Nat.pow_zero, Nat.one_mul, Nat.zero_add]⟩, by simp [intOf]; omega⟩
      · obtain rfl : k = 1 := by omega
        have hlow2 : T < 4294967296 := by simpa using hlow
        have hor : bits .or .u64 (T : Int) ((x : Int) * 4294967296) = ((T + x * 4294967296 : Nat) : Int) := or_u64 T x 32 hlow2 (by omega)
        clear hlow
        go_wp2
        refine ⟨⟨2, rfl, by omega, by rw [HTK.out, Nat.pow_one, Nat.mul_comm]; rfl⟩, by simp [intOf]; omega⟩
    · obtain rfl : k = ds.length := by omega
      go_wp2
      go_ret
      exact ⟨ret_u64 (by rw [HV.out]), rfl⟩

theorem Own.rd {w : World} {g c m : Nat} (h : Own w g c m) : Rd .u32 w (some ⟨g, 0, none⟩) (digs 4294967296 m) := Dv.rd h.dv
theorem own_away {g g' : Nat} (h : g ≠ g') : Away (some ⟨g, 0, none⟩) g' := by
  intro b o e; injection e with e; injection e with e1 e2; omega
theorem Own.le_cap {w : World} {g c m : Nat} (h : Own w g c m) : (digs 4294967296 m).length ≤ c ∧ c ≤ maxLen := by
  obtain ⟨xs, _, _, _, _, h5, h6⟩ := h; exact ⟨h5, h6⟩
theorem digs_len_mono {a b : Nat} (h : a ≤ b) : (digs 4294967296 a).length ≤ (digs 4294967296 b).length := by
  rcases Nat.lt_or_ge (digs 4294967296 b).length (digs 4294967296 a).length with h1 | h1
  · have := lt_of_length_lt (B := 4294967296) (by omega) h1; omega
  · exact h1
theorem lt_pow_len (n : Nat) : n < 2 ^ (32 * (digs 4294967296 n).length) := by
  have := val_lt (B := 4294967296) (by omega) (digs_ok (B := 4294967296) (by omega) n)
  rw [val_digs (by omega)] at this
  rw [Nat.pow_mul, pow32]; exact this
theorem twos_le (n : Nat) (h : 0 < n) : twos n ≤ 32 * (digs 4294967296 n).length := by
  obtain ⟨m, hm⟩ := twos_spec n h
  have h1 := lt_pow_len n
  rcases Nat.lt_or_ge (32 * (digs 4294967296 n).length) (twos n) with h2 | h2
  · exfalso
    have h3 := Nat.pow_le_pow_right (n := 2) (by omega) (Nat.le_of_lt h2)
    have h4 : 2 ^ twos n ≤ n := by
      have := Nat.le_mul_of_pos_right (2 ^ twos n) (show 0 < 2 * m + 1 by omega)
      omega
    omega
  · exact h2
theorem odd_part (n : Nat) (h : 0 < n) : (n / 2 ^ twos n) % 2 = 1 ∧ n = 2 ^ twos n * (n / 2 ^ twos n) ∧ n / 2 ^ twos n ≤ n := by
  obtain ⟨m, hm⟩ := twos_spec n h
  have e : n / 2 ^ twos n = 2 * m + 1 := by
    have := Nat.mul_div_cancel_left (2 * m + 1) (Nat.two_pow_pos (twos n))
    rw [← hm] at this; exact this
  rw [e]
  exact ⟨by omega, hm, by rw [← e]; exact Nat.div_le_self _ _⟩
theorem odd_step {p q : Nat} (hq : q % 2 = 1) (h : q < p) : ((p - q) / 2 ^ twos (p - q)) % 2 = 1 ∧ (p - q) / 2 ^ twos (p - q) ≤ p - q ∧ Nat.gcd ((p - q) / 2 ^ twos (p - q)) q = Nat.gcd p q := by
  obtain ⟨h1, h2, h3⟩ := odd_part (p - q) (by omega)
  exact ⟨h1, h3, (gcd_sub_pow (by omega) hq h2).symm⟩

theorem decrease_own (g c p : Nat) (A : Option Addr) (c2 q : Nat) (w : World) (h : Own w g c p) (hr : Rd .u32 w A (digs 4294967296 q)) (ha : Away A g) (hc2 : (digs 4294967296 q).length ≤ c2) (hqp : q ≤ p) :
    Calls Tryd.prog 110 #[.slice (some ⟨g, 0, none⟩) (digs 4294967296 p).length c, .slice A (digs 4294967296 q).length c2] w fun e w' =>
      ∃ r xs, e = .returned r ∧ Row .u32 102 w' g xs ∧ Ok 4294967296 xs ∧ (digs 4294967296 p).length ≤ xs.length ∧ val 4294967296 (xs.take (digs 4294967296 p).length) = p - q ∧ w.grownBy w' (some g) := by
  obtain ⟨xs, h1, h2, h3, h4, h5, h6⟩ := h
  refine (decrease_any g 0 (digs 4294967296 p).length c xs A c2 (digs 4294967296 q) w h1 (by omega) h5 h6 h2 (digs_len_mono hqp) hr (fun _ => ha) (digs_ok (by omega) q) hc2).mono ?_
  rintro e w' ⟨borrow, r, rfl, zs, hb, hrow, hl, hok, hout, hv, hg, -⟩
  refine ⟨r, zs, rfl, hrow, hok, by omega, ?_, hg⟩
  have e1 : seg xs 0 (digs 4294967296 p).length = digs 4294967296 p := by rw [← h4]; simp [seg]
  have e2 : seg zs 0 (digs 4294967296 p).length = zs.take (digs 4294967296 p).length := by simp [seg]
  rw [e1, e2, List.take_of_length_le (digs_len_mono hqp), val_digs (by omega), val_digs (by omega)] at hv
  have hlt := val_lt (B := 4294967296) (by omega) (hok.take (digs 4294967296 p).length)
  rw [List.length_take, Nat.min_eq_left (by omega)] at hlt
  rcases Nat.lt_or_ge 0 borrow with hb1 | hb1
  · obtain rfl : borrow = 1 := by omega
    omega
  · obtain rfl : borrow = 0 := by omega
    omega
end Go.Proofs.YtahmjnjammcifaaDoor
