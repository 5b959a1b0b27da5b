import Derived.Test.YtahmjnjammcifaaDoorBase
namespace Go.Proofs.YtahmjnjammcifaaDoor
open Go.RowKit Fm

theorem trim_any (A : Option Addr) (c : Nat) (ds : List Nat) (w : World) (hc : ds.length ≤ c) (hcm : c ≤ maxLen) (hr : Rd .u32 w A ds) (hok : Ok 4294967296 ds) :
    Calls Tryd.prog 88 #[.slice A ds.length c] w fun e w' => e = .returned (.slice A (digs 4294967296 (val 4294967296 ds)).length c) ∧ w = w' := by
  unfold maxLen at hcm
  rw [← cut_eq_digs (by omega) hok]
  go_enter Tryd.func88, Tryd.ntmps88
  go_wp2
  go_loop [0] (fun v => ∃ k : Nat, k ≤ ds.length ∧ v = .slice A k c ∧ Hid (cut (ds.take k) = cut ds)) (fun v => match v with | .slice _ n _ => n | _ => 0)
  case atStart => exact ⟨ds.length, Nat.le_refl _, rfl, by unfold Hid; rw [List.take_length]⟩
  case round =>
    obtain ⟨k, hk, rfl, hcut⟩ := hrel
    by_cases h0 : k = 0
    · subst h0
      go_wp2
      go_ret
      exact ⟨by rw [← cut_stop hk hcut.out (.inl rfl)]; rfl, rfl⟩
    · obtain ⟨j, rfl⟩ : ∃ j, k = j + 1 := ⟨k - 1, by omega⟩
      obtain ⟨b, off, rfl, hb, hcell⟩ := hr.at_ (i := j) (by omega)
      by_cases hz : ds[j] = 0
      · have hz' : ((ds[j] : Nat) : Int) = 0 := by rw [hz]; rfl
        go_wp2
        exact ⟨⟨j, by omega, rfl, by unfold Hid; rw [← hcut.out]; exact (cut_take_zero (by omega) hz).symm⟩, by simp⟩
      · have hf := cut_stop hk hcut.out (.inr ⟨j, by omega, rfl, hz⟩)
        have HF := Lib.hid hf
        clear hf
        go_wp2
        go_ret
        exact ⟨by rw [← HF.out]; rfl, rfl⟩

theorem ret_pair {k k' : IntKind} {a b c d : Int} (h : a = b) (h' : c = d) : Ending.returned (.tuple #[.int k a, .int k' c]) = .returned (.tuple #[.int k b, .int k' d]) := by rw [h, h']

theorem natural_any (n : Nat) (w : World) (hn : n < 18446744073709551616) :
    Calls Tryd.prog 66 #[.int .u64 n] w fun e w' => ∃ v, e = .returned v ∧ Dv w' v n ∧ Up w w' := by
  have hrow : rowOf .u32 [n % 4294967296, n / 4294967296] = #[Value.int .u32 ((n : Int) % 4294967296), Value.int .u32 ((n : Int) / 4294967296)] := by simp [rowOf]
  have Hrow := Lib.hid hrow
  clear hrow
  go_enter Tryd.func66, Tryd.ntmps66
  go_wp2_with fail
  rw [← Hrow.out]
  have hr := Rd.of_row0 (Row.new (k := .u32) (t := 102) w [n % 4294967296, n / 4294967296])
  have hok : Ok 4294967296 [n % 4294967296, n / 4294967296] := Ok.cons (by omega) (Ok.cons (by omega) Ok.nil)
  have hv : val 4294967296 [n % 4294967296, n / 4294967296] = n := by simp [val]; omega
  refine (trim_any _ 2 [n % 4294967296, n / 4294967296] _ (Nat.le_refl _) (by unfold maxLen; omega) hr hok).mono ?_
  rintro e w' ⟨rfl, rfl⟩
  have hd := digs_take (B := 4294967296) (by omega) hok
  rw [hv] at hd ⊢
  go_wp2
  go_ret
  exact ⟨_, rfl, ⟨_, 2, rfl, hd.1, by unfold maxLen; omega, hd.2 ▸ hr.take _⟩, Up.alloc _ _⟩

theorem add32_any (x y c : Nat) (w : World) (hx : x < 4294967296) (hy : y < 4294967296) (hc : c ≤ 1) :
    Calls Tryd.prog 116 #[.int .u32 x, .int .u32 y, .int .u32 c] w fun e w' => e = .returned (.tuple #[.int .u32 ((x + y + c) % 4294967296 : Nat), .int .u32 ((x + y + c) / 4294967296 : Nat)]) ∧ w = w' := by
  go_enter Tryd.func116, Tryd.ntmps116
  go_wp2
  go_ret2
  exact ⟨ret_pair (by omega) (by omega), rfl⟩

def dif32 (x y c : Nat) : Nat := (x + 8589934592 - y - c) % 4294967296
def bor32 (x y c : Nat) : Nat := if x < y + c then 1 else 0
theorem bor_le (x y c : Nat) : bor32 x y c ≤ 1 := by unfold bor32; split <;> omega
theorem dif_lt (x y c : Nat) : dif32 x y c < 4294967296 := Nat.mod_lt _ (by omega)
theorem dif_eq {x y c : Nat} (hx : x < 4294967296) (hy : y < 4294967296) (hc : c ≤ 1) : x + 4294967296 * bor32 x y c = dif32 x y c + y + c := by
  unfold bor32 dif32; split <;> omega

theorem bits_u32 (op : BinOp) (f : BitVec 32 → BitVec 32 → BitVec 32) (a b : Int) (h : bits op .u32 a b = IntKind.u32.wrap ((f (BitVec.ofInt 32 a) (BitVec.ofInt 32 b)).toNat : Int)) : bits op .u32 a b = ((f (BitVec.ofInt 32 a) (BitVec.ofInt 32 b)).toNat : Int) := by
  rw [h]; exact IntWalk.u32_in _ ⟨by omega, by have := (f (BitVec.ofInt 32 a) (BitVec.ofInt 32 b)).isLt; omega⟩
theorem xor_u32 (a b : Int) : bits .xor .u32 a b = ((BitVec.ofInt 32 a ^^^ BitVec.ofInt 32 b).toNat : Int) := bits_u32 _ (· ^^^ ·) a b rfl
theorem and_u32 (a b : Int) : bits .and .u32 a b = ((BitVec.ofInt 32 a &&& BitVec.ofInt 32 b).toNat : Int) := bits_u32 _ (· &&& ·) a b rfl
theorem or_u32 (a b : Int) : bits .or .u32 a b = ((BitVec.ofInt 32 a ||| BitVec.ofInt 32 b).toNat : Int) := bits_u32 _ (· ||| ·) a b rfl
theorem ofInt_toNat (v : BitVec 32) : BitVec.ofInt 32 (v.toNat : Int) = v := by
  rw [BitVec.ofInt_natCast]; simp
theorem top_u32 (v : BitVec 32) : ((v.toNat : Nat) : Int) / 2147483648 = (if v.msb then 1 else 0 : Nat) := by
  rw [BitVec.msb_eq_decide]
  have := v.isLt
  by_cases h : 2 ^ (32 - 1) ≤ v.toNat
  · simp [h]; omega
  · simp [h]; omega
theorem msb_ofInt (n : Nat) (h : n < 4294967296) : (BitVec.ofInt 32 (n : Int)).msb = decide (2147483648 ≤ n) := by
  rw [BitVec.ofInt_natCast, BitVec.msb_eq_decide, BitVec.toNat_ofNat, Nat.mod_eq_of_lt h]
theorem bor_bits {x y c : Nat} (hx : x < 4294967296) (hy : y < 4294967296) (hc : c ≤ 1) :
    bits .or .u32 (bits .and .u32 (bits .xor .u32 IntKind.u32.max x) y) (bits .and .u32 (bits .xor .u32 IntKind.u32.max (bits .xor .u32 x y)) ((dif32 x y c : Nat) : Int)) / 2147483648 = (bor32 x y c : Nat) := by
  simp only [xor_u32, and_u32, or_u32, ofInt_toNat]
  rw [top_u32]
  simp only [BitVec.msb_or, BitVec.msb_and, BitVec.msb_xor]
  rw [msb_ofInt x hx, msb_ofInt y hy, msb_ofInt _ (dif_lt x y c)]
  have hm : (BitVec.ofInt 32 IntKind.u32.max).msb = true := by decide
  rw [hm]
  have h := dif_eq hx hy hc
  have hd := dif_lt x y c
  unfold bor32 at h ⊢
  by_cases h1 : 2147483648 ≤ x <;> by_cases h2 : 2147483648 ≤ y <;> by_cases h3 : 2147483648 ≤ dif32 x y c <;> by_cases h4 : x < y + c <;> simp [h1, h2, h3, h4] at h ⊢ <;> omega
theorem sub32_any (x y c : Nat) (w : World) (hx : x < 4294967296) (hy : y < 4294967296) (hc : c ≤ 1) :
    Calls Tryd.prog 117 #[.int .u32 x, .int .u32 y, .int .u32 c] w fun e w' => e = .returned (.tuple #[.int .u32 (dif32 x y c : Nat), .int .u32 (bor32 x y c : Nat)]) ∧ w = w' := by
  have hd : ((x : Int) - y - c) % 4294967296 = (dif32 x y c : Nat) := by unfold dif32; omega
  have HD := Lib.hid hd
  clear hd
  go_enter Tryd.func117, Tryd.ntmps117
  go_wp2
  go_ret2
  exact ⟨ret_pair HD.out (by rw [HD.out]; exact bor_bits hx hy hc), rfl⟩

theorem sign_any (n : Int) (w : World) :
    Calls Tryd.prog 85 #[.int .i64 n] w fun e w' => e = .returned (.int .i64 n.sign) ∧ w = w' := by
  rcases Int.lt_trichotomy n 0 with h | h | h
  · rw [Int.sign_eq_neg_one_of_neg h]
    go_enter Tryd.func85, Tryd.ntmps85
    go_wp2
    go_ret
    exact ⟨rfl, rfl⟩
  · subst h
    go_enter Tryd.func85, Tryd.ntmps85
    go_wp2
    go_ret
    exact ⟨rfl, rfl⟩
  · rw [Int.sign_eq_one_of_pos h]
    go_enter Tryd.func85, Tryd.ntmps85
    go_wp2
    go_ret
    exact ⟨rfl, rfl⟩

theorem trim_row (g c n : Nat) (xs : List Nat) (w : World) (hrow : Row .u32 102 w g xs) (hok : Ok 4294967296 xs) (hn : xs.length = n) (hc : n ≤ c) (hcm : c ≤ maxLen) :
    Calls Tryd.prog 88 #[.slice (some ⟨g, 0, none⟩) n c] w fun e w' => (e = .returned (.slice (some ⟨g, 0, none⟩) (digs 4294967296 (val 4294967296 xs)).length c) ∧ Dv w (.slice (some ⟨g, 0, none⟩) (digs 4294967296 (val 4294967296 xs)).length c) (val 4294967296 xs)) ∧ w = w' := by
  subst hn
  refine (trim_any (some ⟨g, 0, none⟩) c xs w hc hcm (Rd.of_row0 hrow) hok).mono ?_
  rintro e w' ⟨rfl, rfl⟩
  have hd := digs_take (B := 4294967296) (by omega) hok
  exact ⟨⟨rfl, _, _, rfl, Nat.le_trans hd.1 hc, hcm, hd.2 ▸ (Rd.of_row0 hrow).take _⟩, rfl⟩
end Go.Proofs.YtahmjnjammcifaaDoor
