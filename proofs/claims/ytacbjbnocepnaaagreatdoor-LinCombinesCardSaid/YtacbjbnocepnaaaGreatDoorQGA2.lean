/- Plain facts about rows of digits, continued. -/
import Derived.Test.YtacbjbnocepnaaaGreatDoorQGA
import Derived.Lib.ItoaNum
import Derived.Lib.BitFns
namespace Go.Proofs.YtacbjbnocepnaaaGreatDoor.Fm
theorem bitLen_bounds {x : Nat} (h0 : 0 < x) (h : x < 4294967296) : 1 ≤ Go.Lib.bitLen x ∧ Go.Lib.bitLen x ≤ 32 ∧ 2 ^ (Go.Lib.bitLen x - 1) ≤ x ∧ x < 2 ^ Go.Lib.bitLen x := by
  have hb := Go.Lib.bitLenAux_bounds 64 x (by omega) (by omega)
  have hl := Go.Lib.bitLen_le x 32 (by omega) (by omega)
  exact ⟨hb.1, hl, hb.2.1, hb.2.2⟩
theorem pow_split {a b : Nat} (h : a + b = 32) : 2 ^ a * 2 ^ b = 4294967296 := by rw [← Nat.pow_add, h]
theorem pow_split31 {a b : Nat} (h : a + b = 31) : 2 ^ a * 2 ^ b = 2147483648 := by rw [← Nat.pow_add, h]
theorem norm_arith {n P top low bl : Nat} (e : n = low + P * top) (hlow : low < P) (hb : 1 ≤ bl ∧ bl ≤ 32 ∧ 2 ^ (bl - 1) ≤ top ∧ top < 2 ^ bl) : n * 2 ^ (32 - bl) < P * 4294967296 ∧ P * 2147483648 ≤ n * 2 ^ (32 - bl) := by
  have hp1 := pow_split (a := bl) (b := 32 - bl) (by omega)
  have hp2 := pow_split31 (a := bl - 1) (b := 32 - bl) (by omega)
  have hS : 0 < 2 ^ (32 - bl) := Nat.two_pow_pos _
  constructor
  · have h1 : n + 1 ≤ P * 2 ^ bl := by
      have : P * top + P ≤ P * 2 ^ bl := by
        have := Nat.mul_le_mul_left P (show top + 1 ≤ 2 ^ bl from hb.2.2.2)
        rw [Nat.mul_add, Nat.mul_one] at this; exact this
      omega
    have h2 : (n + 1) * 2 ^ (32 - bl) ≤ P * 2 ^ bl * 2 ^ (32 - bl) := Nat.mul_le_mul_right _ h1
    rw [Nat.mul_assoc, hp1, Nat.add_mul, Nat.one_mul] at h2
    omega
  · have h1 : P * 2 ^ (bl - 1) ≤ n := by
      have := Nat.mul_le_mul_left P hb.2.2.1
      omega
    have h2 : P * 2 ^ (bl - 1) * 2 ^ (32 - bl) ≤ n * 2 ^ (32 - bl) := Nat.mul_le_mul_right _ h1
    rw [Nat.mul_assoc, hp2] at h2
    exact h2
theorem top_big {V P low top : Nat} (e : V = low + P * top) (hlow : low < P) (h : P * 2147483648 ≤ V) : 2147483648 ≤ top := by
  rcases Nat.lt_or_ge top 2147483648 with h1 | h1
  · exfalso
    have := Nat.mul_le_mul_left P (show top + 1 ≤ 2147483648 from h1)
    rw [Nat.mul_add, Nat.mul_one] at this
    omega
  · exact h1
theorem digs_top {n k : Nat} (hlen : (digs 4294967296 n).length = k + 1) : ∃ low, n = low + 4294967296 ^ k * (digs 4294967296 n)[k]'(by omega) ∧ low < 4294967296 ^ k := by
  have hok := digs_ok (B := 4294967296) (by omega) n
  have hv := val_digs (B := 4294967296) (by omega) n
  have e := val_take_succ 4294967296 (l := digs 4294967296 n) (k := k) (by omega)
  rw [List.take_of_length_le (by omega), hv] at e
  have hlow := val_lt (B := 4294967296) (by omega) (hok.take k)
  rw [List.length_take, Nat.min_eq_left (by omega)] at hlow
  exact ⟨_, e, hlow⟩
theorem digs_top_pos {n k : Nat} (hlen : (digs 4294967296 n).length = k + 1) : 0 < (digs 4294967296 n)[k]'(by omega) := by
  have ht := digs_trim (B := 4294967296) (by omega) n
  rcases Nat.eq_zero_or_pos ((digs 4294967296 n)[k]'(by omega)) with h | h
  · exfalso
    apply ht
    rw [List.getLast?_eq_getElem?, hlen, List.getElem?_eq_getElem (by omega)]
    exact congrArg some h
  · exact h
theorem norm_top {n k top : Nat} (hlen : (digs 4294967296 n).length = k + 2) (htop : (digs 4294967296 n)[k + 1]'(by omega) = top) :
    0 < top ∧ top < 4294967296 ∧ (digs 4294967296 (n * 2 ^ (32 - Go.Lib.bitLen top))).length = k + 2 ∧ (∀ h : k + 1 < (digs 4294967296 (n * 2 ^ (32 - Go.Lib.bitLen top))).length, 2147483648 ≤ (digs 4294967296 (n * 2 ^ (32 - Go.Lib.bitLen top)))[k + 1]) := by
  have ht0 := digs_top_pos (k := k + 1) hlen
  have htb := (digs_ok (B := 4294967296) (by omega) n).get (k := k + 1) (by omega)
  obtain ⟨low, e, hlow⟩ := digs_top (k := k + 1) hlen
  rw [htop] at ht0 htb e
  have hb := bitLen_bounds ht0 htb
  have ha := norm_arith e hlow hb
  have hl : (digs 4294967296 (n * 2 ^ (32 - Go.Lib.bitLen top))).length = k + 2 := by
    have h1 := digs_length_le (B := 4294967296) (n := n * 2 ^ (32 - Go.Lib.bitLen top)) (k := k + 2) (by omega) (by rw [Nat.pow_succ (m := k + 1)]; exact ha.1)
    have h2 := lt_digs_length (B := 4294967296) (n := n * 2 ^ (32 - Go.Lib.bitLen top)) (k := k + 1) (by omega) (Nat.le_trans (Nat.le_mul_of_pos_right _ (by omega)) ha.2)
    omega
  refine ⟨ht0, htb, hl, fun h => ?_⟩
  obtain ⟨low2, e2, hlow2⟩ := digs_top (k := k + 1) hl
  exact top_big e2 hlow2 ha.2
theorem div_step {B V N S q U r P D : Nat} (hS : S + V * (P * B * D) = N) (hU : U = q * V + r) (S' : Nat) (hS' : S' + P * U = S + P * r) : S' + V * (P * (q + B * D)) = N := by
  have : P * U = P * (q * V) + P * r := by rw [hU, Nat.mul_add]
  grind
theorem div_done {V N S D : Nat} (h : S + V * D = N) (hS : S < V) : D = N / V ∧ S = N % V := by
  have h0 : 0 < V := by omega
  constructor
  · rw [← h, Nat.add_mul_div_left _ _ h0, Nat.div_eq_of_lt hS, Nat.zero_add]
  · rw [← h, Nat.add_mul_mod_self_left, Nat.mod_eq_of_lt hS]
theorem val_drop_seg (B : Nat) {l : List Nat} {j n : Nat} (h : j + n ≤ l.length) : val B (l.drop j) = val B (seg l j n) + B ^ n * val B (l.drop (j + n)) := by
  have h1 := val_take_add B (l.drop j) n (by rw [List.length_drop]; omega)
  rw [List.drop_drop] at h1
  exact h1
theorem div_round {B V j n : Nat} {us zs : List Nat} (hB : 2 ≤ B) (hok : Ok B us) (hl : zs.length = us.length) (hj : j + (n + 1) ≤ us.length) (hV : V < B ^ n)
    (hout : ∀ i, i < j ∨ j + (n + 1) ≤ i → zs[i]? = us[i]?) (hb : val B (us.drop (j + 1)) < V) :
    val B (seg us j (n + 1)) < V * B ∧ val B zs + B ^ j * val B (seg us j (n + 1)) = val B us + B ^ j * val B (seg zs j (n + 1)) ∧ (val B (seg zs j (n + 1)) < V → val B (zs.drop j) < V) := by
  have hju : j < us.length := by omega
  have e1 : us.drop j = us[j] :: us.drop (j + 1) := List.drop_eq_getElem_cons hju
  have hx := hok.get hju
  have hd1 := val_drop_seg B (l := us) (j := j) (n := n + 1) hj
  have hd2 := val_drop_seg B (l := zs) (j := j) (n := n + 1) (by omega)
  have ht1 := val_take_add B us j (by omega)
  have ht2 := val_take_add B zs j (by omega)
  have etake : zs.take j = us.take j := by
    apply List.ext_getElem?
    intro i
    rw [List.getElem?_take, List.getElem?_take]
    by_cases h : i < j
    · rw [if_pos h, if_pos h]; exact hout i (.inl h)
    · rw [if_neg h, if_neg h]
  have edrop : zs.drop (j + (n + 1)) = us.drop (j + (n + 1)) := by
    apply List.ext_getElem?
    intro i
    rw [List.getElem?_drop, List.getElem?_drop]
    exact hout _ (.inr (by omega))
  rw [etake] at ht2
  rw [edrop] at hd2
  have hz : val B (us.drop (j + (n + 1))) = 0 := by
    have : us.drop (j + (n + 1)) = (us.drop (j + 1)).drop n := by rw [List.drop_drop]; congr 1; omega
    rw [this, val_drop (by omega) (hok.drop _)]
    exact Nat.div_eq_of_lt (by omega)
  rw [hz, Nat.mul_zero, Nat.add_zero] at hd1 hd2
  refine ⟨?_, ?_, fun h => ?_⟩
  · rw [e1] at hd1
    simp only [val] at hd1
    have : B * val B (us.drop (j + 1)) + B ≤ B * V := by
      have := Nat.mul_le_mul_left B (show val B (us.drop (j + 1)) + 1 ≤ V from hb)
      rw [Nat.mul_add, Nat.mul_one] at this; exact this
    rw [Nat.mul_comm V B]
    omega
  · rw [ht1, ht2, hd1, hd2]
    omega
  · rw [hd2]; exact h
theorem div_start {m n s L k : Nat} (hm : m < 4294967296 ^ L) (hn : 4294967296 ^ (k + 1) ≤ n) (hk : k + 2 ≤ L) : m * 2 ^ s / 4294967296 ^ (L - (k + 2) + 1) < n * 2 ^ s := by
  have hS : 0 < 2 ^ s := Nat.two_pow_pos s
  rw [Nat.div_lt_iff_lt_mul (Nat.pow_pos (by omega))]
  have e : 4294967296 ^ L = 4294967296 ^ (k + 1) * 4294967296 ^ (L - (k + 2) + 1) := by
    rw [← Nat.pow_add]; congr 1; omega
  have h1 : m * 2 ^ s < 4294967296 ^ L * 2 ^ s := Nat.mul_lt_mul_of_pos_right hm hS
  have h2 : 4294967296 ^ (k + 1) * 4294967296 ^ (L - (k + 2) + 1) * 2 ^ s ≤ n * 4294967296 ^ (L - (k + 2) + 1) * 2 ^ s := Nat.mul_le_mul_right _ (Nat.mul_le_mul_right _ hn)
  rw [e] at h1
  have e3 : n * 4294967296 ^ (L - (k + 2) + 1) * 2 ^ s = n * 2 ^ s * 4294967296 ^ (L - (k + 2) + 1) := by
    rw [Nat.mul_assoc, Nat.mul_comm (4294967296 ^ (L - (k + 2) + 1)), ← Nat.mul_assoc]
  omega
theorem shl_fits {m s L : Nat} (hm : m < 4294967296 ^ L) (hs : s ≤ 32) : m * 2 ^ s < 4294967296 ^ (L + 1) := by
  have h1 : m * 2 ^ s < 4294967296 ^ L * 2 ^ s := Nat.mul_lt_mul_of_pos_right hm (Nat.two_pow_pos s)
  have h2 : 2 ^ s ≤ 2 ^ 32 := Nat.pow_le_pow_right (by omega) hs
  have h3 : 4294967296 ^ L * 2 ^ s ≤ 4294967296 ^ L * 2 ^ 32 := Nat.mul_le_mul_left _ h2
  have e : 4294967296 ^ (L + 1) = 4294967296 ^ L * 2 ^ 32 := Nat.pow_succ _ _
  omega
end Go.Proofs.YtacbjbnocepnaaaGreatDoor.Fm
