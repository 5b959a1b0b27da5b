import Derived.Test.YtahmjnjammcifaaDoorDig7
namespace Go.Proofs.YtahmjnjammcifaaDoor
open Go.RowKit Fm

theorem zeros_more {B m k : Nat} {ds : List Nat} (hv : val B ds = m) (h0 : 0 < m) (hz : val B (ds.take (k + 1)) = 0) : k + 1 < ds.length := by
  rcases Nat.lt_or_ge (k + 1) ds.length with h | h
  · exact h
  · rw [List.take_of_length_le h] at hz; omega
theorem zeros_any (v : Value) (m : Nat) (w : World) (h : Dv w v m) (h0 : 0 < m) (ht : Tab w) (hm : (digs 4294967296 m).length ≤ 4294967296) :
    Calls Tryd.prog 102 #[v] w fun e w' => e = .returned (.int .i64 (twos m)) ∧ w = w' := by
  have h63 := h.len
  obtain ⟨A, c, rfl, hc, hcm, hr⟩ := h
  have hok := digs_ok (B := 4294967296) (by omega) m
  have hv := val_digs (B := 4294967296) (by omega) m
  generalize digs 4294967296 m = ds at *
  have HV := Lib.hid hv
  clear hv
  go_enter Tryd.func102, Tryd.ntmps102
  go_wp2
  go_loop [3] (fun i => ∃ k : Nat, i = .int .i64 k ∧ k < ds.length ∧ Hid (val 4294967296 (ds.take k) = 0)) (fun i => ds.length - (intOf i).toNat)
  case atStart =>
    refine ⟨0, rfl, ?_, by simp [Hid, val]⟩
    rcases Nat.eq_zero_or_pos ds.length with e | e
    · have := List.eq_nil_of_length_eq_zero e
      subst this
      have := HV.out
      simp [val] at this
      omega
    · exact e
  case round =>
    obtain ⟨k, rfl, hk, hz⟩ := hrel
    obtain ⟨b, off, rfl, hb, hcell⟩ := hr.at_ hk
    have hxb := hok.get hk
    have htk := val_take_succ 4294967296 hk
    have hta := val_take_add 4294967296 ds (k + 1) (by omega)
    rw [HV.out] at hta
    generalize hx : ds[k] = x at *
    rw [hz.out] at htk
    rw [htk] at hta
    have HTK := Lib.hid htk
    have HTA := Lib.hid hta
    clear htk hta hx
    by_cases hx0 : x = 0
    · subst hx0
      have htz : Hid (val 4294967296 (ds.take (k + 1)) = 0) := by unfold Hid; rw [HTK.out, Nat.mul_zero]
      have hlt := zeros_more HV.out h0 htz.out
      clear HTK HTA
      go_wp2
      refine ⟨⟨k + 1, by go_num, hlt, htz⟩, by simp [intOf]; omega⟩
    · have hx1 : ((x : Int) == 0) = false := by simp; omega
      have hfin : twos m = 32 * k + Go.Lib.ctz 32 x := by
        have := HTA.out
        rw [this, Nat.zero_add, Nat.pow_succ, Nat.mul_assoc, ← Nat.mul_add, show (4294967296 : Nat) ^ k = 2 ^ (32 * k) by rw [Nat.pow_mul, pow32], twos_shift _ _ (by omega), ctz_twos x hxb hx0]
      have HF := Lib.hid hfin
      have hlb := (Go.Lib.lowest_bit 32 x hx0 hxb).2
      have hkb : ds.length ≤ 4294967296 := hm
      have hw1 : 0 ≤ 32 * (k : Int) := by omega
      clear hfin
      go_wp2_with (go_at_call 115; refine (tz32_any x _ hxb hx0 ht).mono ?_; rintro e w' ⟨rfl, rfl⟩)
      go_ret
      exact ⟨ret_int (by rw [HF.out]; simp), rfl⟩
end Go.Proofs.YtahmjnjammcifaaDoor
