/- Contracts of the functions on digits, continued. -/
import Derived.Test.YtacbjbnocepnaaaGreatDoorQGC
import Derived.Lib.TrailingZeros
import Derived.Lib.BitFns
import Derived.Test.YtacbjbnocepnaaaGreatDoorQShelf
import Derived.Test.YtacbjbnocepnaaaGreatDoorQGA
namespace Go.Proofs.YtacbjbnocepnaaaGreatDoor
open Go.RowKit Fm
def Tab (w : World) : Prop := 0 < w.heap.size ∧ ∀ i, i < 32 → w.cell? ⟨0, i, none⟩ = some (.int .u8 (Go.Lib.deBruijn32tab.getD i 0 : Nat))
theorem Tab.up {w w' : World} (h : Tab w) (hb : Up w w') : Tab w' := ⟨Nat.lt_of_lt_of_le h.1 hb.size, fun i hi => (hb.cells.1 _ _ h.1).trans (h.2 i hi)⟩
theorem deb_cast (P : Nat) : ((P : Int) * 125613361 % 4294967296 / 134217728).toNat = P * 125613361 % 4294967296 / 134217728 := by
  have e : (P : Int) * 125613361 % 4294967296 / 134217728 = ((P * 125613361 % 4294967296 / 134217728 : Nat) : Int) := by simp
  rw [e, Int.toNat_natCast]
theorem pow32 : (2 : Nat) ^ 32 = 4294967296 := by decide
theorem tz32_any (x : Nat) (w : World) (h : x < 4294967296) (h0 : x ≠ 0) (ht : Tab w) :
    Calls Tryz.prog 164 #[.int .u32 x] w fun e w' => e = .returned (.int .i64 (Go.Lib.ctz 32 x)) ∧ w = w' := by
  have hx0 : ((x : Int) == 0) = false := by simp; omega
  have hl := Go.Lib.lowest_bit 32 x h0 h
  have hd := Go.Lib.deBruijn32_at _ hl.2
  have hb : bits .and .u32 (x : Int) (-(x : Int) % 4294967296) = ((2 ^ Go.Lib.ctz 32 x : Nat) : Int) := by
    rw [← hl.1]
    have e : -(x : Int) % 4294967296 = ((2 ^ 32 - x : Nat) : Int) := by omega
    rw [e, and_u32, BitVec.ofInt_natCast, BitVec.ofInt_natCast, BitVec.toNat_and, BitVec.toNat_ofNat, BitVec.toNat_ofNat, Nat.mod_eq_of_lt h, Nat.mod_eq_of_lt (by omega : 2 ^ 32 - x < 2 ^ 32)]
  generalize 2 ^ Go.Lib.ctz 32 x = P at *
  generalize Go.Lib.ctz 32 x = k at *
  have hc : w.cell? ⟨0, (bits .and .u32 (x : Int) (-(x : Int) % 4294967296) * 125613361 % 4294967296 / 134217728).toNat, none⟩ = some (.int .u8 (k : Nat)) := by
    have := ht.2 _ hd.1
    rw [hd.2] at this
    rw [hb, deb_cast, this]
  have hk := hl.2
  clear hl hd hb ht
  go_enter Tryz.func164, Tryz.ntmps164
  go_wp2
  go_ret
  exact ⟨rfl, rfl⟩
def twos (n : Nat) : Nat := if h : 0 < n ∧ n % 2 = 0 then twos (n / 2) + 1 else 0
termination_by n
decreasing_by omega
theorem twos_odd (k m : Nat) : twos (2 ^ k * (2 * m + 1)) = k := by
  induction k with
  | zero => rw [twos, dif_neg (by simp)]
  | succ k ih =>
    have h0 : 0 < 2 ^ k * (2 * m + 1) := Nat.mul_pos (Nat.two_pow_pos k) (by omega)
    have e : 2 ^ (k + 1) * (2 * m + 1) = 2 * (2 ^ k * (2 * m + 1)) := by rw [Nat.pow_succ, Nat.mul_comm (2 ^ k) 2, Nat.mul_assoc]
    rw [twos, e, dif_pos (by omega), Nat.mul_div_cancel_left _ (by omega), ih]
theorem twos_spec (n : Nat) (h : 0 < n) : ∃ m, n = 2 ^ twos n * (2 * m + 1) := by
  induction n using Nat.strongRecOn with
  | ind n ih =>
    by_cases he : n % 2 = 0
    · obtain ⟨m, hm⟩ := ih (n / 2) (by omega) (by omega)
      refine ⟨m, ?_⟩
      have e : twos n = twos (n / 2) + 1 := by rw [twos, dif_pos ⟨h, he⟩]
      rw [e, Nat.pow_succ, Nat.mul_comm (2 ^ _) 2, Nat.mul_assoc, ← hm]; omega
    · refine ⟨n / 2, ?_⟩
      have e : twos n = 0 := by rw [twos, dif_neg (by omega)]
      rw [e]; omega
theorem ctz_twos (x : Nat) (h : x < 4294967296) (h0 : x ≠ 0) (V : Nat) : twos (x + 4294967296 * V) = Go.Lib.ctz 32 x := by
  obtain ⟨m, hm, hk⟩ := Go.Lib.ctzFrom_spec 32 x (by omega) h
  have e : Go.Lib.ctz 32 x = Go.Lib.ctzFrom 32 x := by simp [Go.Lib.ctz, h0]
  rw [e]
  generalize Go.Lib.ctzFrom 32 x = k at *
  obtain ⟨d, hd⟩ : ∃ d, 32 = k + (d + 1) := ⟨31 - k, by omega⟩
  have e2 : x + 4294967296 * V = 2 ^ k * (2 * (m + 2 ^ d * V) + 1) := by
    have h2 : 4294967296 = 2 ^ k * (2 ^ d * 2) := by rw [← Nat.pow_succ, ← Nat.pow_add, ← hd, pow32]
    rw [hm, h2]
    generalize 2 ^ k = P
    generalize 2 ^ d = Q
    grind
  rw [e2, twos_odd]
theorem twos_shift (k n : Nat) (h : 0 < n) : twos (2 ^ k * n) = k + twos n := by
  obtain ⟨m, hm⟩ := twos_spec n h
  rw [hm, ← Nat.mul_assoc, ← Nat.pow_add, twos_odd, ← hm]
end Go.Proofs.YtacbjbnocepnaaaGreatDoor
namespace Go.Proofs.YtacbjbnocepnaaaGreatDoor
open Go.RowKit Fm
theorem zeros_more {B m k : Nat} {ds : List Nat} (hv : val B ds = m) (h0 : 0 < m) (hz : val B (ds.take (k + 1)) = 0) : k + 1 < ds.length := by
  rcases Nat.lt_or_ge (k + 1) ds.length with h | h
  · exact h
  · rw [List.take_of_length_le h] at hz; omega
theorem zeros_any (v : Value) (m : Nat) (w : World) (h : Dv w v m) (h0 : 0 < m) (ht : Tab w) (hm : (digs 4294967296 m).length ≤ 4294967296) :
    Calls Tryz.prog 149 #[v] w fun e w' => e = .returned (.int .i64 (twos m)) ∧ w = w' := by
  have h63 := h.len
  obtain ⟨A, c, rfl, hc, hcm, hr⟩ := h
  have hok := digs_ok (B := 4294967296) (by omega) m
  have hv := val_digs (B := 4294967296) (by omega) m
  generalize digs 4294967296 m = ds at *
  have HV := Lib.hid hv
  clear hv
  go_enter Tryz.func149, Tryz.ntmps149
  go_wp2
  go_loop [3] (fun i => ∃ k : Nat, i = .int .i64 k ∧ k < ds.length ∧ Hid (val 4294967296 (ds.take k) = 0)) (fun i => ds.length - (intOf i).toNat)
  case atStart =>
    refine ⟨0, rfl, ?_, by simp [Hid, val]⟩
    rcases Nat.eq_zero_or_pos ds.length with e | e
    · have := List.eq_nil_of_length_eq_zero e
      subst this
      have := HV.out
      simp [val] at this
      omega
    · exact e
  case round =>
    obtain ⟨k, rfl, hk, hz⟩ := hrel
    obtain ⟨b, off, rfl, hb, hcell⟩ := hr.at_ hk
    have hxb := hok.get hk
    have htk := val_take_succ 4294967296 hk
    have hta := val_take_add 4294967296 ds (k + 1) (by omega)
    rw [HV.out] at hta
    generalize hx : ds[k] = x at *
    rw [hz.out] at htk
    rw [htk] at hta
    have HTK := Lib.hid htk
    have HTA := Lib.hid hta
    clear htk hta hx
    by_cases hx0 : x = 0
    · subst hx0
      have htz : Hid (val 4294967296 (ds.take (k + 1)) = 0) := by unfold Hid; rw [HTK.out, Nat.mul_zero]
      have hlt := zeros_more HV.out h0 htz.out
      clear HTK HTA
      go_wp2
      refine ⟨⟨k + 1, by go_num, hlt, htz⟩, by simp [intOf]; omega⟩
    · have hx1 : ((x : Int) == 0) = false := by simp; omega
      have hfin : twos m = 32 * k + Go.Lib.ctz 32 x := by
        have := HTA.out
        rw [this, Nat.zero_add, Nat.pow_succ, Nat.mul_assoc, ← Nat.mul_add, show (4294967296 : Nat) ^ k = 2 ^ (32 * k) by rw [Nat.pow_mul, pow32], twos_shift _ _ (by omega), ctz_twos x hxb hx0]
      have HF := Lib.hid hfin
      have hlb := (Go.Lib.lowest_bit 32 x hx0 hxb).2
      have hkb : ds.length ≤ 4294967296 := hm
      have hw1 : 0 ≤ 32 * (k : Int) := by omega
      clear hfin
      go_wp2_with (go_at_call 164; refine (tz32_any x _ hxb hx0 ht).mono ?_; rintro e w' ⟨rfl, rfl⟩)
      go_ret
      exact ⟨ret_int (by rw [HF.out]; simp), rfl⟩
end Go.Proofs.YtacbjbnocepnaaaGreatDoor
namespace Go.Proofs.YtacbjbnocepnaaaGreatDoor
open Go.RowKit Fm
def LefRel (g N sk p : Nat) (ds : List Nat) (w0 : World) (k carry : Nat) (w' : World) : Prop :=
  ∃ zs, Row .u32 191 w' g zs ∧ zs.length = N ∧ Ok 4294967296 zs ∧ carry < 2 ^ p ∧ val 4294967296 zs + 4294967296 ^ (k + sk) * carry = val 4294967296 (ds.take k) * 2 ^ p * 4294967296 ^ sk ∧ (∀ q, k + sk ≤ q → q < N → zs[q]? = some 0) ∧ w0.grownBy w' (some g)
theorem LefRel.step {g N sk p k carry x : Nat} {w0 w' : World} {zs ds : List Nat} (hrow : Row .u32 191 w' g zs) (hl : zs.length = N) (hok : Ok 4294967296 zs) (hv : val 4294967296 zs + 4294967296 ^ (k + sk) * carry = val 4294967296 (ds.take k) * 2 ^ p * 4294967296 ^ sk) (hz : ∀ q, k + sk ≤ q → q < N → zs[q]? = some 0) (hg : w0.grownBy w' (some g))
    (ho : k + sk < N) (hxb : x < 4294967296) (hc : carry < 2 ^ p) (htk : val 4294967296 (ds.take (k + 1)) = val 4294967296 (ds.take k) + 4294967296 ^ k * x) :
    LefRel g N sk p ds w0 (k + 1) ((carry + x * 2 ^ p) / 4294967296) (w'.setCell ⟨g, k + sk, none⟩ (.int .u32 (((carry + x * 2 ^ p) % 4294967296 : Nat) : Int))) := by
  have hlt : k + sk < zs.length := by omega
  have h0 : zs[k + sk] = 0 := by
    have := hz (k + sk) (Nat.le_refl _) ho
    rw [List.getElem?_eq_getElem hlt] at this
    exact Option.some.inj this
  have hP : carry + x * 2 ^ p < 4294967296 * 2 ^ p := by
    have h1 : x * 2 ^ p + 2 ^ p ≤ 4294967296 * 2 ^ p := by
      have := Nat.mul_le_mul_right (2 ^ p) (show x + 1 ≤ 4294967296 from hxb)
      rw [Nat.add_mul, Nat.one_mul] at this; exact this
    omega
  refine ⟨_, hrow.set _ _, by simp [hl], hok.set _ (Nat.mod_lt _ (by omega)), Nat.div_lt_of_lt_mul hP, ?_, fun q h1 h2 => ?_, grown_set hg _ _⟩
  · have h1 := val_set 4294967296 zs (k + sk) ((carry + x * 2 ^ p) % 4294967296) hlt
    rw [h0] at h1
    have h2 := Nat.mod_add_div (carry + x * 2 ^ p) 4294967296
    rw [htk, show k + 1 + sk = (k + sk) + 1 by omega, Nat.pow_succ]
    rw [Nat.pow_add] at h1 hv ⊢
    generalize val 4294967296 (zs.set (k + sk) ((carry + x * 2 ^ p) % 4294967296)) = V' at *
    generalize val 4294967296 zs = V at *
    generalize (carry + x * 2 ^ p) % 4294967296 = r at *
    generalize (carry + x * 2 ^ p) / 4294967296 = q at *
    generalize val 4294967296 (ds.take k) = D at *
    generalize 4294967296 ^ sk = S at *
    generalize 4294967296 ^ k = K at *
    generalize 2 ^ p = P at *
    rw [Nat.mul_zero, Nat.add_zero] at h1
    grind
  · rw [List.getElem?_set_ne (by omega)]; exact hz q (by omega) h2
set_option maxHeartbeats 1000000 in
set_option maxRecDepth 100000 in
theorem left_dv (v1 : Value) (m s : Nat) (w : World) (h1 : Dv w v1 m) (hm : (digs 4294967296 m).length ≤ 1073741824) (hs : s ≤ 4294967296) :
    Calls Tryz.prog 152 #[v1, .int .i64 s] w fun e w' => ∃ v, e = .returned v ∧ Dv w' v (m * 2 ^ s) ∧ Up w w' := by
  obtain ⟨A, c, rfl, hc, hcm, hr⟩ := h1
  have hok := digs_ok (B := 4294967296) (by omega) m
  have hv := val_digs (B := 4294967296) (by omega) m
  generalize digs 4294967296 m = ds at *
  have HV := Lib.hid hv
  clear hv
  obtain ⟨sk, p, hp, rfl⟩ : ∃ sk p, p < 32 ∧ s = 32 * sk + p := ⟨s / 32, s % 32, Nat.mod_lt _ (by omega), by omega⟩
  have hsk : sk ≤ 134217728 := by omega
  have hq : (((32 * sk + p : Nat) : Int)) / 32 = (sk : Int) := by omega
  have hmm : (((32 * sk + p : Nat) : Int)) % 32 = (p : Int) := by omega
  generalize hS : ((32 * sk + p : Nat) : Int) = S at *
  have hS0 : 0 ≤ S := by omega
  have hS1 : S ≤ 4294967296 := by omega
  clear hS
  have hmk : ∀ W, (Instr.makeSlice 106 (.int .i64 ((ds.length : Int) + sk + 1)) (.int .i64 ((ds.length : Int) + sk + 1))).run Tryz.prog W = .ok (.slice (some ⟨W.heap.size, 0, none⟩) (ds.length + sk + 1) (ds.length + sk + 1)) (W.alloc (.cells (rowOf .u32 (zeroL (ds.length + sk + 1))) 191)) :=
    fun W => by have := mk32 (ds.length + sk + 1) (by omega) W; simpa using this
  have hrow0 := Row.new (k := .u32) (t := 191) w (zeroL (ds.length + sk + 1))
  have hrA := hr.up (Up.alloc w (.cells (rowOf .u32 (zeroL (ds.length + sk + 1))) 191))
  have haw : ds ≠ [] → Away A w.heap.size := fun h => Away.of_lt hr h (Nat.le_refl _)
  have hup0 := Up.alloc w (.cells (rowOf .u32 (zeroL (ds.length + sk + 1))) 191)
  have H0 : LefRel w.heap.size (ds.length + sk + 1) sk p ds (w.alloc (.cells (rowOf .u32 (zeroL (ds.length + sk + 1))) 191)) 0 0 (w.alloc (.cells (rowOf .u32 (zeroL (ds.length + sk + 1))) 191)) :=
    ⟨_, hrow0, zeroL_length _, zeroL_ok (by omega) _, Nat.two_pow_pos p, by rw [zeroL_val, Nat.mul_zero, List.take_zero, val, Nat.zero_mul, Nat.zero_mul], fun q _ hq => by rw [List.getElem?_eq_getElem (by rw [zeroL_length]; exact hq), zeroL_get], World.grownBy.refl _ _⟩
  clear hrow0
  go_enter Tryz.func152, Tryz.ntmps152
  go_wp2
  generalize hWA : w.alloc (.cells (rowOf .u32 (zeroL (ds.length + sk + 1))) 191) = wA at *
  clear hWA
  go_loopw [8, 24] (fun cv iv wr => ∃ k cy : Nat, iv = .int .i64 k ∧ cv = .int .u64 cy ∧ k ≤ ds.length ∧ LefRel w.heap.size (ds.length + sk + 1) sk p ds wA k cy wr) (fun _ iv _ => ds.length - (intOf iv).toNat)
  case atStart => exact ⟨0, 0, rfl, rfl, by omega, H0⟩
  case round =>
    obtain ⟨k, cy, rfl, rfl, hk, hR⟩ := hrel
    have hR0 := hR
    obtain ⟨zs, hrow, hl, hokz, hcy, hv, hz, hg⟩ := hR
    have HL := Lib.hid hl
    have HVV := Lib.hid hv
    have HZ := Lib.hid hz
    clear hl hv hz
    have hpb : (2 : Nat) ^ p ≤ 2147483648 := by
      have := Nat.pow_le_pow_right (n := 2) (by omega) (show p ≤ 31 by omega)
      exact this
    rcases Nat.lt_or_ge k ds.length with hlt | hge
    · obtain ⟨b, off, rfl, hb, hcell⟩ := (hrA.grown hg (haw (by intro e; subst e; simp at hlt))).at_ hlt
      have hxb := hok.get hlt
      have htk := val_take_succ 4294967296 hlt
      generalize ds[k] = x at *
      have HTK := Lib.hid htk
      clear htk
      have hsz : k + sk < zs.length := by rw [HL.out]; omega
      have hcz := hrow.cell hsz
      have hfr := hrow.frozen (k + sk)
      generalize hzz : zs[k + sk] = z at *
      clear hzz
      have hxp : x * 2 ^ p ≤ 4294967295 * 2147483648 := Nat.mul_le_mul (by omega) hpb
      have hor : bits .or .u64 ((x : Int) * 2 ^ p) (cy : Int) = ((cy + x * 2 ^ p : Nat) : Int) := by
        have e : ((x : Int) * 2 ^ p) = ((x * 2 ^ p : Nat) : Int) := by rw [Int.natCast_mul, Int.natCast_pow]; rfl
        rw [e, u64_or_nat _ _ (by omega) (by omega), Nat.or_comm, or_shift cy x p hcy]
      have hx0 : 0 ≤ (x : Int) * 2 ^ p := Int.mul_nonneg (by omega) (Int.le_of_lt (Int.pow_pos (by omega)))
      have hx1 : (x : Int) * 2 ^ p ≤ 9223372036854775807 := by
        have e : ((x : Int) * 2 ^ p) = ((x * 2 ^ p : Nat) : Int) := by rw [Int.natCast_mul, Int.natCast_pow]; rfl
        rw [e]; omega
      go_wp2
      refine ⟨⟨k + 1, (cy + x * 2 ^ p) / 4294967296, by go_num, ?_, by omega, ?_⟩, by simp [intOf]; omega⟩
      · rw [Int.natCast_ediv, Int.natCast_add, Int.natCast_mul, Int.natCast_pow]; rfl
      · have e1 : (((cy + x * 2 ^ p) % 4294967296 : Nat) : Int) = ((cy : Int) + x * 2 ^ p) % 4294967296 := by
          rw [Int.natCast_emod, Int.natCast_add, Int.natCast_mul, Int.natCast_pow]; rfl
        rw [← e1]
        exact LefRel.step hrow HL.out hokz HVV.out HZ.out hg (by omega) hxb hcy HTK.out
    · obtain rfl : k = ds.length := by omega
      have hsz : ds.length + sk < zs.length := by rw [HL.out]; omega
      have hcz := hrow.cell hsz
      have hfr := hrow.frozen (ds.length + sk)
      have hz0 : zs[ds.length + sk] = 0 := by
        have := HZ.out (ds.length + sk) (Nat.le_refl _) (by omega)
        rw [List.getElem?_eq_getElem hsz] at this
        exact Option.some.inj this
      have hcyb : cy < 4294967296 := by omega
      have hset := hrow.set (ds.length + sk) cy
      have hokS := hokz.set (ds.length + sk) hcyb
      have hlenS : (zs.set (ds.length + sk) cy).length = ds.length + sk + 1 := by rw [List.length_set, HL.out]
      have hvS : val 4294967296 (zs.set (ds.length + sk) cy) = m * 2 ^ (32 * sk + p) := by
        have h1 := val_set 4294967296 zs (ds.length + sk) cy hsz
        rw [hz0, Nat.mul_zero, Nat.add_zero, HVV.out, List.take_length, HV.out] at h1
        rw [h1, Nat.mul_assoc, Nat.pow_add, Nat.pow_mul, pow32, Nat.mul_comm (2 ^ p)]
      have HSET := Lib.hid hset
      have HLS := Lib.hid hlenS
      have HVS := Lib.hid hvS
      clear hset hlenS hvS hz0
      generalize zs.set (ds.length + sk) cy = ys at *
      go_wp2_with (go_at_call 153; refine (trim_row w.heap.size (ds.length + sk + 1) (ds.length + sk + 1) ys _ HSET.out hokS HLS.out (Nat.le_refl _) (by unfold maxLen; omega)).mono ?_; rintro e w4 ⟨⟨rfl, hdv⟩, rfl⟩; rw [HVS.out] at hdv ⊢)
      go_ret
      exact ⟨_, rfl, hdv, hup0.grown (grown_set hg _ _) (Nat.le_refl _)⟩
end Go.Proofs.YtacbjbnocepnaaaGreatDoor
namespace Go.Proofs.YtacbjbnocepnaaaGreatDoor
open Go.RowKit Fm
theorem u64_u32 {q : Nat} (h : q < 4294967296) : IntKind.u64.wrap (q : Int) % 4294967296 = (q : Int) := by
  rw [IntKind.wrap_u64]; omega
theorem div32_any (hi lo y : Nat) (w : World) (hl : lo < 4294967296) (hy : y < 4294967296) (h : hi < y) :
    Calls Tryz.prog 167 #[.int .u32 hi, .int .u32 lo, .int .u32 y] w fun e w' =>
      e = .returned (.tuple #[.int .u32 ((hi * 4294967296 + lo) / y : Nat), .int .u32 ((hi * 4294967296 + lo) % y : Nat)]) ∧ ∃ n, w' = w.drewN n := by
  have hy0 : ((y : Int) != 0) = true := by simp; omega
  have hle : decide ((y : Int) ≤ hi) = false := by simp; omega
  have hor : bits .or .u64 ((hi : Int) * 4294967296) (lo : Int) = ((hi * 4294967296 + lo : Nat) : Int) := by
    have e : ((hi : Int) * 4294967296) = ((hi * 4294967296 : Nat) : Int) := by omega
    rw [e, u64_or_nat _ _ (by omega) (by omega), Nat.or_comm, or_shift lo hi 32 hl, Nat.add_comm]
  have hn : hi * 4294967296 + lo < y * 4294967296 := by
    have := Nat.mul_le_mul_right 4294967296 (show hi + 1 ≤ y from h)
    omega
  have hq : (hi * 4294967296 + lo) / y < 4294967296 := Nat.div_lt_of_lt_mul hn
  have hr : (hi * 4294967296 + lo) % y < 4294967296 := Nat.lt_of_lt_of_le (Nat.mod_lt _ (by omega)) (by omega)
  have hnb : hi * 4294967296 + lo < 18446744073709551616 := by omega
  generalize hN : hi * 4294967296 + lo = N at *
  clear hN hn
  go_enter Tryz.func167, Tryz.ntmps167
  go_wp2
  go_quiet (fail)
  go_wp2
  go_ret2
  exact ⟨ret_pair (by rw [show (N : Int) / y = ((N / y : Nat) : Int) from (Int.natCast_ediv N y).symm]; exact u64_u32 hq) (Int.natCast_emod N y).symm, nq, rfl⟩
theorem div32_hid (hi lo y : Nat) (w : World) (hl : lo < 4294967296) (hy : y < 4294967296) (h : hi < y) :
    Calls Tryz.prog 167 #[.int .u32 hi, .int .u32 lo, .int .u32 y] w fun e w' =>
      ∃ q r : Nat, e = .returned (.tuple #[.int .u32 q, .int .u32 r]) ∧ Hid (q = (hi * 4294967296 + lo) / y) ∧ Hid (r = (hi * 4294967296 + lo) % y) ∧ ∃ n, w' = w.drewN n :=
  (div32_any hi lo y w hl hy h).mono fun _ _ ⟨he, hw⟩ => ⟨_, _, he, rfl, rfl, hw⟩
def QrdRel (g : Nat) (ds : List Nat) (y : Nat) (w0 : World) (k rest : Nat) (w' : World) : Prop :=
  ∃ zs, Row .u32 191 w' g zs ∧ zs.length = ds.length ∧ Ok 4294967296 zs ∧ rest < y ∧ val 4294967296 (ds.drop k) = y * val 4294967296 (zs.drop k) + rest ∧ w0.grownBy w' (some g)
theorem QrdRel.step {g y k rest x : Nat} {ds zs : List Nat} {w0 w' : World} (hrow : Row .u32 191 w' g zs) (hl : zs.length = ds.length) (hok : Ok 4294967296 zs) (hr : rest < y) (hy : y < 4294967296)
    (hv : val 4294967296 (ds.drop (k + 1)) = y * val 4294967296 (zs.drop (k + 1)) + rest) (hg : w0.grownBy w' (some g)) (hk : k < ds.length) (hx : x = ds[k]) (hxb : x < 4294967296) :
    QrdRel g ds y w0 k ((rest * 4294967296 + x) % y) (w'.setCell ⟨g, k, none⟩ (.int .u32 (((rest * 4294967296 + x) / y : Nat) : Int))) := by
  have hn : rest * 4294967296 + x < y * 4294967296 := by
    have := Nat.mul_le_mul_right 4294967296 (show rest + 1 ≤ y from hr)
    omega
  refine ⟨_, hrow.set _ _, by simp [hl], hok.set _ (Nat.div_lt_of_lt_mul hn), Nat.mod_lt _ (by omega), ?_, grown_set hg _ _⟩
  have e1 : (zs.set k ((rest * 4294967296 + x) / y)).drop k = ((rest * 4294967296 + x) / y) :: zs.drop (k + 1) := by
    rw [List.drop_eq_getElem_cons (by simp; omega), List.getElem_set_self, List.drop_set_of_lt (by omega)]
  rw [e1, List.drop_eq_getElem_cons hk, ← hx]
  simp only [val]
  rw [hv]
  have := Nat.mod_add_div (rest * 4294967296 + x) y
  generalize (rest * 4294967296 + x) / y = q at *
  generalize (rest * 4294967296 + x) % y = r at *
  generalize val 4294967296 (zs.drop (k + 1)) = Z at *
  grind
set_option maxRecDepth 100000 in
theorem quoRemDigit_any (v1 : Value) (m y : Nat) (w : World) (h1 : Dv w v1 m) (hm : (digs 4294967296 m).length ≤ 2147483648) (hy : y < 4294967296) (h0 : 0 < y) :
    Calls Tryz.prog 160 #[v1, .int .u32 y] w fun e w' => ∃ v2 v3, e = .returned (.tuple #[v2, v3]) ∧ Dv w' v2 (m / y) ∧ Dv w' v3 (m % y) ∧ Up w w' := by
  obtain ⟨A, c, rfl, hc, hcm, hr⟩ := h1
  have hok := digs_ok (B := 4294967296) (by omega) m
  have hv := val_digs (B := 4294967296) (by omega) m
  generalize digs 4294967296 m = ds at *
  have HV := Lib.hid hv
  clear hv
  have hmk : ∀ W, (Instr.makeSlice 106 (.int .i64 (ds.length : Int)) (.int .i64 (ds.length : Int))).run Tryz.prog W = .ok (.slice (some ⟨W.heap.size, 0, none⟩) ds.length ds.length) (W.alloc (.cells (rowOf .u32 (zeroL ds.length)) 191)) :=
    fun W => mk32 ds.length (by omega) W
  have hrow0 := Row.new (k := .u32) (t := 191) w (zeroL ds.length)
  have hrA := hr.up (Up.alloc w (.cells (rowOf .u32 (zeroL ds.length)) 191))
  have haw : ds ≠ [] → Away A w.heap.size := fun h => Away.of_lt hr h (Nat.le_refl _)
  have hup0 := Up.alloc w (.cells (rowOf .u32 (zeroL ds.length)) 191)
  have H0 : QrdRel w.heap.size ds y (w.alloc (.cells (rowOf .u32 (zeroL ds.length)) 191)) ds.length 0 (w.alloc (.cells (rowOf .u32 (zeroL ds.length)) 191)) :=
    ⟨_, hrow0, zeroL_length _, zeroL_ok (by omega) _, h0, by rw [List.drop_eq_nil_of_le (Nat.le_refl _), List.drop_eq_nil_of_le (by rw [zeroL_length]; exact Nat.le_refl _)]; rfl, World.grownBy.refl _ _⟩
  clear hrow0
  go_enter Tryz.func160, Tryz.ntmps160
  go_wp2
  generalize hWA : w.alloc (.cells (rowOf .u32 (zeroL ds.length)) 191) = wA at *
  clear hWA
  go_loopw [7, 8] (fun rv iv wr => ∃ k rest : Nat, iv = .int .i64 ((k : Int) - 1) ∧ rv = .int .u32 rest ∧ k ≤ ds.length ∧ QrdRel w.heap.size ds y wA k rest wr) (fun _ iv _ => (intOf iv + 1).toNat)
  case atStart => exact ⟨ds.length, 0, rfl, rfl, Nat.le_refl _, H0⟩
  case round =>
    obtain ⟨k, rest, rfl, rfl, hk, hR⟩ := hrel
    have hR0 := hR
    obtain ⟨zs, hrow, hl, hokz, hrest, hv, hg⟩ := hR
    have HL := Lib.hid hl
    have HVV := Lib.hid hv
    clear hl hv
    by_cases hk0 : k = 0
    · subst hk0
      have hv2 := HVV.out
      rw [List.drop_zero, List.drop_zero, HV.out] at hv2
      have hdm : val 4294967296 zs = m / y ∧ rest = m % y := by
        have e1 : m / y = val 4294967296 zs := by
          rw [hv2, Nat.mul_add_div h0, Nat.div_eq_of_lt hrest, Nat.add_zero]
        have e2 : m % y = rest := by
          rw [hv2, Nat.mul_add_mod, Nat.mod_eq_of_lt hrest]
        exact ⟨e1.symm, e2.symm⟩
      have HZ := Lib.hid hdm.1
      have HRR := Lib.hid hdm.2
      have hup := hup0.grown hg (Nat.le_refl _)
      have hrb : rest < 18446744073709551616 := by omega
      clear hv2 hdm
      go_wp2_with (first
        | (go_at_call 153; refine (trim_row w.heap.size ds.length ds.length zs wr hrow hokz HL.out (Nat.le_refl _) (by unfold maxLen; omega)).mono ?_; rintro e w4 ⟨⟨rfl, hdv⟩, rfl⟩; rw [HZ.out] at hdv ⊢)
        | (go_at_call 138; refine (natural_any rest _ hrb).mono ?_; rintro e w5 ⟨v5, rfl, hdv5, hup5⟩))
      go_ret2
      rw [HRR.out] at hdv5
      exact ⟨_, _, rfl, hdv.up hup5, hdv5, hup.trans hup5⟩
    · obtain ⟨j, rfl⟩ : ∃ j, k = j + 1 := ⟨k - 1, by omega⟩
      obtain ⟨b, off, rfl, hb, hcell⟩ := (hrA.grown hg (haw (by intro e; subst e; simp at hk))).at_ (i := j) (by omega)
      have hxb := hok.get (k := j) (by omega)
      generalize hxx : ds[j] = x at *
      have HX := Lib.hid hxx
      clear hxx
      have hj : j < zs.length := by rw [HL.out]; omega
      have hcz := hrow.cell hj
      have hfr := hrow.frozen j
      generalize zs[j] = z at *
      rw [show ((j + 1 : Nat) : Int) - 1 = (j : Int) by omega]
      go_wp2_with (go_at_call 167; refine (div32_hid rest x y _ hxb hy hrest).mono ?_; rintro e w' ⟨q1, r1, rfl, hq1, hr1, nq, rfl⟩)
      go_roundw
      case rel =>
        refine ⟨j, _, rfl, rfl, by omega, ?_⟩
        rw [hq1.out, hr1.out]
        exact QrdRel.step (hrow.drewN nq) HL.out hokz hrest hy HVV.out (grown_trans hg (grown_up (Up.drewN wr nq) _)) (by omega) HX.out.symm hxb
      case measure => simp [intOf]
end Go.Proofs.YtacbjbnocepnaaaGreatDoor
namespace Go.Proofs.YtacbjbnocepnaaaGreatDoor
open Go.RowKit Fm
theorem or_u64_left (a b : Nat) (ha : a < 4294967296) (hb : b < 4294967296) : bits .or .u64 ((a : Int) * 4294967296) (b : Int) = ((a * 4294967296 + b : Nat) : Int) := by
  have e : ((a : Int) * 4294967296) = ((a * 4294967296 : Nat) : Int) := by omega
  rw [e, u64_or_nat _ _ (by omega) (by omega), Nat.or_comm, or_shift b a 32 hb, Nat.add_comm]
set_option maxHeartbeats 1000000 in
set_option maxRecDepth 100000 in
theorem estimate_any (g off c k : Nat) (A : Option Addr) (c2 v1 v2 u0 u1 u2 top : Nat) (hT : top = u0 * 4294967296 + u1) (w : World) (b2 off2 : Nat) (hA : A = some ⟨b2, off2, none⟩)
    (hk : k ≤ 4294967296)
    (hu0 : w.cell? ⟨g, off + (k + 2), none⟩ = some (.int .u32 u0)) (hu1 : w.cell? ⟨g, off + (k + 1), none⟩ = some (.int .u32 u1)) (hu2 : w.cell? ⟨g, off + k, none⟩ = some (.int .u32 u2))
    (hv1 : w.cell? ⟨b2, off2 + (k + 1), none⟩ = some (.int .u32 v1)) (hv2 : w.cell? ⟨b2, off2 + k, none⟩ = some (.int .u32 v2))
    (h0 : u0 < 4294967296) (h1 : u1 < 4294967296) (h2 : u2 < 4294967296) (h3 : v1 < 4294967296) (h4 : v2 < 4294967296) (hn : 2147483648 ≤ v1) (hle : u0 ≤ v1) :
    Calls Tryz.prog 169 #[.slice (some ⟨g, off, none⟩) (k + 3) c, .slice A (k + 2) c2] w fun e w' =>
      ∃ f : Nat, e = .returned (.int .u64 f) ∧ EstOk 4294967296 (top * 4294967296 + u2) (v1 * 4294967296 + v2) f ∧ ∃ n, w' = w.drewN n := by
  subst hA
  have hor := or_u64_left u0 u1 h0 h1
  rw [← hT] at hor
  have ht : top < (v1 + 1) * 4294967296 := by omega
  have htb : top < 18446744073709551616 := by omega
  have H0 := EstRel.start (B := 4294967296) (v2 := v2) (d := u2) (by omega) h3 h2 ht
  have HT := Lib.hid ht
  clear hT ht
  have hq : (top : Int) / v1 = ((top / v1 : Nat) : Int) := (Int.natCast_ediv _ _).symm
  have hm : (top : Int) % v1 = ((top % v1 : Nat) : Int) := (Int.natCast_emod _ _).symm
  have hfb : top / v1 ≤ 4294967297 := H0.2.2.1
  have hrb : top % v1 < 4294967296 := H0.2.1
  generalize top / v1 = f0 at *
  generalize top % v1 = r0 at *
  go_enter Tryz.func169, Tryz.ntmps169
  go_wp2
  go_quiet (fail)
  go_wp2
  go_quiet (fail)
  go_wp2
  have HQ := Lib.hid hq
  have HM := Lib.hid hm
  clear hq hm hor
  go_loopw [7, 8] (fun fv rv wr => ∃ f r : Nat, fv = .int .u64 f ∧ rv = .int .u64 r ∧ EstRel 4294967296 top v1 v2 u2 f r ∧ ∃ n, wr = w.drewN n) (fun fv _ _ => (intOf fv).toNat)
  case atStart => exact ⟨f0, r0, rfl, by rw [HM.out], H0, by simp only [World.drewN_drewN]; exact ⟨_, rfl⟩⟩
  case round =>
    obtain ⟨f, r, rfl, rfl, hE, n, rfl⟩ := hrel
    have hfb2 : f ≤ 4294967297 := hE.2.2.1
    have hrb2 : r < 4294967296 := hE.2.1
    rcases Nat.lt_or_ge f 4294967296 with hlt | hge
    · have hb : ((f : Int) / 4294967296 != 0) = false := by simp; omega
      have hor := or_u64_left r u2 hrb2 h2
      have hpb := pow_bound (B := 4294967296) hlt h4 (show 0 < 4294967296 by omega) (show 0 < 4294967296 by omega)
      have hp0 : 0 ≤ (f : Int) * v2 := Int.mul_nonneg (by omega) (by omega)
      have hp1 : (f : Int) * v2 ≤ 18446744073709551615 := by
        rw [← Int.natCast_mul]; omega
      obtain ⟨t, ht⟩ : ∃ t, t = r * 4294967296 + u2 := ⟨_, rfl⟩
      rw [← ht] at hor
      rcases Nat.lt_or_ge t (f * v2) with hc1 | hc1
      · have hd : decide ((t : Int) < (f : Int) * v2) = true := by
          rw [← Int.natCast_mul]; simp only [decide_eq_true_eq]; omega
        have hE2 := hE.small (by rw [← ht]; exact hc1)
        have hf0 := hE2.2.1
        have HE2 := Lib.hid hE2
        clear hE2 hpb hc1 ht
        go_wp2
        go_quiet (fail)
        rcases Nat.lt_or_ge (r + v1) 4294967296 with hrv | hrv
        · have hnb : (((r : Int) + v1) / 4294967296 != 0) = false := by simp; omega
          go_wp2
          exact ⟨⟨f - 1, r + v1, by rw [Int.natCast_sub hf0]; rfl, by simp, HE2.out.1 hrv, ⟨_, rfl⟩⟩, by simp [intOf]; omega⟩
        · have hnb : (((r : Int) + v1) / 4294967296 != 0) = true := by simp; omega
          have hfin := est_leave (B := 4294967296) (v2 := v2) (d := u2) (hE.next_eq hf0) hrv (by omega) h4 HE2.out.2.2
          have HF := Lib.hid hfin
          clear hfin
          go_wp2
          go_ret
          exact ⟨f - 1, ret_int (by rw [Int.natCast_sub hf0]; rfl), HF.out, ⟨_, rfl⟩⟩
      · have hd : decide ((t : Int) < (f : Int) * v2) = false := by
          rw [← Int.natCast_mul]; simp only [decide_eq_false_iff_not]; omega
        have hfin := hE.done hlt (by rw [← ht]; exact hc1)
        have HF := Lib.hid hfin
        clear hfin hpb hc1 ht
        go_wp2
        go_quiet (fail)
        go_wp2
        go_ret
        exact ⟨_, rfl, HF.out, by simp only [World.drewN_drewN]; exact ⟨_, rfl⟩⟩
    · have hb : ((f : Int) / 4294967296 != 0) = true := by simp; omega
      have hE2 := hE.big h3 (by omega) HT.out hge
      have hf0 : 1 ≤ f := by omega
      have HE2 := Lib.hid hE2
      clear hE2
      go_wp2
      go_quiet (fail)
      rcases Nat.lt_or_ge (r + v1) 4294967296 with hrv | hrv
      · have hnb : (((r : Int) + v1) / 4294967296 != 0) = false := by simp; omega
        go_wp2
        exact ⟨⟨f - 1, r + v1, by rw [Int.natCast_sub hf0]; rfl, by simp, HE2.out.1 hrv, ⟨_, rfl⟩⟩, by simp [intOf]; omega⟩
      · have hnb : (((r : Int) + v1) / 4294967296 != 0) = true := by simp; omega
        have hfin := est_leave (B := 4294967296) (v2 := v2) (d := u2) (hE.next_eq hf0) hrv (HE2.out.2.1 hrv) h4 (fun q hq hqq => by have := hE.2.2.2 q hq hqq; omega)
        have HF := Lib.hid hfin
        clear hfin
        go_wp2
        go_ret
        exact ⟨f - 1, ret_int (by rw [Int.natCast_sub hf0]; rfl), HF.out, ⟨_, rfl⟩⟩
end Go.Proofs.YtacbjbnocepnaaaGreatDoor
