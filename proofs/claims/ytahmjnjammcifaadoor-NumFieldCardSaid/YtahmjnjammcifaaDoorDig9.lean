import Derived.Test.YtahmjnjammcifaaDoorDig8
namespace Go.Proofs.YtahmjnjammcifaaDoor
open Go.RowKit Fm

/-- The state of the shift to the left behind k digits. -/
def LefRel (g N sk p : Nat) (ds : List Nat) (w0 : World) (k carry : Nat) (w' : World) : Prop :=
  ∃ zs, Row .u32 102 w' g zs ∧ zs.length = N ∧ Ok 4294967296 zs ∧ carry < 2 ^ p ∧ val 4294967296 zs + 4294967296 ^ (k + sk) * carry = val 4294967296 (ds.take k) * 2 ^ p * 4294967296 ^ sk ∧ (∀ q, k + sk ≤ q → q < N → zs[q]? = some 0) ∧ w0.grownBy w' (some g)

theorem LefRel.step {g N sk p k carry x : Nat} {w0 w' : World} {zs ds : List Nat} (hrow : Row .u32 102 w' g zs) (hl : zs.length = N) (hok : Ok 4294967296 zs) (hv : val 4294967296 zs + 4294967296 ^ (k + sk) * carry = val 4294967296 (ds.take k) * 2 ^ p * 4294967296 ^ sk) (hz : ∀ q, k + sk ≤ q → q < N → zs[q]? = some 0) (hg : w0.grownBy w' (some g))
    (ho : k + sk < N) (hxb : x < 4294967296) (hc : carry < 2 ^ p) (htk : val 4294967296 (ds.take (k + 1)) = val 4294967296 (ds.take k) + 4294967296 ^ k * x) :
    LefRel g N sk p ds w0 (k + 1) ((carry + x * 2 ^ p) / 4294967296) (w'.setCell ⟨g, k + sk, none⟩ (.int .u32 (((carry + x * 2 ^ p) % 4294967296 : Nat) : Int))) := by
  have hlt : k + sk < zs.length := by omega
  have h0 : zs[k + sk] = 0 := by
    have := hz (k + sk) (Nat.le_refl _) ho
    rw [List.getElem?_eq_getElem hlt] at this
    exact Option.some.inj this
  have hP : carry + x * 2 ^ p < 4294967296 * 2 ^ p := by
    have h1 : x * 2 ^ p + 2 ^ p ≤ 4294967296 * 2 ^ p := by
      have := Nat.mul_le_mul_right (2 ^ p) (show x + 1 ≤ 4294967296 from hxb)
      rw [Nat.add_mul, Nat.one_mul] at this; exact this
    omega
  refine ⟨_, hrow.set _ _, by simp [hl], hok.set _ (Nat.mod_lt _ (by omega)), Nat.div_lt_of_lt_mul hP, ?_, fun q h1 h2 => ?_, grown_set hg _ _⟩
  · have h1 := val_set 4294967296 zs (k + sk) ((carry + x * 2 ^ p) % 4294967296) hlt
    rw [h0] at h1
    have h2 := Nat.mod_add_div (carry + x * 2 ^ p) 4294967296
    rw [htk, show k + 1 + sk = (k + sk) + 1 by omega, Nat.pow_succ]
    rw [Nat.pow_add] at h1 hv ⊢
    generalize val 4294967296 (zs.set (k + sk) ((carry + x * 2 ^ p) % 4294967296)) = V' at *
    generalize val 4294967296 zs = V at *
    generalize (carry + x * 2 ^ p) % 4294967296 = r at *
    generalize (carry + x * 2 ^ p) / 4294967296 = q at *
    generalize val 4294967296 (ds.take k) = D at *
    generalize 4294967296 ^ sk = S at *
    generalize 4294967296 ^ k = K at *
    generalize 2 ^ p = P at *
    rw [Nat.mul_zero, Nat.add_zero] at h1
    grind
  · rw [List.getElem?_set_ne (by omega)]; exact hz q (by omega) h2

set_option maxHeartbeats 1000000 in
set_option maxRecDepth 100000 in
theorem left_dv (v1 : Value) (m s : Nat) (w : World) (h1 : Dv w v1 m) (hm : (digs 4294967296 m).length ≤ 1073741824) (hs : s ≤ 4294967296) :
    Calls Tryd.prog 105 #[v1, .int .i64 s] w fun e w' => ∃ v, e = .returned v ∧ Dv w' v (m * 2 ^ s) ∧ Up w w' := by
  obtain ⟨A, c, rfl, hc, hcm, hr⟩ := h1
  have hok := digs_ok (B := 4294967296) (by omega) m
  have hv := val_digs (B := 4294967296) (by omega) m
  generalize digs 4294967296 m = ds at *
  have HV := Lib.hid hv
  clear hv
  obtain ⟨sk, p, hp, rfl⟩ : ∃ sk p, p < 32 ∧ s = 32 * sk + p := ⟨s / 32, s % 32, Nat.mod_lt _ (by omega), by omega⟩
  have hsk : sk ≤ 134217728 := by omega
  have hq : (((32 * sk + p : Nat) : Int)) / 32 = (sk : Int) := by omega
  have hmm : (((32 * sk + p : Nat) : Int)) % 32 = (p : Int) := by omega
  generalize hS : ((32 * sk + p : Nat) : Int) = S at *
  have hS0 : 0 ≤ S := by omega
  have hS1 : S ≤ 4294967296 := by omega
  clear hS
  have hmk : ∀ W, (Instr.makeSlice 47 (.int .i64 ((ds.length : Int) + sk + 1)) (.int .i64 ((ds.length : Int) + sk + 1))).run Tryd.prog W = .ok (.slice (some ⟨W.heap.size, 0, none⟩) (ds.length + sk + 1) (ds.length + sk + 1)) (W.alloc (.cells (rowOf .u32 (zeroL (ds.length + sk + 1))) 102)) :=
    fun W => by have := mk32 (ds.length + sk + 1) (by omega) W; simpa using this
  have hrow0 := Row.new (k := .u32) (t := 102) w (zeroL (ds.length + sk + 1))
  have hrA := hr.up (Up.alloc w (.cells (rowOf .u32 (zeroL (ds.length + sk + 1))) 102))
  have haw : ds ≠ [] → Away A w.heap.size := fun h => Away.of_lt hr h (Nat.le_refl _)
  have hup0 := Up.alloc w (.cells (rowOf .u32 (zeroL (ds.length + sk + 1))) 102)
  have H0 : LefRel w.heap.size (ds.length + sk + 1) sk p ds (w.alloc (.cells (rowOf .u32 (zeroL (ds.length + sk + 1))) 102)) 0 0 (w.alloc (.cells (rowOf .u32 (zeroL (ds.length + sk + 1))) 102)) :=
    ⟨_, hrow0, zeroL_length _, zeroL_ok (by omega) _, Nat.two_pow_pos p, by rw [zeroL_val, Nat.mul_zero, List.take_zero, val, Nat.zero_mul, Nat.zero_mul], fun q _ hq => by rw [List.getElem?_eq_getElem (by rw [zeroL_length]; exact hq), zeroL_get], World.grownBy.refl _ _⟩
  clear hrow0
  go_enter Tryd.func105, Tryd.ntmps105
  go_wp2
  generalize hWA : w.alloc (.cells (rowOf .u32 (zeroL (ds.length + sk + 1))) 102) = wA at *
  clear hWA
  go_loopw [8, 24] (fun cv iv wr => ∃ k cy : Nat, iv = .int .i64 k ∧ cv = .int .u64 cy ∧ k ≤ ds.length ∧ LefRel w.heap.size (ds.length + sk + 1) sk p ds wA k cy wr) (fun _ iv _ => ds.length - (intOf iv).toNat)
  case atStart => exact ⟨0, 0, rfl, rfl, by omega, H0⟩
  case round =>
    obtain ⟨k, cy, rfl, rfl, hk, hR⟩ := hrel
    have hR0 := hR
    obtain ⟨zs, hrow, hl, hokz, hcy, hv, hz, hg⟩ := hR
    have HL := Lib.hid hl
    have HVV := Lib.hid hv
    have HZ := Lib.hid hz
    clear hl hv hz
    have hpb : (2 : Nat) ^ p ≤ 2147483648 := by
      have := Nat.pow_le_pow_right (n := 2) (by omega) (show p ≤ 31 by omega)
      exact this
    rcases Nat.lt_or_ge k ds.length with hlt | hge
    · obtain ⟨b, off, rfl, hb, hcell⟩ := (hrA.grown hg (haw (by intro e; subst e; simp at hlt))).at_ hlt
      have hxb := hok.get hlt
      have htk := val_take_succ 4294967296 hlt
      generalize ds[k] = x at *
      have HTK := Lib.hid htk
      clear htk
      have hsz : k + sk < zs.length := by rw [HL.out]; omega
      have hcz := hrow.cell hsz
      have hfr := hrow.frozen (k + sk)
      generalize hzz : zs[k + sk] = z at *
      clear hzz
      have hxp : x * 2 ^ p ≤ 4294967295 * 2147483648 := Nat.mul_le_mul (by omega) hpb
      have hor : bits .or .u64 ((x : Int) * 2 ^ p) (cy : Int) = ((cy + x * 2 ^ p : Nat) : Int) := by
        have e : ((x : Int) * 2 ^ p) = ((x * 2 ^ p : Nat) : Int) := by rw [Int.natCast_mul, Int.natCast_pow]; rfl
        rw [e, u64_or_nat _ _ (by omega) (by omega), Nat.or_comm, or_shift cy x p hcy]
      have hx0 : 0 ≤ (x : Int) * 2 ^ p := Int.mul_nonneg (by omega) (Int.le_of_lt (Int.pow_pos (by omega)))
      have hx1 : (x : Int) * 2 ^ p ≤ 9223372036854775807 := by
        have e : ((x : Int) * 2 ^ p) = ((x * 2 ^ p : Nat) : Int) := by rw [Int.natCast_mul, Int.natCast_pow]; rfl
        rw [e]; omega
      go_wp2
      refine ⟨⟨k + 1, (cy + x * 2 ^ p) / 4294967296, by go_num, ?_, by omega, ?_⟩, by simp [intOf]; omega⟩
      · rw [Int.natCast_ediv, Int.natCast_add, Int.natCast_mul, Int.natCast_pow]; rfl
      · have e1 : (((cy + x * 2 ^ p) % 4294967296 : Nat) : Int) = ((cy : Int) + x * 2 ^ p) % 4294967296 := by
          rw [Int.natCast_emod, Int.natCast_add, Int.natCast_mul, Int.natCast_pow]; rfl
        rw [← e1]
        exact LefRel.step hrow HL.out hokz HVV.out HZ.out hg (by omega) hxb hcy HTK.out
    · obtain rfl : k = ds.length := by omega
      have hsz : ds.length + sk < zs.length := by rw [HL.out]; omega
      have hcz := hrow.cell hsz
      have hfr := hrow.frozen (ds.length + sk)
      have hz0 : zs[ds.length + sk] = 0 := by
        have := HZ.out (ds.length + sk) (Nat.le_refl _) (by omega)
        rw [List.getElem?_eq_getElem hsz] at this
        exact Option.some.inj this
      have hcyb : cy < 4294967296 := by omega
      have hset := hrow.set (ds.length + sk) cy
      have hokS := hokz.set (ds.length + sk) hcyb
      have hlenS : (zs.set (ds.length + sk) cy).length = ds.length + sk + 1 := by rw [List.length_set, HL.out]
      have hvS : val 4294967296 (zs.set (ds.length + sk) cy) = m * 2 ^ (32 * sk + p) := by
        have h1 := val_set 4294967296 zs (ds.length + sk) cy hsz
        rw [hz0, Nat.mul_zero, Nat.add_zero, HVV.out, List.take_length, HV.out] at h1
        rw [h1, Nat.mul_assoc, Nat.pow_add, Nat.pow_mul, pow32, Nat.mul_comm (2 ^ p)]
      have HSET := Lib.hid hset
      have HLS := Lib.hid hlenS
      have HVS := Lib.hid hvS
      clear hset hlenS hvS hz0
      generalize zs.set (ds.length + sk) cy = ys at *
      go_wp2_with (go_at_call 88; refine (trim_row w.heap.size (ds.length + sk + 1) (ds.length + sk + 1) ys _ HSET.out hokS HLS.out (Nat.le_refl _) (by unfold maxLen; omega)).mono ?_; rintro e w4 ⟨⟨rfl, hdv⟩, rfl⟩; rw [HVS.out] at hdv ⊢)
      go_ret
      exact ⟨_, rfl, hdv, hup0.grown (grown_set hg _ _) (Nat.le_refl _)⟩
end Go.Proofs.YtahmjnjammcifaaDoor
