import Derived.Test.YtahmjnjammcifaaDoorDig10
import Derived.Test.YtahmjnjammcifaaDoorMath2
namespace Go.Proofs.YtahmjnjammcifaaDoor
open Go.RowKit Fm

theorem or_u64_left (a b : Nat) (ha : a < 4294967296) (hb : b < 4294967296) : bits .or .u64 ((a : Int) * 4294967296) (b : Int) = ((a * 4294967296 + b : Nat) : Int) := by
  have e : ((a : Int) * 4294967296) = ((a * 4294967296 : Nat) : Int) := by omega
  rw [e, u64_or_nat _ _ (by omega) (by omega), Nat.or_comm, or_shift b a 32 hb, Nat.add_comm]

set_option maxHeartbeats 1000000 in
set_option maxRecDepth 100000 in
theorem estimate_any (g off c k : Nat) (A : Option Addr) (c2 v1 v2 u0 u1 u2 top : Nat) (hT : top = u0 * 4294967296 + u1) (w : World) (b2 off2 : Nat) (hA : A = some ⟨b2, off2, none⟩)
    (hk : k ≤ 4294967296)
    (hu0 : w.cell? ⟨g, off + (k + 2), none⟩ = some (.int .u32 u0)) (hu1 : w.cell? ⟨g, off + (k + 1), none⟩ = some (.int .u32 u1)) (hu2 : w.cell? ⟨g, off + k, none⟩ = some (.int .u32 u2))
    (hv1 : w.cell? ⟨b2, off2 + (k + 1), none⟩ = some (.int .u32 v1)) (hv2 : w.cell? ⟨b2, off2 + k, none⟩ = some (.int .u32 v2))
    (h0 : u0 < 4294967296) (h1 : u1 < 4294967296) (h2 : u2 < 4294967296) (h3 : v1 < 4294967296) (h4 : v2 < 4294967296) (hn : 2147483648 ≤ v1) (hle : u0 ≤ v1) :
    Calls Tryd.prog 120 #[.slice (some ⟨g, off, none⟩) (k + 3) c, .slice A (k + 2) c2] w fun e w' =>
      ∃ f : Nat, e = .returned (.int .u64 f) ∧ EstOk 4294967296 (top * 4294967296 + u2) (v1 * 4294967296 + v2) f ∧ ∃ n, w' = w.drewN n := by
  subst hA
  have hor := or_u64_left u0 u1 h0 h1
  rw [← hT] at hor
  have ht : top < (v1 + 1) * 4294967296 := by omega
  have htb : top < 18446744073709551616 := by omega
  have H0 := EstRel.start (B := 4294967296) (v2 := v2) (d := u2) (by omega) h3 h2 ht
  have HT := Lib.hid ht
  clear hT ht
  have hq : (top : Int) / v1 = ((top / v1 : Nat) : Int) := (Int.natCast_ediv _ _).symm
  have hm : (top : Int) % v1 = ((top % v1 : Nat) : Int) := (Int.natCast_emod _ _).symm
  have hfb : top / v1 ≤ 4294967297 := H0.2.2.1
  have hrb : top % v1 < 4294967296 := H0.2.1
  generalize top / v1 = f0 at *
  generalize top % v1 = r0 at *
  go_enter Tryd.func120, Tryd.ntmps120
  go_wp2
  go_quiet (fail)
  go_wp2
  go_quiet (fail)
  go_wp2
  have HQ := Lib.hid hq
  have HM := Lib.hid hm
  clear hq hm hor
  go_loopw [7, 8] (fun fv rv wr => ∃ f r : Nat, fv = .int .u64 f ∧ rv = .int .u64 r ∧ EstRel 4294967296 top v1 v2 u2 f r ∧ ∃ n, wr = w.drewN n) (fun fv _ _ => (intOf fv).toNat)
  case atStart => exact ⟨f0, r0, rfl, by rw [HM.out], H0, by simp only [World.drewN_drewN]; exact ⟨_, rfl⟩⟩
  case round =>
    obtain ⟨f, r, rfl, rfl, hE, n, rfl⟩ := hrel
    have hfb2 : f ≤ 4294967297 := hE.2.2.1
    have hrb2 : r < 4294967296 := hE.2.1
    rcases Nat.lt_or_ge f 4294967296 with hlt | hge
    · have hb : ((f : Int) / 4294967296 != 0) = false := by simp; omega
      have hor := or_u64_left r u2 hrb2 h2
      have hpb := pow_bound (B := 4294967296) hlt h4 (show 0 < 4294967296 by omega) (show 0 < 4294967296 by omega)
      have hp0 : 0 ≤ (f : Int) * v2 := Int.mul_nonneg (by omega) (by omega)
      have hp1 : (f : Int) * v2 ≤ 18446744073709551615 := by
        rw [← Int.natCast_mul]; omega
      obtain ⟨t, ht⟩ : ∃ t, t = r * 4294967296 + u2 := ⟨_, rfl⟩
      rw [← ht] at hor
      rcases Nat.lt_or_ge t (f * v2) with hc1 | hc1
      · have hd : decide ((t : Int) < (f : Int) * v2) = true := by
          rw [← Int.natCast_mul]; simp only [decide_eq_true_eq]; omega
        have hE2 := hE.small (by rw [← ht]; exact hc1)
        have hf0 := hE2.2.1
        have HE2 := Lib.hid hE2
        clear hE2 hpb hc1 ht
        go_wp2
        go_quiet (fail)
        rcases Nat.lt_or_ge (r + v1) 4294967296 with hrv | hrv
        · have hnb : (((r : Int) + v1) / 4294967296 != 0) = false := by simp; omega
          go_wp2
          exact ⟨⟨f - 1, r + v1, by rw [Int.natCast_sub hf0]; rfl, by simp, HE2.out.1 hrv, ⟨_, rfl⟩⟩, by simp [intOf]; omega⟩
        · have hnb : (((r : Int) + v1) / 4294967296 != 0) = true := by simp; omega
          have hfin := est_leave (B := 4294967296) (v2 := v2) (d := u2) (hE.next_eq hf0) hrv (by omega) h4 HE2.out.2.2
          have HF := Lib.hid hfin
          clear hfin
          go_wp2
          go_ret
          exact ⟨f - 1, ret_int (by rw [Int.natCast_sub hf0]; rfl), HF.out, ⟨_, rfl⟩⟩
      · have hd : decide ((t : Int) < (f : Int) * v2) = false := by
          rw [← Int.natCast_mul]; simp only [decide_eq_false_iff_not]; omega
        have hfin := hE.done hlt (by rw [← ht]; exact hc1)
        have HF := Lib.hid hfin
        clear hfin hpb hc1 ht
        go_wp2
        go_quiet (fail)
        go_wp2
        go_ret
        exact ⟨_, rfl, HF.out, by simp only [World.drewN_drewN]; exact ⟨_, rfl⟩⟩
    · have hb : ((f : Int) / 4294967296 != 0) = true := by simp; omega
      have hE2 := hE.big h3 (by omega) HT.out hge
      have hf0 : 1 ≤ f := by omega
      have HE2 := Lib.hid hE2
      clear hE2
      go_wp2
      go_quiet (fail)
      rcases Nat.lt_or_ge (r + v1) 4294967296 with hrv | hrv
      · have hnb : (((r : Int) + v1) / 4294967296 != 0) = false := by simp; omega
        go_wp2
        exact ⟨⟨f - 1, r + v1, by rw [Int.natCast_sub hf0]; rfl, by simp, HE2.out.1 hrv, ⟨_, rfl⟩⟩, by simp [intOf]; omega⟩
      · have hnb : (((r : Int) + v1) / 4294967296 != 0) = true := by simp; omega
        have hfin := est_leave (B := 4294967296) (v2 := v2) (d := u2) (hE.next_eq hf0) hrv (HE2.out.2.1 hrv) h4 (fun q hq hqq => by have := hE.2.2.2 q hq hqq; omega)
        have HF := Lib.hid hfin
        clear hfin
        go_wp2
        go_ret
        exact ⟨f - 1, ret_int (by rw [Int.natCast_sub hf0]; rfl), HF.out, ⟨_, rfl⟩⟩
end Go.Proofs.YtahmjnjammcifaaDoor
