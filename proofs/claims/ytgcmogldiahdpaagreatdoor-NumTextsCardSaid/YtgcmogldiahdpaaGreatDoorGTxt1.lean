/- Walks of a law. -/
import Derived.Test.YtgcmogldiahdpaaGreatDoorGQ
import Derived.Lib.ItoaNum
import Derived.Laws.BytesString
namespace Go.Proofs.YtgcmogldiahdpaaGreatDoor
open Go.RowKit Fm

theorem conv_digit (w : World) (n : Nat) : (convert 206 9 (.slice (some ⟨w.heap.size, 0, none⟩) 1 1)).run Tryz.prog (w.alloc (.cells #[.int .u8 (48 + (n : Int) % 10)] 5)) =
    .ok (.string ⟨#[UInt8.ofNat (48 + n % 10)]⟩) (w.alloc (.cells #[.int .u8 (48 + (n : Int) % 10)] 5)) := by
  have h := run_convert_bytes_back (P := Tryz.prog) (w.alloc (.cells #[.int .u8 (48 + (n : Int) % 10)] 5)) 206 9 5 ⟨w.heap.size, 0, none⟩ 1 [UInt8.ofNat (48 + n % 10)] Tryz.underlying206 Tryz.underlying5 Tryz.underlying9 (fun j hj => by
    have hj0 : j = 0 := by simpa using hj
    subst hj0
    have e : ((UInt8.ofNat (48 + n % 10)).toNat : Int) = 48 + (n : Int) % 10 := by
      rw [UInt8.toNat_ofNat']
      omega
    simp only [List.getElem_cons_zero, e]
    simp [Addr.add])
  simp at h ⊢
  exact h

theorem decDigits_length (u : Nat) : (Go.Lib.decDigits u).length ≤ u + 1 := by
  induction u using Nat.strongRecOn with
  | ind u ih =>
    rw [Go.Lib.decDigits]
    by_cases h : u < 10
    · rw [dif_pos h]; simp
    · rw [dif_neg h, List.length_append]
      have := ih (u / 10) (by omega)
      simp only [List.length_cons, List.length_nil]
      omega
theorem str_app (a b : List UInt8) : (ByteArray.mk a.toArray) ++ (ByteArray.mk b.toArray) = ByteArray.mk (a ++ b).toArray := by
  apply ByteArray.ext
  simp

set_option maxHeartbeats 1000000 in
set_option maxRecDepth 10000 in
theorem refDigits_nat (n : Nat) : ∀ (w : World), n ≤ 9223372036854775807 → Calls Tryz.prog 123 #[.int .i64 n] w fun e w' => e = .returned (.string ⟨(Go.Lib.decDigits n).toArray⟩) ∧ Up w w' := by
  induction n using Nat.strongRecOn with
  | ind n ih =>
    intro w hn
    have i0 : ¬ (n : Int) < 0 := by omega
    have i1 : decide ((n : Int) < 0) = false := decide_eq_false i0
    have HC := conv_digit w n
    obtain ⟨ch, hch⟩ : ∃ ch, ch = UInt8.ofNat (48 + n % 10) := ⟨_, rfl⟩
    rw [← hch] at HC
    by_cases h : n < 10
    · have i2 : (n : Int) < 10 := by omega
      have HE : Hid (Go.Lib.decDigits n = [ch]) := Lib.hid (by rw [Go.Lib.decDigits, dif_pos h, hch, Nat.mod_eq_of_lt h])
      clear hch ih
      go_enter Tryz.func123, Tryz.ntmps123
      go_wp2
      go_ret
      refine ⟨?_, Up.alloc _ _⟩
      rw [HE.out]
      rfl
    · have HREC := Lib.hid (fun W => ih (n / 10) (by omega) W (by omega))
      have i2 : ¬ (n : Int) < 10 := by omega
      have i3 : decide ((n : Int) < 10) = false := decide_eq_false i2
      have HE : Hid (Go.Lib.decDigits n = Go.Lib.decDigits (n / 10) ++ [ch]) := Lib.hid (by rw [Go.Lib.decDigits, dif_neg h, hch])
      have hlen : (Go.Lib.decDigits (n / 10)).length + 1 ≤ 9223372036854775807 := by have := decDigits_length (n / 10); omega
      have hdiv : (n : Int) / 10 = ((n / 10 : Nat) : Int) := by omega
      clear hch ih
      generalize Go.Lib.decDigits (n / 10) = ds at *
      generalize n / 10 = m at *
      go_enter Tryz.func123, Tryz.ntmps123
      go_wp2_with fail
      refine Calls.mono (HREC.out _) ?_
      rintro e w1 ⟨rfl, hu⟩
      have HU1 := Lib.hid hu
      clear hu
      go_wp2
      go_ret
      refine ⟨?_, by (repeat (first | exact Below.refl _ _ | exact Go.RowKit.Hid.out (by assumption) | refine Up.trans ?_ (Up.drew _) | refine Up.trans ?_ (Up.drewN _ _) | refine Up.trans ?_ (Up.alloc _ _) | refine Up.trans ?_ (Go.RowKit.Hid.out (by assumption))))⟩
      rw [HE.out, ← str_app]
      rfl
theorem itoa_length (n : Int) : (Go.Lib.itoa n).length ≤ n.natAbs + 2 := by
  unfold Go.Lib.itoa
  split
  · have := decDigits_length n.natAbs; simp only [List.length_cons]; omega
  · have := decDigits_length n.toNat; omega

set_option maxHeartbeats 1000000 in
set_option maxRecDepth 10000 in
theorem refDigits_any (n : Int) (w : World) (h1 : -1152921504606846976 ≤ n) (h2 : n ≤ 1152921504606846976) : Calls Tryz.prog 123 #[.int .i64 n] w fun e w' => e = .returned (.string ⟨(Go.Lib.itoa n).toArray⟩) ∧ Up w w' := by
  by_cases h : n < 0
  · have HREC := Lib.hid (fun W => refDigits_nat n.natAbs W (by omega))
    have HE : Hid (Go.Lib.itoa n = [45] ++ Go.Lib.decDigits n.natAbs) := Lib.hid (by unfold Go.Lib.itoa; rw [if_pos h]; rfl)
    have hlen : 1 + (Go.Lib.decDigits n.natAbs).length ≤ 9223372036854775807 := by have := decDigits_length n.natAbs; omega
    have hneg : -n = (n.natAbs : Int) := by omega
    generalize Go.Lib.decDigits n.natAbs = ds at *
    generalize n.natAbs = m at *
    go_enter Tryz.func123, Tryz.ntmps123
    go_wp2_with fail
    refine Calls.mono (HREC.out _) ?_
    rintro e w1 ⟨rfl, hu⟩
    have HU1 := Lib.hid hu
    clear hu
    go_wp2
    go_ret
    refine ⟨?_, by (repeat (first | exact Below.refl _ _ | exact Go.RowKit.Hid.out (by assumption) | refine Up.trans ?_ (Up.drew _) | refine Up.trans ?_ (Up.drewN _ _) | refine Up.trans ?_ (Up.alloc _ _) | refine Up.trans ?_ (Go.RowKit.Hid.out (by assumption))))⟩
    rw [HE.out, ← str_app]
    rfl
  · have := refDigits_nat n.toNat w (by omega)
    have e : ((n.toNat : Nat) : Int) = n := by omega
    unfold Go.Lib.itoa
    rw [if_neg h]
    rw [e] at this
    exact this
end Go.Proofs.YtgcmogldiahdpaaGreatDoor
