/- Contracts of lists of numbers: their validity, their equality; plain facts about sums of products. -/
import Derived.Test.YtgcmogldiahdpaaGreatDoorQGQ
import Derived.Test.YtgcmogldiahdpaaGreatDoorQGH
import Derived.Test.YtgcmogldiahdpaaGreatDoorQGR
namespace Go.Proofs.YtgcmogldiahdpaaGreatDoor
open Go.RowKit Fm

set_option maxHeartbeats 1000000 in
set_option maxRecDepth 10000 in
theorem refSame_any (A B : Option Addr) (c d : Nat) (xs : List (Int × Int)) (w : World) (hc : xs.length ≤ c) (hcm : c ≤ maxLen) (hr : RdN w A xs) (hs : RdN w B xs) :
    Calls Tryz.prog 36 #[.slice A xs.length c, .slice B xs.length d] w fun e w' => e = .returned (.bool true) ∧ Up w w' := by
  have hlen := len_le hc hcm
  clear hcm hc
  go_enter Tryz.func36, Tryz.ntmps36
  go_wp2
  go_loopw [13] (fun i wr => ∃ k : Nat, k ≤ xs.length ∧ i = .int .i64 k ∧ Up w wr) (fun i _ => xs.length - (intOf i).toNat)
  case atStart => exact ⟨0, by omega, rfl, Up.refl _⟩
  case round =>
    obtain ⟨k, hk, rfl, hup⟩ := hrel
    have HU := Lib.hid hup
    have hrA := hr.up hup
    have hrB := hs.up hup
    clear hup
    by_cases hkl : k < xs.length
    · obtain ⟨b, off, rfl, hbb, hcell⟩ := hrA.at_ hkl
      obtain ⟨b2, off2, rfl, hbb2, hcell2⟩ := hrB.at_ hkl
      obtain ⟨x, hxx⟩ : ∃ x, x = xs[k].1 := ⟨_, rfl⟩
      obtain ⟨y, hyy⟩ : ∃ y, y = xs[k].2 := ⟨_, rfl⟩
      rw [← hxx, ← hyy] at hcell hcell2
      obtain ⟨c0, c1⟩ := hcell
      obtain ⟨d0, d1⟩ := hcell2
      clear hxx hyy hrA hrB hr hs
      go_upto_region 6 with fail
      go_region
      go_wp2
      exact ⟨⟨k + 1, hkl, by simp, HU.out.trans (Up.drew _)⟩, by simp [intOf]; omega⟩
    · go_wp2
      go_ret
      exact ⟨rfl, HU.out⟩
end Go.Proofs.YtgcmogldiahdpaaGreatDoor
namespace Go.Proofs.YtgcmogldiahdpaaGreatDoor
open Go.RowKit Fm

theorem FB.divInt {a b : Int} {n : Nat} (ha : bl a ≤ n) (hb : bl b ≤ n) (h0 : b ≠ 0) : FB (ratOf a b) n := by
  unfold ratOf
  rcases Int.lt_or_gt_of_ne h0 with h | h
  · have := new_neg (top := a) h
    exact ⟨by rw [← this.1]; exact bl_tdiv ha, by rw [← this.2]; exact bl_tdiv hb⟩
  · have := new_pos (top := a) h
    exact ⟨by rw [← this.1]; exact bl_tdiv ha, by rw [← this.2]; exact bl_tdiv hb⟩
theorem FB.add {a b : Rat} {n m k : Nat} (ha : FB a n) (hb : FB b m) (hk : n + m + 1 ≤ k) : FB (a + b) k := by
  rw [← rat_add]
  exact FB.divInt (bl_add (k := n + m) (bl_mul ha.top hb.low (Nat.le_refl _)) (bl_mul hb.top ha.low (by omega)) hk) (bl_mul ha.low hb.low (by omega)) (Int.mul_ne_zero (den_ne a) (den_ne b))
theorem FB.mul {a b : Rat} {n m k : Nat} (ha : FB a n) (hb : FB b m) (hk : n + m ≤ k) : FB (a * b) k := by
  rw [rat_mul]
  exact FB.divInt (bl_mul ha.top hb.top hk) (bl_mul ha.low hb.low hk) (Int.mul_ne_zero (den_ne a) (den_ne b))
theorem FB.zero : FB 0 1 := ⟨digs_length_le (B := 4294967296) (k := 1) (by omega) (by decide), digs_length_le (B := 4294967296) (k := 1) (by omega) (by decide)⟩
theorem QB.zero : QB 0 1 := ⟨digs_length_le (B := 1073741824) (k := 1) (by omega) (by decide), digs_length_le (B := 1073741824) (k := 1) (by omega) (by decide)⟩
/-- The sum of the products of two lists of pairs. -/
def dotQ : List (Int × Int) → List (Int × Int) → Rat
  | p :: ps, q :: qs => ratOf p.1 p.2 * ratOf q.1 q.2 + dotQ ps qs
  | _, _ => 0
theorem dotQ_append (l m l' m' : List (Int × Int)) (h : l.length = m.length) : dotQ (l ++ l') (m ++ m') = dotQ l m + dotQ l' m' := by
  induction l generalizing m with
  | nil =>
    cases m with
    | nil => simp [dotQ, Rat.zero_add]
    | cons q qs => simp at h
  | cons p ps ih =>
    cases m with
    | nil => simp at h
    | cons q qs =>
      simp only [List.length_cons, Nat.add_right_cancel_iff] at h
      simp only [List.cons_append, dotQ, ih qs h, Rat.add_assoc]
theorem okAll_take {l : List (Int × Int)} (k : Nat) (h : okAll l = true) : okAll (l.take k) = true := by
  unfold okAll at *
  rw [List.all_eq_true] at *
  exact fun p hp => h p (List.mem_of_mem_take hp)
theorem okAll_drop {l : List (Int × Int)} (k : Nat) (h : okAll l = true) : okAll (l.drop k) = true := by
  unfold okAll at *
  rw [List.all_eq_true] at *
  exact fun p hp => h p (List.mem_of_mem_drop hp)
theorem okAll_get {l : List (Int × Int)} (h : okAll l = true) {k : Nat} (hk : k < l.length) : okNum l[k].1 l[k].2 = true := by
  unfold okAll at h
  rw [List.all_eq_true] at h
  exact h _ (List.getElem_mem hk)
theorem dotQ_QB (l m : List (Int × Int)) (h : l.length = m.length) (hl : okAll l = true) (hm : okAll m = true) : QB (dotQ l m) (8 * l.length + 1) := by
  induction l generalizing m with
  | nil =>
    cases m with
    | nil => exact QB.zero.mono (by omega)
    | cons q qs => simp at h
  | cons p ps ih =>
    cases m with
    | nil => simp at h
    | cons q qs =>
      have h1 := okAll_get hl (k := 0) (by simp)
      have h2 := okAll_get hm (k := 0) (by simp)
      simp only [List.length_cons, Nat.add_right_cancel_iff] at h
      have := ih qs h (okAll_drop 1 hl) (okAll_drop 1 hm)
      exact ((ok_QB h1).mul (ok_QB h2) (Nat.le_refl _)).add this (by simp only [List.length_cons]; omega)
theorem RdN.take {w : World} {A : Option Addr} {xs : List (Int × Int)} (h : RdN w A xs) (n : Nat) : RdN w A (xs.take n) := fun hn => by
  obtain ⟨b, off, hA, hb, hc⟩ := h (by intro e; subst e; simp at hn)
  exact ⟨b, off, hA, hb, fun i hi => by
    rw [List.length_take] at hi
    rw [List.getElem_take]
    exact hc i (by omega)⟩
end Go.Proofs.YtgcmogldiahdpaaGreatDoor
