/- Contracts of the package of rows: one step of the elimination. -/
import Derived.Test.YtacbjbnocepnaaaGreatDoorQHD
import Derived.Lib.SliceRun
namespace Go.Proofs.YtacbjbnocepnaaaGreatDoor
open Go.RowKit Fm
structure InsSt (w : World) (g n K : Nat) (S : Sys) (r : List Int) (wr : World) (k : Nat) (A : Option Addr) (c : Nat) (z : List Int) : Prop where
  len : z.length = n + 1
  cap : z.length ≤ c
  max : c ≤ maxLen
  rd : RdZ wr A z
  away : Away A g
  zeros : Zeros k z
  bd : Bd (grow K k) z
  same : insR n (n + 1 - k) S z = insR n (n + 1) S r
  sys : SysB wr g n S
  up : Up w wr
theorem grow_le {K c : Nat} (hK : K ≤ 60) (hc : c ≤ 10) : grow K c ≤ 62463 := by
  unfold grow
  have h1 : 2 ^ c ≤ 2 ^ 10 := Nat.pow_le_pow_right (by omega) hc
  have h2 : 2 ^ c * (K + 1) ≤ 2 ^ 10 * 61 := Nat.mul_le_mul h1 (by omega)
  omega
set_option maxHeartbeats 4000000 in
set_option maxRecDepth 10000 in
theorem sysInsert_any (g n K : Nat) (S : Sys) (A : Option Addr) (c : Nat) (r : List Int) (w : World) (hn : n ≤ 9) (hK : K ≤ 60) (hS : Ech n S) (hB : SB (grow K) S) (hl : r.length = n + 1) (hrb : Bd K r)
    (hs : SysB w g n S) (hc : r.length ≤ c) (hcm : c ≤ maxLen) (hr : RdZ w A r) (ha : Away A g) (ht : Tab w) :
    Calls Tryz.prog 126 #[.pointer (some ⟨g, 0, none⟩), .slice A r.length c] w fun e w' => e = .returned (.tuple #[]) ∧ SysB w' g n (insR n (n + 1) S r) ∧ w.grownBy w' (some g) := by
  have hcell := hs.cell0
  have hlt := hs.lt
  have qT : ∀ (w : World) (a : Option Addr) (n c n' c' : Nat), (binOp .eql 90 (.slice a n c) (.slice none n' c')).run Tryz.prog w = .ok (.bool a.isNone) w := fun w a n c n' c' => Lib.run_eql_slice_nil w _ _ a n c n' c' Tryz.underlying90
  have H0 : Hid (InsSt w g n K S r w 0 A c r) := Lib.hid ⟨hl, hc, hcm, hr, ha, fun i hi => by omega, by unfold grow; simpa using hrb, rfl, hs, Up.refl _⟩
  have HE := Lib.hid (And.intro hS hB)
  rw [hl]
  clear hl hrb hs hc hcm hr ha hS hB
  go_enter Tryz.func126, Tryz.ntmps126
  go_wp2
  clear hcell
  go_loopw [1, 10] (fun rv i wr => ∃ k : Nat, k ≤ n + 1 ∧ i = .int .i64 k ∧ ∃ A c z, rv = .slice A (n + 1) c ∧ Hid (InsSt w g n K S r wr k A c z)) (fun _ i _ => n + 1 - (intOf i).toNat)
  case atStart => exact ⟨0, by omega, rfl, A, c, r, rfl, H0⟩
  case round =>
    obtain ⟨k, hk, rfl, A', c', z, rfl, HI⟩ := hrel
    by_cases hkl : k < n + 1
    · have hzl := HI.out.len
      obtain ⟨b, off, s1, B1, m1, k1, rfl, hbb, c0, c1, hz1⟩ := HI.out.rd.at_ (i := k) (by omega)
      have HZ1 := Lib.hid hz1
      have ez : z[k] = z.getD k 0 := by rw [List.getD_eq_getElem?_getD, List.getElem?_eq_getElem (by omega)]; rfl
      rw [ez] at HZ1
      obtain ⟨y, hy⟩ : ∃ y, y = z.getD k 0 := ⟨_, rfl⟩
      rw [← hy] at HZ1
      have HY := Lib.hid hy
      have HSG := Lib.hid (fun W (hu : Up wr W) => intSign_any _ _ W (HZ1.out.up hu))
      clear ez hz1 hy
      have i0 : (0 : Int) ≤ (k : Int) := by omega
      have i1 : (k : Int) < (n : Int) + 1 := by omega
      have i3 : (k : Int) < 10 := by omega
      have hk10 : k < 10 := by omega
      have HK : Hid (n + 1 - k = (n - k) + 1 ∧ n - (n - k) = k ∧ n + 1 - (k + 1) = n - k) := Lib.hid (by omega)
      clear hzl
      go_wp2_with fail
      refine Calls.mono (HSG.out _ (Up.refl _)) ?_
      rintro e w1 ⟨rfl, hu⟩
      have HU1 := Lib.hid hu
      clear hu
      by_cases hz0 : y = 0
      · subst hz0
        have HN : Hid (InsSt w g n K S r w1 (k + 1) (some ⟨b, off, none⟩) c' z) := Lib.hid (by
          obtain ⟨h1, h2, h3, h4, h5, h6, h7, h8, h9, h10⟩ := HI.out
          refine ⟨h1, h2, h3, h4.up HU1.out, h5, fun i hi => ?_, h7.mono (by rw [grow_next]; omega), ?_, h9.up HU1.out, h10.trans HU1.out⟩
          · by_cases e : i = k
            · rw [e]; exact HY.out.symm
            · exact h6 i (by omega)
          · rw [HK.out.2.2, ← h8, HK.out.1]
            conv => rhs; unfold insR
            rw [HK.out.2.1, if_pos HY.out.symm])
        go_wp2_with fail
        exact ⟨⟨k + 1, by omega, by simp, _, _, z, rfl, HN⟩, by simp [intOf]; omega⟩
      · have hsn : (y.sign == 0) = false := by simpa [Int.sign_eq_zero_iff_zero] using hz0
        have HY0 : Hid (z.getD k 0 ≠ 0) := Lib.hid (by rw [← HY.out]; exact hz0)
        have HS1 := Lib.hid (HI.out.sys.up HU1.out)
        obtain ⟨A2, m2, q2, hcell2, hplace⟩ := HS1.out.at_ hk10
        have hf2 := HS1.out.frozen (1 + k)
        have hl1 := HS1.out.lt
        rw [Nat.add_comm k 1] at hcell2
        rcases hp : S.getD k none with _ | p
        · have HSET : Hid (insR n (n + 1 - k) S z = S.set k (some z)) := Lib.hid (by
            rw [HK.out.1]
            unfold insR
            rw [HK.out.2.1, if_neg HY0.out, hp])
          rw [hp] at hplace
          have hpl : Value.slice A2 m2 q2 = Value.slice none 0 0 := hplace
          rw [hpl] at hcell2
          have HST := Lib.hid (HS1.out.store hk10 (A := some ⟨b, off, none⟩) (m := n + 1) (k := c') (o := some z) ⟨_, _, by rw [HI.out.len], (by intro e; have := HI.out.len; rw [e] at this; simp at this), HI.out.cap, HI.out.max, HI.out.rd.up HU1.out, HI.out.away⟩)
          rw [Nat.add_comm k 1] at HST
          have HGR := Lib.hid (show w.grownBy (w1.setCell ⟨g, 1 + k, none⟩ (.slice (some ⟨b, off, none⟩) (n + 1) c')) (some g) from grown_set (grown_up (HI.out.up.trans HU1.out) _) _ _)
          clear hp hplace hpl
          go_wp2
          refine bodyPost_ret (by simp [results, Tryz.results126, go_sem]; try rfl) rfl ?_
          exact ⟨rfl, by rw [← HI.out.same, HSET.out]; exact HST.out, HGR.out⟩
        · rw [hp] at hplace
          obtain ⟨A3, c3, hv3, hne3, hcap3, hmax3, hrd3, haw3⟩ := hplace
          have hld := HE.out.1.2 k p hp
          obtain ⟨b3, off3, rfl, -, -⟩ := hrd3 hne3
          rw [hv3, hld.len] at hcell2
          have HCA := Lib.hid (fun W (hu : Up w1 W) => rowCancel_any (some ⟨b, off, none⟩) (some ⟨b3, off3, none⟩) c' c3 z p k (grow K k) (grow K k) W HI.out.cap HI.out.max hcap3 hmax3 (by rw [HI.out.len]; omega) (by rw [HI.out.len, hld.len]) (by rw [HI.out.len]; omega) (HI.out.rd.up (HU1.out.trans hu)) (hrd3.up hu) HI.out.bd (HE.out.2 k p hp) (by have := grow_le (K := K) hK (show k + 1 ≤ 10 by omega); rw [grow_next] at this; omega) hld.at_ (ht.up (HI.out.up.trans (HU1.out.trans hu))))
          rw [HI.out.len, hld.len] at HCA
          have HNX : Hid (∀ (W : World) A4 c4, Up w1 W → (cancelR z p k).length ≤ c4 → c4 ≤ maxLen → RdZ W A4 (cancelR z p k) → Away A4 g → InsSt w g n K S r W (k + 1) A4 c4 (cancelR z p k)) := Lib.hid (by
            intro W A4 c4 hu h1 h2 h3 h4
            obtain ⟨e1, e2⟩ := cancel_next HI.out.len HI.out.zeros hld
            refine ⟨e1, h1, h2, h3, h4, e2, HI.out.bd.cancel (HE.out.2 k p hp) k (by rw [grow_next]; omega), ?_, HS1.out.up hu, HI.out.up.trans (HU1.out.trans hu)⟩
            rw [HK.out.2.2, ← HI.out.same, HK.out.1]
            conv => rhs; unfold insR
            rw [HK.out.2.1, if_neg HY0.out, hp])
          clear hp hv3 hld hrd3 haw3 hne3 hcap3 hmax3
          go_wp2_with fail
          refine Calls.mono (HCA.out _ (Up.refl _)) ?_
          rintro e w2 ⟨v, rfl, ⟨A4, c4, rfl, r1, r2, r3, r4⟩, hu⟩
          have HN := Lib.hid (HNX.out w2 A4 c4 hu r1 r2 r3 (fun b5 off5 e => by have := r4 b5 off5 e; omega))
          have HLN := Lib.hid HN.out.len
          rw [HLN.out]
          clear hu r1 r2 r3 r4
          go_wp2_with fail
          exact ⟨⟨k + 1, by omega, by simp, A4, c4, _, rfl, HN⟩, by simp [intOf]; omega⟩
    · have hke : k = n + 1 := by omega
      subst hke
      have HS1 := Lib.hid HI.out.sys
      have HEQ : Hid (insR n (n + 1) S r = S) := Lib.hid (by
        rw [← HI.out.same, Nat.sub_self]; rfl)
      have HGR := Lib.hid (grown_up HI.out.up (some g))
      go_wp2
      refine bodyPost_end (by simp [results, Tryz.results126, go_sem]; try rfl) rfl ?_
      exact ⟨rfl, by rw [HEQ.out]; exact HS1.out, HGR.out⟩
end Go.Proofs.YtacbjbnocepnaaaGreatDoor
