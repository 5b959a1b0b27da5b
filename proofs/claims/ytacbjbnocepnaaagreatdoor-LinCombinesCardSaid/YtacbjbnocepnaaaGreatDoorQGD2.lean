/- Contract of the division of digits. -/
import Derived.Test.YtacbjbnocepnaaaGreatDoorQGD
import Derived.Deep.RegionWith
namespace Go.Proofs.YtacbjbnocepnaaaGreatDoor
open Go.RowKit Fm
def RedRel (g off : Nat) (xs es : List Nat) (w0 : World) (f i carry borrow : Nat) (w' : World) : Prop :=
  ∃ zs, Row .u32 191 w' g zs ∧ zs.length = xs.length ∧ Ok 4294967296 zs ∧ carry < 4294967296 ∧ borrow ≤ 1 ∧ (∀ j, j < off ∨ off + i ≤ j → zs[j]? = xs[j]?) ∧
    val 4294967296 (seg zs off i) + f * val 4294967296 (es.take i) = val 4294967296 (seg xs off i) + 4294967296 ^ i * (carry + borrow) ∧ w0.grownBy w' (some g)
theorem RedRel.step {g off f i carry borrow x z : Nat} {xs es zs : List Nat} {w0 w' : World} (hrow : Row .u32 191 w' g zs) (hl : zs.length = xs.length) (hok : Ok 4294967296 zs) (hc : carry < 4294967296) (hb : borrow ≤ 1)
    (hout : ∀ j, j < off ∨ off + i ≤ j → zs[j]? = xs[j]?) (hv : val 4294967296 (seg zs off i) + f * val 4294967296 (es.take i) = val 4294967296 (seg xs off i) + 4294967296 ^ i * (carry + borrow)) (hg : w0.grownBy w' (some g))
    (hi : off + i < xs.length) (hz : z = zs[off + i]'(by omega)) (hx : x < 4294967296) (hf : f < 4294967296) (t : Nat) (ht : t = x * f + carry) (htk : val 4294967296 (es.take (i + 1)) = val 4294967296 (es.take i) + 4294967296 ^ i * x) :
    RedRel g off xs es w0 f (i + 1) (t / 4294967296) (bor32 z (t % 4294967296) borrow) (w'.setCell ⟨g, off + i, none⟩ (.int .u32 ((dif32 z (t % 4294967296) borrow : Nat) : Int))) := by
  have hzb : z < 4294967296 := by rw [hz]; exact hok.get _
  have hlz : off + i < zs.length := by omega
  have hzx : z = xs[off + i] := by rw [hz]; exact getElem_of_get? (hout _ (.inr (Nat.le_refl _))) _ _
  have htb : t < 4294967296 * 4294967296 := by
    have := pow_bound (B := 4294967296) hx hf hc (show 0 < 4294967296 by omega)
    omega
  refine ⟨_, hrow.set _ _, by simp [hl], hok.set _ (dif_lt _ _ _), Nat.div_lt_of_lt_mul htb, bor_le _ _ _, fun j hj => ?_, ?_, grown_set hg _ _⟩
  · rw [List.getElem?_set_ne (by omega)]; exact hout j (by omega)
  · rw [val_seg_succ _ (by simp; omega), seg_set _ (.inr (Nat.le_refl _)), val_seg_succ _ hi, htk, ← hzx, Nat.pow_succ]
    simp only [List.getElem_set_self]
    exact redStep hv ht (dif_eq hzb (Nat.mod_lt _ (by omega)) hb)
def RedPost (w : World) (g off n : Nat) (xs : List Nat) (V : Nat) (e : Ending) (w' : World) : Prop :=
  ∃ zs, e = .returned (.int .u32 ((val 4294967296 (seg xs off (n + 1)) / V : Nat) : Int)) ∧ Row .u32 191 w' g zs ∧ zs.length = xs.length ∧ Ok 4294967296 zs ∧ (∀ j, j < off ∨ off + n + 1 ≤ j → zs[j]? = xs[j]?) ∧
    val 4294967296 (seg zs off (n + 1)) = val 4294967296 (seg xs off (n + 1)) % V ∧ w.grownBy w' (some g)
set_option maxHeartbeats 1000000 in
set_option maxRecDepth 100000 in
theorem reduce_any (g off k c : Nat) (xs : List Nat) (A : Option Addr) (c2 : Nat) (es : List Nat) (w : World)
    (hrow : Row .u32 191 w g xs) (hn : off + (k + 3) ≤ xs.length) (hnc : k + 3 ≤ c) (hc : c ≤ maxLen) (hk : k ≤ 2147483648) (hok : Ok 4294967296 xs)
    (he : es.length = k + 2) (hr : Rd .u32 w A es) (ha : Away A g) (hoke : Ok 4294967296 es) (hec : es.length ≤ c2)
    (htop : 2147483648 ≤ es[k + 1]'(by omega)) (hU : val 4294967296 (seg xs off (k + 3)) < val 4294967296 es * 4294967296) :
    Calls Tryz.prog 162 #[.slice (some ⟨g, off, none⟩) (k + 3) c, .slice A (k + 2) c2] w (RedPost w g off (k + 2) xs (val 4294967296 es)) := by
  unfold maxLen at hc
  obtain ⟨bb, off2, rfl, hb2, hcell2⟩ := hr (by intro e; subst e; simp at he)
  have hlk : es.length = k + 2 := he
  have hu0 := hrow.cell (i := off + (k + 2)) (by omega)
  have hu1 := hrow.cell (i := off + (k + 1)) (by omega)
  have hu2 := hrow.cell (i := off + k) (by omega)
  have hv1 := hcell2 (k + 1) (by omega)
  have hv2 := hcell2 k (by omega)
  have b0 := hok.get (k := off + (k + 2)) (by omega)
  have b1 := hok.get (k := off + (k + 1)) (by omega)
  have b2 := hok.get (k := off + k) (by omega)
  have b3 := hoke.get (k := k + 1) (by omega)
  have b4 := hoke.get (k := k) (by omega)
  have eU := val_top3 4294967296 hn
  have eV := val_top2 4294967296 he
  have hlow := val_lt (B := 4294967296) (by omega) (hok.seg off k)
  rw [seg_length (by omega)] at hlow
  have hlow2 := val_lt (B := 4294967296) (by omega) (hoke.take k)
  rw [List.length_take, Nat.min_eq_left (by omega)] at hlow2
  have hle := top_le eU eV hlow2 b4 hU
  have hest := estimate_any g off c k _ c2 _ _ _ _ _ _ rfl w bb off2 rfl (by omega) hu0 hu1 hu2 hv1 hv2 b0 b1 b2 b3 b4 htop hle
  have HEST := Lib.hid hest
  have hVpos : 0 < val 4294967296 es := by rw [eV]; have := Nat.mul_le_mul (show 1 ≤ es[k + 1] * 4294967296 + es[k] by omega) (Nat.one_le_two_pow (n := 0)); have hp := Nat.pow_pos (n := k) (show 0 < 4294967296 by omega); have := Nat.mul_pos (show 0 < es[k + 1] * 4294967296 + es[k] by omega) hp; omega
  have hBX : 4294967296 * 4294967296 ^ k ≤ val 4294967296 es := by
    rw [eV]; have := Nat.mul_le_mul_right (4294967296 ^ k) (show 4294967296 ≤ es[k + 1] * 4294967296 + es[k] by omega); omega
  have hqB : val 4294967296 (seg xs off (k + 3)) / val 4294967296 es < 4294967296 := Nat.div_lt_of_lt_mul hU
  have hdm := Nat.div_add_mod' (val 4294967296 (seg xs off (k + 3))) (val 4294967296 es)
  have hrV := Nat.mod_lt (val 4294967296 (seg xs off (k + 3))) hVpos
  have HDIG : Hid (∀ f, EstOk 4294967296 ((xs[off + (k + 2)] * 4294967296 + xs[off + (k + 1)]) * 4294967296 + xs[off + k]) (es[k + 1] * 4294967296 + es[k]) f → val 4294967296 (seg xs off (k + 3)) / val 4294967296 es ≤ f ∧ f ≤ val 4294967296 (seg xs off (k + 3)) / val 4294967296 es + 1) :=
    fun f hf => est_digit eV hlow2 eU hlow hdm.symm hrV hqB hBX hf
  have HDM := Lib.hid hdm
  have HRV := Lib.hid hrV
  have HHE := Lib.hid he
  have HR0 : RedRel g off xs es w 0 0 0 0 w := ⟨xs, hrow, rfl, hok, by omega, by omega, fun _ _ => rfl, by simp [seg_zero, val], World.grownBy.refl w _⟩
  have HR00 : ∀ f n, Hid (RedRel g off xs es w f 0 0 0 (w.drewN n)) := fun f n => ⟨xs, hrow, rfl, hok, by omega, by omega, fun _ _ => rfl, by simp [seg_zero, val], grown_up (Up.drewN w n) _⟩
  clear hu0 hu1 hu2 hv1 hv2 b0 b1 b2 b3 b4 eU eV hlow hlow2 hle hest hVpos hBX hdm hrV hlk hcell2 HR0 hU htop hqB hrow
  go_enter Tryz.func162, Tryz.ntmps162
  go_wp2_with (go_at_call 169; refine HEST.out.mono ?_; rintro e w1 ⟨f, rfl, hf, nq, rfl⟩)
  have HD2 := HDIG.out f hf
  have hfB := hf.1
  have HF := Lib.hid HD2
  clear HD2 hf HDIG
  go_loopw [6, 7, 17] (fun cv bv iv wr => ∃ i cy bo : Nat, iv = .int .i64 i ∧ cv = .int .u64 cy ∧ bv = .int .u32 bo ∧ i ≤ k + 2 ∧ RedRel g off xs es w f i cy bo wr) (fun _ _ iv _ => k + 2 - (intOf iv).toNat)
  case atStart => exact ⟨0, 0, 0, rfl, rfl, rfl, by omega, (HR00 f nq).out⟩
  case round =>
    obtain ⟨i, cy, bo, rfl, rfl, rfl, hi, hR⟩ := hrel
    have hR0 := hR
    obtain ⟨zs, hrow, hl, hokz, hcy, hbo, hout, hv, hg⟩ := hR
    have HL := Lib.hid hl
    have HV := Lib.hid hv
    have HO := Lib.hid hout
    clear hl hv hout
    rcases Nat.lt_or_ge i (k + 2) with hlt | hge
    · have hie : i < es.length := by rw [HHE.out]; exact hlt
      obtain ⟨b4, o4, hA4, hb4, hcell⟩ := (hr.grown hg ha).at_ hie
      obtain ⟨rfl, rfl⟩ : bb = b4 ∧ off2 = o4 := by injection hA4 with h; injection h with h1 h2; exact ⟨h1, h2⟩
      have hxb := hoke.get hie
      have htk := val_take_succ 4294967296 hie
      generalize es[i] = x at *
      have HTK := Lib.hid htk
      clear htk hA4
      have hlz : off + i < zs.length := by rw [HL.out]; omega
      have hcz := hrow.cell hlz
      have hfr := hrow.frozen (off + i)
      have hzb := hokz.get hlz
      generalize hzz : zs[off + i] = z at *
      have HZ := Lib.hid hzz
      clear hzz
      obtain ⟨t, ht⟩ : ∃ t, t = x * f + cy := ⟨_, rfl⟩
      have htb : t < 18446744073709551616 := by
        have := pow_bound (B := 4294967296) hxb hfB hcy (show 0 < 4294967296 by omega); omega
      have hp0 : 0 ≤ (x : Int) * f := Int.mul_nonneg (by omega) (by omega)
      have hp1 : (x : Int) * f + cy ≤ 18446744073709551615 := by
        have : ((t : Nat) : Int) = (x : Int) * f + cy := by rw [ht]; simp
        omega
      obtain ⟨m, hm⟩ : ∃ m, m = t % 4294967296 := ⟨_, rfl⟩
      obtain ⟨dv, hdv⟩ : ∃ dv, dv = t / 4294967296 := ⟨_, rfl⟩
      have hmi : ((x : Int) * f + cy) % 4294967296 = (m : Int) := by rw [hm, ht]; simp
      have hdi : ((x : Int) * f + cy) / 4294967296 = (dv : Int) := by rw [hdv, ht]; simp
      have hmb : m < 4294967296 := by rw [hm]; exact Nat.mod_lt _ (by omega)
      have HS := Lib.hid (RedRel.step hrow HL.out hokz hcy hbo HO.out HV.out hg (by omega) HZ.out.symm hxb hfB t ht HTK.out)
      rw [← hm, ← hdv] at HS
      clear ht htb hm hdv
      go_wp2_with (go_at_call 170; refine (sub32_any z m bo _ hzb hmb hbo).mono ?_; rintro e w' ⟨rfl, rfl⟩)
      exact ⟨⟨i + 1, _, _, by go_num, rfl, rfl, by omega, HS.out⟩, by simp [intOf]; omega⟩
    · obtain rfl : i = k + 2 := by omega
      have hlz : off + (k + 2) < zs.length := by rw [HL.out]; omega
      have hlx : off + (k + 2) < xs.length := by omega
      have hcz := hrow.cell hlz
      have hfr := hrow.frozen (off + (k + 2))
      have hzb := hokz.get hlz
      have hzx := getElem_of_get? (HO.out (off + (k + 2)) (.inr (Nat.le_refl _))) hlz hlx
      have hlast : val 4294967296 (seg (zs.set (off + (k + 2)) (dif32 zs[off + (k + 2)] cy bo)) off (k + 3)) + f * val 4294967296 es = val 4294967296 (seg xs off (k + 3)) + 4294967296 ^ (k + 3) * bor32 zs[off + (k + 2)] cy bo := by
        have h1 := HV.out
        rw [List.take_of_length_le (by rw [HHE.out]; exact Nat.le_refl _)] at h1
        rw [val_seg_succ _ (show off + (k + 2) < (zs.set (off + (k + 2)) (dif32 zs[off + (k + 2)] cy bo)).length by simp; omega), seg_set _ (.inr (Nat.le_refl _)), List.getElem_set_self, Nat.pow_succ (m := k + 2)]
        exact red_last h1 (by rw [val_seg_succ _ hlx, hzx]) (dif_eq hzb hcy hbo)
      have hset := hrow.set (off + (k + 2)) (dif32 zs[off + (k + 2)] cy bo)
      have hokS := hokz.set (off + (k + 2)) (dif_lt zs[off + (k + 2)] cy bo)
      have hlS : (zs.set (off + (k + 2)) (dif32 zs[off + (k + 2)] cy bo)).length = xs.length := by rw [List.length_set, HL.out]
      have hoS : ∀ j, j < off ∨ off + (k + 2) + 1 ≤ j → (zs.set (off + (k + 2)) (dif32 zs[off + (k + 2)] cy bo))[j]? = xs[j]? := fun j hj => by
        rw [List.getElem?_set_ne (by omega)]; exact HO.out j (by omega)
      have hgS := grown_set hg (off + (k + 2)) (.int .u32 (dif32 zs[off + (k + 2)] cy bo : Nat))
      have hb1 := bor_le zs[off + (k + 2)] cy bo
      have hself : (zs.set (off + (k + 2)) (dif32 zs[off + (k + 2)] cy bo))[off + (k + 2)]? = some (dif32 zs[off + (k + 2)] cy bo) := by rw [List.getElem?_set_self hlz]
      clear hzx
      generalize zs[off + (k + 2)] = z at *
      have hdb := dif_lt z cy bo
      generalize zs.set (off + (k + 2)) (dif32 z cy bo) = ys at *
      generalize hbb : bor32 z cy bo = b1 at *
      generalize hdd : dif32 z cy bo = d1 at *
      have HBB := Lib.hid hbb
      have HDD := Lib.hid hdd
      have HLAST := Lib.hid hlast
      have HSET := Lib.hid hset
      have HLS := Lib.hid hlS
      have HOS := Lib.hid hoS
      have HSELF := Lib.hid hself
      clear hbb hdd hlast hset hlS hoS hself
      rcases Nat.lt_or_ge 0 b1 with hbp | hb0
      · obtain rfl : b1 = 1 := by omega
        have hZM : val 4294967296 (seg ys off (k + 3)) < 4294967296 ^ (k + 3) := by
          have := val_lt (B := 4294967296) (by omega) (hokS.seg off (k + 3))
          rw [seg_length (by rw [HLS.out]; exact hn)] at this; exact this
        have hbg := red_big (by have := HLAST.out; rw [Nat.mul_one] at this; exact this) hZM HDM.out.symm HF.out.2 HF.out.1
        have hf1 : 1 ≤ f := by rw [hbg.1]; exact Nat.le_add_left _ _
        have HBG := Lib.hid hbg
        clear hbg hZM
        have hmod : (cy : Int) % 4294967296 = cy := by omega
        have hcS := HSET.out.cell (i := off + (k + 2)) (by rw [HLS.out]; exact hlx)
        have hfS := HSET.out.frozen (off + (k + 2))
        have hys : ys[off + (k + 2)]'(by rw [HLS.out]; exact hlx) = d1 := by
          have := HSELF.out
          rw [List.getElem?_eq_getElem (by rw [HLS.out]; exact hlx)] at this
          exact Option.some.inj this
        rw [hys] at hcS
        go_wp2_with (go_at_call 170; refine (sub32_any z cy bo _ hzb hcy hbo).mono ?_; rintro e w' ⟨rfl, rfl⟩; rw [HBB.out, HDD.out])
        have HSELF2 := HSELF.out
        have HHE2 := HHE.out
        obtain ⟨wS, hwS⟩ : ∃ wS, wS = wr.setCell ⟨g, off + (k + 2), none⟩ (.int .u32 (d1 : Int)) := ⟨_, rfl⟩
        rw [← hwS] at HSET hgS hcS hfS ⊢
        have hinc := increase_any g off (k + 2) c ys _ c2 es wS.drew (HSET.out.drewN 1) (by rw [HLS.out]; omega) (by omega) (by unfold maxLen; omega) hokS (by omega) ((hr.grown hgS ha).drewN 1) (fun _ => ha) hoke hec
        rw [HHE2] at hinc
        have HINC := Lib.hid hinc
        clear hinc HSELF2 HHE2 hwS
        have HFIN : Hid (∀ (ci : Nat) (zs2 : List Nat) (w2 : World), ci ≤ 1 → Row .u32 191 w2 g zs2 → zs2.length = ys.length → Ok 4294967296 zs2 → (∀ i, i < off ∨ off + (k + 2) ≤ i → zs2[i]? = ys[i]?) →
            val 4294967296 (seg zs2 off (k + 2)) + 4294967296 ^ (k + 2) * ci = val 4294967296 (seg ys off (k + 2)) + val 4294967296 (es.take (k + 2)) → wS.drew.grownBy w2 (some g) →
            RedPost w g off (k + 2) xs (val 4294967296 es) (.returned (.int .u32 ((f : Int) - 1))) (w2.setCell ⟨g, off + (k + 2), none⟩ (.int .u32 (IntKind.u32.wrap ((d1 : Int) + ci))))) := by
          intro ci zs2 w2 hc2 hrow2 hl2 hok2 hout2 hv2 hg2
          have hw : IntKind.u32.wrap ((d1 : Int) + ci) = (((d1 + ci) % 4294967296 : Nat) : Int) := by rw [IntKind.wrap_u32]; simp
          rw [hw]
          have hlz2 : off + (k + 2) < zs2.length := by rw [hl2, HLS.out]; exact hlx
          have hlys : off + (k + 2) < ys.length := by rw [HLS.out]; exact hlx
          have hq : val 4294967296 (seg xs off (k + 2 + 1)) / val 4294967296 es = f - 1 := by have h := HBG.out.1; show val 4294967296 (seg xs off (k + 3)) / val 4294967296 es = f - 1; omega
          refine ⟨zs2.set (off + (k + 2)) ((d1 + ci) % 4294967296), ?_, hrow2.set _ _, by rw [List.length_set, hl2, HLS.out], hok2.set _ (Nat.mod_lt _ (by omega)), fun j hj => ?_, ?_, grown_set (grown_trans hgS (grown_trans (grown_up (Up.drew wS) _) hg2)) _ _⟩
          · rw [hq, Int.natCast_sub hf1]; rfl
          · rw [List.getElem?_set_ne (by omega), hout2 j (by omega)]; exact HOS.out j hj
          · rw [val_seg_succ _ (show off + (k + 2) < (zs2.set (off + (k + 2)) ((d1 + ci) % 4294967296)).length by rw [List.length_set]; exact hlz2), seg_set _ (.inr (Nat.le_refl _)), List.getElem_set_self]
            have h1 := HBG.out.2
            rw [val_seg_succ _ hlys, hys, Nat.pow_succ (m := k + 2)] at h1
            rw [List.take_of_length_le (by rw [HHE.out]; exact Nat.le_refl _)] at hv2
            have hb := val_lt (B := 4294967296) (by omega) (hok2.seg off (k + 2))
            rw [seg_length (by omega)] at hb
            exact red_back hv2 h1 hdb hb hc2
        have hk0 : (0 : Int) ≤ (k : Int) + 2 := by omega
        have hk1 : (k : Int) + 2 < (k : Int) + 3 := by omega
        have hk2 : (k : Int) + 2 ≤ (c : Int) := by omega
        have htn : ((k : Int) + 2).toNat = k + 2 := by omega
        go_region_with
          ((go_at_call 166
            refine HINC.out.mono ?_
            rintro e w2 ⟨ci, rfl, zs2, hc2, hrow2, hl2, hok2, hout2, hv2, hg2, -⟩
            have hy2 : zs2[off + (k + 2)]? = some d1 := (hout2 _ (.inr (Nat.le_refl _))).trans HSELF.out
            have hlz2 : off + (k + 2) < zs2.length := by rw [hl2, HLS.out]; exact hlx
            have hcell2 := hrow2.cell hlz2
            rw [List.getElem?_eq_getElem hlz2] at hy2
            rw [Option.some.inj hy2] at hcell2
            have hfr2 := hrow2.frozen (off + (k + 2))
            have HL2 := Lib.hid hl2
            have HOUT2 := Lib.hid hout2
            have HV2 := Lib.hid hv2
            clear hl2 hout2 hv2 hy2))
        all_goals
          go_wp2
          go_ret
          exact HFIN.out _ _ _ hc2 hrow2 HL2.out hok2 HOUT2.out HV2.out hg2
      · obtain rfl : b1 = 0 := by omega
        have hsm : f = val 4294967296 (seg xs off (k + 3)) / val 4294967296 es ∧ val 4294967296 (seg ys off (k + 3)) = val 4294967296 (seg xs off (k + 3)) % val 4294967296 es :=
          red_small (by have := HLAST.out; rw [Nat.mul_zero, Nat.add_zero] at this; exact this) HDM.out.symm HRV.out HF.out.1
        have HSM := Lib.hid hsm
        clear hsm
        have hmod : (cy : Int) % 4294967296 = cy := by omega
        go_wp2_with (go_at_call 170; refine (sub32_any z cy bo _ hzb hcy hbo).mono ?_; rintro e w' ⟨rfl, rfl⟩; rw [HBB.out, HDD.out])
        go_ret
        exact ⟨ys, ret_int (by rw [← HSM.out.1]), HSET.out, HLS.out, hokS, HOS.out, HSM.out.2, hgS⟩
end Go.Proofs.YtacbjbnocepnaaaGreatDoor
