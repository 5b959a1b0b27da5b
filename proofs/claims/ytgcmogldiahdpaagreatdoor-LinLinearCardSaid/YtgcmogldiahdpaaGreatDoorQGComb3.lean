/- Walks of a law. -/
import Derived.Test.YtgcmogldiahdpaaGreatDoorQGComb2
import Derived.Test.YtgcmogldiahdpaaGreatDoorQHG
namespace Go.Proofs.YtgcmogldiahdpaaGreatDoor
open Go.RowKit Fm
/-- The upper numbers over the least common denominator. -/
def topsN (xs : List (Int × Int)) : List Int := xs.map fun p => p.1 * (lowN xs : Int).tdiv p.2
theorem topsN_length (xs : List (Int × Int)) : (topsN xs).length = xs.length := by unfold topsN; rw [List.length_map]
def oneOk (xs : List (Int × Int)) : Bool := (topsN xs).all limI && limI (lowN xs : Nat)
def oneF (n : Nat) (xs : List (Int × Int)) : List Int × Int := if oneOk xs then ((topsN xs).take n, (topsN xs).getD n 0) else ([], 0)
def oneK (xs : List (Int × Int)) : Int := if oneOk xs then ((lowN xs : Nat) : Int) else 0
def oneE (xs : List (Int × Int)) : Int := if oneOk xs then 0 else 3
set_option maxHeartbeats 2000000 in
set_option maxRecDepth 10000 in
theorem overOne_any (A : Option Addr) (c n : Nat) (xs : List (Int × Int)) (w : World) (hn : n ≤ 100000) (hlen : xs.length = n + 1) (hr : RdN w A xs) (hx : ∀ p, p ∈ xs → Rng p.1 p.2) (hp : ∀ p, p ∈ xs → 0 < p.2) (ht : Tab w) :
    Calls Tryz.prog 87 #[.slice A xs.length c] w fun e w' => ∃ A' c', e = .returned (.tuple #[.agg #[.slice A' (oneF n xs).1.length c', .int .i64 (oneF n xs).2], .int .i64 (oneK xs), .int .i64 (oneE xs)]) ∧ RdI w' A' (oneF n xs).1 ∧ (∀ b off, A' = some ⟨b, off, none⟩ → w.heap.size ≤ b) ∧ Up w w' := by
  have HCM := Lib.hid (fun W (hu : Up w W) => (show Calls Tryz.prog 144 #[.slice A xs.length c] W fun e w' => ∃ v1 v2, e = .returned (.tuple #[v1, v2]) ∧ RowF W w' v1 (topsN xs) ∧ IV w' v2 (lowN xs : Nat) ∧ Up W w' from common_any A c xs W (by omega) (hr.up hu) hx hp (ht.up hu)))
  have htl : (topsN xs).length = n + 1 := by rw [topsN_length, hlen]
  have HFM := Lib.hid (fun W A2 c2 (h : RdZ W A2 (topsN xs)) => rowForm_any A2 c2 n (topsN xs) W hn htl h)
  have HWT := Lib.hid (fun W v (h : IV W v (lowN xs : Nat)) (hl : limI (lowN xs : Nat) = true) => (show Calls Tryz.prog 145 #[v, .int .i64 1152921504606846976] W fun e w' => e = .returned (.tuple #[.int .i64 (lowN xs : Nat), .bool true]) ∧ Up W w' from by
    have h1 := within_any v _ 1152921504606846976 W h (by decide) (by decide)
    have h2 : within ((lowN xs : Nat) : Int) 1152921504606846976 = true := hl
    simp only [h2, if_true] at h1
    exact h1))
  have HWF := Lib.hid (fun W v (h : IV W v (lowN xs : Nat)) (hl : limI (lowN xs : Nat) = false) => (show Calls Tryz.prog 145 #[v, .int .i64 1152921504606846976] W fun e w' => e = .returned (.tuple #[.int .i64 0, .bool false]) ∧ Up W w' from by
    have h1 := within_any v _ 1152921504606846976 W h (by decide) (by decide)
    have h2 : within ((lowN xs : Nat) : Int) 1152921504606846976 = false := hl
    simp only [h2, if_false, Bool.false_eq_true] at h1
    exact h1))
  have HF0 : Hid (oneF n xs = if oneOk xs then ((topsN xs).take n, (topsN xs).getD n 0) else ([], 0)) := Lib.hid rfl
  have HK0 : Hid (oneK xs = if oneOk xs then ((lowN xs : Nat) : Int) else 0) := Lib.hid rfl
  have HE0 : Hid (oneE xs = if oneOk xs then 0 else 3) := Lib.hid rfl
  have HO0 : Hid (oneOk xs = ((topsN xs).all limI && limI (lowN xs : Nat))) := Lib.hid rfl
  have HTK : Hid (((topsN xs).take n).length = n) := Lib.hid (by rw [List.length_take, htl]; omega)
  rw [htl] at HFM
  clear hr hx hp ht
  generalize oneF n xs = q at *
  generalize oneK xs = K at *
  generalize oneE xs = E at *
  generalize oneOk xs = ok at *
  generalize lowN xs = L at *
  generalize topsN xs = T at *
  rw [hlen] at HCM ⊢
  have HTL := Lib.hid htl
  clear hlen htl
  go_enter Tryz.func87, Tryz.ntmps87
  go_wp2_with fail
  have HR0 := Lib.hid (CellF.new w none 0 0 0)
  have HUR := Lib.hid (Up.alloc w (.cells #[.slice none 0 0, .int .i64 0] 33))
  refine Calls.mono (HCM.out _ (by (repeat (first | exact Below.refl _ _ | exact Go.RowKit.Hid.out (by assumption) | refine Up.trans ?_ (Up.drew _) | refine Up.trans ?_ (Up.drewN _ _) | refine Up.trans ?_ (Up.alloc _ _) | refine Up.trans ?_ (Go.RowKit.Hid.out (by assumption)))))) ?_
  rintro e w1 ⟨v1, v2, rfl, ⟨A1, c1, rfl, h1, h2, h3, h4⟩, hv, hu⟩
  obtain ⟨s2, A2, n2, c2, rfl, -⟩ := hv.open_
  have HU1 := Lib.hid (HUR.out.trans hu)
  have HR1 := Lib.hid (HR0.out.up hu)
  have HRZ := Lib.hid h3
  have HV := Lib.hid hv
  clear hu hv h1 h2 h3 h4 HR0 HUR
  rw [HTL.out]
  go_wp2_with fail
  have HL1 := Lib.hid (CellZ.new w1 s2 A2 n2 c2)
  have HUL := Lib.hid (Up.alloc w1 (.cells #[.int .i64 s2, .slice A2 n2 c2] 95))
  refine Calls.mono (HFM.out _ _ _ (HRZ.out.up HUL.out)) ?_
  rintro e w2 ⟨⟨A4, m4, c4, x4, rfl, hff, hft⟩, hu⟩
  have st := HUL.out.trans hu
  have HL2 := Lib.hid (HL1.out.up hu)
  have HV2 := Lib.hid (HV.out.up st)
  have HR2 := Lib.hid (HR1.out.up st)
  have HU2 := Lib.hid (HU1.out.trans st)
  have HSZ := Lib.hid (HU1.out.size)
  have HUL2 := Lib.hid (HUL.out.size)
  obtain ⟨gl, hgl⟩ : ∃ gl, gl = w1.heap.size := ⟨_, rfl⟩
  rw [← hgl] at HL2 ⊢
  have HFT := Lib.hid (And.intro hff hft)
  clear hu st HL1 HUL HV HR1 HU1 hgl hff hft HRZ
  obtain ⟨l0, l1, -, -, ll⟩ := HL2.out.facts
  go_wp2_with fail
  have HF2 := Lib.hid (CellF.new w2 A4 m4 c4 x4)
  have HUF := Lib.hid (Up.alloc w2 (.cells #[.slice A4 m4 c4, .int .i64 x4] 33))
  obtain ⟨gr, hgr⟩ : ∃ gr, gr = w.heap.size := ⟨_, rfl⟩
  have HGR := Lib.hid (show w.heap.size ≤ gr by omega)
  have HGL := Lib.hid (show gr < w1.heap.size + 1 by have := HSZ.out; omega)
  rw [← hgr] at HR2 ⊢
  clear hgr
  rcases hL : limI (L : Int) with _ | _
  · have HWJ := Lib.hid (HWF.out _ _ (HV2.out.up HUF.out) hL)
    rcases hA : T.all limI with _ | _
    · obtain ⟨rfl, rfl, rfl, rfl⟩ := HFT.out.1 hA
      refine Calls.mono HWJ.out ?_
      rintro e w3 ⟨rfl, hu⟩
      have st := HUF.out.trans hu
      have HF3 := Lib.hid (HF2.out.up hu)
      have HR3 := Lib.hid (HR2.out.up st)
      have HU3 := Lib.hid (HU2.out.trans st)
      have HUS := Lib.hid st
      obtain ⟨gf, hgf⟩ : ∃ gf, gf = w2.heap.size := ⟨_, rfl⟩
      rw [← hgf] at HF3 ⊢
      clear hu st HF2 HUF HR2 HU2 HL2 HV2 hgf l0 l1 ll
      obtain ⟨r0, r1, f0, f1, lr⟩ := HR3.out.facts
      have HOK : Hid (ok = false) := Lib.hid (by rw [HO0.out, hA, hL]; rfl)
      have HP := Lib.hid (HR3.out.set none 0 0 0)
      have HUZ := Lib.hid (Up.stored HU3.out HGR.out (.slice none 0 0) (.int .i64 0))
      clear hA hL HFT
      go_wp2
      obtain ⟨z0, z1, -, -, -⟩ := HP.out.facts
      refine bodyPost_ret (by simp [results, Tryz.results87, go_sem, z0, z1]; try rfl) rfl ?_
      rw [HF0.out, HK0.out, HE0.out, HOK.out]
      exact ⟨none, 0, rfl, fun h => absurd rfl h, fun b off e => (by cases e), HUZ.out⟩
    · have hft := HFT.out.2 hA
      refine Calls.mono HWJ.out ?_
      rintro e w3 ⟨rfl, hu⟩
      have st := HUF.out.trans hu
      have HF3 := Lib.hid (HF2.out.up hu)
      have HR3 := Lib.hid (HR2.out.up st)
      have HU3 := Lib.hid (HU2.out.trans st)
      have HUS := Lib.hid st
      obtain ⟨gf, hgf⟩ : ∃ gf, gf = w2.heap.size := ⟨_, rfl⟩
      rw [← hgf] at HF3 ⊢
      clear hu st HF2 HUF HR2 HU2 HL2 HV2 hgf l0 l1 ll
      obtain ⟨r0, r1, f0, f1, lr⟩ := HR3.out.facts
      have HOK : Hid (ok = false) := Lib.hid (by rw [HO0.out, hA, hL]; rfl)
      have HP := Lib.hid (HR3.out.set none 0 0 0)
      have HUZ := Lib.hid (Up.stored HU3.out HGR.out (.slice none 0 0) (.int .i64 0))
      clear hA hL HFT
      go_wp2
      obtain ⟨z0, z1, -, -, -⟩ := HP.out.facts
      refine bodyPost_ret (by simp [results, Tryz.results87, go_sem, z0, z1]; try rfl) rfl ?_
      rw [HF0.out, HK0.out, HE0.out, HOK.out]
      exact ⟨none, 0, rfl, fun h => absurd rfl h, fun b off e => (by cases e), HUZ.out⟩
  · have HWJ := Lib.hid (HWT.out _ _ (HV2.out.up HUF.out) hL)
    rcases hA : T.all limI with _ | _
    · obtain ⟨rfl, rfl, rfl, rfl⟩ := HFT.out.1 hA
      refine Calls.mono HWJ.out ?_
      rintro e w3 ⟨rfl, hu⟩
      have st := HUF.out.trans hu
      have HF3 := Lib.hid (HF2.out.up hu)
      have HR3 := Lib.hid (HR2.out.up st)
      have HU3 := Lib.hid (HU2.out.trans st)
      have HUS := Lib.hid st
      obtain ⟨gf, hgf⟩ : ∃ gf, gf = w2.heap.size := ⟨_, rfl⟩
      rw [← hgf] at HF3 ⊢
      clear hu st HF2 HUF HR2 HU2 HL2 HV2 hgf l0 l1 ll
      obtain ⟨r0, r1, f0, f1, lr⟩ := HR3.out.facts
      have HOK : Hid (ok = false) := Lib.hid (by rw [HO0.out, hA, hL]; rfl)
      have HP := Lib.hid (HR3.out.set none 0 0 0)
      have HUZ := Lib.hid (Up.stored HU3.out HGR.out (.slice none 0 0) (.int .i64 0))
      clear hA hL HFT
      go_wp2
      obtain ⟨z0, z1, -, -, -⟩ := HP.out.facts
      refine bodyPost_ret (by simp [results, Tryz.results87, go_sem, z0, z1]; try rfl) rfl ?_
      rw [HF0.out, HK0.out, HE0.out, HOK.out]
      exact ⟨none, 0, rfl, fun h => absurd rfl h, fun b off e => (by cases e), HUZ.out⟩
    · obtain ⟨rfl, rfl, rfl, hrd, hfr⟩ := HFT.out.2 hA
      refine Calls.mono HWJ.out ?_
      rintro e w3 ⟨rfl, hu⟩
      have st := HUF.out.trans hu
      have HF3 := Lib.hid (HF2.out.up hu)
      have HR3 := Lib.hid (HR2.out.up st)
      have HU3 := Lib.hid (HU2.out.trans st)
      have HUS := Lib.hid st
      obtain ⟨gf, hgf⟩ : ∃ gf, gf = w2.heap.size := ⟨_, rfl⟩
      rw [← hgf] at HF3 ⊢
      clear hu st HF2 HUF HR2 HU2 HL2 HV2 hgf l0 l1 ll
      obtain ⟨r0, r1, f0, f1, lr⟩ := HR3.out.facts
      have HOK : Hid (ok = true) := Lib.hid (by rw [HO0.out, hA, hL]; rfl)
      have HRD := Lib.hid (hrd.up HUS.out)
      have HFR := Lib.hid hfr
      obtain ⟨y, hy⟩ : ∃ y, y = T.getD c4 0 := ⟨_, rfl⟩
      rw [← hy] at HF3 HF0 ⊢
      have HP := Lib.hid (HR3.out.set A4 c4 c4 y)
      have HUZ := Lib.hid (Up.stored HU3.out HGR.out (.slice A4 c4 c4) (.int .i64 y))
      have HNE : Hid (∀ b off, A4 = some ⟨b, off, none⟩ → b ≠ gr) := Lib.hid (fun b off e => by
        have h1 := hfr b off e
        have h2 := HGL.out
        rw [size_alloc] at h1
        omega)
      have HRP := Lib.hid ((HRD.out.put HNE.out 0 (.slice A4 c4 c4)).put HNE.out 1 (.int .i64 y))
      clear hA hL HFT hrd hfr hy
      obtain ⟨p0, p1, -, -, lp⟩ := HF3.out.facts
      go_wp2
      obtain ⟨z0, z1, -, -, -⟩ := HP.out.facts
      refine bodyPost_ret (by simp [results, Tryz.results87, go_sem, z0, z1]; try rfl) rfl ?_
      rw [HF0.out, HK0.out, HE0.out, HOK.out]
      simp only [if_true]
      rw [HTK.out]
      exact ⟨A4, c4, rfl, HRP.out, fun b off e => by have h1 := HFR.out b off e; have h2 := HSZ.out; rw [size_alloc] at h1; omega, HUZ.out⟩
end Go.Proofs.YtgcmogldiahdpaaGreatDoor
