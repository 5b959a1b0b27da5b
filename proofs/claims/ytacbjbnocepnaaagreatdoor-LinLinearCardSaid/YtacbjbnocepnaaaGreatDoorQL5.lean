/- What a further law needs. -/
import Derived.Test.YtacbjbnocepnaaaGreatDoorQL3
import Derived.Test.YtacbjbnocepnaaaGreatDoorQL4
import Derived.Test.YtacbjbnocepnaaaGreatDoorQHG
import Derived.Deep.RegionLawGrows
namespace Go.Proofs.YtacbjbnocepnaaaGreatDoor
open Go.RowKit Fm
def topsN (xs : List (Int × Int)) : List Int := xs.map fun p => p.1 * (lowN xs : Int).tdiv p.2
theorem topsN_length (xs : List (Int × Int)) : (topsN xs).length = xs.length := by unfold topsN; rw [List.length_map]
def oneOk (xs : List (Int × Int)) : Bool := (topsN xs).all limI && limI (lowN xs : Nat)
def oneF (n : Nat) (xs : List (Int × Int)) : List Int × Int := if oneOk xs then ((topsN xs).take n, (topsN xs).getD n 0) else ([], 0)
def oneK (xs : List (Int × Int)) : Int := if oneOk xs then ((lowN xs : Nat) : Int) else 0
def oneE (xs : List (Int × Int)) : Int := if oneOk xs then 0 else 3
set_option maxHeartbeats 2000000 in
set_option maxRecDepth 10000 in
theorem overOne_any (A : Option Addr) (c n : Nat) (xs : List (Int × Int)) (w : World) (hn : n ≤ 100000) (hlen : xs.length = n + 1) (hr : RdN w A xs) (hx : ∀ p, p ∈ xs → Rng p.1 p.2) (hp : ∀ p, p ∈ xs → 0 < p.2) (ht : Tab w) :
    Calls Tryz.prog 44 #[.slice A xs.length c] w fun e w' => ∃ A' c', e = .returned (.tuple #[.agg #[.slice A' (oneF n xs).1.length c', .int .i64 (oneF n xs).2], .int .i64 (oneK xs), .int .i64 (oneE xs)]) ∧ RdI w' A' (oneF n xs).1 ∧ (∀ b off, A' = some ⟨b, off, none⟩ → w.heap.size ≤ b) ∧ Up w w' := by
  have HCM := Lib.hid (fun W (hu : Up w W) => (show Calls Tryz.prog 85 #[.slice A xs.length c] W fun e w' => ∃ v1 v2, e = .returned (.tuple #[v1, v2]) ∧ RowF W w' v1 (topsN xs) ∧ IV w' v2 (lowN xs : Nat) ∧ Up W w' from common_any A c xs W (by omega) (hr.up hu) hx hp (ht.up hu)))
  have htl : (topsN xs).length = n + 1 := by rw [topsN_length, hlen]
  have HFM := Lib.hid (fun W A2 c2 (h : RdZ W A2 (topsN xs)) => rowForm_any A2 c2 n (topsN xs) W hn htl h)
  have HWT := Lib.hid (fun W v (h : IV W v (lowN xs : Nat)) (hl : limI (lowN xs : Nat) = true) => (show Calls Tryz.prog 86 #[v, .int .i64 1152921504606846976] W fun e w' => e = .returned (.tuple #[.int .i64 (lowN xs : Nat), .bool true]) ∧ Up W w' from by
    have h1 := within_any v _ 1152921504606846976 W h (by decide) (by decide)
    have h2 : within ((lowN xs : Nat) : Int) 1152921504606846976 = true := hl
    simp only [h2, if_true] at h1
    exact h1))
  have HWF := Lib.hid (fun W v (h : IV W v (lowN xs : Nat)) (hl : limI (lowN xs : Nat) = false) => (show Calls Tryz.prog 86 #[v, .int .i64 1152921504606846976] W fun e w' => e = .returned (.tuple #[.int .i64 0, .bool false]) ∧ Up W w' from by
    have h1 := within_any v _ 1152921504606846976 W h (by decide) (by decide)
    have h2 : within ((lowN xs : Nat) : Int) 1152921504606846976 = false := hl
    simp only [h2, if_false, Bool.false_eq_true] at h1
    exact h1))
  have HF0 : Hid (oneF n xs = if oneOk xs then ((topsN xs).take n, (topsN xs).getD n 0) else ([], 0)) := Lib.hid rfl
  have HK0 : Hid (oneK xs = if oneOk xs then ((lowN xs : Nat) : Int) else 0) := Lib.hid rfl
  have HE0 : Hid (oneE xs = if oneOk xs then 0 else 3) := Lib.hid rfl
  have HO0 : Hid (oneOk xs = ((topsN xs).all limI && limI (lowN xs : Nat))) := Lib.hid rfl
  have HTK : Hid (((topsN xs).take n).length = n) := Lib.hid (by rw [List.length_take, htl]; omega)
  rw [htl] at HFM
  clear hr hx hp ht
  generalize oneF n xs = q at *
  generalize oneK xs = K at *
  generalize oneE xs = E at *
  generalize oneOk xs = ok at *
  generalize lowN xs = L at *
  generalize topsN xs = T at *
  rw [hlen] at HCM ⊢
  have HTL := Lib.hid htl
  clear hlen htl
  go_enter Tryz.func44, Tryz.ntmps44
  go_wp2_with fail
  have HR0 := Lib.hid (CellF.new w none 0 0 0)
  have HUR := Lib.hid (Up.alloc w (.cells #[.slice none 0 0, .int .i64 0] 28))
  refine Calls.mono (HCM.out _ (by (repeat (first | exact Below.refl _ _ | exact Hid.out (by assumption) | refine Up.trans ?_ (Up.drew _) | refine Up.trans ?_ (Up.drewN _ _) | refine Up.trans ?_ (Up.alloc _ _) | refine Up.trans ?_ (Hid.out (by assumption)))))) ?_
  rintro e w1 ⟨v1, v2, rfl, ⟨A1, c1, rfl, h1, h2, h3, h4⟩, hv, hu⟩
  obtain ⟨s2, A2, n2, c2, rfl, -⟩ := hv.open_
  have HU1 := Lib.hid (HUR.out.trans hu)
  have HR1 := Lib.hid (HR0.out.up hu)
  have HRZ := Lib.hid h3
  have HV := Lib.hid hv
  clear hu hv h1 h2 h3 h4 HR0 HUR
  rw [HTL.out]
  go_wp2_with fail
  have HL1 := Lib.hid (CellZ.new w1 s2 A2 n2 c2)
  have HUL := Lib.hid (Up.alloc w1 (.cells #[.int .i64 s2, .slice A2 n2 c2] 108))
  refine Calls.mono (HFM.out _ _ _ (HRZ.out.up HUL.out)) ?_
  rintro e w2 ⟨⟨A4, m4, c4, x4, rfl, hff, hft⟩, hu⟩
  have st := HUL.out.trans hu
  have HL2 := Lib.hid (HL1.out.up hu)
  have HV2 := Lib.hid (HV.out.up st)
  have HR2 := Lib.hid (HR1.out.up st)
  have HU2 := Lib.hid (HU1.out.trans st)
  have HSZ := Lib.hid (HU1.out.size)
  have HUL2 := Lib.hid (HUL.out.size)
  obtain ⟨gl, hgl⟩ : ∃ gl, gl = w1.heap.size := ⟨_, rfl⟩
  rw [← hgl] at HL2 ⊢
  have HFT := Lib.hid (And.intro hff hft)
  clear hu st HL1 HUL HV HR1 HU1 hgl hff hft HRZ
  obtain ⟨l0, l1, -, -, ll⟩ := HL2.out.facts
  go_wp2_with fail
  have HF2 := Lib.hid (CellF.new w2 A4 m4 c4 x4)
  have HUF := Lib.hid (Up.alloc w2 (.cells #[.slice A4 m4 c4, .int .i64 x4] 28))
  obtain ⟨gr, hgr⟩ : ∃ gr, gr = w.heap.size := ⟨_, rfl⟩
  have HGR := Lib.hid (show w.heap.size ≤ gr by omega)
  have HGL := Lib.hid (show gr < w1.heap.size + 1 by have := HSZ.out; omega)
  rw [← hgr] at HR2 ⊢
  clear hgr
  rcases hL : limI (L : Int) with _ | _
  · have HWJ := Lib.hid (HWF.out _ _ (HV2.out.up HUF.out) hL)
    rcases hA : T.all limI with _ | _
    · obtain ⟨rfl, rfl, rfl, rfl⟩ := HFT.out.1 hA
      refine Calls.mono HWJ.out ?_
      rintro e w3 ⟨rfl, hu⟩
      have st := HUF.out.trans hu
      have HF3 := Lib.hid (HF2.out.up hu)
      have HR3 := Lib.hid (HR2.out.up st)
      have HU3 := Lib.hid (HU2.out.trans st)
      have HUS := Lib.hid st
      obtain ⟨gf, hgf⟩ : ∃ gf, gf = w2.heap.size := ⟨_, rfl⟩
      rw [← hgf] at HF3 ⊢
      clear hu st HF2 HUF HR2 HU2 HL2 HV2 hgf l0 l1 ll
      obtain ⟨r0, r1, f0, f1, lr⟩ := HR3.out.facts
      have HOK : Hid (ok = false) := Lib.hid (by rw [HO0.out, hA, hL]; rfl)
      have HP := Lib.hid (HR3.out.set none 0 0 0)
      have HUZ := Lib.hid (Up.stored HU3.out HGR.out (.slice none 0 0) (.int .i64 0))
      clear hA hL HFT
      go_wp2
      obtain ⟨z0, z1, -, -, -⟩ := HP.out.facts
      refine bodyPost_ret (by simp [results, Tryz.results44, go_sem, z0, z1]; try rfl) rfl ?_
      rw [HF0.out, HK0.out, HE0.out, HOK.out]
      exact ⟨none, 0, rfl, fun h => absurd rfl h, fun b off e => (by cases e), HUZ.out⟩
    · have hft := HFT.out.2 hA
      refine Calls.mono HWJ.out ?_
      rintro e w3 ⟨rfl, hu⟩
      have st := HUF.out.trans hu
      have HF3 := Lib.hid (HF2.out.up hu)
      have HR3 := Lib.hid (HR2.out.up st)
      have HU3 := Lib.hid (HU2.out.trans st)
      have HUS := Lib.hid st
      obtain ⟨gf, hgf⟩ : ∃ gf, gf = w2.heap.size := ⟨_, rfl⟩
      rw [← hgf] at HF3 ⊢
      clear hu st HF2 HUF HR2 HU2 HL2 HV2 hgf l0 l1 ll
      obtain ⟨r0, r1, f0, f1, lr⟩ := HR3.out.facts
      have HOK : Hid (ok = false) := Lib.hid (by rw [HO0.out, hA, hL]; rfl)
      have HP := Lib.hid (HR3.out.set none 0 0 0)
      have HUZ := Lib.hid (Up.stored HU3.out HGR.out (.slice none 0 0) (.int .i64 0))
      clear hA hL HFT
      go_wp2
      obtain ⟨z0, z1, -, -, -⟩ := HP.out.facts
      refine bodyPost_ret (by simp [results, Tryz.results44, go_sem, z0, z1]; try rfl) rfl ?_
      rw [HF0.out, HK0.out, HE0.out, HOK.out]
      exact ⟨none, 0, rfl, fun h => absurd rfl h, fun b off e => (by cases e), HUZ.out⟩
  · have HWJ := Lib.hid (HWT.out _ _ (HV2.out.up HUF.out) hL)
    rcases hA : T.all limI with _ | _
    · obtain ⟨rfl, rfl, rfl, rfl⟩ := HFT.out.1 hA
      refine Calls.mono HWJ.out ?_
      rintro e w3 ⟨rfl, hu⟩
      have st := HUF.out.trans hu
      have HF3 := Lib.hid (HF2.out.up hu)
      have HR3 := Lib.hid (HR2.out.up st)
      have HU3 := Lib.hid (HU2.out.trans st)
      have HUS := Lib.hid st
      obtain ⟨gf, hgf⟩ : ∃ gf, gf = w2.heap.size := ⟨_, rfl⟩
      rw [← hgf] at HF3 ⊢
      clear hu st HF2 HUF HR2 HU2 HL2 HV2 hgf l0 l1 ll
      obtain ⟨r0, r1, f0, f1, lr⟩ := HR3.out.facts
      have HOK : Hid (ok = false) := Lib.hid (by rw [HO0.out, hA, hL]; rfl)
      have HP := Lib.hid (HR3.out.set none 0 0 0)
      have HUZ := Lib.hid (Up.stored HU3.out HGR.out (.slice none 0 0) (.int .i64 0))
      clear hA hL HFT
      go_wp2
      obtain ⟨z0, z1, -, -, -⟩ := HP.out.facts
      refine bodyPost_ret (by simp [results, Tryz.results44, go_sem, z0, z1]; try rfl) rfl ?_
      rw [HF0.out, HK0.out, HE0.out, HOK.out]
      exact ⟨none, 0, rfl, fun h => absurd rfl h, fun b off e => (by cases e), HUZ.out⟩
    · obtain ⟨rfl, rfl, rfl, hrd, hfr⟩ := HFT.out.2 hA
      refine Calls.mono HWJ.out ?_
      rintro e w3 ⟨rfl, hu⟩
      have st := HUF.out.trans hu
      have HF3 := Lib.hid (HF2.out.up hu)
      have HR3 := Lib.hid (HR2.out.up st)
      have HU3 := Lib.hid (HU2.out.trans st)
      have HUS := Lib.hid st
      obtain ⟨gf, hgf⟩ : ∃ gf, gf = w2.heap.size := ⟨_, rfl⟩
      rw [← hgf] at HF3 ⊢
      clear hu st HF2 HUF HR2 HU2 HL2 HV2 hgf l0 l1 ll
      obtain ⟨r0, r1, f0, f1, lr⟩ := HR3.out.facts
      have HOK : Hid (ok = true) := Lib.hid (by rw [HO0.out, hA, hL]; rfl)
      have HRD := Lib.hid (hrd.up HUS.out)
      have HFR := Lib.hid hfr
      obtain ⟨y, hy⟩ : ∃ y, y = T.getD c4 0 := ⟨_, rfl⟩
      rw [← hy] at HF3 HF0 ⊢
      have HP := Lib.hid (HR3.out.set A4 c4 c4 y)
      have HUZ := Lib.hid (Up.stored HU3.out HGR.out (.slice A4 c4 c4) (.int .i64 y))
      have HNE : Hid (∀ b off, A4 = some ⟨b, off, none⟩ → b ≠ gr) := Lib.hid (fun b off e => by
        have h1 := hfr b off e
        have h2 := HGL.out
        rw [size_alloc] at h1
        omega)
      have HRP := Lib.hid ((HRD.out.put HNE.out 0 (.slice A4 c4 c4)).put HNE.out 1 (.int .i64 y))
      clear hA hL HFT hrd hfr hy
      obtain ⟨p0, p1, -, -, lp⟩ := HF3.out.facts
      go_wp2
      obtain ⟨z0, z1, -, -, -⟩ := HP.out.facts
      refine bodyPost_ret (by simp [results, Tryz.results44, go_sem, z0, z1]; try rfl) rfl ?_
      rw [HF0.out, HK0.out, HE0.out, HOK.out]
      simp only [if_true]
      rw [HTK.out]
      exact ⟨A4, c4, rfl, HRP.out, fun b off e => by have h1 := HFR.out b off e; have h2 := HSZ.out; rw [size_alloc] at h1; omega, HUZ.out⟩
end Go.Proofs.YtacbjbnocepnaaaGreatDoor
namespace Go.Proofs.YtacbjbnocepnaaaGreatDoor
open Go.RowKit Fm
def colN (fs : List (List Int × Int)) (i : Nat) : List (Int × Int) := fs.map fun f => ((rowF f).getD i 0, 1)
def sumQ (fs : List (List Int × Int)) (ms : List (Int × Int)) (i : Nat) : Rat := dotQ (colN fs i) ms
def sumsN (fs : List (List Int × Int)) (ms : List (Int × Int)) (k : Nat) : List (Int × Int) := (List.range k).map fun i => ((sumQ fs ms i).num, ((sumQ fs ms i).den : Int))
theorem sumsN_length (fs : List (List Int × Int)) (ms : List (Int × Int)) (k : Nat) : (sumsN fs ms k).length = k := by simp [sumsN]
theorem sumsN_next (fs : List (List Int × Int)) (ms : List (Int × Int)) (k : Nat) : sumsN fs ms (k + 1) = sumsN fs ms k ++ [((sumQ fs ms k).num, ((sumQ fs ms k).den : Int))] := by
  unfold sumsN
  rw [List.range_succ, List.map_append]
  rfl
def combOk (n : Nat) (fs : List (List Int × Int)) (ms : List (Int × Int)) : Bool := (List.range (n + 1)).all (fun i => fits (sumQ fs ms i)) && oneOk (sumsN fs ms (n + 1))
def combF (n : Nat) (fs : List (List Int × Int)) (ms : List (Int × Int)) : List Int × Int := if combOk n fs ms then oneF n (sumsN fs ms (n + 1)) else ([], 0)
def combK (n : Nat) (fs : List (List Int × Int)) (ms : List (Int × Int)) : Int := if combOk n fs ms then oneK (sumsN fs ms (n + 1)) else 0
def combE (n : Nat) (fs : List (List Int × Int)) (ms : List (Int × Int)) : Int := if combOk n fs ms then 0 else 3
theorem validFs_mem {n : Int} {fs : List (List Int × Int)} (h : validFs n fs = true) : ∀ f, f ∈ fs → validF n f = true := by
  simp only [validFs, Bool.and_eq_true] at h
  exact fun f hf => (List.all_eq_true.1 h.2) f hf
theorem validFs_dim {n : Int} {fs : List (List Int × Int)} (h : validFs n fs = true) : ∃ m : Nat, n = m ∧ m ≤ 8 ∧ fs.length ≤ 120 := by
  simp only [validFs, Bool.and_eq_true, decide_eq_true_eq, dimI] at h
  exact ⟨n.toNat, by omega, by omega, h.1.2⟩
theorem validF_len {n : Nat} {f : List Int × Int} (h : validF n f = true) : (rowF f).length = n + 1 := by
  simp only [validF, Bool.and_eq_true, decide_eq_true_eq] at h
  have := h.1.1.2
  simp [rowF]
  omega
theorem getD_lim {n : Int} {f : List Int × Int} (h : validF n f = true) (i : Nat) : limI ((rowF f).getD i 0) = true := by
  have hl := rowF_lim h
  rw [List.all_eq_true] at hl
  rcases getD_mem0 (rowF f) i with h0 | h0
  · rw [h0]; decide
  · exact hl _ h0
theorem colN_ok {n : Int} {fs : List (List Int × Int)} (h : validFs n fs = true) (i : Nat) : okAll (colN fs i) = true := by
  unfold okAll colN
  rw [List.all_eq_true]
  intro p hp
  obtain ⟨f, hf, rfl⟩ := List.mem_map.1 hp
  exact okNum_one (getD_lim (validFs_mem h f hf) i)
theorem colN_rng {n : Int} {fs : List (List Int × Int)} (h : validFs n fs = true) (i : Nat) : ∀ p, p ∈ colN fs i → Rng p.1 p.2 := by
  intro p hp
  obtain ⟨f, hf, rfl⟩ := List.mem_map.1 hp
  have := getD_lim (validFs_mem h f hf) i
  simp only [limI, decide_eq_true_eq] at this
  exact ⟨by omega, by omega, by omega, by omega⟩
theorem fits_rng {q : Rat} (h : fits q = true) : Rng q.num q.den := by
  unfold fits within at h
  simp at h
  have := q.den_nz
  unfold Rng
  omega
theorem colN_length (fs : List (List Int × Int)) (i : Nat) : (colN fs i).length = fs.length := by unfold colN; rw [List.length_map]
theorem combOk_not {n : Nat} {fs : List (List Int × Int)} {ms : List (Int × Int)} {k : Nat} (hk : k < n + 1) (h : fits (sumQ fs ms k) = false) : combOk n fs ms = false := by
  unfold combOk
  rw [Bool.and_eq_false_iff]
  left
  rw [List.all_eq_false]
  exact ⟨k, List.mem_range.2 hk, by simp [h]⟩
theorem comb_one {n : Nat} {fs : List (List Int × Int)} {ms : List (Int × Int)} (h : (List.range (n + 1)).all (fun i => fits (sumQ fs ms i)) = true) : combF n fs ms = oneF n (sumsN fs ms (n + 1)) ∧ combK n fs ms = oneK (sumsN fs ms (n + 1)) ∧ combE n fs ms = oneE (sumsN fs ms (n + 1)) := by
  unfold combF combK combE combOk
  rw [h]
  unfold oneF oneK oneE
  cases oneOk (sumsN fs ms (n + 1)) <;> simp
theorem sumsN_rng {n : Nat} {fs : List (List Int × Int)} {ms : List (Int × Int)} (h : (List.range (n + 1)).all (fun i => fits (sumQ fs ms i)) = true) : ∀ p, p ∈ sumsN fs ms (n + 1) → Rng p.1 p.2 ∧ 0 < p.2 := by
  intro p hp
  obtain ⟨i, hi, rfl⟩ := List.mem_map.1 hp
  refine ⟨fits_rng ((List.all_eq_true.1 h) i hi), ?_⟩
  have := (sumQ fs ms i).den_nz
  show (0 : Int) < ((sumQ fs ms i).den : Int)
  omega
set_option maxHeartbeats 4000000 in
set_option maxRecDepth 10000 in
theorem linCombine_ok (A B : Option Addr) (c d n : Nat) (fs : List (List Int × Int)) (ms : List (Int × Int)) (w : World) (hc : fs.length ≤ c) (hcm : c ≤ maxLen) (hr : RdE eltForm w A fs) (hd : ms.length ≤ d) (hdm : d ≤ maxLen) (hs : RdN w B ms)
    (hv : validFs n fs = true) (hm : okAll ms = true) (hlm : fs.length = ms.length) (hx : ∀ p, p ∈ ms → Rng p.1 p.2) (ht : Tab w) :
    Calls Tryz.prog 10 #[.int .i64 n, .slice A fs.length c, .slice B ms.length d] w fun e w' => ∃ A' c', e = .returned (.tuple #[.agg #[.slice A' (combF n fs ms).1.length c', .int .i64 (combF n fs ms).2], .int .i64 (combK n fs ms), .int .i64 (combE n fs ms)]) ∧ RdI w' A' (combF n fs ms).1 ∧ (∀ b off, A' = some ⟨b, off, none⟩ → w.heap.size ≤ b) ∧ Up w w' := by
  obtain ⟨n', hn', hn8, hf120⟩ := validFs_dim hv
  have hn : n ≤ 8 := by omega
  clear hn' hn8
  have HV := Lib.hid (fun W (hu : Up w W) => validForms_any A c n fs W (by omega) (hr.up hu))
  rw [hv] at HV
  have HP := Lib.hid (fun W (hu : Up w W) => linValidNums_any B d ms W hd hdm (hs.up hu) hx (ht.up hu))
  rw [hm] at HP
  have hmk : ∀ W, (Instr.makeSlice 23 (.int .i64 0) (.int .i64 ((n : Int) + 1))).run Tryz.prog W = .ok (.slice (some ⟨W.heap.size, 0, none⟩) 0 (n + 1)) (W.alloc (.cells (zeroNums (n + 1)) 55)) := fun W => by
    have := mkNums0 (n + 1) (by omega) W
    simpa using this
  rw [← hlm] at HP ⊢
  have HLM := Lib.hid hlm
  have HVM := Lib.hid (And.intro hv hm)
  have HCC := Lib.hid (And.intro hc hcm)
  have HDD := Lib.hid (And.intro hd hdm)
  clear hlm hv hm hc hcm hd hdm
  go_enter Tryz.func10, Tryz.ntmps10
  go_wp2_with fail
  refine Calls.mono (HV.out _ (by (repeat (first | exact Below.refl _ _ | exact Hid.out (by assumption) | refine Up.trans ?_ (Up.drew _) | refine Up.trans ?_ (Up.drewN _ _) | refine Up.trans ?_ (Up.alloc _ _) | refine Up.trans ?_ (Hid.out (by assumption)))))) ?_
  rintro e w1 ⟨rfl, hu⟩
  have HU1 := Lib.hid hu
  clear hu
  go_wp2_with fail
  refine Calls.mono (HP.out _ (by (repeat (first | exact Below.refl _ _ | exact Hid.out (by assumption) | refine Up.trans ?_ (Up.drew _) | refine Up.trans ?_ (Up.drewN _ _) | refine Up.trans ?_ (Up.alloc _ _) | refine Up.trans ?_ (Hid.out (by assumption)))))) ?_
  rintro e w2 ⟨rfl, hu⟩
  have HU2 := Lib.hid hu
  clear hu
  go_wp2_with fail
  clear hmk
  have HR2 := Lib.hid ((CellF.new w none 0 0 0).up (HU1.out.trans HU2.out))
  have HUW := Lib.hid (((Up.alloc w (.cells #[.slice none 0 0, .int .i64 0] 28)).trans HU1.out).trans HU2.out)
  have HOW := Lib.hid (OwE.madeN w2 w2 (n + 1) (by omega) (Up.refl _))
  have HUB := Lib.hid (Up.alloc w2 (.cells (zeroNums (n + 1)) 55))
  obtain ⟨g6, hg6⟩ : ∃ g6, g6 = w.heap.size := ⟨_, rfl⟩
  have HG6 := Lib.hid (show w.heap.size ≤ g6 by omega)
  rw [← hg6] at HR2 ⊢
  clear hg6 HU1 HU2
  generalize w2.alloc (.cells (zeroNums (n + 1)) 55) = wB at *
  go_loopw [9, 37] (fun v i wr => ∃ k : Nat, k ≤ n + 1 ∧ i = .int .i64 k ∧ Hid ((List.range k).all (fun i => fits (sumQ fs ms i)) = true) ∧ Hid (OwE eltN w2 wr 55 v (sumsN fs ms k)) ∧ Hid (Up w2 wr)) (fun _ i _ => n + 1 - (intOf i).toNat)
  case atStart => exact ⟨0, by omega, rfl, Lib.hid rfl, HOW, HUB⟩
  case round =>
    obtain ⟨k, hk, rfl, HFIT, HOK, HU⟩ := hrel
    by_cases hkn : k < n + 1
    · generalize wr = wo at *
      have i9 : (k : Int) < (n : Int) + 1 := by omega
      go_wp2_with fail
      go_loopw [11, 42] (fun v i wi => ∃ j : Nat, j ≤ fs.length ∧ i = .int .i64 j ∧ Hid (OwE eltN wo wi 55 v ((colN fs k).take j)) ∧ Hid (Up wo wi)) (fun _ i _ => fs.length - (intOf i).toNat)
      case atStart => exact ⟨0, by omega, rfl, Lib.hid (OwE.nil _ _ _ _), Lib.hid (Up.refl _)⟩
      case round =>
        obtain ⟨j, hj, rfl, HCOL, HUI⟩ := hrel
        by_cases hjl : j < fs.length
        · obtain ⟨b, off, B5, c5, rfl, hbb, e0, e1, h3, h4, h5⟩ := (hr.up ((HUW.out.trans HU.out).trans HUI.out)).f hjl
          have hfl : (rowF fs[j]).length = n + 1 := validF_len (validFs_mem HVM.out.1 fs[j] (List.getElem_mem hjl))
          have HNEXT : Hid ((colN fs k).take (j + 1) = (colN fs k).take j ++ [((rowF fs[j]).getD k 0, 1)]) := Lib.hid (by
            rw [List.take_succ_eq_append_getElem (by rw [colN_length]; exact hjl)]
            simp [colN])
          have HLEN : Hid (((colN fs k).take j).length ≤ 1000000000) := Lib.hid (by rw [List.length_take, colN_length]; omega)
          have hgd : (rowF fs[j]).getD k 0 = (rowF fs[j])[k]'(by omega) := by rw [List.getD_eq_getElem?_getD, List.getElem?_eq_getElem (by omega)]; rfl
          have HAT := Lib.hid (fun W (hu : Up wr W) => linAt_any B5 c5 k fs[j] W (by omega) (h5.up hu))
          rw [hgd] at HNEXT
          generalize (rowF fs[j])[k]'(by omega) = y at *
          generalize fs[j] = f at *
          clear hfl hgd h3 h4 h5
          have HUF := Lib.hid (Up.alloc wr (.cells #[.slice B5 f.1.length c5, .int .i64 f.2] 28))
          go_wp2_with fail
          refine Calls.mono (HAT.out _ HUF.out) ?_
          rintro e w3 ⟨rfl, hu⟩
          have HU3 := Lib.hid hu
          clear hu e0 e1 hbb
          go_wp2_with (at_builtin; refine wpList_pushE eltN wo rfl (.tmp 46) (.tmp 50) 23 55 rfl _ 16 Tryz.underlying23 info_numz rfl znum_nod (by decide) _ _ rfl (HCOL.out.up ((HUF.out.trans HU3.out).trans (Up.alloc _ _))) (by (repeat (first | exact Below.refl _ _ | exact Hid.out (by assumption) | refine Up.trans ?_ (Up.drew _) | refine Up.trans ?_ (Up.drewN _ _) | refine Up.trans ?_ (Up.alloc _ _) | refine Up.trans ?_ (Hid.out (by assumption))))) ⟨w3.heap.size, 0, none⟩ rfl [.int .i64 y, .int .i64 1] (y, 1) (new_cells w3 [.int .i64 y, .int .i64 1] _) rfl HLEN.out ?_; intro v' w' hown' hup')
          exact ⟨⟨j + 1, by omega, by simp, by rw [HNEXT.out]; exact Lib.hid hown', Lib.hid hup'⟩, by simp [intOf]; omega⟩
        · have hje : j = fs.length := by omega
          subst hje
          rw [List.take_of_length_le (by rw [colN_length]; exact Nat.le_refl _)] at HCOL
          obtain ⟨A5, c5, hv5, k1, k2, k3, -⟩ := HCOL.out.read (fun h => h)
          rw [colN_length] at hv5 k1
          have HLN := Lib.hid (And.intro k1 (And.intro k2 k3.n))
          rw [hv5]
          clear hv5 k1 k2 k3
          have HDOT := Lib.hid (fun W (hu : Up wr W) => (show Calls Tryz.prog 43 #[.slice A5 fs.length c5, .slice B fs.length d] W fun e w' => e = .returned (.tuple #[.agg #[.int .i64 (numX true (sumQ fs ms k)), .int .i64 (numY true (sumQ fs ms k))], .int .i64 (numE true (sumQ fs ms k))]) ∧ Up W w' from by
            have h9 := numDot_val A5 B c5 d (colN fs k) ms W (by rw [colN_length]; exact HLM.out) (by rw [colN_length]; omega) (by rw [colN_length]; exact HLN.out.1) HLN.out.2.1 HDD.out.1 HDD.out.2 (HLN.out.2.2.up hu) (hs.up ((HUW.out.trans HU.out).trans (HUI.out.trans hu))) (colN_ok HVM.out.1 k) HVM.out.2 (colN_rng HVM.out.1 k) hx (ht.up ((HUW.out.trans HU.out).trans (HUI.out.trans hu)))
            rw [colN_length, ← HLM.out] at h9
            exact h9))
          have HSN := Lib.hid (sumsN_next fs ms k)
          have HSL := Lib.hid (show (sumsN fs ms k).length ≤ 1000000000 by rw [sumsN_length]; omega)
          have HFN : Hid (fits (sumQ fs ms k) = true → (List.range (k + 1)).all (fun i => fits (sumQ fs ms i)) = true) := Lib.hid (fun h => by
            rw [List.range_succ, List.all_append, HFIT.out]; simp [h])
          have HBAD := Lib.hid (fun h => combOk_not (n := n) (fs := fs) (ms := ms) hkn h)
          generalize sumQ fs ms k = q at *
          rcases hq : fits q with _ | _
          · have HB2 := Lib.hid (HBAD.out hq)
            have HR3 := Lib.hid (HR2.out.up (HU.out.trans HUI.out))
            simp only [numX, numY, numE, hq, Bool.and_false, if_false, if_true, Bool.false_eq_true] at HDOT
            clear hq HBAD HFN
            go_wp2_with fail
            refine Calls.mono (HDOT.out _ (Up.refl _)) ?_
            rintro e w5 ⟨rfl, hu⟩
            have HU5 := Lib.hid hu
            have HR5 := Lib.hid ((HR3.out.up hu).up (Up.alloc w5 (.cells #[.int .i64 0, .int .i64 0] 55)))
            obtain ⟨r0, r1, f0, f1, lr⟩ := HR5.out.facts
            have HP := Lib.hid (HR5.out.set none 0 0 0)
            have HUZ := Lib.hid (Up.stored (((HUW.out.trans HU.out).trans (HUI.out.trans hu)).trans (Up.alloc w5 (.cells #[.int .i64 0, .int .i64 0] 55))) HG6.out (.slice none 0 0) (.int .i64 0))
            clear hu
            go_wp2
            obtain ⟨z0, z1, -, -, -⟩ := HP.out.facts
            refine bodyPost_ret (by simp [results, Tryz.results10, go_sem, z0, z1]; try rfl) rfl ?_
            unfold combF combK combE
            rw [HB2.out]
            exact ⟨none, 0, rfl, fun h => absurd rfl h, fun b off e => (by cases e), HUZ.out⟩
          · have HF2 := Lib.hid (HFN.out hq)
            simp only [numX, numY, numE, hq, Bool.and_true, if_true] at HDOT
            clear hq HBAD HFN
            go_wp2_with fail
            refine Calls.mono (HDOT.out _ (Up.refl _)) ?_
            rintro e w5 ⟨rfl, hu⟩
            have HU5 := Lib.hid hu
            have HC5 := Lib.hid (CellN.new w5 q.num q.den)
            have HUC := Lib.hid (Up.alloc w5 (.cells #[.int .i64 q.num, .int .i64 q.den] 55))
            obtain ⟨wC, hwC⟩ : ∃ wC, wC = w5.alloc (.cells #[.int .i64 q.num, .int .i64 q.den] 55) := ⟨_, rfl⟩
            clear hu
            go_upto_region 18 with fail
            rw [← hwC] at HC5 HUC ⊢
            clear hwC
            obtain ⟨o0, o1, -, -, lo⟩ := HC5.out.facts
            go_wp2_with (at_builtin; refine wpList_pushE eltN w2 rfl (.tmp 63) (.tmp 65) 23 55 rfl _ 16 Tryz.underlying23 info_numz rfl znum_nod (by decide) _ _ rfl (HOK.out.up ((HUI.out.trans HU5.out).trans (HUC.out.trans (Up.alloc _ _)))) ((HU.out.trans HUI.out).trans (HU5.out.trans (HUC.out.trans (Up.alloc _ _)))) ⟨wC.heap.size, 0, none⟩ rfl [.int .i64 q.num, .int .i64 q.den] (q.num, (q.den : Int)) (new_cells wC [.int .i64 q.num, .int .i64 q.den] _) rfl HSL.out ?_; intro v' w' hown' hup')
            exact ⟨⟨k + 1, by omega, by simp, HF2, by rw [HSN.out]; exact Lib.hid hown', Lib.hid hup'⟩, by simp [intOf]; omega⟩
    · have hke : k = n + 1 := by omega
      subst hke
      obtain ⟨A5, c5, hv5, k1, k2, k3, -⟩ := HOK.out.read (fun h => h)
      rw [sumsN_length] at hv5 k1
      have HRD := Lib.hid k3.n
      have HCO := Lib.hid (comb_one HFIT.out)
      have HRR := Lib.hid (sumsN_rng HFIT.out)
      rw [hv5]
      clear hv5 k1 k2 k3
      have HON := Lib.hid (fun W (hu : Up wr W) => (show Calls Tryz.prog 44 #[.slice A5 (n + 1) c5] W fun e w' => ∃ A' c', e = .returned (.tuple #[.agg #[.slice A' (combF n fs ms).1.length c', .int .i64 (combF n fs ms).2], .int .i64 (combK n fs ms), .int .i64 (combE n fs ms)]) ∧ RdI w' A' (combF n fs ms).1 ∧ (∀ b off, A' = some ⟨b, off, none⟩ → W.heap.size ≤ b) ∧ Up W w' from by
        have h9 := overOne_any A5 c5 n (sumsN fs ms (n + 1)) W (by omega) (by rw [sumsN_length]) (HRD.out.up hu) (fun p hp => (HRR.out p hp).1) (fun p hp => (HRR.out p hp).2) (ht.up ((HUW.out.trans HU.out).trans hu))
        rw [sumsN_length, ← HCO.out.1, ← HCO.out.2.1, ← HCO.out.2.2] at h9
        exact h9))
      have HR3 := Lib.hid (HR2.out.up HU.out)
      have HGS := Lib.hid (show g6 < wr.heap.size from HR3.out.lt)
      obtain ⟨cf, hcf⟩ : ∃ cf, cf = combF n fs ms := ⟨_, rfl⟩
      obtain ⟨ck, hck⟩ : ∃ ck, ck = combK n fs ms := ⟨_, rfl⟩
      obtain ⟨ce, hce⟩ : ∃ ce, ce = combE n fs ms := ⟨_, rfl⟩
      rw [← hcf, ← hck, ← hce] at HON
      have HCE := Lib.hid (And.intro hcf (And.intro hck hce))
      clear hcf hck hce
      have HSZ := Lib.hid ((HUW.out.trans HU.out).size)
      clear HCO HRR HRD hr hs
      go_wp2_with fail
      refine Calls.mono (HON.out _ (Up.refl _)) ?_
      rintro e w5 ⟨A6, c6, rfl, hrd, hfr, hu⟩
      have HR5 := Lib.hid (HR3.out.up hu)
      obtain ⟨r0, r1, f0, f1, lr⟩ := HR5.out.facts
      have HP := Lib.hid (HR5.out.set A6 cf.1.length c6 cf.2)
      have HUZ := Lib.hid (Up.stored ((HUW.out.trans HU.out).trans hu) HG6.out (.slice A6 cf.1.length c6) (.int .i64 cf.2))
      have HNE : Hid (∀ b off, A6 = some ⟨b, off, none⟩ → b ≠ g6) := Lib.hid (fun b off e => by have h1 := hfr b off e; have h2 := HGS.out; omega)
      have HRP := Lib.hid ((hrd.put HNE.out 0 (.slice A6 cf.1.length c6)).put HNE.out 1 (.int .i64 cf.2))
      have HFR := Lib.hid hfr
      clear hrd hfr hu
      go_wp2
      obtain ⟨z0, z1, -, -, -⟩ := HP.out.facts
      refine bodyPost_ret (by simp [results, Tryz.results10, go_sem, z0, z1]; try rfl) rfl ?_
      rw [← HCE.out.1, ← HCE.out.2.1, ← HCE.out.2.2]
      exact ⟨A6, c6, rfl, HRP.out, fun b off e => (by have h1 := HFR.out b off e; have h2 := HSZ.out; omega), HUZ.out⟩
end Go.Proofs.YtacbjbnocepnaaaGreatDoor
namespace Go.Proofs.YtacbjbnocepnaaaGreatDoor
open Go.RowKit Fm
theorem lcmR_dvd (qs : List Nat) : ∀ l m, lcmR l qs ∣ m ↔ l ∣ m ∧ ∀ q, q ∈ qs → q ∣ m := by
  induction qs with
  | nil => intro l m; simp [lcmR]
  | cons q qs ih =>
    intro l m
    rw [lcmR, ih, Nat.lcm_dvd_iff]
    simp [and_assoc]
end Go.Proofs.YtacbjbnocepnaaaGreatDoor
namespace Go.Proofs.YtacbjbnocepnaaaGreatDoor
open Go.RowKit Fm
def EV (g X : Nat → Rat) : Nat → Rat
  | 0 => 0
  | n + 1 => EV g X n + g n * X n
theorem EV_congr {g h X : Nat → Rat} : ∀ n, (∀ i, i < n → g i = h i) → EV g X n = EV h X n := by
  intro n
  induction n with
  | zero => intro _; rfl
  | succ n ih => intro hh; simp only [EV]; rw [ih (fun i hi => hh i (by omega)), hh n (by omega)]
theorem EV_mul (c : Rat) (g X : Nat → Rat) : ∀ n, EV (fun i => c * g i) X n = c * EV g X n := by
  intro n
  induction n with
  | zero => simp only [EV]; rw [Rat.mul_zero]
  | succ n ih => simp only [EV]; rw [ih, Rat.mul_add, Rat.mul_assoc]
theorem EV_add (g h X : Nat → Rat) : ∀ n, EV (fun i => g i + h i) X n = EV g X n + EV h X n := by
  intro n
  induction n with
  | zero => simp only [EV]; rw [Rat.add_zero]
  | succ n ih =>
    simp only [EV]
    rw [ih, Rat.add_mul, Rat.add_assoc, Rat.add_assoc, ← Rat.add_assoc (EV h X n), Rat.add_comm (EV h X n), Rat.add_assoc]
theorem EV_zero (X : Nat → Rat) : ∀ n, EV (fun _ => 0) X n = 0 := by
  intro n
  induction n with
  | zero => rfl
  | succ n ih => simp only [EV]; rw [ih, Rat.zero_mul, Rat.add_zero]
def numAt (m : List (Int × Int)) (i : Nat) : Rat := ratOf (m.getD i (0, 1)).1 (m.getD i (0, 1)).2
theorem dotQ_EV (l m : List (Int × Int)) (h : l.length = m.length) : ∀ k, k ≤ l.length → dotQ (l.take k) (m.take k) = EV (numAt l) (numAt m) k := by
  intro k
  induction k with
  | zero => intro _; rfl
  | succ k ih =>
    intro hk
    have h1 : k < l.length := by omega
    have h2 : k < m.length := by omega
    rw [List.take_succ_eq_append_getElem h1, List.take_succ_eq_append_getElem h2, dotQ_append _ _ _ _ (by rw [List.length_take, List.length_take]; omega), ih (by omega)]
    simp only [EV, dotQ, Rat.add_zero, numAt]
    rw [List.getD_eq_getElem?_getD, List.getElem?_eq_getElem h1, List.getD_eq_getElem?_getD, List.getElem?_eq_getElem h2]
    rfl
theorem valQ_EV (f : List Int × Int) (xs : List (Int × Int)) (h : f.1.length = xs.length) : valQ f xs = EV (fun i => (((rowF f).getD i 0 : Int) : Rat)) (numAt (xs ++ [(1, 1)])) (xs.length + 1) := by
  have hl : ((rowF f).map fun y => (y, (1 : Int))).length = (xs ++ [((1 : Int), (1 : Int))]).length := by simp [rowF, h]
  have hk : ((rowF f).map fun y => (y, (1 : Int))).length = xs.length + 1 := by simp [rowF, h]
  have h1 := dotQ_EV _ _ hl (xs.length + 1) (by omega)
  rw [List.take_of_length_le (by omega), List.take_of_length_le (by simp)] at h1
  unfold valQ
  rw [h1]
  refine EV_congr _ fun i hi => ?_
  unfold numAt
  have hi2 : i < (rowF f).length := by simpa [rowF, h] using hi
  rw [List.getD_eq_getElem?_getD, List.getElem?_map, List.getElem?_eq_getElem hi2, List.getD_eq_getElem?_getD, List.getElem?_eq_getElem hi2]
  exact ratOf_one _
def linR (xs : List (Int × Int)) : List (List Int × Int) → List (Int × Int) → Rat
  | f :: fs, m :: ms => ratOf m.1 m.2 * valQ f xs + linR xs fs ms
  | _, _ => 0
theorem sumQ_cons (f : List Int × Int) (fs : List (List Int × Int)) (m : Int × Int) (ms : List (Int × Int)) (i : Nat) : sumQ (f :: fs) (m :: ms) i = ratOf m.1 m.2 * (((rowF f).getD i 0 : Int) : Rat) + sumQ fs ms i := by
  unfold sumQ colN
  simp only [List.map_cons, dotQ]
  rw [ratOf_one, Rat.mul_comm]
theorem EV_sumQ (xs : List (Int × Int)) : ∀ (fs : List (List Int × Int)) (ms : List (Int × Int)), fs.length = ms.length → (∀ f, f ∈ fs → f.1.length = xs.length) → EV (sumQ fs ms) (numAt (xs ++ [(1, 1)])) (xs.length + 1) = linR xs fs ms := by
  intro fs
  induction fs with
  | nil =>
    intro ms _ _
    have h0 : sumQ [] ms = fun _ => 0 := by funext i; unfold sumQ colN; simp [dotQ]
    rw [h0, EV_zero]
    simp [linR]
  | cons f fs ih =>
    intro ms hl hf
    cases ms with
    | nil => simp at hl
    | cons m ms =>
      have h1 : sumQ (f :: fs) (m :: ms) = fun i => ratOf m.1 m.2 * (((rowF f).getD i 0 : Int) : Rat) + sumQ fs ms i := by funext i; exact sumQ_cons f fs m ms i
      rw [h1, EV_add (fun i => ratOf m.1 m.2 * (((rowF f).getD i 0 : Int) : Rat)) (sumQ fs ms), EV_mul, ih ms (by simpa using hl) (fun g hg => hf g (List.mem_cons_of_mem _ hg)), ← valQ_EV f xs (hf f (List.mem_cons_self ..))]
      rfl
def linS (xs : List (Int × Int)) (fs : List (List Int × Int)) (ms : List (Int × Int)) : Rat := (fs.zip ms).foldl (fun a p => a + ratOf p.2.1 p.2.2 * valQ p.1 xs) 0
theorem linS_next (xs : List (Int × Int)) (fs : List (List Int × Int)) (ms : List (Int × Int)) (i : Nat) (h1 : i < fs.length) (h2 : i < ms.length) : linS xs (fs.take (i + 1)) (ms.take (i + 1)) = linS xs (fs.take i) (ms.take i) + ratOf ms[i].1 ms[i].2 * valQ fs[i] xs := by
  unfold linS
  rw [List.take_succ_eq_append_getElem h1, List.take_succ_eq_append_getElem h2, List.zip_append (by rw [List.length_take, List.length_take]; omega), List.foldl_append]
  rfl
theorem linS_linR (xs : List (Int × Int)) (fs : List (List Int × Int)) (ms : List (Int × Int)) : linS xs fs ms = linR xs fs ms := by
  have key : ∀ (fs : List (List Int × Int)) (ms : List (Int × Int)) (a : Rat), (fs.zip ms).foldl (fun a p => a + ratOf p.2.1 p.2.2 * valQ p.1 xs) a = a + linR xs fs ms := by
    intro fs
    induction fs with
    | nil => intro ms a; simp [linR, Rat.add_zero]
    | cons f fs ih =>
      intro ms a
      cases ms with
      | nil => simp [linR, Rat.add_zero]
      | cons m ms =>
        simp only [List.zip_cons_cons, List.foldl_cons, linR]
        rw [ih, Rat.add_assoc]
  unfold linS
  rw [key, Rat.zero_add]
theorem topsN_at (xs : List (Int × Int)) (hp : ∀ p, p ∈ xs → 0 < p.2) (i : Nat) (hi : i < xs.length) : (((topsN xs).getD i 0 : Int) : Rat) = ((lowN xs : Nat) : Rat) * ratOf xs[i].1 xs[i].2 := by
  have h1 : (topsN xs).getD i 0 = xs[i].1 * (lowN xs : Int).tdiv xs[i].2 := by
    rw [List.getD_eq_getElem?_getD, List.getElem?_eq_getElem (by rw [topsN_length]; exact hi)]
    simp [topsN]
  have h2 := hp _ (List.getElem_mem hi)
  have h3 : xs[i].2.natAbs ∣ lowN xs := ((lcmR_dvd (xs.map fun p => p.2.natAbs) 1 (lowN xs)).1 (Nat.dvd_refl _)).2 _ (List.mem_map_of_mem (f := fun p : Int × Int => p.2.natAbs) (List.getElem_mem hi))
  rw [h1]
  generalize xs[i].1 = x at *
  generalize xs[i].2 = y at *
  obtain ⟨Y, rfl⟩ : ∃ Y : Nat, y = (Y : Int) := ⟨y.toNat, by omega⟩
  rw [Int.natAbs_natCast] at h3
  obtain ⟨u, hu⟩ := h3
  rw [hu, Int.natCast_mul, Int.mul_tdiv_cancel_left _ (by omega)]
  have h4 : (((Y * u : Nat)) : Rat) = (((Y * u : Nat) : Int) : Rat) := (Rat.intCast_natCast _).symm
  rw [h4, int_divInt, int_divInt ((Y * u : Nat) : Int)]
  unfold ratOf
  rw [Rat.divInt_mul_divInt, Rat.divInt_eq_divInt_iff (by omega) (by omega), Int.natCast_mul]
  simp only [Int.one_mul, Int.mul_one]
  rw [Int.mul_comm ((Y : Int) * u) x, Int.mul_assoc, Int.mul_comm (Y : Int) u]
theorem rowF_split (T : List Int) (n : Nat) (h : T.length = n + 1) : rowF (T.take n, T.getD n 0) = T := by
  unfold rowF
  have h1 : T.getD n 0 = T[n] := by rw [List.getD_eq_getElem?_getD, List.getElem?_eq_getElem (by omega)]; rfl
  simp only
  rw [h1, ← List.take_succ_eq_append_getElem (by omega), List.take_of_length_le (by omega)]
theorem comb_value (n : Nat) (fs : List (List Int × Int)) (ms xs : List (Int × Int)) (hl : fs.length = ms.length) (hf : ∀ f, f ∈ fs → f.1.length = xs.length) (hx : xs.length = n) (h : combOk n fs ms = true) :
    0 < combK n fs ms ∧ (combF n fs ms).1.length = n ∧ valQ (combF n fs ms) xs = (combK n fs ms : Rat) * linS xs fs ms := by
  have ho : oneOk (sumsN fs ms (n + 1)) = true := by
    unfold combOk at h
    rw [Bool.and_eq_true] at h
    exact h.2
  have hpos : ∀ p, p ∈ sumsN fs ms (n + 1) → 0 < p.2 := fun p hp => by
    obtain ⟨i, -, rfl⟩ := List.mem_map.1 hp
    have := (sumQ fs ms i).den_nz
    show (0 : Int) < ((sumQ fs ms i).den : Int)
    omega
  have hL := lowN_pos _ hpos
  have htl : (topsN (sumsN fs ms (n + 1))).length = n + 1 := by rw [topsN_length, sumsN_length]
  have e1 : combF n fs ms = ((topsN (sumsN fs ms (n + 1))).take n, (topsN (sumsN fs ms (n + 1))).getD n 0) := by unfold combF oneF; rw [h, ho]; rfl
  have e2 : combK n fs ms = (lowN (sumsN fs ms (n + 1)) : Nat) := by unfold combK oneK; rw [h, ho]; rfl
  have e3 : (combF n fs ms).1.length = n := by rw [e1]; simp only; rw [List.length_take, htl]; omega
  refine ⟨by rw [e2]; omega, e3, ?_⟩
  rw [valQ_EV _ xs (by rw [e3, hx]), e1, rowF_split _ n htl, e2, linS_linR, ← EV_sumQ xs fs ms hl hf, Rat.intCast_natCast, ← EV_mul]
  refine EV_congr _ fun i hi => ?_
  have hi2 : i < (sumsN fs ms (n + 1)).length := by rw [sumsN_length]; omega
  rw [topsN_at _ hpos i hi2]
  simp only [sumsN, List.getElem_map, List.getElem_range]
  rw [ratOf_self]
end Go.Proofs.YtacbjbnocepnaaaGreatDoor
namespace Go.Proofs.YtacbjbnocepnaaaGreatDoor
open Go.RowKit Fm
set_option maxHeartbeats 1000000 in
set_option maxRecDepth 10000 in
theorem linCombine_bad1 (A B : Option Addr) (c d m k : Nat) (n : Int) (w : World)
    (HV : Hid (∀ W, Up w W → Calls Tryz.prog 40 #[.int .i64 n, .slice A m c] W fun e w' => e = .returned (.bool false) ∧ Up W w')) :
    Calls Tryz.prog 10 #[.int .i64 n, .slice A m c, .slice B k d] w fun e w' => e = .returned (.tuple #[.agg #[.slice none 0 0, .int .i64 0], .int .i64 0, .int .i64 1]) ∧ Up w w' := by
  go_enter Tryz.func10, Tryz.ntmps10
  go_wp2_with fail
  refine Calls.mono (HV.out _ (by (repeat (first | exact Below.refl _ _ | exact Hid.out (by assumption) | refine Up.trans ?_ (Up.drew _) | refine Up.trans ?_ (Up.drewN _ _) | refine Up.trans ?_ (Up.alloc _ _) | refine Up.trans ?_ (Hid.out (by assumption)))))) ?_
  rintro e w1 ⟨rfl, hu⟩
  have HU1 := Lib.hid hu
  clear hu
  have HR := Lib.hid ((CellF.new w none 0 0 0).up HU1.out)
  have HP := Lib.hid ((HR.out.set none 0 0 0).facts)
  have HUZ := Lib.hid (Up.stored ((Up.alloc w (.cells #[.slice none 0 0, .int .i64 0] 28)).trans HU1.out) (Nat.le_refl _) (.slice none 0 0) (.int .i64 0))
  obtain ⟨r0, r1, f0, f1, lr⟩ := HR.out.facts
  go_wp2
  obtain ⟨z0, z1, -, -, -⟩ := HP.out
  refine bodyPost_ret (by simp [results, Tryz.results10, go_sem, z0, z1]; try rfl) rfl ?_
  exact ⟨rfl, HUZ.out⟩
set_option maxHeartbeats 1000000 in
set_option maxRecDepth 10000 in
theorem linCombine_bad2 (A B : Option Addr) (c d m k : Nat) (n : Int) (w : World)
    (HV : Hid (∀ W, Up w W → Calls Tryz.prog 40 #[.int .i64 n, .slice A m c] W fun e w' => e = .returned (.bool true) ∧ Up W w'))
    (HN : Hid (∀ W, Up w W → Calls Tryz.prog 41 #[.slice B k d] W fun e w' => e = .returned (.bool false) ∧ Up W w')) :
    Calls Tryz.prog 10 #[.int .i64 n, .slice A m c, .slice B k d] w fun e w' => e = .returned (.tuple #[.agg #[.slice none 0 0, .int .i64 0], .int .i64 0, .int .i64 1]) ∧ Up w w' := by
  go_enter Tryz.func10, Tryz.ntmps10
  go_wp2_with fail
  refine Calls.mono (HV.out _ (by (repeat (first | exact Below.refl _ _ | exact Hid.out (by assumption) | refine Up.trans ?_ (Up.drew _) | refine Up.trans ?_ (Up.drewN _ _) | refine Up.trans ?_ (Up.alloc _ _) | refine Up.trans ?_ (Hid.out (by assumption)))))) ?_
  rintro e w1 ⟨rfl, hu⟩
  have HU1 := Lib.hid hu
  clear hu
  go_wp2_with fail
  refine Calls.mono (HN.out _ (by (repeat (first | exact Below.refl _ _ | exact Hid.out (by assumption) | refine Up.trans ?_ (Up.drew _) | refine Up.trans ?_ (Up.drewN _ _) | refine Up.trans ?_ (Up.alloc _ _) | refine Up.trans ?_ (Hid.out (by assumption)))))) ?_
  rintro e w2 ⟨rfl, hu⟩
  have HU2 := Lib.hid hu
  clear hu
  have HR := Lib.hid ((CellF.new w none 0 0 0).up (HU1.out.trans HU2.out))
  have HP := Lib.hid ((HR.out.set none 0 0 0).facts)
  have HUZ := Lib.hid (Up.stored ((Up.alloc w (.cells #[.slice none 0 0, .int .i64 0] 28)).trans (HU1.out.trans HU2.out)) (Nat.le_refl _) (.slice none 0 0) (.int .i64 0))
  obtain ⟨r0, r1, f0, f1, lr⟩ := HR.out.facts
  go_wp2
  obtain ⟨z0, z1, -, -, -⟩ := HP.out
  refine bodyPost_ret (by simp [results, Tryz.results10, go_sem, z0, z1]; try rfl) rfl ?_
  exact ⟨rfl, HUZ.out⟩
set_option maxHeartbeats 1000000 in
set_option maxRecDepth 10000 in
theorem linCombine_bad3 (A B : Option Addr) (c d m k : Nat) (n : Int) (w : World) (hmk : m ≠ k)
    (HV : Hid (∀ W, Up w W → Calls Tryz.prog 40 #[.int .i64 n, .slice A m c] W fun e w' => e = .returned (.bool true) ∧ Up W w'))
    (HN : Hid (∀ W, Up w W → Calls Tryz.prog 41 #[.slice B k d] W fun e w' => e = .returned (.bool true) ∧ Up W w')) :
    Calls Tryz.prog 10 #[.int .i64 n, .slice A m c, .slice B k d] w fun e w' => e = .returned (.tuple #[.agg #[.slice none 0 0, .int .i64 0], .int .i64 0, .int .i64 2]) ∧ Up w w' := by
  have i0 : (m : Int) ≠ (k : Int) := by omega
  go_enter Tryz.func10, Tryz.ntmps10
  go_wp2_with fail
  refine Calls.mono (HV.out _ (by (repeat (first | exact Below.refl _ _ | exact Hid.out (by assumption) | refine Up.trans ?_ (Up.drew _) | refine Up.trans ?_ (Up.drewN _ _) | refine Up.trans ?_ (Up.alloc _ _) | refine Up.trans ?_ (Hid.out (by assumption)))))) ?_
  rintro e w1 ⟨rfl, hu⟩
  have HU1 := Lib.hid hu
  clear hu
  go_wp2_with fail
  refine Calls.mono (HN.out _ (by (repeat (first | exact Below.refl _ _ | exact Hid.out (by assumption) | refine Up.trans ?_ (Up.drew _) | refine Up.trans ?_ (Up.drewN _ _) | refine Up.trans ?_ (Up.alloc _ _) | refine Up.trans ?_ (Hid.out (by assumption)))))) ?_
  rintro e w2 ⟨rfl, hu⟩
  have HU2 := Lib.hid hu
  clear hu
  have HR := Lib.hid ((CellF.new w none 0 0 0).up (HU1.out.trans HU2.out))
  have HP := Lib.hid ((HR.out.set none 0 0 0).facts)
  have HUZ := Lib.hid (Up.stored ((Up.alloc w (.cells #[.slice none 0 0, .int .i64 0] 28)).trans (HU1.out.trans HU2.out)) (Nat.le_refl _) (.slice none 0 0) (.int .i64 0))
  obtain ⟨r0, r1, f0, f1, lr⟩ := HR.out.facts
  go_wp2
  obtain ⟨z0, z1, -, -, -⟩ := HP.out
  refine bodyPost_ret (by simp [results, Tryz.results10, go_sem, z0, z1]; try rfl) rfl ?_
  exact ⟨rfl, HUZ.out⟩
theorem linCombine_all (A B : Option Addr) (c d : Nat) (n : Int) (fs : List (List Int × Int)) (ms : List (Int × Int)) (w : World) (hc : fs.length ≤ c) (hcm : c ≤ maxLen) (hr : RdE eltForm w A fs) (hd : ms.length ≤ d) (hdm : d ≤ maxLen) (hs : RdN w B ms) (hx : ∀ p, p ∈ ms → Rng p.1 p.2) (ht : Tab w) :
    ∃ (q : List Int × Int) (K E : Int), (∀ W, Up w W → Calls Tryz.prog 10 #[.int .i64 n, .slice A fs.length c, .slice B ms.length d] W fun e w' => ∃ A' c', e = .returned (.tuple #[.agg #[.slice A' q.1.length c', .int .i64 q.2], .int .i64 K, .int .i64 E]) ∧ RdI w' A' q.1 ∧ (∀ b off, A' = some ⟨b, off, none⟩ → W.heap.size ≤ b) ∧ Up W w') ∧
      ((E ≠ 0 ∧ q = ([], 0)) ∨ (E = 0 ∧ ∃ m : Nat, n = m ∧ validFs n fs = true ∧ okAll ms = true ∧ fs.length = ms.length ∧ combOk m fs ms = true ∧ q = combF m fs ms ∧ K = combK m fs ms)) := by
  have hl1 := len_le hc hcm
  have hv := fun W (hu : Up w W) => validForms_any A c n fs W hl1 (hr.up hu)
  have hp := fun W (hu : Up w W) => linValidNums_any B d ms W hd hdm (hs.up hu) hx (ht.up hu)
  rcases h1 : validFs n fs with _ | _
  · rw [h1] at hv
    exact ⟨([], 0), 0, 1, fun W hu => Calls.mono (linCombine_bad1 A B c d fs.length ms.length n W (Lib.hid fun W' hu' => hv W' (hu.trans hu'))) (by rintro e w' ⟨rfl, h⟩; exact ⟨none, 0, rfl, fun h => absurd rfl h, fun b off e => (by cases e), h⟩), .inl ⟨by decide, rfl⟩⟩
  rw [h1] at hv
  rcases h2 : okAll ms with _ | _
  · rw [h2] at hp
    exact ⟨([], 0), 0, 1, fun W hu => Calls.mono (linCombine_bad2 A B c d fs.length ms.length n W (Lib.hid fun W' hu' => hv W' (hu.trans hu')) (Lib.hid fun W' hu' => hp W' (hu.trans hu'))) (by rintro e w' ⟨rfl, h⟩; exact ⟨none, 0, rfl, fun h => absurd rfl h, fun b off e => (by cases e), h⟩), .inl ⟨by decide, rfl⟩⟩
  rw [h2] at hp
  by_cases h3 : fs.length = ms.length
  · obtain ⟨m, rfl, hm8, hf⟩ := validFs_dim h1
    refine ⟨combF m fs ms, combK m fs ms, combE m fs ms, fun W hu => linCombine_ok A B c d m fs ms W hc hcm (hr.up hu) hd hdm (hs.up hu) h1 h2 h3 hx (ht.up hu), ?_⟩
    rcases h4 : combOk m fs ms with _ | _
    · exact .inl ⟨by unfold combE; rw [h4]; decide, by unfold combF; rw [h4]; rfl⟩
    · exact .inr ⟨by unfold combE; rw [h4]; rfl, m, rfl, by first | exact h1 | rfl, by first | exact h2 | rfl, h3, by first | exact h4 | rfl, rfl, rfl⟩
  · exact ⟨([], 0), 0, 2, fun W hu => Calls.mono (linCombine_bad3 A B c d fs.length ms.length n W h3 (Lib.hid fun W' hu' => hv W' (hu.trans hu')) (Lib.hid fun W' hu' => hp W' (hu.trans hu'))) (by rintro e w' ⟨rfl, h⟩; exact ⟨none, 0, rfl, fun h => absurd rfl h, fun b off e => (by cases e), h⟩), .inl ⟨by decide, rfl⟩⟩
end Go.Proofs.YtacbjbnocepnaaaGreatDoor
