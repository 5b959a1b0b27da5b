/- What a further law needs. -/
import Derived.Test.YtacbjbnocepnaaaGreatDoorQC4
import Derived.Test.YtacbjbnocepnaaaGreatDoorQC3
import Derived.Test.YtacbjbnocepnaaaGreatDoorQHM
namespace Go.Proofs.YtacbjbnocepnaaaGreatDoor
open Go.RowKit Fm
theorem lim_small (z : Int) : limI z = smallOk z := by
  unfold limI smallOk; rfl
theorem int_gcd_nat (a b : Nat) : Int.gcd (a : Int) (b : Int) = Nat.gcd a b := by simp [Int.gcd]
theorem refSum_tops (n : Nat) (fs : List (List Int × Int)) (ms : List (Int × Int)) (hn : n ≤ 8) (hl : fs.length = ms.length) (hfl : fs.length ≤ 200) (hf : ∀ f, f ∈ fs → f.1.length = n) (hfb : ∀ f, f ∈ fs → (∀ y, y ∈ f.1 → rl y ≤ 3) ∧ rl f.2 ≤ 3) (hok : okAll ms = true) (A B : Option Addr) (c d : Nat) (w : World) (hr : RdE eltW w A fs) (hs : RdE eltQ w B (ratsOf ms)) :
    Calls Tryz.prog 47 #[.int .i64 n, .slice A fs.length c, .slice B (ratsOf ms).length d] w fun e w' => ∃ v u, e = .returned (.tuple #[v, u]) ∧ RowQ w w' v ((topsN (sumsN fs ms (n + 1))).take n) ((topsN (sumsN fs ms (n + 1))).getD n 0) ∧ RI w' u (lowN (sumsN fs ms (n + 1)) : Nat) ∧ Up w w' := by
  have hrl : (ratsOf ms).length = ms.length := by unfold ratsOf; rw [List.length_map]
  have h := refRowSum_any A B c d n fs (ratsOf ms) w hn (by rw [hrl, hl]) hfl hr hs hf hfb (fun q hq => by
    unfold ratsOf at hq
    obtain ⟨p, hp, rfl⟩ := List.mem_map.1 hq
    unfold okAll at hok
    rw [List.all_eq_true] at hok
    exact ok_QB (hok p hp))
  obtain ⟨h1, h2⟩ := comb_ref n fs ms hl hf _ rfl _ rfl
  rw [int_gcd_nat] at h
  have hlen : ((sumF n (lcmD (ratsOf ms)) fs (ratsOf ms)).1.map (·.tdiv ((Nat.gcd (gcdR (sumF n (lcmD (ratsOf ms)) fs (ratsOf ms)).2.natAbs (sumF n (lcmD (ratsOf ms)) fs (ratsOf ms)).1) (lcmD (ratsOf ms)) : Nat) : Int))).length = n := by
    rw [List.length_map]
    exact sumF_length n _ fs (ratsOf ms) (List.replicate n 0, 0) (by simp) hf
  rw [h2] at h
  generalize (sumF n (lcmD (ratsOf ms)) fs (ratsOf ms)).1.map (·.tdiv ((Nat.gcd (gcdR (sumF n (lcmD (ratsOf ms)) fs (ratsOf ms)).2.natAbs (sumF n (lcmD (ratsOf ms)) fs (ratsOf ms)).1) (lcmD (ratsOf ms)) : Nat) : Int)) = Z at *
  generalize (sumF n (lcmD (ratsOf ms)) fs (ratsOf ms)).2.tdiv ((Nat.gcd (gcdR (sumF n (lcmD (ratsOf ms)) fs (ratsOf ms)).2.natAbs (sumF n (lcmD (ratsOf ms)) fs (ratsOf ms)).1) (lcmD (ratsOf ms)) : Nat) : Int) = X at *
  rw [← h1]
  unfold rowF
  simp only
  rw [List.take_left' hlen, List.getD_eq_getElem?_getD, List.getElem?_append_right (by omega), hlen, Nat.sub_self]
  exact h
def CombOut (w' : World) (ok : Bool) (Z : List Int) (X L : Int) (e : Ending) : Prop :=
  ∃ A' c', e = .returned (.tuple #[.agg #[.slice A' (if ok then (Z, X) else ([], 0)).1.length c', .int .i64 (if ok then (Z, X) else ([], 0)).2], .int .i64 (if ok then L else 0), .int .i64 (if ok then 0 else 3)]) ∧ RdI w' A' (if ok then (Z, X) else ([], 0)).1
theorem CombOut.bad {w' : World} {ok : Bool} {Z : List Int} {X L : Int} (h : ok = false) : CombOut w' ok Z X L (.returned (.tuple #[.agg #[.slice none 0 0, .int .i64 0], .int .i64 0, .int .i64 3])) := by
  subst h
  exact ⟨none, 0, rfl, fun h => absurd rfl h⟩
theorem CombOut.good {w' : World} {ok : Bool} {Z : List Int} {X L : Int} (h : ok = true) {n : Nat} (hn : Z.length = n) {A : Option Addr} (hr : RdI w' A Z) : CombOut w' ok Z X L (.returned (.tuple #[.agg #[.slice A n n, .int .i64 X], .int .i64 L, .int .i64 0])) := by
  subst h hn
  exact ⟨A, _, rfl, hr⟩
theorem tops_len (n : Nat) (fs : List (List Int × Int)) (ms : List (Int × Int)) : (topsN (sumsN fs ms (n + 1))).length = n + 1 := by
  rw [topsN_length]; unfold sumsN; simp
set_option maxHeartbeats 4000000 in
set_option maxRecDepth 10000 in
theorem refCombine_ok (A B : Option Addr) (c d n : Nat) (fs : List (List Int × Int)) (ms : List (Int × Int)) (w : World) (hc : fs.length ≤ 9223372036854775807) (hr : RdE eltForm w A fs) (hv : validFs n fs = true) (hd : ms.length ≤ d) (hdm : d ≤ maxLen) (hs : RdN w B ms) (hok : okAll ms = true) (hl : fs.length = ms.length) (hx : ∀ p, p ∈ ms → Rng p.1 p.2) :
    Calls Tryz.prog 11 #[.int .i64 n, .slice A fs.length c, .slice B ms.length d] w fun e w' => ∃ A' c', e = .returned (.tuple #[.agg #[.slice A' (combF n fs ms).1.length c', .int .i64 (combF n fs ms).2], .int .i64 (combK n fs ms), .int .i64 (combE n fs ms)]) ∧ RdI w' A' (combF n fs ms).1 ∧ Up w w' := by
  obtain ⟨m', hm', hm8, hf120⟩ := validFs_dim hv
  have hn : n ≤ 8 := by omega
  have hfv := validFs_mem hv
  have hfl : ∀ f, f ∈ fs → f.1.length = n := fun f hf => by
    have := validF_len (hfv f hf)
    simp [rowF] at this
    omega
  have hlim : ∀ f, f ∈ fs → (∀ y, y ∈ f.1 → limI y = true) ∧ limI f.2 = true := fun f hf => by
    have h9 := hfv f hf
    simp only [validF, Bool.and_eq_true, List.all_eq_true] at h9
    exact ⟨h9.2, h9.1.2⟩
  have HV := Lib.hid (fun W (hu : Up w W) => refValidForms_any A c n fs W hc (hr.up hu))
  rw [hv] at HV
  have HN := Lib.hid (fun W (hu : Up w W) => refAll_any B d ms W hd hdm (hs.up hu) hx)
  rw [hok] at HN
  have HAL := Lib.hid (fun W (hu : Up w W) => refRows_any A c fs W (by omega) (hr.up hu) (fun f hf => ⟨by rw [hfl f hf]; omega, hlim f hf⟩))
  have HRT := Lib.hid (fun W (hu : Up w W) => refRats_any B d ms W (by omega) (hs.up hu) hok)
  have hfb3 : ∀ f, f ∈ fs → (∀ y, y ∈ f.1 → rl y ≤ 3) ∧ rl f.2 ≤ 3 := fun f hf => ⟨fun y hy => lim_rl ((hlim f hf).1 y hy), lim_rl (hlim f hf).2⟩
  have HSM := Lib.hid (fun W A' B' c' d' (h1 : RdE eltW W A' fs) (h2 : RdE eltQ W B' (ratsOf ms)) => refSum_tops n fs ms hn hl (by omega) hfl hfb3 hok A' B' c' d' W h1 h2)
  clear hfb3
  have hco := combOk_one n fs ms
  have htl := tops_len n fs ms
  have hlenT : ((topsN (sumsN fs ms (n + 1))).take n).length = n := by rw [List.length_take, htl]; omega
  have hsplit : (topsN (sumsN fs ms (n + 1))).all limI = (((topsN (sumsN fs ms (n + 1))).take n).all limI && limI ((topsN (sumsN fs ms (n + 1))).getD n 0)) := by
    have := rowF_split (topsN (sumsN fs ms (n + 1))) n htl
    conv => lhs; rw [← this]
    unfold rowF
    rw [List.all_append]; simp
  have hF : combF n fs ms = if combOk n fs ms then ((topsN (sumsN fs ms (n + 1))).take n, (topsN (sumsN fs ms (n + 1))).getD n 0) else ([], 0) := by
    unfold combF oneF
    rw [← hco]
    cases combOk n fs ms <;> rfl
  have hK : combK n fs ms = if combOk n fs ms then ((lowN (sumsN fs ms (n + 1)) : Nat) : Int) else 0 := by
    unfold combK oneK
    rw [← hco]
    cases combOk n fs ms <;> rfl
  have hE : combE n fs ms = if combOk n fs ms then 0 else 3 := rfl
  have hO : combOk n fs ms = ((((topsN (sumsN fs ms (n + 1))).take n).all limI && limI ((topsN (sumsN fs ms (n + 1))).getD n 0)) && limI (lowN (sumsN fs ms (n + 1)) : Nat)) := by
    rw [hco]; unfold oneOk; rw [hsplit]
  rw [hF, hK, hE]
  clear hF hK hE hsplit hco htl
  generalize (topsN (sumsN fs ms (n + 1))).take n = Z at *
  generalize (topsN (sumsN fs ms (n + 1))).getD n 0 = X at *
  generalize ((lowN (sumsN fs ms (n + 1)) : Nat) : Int) = L at *
  have HFB := Lib.hid (fun W A' A2 c' c2 n2 s b (h : (Z.all limI && limI X) = false) (h1 : RdE eltR W A' Z) (h2 : RI W (.agg #[.int .i64 s, .bool b, .slice A2 n2 c2]) X) => refFrom_bad A' A2 c' c2 n2 s b Z X W (by omega) h1 h2 h)
  have HFG := Lib.hid (fun W A' A2 c' c2 n2 s b (h : (Z.all limI && limI X) = true) (h1 : RdE eltR W A' Z) (h2 : RI W (.agg #[.int .i64 s, .bool b, .slice A2 n2 c2]) X) => refFrom_form A' A2 c' c2 n2 s b Z X W (by omega) h1 h2 (by rw [Bool.and_eq_true] at h; exact h.1) (by rw [Bool.and_eq_true] at h; exact h.2))
  have HSL := Lib.hid (fun W v (h : RI W v L) => refSmall_any' v L W h)
  have HCO := Lib.hid hO
  have HZL := Lib.hid hlenT
  rw [hlenT] at HFB HFG
  generalize combOk n fs ms = ok at *
  have hll : ((fs.length : Int) != (ms.length : Int)) = false := by rw [hl]; simp
  clear hr hs hv hok hx hfv hfl hlim hO hlenT hc hd hdm hm' hm8 hf120 hl
  suffices key : Calls Tryz.prog 11 #[.int .i64 n, .slice A fs.length c, .slice B ms.length d] w fun e w' => CombOut w' ok Z X L e ∧ Up w w' by
    refine Calls.mono key ?_
    rintro e w' ⟨⟨A', c', h1, h2⟩, hu⟩
    exact ⟨A', c', h1, h2, hu⟩
  go_enter Tryz.func11, Tryz.ntmps11
  go_wp2_with fail
  refine Calls.mono (HV.out _ (by (repeat (first | exact Below.refl _ _ | exact Hid.out (by assumption) | refine Up.trans ?_ (Up.drew _) | refine Up.trans ?_ (Up.drewN _ _) | refine Up.trans ?_ (Up.alloc _ _) | refine Up.trans ?_ (Hid.out (by assumption)))))) ?_
  rintro e w1 ⟨rfl, hu⟩
  have HU1 := Lib.hid hu
  clear hu
  go_wp2_with fail
  refine Calls.mono (HN.out _ (by (repeat (first | exact Below.refl _ _ | exact Hid.out (by assumption) | refine Up.trans ?_ (Up.drew _) | refine Up.trans ?_ (Up.drewN _ _) | refine Up.trans ?_ (Up.alloc _ _) | refine Up.trans ?_ (Hid.out (by assumption)))))) ?_
  rintro e w2 ⟨rfl, hu⟩
  have HU2 := Lib.hid hu
  clear hu
  go_wp2_with fail
  refine Calls.mono (HAL.out _ (by (repeat (first | exact Below.refl _ _ | exact Hid.out (by assumption) | refine Up.trans ?_ (Up.drew _) | refine Up.trans ?_ (Up.drewN _ _) | refine Up.trans ?_ (Up.alloc _ _) | refine Up.trans ?_ (Hid.out (by assumption)))))) ?_
  rintro e w3 ⟨A3, c3, rfl, h3, hu⟩
  have HU3 := Lib.hid hu
  have HR3 := Lib.hid h3
  clear hu h3
  go_wp2_with fail
  refine Calls.mono (HRT.out _ (by (repeat (first | exact Below.refl _ _ | exact Hid.out (by assumption) | refine Up.trans ?_ (Up.drew _) | refine Up.trans ?_ (Up.drewN _ _) | refine Up.trans ?_ (Up.alloc _ _) | refine Up.trans ?_ (Hid.out (by assumption)))))) ?_
  rintro e w4 ⟨A4, c4, rfl, h4, hu⟩
  have HU4 := Lib.hid hu
  have HR4 := Lib.hid (HR3.out.up hu)
  have HQ4 := Lib.hid h4
  clear hu h4
  go_wp2_with fail
  refine Calls.mono (HSM.out _ _ _ _ _ HR4.out HQ4.out) ?_
  rintro e w5 ⟨v, u, rfl, hrow, hk, hu⟩
  have HU5 := Lib.hid hu
  have HK5 := Lib.hid hk
  obtain ⟨A5, c5, s5, b5, A6, n6, c6, rfl, -, -, h5, h6, -⟩ := hrow
  obtain ⟨s7, b7, A7, n7, c7, rfl, -⟩ := hk.open_
  have HW5 := Lib.hid (And.intro h5 h6)
  rw [HZL.out]
  clear hu hk h5 h6
  have HR0 := Lib.hid (CellF.new w none 0 0 0)
  go_wp2_with fail
  have HKN := Lib.hid (CellI.new (w5.alloc (.cells #[.slice A5 n c5, .int .i64 s5, .bool b5, .slice A6 n6 c6] 59)) s7 b7 (.slice A7 n7 c7))
  rw [size_alloc] at HKN
  have HUN := Lib.hid ((Up.alloc w5 (.cells #[.slice A5 n c5, .int .i64 s5, .bool b5, .slice A6 n6 c6] 59)).trans (Up.alloc _ (.cells #[.int .i64 s7, .bool b7, .slice A7 n7 c7] 48)))
  generalize (w5.alloc (.cells #[.slice A5 n c5, .int .i64 s5, .bool b5, .slice A6 n6 c6] 59)).alloc (.cells #[.int .i64 s7, .bool b7, .slice A7 n7 c7] 48) = wN at *
  obtain ⟨gk, hgk⟩ : ∃ gk, gk = w5.heap.size + 1 := ⟨_, rfl⟩
  rw [← hgk] at HKN ⊢
  clear hgk
  have HKV := Lib.hid (HK5.out.up HUN.out)
  have HW1 := Lib.hid (HW5.out.1.up HUN.out)
  have HW2 := Lib.hid (HW5.out.2.up HUN.out)
  clear HK5 HW5
  generalize hzz : (Z.all limI && limI X) = zl at *
  clear hzz
  cases zl
  · have HOF : Hid (ok = false) := Lib.hid (by rw [HCO.out]; rfl)
    refine Calls.mono (HFB.out _ _ _ _ _ _ _ _ (by trivial) HW1.out HW2.out) ?_
    rintro e w6 ⟨rfl, hu⟩
    have HU6 := Lib.hid hu
    obtain ⟨k0, k1, k2, lk⟩ := (HKN.out.up hu).facts
    clear hu
    go_wp2_with fail
    refine Calls.mono (HSL.out _ _ (HKV.out.up (by (repeat (first | exact Below.refl _ _ | exact Hid.out (by assumption) | refine Up.trans ?_ (Up.drew _) | refine Up.trans ?_ (Up.drewN _ _) | refine Up.trans ?_ (Up.alloc _ _) | refine Up.trans ?_ (Hid.out (by assumption))))))) ?_
    rintro e w7 ⟨rfl, hu⟩
    have HU7 := Lib.hid hu
    clear hu
    generalize smallOk L = sm at *
    cases sm
    all_goals
      have HR := Lib.hid (HR0.out.up (w' := w7) (by (repeat (first | exact Below.refl _ _ | exact Hid.out (by assumption) | refine Up.trans ?_ (Up.drew _) | refine Up.trans ?_ (Up.drewN _ _) | refine Up.trans ?_ (Up.alloc _ _) | refine Up.trans ?_ (Hid.out (by assumption))))))
      have HUZ7 := Lib.hid (show Up w w7 by (repeat (first | exact Below.refl _ _ | exact Hid.out (by assumption) | refine Up.trans ?_ (Up.drew _) | refine Up.trans ?_ (Up.drewN _ _) | refine Up.trans ?_ (Up.alloc _ _) | refine Up.trans ?_ (Hid.out (by assumption)))))
      have HP := Lib.hid ((HR.out.set none 0 0 0).facts)
      have HUZ := Lib.hid (Up.stored HUZ7.out (Nat.le_refl _) (.slice none 0 0) (.int .i64 0))
      obtain ⟨r0, r1, f0, f1, lr⟩ := HR.out.facts
      go_wp2
      obtain ⟨z0, z1, -, -, -⟩ := HP.out
      refine bodyPost_ret (by simp [results, Tryz.results11, go_sem, z0, z1]; try rfl) rfl ?_
      exact ⟨CombOut.bad HOF.out, HUZ.out⟩
  · refine Calls.mono (HFG.out _ _ _ _ _ _ _ _ (by trivial) HW1.out HW2.out) ?_
    rintro e w6 ⟨A8, rfl, hrd, hfr, hu⟩
    have HU6 := Lib.hid hu
    have HRD := Lib.hid hrd
    have HFR := Lib.hid hfr
    obtain ⟨k0, k1, k2, lk⟩ := (HKN.out.up hu).facts
    clear hu hrd hfr
    rcases hsl : smallOk L with _ | _
    · have HOF : Hid (ok = false) := Lib.hid (by rw [HCO.out, lim_small, hsl]; rfl)
      rw [hsl] at HSL
      clear hsl
      go_wp2_with fail
      refine Calls.mono (HSL.out _ _ (HKV.out.up (by (repeat (first | exact Below.refl _ _ | exact Hid.out (by assumption) | refine Up.trans ?_ (Up.drew _) | refine Up.trans ?_ (Up.drewN _ _) | refine Up.trans ?_ (Up.alloc _ _) | refine Up.trans ?_ (Hid.out (by assumption))))))) ?_
      rintro e w7 ⟨rfl, hu⟩
      have HU7 := Lib.hid hu
      clear hu
      have HR := Lib.hid (HR0.out.up (w' := w7) (by (repeat (first | exact Below.refl _ _ | exact Hid.out (by assumption) | refine Up.trans ?_ (Up.drew _) | refine Up.trans ?_ (Up.drewN _ _) | refine Up.trans ?_ (Up.alloc _ _) | refine Up.trans ?_ (Hid.out (by assumption))))))
      have HUZ7 := Lib.hid (show Up w w7 by (repeat (first | exact Below.refl _ _ | exact Hid.out (by assumption) | refine Up.trans ?_ (Up.drew _) | refine Up.trans ?_ (Up.drewN _ _) | refine Up.trans ?_ (Up.alloc _ _) | refine Up.trans ?_ (Hid.out (by assumption)))))
      have HP := Lib.hid ((HR.out.set none 0 0 0).facts)
      have HUZ := Lib.hid (Up.stored HUZ7.out (Nat.le_refl _) (.slice none 0 0) (.int .i64 0))
      obtain ⟨r0, r1, f0, f1, lr⟩ := HR.out.facts
      go_wp2
      obtain ⟨z0, z1, -, -, -⟩ := HP.out
      refine bodyPost_ret (by simp [results, Tryz.results11, go_sem, z0, z1]; try rfl) rfl ?_
      exact ⟨CombOut.bad HOF.out, HUZ.out⟩
    · have HOF : Hid (ok = true) := Lib.hid (by rw [HCO.out, lim_small, hsl]; rfl)
      rw [hsl] at HSL
      clear hsl
      go_wp2_with fail
      refine Calls.mono (HSL.out _ _ (HKV.out.up (by (repeat (first | exact Below.refl _ _ | exact Hid.out (by assumption) | refine Up.trans ?_ (Up.drew _) | refine Up.trans ?_ (Up.drewN _ _) | refine Up.trans ?_ (Up.alloc _ _) | refine Up.trans ?_ (Hid.out (by assumption))))))) ?_
      rintro e w7 ⟨rfl, hu⟩
      have HU7 := Lib.hid hu
      clear hu
      simp only [if_true] at *
      have HF7 := Lib.hid ((CellF.new w6 A8 n n X).up HU7.out)
      have HR := Lib.hid (HR0.out.up (w' := w7) (by (repeat (first | exact Below.refl _ _ | exact Hid.out (by assumption) | refine Up.trans ?_ (Up.drew _) | refine Up.trans ?_ (Up.drewN _ _) | refine Up.trans ?_ (Up.alloc _ _) | refine Up.trans ?_ (Hid.out (by assumption))))))
      have HLT := Lib.hid ((HR0.out.up (w' := wN) (by (repeat (first | exact Below.refl _ _ | exact Hid.out (by assumption) | refine Up.trans ?_ (Up.drew _) | refine Up.trans ?_ (Up.drewN _ _) | refine Up.trans ?_ (Up.alloc _ _) | refine Up.trans ?_ (Hid.out (by assumption)))))).lt)
      have HUZ7 := Lib.hid (show Up w w7 by (repeat (first | exact Below.refl _ _ | exact Hid.out (by assumption) | refine Up.trans ?_ (Up.drew _) | refine Up.trans ?_ (Up.drewN _ _) | refine Up.trans ?_ (Up.alloc _ _) | refine Up.trans ?_ (Hid.out (by assumption)))))
      have HAW := Lib.hid (show ∀ b off, A8 = some ⟨b, off, none⟩ → b ≠ w.heap.size from fun b off e => by
        have h1 := HFR.out b off e
        have h2 := HLT.out
        omega)
      have HRP := Lib.hid ((((HRD.out.up (w' := w7) ((Up.alloc w6 _).trans HU7.out))).put HAW.out 0 (.slice A8 n n)).put HAW.out 1 (.int .i64 X))
      have HP := Lib.hid ((HR.out.set A8 n n X).facts)
      have HUZ := Lib.hid (Up.stored HUZ7.out (Nat.le_refl _) (.slice A8 n n) (.int .i64 X))
      obtain ⟨p0, p1, -, -, lp⟩ := HF7.out.facts
      obtain ⟨r0, r1, f0, f1, lr⟩ := HR.out.facts
      go_wp2
      obtain ⟨z0, z1, -, -, -⟩ := HP.out
      refine bodyPost_ret (by simp [results, Tryz.results11, go_sem, z0, z1]; try rfl) rfl ?_
      exact ⟨CombOut.good HOF.out HZL.out HRP.out, HUZ.out⟩
theorem linCombinesLaw_any (A B : Option Addr) (c d : Nat) (n : Int) (fs : List (List Int × Int)) (ms : List (Int × Int)) (w : World) (hc : fs.length ≤ c) (hcm : c ≤ maxLen) (hr : RdE eltForm w A fs) (hd : ms.length ≤ d) (hdm : d ≤ maxLen) (hs : RdN w B ms) (hx : ∀ p, p ∈ ms → Rng p.1 p.2) (ht : Tab w) :
    Calls Tryz.prog 3 #[.int .i64 n, .slice A fs.length c, .slice B ms.length d] w fun e w' => e = .returned (.bool true) ∧ Up w w' := by
  have hl1 := len_le hc hcm
  have hv := fun W (hu : Up w W) => validForms_any A c n fs W hl1 (hr.up hu)
  have hv2 := fun W (hu : Up w W) => refValidForms_any A c n fs W hl1 (hr.up hu)
  have hp := fun W (hu : Up w W) => linValidNums_any B d ms W hd hdm (hs.up hu) hx (ht.up hu)
  have hp2 := fun W (hu : Up w W) => refAll_any B d ms W hd hdm (hs.up hu) hx
  rcases h1 : validFs n fs with _ | _
  · rw [h1] at hv hv2
    exact linCombinesLaw_of A B c d n fs ms w hc hcm hr hd hdm ht ([], 0) 0 1 (by decide)
      (fun W hu => Calls.mono (linCombine_bad1 A B c d fs.length ms.length n W (Lib.hid fun W' hu' => hv W' (hu.trans hu'))) (by rintro e w' ⟨rfl, h⟩; exact ⟨none, 0, rfl, fun h => absurd rfl h, fun b off e => (by cases e), h⟩))
      (fun W hu => Calls.mono (refCombine_bad1 A B c d fs.length ms.length n W (Lib.hid fun W' hu' => hv2 W' (hu.trans hu'))) (by rintro e w' ⟨rfl, h⟩; exact ⟨none, 0, rfl, fun h => absurd rfl h, h⟩))
  rw [h1] at hv hv2
  rcases h2 : okAll ms with _ | _
  · rw [h2] at hp hp2
    exact linCombinesLaw_of A B c d n fs ms w hc hcm hr hd hdm ht ([], 0) 0 1 (by decide)
      (fun W hu => Calls.mono (linCombine_bad2 A B c d fs.length ms.length n W (Lib.hid fun W' hu' => hv W' (hu.trans hu')) (Lib.hid fun W' hu' => hp W' (hu.trans hu'))) (by rintro e w' ⟨rfl, h⟩; exact ⟨none, 0, rfl, fun h => absurd rfl h, fun b off e => (by cases e), h⟩))
      (fun W hu => Calls.mono (refCombine_bad2 A B c d fs.length ms.length n W (Lib.hid fun W' hu' => hv2 W' (hu.trans hu')) (Lib.hid fun W' hu' => hp2 W' (hu.trans hu'))) (by rintro e w' ⟨rfl, h⟩; exact ⟨none, 0, rfl, fun h => absurd rfl h, h⟩))
  rw [h2] at hp hp2
  by_cases h3 : fs.length = ms.length
  · obtain ⟨m, rfl, hm8, hf⟩ := validFs_dim h1
    refine linCombinesLaw_of A B c d m fs ms w hc hcm hr hd hdm ht (combF m fs ms) (combK m fs ms) (combE m fs ms) ?_
      (fun W hu => linCombine_ok A B c d m fs ms W hc hcm (hr.up hu) hd hdm (hs.up hu) h1 h2 h3 hx (ht.up hu))
      (fun W hu => refCombine_ok A B c d m fs ms W hl1 (hr.up hu) h1 hd hdm (hs.up hu) h2 h3 hx)
    unfold combF oneF
    split
    · split
      · simp only [List.length_take]; omega
      · simp
    · simp
  · exact linCombinesLaw_of A B c d n fs ms w hc hcm hr hd hdm ht ([], 0) 0 2 (by decide)
      (fun W hu => Calls.mono (linCombine_bad3 A B c d fs.length ms.length n W h3 (Lib.hid fun W' hu' => hv W' (hu.trans hu')) (Lib.hid fun W' hu' => hp W' (hu.trans hu'))) (by rintro e w' ⟨rfl, h⟩; exact ⟨none, 0, rfl, fun h => absurd rfl h, fun b off e => (by cases e), h⟩))
      (fun W hu => Calls.mono (refCombine_bad3 A B c d fs.length ms.length n W h3 (Lib.hid fun W' hu' => hv2 W' (hu.trans hu')) (Lib.hid fun W' hu' => hp2 W' (hu.trans hu'))) (by rintro e w' ⟨rfl, h⟩; exact ⟨none, 0, rfl, fun h => absurd rfl h, h⟩))
end Go.Proofs.YtacbjbnocepnaaaGreatDoor
