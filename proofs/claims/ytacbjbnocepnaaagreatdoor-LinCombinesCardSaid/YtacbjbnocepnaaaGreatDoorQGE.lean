/- Contracts of quotient and remainder of digits. -/
import Derived.Test.YtacbjbnocepnaaaGreatDoorQGD2
import Derived.Test.YtacbjbnocepnaaaGreatDoorQGA2
namespace Go.Proofs.YtacbjbnocepnaaaGreatDoor
open Go.RowKit Fm
def QrRel (g h L k V N : Nat) (v : Value) (w0 : World) (j : Nat) (w' : World) : Prop :=
  ∃ us qs, Row .u32 191 w' g us ∧ Row .u32 191 w' h qs ∧ us.length = L + 1 ∧ qs.length = L - (k + 2) + 1 ∧ Ok 4294967296 us ∧ Ok 4294967296 qs ∧
    val 4294967296 us + V * (4294967296 ^ j * val 4294967296 (qs.drop j)) = N ∧ val 4294967296 (us.drop j) < V ∧ Dv w' v V ∧ Up w0 w'
theorem Dv.grown {w w' : World} {A : Option Addr} {l c n g : Nat} (h : Dv w (.slice A l c) n) (hg : w.grownBy w' (some g)) (ha : Away A g) : Dv w' (.slice A l c) n := by
  obtain ⟨A', c', hv, h1, h2, h3⟩ := h
  injection hv with e1 e2 e3
  subst e1
  exact ⟨A, c', by rw [e2, e3], h1, h2, h3.grown hg ha⟩
theorem Dv.rd {w : World} {A : Option Addr} {l c n : Nat} (h : Dv w (.slice A l c) n) : Rd .u32 w A (digs 4294967296 n) := by
  obtain ⟨A', c', hv, h1, h2, h3⟩ := h
  injection hv with e1 e2 e3
  subst e1
  exact h3
theorem Away.of_up {k : IntKind} {w w' : World} {A : Option Addr} {ds : List Nat} (h : Rd k w A ds) (hn : ds ≠ []) (hu : w.heap.size ≤ w'.heap.size) : Away A w'.heap.size := Away.of_lt h hn hu
theorem QrRel.start {g h L k V N : Nat} {ns : List Nat} {A : Option Addr} {l c : Nat} {w0 w5 : World} (hrow : Row .u32 191 w5 g (List.take 0 (zeroL (L + 1)) ++ (ns ++ List.drop (0 + ns.length) (zeroL (L + 1)))))
    (hlen : ns.length ≤ L + 1) (hok : Ok 4294967296 ns) (hN : val 4294967296 ns = N) (hst : N / 4294967296 ^ (L - (k + 2) + 1) < V) (hh : h = w5.heap.size) (hdv : Dv w5 (.slice A l c) V) (hup : Up w0 w5) :
    QrRel g h L k V N (.slice A l c) w0 (L - (k + 2) + 1) (w5.alloc (.cells (rowOf .u32 (zeroL (L - (k + 2) + 1))) 191)) := by
  subst hh
  have e : List.take 0 (zeroL (L + 1)) ++ (ns ++ List.drop (0 + ns.length) (zeroL (L + 1))) = ns ++ zeroL (L + 1 - ns.length) := by
    rw [List.take_zero, List.nil_append, Nat.zero_add, zeroL_drop]
  rw [e] at hrow
  have hokU : Ok 4294967296 (ns ++ zeroL (L + 1 - ns.length)) := hok.append (zeroL_ok (by omega) _)
  have hvU : val 4294967296 (ns ++ zeroL (L + 1 - ns.length)) = N := by rw [val_append, zeroL_val, Nat.mul_zero, Nat.add_zero, hN]
  refine ⟨_, _, hrow.alloc _, Row.new _ _, by rw [List.length_append, zeroL_length]; omega, zeroL_length _, hokU, zeroL_ok (by omega) _, ?_, ?_, hdv.up (Up.alloc _ _), hup.trans (Up.alloc _ _)⟩
  · rw [hvU, List.drop_eq_nil_of_le (by rw [zeroL_length]; exact Nat.le_refl _), val, Nat.mul_zero, Nat.mul_zero, Nat.add_zero]
  · rw [val_drop (by omega) hokU, hvU]; exact hst
set_option maxHeartbeats 1000000 in
set_option maxRecDepth 100000 in
theorem quoRem_long (v1 v2 : Value) (m n k : Nat) (w : World) (h1 : Dv w v1 m) (h2 : Dv w v2 n) (hm : (digs 4294967296 m).length ≤ 1073741824) (hnm : n ≤ m) (hk : (digs 4294967296 n).length = k + 2) :
    Calls Tryz.prog 148 #[v1, v2] w fun e w' => ∃ v3 v4, e = .returned (.tuple #[v3, v4]) ∧ Dv w' v3 (m / n) ∧ Dv w' v4 (m % n) ∧ Up w w' := by
  have hle : (digs 4294967296 n).length ≤ (digs 4294967296 m).length := by
    rcases Nat.lt_or_ge (digs 4294967296 m).length (digs 4294967296 n).length with h | h
    · have := lt_of_length_lt (B := 4294967296) (by omega) h; omega
    · exact h
  have hbi : ((m : Int) - n).sign = 0 ∨ ((m : Int) - n).sign = 1 := by
    rcases Nat.lt_or_ge n m with h | h
    · right; exact Int.sign_eq_one_of_pos (by omega)
    · left; obtain rfl : m = n := by omega
      simp
  have hcmp : Calls Tryz.prog 139 #[v1, v2] w fun e w' => (∃ sg : Int, e = .returned (.int .i64 sg) ∧ 0 ≤ sg) ∧ ∃ q, w' = w.drewN q :=
    (cmp_any v1 v2 m n w h1 h2).mono fun _ _ ⟨he, hw⟩ => ⟨⟨_, he, by omega⟩, hw⟩
  have H1 := Lib.hid h1
  have H2 := Lib.hid h2
  obtain ⟨A, c, rfl, hc, hcm, hr⟩ := h1
  obtain ⟨A2, c2, rfl, hc2, hcm2, hr2⟩ := h2
  obtain ⟨top, htop⟩ : ∃ top, (digs 4294967296 n)[k + 1]'(by omega) = top := ⟨_, rfl⟩
  have hnt := norm_top hk htop
  obtain ⟨b2, off2, rfl, hb2, hcell⟩ := hr2.at_ (i := k + 1) (by omega)
  rw [htop] at hcell
  have ht0 := hnt.1
  have htb := hnt.2.1
  have hbl := bitLen_bounds ht0 htb
  obtain ⟨s, hs⟩ : ∃ s, s = 32 - Go.Lib.bitLen top := ⟨_, rfl⟩
  have hs32 : s ≤ 32 := by omega
  have hlz : ∀ W, Calls Tryz.prog 161 #[.int .u32 top] W fun e w' => e = .returned (.int .i64 s) ∧ W = w' := fun W =>
    (Tryz.bits_LeadingZeros32 (top : Int) W (by omega) (by omega)).mono fun _ _ ⟨he, hw⟩ => ⟨by rw [he]; exact ret_int (by rw [Int.toNat_natCast]; omega), hw.symm⟩
  rw [← hs] at hnt
  rw [hk] at hle hc2 hcmp ⊢
  have HV1 := val_digs (B := 4294967296) (by omega) m
  have hmL := val_lt (B := 4294967296) (by omega) (digs_ok (B := 4294967296) (by omega) m)
  rw [HV1] at hmL
  have hnk := (digs_top (k := k + 1) hk)
  have hnlow : 4294967296 ^ (k + 1) ≤ n := by
    obtain ⟨low, e, _⟩ := hnk
    have := digs_top_pos (k := k + 1) hk
    have h3 := Nat.mul_le_mul_left (4294967296 ^ (k + 1)) (show 1 ≤ (digs 4294967296 n)[k + 1]'(by omega) from this)
    rw [Nat.mul_one] at h3
    omega
  have HNT := Lib.hid hnt
  have HK := Lib.hid hk
  have H1w := H1.out
  have H2w := H2.out
  rw [hk] at H2w
  obtain ⟨L, hL⟩ : ∃ L, L = (digs 4294967296 m).length := ⟨_, rfl⟩
  rw [← hL] at hle hc hm hmL hcmp H1w ⊢
  have HCMP := Lib.hid hcmp
  have HLZ := Lib.hid hlz
  have HLD := Lib.hid hL
  have HMS := Lib.hid (shl_fits hmL hs32)
  have HST := Lib.hid (div_start (s := s) hmL hnlow hle)
  have hk1 : (((k : Int) + 2) == 1) = false := by simp; omega
  have hmkU : ∀ W, (Instr.makeSlice 106 (.int .i64 ((L : Int) + 1)) (.int .i64 ((L : Int) + 1))).run Tryz.prog W = .ok (.slice (some ⟨W.heap.size, 0, none⟩) (L + 1) (L + 1)) (W.alloc (.cells (rowOf .u32 (zeroL (L + 1))) 191)) :=
    fun W => by have := mk32 (L + 1) (by omega) W; simpa using this
  have hmkQ : ∀ W, (Instr.makeSlice 106 (.int .i64 ((L : Int) - ((k : Int) + 2) + 1)) (.int .i64 ((L : Int) - ((k : Int) + 2) + 1))).run Tryz.prog W = .ok (.slice (some ⟨W.heap.size, 0, none⟩) (L - (k + 2) + 1) (L - (k + 2) + 1)) (W.alloc (.cells (rowOf .u32 (zeroL (L - (k + 2) + 1))) 191)) :=
    fun W => by
      have := mk32 (L - (k + 2) + 1) (by omega) W
      have e : ((L - (k + 2) + 1 : Nat) : Int) = (L : Int) - ((k : Int) + 2) + 1 := by omega
      rw [e] at this; exact this
  clear hnt hk hcmp hlz hbi hbl htop hL hs hnk hnlow hmL HV1 hr hr2 H1 H2
  go_enter Tryz.func148, Tryz.ntmps148
  go_wp2_with (first
    | (go_at_call 139; refine HCMP.out.mono ?_; rintro e w1 ⟨⟨sg, rfl, hsg⟩, q, rfl⟩)
    | (go_at_call 161; refine (HLZ.out _).mono ?_; rintro e w2 ⟨rfl, rfl⟩)
    | fail)
  refine (left_dv _ n s _ (H2w.drewN q) (by rw [HK.out]; omega) (by omega)).mono ?_
  rintro e w2 ⟨v3, rfl, hv3, hup2⟩
  have hupA : Up w w2 := (Up.drewN w q).trans hup2
  have HV3 := Lib.hid hv3
  obtain ⟨A3, c3, rfl, hc3, hcm3, hr3⟩ := hv3
  have hne3 : digs 4294967296 (n * 2 ^ s) ≠ [] := by intro e; have := HNT.out.2.2.1; rw [e] at this; simp at this
  have hA3 := fun (w' : World) (hu : w2.heap.size ≤ w'.heap.size) => Away.of_up hr3 hne3 hu
  have HA3 := Lib.hid hA3
  clear hA3
  have hlen3 := HNT.out.2.2.1
  have HL3 := Lib.hid hlen3
  rw [hlen3] at HV3 hc3 ⊢
  clear hlen3
  have HUA := Lib.hid hupA
  have HUB := Lib.hid (Up.alloc w2 (.cells (rowOf .u32 (zeroL (L + 1))) 191))
  have H1x := H1w.up (hupA.trans HUB.out)
  have hrowU := Row.new (k := .u32) (t := 191) w2 (zeroL (L + 1))
  have HROWU := Lib.hid hrowU
  have HV3b := Lib.hid (HV3.out.up HUB.out)
  have hgu := HV3.out
  clear hrowU hup2 hupA hgu
  go_wp2_with fail
  refine (left_dv _ m s _ H1x (by rw [← HLD.out]; omega) (by omega)).mono ?_
  rintro e w4 ⟨v4, rfl, hv4, hup4⟩
  have HROW4 := Lib.hid (HROWU.out.up hup4)
  have HV34 := Lib.hid (HV3b.out.up hup4)
  have HU4 := Lib.hid (HUB.out.trans hup4)
  obtain ⟨A4, c4, rfl, hc4, hcm4, hr4⟩ := hv4
  have hlen4 := digs_length_le (B := 4294967296) (by omega) HMS.out
  have hok4 := digs_ok (B := 4294967296) (by omega) (m * 2 ^ s)
  have HVAL4 := Lib.hid (val_digs (B := 4294967296) (by omega) (m * 2 ^ s))
  obtain ⟨ns, hns⟩ : ∃ ns, ns = digs 4294967296 (m * 2 ^ s) := ⟨_, rfl⟩
  rw [← hns] at hlen4 hok4 HVAL4 hr4 ⊢
  clear hns hup4 hc4 hcm4 H1x
  go_wp2_with (first
    | (refine wpList_copy_row rfl (.tmp 40) (.tmp 43) _ _ rfl 191 Tryz.underlying106 size_u32 .u32 191 w2.heap.size 0 (L + 1) _ _ _ _ _ ns rfl (fun _ => rfl) rfl HROW4.out hr4 (by omega) (by rw [zeroL_length]; omega) ?_; intro w5 hrow5 hg5))
  have hA3u := HA3.out w2 (Nat.le_refl _)
  have hup5 : Up w w5 := (HUA.out.trans HU4.out).grown hg5 (by have := HUA.out.size; exact this)
  have hszw5 : w2.heap.size < w5.heap.size := hrow5.lt
  have hA3q := HA3.out w5 (Nat.le_of_lt hszw5)
  have H0 := QrRel.start (k := k) (V := n * 2 ^ s) hrow5 hlen4 hok4 HVAL4.out HST.out rfl (Dv.grown HV34.out hg5 hA3u) hup5
  generalize hg1 : w2.heap.size = gu at *
  generalize hg2 : w5.heap.size = gq at *
  generalize hwq : w5.alloc (.cells (rowOf .u32 (zeroL (L - (k + 2) + 1))) 191) = wQ at *
  clear hwq hrow5 hg5 HROW4 HROWU HV34 HV3b HU4 HUB hmkU hmkQ hup5
  go_loopw [10] (fun iv wr => ∃ j : Nat, iv = .int .i64 ((j : Int) - 1) ∧ j ≤ L - (k + 2) + 1 ∧ QrRel gu gq L k (n * 2 ^ s) (m * 2 ^ s) (.slice A3 (k + 2) c3) w j wr) (fun iv _ => (intOf iv + 1).toNat)
  case atStart => exact ⟨L - (k + 2) + 1, by simp, Nat.le_refl _, H0⟩
  case round =>
    obtain ⟨j, rfl, hj, hR⟩ := hrel
    by_cases hj0 : j = 0
    · subst hj0
      obtain ⟨us, qs, hru, hrq, hlu, hlq, hoku, hokq, hval, hdrop, hdv, hup⟩ := hR
      rw [Nat.pow_zero, Nat.one_mul, List.drop_zero] at hval
      rw [List.drop_zero] at hdrop
      have hdone := div_done hval hdrop
      have hS : 0 < 2 ^ s := Nat.two_pow_pos s
      have hq1 : val 4294967296 qs = m / n := by rw [hdone.1, Nat.mul_div_mul_right _ _ hS]
      have hr1 : val 4294967296 us / 2 ^ s = m % n := by rw [hdone.2, Nat.mul_mod_mul_right, Nat.mul_div_cancel _ hS]
      have HQ1 := Lib.hid hq1
      have HR1 := Lib.hid hr1
      have HLU := Lib.hid hlu
      have HLQ := Lib.hid hlq
      have hT := trim_own gu (L + 1) (L + 1) us wr hru hoku (by omega) (Nat.le_refl _) (by unfold maxLen; omega)
      rw [List.take_of_length_le (by omega)] at hT
      have HTO := Lib.hid hT
      have hTQ := trim_row gq (L - (k + 2) + 1) (L - (k + 2) + 1) qs wr hrq hokq hlq (Nat.le_refl _) (by unfold maxLen; omega)
      rw [hq1] at hTQ
      have HTQ := Lib.hid hTQ
      have hss : s ≤ 4294967296 := by omega
      clear hT hTQ hq1 hr1 hlu hlq hval hdrop hdone
      go_wp2_with fail
      refine HTQ.out.mono ?_
      rintro e w8 ⟨⟨rfl, hdq⟩, rfl⟩
      have HDQ := Lib.hid hdq
      clear hdq
      go_wp2_with fail
      refine HTO.out.mono ?_
      rintro e w9 ⟨⟨rfl, ho⟩, rfl⟩
      go_wp2_with fail
      refine (shrink_own gu (L + 1) _ s _ ho hss).mono ?_
      rintro e w9 ⟨⟨rfl, ho2⟩, hg9⟩
      rw [HR1.out] at ho2 ⊢
      go_wp2
      go_ret2
      refine ⟨_, _, rfl, Dv.grown HDQ.out hg9 ?_, ho2.dv, hup.grown hg9 (by rw [← hg1]; exact HUA.out.size)⟩
      intro b o e
      injection e with e
      injection e with e1 e2
      omega
    · obtain ⟨i, rfl⟩ : ∃ i, j = i + 1 := ⟨j - 1, by omega⟩
      obtain ⟨us, qs, hru, hrq, hlu, hlq, hoku, hokq, hval, hdrop, hdv, hup⟩ := hR
      have HLU := Lib.hid hlu
      have HLQ := Lib.hid hlq
      have HVL := Lib.hid hval
      have HDR := Lib.hid hdrop
      clear hlu hlq hval hdrop
      rw [show ((i + 1 : Nat) : Int) - 1 = (i : Int) by omega]
      have hcq := hrq.cell (i := i) (by rw [HLQ.out]; omega)
      have hfq := hrq.frozen i
      have HV := HNT.out.2.2
      have hokV := digs_ok (B := 4294967296) (by omega) (n * 2 ^ s)
      have hvV := val_digs (B := 4294967296) (by omega) (n * 2 ^ s)
      have hVlt := val_lt (B := 4294967296) (by omega) hokV
      rw [hvV, HV.1] at hVlt
      have hdr0 := div_round (B := 4294967296) (n := k + 2) (zs := us) (j := i) (by omega) hoku rfl (by rw [HLU.out]; omega) hVlt (fun _ _ => rfl) HDR.out
      have HRD := Lib.hid (Dv.rd hdv)
      have hred := reduce_any gu i k (L + 1 - i) us A3 c3 (digs 4294967296 (n * 2 ^ s)) wr hru (by rw [HLU.out]; omega) (by omega) (by unfold maxLen; omega) (by omega) hoku HV.1 HRD.out hA3u hokV (by rw [HV.1]; exact hc3) (HV.2 (by rw [HV.1]; omega)) (by rw [hvV]; exact hdr0.1)
      rw [hvV] at hred
      have HRED := Lib.hid hred
      have HVLT := Lib.hid hVlt
      clear hred hdr0 HV hokV hvV hVlt
      go_wp2_with fail
      rw [show i + (k + 2) + 1 - i = k + 3 by omega]
      refine HRED.out.mono ?_
      rintro e w7 ⟨zs, rfl, hrz, hlz, hokz, houtz, hvz, hgz⟩
      have hrq7 := hrq.grown hgz (by intro e; injection e with e; omega)
      have hcq7 := hrq7.cell (i := i) (by rw [HLQ.out]; omega)
      have hfq7 := hrq7.frozen i
      have hDR := div_round (B := 4294967296) (n := k + 2) (zs := zs) (j := i) (by omega) hoku hlz (by rw [HLU.out]; omega) HVLT.out (fun t ht => houtz t (by omega)) HDR.out
      have hVpos : 0 < n * 2 ^ s := by have := HDR.out; omega
      obtain ⟨qd, hqd⟩ : ∃ qd, qd = val 4294967296 (seg us i (k + 2 + 1)) / (n * 2 ^ s) := ⟨_, rfl⟩
      have hqb : qd < 4294967296 := by rw [hqd]; exact Nat.div_lt_of_lt_mul hDR.1
      have hfin : QrRel gu gq L k (n * 2 ^ s) (m * 2 ^ s) (.slice A3 (k + 2) c3) w i (w7.setCell ⟨gq, i, none⟩ (.int .u32 (qd : Int))) := by
        refine ⟨zs, qs.set i qd, hrz.far (by show gu ≠ gq; omega) _, hrq7.set _ _, by rw [hlz, HLU.out], by rw [List.length_set, HLQ.out], hokz, hokq.set _ hqb, ?_, ?_, ?_, ?_⟩
        · have e1 : (qs.set i qd).drop i = qd :: qs.drop (i + 1) := by
            rw [List.drop_eq_getElem_cons (by rw [List.length_set, HLQ.out]; omega), List.getElem_set_self, List.drop_set_of_lt (by omega)]
          rw [e1]
          simp only [val]
          have h1 := HVL.out
          rw [Nat.pow_succ] at h1
          exact div_step (U := val 4294967296 (seg us i (k + 2 + 1))) (r := val 4294967296 (seg us i (k + 2 + 1)) % (n * 2 ^ s)) h1 (by rw [hqd]; exact (Nat.div_add_mod' _ _).symm) _ (by rw [← hvz]; exact hDR.2.1)
        · exact hDR.2.2 (by rw [hvz]; exact Nat.mod_lt _ hVpos)
        · exact Dv.grown (Dv.grown hdv hgz hA3u) (grown_set (World.grownBy.refl w7 _) i _) hA3q
        · exact (hup.grown hgz (by rw [← hg1]; exact HUA.out.size)).grown (grown_set (World.grownBy.refl w7 _) i _) (by have := HUA.out.size; omega)
      rw [← hqd]
      have HF := Lib.hid hfin
      clear hfin hDR hqd
      go_wp2
      refine ⟨⟨i, rfl, by omega, HF.out⟩, by simp [intOf]⟩
end Go.Proofs.YtacbjbnocepnaaaGreatDoor
namespace Go.Proofs.YtacbjbnocepnaaaGreatDoor
open Go.RowKit Fm
theorem Dv.nil (w : World) : Dv w (.slice none 0 0) 0 := ⟨none, 0, by rw [digs_zero]; rfl, by rw [digs_zero]; exact Nat.le_refl _, Nat.zero_le _, by rw [digs_zero]; exact Rd.nil⟩
theorem quoRem_less (v1 v2 : Value) (m n : Nat) (w : World) (h1 : Dv w v1 m) (h2 : Dv w v2 n) (hmn : m < n) :
    Calls Tryz.prog 148 #[v1, v2] w fun e w' => ∃ v3 v4, e = .returned (.tuple #[v3, v4]) ∧ Dv w' v3 (m / n) ∧ Dv w' v4 (m % n) ∧ Up w w' := by
  have hcmp : Calls Tryz.prog 139 #[v1, v2] w fun e w' => e = .returned (.int .i64 (-1)) ∧ ∃ q, w' = w.drewN q :=
    (cmp_any v1 v2 m n w h1 h2).mono fun _ _ ⟨he, hw⟩ => ⟨by rw [he, Int.sign_eq_neg_one_of_neg (by omega)], hw⟩
  have HCMP := Lib.hid hcmp
  have H1 := Lib.hid h1
  clear h1 h2 hcmp
  go_enter Tryz.func148, Tryz.ntmps148
  go_wp2_with (go_at_call 139; refine HCMP.out.mono ?_; rintro e w1 ⟨rfl, q, rfl⟩)
  go_ret2
  exact ⟨_, _, rfl, by rw [Nat.div_eq_of_lt hmn]; exact Dv.nil _, by rw [Nat.mod_eq_of_lt hmn]; exact H1.out.drewN q, Up.drewN w q⟩
theorem quoRem_one (v1 v2 : Value) (m n : Nat) (w : World) (h1 : Dv w v1 m) (h2 : Dv w v2 n) (hm : (digs 4294967296 m).length ≤ 1073741824) (hnm : n ≤ m) (hk : (digs 4294967296 n).length = 1) :
    Calls Tryz.prog 148 #[v1, v2] w fun e w' => ∃ v3 v4, e = .returned (.tuple #[v3, v4]) ∧ Dv w' v3 (m / n) ∧ Dv w' v4 (m % n) ∧ Up w w' := by
  have hcmp : Calls Tryz.prog 139 #[v1, v2] w fun e w' => (∃ sg : Int, e = .returned (.int .i64 sg) ∧ 0 ≤ sg) ∧ ∃ q, w' = w.drewN q :=
    (cmp_any v1 v2 m n w h1 h2).mono fun _ _ ⟨he, hw⟩ => ⟨⟨_, he, by
      rcases Nat.lt_or_ge n m with h | h
      · rw [Int.sign_eq_one_of_pos (by omega)]; omega
      · obtain rfl : m = n := by omega
        simp⟩, hw⟩
  have H1 := Lib.hid h1
  obtain ⟨A2, c2, rfl, hc2, hcm2, hr2⟩ := h2
  have hv := val_digs (B := 4294967296) (by omega) n
  have hok := digs_ok (B := 4294967296) (by omega) n
  have hpos := digs_top_pos (n := n) (k := 0) (by omega)
  have hb := hok.get (k := 0) (by omega)
  have hn0 : (digs 4294967296 n)[0]'(by omega) = n := by
    have e := val_take_succ 4294967296 (l := digs 4294967296 n) (k := 0) (by omega)
    rw [List.take_of_length_le (by omega), hv, List.take_zero, val, Nat.pow_zero, Nat.one_mul, Nat.zero_add] at e
    exact e.symm
  obtain ⟨b2, off2, rfl, hb2, hcell⟩ := hr2.at_ (i := 0) (by omega)
  rw [hn0] at hcell hpos hb
  rw [Nat.add_zero] at hcell
  rw [hk] at hc2 hcmp ⊢
  have HCMP := Lib.hid hcmp
  clear hr2 hcmp h1 hv hok hn0 hk
  go_enter Tryz.func148, Tryz.ntmps148
  go_wp2_with (first
    | (go_at_call 139; refine HCMP.out.mono ?_; rintro e w1 ⟨⟨sg, rfl, hsg⟩, q, rfl⟩)
    | (go_at_call 160; refine (quoRemDigit_any v1 m n _ (H1.out.drewN q) (by omega) hb hpos).mono ?_; rintro e w2 ⟨v3, v4, rfl, hd3, hd4, hup⟩; have HD3 := Lib.hid hd3; have HD4 := Lib.hid hd4; clear hd3 hd4))
  go_ret2
  exact ⟨_, _, rfl, HD3.out, HD4.out, (Up.drewN w q).trans hup⟩
theorem quoRem_dv (v1 v2 : Value) (m n : Nat) (w : World) (h1 : Dv w v1 m) (h2 : Dv w v2 n) (hm : (digs 4294967296 m).length ≤ 1073741824) (hn : 0 < n) :
    Calls Tryz.prog 148 #[v1, v2] w fun e w' => ∃ v3 v4, e = .returned (.tuple #[v3, v4]) ∧ Dv w' v3 (m / n) ∧ Dv w' v4 (m % n) ∧ Up w w' := by
  rcases Nat.lt_or_ge m n with h | h
  · exact quoRem_less v1 v2 m n w h1 h2 h
  · have hne : (digs 4294967296 n) ≠ [] := fun e => by rw [digs_eq_nil (by omega)] at e; omega
    have hl : 0 < (digs 4294967296 n).length := List.length_pos_iff.2 hne
    rcases Nat.lt_or_ge 1 (digs 4294967296 n).length with h3 | h3
    · exact quoRem_long v1 v2 m n ((digs 4294967296 n).length - 2) w h1 h2 hm h (by omega)
    · exact quoRem_one v1 v2 m n w h1 h2 hm h (by omega)
end Go.Proofs.YtacbjbnocepnaaaGreatDoor
namespace Go.Proofs.YtacbjbnocepnaaaGreatDoor
open Go.RowKit Fm
theorem ret_u64 {a b : Int} (h : a = b) : Ending.returned (.int .u64 a) = .returned (.int .u64 b) := by rw [h]
theorem word_any (v : Value) (n : Nat) (w : World) (h : Dv w v n) (hn : n < 18446744073709551616) :
    Calls Tryz.prog 147 #[v] w fun e w' => e = .returned (.int .u64 n) ∧ w = w' := by
  have hl := digs_length_le (B := 4294967296) (n := n) (k := 2) (by omega) (by omega)
  obtain ⟨A, c, rfl, hc, hcm, hr⟩ := h
  have hok := digs_ok (B := 4294967296) (by omega) n
  have hv := val_digs (B := 4294967296) (by omega) n
  generalize digs 4294967296 n = ds at *
  have HV := Lib.hid hv
  clear hv
  go_enter Tryz.func147, Tryz.ntmps147
  go_wp2
  go_loop [3, 8] (fun nv iv => ∃ k : Nat, iv = .int .i64 k ∧ k ≤ ds.length ∧ nv = .int .u64 (val 4294967296 (ds.take k))) (fun _ iv => ds.length - (intOf iv).toNat)
  case atStart => exact ⟨0, rfl, by omega, rfl⟩
  case round =>
    obtain ⟨k, rfl, hk, rfl⟩ := hrel
    rcases Nat.lt_or_ge k ds.length with hlt | hge
    · obtain ⟨b, off, rfl, hb, hcell⟩ := hr.at_ hlt
      have hxb := hok.get hlt
      have htk := val_take_succ 4294967296 hlt
      have hlow := val_lt (B := 4294967296) (by omega) (hok.take k)
      rw [List.length_take, Nat.min_eq_left hk] at hlow
      generalize ds[k] = x at *
      generalize hT : val 4294967296 (ds.take k) = T at *
      have HTK := Lib.hid htk
      clear htk hT
      by_cases h0 : k = 0
      · subst h0
        have hT0 : T < 1 := by simpa using hlow
        obtain rfl : T = 0 := by omega
        rw [Nat.add_zero] at hcell
        have hor : bits .or .u64 (0 : Int) (x : Int) = (x : Int) := by
          have := u64_or_nat 0 x (by omega) (by omega)
          simpa using this
        clear hT0 hlow
        go_wp2
        refine ⟨⟨1, rfl, by omega, by rw [HTK.out, Nat.pow_zero, Nat.one_mul, Nat.zero_add]⟩, by simp [intOf]; omega⟩
      · obtain rfl : k = 1 := by omega
        have hlow2 : T < 4294967296 := by simpa using hlow
        have hor : bits .or .u64 (T : Int) ((x : Int) * 4294967296) = ((T + x * 4294967296 : Nat) : Int) := or_u64 T x 32 hlow2 (by omega)
        clear hlow
        go_wp2
        refine ⟨⟨2, rfl, by omega, by rw [HTK.out, Nat.pow_one, Nat.mul_comm]; rfl⟩, by simp [intOf]; omega⟩
    · obtain rfl : k = ds.length := by omega
      go_wp2
      go_ret
      exact ⟨ret_u64 (by rw [HV.out]), rfl⟩
theorem Own.rd {w : World} {g c m : Nat} (h : Own w g c m) : Rd .u32 w (some ⟨g, 0, none⟩) (digs 4294967296 m) := Dv.rd h.dv
theorem own_away {g g' : Nat} (h : g ≠ g') : Away (some ⟨g, 0, none⟩) g' := by
  intro b o e; injection e with e; injection e with e1 e2; omega
theorem Own.le_cap {w : World} {g c m : Nat} (h : Own w g c m) : (digs 4294967296 m).length ≤ c ∧ c ≤ maxLen := by
  obtain ⟨xs, _, _, _, _, h5, h6⟩ := h; exact ⟨h5, h6⟩
theorem digs_len_mono {a b : Nat} (h : a ≤ b) : (digs 4294967296 a).length ≤ (digs 4294967296 b).length := by
  rcases Nat.lt_or_ge (digs 4294967296 b).length (digs 4294967296 a).length with h1 | h1
  · have := lt_of_length_lt (B := 4294967296) (by omega) h1; omega
  · exact h1
theorem lt_pow_len (n : Nat) : n < 2 ^ (32 * (digs 4294967296 n).length) := by
  have := val_lt (B := 4294967296) (by omega) (digs_ok (B := 4294967296) (by omega) n)
  rw [val_digs (by omega)] at this
  rw [Nat.pow_mul, pow32]; exact this
theorem twos_le (n : Nat) (h : 0 < n) : twos n ≤ 32 * (digs 4294967296 n).length := by
  obtain ⟨m, hm⟩ := twos_spec n h
  have h1 := lt_pow_len n
  rcases Nat.lt_or_ge (32 * (digs 4294967296 n).length) (twos n) with h2 | h2
  · exfalso
    have h3 := Nat.pow_le_pow_right (n := 2) (by omega) (Nat.le_of_lt h2)
    have h4 : 2 ^ twos n ≤ n := by
      have := Nat.le_mul_of_pos_right (2 ^ twos n) (show 0 < 2 * m + 1 by omega)
      omega
    omega
  · exact h2
theorem odd_part (n : Nat) (h : 0 < n) : (n / 2 ^ twos n) % 2 = 1 ∧ n = 2 ^ twos n * (n / 2 ^ twos n) ∧ n / 2 ^ twos n ≤ n := by
  obtain ⟨m, hm⟩ := twos_spec n h
  have e : n / 2 ^ twos n = 2 * m + 1 := by
    have := Nat.mul_div_cancel_left (2 * m + 1) (Nat.two_pow_pos (twos n))
    rw [← hm] at this; exact this
  rw [e]
  exact ⟨by omega, hm, by rw [← e]; exact Nat.div_le_self _ _⟩
theorem odd_step {p q : Nat} (hq : q % 2 = 1) (h : q < p) : ((p - q) / 2 ^ twos (p - q)) % 2 = 1 ∧ (p - q) / 2 ^ twos (p - q) ≤ p - q ∧ Nat.gcd ((p - q) / 2 ^ twos (p - q)) q = Nat.gcd p q := by
  obtain ⟨h1, h2, h3⟩ := odd_part (p - q) (by omega)
  exact ⟨h1, h3, (gcd_sub_pow (by omega) hq h2).symm⟩
theorem decrease_own (g c p : Nat) (A : Option Addr) (c2 q : Nat) (w : World) (h : Own w g c p) (hr : Rd .u32 w A (digs 4294967296 q)) (ha : Away A g) (hc2 : (digs 4294967296 q).length ≤ c2) (hqp : q ≤ p) :
    Calls Tryz.prog 165 #[.slice (some ⟨g, 0, none⟩) (digs 4294967296 p).length c, .slice A (digs 4294967296 q).length c2] w fun e w' =>
      ∃ r xs, e = .returned r ∧ Row .u32 191 w' g xs ∧ Ok 4294967296 xs ∧ (digs 4294967296 p).length ≤ xs.length ∧ val 4294967296 (xs.take (digs 4294967296 p).length) = p - q ∧ w.grownBy w' (some g) := by
  obtain ⟨xs, h1, h2, h3, h4, h5, h6⟩ := h
  refine (decrease_any g 0 (digs 4294967296 p).length c xs A c2 (digs 4294967296 q) w h1 (by omega) h5 h6 h2 (digs_len_mono hqp) hr (fun _ => ha) (digs_ok (by omega) q) hc2).mono ?_
  rintro e w' ⟨borrow, r, rfl, zs, hb, hrow, hl, hok, hout, hv, hg, -⟩
  refine ⟨r, zs, rfl, hrow, hok, by omega, ?_, hg⟩
  have e1 : seg xs 0 (digs 4294967296 p).length = digs 4294967296 p := by rw [← h4]; simp [seg]
  have e2 : seg zs 0 (digs 4294967296 p).length = zs.take (digs 4294967296 p).length := by simp [seg]
  rw [e1, e2, List.take_of_length_le (digs_len_mono hqp), val_digs (by omega), val_digs (by omega)] at hv
  have hlt := val_lt (B := 4294967296) (by omega) (hok.take (digs 4294967296 p).length)
  rw [List.length_take, Nat.min_eq_left (by omega)] at hlt
  rcases Nat.lt_or_ge 0 borrow with hb1 | hb1
  · obtain rfl : borrow = 1 := by omega
    omega
  · obtain rfl : borrow = 0 := by omega
    omega
end Go.Proofs.YtacbjbnocepnaaaGreatDoor
namespace Go.Proofs.YtacbjbnocepnaaaGreatDoor
open Go.RowKit Fm
theorem gcdWords_any (a b : Nat) (w : World) (ha : a < 18446744073709551616) (hb : b < 18446744073709551616) :
    Calls Tryz.prog 129 #[.int .u64 a, .int .u64 b] w fun e w' => e = .returned (.int .u64 (Nat.gcd a b : Nat)) ∧ ∃ n, w' = w.drewN n := by
  go_enter Tryz.func129, Tryz.ntmps129
  go_wp2
  go_loopw [0, 1] (fun x y wr => ∃ p q : Nat, x = .int .u64 p ∧ y = .int .u64 q ∧ p < 18446744073709551616 ∧ q < 18446744073709551616 ∧ Hid (Nat.gcd p q = Nat.gcd a b) ∧ ∃ n, wr = w.drewN n) (fun _ y _ => (intOf y).toNat)
  case atStart => exact ⟨a, b, rfl, rfl, ha, hb, rfl, 0, rfl⟩
  case round =>
    obtain ⟨p, q, rfl, rfl, hp, hq, hg, n, rfl⟩ := hrel
    by_cases h0 : q = 0
    · subst h0
      go_wp2
      go_ret
      exact ⟨ret_int (by rw [← hg.out, Nat.gcd_zero_right]), n, rfl⟩
    · have hq0 : 0 < q := Nat.pos_of_ne_zero h0
      go_wp2
      go_quiet (fail)
      go_wp2
      go_roundw
      case rel => exact ⟨q, p % q, rfl, by simp, hq, Nat.lt_of_lt_of_le (Nat.mod_lt _ hq0) (by omega), by show Nat.gcd q (p % q) = _; rw [← hg.out, Nat.gcd_comm p q, Nat.gcd_rec q p, Nat.gcd_comm], n + nq, by rw [World.drewN_drewN]⟩
      case measure => simp [intOf]; exact Nat.mod_lt _ hq0
end Go.Proofs.YtacbjbnocepnaaaGreatDoor
