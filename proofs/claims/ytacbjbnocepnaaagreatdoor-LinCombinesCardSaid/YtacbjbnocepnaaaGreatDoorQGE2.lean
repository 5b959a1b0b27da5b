/- Contracts of the greatest common divisor of digits. -/
import Derived.Test.YtacbjbnocepnaaaGreatDoorQGE
import Derived.Deep.LoopGhost
namespace Go.Proofs.YtacbjbnocepnaaaGreatDoor
open Go.RowKit Fm
def OddRel (w : World) (P Q N : Nat) (x y : Value) (wr : World) : Prop :=
  ∃ ga gb ca cb p q : Nat, x = .slice (some ⟨ga, 0, none⟩) (digs 4294967296 p).length ca ∧ y = .slice (some ⟨gb, 0, none⟩) (digs 4294967296 q).length cb ∧ Own wr ga ca p ∧ Own wr gb cb q ∧ gb ≠ ga ∧ p % 2 = 1 ∧ q % 2 = 1 ∧
    (digs 4294967296 p).length ≤ 67108864 ∧ (digs 4294967296 q).length ≤ 67108864 ∧ w.heap.size ≤ ga ∧ w.heap.size ≤ gb ∧ Hid (Nat.gcd p q = Nat.gcd P Q) ∧ Up w wr ∧ p + q = N
set_option maxHeartbeats 2000000 in
set_option maxRecDepth 100000 in
theorem oddGcd_any (x y : Value) (P Q N : Nat) (w w' : World) (h0 : OddRel w P Q N x y w') (ht : Tab w) :
    Calls Tryz.prog 150 #[x, y] w' fun e w'' => ∃ v, e = .returned v ∧ Dv w'' v (Nat.gcd P Q) ∧ Up w w'' := by
  have H0 := Lib.hid h0
  clear h0
  go_enter Tryz.func150, Tryz.ntmps150
  go_wp2
  go_loopg [0, 1] N (fun k u v wr => OddRel w P Q k u v wr)
  case atStart => exact H0.out
  case round =>
    obtain ⟨ga, gb, ca, cb, p, q, rfl, rfl, hoa, hob, hne, hpo, hqo, hszp, hszq, hga, hgb, hgcd, hup, rfl⟩ := hrel
    have hcmp := cmp_any _ _ p q wr hoa.dv hob.dv
    have HCMP := Lib.hid hcmp
    clear hcmp
    rcases Nat.lt_or_ge 2 (digs 4294967296 p).length with hl1 | hl1
    · skip
      rcases Nat.lt_trichotomy p q with hpq | hpq | hpq
      · have HC := Lib.hid (HCMP.out.mono (R' := fun e w' => e = .returned (.int .i64 (-1)) ∧ ∃ k, w' = wr.drewN k) fun _ _ ⟨he, hw⟩ => ⟨by rw [he, Int.sign_eq_neg_one_of_neg (by omega)], hw⟩)
        clear HCMP
        go_wp2_with fail
        refine HC.out.mono ?_
        rintro e w1 ⟨rfl, nq, rfl⟩
        have hpos : 0 < q - p := by omega
        have hdec := decrease_own gb cb q _ ca p (wr.drewN nq) (hob.drewN nq) (hoa.rd.drewN nq) (own_away hne.symm) hoa.le_cap.1 (by omega)
        have HDEC := Lib.hid hdec
        have hcpm := hob.le_cap
        have HUPT := Lib.hid (hup.trans (Up.drewN wr nq))
        have HOQD := Lib.hid (hoa.drewN nq)
        have HG := Lib.hid hgcd
        have HOP := Lib.hid hob
        have HOQ := Lib.hid hoa
        obtain ⟨hcodd, hcle, hcg⟩ := odd_step (p := q) (q := p) hpo (by omega)
        have HCG := Lib.hid hcg
        have hszd : (digs 4294967296 (q - p)).length ≤ 67108864 := by have := digs_len_mono (show q - p ≤ q by omega); omega
        have hszc : (digs 4294967296 ((q - p) / 2 ^ twos (q - p))).length ≤ 67108864 := by have := digs_len_mono (show (q - p) / 2 ^ twos (q - p) ≤ q - p by omega); omega
        have htw := twos_le (q - p) hpos
        clear hdec hgcd hcg hob hoa hup
        go_wp2_with fail
        refine HDEC.out.mono ?_
        rintro e w1 ⟨r, xs, rfl, hrow1, hok1, hl1, hv1, hg1⟩
        have HV1 := Lib.hid hv1
        have hup1 : Up w w1 := HUPT.out.grown hg1 hgb
        have HO1 := Lib.hid (HOQD.out.grown hg1 (by intro e; injection e with e; omega) : Own w1 ga ca p)
        have hT := trim_own gb cb _ xs w1 hrow1 hok1 hl1 hcpm.1 hcpm.2
        rw [hv1] at hT
        have HT := Lib.hid hT
        clear hv1 hT hrow1
        go_wp2_with fail
        refine HT.out.mono ?_
        rintro e w2 ⟨⟨rfl, ho1⟩, rfl⟩
        have HO1P := Lib.hid ho1
        have ht1 : Tab w1 := ht.up hup1
        clear ho1
        go_wp2_with fail
        refine (zeros_any _ (q - p) w1 HO1P.out.dv hpos ht1 (by omega)).mono ?_
        rintro e w2 ⟨rfl, rfl⟩
        go_wp2_with fail
        refine (shrink_own gb cb (q - p) (twos (q - p)) w1 HO1P.out (by omega)).mono ?_
        rintro e w2 ⟨⟨rfl, ho2⟩, hg2⟩
        have HO2 := Lib.hid ho2
        have HO2Q := Lib.hid (HO1.out.grown hg2 (by intro e; injection e with e; omega) : Own w2 ga ca p)
        have HUP2 := Lib.hid (hup1.grown hg2 hgb : Up w w2)
        have hmeas : (q - p) / 2 ^ twos (q - p) + p < p + q := by omega
        clear ho2 hg1 hg2 hup1 ht1
        generalize (q - p) / 2 ^ twos (q - p) = cc at *
        go_wp2
        go_roundg (cc + p)
        case measure => exact hmeas
        case rel => exact ⟨gb, ga, cb, ca, cc, p, rfl, rfl, HO2.out, HO2Q.out, hne.symm, hcodd, hpo, hszc, hszp, hgb, hga, by unfold Hid; rw [HCG.out]; exact (Nat.gcd_comm q p).trans HG.out, HUP2.out, rfl⟩
      · subst hpq
        have HC := Lib.hid (HCMP.out.mono (R' := fun e w' => e = .returned (.int .i64 0) ∧ ∃ k, w' = wr.drewN k) fun _ _ ⟨he, hw⟩ => ⟨by rw [he, Int.sub_self, Int.sign_zero], hw⟩)
        have HOA := Lib.hid hoa
        have HUP := Lib.hid hup
        clear HCMP hoa hob hup
        go_wp2_with fail
        refine HC.out.mono ?_
        rintro e w1 ⟨rfl, nq, rfl⟩
        go_wp2
        go_ret
        have hgc := hgcd.out
        rw [Nat.gcd_self] at hgc
        rw [← hgc]
        exact ⟨_, rfl, HOA.out.dv.drewN nq, HUP.out.trans (Up.drewN wr nq)⟩
      · have HC := Lib.hid (HCMP.out.mono (R' := fun e w' => e = .returned (.int .i64 1) ∧ ∃ k, w' = wr.drewN k) fun _ _ ⟨he, hw⟩ => ⟨by rw [he, Int.sign_eq_one_of_pos (by omega)], hw⟩)
        clear HCMP
        go_wp2_with fail
        refine HC.out.mono ?_
        rintro e w1 ⟨rfl, nq, rfl⟩
        have hpos : 0 < p - q := by omega
        have hdec := decrease_own ga ca p _ cb q (wr.drewN nq) (hoa.drewN nq) (hob.rd.drewN nq) (own_away hne) hob.le_cap.1 (by omega)
        have HDEC := Lib.hid hdec
        have hcpm := hoa.le_cap
        have HUPT := Lib.hid (hup.trans (Up.drewN wr nq))
        have HOQD := Lib.hid (hob.drewN nq)
        have HG := Lib.hid hgcd
        have HOP := Lib.hid hoa
        have HOQ := Lib.hid hob
        obtain ⟨hcodd, hcle, hcg⟩ := odd_step (p := p) (q := q) hqo (by omega)
        have HCG := Lib.hid hcg
        have hszd : (digs 4294967296 (p - q)).length ≤ 67108864 := by have := digs_len_mono (show p - q ≤ p by omega); omega
        have hszc : (digs 4294967296 ((p - q) / 2 ^ twos (p - q))).length ≤ 67108864 := by have := digs_len_mono (show (p - q) / 2 ^ twos (p - q) ≤ p - q by omega); omega
        have htw := twos_le (p - q) hpos
        clear hdec hgcd hcg hoa hob hup
        go_wp2_with fail
        refine HDEC.out.mono ?_
        rintro e w1 ⟨r, xs, rfl, hrow1, hok1, hl1, hv1, hg1⟩
        have HV1 := Lib.hid hv1
        have hup1 : Up w w1 := HUPT.out.grown hg1 hga
        have HO1 := Lib.hid (HOQD.out.grown hg1 (by intro e; injection e with e; omega) : Own w1 gb cb q)
        have hT := trim_own ga ca _ xs w1 hrow1 hok1 hl1 hcpm.1 hcpm.2
        rw [hv1] at hT
        have HT := Lib.hid hT
        clear hv1 hT hrow1
        go_wp2_with fail
        refine HT.out.mono ?_
        rintro e w2 ⟨⟨rfl, ho1⟩, rfl⟩
        have HO1P := Lib.hid ho1
        have ht1 : Tab w1 := ht.up hup1
        clear ho1
        go_wp2_with fail
        refine (zeros_any _ (p - q) w1 HO1P.out.dv hpos ht1 (by omega)).mono ?_
        rintro e w2 ⟨rfl, rfl⟩
        go_wp2_with fail
        refine (shrink_own ga ca (p - q) (twos (p - q)) w1 HO1P.out (by omega)).mono ?_
        rintro e w2 ⟨⟨rfl, ho2⟩, hg2⟩
        have HO2 := Lib.hid ho2
        have HO2Q := Lib.hid (HO1.out.grown hg2 (by intro e; injection e with e; omega) : Own w2 gb cb q)
        have HUP2 := Lib.hid (hup1.grown hg2 hga : Up w w2)
        have hmeas : (p - q) / 2 ^ twos (p - q) + q < p + q := by omega
        clear ho2 hg1 hg2 hup1 ht1
        generalize (p - q) / 2 ^ twos (p - q) = cc at *
        go_wp2
        go_roundg (cc + q)
        case measure => exact hmeas
        case rel => exact ⟨ga, gb, ca, cb, cc, q, rfl, rfl, HO2.out, HO2Q.out, hne, hcodd, hqo, hszc, hszq, hga, hgb, by unfold Hid; rw [HCG.out]; exact HG.out, HUP2.out, rfl⟩
    · rcases Nat.lt_or_ge 2 (digs 4294967296 q).length with hl2 | hl2
      · skip
        rcases Nat.lt_trichotomy p q with hpq | hpq | hpq
        · have HC := Lib.hid (HCMP.out.mono (R' := fun e w' => e = .returned (.int .i64 (-1)) ∧ ∃ k, w' = wr.drewN k) fun _ _ ⟨he, hw⟩ => ⟨by rw [he, Int.sign_eq_neg_one_of_neg (by omega)], hw⟩)
          clear HCMP
          go_wp2_with fail
          refine HC.out.mono ?_
          rintro e w1 ⟨rfl, nq, rfl⟩
          have hpos : 0 < q - p := by omega
          have hdec := decrease_own gb cb q _ ca p (wr.drewN nq) (hob.drewN nq) (hoa.rd.drewN nq) (own_away hne.symm) hoa.le_cap.1 (by omega)
          have HDEC := Lib.hid hdec
          have hcpm := hob.le_cap
          have HUPT := Lib.hid (hup.trans (Up.drewN wr nq))
          have HOQD := Lib.hid (hoa.drewN nq)
          have HG := Lib.hid hgcd
          have HOP := Lib.hid hob
          have HOQ := Lib.hid hoa
          obtain ⟨hcodd, hcle, hcg⟩ := odd_step (p := q) (q := p) hpo (by omega)
          have HCG := Lib.hid hcg
          have hszd : (digs 4294967296 (q - p)).length ≤ 67108864 := by have := digs_len_mono (show q - p ≤ q by omega); omega
          have hszc : (digs 4294967296 ((q - p) / 2 ^ twos (q - p))).length ≤ 67108864 := by have := digs_len_mono (show (q - p) / 2 ^ twos (q - p) ≤ q - p by omega); omega
          have htw := twos_le (q - p) hpos
          clear hdec hgcd hcg hob hoa hup
          go_wp2_with fail
          refine HDEC.out.mono ?_
          rintro e w1 ⟨r, xs, rfl, hrow1, hok1, hl1, hv1, hg1⟩
          have HV1 := Lib.hid hv1
          have hup1 : Up w w1 := HUPT.out.grown hg1 hgb
          have HO1 := Lib.hid (HOQD.out.grown hg1 (by intro e; injection e with e; omega) : Own w1 ga ca p)
          have hT := trim_own gb cb _ xs w1 hrow1 hok1 hl1 hcpm.1 hcpm.2
          rw [hv1] at hT
          have HT := Lib.hid hT
          clear hv1 hT hrow1
          go_wp2_with fail
          refine HT.out.mono ?_
          rintro e w2 ⟨⟨rfl, ho1⟩, rfl⟩
          have HO1P := Lib.hid ho1
          have ht1 : Tab w1 := ht.up hup1
          clear ho1
          go_wp2_with fail
          refine (zeros_any _ (q - p) w1 HO1P.out.dv hpos ht1 (by omega)).mono ?_
          rintro e w2 ⟨rfl, rfl⟩
          go_wp2_with fail
          refine (shrink_own gb cb (q - p) (twos (q - p)) w1 HO1P.out (by omega)).mono ?_
          rintro e w2 ⟨⟨rfl, ho2⟩, hg2⟩
          have HO2 := Lib.hid ho2
          have HO2Q := Lib.hid (HO1.out.grown hg2 (by intro e; injection e with e; omega) : Own w2 ga ca p)
          have HUP2 := Lib.hid (hup1.grown hg2 hgb : Up w w2)
          have hmeas : (q - p) / 2 ^ twos (q - p) + p < p + q := by omega
          clear ho2 hg1 hg2 hup1 ht1
          generalize (q - p) / 2 ^ twos (q - p) = cc at *
          go_wp2
          go_roundg (cc + p)
          case measure => exact hmeas
          case rel => exact ⟨gb, ga, cb, ca, cc, p, rfl, rfl, HO2.out, HO2Q.out, hne.symm, hcodd, hpo, hszc, hszp, hgb, hga, by unfold Hid; rw [HCG.out]; exact (Nat.gcd_comm q p).trans HG.out, HUP2.out, rfl⟩
        · exfalso; rw [hpq] at hl1; omega
        · have HC := Lib.hid (HCMP.out.mono (R' := fun e w' => e = .returned (.int .i64 1) ∧ ∃ k, w' = wr.drewN k) fun _ _ ⟨he, hw⟩ => ⟨by rw [he, Int.sign_eq_one_of_pos (by omega)], hw⟩)
          clear HCMP
          go_wp2_with fail
          refine HC.out.mono ?_
          rintro e w1 ⟨rfl, nq, rfl⟩
          have hpos : 0 < p - q := by omega
          have hdec := decrease_own ga ca p _ cb q (wr.drewN nq) (hoa.drewN nq) (hob.rd.drewN nq) (own_away hne) hob.le_cap.1 (by omega)
          have HDEC := Lib.hid hdec
          have hcpm := hoa.le_cap
          have HUPT := Lib.hid (hup.trans (Up.drewN wr nq))
          have HOQD := Lib.hid (hob.drewN nq)
          have HG := Lib.hid hgcd
          have HOP := Lib.hid hoa
          have HOQ := Lib.hid hob
          obtain ⟨hcodd, hcle, hcg⟩ := odd_step (p := p) (q := q) hqo (by omega)
          have HCG := Lib.hid hcg
          have hszd : (digs 4294967296 (p - q)).length ≤ 67108864 := by have := digs_len_mono (show p - q ≤ p by omega); omega
          have hszc : (digs 4294967296 ((p - q) / 2 ^ twos (p - q))).length ≤ 67108864 := by have := digs_len_mono (show (p - q) / 2 ^ twos (p - q) ≤ p - q by omega); omega
          have htw := twos_le (p - q) hpos
          clear hdec hgcd hcg hoa hob hup
          go_wp2_with fail
          refine HDEC.out.mono ?_
          rintro e w1 ⟨r, xs, rfl, hrow1, hok1, hl1, hv1, hg1⟩
          have HV1 := Lib.hid hv1
          have hup1 : Up w w1 := HUPT.out.grown hg1 hga
          have HO1 := Lib.hid (HOQD.out.grown hg1 (by intro e; injection e with e; omega) : Own w1 gb cb q)
          have hT := trim_own ga ca _ xs w1 hrow1 hok1 hl1 hcpm.1 hcpm.2
          rw [hv1] at hT
          have HT := Lib.hid hT
          clear hv1 hT hrow1
          go_wp2_with fail
          refine HT.out.mono ?_
          rintro e w2 ⟨⟨rfl, ho1⟩, rfl⟩
          have HO1P := Lib.hid ho1
          have ht1 : Tab w1 := ht.up hup1
          clear ho1
          go_wp2_with fail
          refine (zeros_any _ (p - q) w1 HO1P.out.dv hpos ht1 (by omega)).mono ?_
          rintro e w2 ⟨rfl, rfl⟩
          go_wp2_with fail
          refine (shrink_own ga ca (p - q) (twos (p - q)) w1 HO1P.out (by omega)).mono ?_
          rintro e w2 ⟨⟨rfl, ho2⟩, hg2⟩
          have HO2 := Lib.hid ho2
          have HO2Q := Lib.hid (HO1.out.grown hg2 (by intro e; injection e with e; omega) : Own w2 gb cb q)
          have HUP2 := Lib.hid (hup1.grown hg2 hga : Up w w2)
          have hmeas : (p - q) / 2 ^ twos (p - q) + q < p + q := by omega
          clear ho2 hg1 hg2 hup1 ht1
          generalize (p - q) / 2 ^ twos (p - q) = cc at *
          go_wp2
          go_roundg (cc + q)
          case measure => exact hmeas
          case rel => exact ⟨ga, gb, ca, cb, cc, q, rfl, rfl, HO2.out, HO2Q.out, hne, hcodd, hqo, hszc, hszq, hga, hgb, by unfold Hid; rw [HCG.out]; exact HG.out, HUP2.out, rfl⟩
      · have hp64 : p < 18446744073709551616 := by
          have := lt_pow_len p
          have h2 := Nat.pow_le_pow_right (n := 2) (by omega) (show 32 * (digs 4294967296 p).length ≤ 64 by omega)
          omega
        have hq64 : q < 18446744073709551616 := by
          have := lt_pow_len q
          have h2 := Nat.pow_le_pow_right (n := 2) (by omega) (show 32 * (digs 4294967296 q).length ≤ 64 by omega)
          omega
        have hg64 : Nat.gcd p q < 18446744073709551616 := Nat.lt_of_le_of_lt (Nat.gcd_le_left q (by omega)) hp64
        have HOA := Lib.hid hoa
        have HOB := Lib.hid hob
        have HUP := Lib.hid hup
        clear hoa hob hup
        go_wp2_with fail
        refine (word_any _ p wr HOA.out.dv hp64).mono ?_
        rintro e w1 ⟨rfl, rfl⟩
        go_wp2_with fail
        refine (word_any _ q wr HOB.out.dv hq64).mono ?_
        rintro e w1 ⟨rfl, rfl⟩
        go_wp2_with fail
        refine (gcdWords_any p q wr hp64 hq64).mono ?_
        rintro e w1 ⟨rfl, nq, rfl⟩
        rw [hgcd.out] at hg64 ⊢
        go_wp2_with fail
        refine (natural_any _ _ hg64).mono ?_
        rintro e w2 ⟨v, rfl, hdv, hu2⟩
        have HDV := Lib.hid hdv
        clear hdv
        go_wp2
        go_ret
        exact ⟨_, rfl, HDV.out, (HUP.out.trans (Up.drewN wr nq)).trans hu2⟩
end Go.Proofs.YtacbjbnocepnaaaGreatDoor
namespace Go.Proofs.YtacbjbnocepnaaaGreatDoor
open Go.RowKit Fm
theorem pos_of_odd {a : Nat} (h : a % 2 = 1) : 0 < a := by omega
theorem gcd_parts {n r : Nat} (hn : 0 < n) (hr : 0 < r) : Nat.gcd (n / 2 ^ twos n) (r / 2 ^ twos r) * 2 ^ min (twos n) (twos r) = Nat.gcd n r := by
  obtain ⟨h1, h2, _⟩ := odd_part n hn
  obtain ⟨h3, h4, _⟩ := odd_part r hr
  have := gcd_twos (i := twos n) (j := twos r) h1 h3
  rw [← h2, ← h4] at this
  rw [this, Nat.mul_comm]
set_option maxHeartbeats 1000000 in
set_option maxRecDepth 100000 in
theorem gcd_sw (A A2 : Option Addr) (c c2 m n : Nat) (w : World) (h1 : Dv w (.slice A (digs 4294967296 m).length c) m) (h2 : Dv w (.slice A2 (digs 4294967296 n).length c2) n)
    (hle : (digs 4294967296 n).length ≤ (digs 4294967296 m).length) (hm : (digs 4294967296 m).length ≤ 67108864) (ht : Tab w) (sw : Bool) (hsw : sw = true → (digs 4294967296 n).length < (digs 4294967296 m).length) :
    Calls Tryz.prog 133 (if sw then #[.slice A2 (digs 4294967296 n).length c2, .slice A (digs 4294967296 m).length c] else #[.slice A (digs 4294967296 m).length c, .slice A2 (digs 4294967296 n).length c2]) w
      fun e w' => ∃ v, e = .returned v ∧ Dv w' v (Nat.gcd m n) ∧ Up w w' := by
  have H1 := Lib.hid h1
  have H2 := Lib.hid h2
  have hn := digs_len_mono (show m % n ≤ m from Nat.mod_le m n)
  by_cases hn0 : n = 0
  · subst hn0
    rw [digs_zero, List.length_nil] at hsw ⊢
    have hb : (((0 : Nat) : Int) == 0) = true := rfl
    clear h1 h2
    cases sw
    case' true => have hlt := hsw rfl; simp only [if_true]
    case' false => simp only [Bool.false_eq_true, if_false]
    all_goals
      go_enter Tryz.func133, Tryz.ntmps133
      go_wp2
      go_ret
      exact ⟨_, rfl, (Nat.gcd_zero_right m).symm ▸ H1.out, Up.refl w⟩
  · have hn1 : 0 < n := Nat.pos_of_ne_zero hn0
    have hne : digs 4294967296 n ≠ [] := fun e => hn0 ((digs_eq_nil (by omega)).1 e)
    have hl : 0 < (digs 4294967296 n).length := List.length_pos_iff.2 hne
    have hb : (((digs 4294967296 n).length : Int) == 0) = false := by simp; omega
    have hqr := quoRem_dv _ _ m n w h1 h2 (by omega) hn1
    have HQR := Lib.hid hqr
    clear hqr h1 h2 hne
    have hln : (digs 4294967296 n).length ≤ 67108864 := by omega
    by_cases hr0 : m % n = 0
    · have hg : Nat.gcd m n = n := by rw [Nat.gcd_comm, Nat.gcd_rec, hr0, Nat.gcd_zero_left]
      have HG := Lib.hid hg
      clear hg
      cases sw
      case' true => have hlt := hsw rfl; simp only [if_true]
      case' false => simp only [Bool.false_eq_true, if_false]
      all_goals
        go_enter Tryz.func133, Tryz.ntmps133
        go_wp2_with fail
        refine HQR.out.mono ?_
        rintro e w1 ⟨v3, v4, rfl, hd3, hd4, hup⟩
        rw [hr0] at hd4
        obtain ⟨A4, c4, rfl, hc4, hcm4, hr4⟩ := hd4
        have HE2 := Lib.hid (Sl.up H2.out hup)
        rw [digs_zero, List.length_nil] at *
        go_wp2
        go_ret
        exact ⟨_, rfl, by rw [HG.out]; exact HE2.out, hup⟩
    · have hr1 : 0 < m % n := Nat.pos_of_ne_zero hr0
      have hg : Nat.gcd (n / 2 ^ twos n) (m % n / 2 ^ twos (m % n)) * 2 ^ min (twos n) (twos (m % n)) = Nat.gcd m n := by
        rw [gcd_parts hn1 hr1, Nat.gcd_comm m n, Nat.gcd_rec n m, Nat.gcd_comm]
      have HG := Lib.hid hg
      clear hg
      have ho1 := odd_part n hn1
      have ho2 := odd_part (m % n) hr1
      have ht1 := twos_le n hn1
      have ht2 := twos_le (m % n) hr1
      have hne4 : digs 4294967296 (m % n) ≠ [] := fun e => hr0 ((digs_eq_nil (by omega)).1 e)
      have hl4 : 0 < (digs 4294967296 (m % n)).length := List.length_pos_iff.2 hne4
      have hb4 : (((digs 4294967296 (m % n)).length : Int) == 0) = false := by simp; omega
      have hs1 := digs_len_mono ho1.2.2
      have hs2 := digs_len_mono ho2.2.2
      have HO1 := Lib.hid ho1
      have HO2 := Lib.hid ho2
      clear ho1 ho2 hne4
      cases sw
      case' true => have hlt := hsw rfl; simp only [if_true]
      case' false => simp only [Bool.false_eq_true, if_false]
      all_goals
        go_enter Tryz.func133, Tryz.ntmps133
        go_wp2_with fail
        refine HQR.out.mono ?_
        rintro e w1 ⟨v3, v4, rfl, hd3, hd4, hup⟩
        have HD4 := Lib.hid hd4
        obtain ⟨A4, c4, rfl, hc4, hcm4, hr4⟩ := hd4
        have HE2 := Lib.hid (Sl.up H2.out hup)
        have ht1' : Tab w1 := ht.up hup
        clear hd3
        go_wp2_with fail
        refine (zeros_any _ n w1 HE2.out hn1 ht1' (by omega)).mono ?_
        rintro e w2 ⟨rfl, rfl⟩
        go_wp2_with fail
        refine (zeros_any _ (m % n) w1 HD4.out hr1 ht1' (by omega)).mono ?_
        rintro e w2 ⟨rfl, rfl⟩
        go_wp2_with fail
        refine (right_own _ n (twos n) w1 HE2.out (by omega) (by omega)).mono ?_
        rintro e w2 ⟨ga, ca, rfl, hoa, hga, hup2⟩
        have HOA := Lib.hid hoa
        clear hoa
        go_wp2_with fail
        refine (right_own _ (m % n) (twos (m % n)) w2 (Sl.up HD4.out hup2) (by omega) (by omega)).mono ?_
        rintro e w3 ⟨gb, cb, rfl, hob, hgb, hup3⟩
        have HOB := Lib.hid hob
        clear hob
        go_wp2_with fail
        have hga2 := HOA.out.lt
        have hsz1 := hup.size
        have hsz2 := hup2.size
        refine (oddGcd_any _ _ (n / 2 ^ twos n) (m % n / 2 ^ twos (m % n)) _ w w3 ⟨ga, gb, ca, cb, _, _, rfl, rfl, HOA.out.up hup3, HOB.out, by omega, HO1.out.1, HO2.out.1, by omega, by omega, by omega, by omega, rfl, (hup.trans hup2).trans hup3, rfl⟩ ht).mono ?_
        rintro e w5 ⟨v5, rfl, hd5, hup5⟩
        have HD5 := Lib.hid hd5
        clear hd5
        go_wp2_with fail
        rw [show min (twos n : Int) (twos (m % n) : Int) = ((min (twos n) (twos (m % n)) : Nat) : Int) by omega]
        have hgl := digs_len_mono (Nat.gcd_le_left (n := m % n / 2 ^ twos (m % n)) (m := n / 2 ^ twos n) (pos_of_odd HO1.out.1))
        refine (left_dv _ _ (min (twos n) (twos (m % n))) w5 HD5.out (by omega) (by omega)).mono ?_
        rintro e w6 ⟨v6, rfl, hd6, hup6⟩
        rw [HG.out] at hd6
        have HD6 := Lib.hid hd6
        clear hd6
        go_wp2
        go_ret
        exact ⟨_, rfl, HD6.out, hup5.trans hup6⟩
theorem gcd_dv (v1 v2 : Value) (m n : Nat) (w : World) (h1 : Dv w v1 m) (h2 : Dv w v2 n) (hm : (digs 4294967296 m).length ≤ 67108864) (hn : (digs 4294967296 n).length ≤ 67108864) (ht : Tab w) :
    Calls Tryz.prog 133 #[v1, v2] w fun e w' => ∃ v, e = .returned v ∧ Dv w' v (Nat.gcd m n) ∧ Up w w' := by
  have g1 := h1
  have g2 := h2
  obtain ⟨A, c, rfl, hc, hcm, hr⟩ := h1
  obtain ⟨A2, c2, rfl, hc2, hcm2, hr2⟩ := h2
  rcases Nat.lt_or_ge (digs 4294967296 m).length (digs 4294967296 n).length with h | h
  · have := gcd_sw A2 A c2 c n m w g2 g1 (Nat.le_of_lt h) hn ht true (fun _ => h)
    simpa only [if_true, Nat.gcd_comm n m] using this
  · have := gcd_sw A A2 c c2 m n w g1 g2 h hm ht false (fun e => by cases e)
    simpa only [Bool.false_eq_true, if_false] using this
end Go.Proofs.YtacbjbnocepnaaaGreatDoor
