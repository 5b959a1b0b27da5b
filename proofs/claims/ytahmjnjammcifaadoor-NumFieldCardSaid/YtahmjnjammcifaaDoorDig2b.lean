import Derived.Test.YtahmjnjammcifaaDoorDig2
namespace Go.Proofs.YtahmjnjammcifaaDoor
open Go.RowKit Fm

/-- After k rounds of 'decrease': the first k digits from off on are those of the difference. -/
def DecRel (w : World) (g off n : Nat) (xs es : List Nat) (k borrow : Nat) (w' : World) : Prop :=
  ∃ zs, borrow ≤ 1 ∧ Row .u32 102 w' g zs ∧ zs.length = xs.length ∧ Ok 4294967296 zs ∧ (∀ i, i < off ∨ off + k ≤ i → zs[i]? = xs[i]?) ∧
    val 4294967296 (seg zs off k) + val 4294967296 (es.take k) = val 4294967296 (seg xs off k) + 4294967296 ^ k * borrow ∧ w.grownBy w' (some g) ∧ k ≤ n
def DecPost (w : World) (g off n : Nat) (xs es : List Nat) (e : Ending) (w' : World) : Prop := ∃ borrow r, e = .returned r ∧ DecRel w g off n xs es n borrow w'

theorem DecRel.start {w : World} {g off n : Nat} {xs es : List Nat} (hrow : Row .u32 102 w g xs) (hok : Ok 4294967296 xs) : DecRel w g off n xs es 0 0 w :=
  ⟨xs, by omega, hrow, rfl, hok, fun _ _ => rfl, by simp [seg_zero, val], World.grownBy.refl w _, by omega⟩
theorem DecRel.step {w w' : World} {g off n k borrow x : Nat} {xs es zs : List Nat} (hn : off + n ≤ xs.length) (hk : k < n) (hc : borrow ≤ 1) (hrow : Row .u32 102 w' g zs) (hl : zs.length = xs.length) (hok : Ok 4294967296 zs)
    (hout : ∀ i, i < off ∨ off + k ≤ i → zs[i]? = xs[i]?) (hv : val 4294967296 (seg zs off k) + val 4294967296 (es.take k) = val 4294967296 (seg xs off k) + 4294967296 ^ k * borrow) (hg : w.grownBy w' (some g))
    (y : Nat) (hy : y = zs[off + k]'(by omega)) (hx : x < 4294967296) (hes : val 4294967296 (es.take (k + 1)) = val 4294967296 (es.take k) + 4294967296 ^ k * x) :
    DecRel w g off n xs es (k + 1) (bor32 y x borrow) (w'.setCell ⟨g, off + k, none⟩ (.int .u32 ((dif32 y x borrow : Nat) : Int))) := by
  have hyb : y < 4294967296 := by rw [hy]; exact hok.get _
  refine ⟨zs.set (off + k) (dif32 y x borrow), bor_le _ _ _, hrow.set _ _, by simp [hl], hok.set _ (dif_lt _ _ _), fun i hi => ?_, ?_, grown_set hg _ _, by omega⟩
  · rw [List.getElem?_set_ne (by omega)]; exact hout i (by omega)
  · have hlk : off + k < zs.length := by omega
    have hxs : y = xs[off + k]'(by omega) := by rw [hy]; exact getElem_of_get? (hout _ (.inr (Nat.le_refl _))) _ _
    rw [val_seg_succ _ (by simp; omega), seg_set _ (.inr (Nat.le_refl _)), val_seg_succ _ (by omega : off + k < xs.length), hes, ← hxs]
    simp only [List.getElem_set_self]
    have := dif_eq hyb hx hc
    rw [Nat.pow_succ]
    generalize dif32 y x borrow = r at *
    generalize bor32 y x borrow = q at *
    generalize 4294967296 ^ k = P at *
    grind
theorem DecRel.leave {w w' : World} {g off n k : Nat} {xs es : List Nat} (hn : off + n ≤ xs.length) (hk : k ≤ n) (he : es.length ≤ k) (h : DecRel w g off n xs es k 0 w') : DecRel w g off n xs es n 0 w' := by
  obtain ⟨zs, h1, h2, h3, h4, h5, h6, h7, h8⟩ := h
  refine ⟨zs, h1, h2, h3, h4, fun i hi => h5 i (by omega), ?_, h7, Nat.le_refl _⟩
  have := val_seg_rest 4294967296 hk (by omega) hn (fun i hi hj => h5 i (.inr hi))
  rw [List.take_of_length_le he] at h6
  rw [List.take_of_length_le (by omega)]
  omega

set_option maxHeartbeats 400000 in
theorem decrease_any (g off n c : Nat) (xs : List Nat) (A : Option Addr) (c2 : Nat) (es : List Nat) (w : World)
    (hrow : Row .u32 102 w g xs) (hn : off + n ≤ xs.length) (hnc : n ≤ c) (hc : c ≤ maxLen) (hok : Ok 4294967296 xs)
    (he : es.length ≤ n) (hr : Rd .u32 w A es) (ha : es ≠ [] → Away A g) (hoke : Ok 4294967296 es) (hec : es.length ≤ c2) :
    Calls Tryd.prog 110 #[.slice (some ⟨g, off, none⟩) n c, .slice A es.length c2] w (DecPost w g off n xs es) := by
  unfold maxLen at hc
  have H0 := DecRel.start (off := off) (n := n) (es := es) hrow hok
  clear hrow
  go_enter Tryd.func110, Tryd.ntmps110
  go_wp2
  go_loopw [4, 9] (fun v i wr => ∃ k borrow : Nat, i = .int .i64 k ∧ v = .int .u32 borrow ∧ DecRel w g off n xs es k borrow wr) (fun _ i _ => n - (intOf i).toNat)
  case atStart => exact ⟨0, 0, rfl, rfl, H0⟩
  case round =>
    obtain ⟨k, borrow, rfl, rfl, hR⟩ := hrel
    have hR0 := hR
    obtain ⟨zs, hc1, hrow, hl, hokz, hout, hv, hg, hkn⟩ := hR
    have HL := Lib.hid hl
    have HV := Lib.hid hv
    have HO := Lib.hid hout
    have HE := Lib.hid he
    clear hl hv hout
    rcases Nat.lt_or_ge k n with hk | hk
    · have hlz : off + k < zs.length := by rw [HL.out]; omega
      have hcell := hrow.cell hlz
      have hfr := hrow.frozen (off + k)
      have hyb := hokz.get hlz
      generalize hy : zs[off + k] = y at *
      have HY := Lib.hid hy
      clear hy
      rcases Nat.lt_or_ge k es.length with hke | hke
      · obtain ⟨b, o2, rfl, hb, hce⟩ := (hr.grown hg (ha (by intro e; subst e; simp at hke))).at_ hke
        have hxb := hoke.get hke
        have hes := val_take_succ 4294967296 hke
        generalize es[k] = x at *
        have HES := Lib.hid hes
        clear hes
        go_wp2_with (go_at_call 117; refine (sub32_any _ _ _ _ hyb hxb hc1).mono ?_; rintro e w' ⟨rfl, rfl⟩)
        go_roundw
        case rel => exact ⟨k + 1, _, by go_num, rfl, DecRel.step hn hk hc1 hrow HL.out hokz HO.out HV.out hg y HY.out.symm hxb HES.out⟩
        case measure => simp [intOf]; omega
      · have hes : val 4294967296 (es.take (k + 1)) = val 4294967296 (es.take k) + 4294967296 ^ k * 0 := by
          rw [List.take_of_length_le hke, List.take_of_length_le (by omega)]; omega
        have HES := Lib.hid hes
        clear hes
        by_cases h0 : borrow = 0
        · subst h0
          have hfin := DecRel.leave hn hkn hke hR0
          go_wp2
          refine bodyPost_end (results_none rfl _ _ _) rfl ?_
          exact ⟨0, _, rfl, hfin⟩
        · obtain rfl : borrow = 1 := by omega
          go_wp2_with (go_at_call 117; refine (sub32_any _ 0 _ _ hyb (by omega) hc1).mono ?_; rintro e w' ⟨rfl, rfl⟩)
          go_roundw
          case rel => exact ⟨k + 1, _, by go_num, rfl, DecRel.step hn hk hc1 hrow HL.out hokz HO.out HV.out hg y HY.out.symm (by omega) HES.out⟩
          case measure => simp [intOf]; omega
    · obtain rfl : k = n := by omega
      go_wp2
      refine bodyPost_end (results_none rfl _ _ _) rfl ?_
      exact ⟨borrow, _, rfl, hR0⟩

theorem cmp_any (v1 v2 : Value) (m n : Nat) (w : World) (h1 : Dv w v1 m) (h2 : Dv w v2 n) :
    Calls Tryd.prog 92 #[v1, v2] w fun e w' => e = .returned (.int .i64 ((m : Int) - n).sign) ∧ ∃ k, w' = w.drewN k := by
  have hm63 := h1.len
  have hn63 := h2.len
  obtain ⟨A, c, rfl, hc, hcm, hr⟩ := h1
  obtain ⟨A2, c2, rfl, hc2, hcm2, hr2⟩ := h2
  by_cases hl : (digs 4294967296 m).length = (digs 4294967296 n).length
  · have hl1 : ((digs 4294967296 m).length != (digs 4294967296 n).length) = false := by simp [hl]
    have HL := Lib.hid hl
    have hm1 := digs_ok (B := 4294967296) (by omega) m
    have hn1 := digs_ok (B := 4294967296) (by omega) n
    have hm2 := val_digs (B := 4294967296) (by omega) m
    have hn2 := val_digs (B := 4294967296) (by omega) n
    generalize digs 4294967296 m = ds at *
    generalize digs 4294967296 n = es at *
    have HM := Lib.hid hm2
    have HN := Lib.hid hn2
    have HL1 := Lib.hid hl1
    clear hm2 hn2 hl1
    rw [← hl]
    clear hl
    go_enter Tryd.func92, Tryd.ntmps92
    go_wp2
    go_loopw [5] (fun i wr => ∃ k q : Nat, k ≤ ds.length ∧ i = .int .i64 ((k : Int) - 1) ∧ Hid (ds.drop k = es.drop k) ∧ wr = w.drewN q) (fun i _ => (intOf i + 1).toNat)
    case atStart => exact ⟨ds.length, 0, Nat.le_refl _, rfl, by unfold Hid; rw [List.drop_eq_nil_of_le (Nat.le_refl _), List.drop_eq_nil_of_le (by have := HL.out; omega)], rfl⟩
    case round =>
      obtain ⟨k, q, hk, rfl, hd, rfl⟩ := hrel
      by_cases h0 : k = 0
      · subst h0
        go_wp2
        go_ret
        have : ds = es := by simpa using hd.out
        subst this
        have := HM.out.symm.trans HN.out
        subst this
        exact ⟨ret_int (by simp), _, rfl⟩
      · obtain ⟨j, rfl⟩ : ∃ j, k = j + 1 := ⟨k - 1, by omega⟩
        have hje : j < es.length := by have := HL.out; omega
        obtain ⟨b, off, rfl, hb, hcell⟩ := hr.at_ (i := j) (by omega)
        obtain ⟨b2, off2, rfl, hb2, hcell2⟩ := hr2.at_ (i := j) hje
        have hlt := @lt_of_drop 4294967296 (by omega) ds es j hm1 HL.out (by omega) hd.out
        have hgt := @lt_of_drop 4294967296 (by omega) es ds j hn1 HL.out.symm hje hd.out.symm
        rw [HM.out, HN.out] at hlt hgt
        have hdd : ds[j] = es[j] → ds.drop j = es.drop j := fun e => by
          rw [List.drop_eq_getElem_cons (by omega : j < ds.length), List.drop_eq_getElem_cons hje, e, hd.out]
        rw [show ((j + 1 : Nat) : Int) - 1 = (j : Int) by omega]
        generalize ds[j] = x at *
        generalize es[j] = y at *
        have HLT := Lib.hid hlt
        have HGT := Lib.hid hgt
        have HDD := Lib.hid hdd
        clear hlt hgt hdd
        rcases Nat.lt_trichotomy x y with hxy | hxy | hxy
        · go_wp2
          go_quiet (fail)
          go_wp2
          go_ret
          refine ⟨ret_int ?_, by simp only [World.drewN_drewN]; exact ⟨_, rfl⟩⟩
          have := HLT.out hxy
          exact (Int.sign_eq_neg_one_of_neg (by omega)).symm
        · subst hxy
          go_wp2
          go_quiet (fail)
          go_wp2
          go_quiet (fail)
          go_wp2
          go_roundw
          case rel => exact ⟨j, _, by omega, rfl, HDD.out trivial, rfl⟩
          case measure => simp [intOf]
        · go_wp2
          go_quiet (fail)
          go_wp2
          go_quiet (fail)
          go_wp2
          go_ret
          refine ⟨ret_int ?_, by simp only [World.drewN_drewN]; exact ⟨_, rfl⟩⟩
          have := HGT.out hxy
          exact (Int.sign_eq_one_of_pos (by omega)).symm
  · have hlb : ((((digs 4294967296 m).length : Nat) : Int) != (digs 4294967296 n).length) = true := by simp; omega
    have hlt := lt_of_length_lt (B := 4294967296) (m := m) (n := n) (by omega)
    have hgt := lt_of_length_lt (B := 4294967296) (m := n) (n := m) (by omega)
    generalize (digs 4294967296 m).length = x at *
    generalize (digs 4294967296 n).length = y at *
    have HLT := Lib.hid hlt
    have HGT := Lib.hid hgt
    clear hlt hgt
    go_enter Tryd.func92, Tryd.ntmps92
    go_wp2_with (go_at_call 85; refine (sign_any _ _).mono ?_; rintro e w' ⟨rfl, rfl⟩)
    go_ret
    refine ⟨ret_int ?_, 0, rfl⟩
    rcases Nat.lt_or_ge x y with h | h
    · have := HLT.out h
      rw [Int.sign_eq_neg_one_of_neg (by omega), Int.sign_eq_neg_one_of_neg (by omega)]
    · have := HGT.out (by omega)
      rw [Int.sign_eq_one_of_pos (by omega), Int.sign_eq_one_of_pos (by omega)]
end Go.Proofs.YtahmjnjammcifaaDoor
