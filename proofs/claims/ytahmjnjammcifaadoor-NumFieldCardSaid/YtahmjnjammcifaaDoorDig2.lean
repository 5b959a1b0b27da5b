import Derived.Test.YtahmjnjammcifaaDoorDig1
namespace Go.Proofs.YtahmjnjammcifaaDoor
open Go.RowKit Fm

/-- After k rounds of 'increase': the first k digits from off on are those of the sum. -/
def IncRel (w : World) (g off n : Nat) (xs es : List Nat) (k carry : Nat) (w' : World) : Prop :=
  ∃ zs, carry ≤ 1 ∧ Row .u32 102 w' g zs ∧ zs.length = xs.length ∧ Ok 4294967296 zs ∧ (∀ i, i < off ∨ off + k ≤ i → zs[i]? = xs[i]?) ∧
    val 4294967296 (seg zs off k) + 4294967296 ^ k * carry = val 4294967296 (seg xs off k) + val 4294967296 (es.take k) ∧ w.grownBy w' (some g) ∧ k ≤ n
def IncPost (w : World) (g off n : Nat) (xs es : List Nat) (e : Ending) (w' : World) : Prop := ∃ carry, e = .returned (.int .u32 ((carry : Nat) : Int)) ∧ IncRel w g off n xs es n carry w'

theorem IncRel.start {w : World} {g off n : Nat} {xs es : List Nat} (hrow : Row .u32 102 w g xs) (hok : Ok 4294967296 xs) : IncRel w g off n xs es 0 0 w :=
  ⟨xs, by omega, hrow, rfl, hok, fun _ _ => rfl, by simp [seg_zero, val], World.grownBy.refl w _, by omega⟩
theorem IncRel.step {w w' : World} {g off n k carry x : Nat} {xs es zs : List Nat} (hn : off + n ≤ xs.length) (hk : k < n) (hc : carry ≤ 1) (hrow : Row .u32 102 w' g zs) (hl : zs.length = xs.length) (hok : Ok 4294967296 zs)
    (hout : ∀ i, i < off ∨ off + k ≤ i → zs[i]? = xs[i]?) (hv : val 4294967296 (seg zs off k) + 4294967296 ^ k * carry = val 4294967296 (seg xs off k) + val 4294967296 (es.take k)) (hg : w.grownBy w' (some g))
    (y : Nat) (hy : y = zs[off + k]'(by omega)) (hx : x < 4294967296) (hes : val 4294967296 (es.take (k + 1)) = val 4294967296 (es.take k) + 4294967296 ^ k * x) :
    IncRel w g off n xs es (k + 1) ((y + x + carry) / 4294967296) (w'.setCell ⟨g, off + k, none⟩ (.int .u32 (((y + x + carry) % 4294967296 : Nat) : Int))) := by
  have hyb : y < 4294967296 := by rw [hy]; exact hok.get _
  refine ⟨zs.set (off + k) ((y + x + carry) % 4294967296), by omega, hrow.set _ _, by simp [hl], hok.set _ (Nat.mod_lt _ (by omega)), fun i hi => ?_, ?_, grown_set hg _ _, by omega⟩
  · rw [List.getElem?_set_ne (by omega)]; exact hout i (by omega)
  · have hlk : off + k < zs.length := by omega
    have hxs : y = xs[off + k]'(by omega) := by rw [hy]; exact getElem_of_get? (hout _ (.inr (Nat.le_refl _))) _ _
    rw [val_seg_succ _ (by simp; omega), seg_set _ (.inr (Nat.le_refl _)), val_seg_succ _ (by omega : off + k < xs.length), hes, ← hxs]
    simp only [List.getElem_set_self]
    have := Nat.mod_add_div (y + x + carry) 4294967296
    rw [Nat.pow_succ]
    generalize (y + x + carry) % 4294967296 = r at *
    generalize (y + x + carry) / 4294967296 = q at *
    generalize 4294967296 ^ k = P at *
    grind
theorem IncRel.leave {w w' : World} {g off n k : Nat} {xs es : List Nat} (hn : off + n ≤ xs.length) (hk : k ≤ n) (he : es.length ≤ k) (h : IncRel w g off n xs es k 0 w') : IncRel w g off n xs es n 0 w' := by
  obtain ⟨zs, h1, h2, h3, h4, h5, h6, h7, h8⟩ := h
  refine ⟨zs, h1, h2, h3, h4, fun i hi => h5 i (by omega), ?_, h7, Nat.le_refl _⟩
  have := val_seg_rest 4294967296 hk (by omega) hn (fun i hi hj => h5 i (.inr hi))
  rw [List.take_of_length_le he] at h6
  rw [List.take_of_length_le (by omega)]
  omega

set_option maxHeartbeats 400000 in
theorem increase_any (g off n c : Nat) (xs : List Nat) (A : Option Addr) (c2 : Nat) (es : List Nat) (w : World)
    (hrow : Row .u32 102 w g xs) (hn : off + n ≤ xs.length) (hnc : n ≤ c) (hc : c ≤ maxLen) (hok : Ok 4294967296 xs)
    (he : es.length ≤ n) (hr : Rd .u32 w A es) (ha : es ≠ [] → Away A g) (hoke : Ok 4294967296 es) (hec : es.length ≤ c2) :
    Calls Tryd.prog 109 #[.slice (some ⟨g, off, none⟩) n c, .slice A es.length c2] w (IncPost w g off n xs es) := by
  unfold maxLen at hc
  have H0 := IncRel.start (off := off) (n := n) (es := es) hrow hok
  clear hrow
  go_enter Tryd.func109, Tryd.ntmps109
  go_wp2
  go_loopw [5, 10] (fun v i wr => ∃ k carry : Nat, i = .int .i64 k ∧ v = .int .u32 carry ∧ IncRel w g off n xs es k carry wr) (fun _ i _ => n - (intOf i).toNat)
  case atStart => exact ⟨0, 0, rfl, rfl, H0⟩
  case round =>
    obtain ⟨k, carry, rfl, rfl, hR⟩ := hrel
    have hR0 := hR
    obtain ⟨zs, hc1, hrow, hl, hokz, hout, hv, hg, hkn⟩ := hR
    have HL := Lib.hid hl
    have HV := Lib.hid hv
    have HO := Lib.hid hout
    have HE := Lib.hid he
    clear hl hv hout
    rcases Nat.lt_or_ge k n with hk | hk
    · have hlz : off + k < zs.length := by rw [HL.out]; omega
      have hcell := hrow.cell hlz
      have hfr := hrow.frozen (off + k)
      have hyb := hokz.get hlz
      generalize hy : zs[off + k] = y at *
      have HY := Lib.hid hy
      clear hy
      rcases Nat.lt_or_ge k es.length with hke | hke
      · obtain ⟨b, o2, rfl, hb, hce⟩ := (hr.grown hg (ha (by intro e; subst e; simp at hke))).at_ hke
        have hxb := hoke.get hke
        have hes := val_take_succ 4294967296 hke
        generalize es[k] = x at *
        have HES := Lib.hid hes
        clear hes
        go_wp2_with (go_at_call 116; refine (add32_any _ _ _ _ hyb hxb hc1).mono ?_; rintro e w' ⟨rfl, rfl⟩)
        go_roundw
        case rel => exact ⟨k + 1, _, by go_num, rfl, IncRel.step hn hk hc1 hrow HL.out hokz HO.out HV.out hg y HY.out.symm hxb HES.out⟩
        case measure => simp [intOf]; omega
      · have hes : val 4294967296 (es.take (k + 1)) = val 4294967296 (es.take k) + 4294967296 ^ k * 0 := by
          rw [List.take_of_length_le hke, List.take_of_length_le (by omega)]; omega
        have HES := Lib.hid hes
        clear hes
        by_cases h0 : carry = 0
        · subst h0
          have hfin := IncRel.leave hn hkn hke hR0
          go_wp2
          go_ret
          exact ⟨0, rfl, hfin⟩
        · obtain rfl : carry = 1 := by omega
          go_wp2_with (go_at_call 116; refine (add32_any _ 0 _ _ hyb (by omega) hc1).mono ?_; rintro e w' ⟨rfl, rfl⟩)
          go_roundw
          case rel => exact ⟨k + 1, _, by go_num, rfl, IncRel.step hn hk hc1 hrow HL.out hokz HO.out HV.out hg y HY.out.symm (by omega) HES.out⟩
          case measure => simp [intOf]; omega
    · obtain rfl : k = n := by omega
      go_wp2
      go_ret
      exact ⟨carry, rfl, hR0⟩
end Go.Proofs.YtahmjnjammcifaaDoor
