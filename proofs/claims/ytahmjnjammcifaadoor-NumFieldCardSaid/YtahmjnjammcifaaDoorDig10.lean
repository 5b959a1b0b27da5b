import Derived.Test.YtahmjnjammcifaaDoorDig9
namespace Go.Proofs.YtahmjnjammcifaaDoor
open Go.RowKit Fm

theorem u64_u32 {q : Nat} (h : q < 4294967296) : IntKind.u64.wrap (q : Int) % 4294967296 = (q : Int) := by
  rw [IntKind.wrap_u64]; omega
theorem div32_any (hi lo y : Nat) (w : World) (hl : lo < 4294967296) (hy : y < 4294967296) (h : hi < y) :
    Calls Tryd.prog 118 #[.int .u32 hi, .int .u32 lo, .int .u32 y] w fun e w' =>
      e = .returned (.tuple #[.int .u32 ((hi * 4294967296 + lo) / y : Nat), .int .u32 ((hi * 4294967296 + lo) % y : Nat)]) ∧ ∃ n, w' = w.drewN n := by
  have hy0 : ((y : Int) != 0) = true := by simp; omega
  have hle : decide ((y : Int) ≤ hi) = false := by simp; omega
  have hor : bits .or .u64 ((hi : Int) * 4294967296) (lo : Int) = ((hi * 4294967296 + lo : Nat) : Int) := by
    have e : ((hi : Int) * 4294967296) = ((hi * 4294967296 : Nat) : Int) := by omega
    rw [e, u64_or_nat _ _ (by omega) (by omega), Nat.or_comm, or_shift lo hi 32 hl, Nat.add_comm]
  have hn : hi * 4294967296 + lo < y * 4294967296 := by
    have := Nat.mul_le_mul_right 4294967296 (show hi + 1 ≤ y from h)
    omega
  have hq : (hi * 4294967296 + lo) / y < 4294967296 := Nat.div_lt_of_lt_mul hn
  have hr : (hi * 4294967296 + lo) % y < 4294967296 := Nat.lt_of_lt_of_le (Nat.mod_lt _ (by omega)) (by omega)
  have hnb : hi * 4294967296 + lo < 18446744073709551616 := by omega
  generalize hN : hi * 4294967296 + lo = N at *
  clear hN hn
  go_enter Tryd.func118, Tryd.ntmps118
  go_wp2
  go_quiet (fail)
  go_wp2
  go_ret2
  exact ⟨ret_pair (by rw [show (N : Int) / y = ((N / y : Nat) : Int) from (Int.natCast_ediv N y).symm]; exact u64_u32 hq) (Int.natCast_emod N y).symm, nq, rfl⟩

theorem div32_hid (hi lo y : Nat) (w : World) (hl : lo < 4294967296) (hy : y < 4294967296) (h : hi < y) :
    Calls Tryd.prog 118 #[.int .u32 hi, .int .u32 lo, .int .u32 y] w fun e w' =>
      ∃ q r : Nat, e = .returned (.tuple #[.int .u32 q, .int .u32 r]) ∧ Hid (q = (hi * 4294967296 + lo) / y) ∧ Hid (r = (hi * 4294967296 + lo) % y) ∧ ∃ n, w' = w.drewN n :=
  (div32_any hi lo y w hl hy h).mono fun _ _ ⟨he, hw⟩ => ⟨_, _, he, rfl, rfl, hw⟩

/-- The digits of a quotient by one digit, from the top down. -/
def QrdRel (g : Nat) (ds : List Nat) (y : Nat) (w0 : World) (k rest : Nat) (w' : World) : Prop :=
  ∃ zs, Row .u32 102 w' g zs ∧ zs.length = ds.length ∧ Ok 4294967296 zs ∧ rest < y ∧ val 4294967296 (ds.drop k) = y * val 4294967296 (zs.drop k) + rest ∧ w0.grownBy w' (some g)
theorem QrdRel.step {g y k rest x : Nat} {ds zs : List Nat} {w0 w' : World} (hrow : Row .u32 102 w' g zs) (hl : zs.length = ds.length) (hok : Ok 4294967296 zs) (hr : rest < y) (hy : y < 4294967296)
    (hv : val 4294967296 (ds.drop (k + 1)) = y * val 4294967296 (zs.drop (k + 1)) + rest) (hg : w0.grownBy w' (some g)) (hk : k < ds.length) (hx : x = ds[k]) (hxb : x < 4294967296) :
    QrdRel g ds y w0 k ((rest * 4294967296 + x) % y) (w'.setCell ⟨g, k, none⟩ (.int .u32 (((rest * 4294967296 + x) / y : Nat) : Int))) := by
  have hn : rest * 4294967296 + x < y * 4294967296 := by
    have := Nat.mul_le_mul_right 4294967296 (show rest + 1 ≤ y from hr)
    omega
  refine ⟨_, hrow.set _ _, by simp [hl], hok.set _ (Nat.div_lt_of_lt_mul hn), Nat.mod_lt _ (by omega), ?_, grown_set hg _ _⟩
  have e1 : (zs.set k ((rest * 4294967296 + x) / y)).drop k = ((rest * 4294967296 + x) / y) :: zs.drop (k + 1) := by
    rw [List.drop_eq_getElem_cons (by simp; omega), List.getElem_set_self, List.drop_set_of_lt (by omega)]
  rw [e1, List.drop_eq_getElem_cons hk, ← hx]
  simp only [val]
  rw [hv]
  have := Nat.mod_add_div (rest * 4294967296 + x) y
  generalize (rest * 4294967296 + x) / y = q at *
  generalize (rest * 4294967296 + x) % y = r at *
  generalize val 4294967296 (zs.drop (k + 1)) = Z at *
  grind

set_option maxRecDepth 100000 in
theorem quoRemDigit_any (v1 : Value) (m y : Nat) (w : World) (h1 : Dv w v1 m) (hm : (digs 4294967296 m).length ≤ 2147483648) (hy : y < 4294967296) (h0 : 0 < y) :
    Calls Tryd.prog 111 #[v1, .int .u32 y] w fun e w' => ∃ v2 v3, e = .returned (.tuple #[v2, v3]) ∧ Dv w' v2 (m / y) ∧ Dv w' v3 (m % y) ∧ Up w w' := by
  obtain ⟨A, c, rfl, hc, hcm, hr⟩ := h1
  have hok := digs_ok (B := 4294967296) (by omega) m
  have hv := val_digs (B := 4294967296) (by omega) m
  generalize digs 4294967296 m = ds at *
  have HV := Lib.hid hv
  clear hv
  have hmk : ∀ W, (Instr.makeSlice 47 (.int .i64 (ds.length : Int)) (.int .i64 (ds.length : Int))).run Tryd.prog W = .ok (.slice (some ⟨W.heap.size, 0, none⟩) ds.length ds.length) (W.alloc (.cells (rowOf .u32 (zeroL ds.length)) 102)) :=
    fun W => mk32 ds.length (by omega) W
  have hrow0 := Row.new (k := .u32) (t := 102) w (zeroL ds.length)
  have hrA := hr.up (Up.alloc w (.cells (rowOf .u32 (zeroL ds.length)) 102))
  have haw : ds ≠ [] → Away A w.heap.size := fun h => Away.of_lt hr h (Nat.le_refl _)
  have hup0 := Up.alloc w (.cells (rowOf .u32 (zeroL ds.length)) 102)
  have H0 : QrdRel w.heap.size ds y (w.alloc (.cells (rowOf .u32 (zeroL ds.length)) 102)) ds.length 0 (w.alloc (.cells (rowOf .u32 (zeroL ds.length)) 102)) :=
    ⟨_, hrow0, zeroL_length _, zeroL_ok (by omega) _, h0, by rw [List.drop_eq_nil_of_le (Nat.le_refl _), List.drop_eq_nil_of_le (by rw [zeroL_length]; exact Nat.le_refl _)]; rfl, World.grownBy.refl _ _⟩
  clear hrow0
  go_enter Tryd.func111, Tryd.ntmps111
  go_wp2
  generalize hWA : w.alloc (.cells (rowOf .u32 (zeroL ds.length)) 102) = wA at *
  clear hWA
  go_loopw [7, 8] (fun rv iv wr => ∃ k rest : Nat, iv = .int .i64 ((k : Int) - 1) ∧ rv = .int .u32 rest ∧ k ≤ ds.length ∧ QrdRel w.heap.size ds y wA k rest wr) (fun _ iv _ => (intOf iv + 1).toNat)
  case atStart => exact ⟨ds.length, 0, rfl, rfl, Nat.le_refl _, H0⟩
  case round =>
    obtain ⟨k, rest, rfl, rfl, hk, hR⟩ := hrel
    have hR0 := hR
    obtain ⟨zs, hrow, hl, hokz, hrest, hv, hg⟩ := hR
    have HL := Lib.hid hl
    have HVV := Lib.hid hv
    clear hl hv
    by_cases hk0 : k = 0
    · subst hk0
      have hv2 := HVV.out
      rw [List.drop_zero, List.drop_zero, HV.out] at hv2
      have hdm : val 4294967296 zs = m / y ∧ rest = m % y := by
        have e1 : m / y = val 4294967296 zs := by
          rw [hv2, Nat.mul_add_div h0, Nat.div_eq_of_lt hrest, Nat.add_zero]
        have e2 : m % y = rest := by
          rw [hv2, Nat.mul_add_mod, Nat.mod_eq_of_lt hrest]
        exact ⟨e1.symm, e2.symm⟩
      have HZ := Lib.hid hdm.1
      have HRR := Lib.hid hdm.2
      have hup := hup0.grown hg (Nat.le_refl _)
      have hrb : rest < 18446744073709551616 := by omega
      clear hv2 hdm
      go_wp2_with (first
        | (go_at_call 88; refine (trim_row w.heap.size ds.length ds.length zs wr hrow hokz HL.out (Nat.le_refl _) (by unfold maxLen; omega)).mono ?_; rintro e w4 ⟨⟨rfl, hdv⟩, rfl⟩; rw [HZ.out] at hdv ⊢)
        | (go_at_call 66; refine (natural_any rest _ hrb).mono ?_; rintro e w5 ⟨v5, rfl, hdv5, hup5⟩))
      go_ret2
      rw [HRR.out] at hdv5
      exact ⟨_, _, rfl, hdv.up hup5, hdv5, hup.trans hup5⟩
    · obtain ⟨j, rfl⟩ : ∃ j, k = j + 1 := ⟨k - 1, by omega⟩
      obtain ⟨b, off, rfl, hb, hcell⟩ := (hrA.grown hg (haw (by intro e; subst e; simp at hk))).at_ (i := j) (by omega)
      have hxb := hok.get (k := j) (by omega)
      generalize hxx : ds[j] = x at *
      have HX := Lib.hid hxx
      clear hxx
      have hj : j < zs.length := by rw [HL.out]; omega
      have hcz := hrow.cell hj
      have hfr := hrow.frozen j
      generalize zs[j] = z at *
      rw [show ((j + 1 : Nat) : Int) - 1 = (j : Int) by omega]
      go_wp2_with (go_at_call 118; refine (div32_hid rest x y _ hxb hy hrest).mono ?_; rintro e w' ⟨q1, r1, rfl, hq1, hr1, nq, rfl⟩)
      go_roundw
      case rel =>
        refine ⟨j, _, rfl, rfl, by omega, ?_⟩
        rw [hq1.out, hr1.out]
        exact QrdRel.step (hrow.drewN nq) HL.out hokz hrest hy HVV.out (grown_trans hg (grown_up (Up.drewN wr nq) _)) (by omega) HX.out.symm hxb
      case measure => simp [intOf]
end Go.Proofs.YtahmjnjammcifaaDoor
