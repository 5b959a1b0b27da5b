/- Walks of a law. -/
import Derived.Test.YtgcmogldiahdpaaGreatDoorGTxt2
namespace Go.Proofs.YtgcmogldiahdpaaGreatDoor
open Go.RowKit Fm

/-- The value of decimal digits, behind a value so far. -/
def val10 (a : Nat) : List UInt8 → Nat
  | [] => a
  | b :: bs => val10 (10 * a + (b.toNat - 48)) bs
def isDig (b : UInt8) : Bool := decide (48 ≤ b.toNat ∧ b.toNat ≤ 57)
theorem val10_append (a : Nat) (xs ys : List UInt8) : val10 a (xs ++ ys) = val10 (val10 a xs) ys := by
  induction xs generalizing a with
  | nil => rfl
  | cons b bs ih => exact ih (10 * a + (b.toNat - 48))
theorem val10_shift (a : Nat) (xs : List UInt8) : val10 a xs = a * 10 ^ xs.length + val10 0 xs := by
  induction xs generalizing a with
  | nil => show a = a * 10 ^ 0 + 0; rw [Nat.pow_zero, Nat.mul_one, Nat.add_zero]
  | cons b bs ih =>
    show val10 (10 * a + (b.toNat - 48)) bs = a * 10 ^ (bs.length + 1) + val10 (10 * 0 + (b.toNat - 48)) bs
    rw [ih, ih (10 * 0 + (b.toNat - 48)), Nat.pow_succ, Nat.add_mul, Nat.mul_zero, Nat.zero_add, Nat.mul_comm 10 a, Nat.mul_assoc a 10, Nat.mul_comm (10 ^ bs.length) 10]
    omega
theorem val10_lt (xs : List UInt8) (h : xs.all isDig = true) : val10 0 xs < 10 ^ xs.length := by
  induction xs with
  | nil => exact Nat.one_pos
  | cons b bs ih =>
    simp only [List.all_cons, Bool.and_eq_true] at h
    have h1 : b.toNat ≤ 57 := by have := h.1; unfold isDig at this; simp only [decide_eq_true_eq] at this; exact this.2
    show val10 (10 * 0 + (b.toNat - 48)) bs < 10 ^ (bs.length + 1)
    rw [val10_shift, Nat.pow_succ]
    have := ih h.2
    have h2 : (10 * 0 + (b.toNat - 48)) * 10 ^ bs.length ≤ 9 * 10 ^ bs.length := Nat.mul_le_mul_right _ (by omega)
    omega
theorem bl_of_lt {z : Int} {k : Nat} (h : z.natAbs < 4294967296 ^ k) : bl z ≤ k := digs_length_le (by omega) h
theorem bl_val10 {n : Nat} {k : Nat} (h : n < 10 ^ k) : bl (n : Int) ≤ k := bl_of_lt (by
  rw [Int.natAbs_natCast]
  exact Nat.lt_of_lt_of_le h (Nat.pow_le_pow_left (by omega) k))
theorem rl_val10 {n : Nat} {k : Nat} (h : n < 10 ^ k) : rl (n : Int) ≤ k := rl_of_lt (by
  rw [Int.natAbs_natCast]
  exact Nat.lt_of_lt_of_le h (Nat.pow_le_pow_left (by omega) k))
theorem take_next10 (xs : List UInt8) (k : Nat) (hk : k < xs.length) : val10 0 (xs.take (k + 1)) = 10 * val10 0 (xs.take k) + (xs[k].toNat - 48) := by
  rw [List.take_succ_eq_append_getElem hk, val10_append]
  rfl
theorem dig_get {xs : List UInt8} (h : xs.all isDig = true) {k : Nat} (hk : k < xs.length) : 48 ≤ xs[k].toNat ∧ xs[k].toNat ≤ 57 := by
  rw [List.all_eq_true] at h
  have := h _ (List.getElem_mem hk)
  unfold isDig at this
  simpa using this
theorem all_take {xs : List UInt8} (k : Nat) (h : xs.all isDig = true) : (xs.take k).all isDig = true := by
  rw [List.all_eq_true] at *
  exact fun p hp => h p (List.mem_of_mem_take hp)
theorem all_drop {xs : List UInt8} (k : Nat) (h : xs.all isDig = true) : (xs.drop k).all isDig = true := by
  rw [List.all_eq_true] at *
  exact fun p hp => h p (List.mem_of_mem_drop hp)

theorem str_drop (l : List UInt8) (k : Nat) : (ByteArray.mk l.toArray).extract k l.length = ByteArray.mk (l.drop k).toArray := by
  apply ByteArray.ext
  simp
  exact List.take_of_length_le (by simp)
theorem Cell2.far {w : World} {g g' : Nat} {s : Int} {A : Option Addr} {n c : Nat} (h : Cell2 w g s A n c) (hne : g ≠ g') (u v : Value) : Cell2 ((w.setCell ⟨g', 0, none⟩ u).setCell ⟨g', 1, none⟩ v) g s A n c := by
  unfold Cell2 at *
  rw [Below.heap_setCell _ ⟨g', 1, none⟩ v g hne, Below.heap_setCell _ ⟨g', 0, none⟩ u g hne]
  exact h

/-- The loop's state: the value so far lies in the second block. -/
def DecSt (w : World) (q : Nat) (wr : World) : Prop :=
  ∃ (s : Int) (A : Option Addr) (n c : Nat), Cell2 wr (w.heap.size + 1) s A n c ∧ IV wr (.agg #[.int .i64 s, .slice A n c]) q ∧ Cell2 wr w.heap.size 0 none 0 0 ∧ Up w wr

set_option maxHeartbeats 4000000 in
set_option maxRecDepth 10000 in
theorem decimal_any (ds : List UInt8) (w : World) (hd : ds.all isDig = true) (hl : ds.length ≤ 400) :
    Calls Tryz.prog 64 #[.string ⟨ds.toArray⟩] w fun e w' => ∃ v, e = .returned v ∧ IV w' v (val10 0 ds) ∧ Up w w' := by
  have HD := Lib.hid hd
  clear hd
  go_enter Tryz.func64, Tryz.ntmps64
  go_wp2
  go_loopw [0] (fun s wr => ∃ pre rest : List UInt8, s = .string ⟨rest.toArray⟩ ∧ Hid (ds = pre ++ rest) ∧ Hid (DecSt w (val10 0 pre) wr)) (fun s _ => match s with | .string b => b.size | _ => 0)
  case atStart =>
    refine ⟨[], ds, rfl, Lib.hid rfl, Lib.hid ⟨0, none, 0, 0, ?_, ?_, (Cell2.new w 0 none 0 0).up (Up.alloc _ _), (Up.alloc _ _).trans (Up.alloc _ _)⟩⟩
    · have := Cell2.new (w.alloc (.cells #[.int .i64 0, .slice none 0 0] 95)) 0 none 0 0; simpa using this
    · exact ⟨0, .slice none 0 0, rfl, .inl ⟨(show (0 : Int).natAbs < 4611686018427387904 by decide), rfl, Sl.empty _ _⟩⟩
  case round =>
    obtain ⟨pre, rest, rfl, HPR, HS⟩ := hrel
    have hrl : pre.length + rest.length = ds.length := by rw [HPR.out, List.length_append]
    have HDR : Hid (rest.all isDig = true) := Lib.hid (by have := HD.out; rw [HPR.out, List.all_append, Bool.and_eq_true] at this; exact this.2)
    have HDP : Hid (pre.all isDig = true) := Lib.hid (by have := HD.out; rw [HPR.out, List.all_append, Bool.and_eq_true] at this; exact this.1)
    by_cases hr0 : 0 < rest.length
    · obtain ⟨sz, hsz⟩ : ∃ sz : Nat, sz = min rest.length 18 := ⟨_, rfl⟩
      have hsz1 : min (rest.length : Int) 18 = (sz : Int) := by omega
      have hsz2 : sz ≤ rest.length := by omega
      have hsz3 : sz ≤ 18 := by omega
      have hsz4 : 0 < sz := by omega
      go_wp2
      go_loopw [5, 6, 15] (fun p s i wx => ∃ k : Nat, k ≤ sz ∧ p = .int .i64 (val10 0 (rest.take k) : Nat) ∧ s = .int .i64 ((10 ^ k : Nat) : Int) ∧ i = .int .i64 k ∧ wx = wr) (fun _ _ i _ => sz - (intOf i).toNat)
      case atStart => exact ⟨0, by omega, rfl, rfl, rfl, rfl⟩
      case round =>
        obtain ⟨k, hk, rfl, rfl, rfl, rfl⟩ := hrel
        have hvk : val10 0 (rest.take k) < 10 ^ k := by
          have := val10_lt (rest.take k) (all_take k HDR.out)
          rwa [List.length_take, Nat.min_eq_left (by omega)] at this
        by_cases hks : k < sz
        · have hkr : k < rest.length := by omega
          have hdg := dig_get HDR.out hkr
          have hnx := take_next10 rest k hkr
          have h18 : 10 ^ (k + 1) ≤ 10 ^ 18 := Nat.pow_le_pow_right (by omega) (by omega)
          have hps : 10 ^ (k + 1) = 10 ^ k * 10 := Nat.pow_succ ..
          have h19 : 10 ^ k * 10 ≤ 1000000000000000000 := by rw [← hps]; exact h18
          have HNX := Lib.hid hnx
          have HPS := Lib.hid hps
          clear hnx hps h18
          obtain ⟨x, hx⟩ : ∃ x : UInt8, x = rest[k] := ⟨_, rfl⟩
          obtain ⟨P, hP⟩ : ∃ P : Nat, P = 10 ^ k := ⟨_, rfl⟩
          obtain ⟨V, hV⟩ : ∃ V : Nat, V = val10 0 (rest.take k) := ⟨_, rfl⟩
          rw [← hx] at hdg HNX
          rw [← hP] at hvk h19 HPS ⊢
          rw [← hV] at hvk HNX ⊢
          have hgx : rest[k]? = some x := by rw [hx]; exact List.getElem?_eq_getElem hkr
          clear hx hP hV
          have hbx : (ByteArray.mk rest.toArray)[k]'(by show k < rest.toArray.size; simpa using hkr) = x := by
            have : (ByteArray.mk rest.toArray)[k]'(by show k < rest.toArray.size; simpa using hkr) = rest[k] := rfl
            rw [this]
            exact (List.getElem?_eq_some_iff.1 hgx).2
          have HBX := Lib.hid hbx
          clear hbx
          go_wp2
          have e1 : ((x.toNat : Int) - 48) % 256 = ((x.toNat - 48 : Nat) : Int) := by omega
          refine ⟨⟨k + 1, hks, ?_, ?_, by simp, trivial⟩, by simp [intOf]; omega⟩
          · rw [HBX.out, e1, HNX.out]; simp
          · rw [HPS.out]; simp
        · have hke : k = sz := by omega
          subst hke
          obtain ⟨s0, A0, n0, c0', hcn, hiv, hres, hup⟩ := HS.out
          have HCN := Lib.hid hcn
          have HIV := Lib.hid hiv
          have HRES := Lib.hid hres
          have HUP := Lib.hid hup
          clear hcn hiv hres hup
          have hpl : pre.length ≤ 400 := by omega
          have h18 : 10 ^ k ≤ 10 ^ 18 := Nat.pow_le_pow_right (by omega) hsz3
          have hb0 := Nat.le_trans (bl_val10 (val10_lt pre HDP.out)) hpl
          have hb1 : bl ((10 ^ k : Nat) : Int) ≤ 100 := Nat.le_trans (bl_val10 (k := k + 1) (Nat.pow_lt_pow_right (by omega) (by omega))) (by omega)
          have hb2 := Nat.le_trans (bl_val10 hvk) (show k ≤ 100 by omega)
          have hb3 : bl ((val10 0 pre : Nat) * ((10 ^ k : Nat) : Int)) ≤ 500 := bl_mul hb0 hb1 (by omega)
          have hnew : ((val10 0 pre : Nat) : Int) * ((10 ^ k : Nat) : Int) + ((val10 0 (rest.take k) : Nat) : Int) = ((val10 0 (pre ++ rest.take k) : Nat) : Int) := by
            rw [val10_append, val10_shift (val10 0 pre), List.length_take, Nat.min_eq_left (by omega)]
            push_cast
            rfl
          have HO1 := Lib.hid (fun W => of_any ((10 ^ k : Nat) : Int) W (by omega) (by omega))
          have HO2 := Lib.hid (fun W => of_any ((val10 0 (rest.take k) : Nat) : Int) W (by omega) (by omega))
          have HT := Lib.hid (fun W u1 u2 (k1 : IV W u1 (val10 0 pre : Nat)) (k2 : IV W u2 ((10 ^ k : Nat) : Int)) => intTimes_any u1 u2 _ _ W k1 k2 (Nat.le_trans hb0 (by omega)) (Nat.le_trans hb1 (by omega)))
          have HPL := Lib.hid (fun W u1 u2 (k1 : IV W u1 ((val10 0 pre : Nat) * ((10 ^ k : Nat) : Int))) (k2 : IV W u2 ((val10 0 (rest.take k) : Nat) : Int)) => intPlus_any u1 u2 _ _ W k1 k2 (Nat.le_trans hb3 (by omega)) (Nat.le_trans hb2 (by omega)))
          rw [hnew] at HPL
          clear hvk hb0 hb1 hb2 hb3 hnew h18 hpl
          generalize ((10 ^ k : Nat) : Int) = P at *
          generalize ((val10 0 (rest.take k) : Nat) : Int) = V at *
          generalize ((val10 0 pre : Nat) : Int) * P = Q at *
          obtain ⟨c0, c1, -, -, lc⟩ := (HCN.out.up (w' := wr) (by (repeat (first | exact Below.refl _ _ | exact Go.RowKit.Hid.out (by assumption) | refine Up.trans ?_ (Up.drew _) | refine Up.trans ?_ (Up.drewN _ _) | refine Up.trans ?_ (Up.alloc _ _) | refine Up.trans ?_ (Go.RowKit.Hid.out (by assumption)))))).facts
          go_upto_region 11 with fail
          go_region_with
            ((first
              | (go_at_call 134
                 refine Calls.mono (HPL.out _ _ _ (HVw6.out.up (by (repeat (first | exact Below.refl _ _ | exact Go.RowKit.Hid.out (by assumption) | refine Up.trans ?_ (Up.drew _) | refine Up.trans ?_ (Up.drewN _ _) | refine Up.trans ?_ (Up.alloc _ _) | refine Up.trans ?_ (Go.RowKit.Hid.out (by assumption)))))) (HVw7.out.up (by (repeat (first | exact Below.refl _ _ | exact Go.RowKit.Hid.out (by assumption) | refine Up.trans ?_ (Up.drew _) | refine Up.trans ?_ (Up.drewN _ _) | refine Up.trans ?_ (Up.alloc _ _) | refine Up.trans ?_ (Go.RowKit.Hid.out (by assumption))))))) ?_
                 rintro e w8 ⟨v, rfl, hv, hu⟩
                 have HUw8 := Lib.hid hu
                 have HVw8 := Lib.hid hv
                 obtain ⟨s5, A5, n5, c5, rfl, -, -, -, -, -⟩ := hv.open_
                 clear hu hv
                 have HZ := Lib.hid (HCN.out.up (w' := w8) (by (repeat (first | exact Below.refl _ _ | exact Go.RowKit.Hid.out (by assumption) | refine Up.trans ?_ (Up.drew _) | refine Up.trans ?_ (Up.drewN _ _) | refine Up.trans ?_ (Up.alloc _ _) | refine Up.trans ?_ (Go.RowKit.Hid.out (by assumption))))))
                 obtain ⟨c0, c1, f0, f1, lc⟩ := HZ.out.facts)
              | (have HGUARD := HVw6; go_at_call 117
                 refine Calls.mono (HO2.out _) ?_
                 rintro e w7 ⟨v, rfl, hv, hu⟩
                 have HUw7 := Lib.hid hu
                 have HVw7 := Lib.hid hv
                 clear hu hv
                 obtain ⟨c0, c1, -, -, lc⟩ := (HCN.out.up (w' := w7) (by (repeat (first | exact Below.refl _ _ | exact Go.RowKit.Hid.out (by assumption) | refine Up.trans ?_ (Up.drew _) | refine Up.trans ?_ (Up.drewN _ _) | refine Up.trans ?_ (Up.alloc _ _) | refine Up.trans ?_ (Go.RowKit.Hid.out (by assumption)))))).facts)
              | (go_at_call 133
                 refine Calls.mono (HT.out _ _ _ (HIV.out.up (by (repeat (first | exact Below.refl _ _ | exact Go.RowKit.Hid.out (by assumption) | refine Up.trans ?_ (Up.drew _) | refine Up.trans ?_ (Up.drewN _ _) | refine Up.trans ?_ (Up.alloc _ _) | refine Up.trans ?_ (Go.RowKit.Hid.out (by assumption)))))) (HVw5.out.up (by (repeat (first | exact Below.refl _ _ | exact Go.RowKit.Hid.out (by assumption) | refine Up.trans ?_ (Up.drew _) | refine Up.trans ?_ (Up.drewN _ _) | refine Up.trans ?_ (Up.alloc _ _) | refine Up.trans ?_ (Go.RowKit.Hid.out (by assumption))))))) ?_
                 rintro e w6 ⟨v, rfl, hv, hu⟩
                 have HUw6 := Lib.hid hu
                 have HVw6 := Lib.hid hv
                 clear hu hv
                 obtain ⟨c0, c1, -, -, lc⟩ := (HCN.out.up (w' := w6) (by (repeat (first | exact Below.refl _ _ | exact Go.RowKit.Hid.out (by assumption) | refine Up.trans ?_ (Up.drew _) | refine Up.trans ?_ (Up.drewN _ _) | refine Up.trans ?_ (Up.alloc _ _) | refine Up.trans ?_ (Go.RowKit.Hid.out (by assumption)))))).facts)
              | (go_at_call 117
                 refine Calls.mono (HO1.out _) ?_
                 rintro e w5 ⟨v, rfl, hv, hu⟩
                 have HUw5 := Lib.hid hu
                 have HVw5 := Lib.hid hv
                 clear hu hv
                 obtain ⟨c0, c1, -, -, lc⟩ := (HCN.out.up (w' := w5) (by (repeat (first | exact Below.refl _ _ | exact Go.RowKit.Hid.out (by assumption) | refine Up.trans ?_ (Up.drew _) | refine Up.trans ?_ (Up.drewN _ _) | refine Up.trans ?_ (Up.alloc _ _) | refine Up.trans ?_ (Go.RowKit.Hid.out (by assumption)))))).facts)))
          all_goals go_wp2
          all_goals
            rw [← hsz, str_drop]
            refine ⟨⟨pre ++ rest.take k, rest.drop k, rfl, Lib.hid (by rw [List.append_assoc, List.take_append_drop]; exact HPR.out), Lib.hid ⟨s5, A5, n5, c5, HZ.out.set _ _ _ _, HVw8.out.set2 HZ.out.not_digit _ _, (HRES.out.up (w' := w8) (by (repeat (first | exact Below.refl _ _ | exact Go.RowKit.Hid.out (by assumption) | refine Up.trans ?_ (Up.drew _) | refine Up.trans ?_ (Up.drewN _ _) | refine Up.trans ?_ (Up.alloc _ _) | refine Up.trans ?_ (Go.RowKit.Hid.out (by assumption)))))).far (by omega) _ _, Up.stored (show Up w w8 by (repeat (first | exact Below.refl _ _ | exact Go.RowKit.Hid.out (by assumption) | refine Up.trans ?_ (Up.drew _) | refine Up.trans ?_ (Up.drewN _ _) | refine Up.trans ?_ (Up.alloc _ _) | refine Up.trans ?_ (Go.RowKit.Hid.out (by assumption))))) (by omega) _ _⟩⟩, ?_⟩
            show (rest.drop k).toArray.size < rest.toArray.size
            simp only [List.size_toArray, List.length_drop]
            omega
    · have hre : rest = [] := List.eq_nil_of_length_eq_zero (by omega)
      subst hre
      rw [List.append_nil] at HPR
      obtain ⟨s0, A0, n0, c0', hcn, hiv, hres, hup⟩ := HS.out
      rw [← HPR.out] at hiv
      have HF := Lib.hid ((hres.set s0 A0 n0 c0').facts)
      have HIV := Lib.hid (hiv.set2 hres.not_digit (.int .i64 s0) (.slice A0 n0 c0'))
      have HUF := Lib.hid (hup.stored (show w.heap.size ≤ w.heap.size by omega) (.int .i64 s0) (.slice A0 n0 c0'))
      obtain ⟨c0, c1, -, -, lc⟩ := hcn.facts
      obtain ⟨r0, r1, f0, f1, lr⟩ := hres.facts
      clear hcn hiv hres hup HS
      go_wp2
      obtain ⟨z0, z1, -, -, -⟩ := HF.out
      refine bodyPost_ret (by simp [results, Tryz.results64, go_sem, z0, z1]; try rfl) rfl ?_
      exact ⟨_, rfl, HIV.out, HUF.out⟩
end Go.Proofs.YtgcmogldiahdpaaGreatDoor
