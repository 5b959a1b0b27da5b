/- Contracts of the functions on digits. -/
import Derived.Test.YtacbjbnocepnaaaGreatDoorQGB
namespace Go.Proofs.YtacbjbnocepnaaaGreatDoor
open Go.RowKit Fm
set_option maxRecDepth 100000 in
theorem plus_sw (A A2 : Option Addr) (c c2 : Nat) (ds es : List Nat) (w : World) (hr : Rd .u32 w A ds) (hr2 : Rd .u32 w A2 es) (hok : Ok 4294967296 ds) (hok2 : Ok 4294967296 es)
    (hle : es.length ≤ ds.length) (hsz : ds.length ≤ 2147483648) (hc2 : es.length ≤ c2) (sw : Bool) (hsw : sw = true → es.length < ds.length) :
    Calls Tryz.prog 156 (if sw then #[.slice A2 es.length c2, .slice A ds.length c] else #[.slice A ds.length c, .slice A2 es.length c2]) w fun e w' => ∃ v, e = .returned v ∧ Dv w' v (val 4294967296 ds + val 4294967296 es) ∧ Up w w' := by
  have hmk : ∀ W, (Instr.makeSlice 106 (.int .i64 ((ds.length : Int) + 1)) (.int .i64 ((ds.length : Int) + 1))).run Tryz.prog W = .ok (.slice (some ⟨W.heap.size, 0, none⟩) (ds.length + 1) (ds.length + 1)) (W.alloc (.cells (rowOf .u32 (zeroL (ds.length + 1))) 191)) :=
    fun W => by have := mk32 (ds.length + 1) (by omega) W; simpa using this
  have hrow0 := Row.new (k := .u32) (t := 191) w (zeroL (ds.length + 1))
  have hrA := hr.up (Up.alloc w (.cells (rowOf .u32 (zeroL (ds.length + 1))) 191))
  have haw : es ≠ [] → Away A2 w.heap.size := fun h => Away.of_lt hr2 h (Nat.le_refl _)
  have HN : Hid (zeroL (ds.length + 1) = zeroL ds.length ++ [0]) := by unfold Hid zeroL; rw [List.replicate_succ']
  have hr2A := hr2.up (Up.alloc w (.cells (rowOf .u32 (zeroL (ds.length + 1))) 191))
  cases sw
  case' true => have hlt := hsw rfl; simp only [if_true]
  case' false => simp only [Bool.false_eq_true, if_false]
  all_goals
    go_enter Tryz.func156, Tryz.ntmps156
    go_wp2_with (first
      | (refine wpList_copy_row rfl (.tmp 17) (.tmp 18) _ _ rfl 191 Tryz.underlying106 size_u32 .u32 191 w.heap.size 0 (ds.length + 1) _ _ _ _ _ ds rfl (fun _ => rfl) rfl hrow0 hrA (by omega) (by rw [zeroL_length]; omega) ?_; intro w1 hrow1 hg1
         have hrow1' : Row .u32 191 w1 w.heap.size (ds ++ [0]) := by
           have e : List.take 0 (zeroL (ds.length + 1)) ++ (ds ++ List.drop (0 + ds.length) (zeroL (ds.length + 1))) = ds ++ [0] := by simp [zeroL]
           rw [e] at hrow1; exact hrow1
         have hes1 : es ≠ [] → Rd .u32 w1 A2 es := fun h => hr2A.grown hg1 (haw h)
         have hes1 : Rd .u32 w1 A2 es := fun h => hes1 h h
         have hup1 : Up w w1 := (Up.alloc w _).grown hg1 (Nat.le_refl _)
         clear hrow1)
      | (go_at_call 166
         refine (increase_any w.heap.size 0 ds.length (ds.length + 1) (ds ++ [0]) A2 c2 es w1 hrow1' (by simp) (by omega) (by unfold maxLen; omega) (hok.append (Ok.cons (by omega) Ok.nil)) hle hes1 haw hok2 hc2).mono ?_
         rintro e w2 ⟨carry, rfl, zs, hcar, hrow2, hzl, hzok, hzo, hzv, hg2, -⟩
         have hzl' : zs.length = ds.length + 1 := by rw [hzl]; simp
         have hlt : ds.length < zs.length := by omega
         have hcell2 := hrow2.cell hlt
         have hfr2 := hrow2.frozen ds.length
         have hup2 : Up w w2 := hup1.grown hg2 (Nat.le_refl _)
         have HZ := Lib.hid hzl'
         have HV := Lib.hid hzv
         have HR := Lib.hid hrow2
         have hrow3 := hrow2.set ds.length carry
         have hok3 := hzok.set ds.length (x := carry) (by omega)
         have hl3 : (zs.set ds.length carry).length = ds.length + 1 := by rw [List.length_set, hzl']
         have HL3 := Lib.hid hl3
         have HR3 := Lib.hid hrow3
         have hv3 : val 4294967296 (zs.set ds.length carry) = val 4294967296 ds + val 4294967296 es := by
           rw [last_set hzl', val_snoc, seg_length (by omega), hzv, seg_append_left, List.take_of_length_le hle]
         have HV3 := Lib.hid hv3
         have hup3 : Up w (w2.setCell ⟨w.heap.size, ds.length, none⟩ (.int .u32 (carry : Int))) := hup1.grown (grown_set hg2 _ _) (Nat.le_refl _)
         clear hzl hzl' hzv hrow2 hrow3 hl3 hv3)
      | (go_at_call 153
         refine (trim_row w.heap.size (ds.length + 1) (ds.length + 1) _ _ HR3.out hok3 HL3.out (Nat.le_refl _) (by unfold maxLen; omega)).mono ?_
         rintro e w4 ⟨⟨rfl, hdv⟩, rfl⟩
         rw [HV3.out] at hdv ⊢))
    go_ret
    exact ⟨_, rfl, hdv, hup3⟩
theorem plus_dv (v1 v2 : Value) (m n : Nat) (w : World) (h1 : Dv w v1 m) (h2 : Dv w v2 n) (hm : (digs 4294967296 m).length ≤ 2147483648) (hn : (digs 4294967296 n).length ≤ 2147483648) :
    Calls Tryz.prog 156 #[v1, v2] w fun e w' => ∃ v, e = .returned v ∧ Dv w' v (m + n) ∧ Up w w' := by
  obtain ⟨A, c, rfl, hc, hcm, hr⟩ := h1
  obtain ⟨A2, c2, rfl, hc2, hcm2, hr2⟩ := h2
  rcases Nat.lt_or_ge (digs 4294967296 m).length (digs 4294967296 n).length with h | h
  · have := plus_sw A2 A c2 c _ _ w hr2 hr (digs_ok (by omega) n) (digs_ok (by omega) m) (Nat.le_of_lt h) hn hc true (fun _ => h)
    simpa only [if_true, val_digs (show 2 ≤ 4294967296 by omega), Nat.add_comm n m] using this
  · have := plus_sw A A2 c c2 _ _ w hr hr2 (digs_ok (by omega) m) (digs_ok (by omega) n) h hm hc2 false (fun e => by cases e)
    simpa only [Bool.false_eq_true, if_false, val_digs (show 2 ≤ 4294967296 by omega)] using this
end Go.Proofs.YtacbjbnocepnaaaGreatDoor
namespace Go.Proofs.YtacbjbnocepnaaaGreatDoor
open Go.RowKit Fm
theorem trim_own (g c n : Nat) (xs : List Nat) (w : World) (hrow : Row .u32 191 w g xs) (hok : Ok 4294967296 xs) (hn : n ≤ xs.length) (hc : n ≤ c) (hcm : c ≤ maxLen) :
    Calls Tryz.prog 153 #[.slice (some ⟨g, 0, none⟩) n c] w fun e w' => (e = .returned (.slice (some ⟨g, 0, none⟩) (digs 4294967296 (val 4294967296 (xs.take n))).length c) ∧ Own w g c (val 4294967296 (xs.take n))) ∧ w = w' := by
  have hl : (xs.take n).length = n := by rw [List.length_take]; omega
  have hr := (Rd.of_row0 hrow).take n
  have hd := digs_take (B := 4294967296) (by omega) (hok.take n)
  have h := trim_any (some ⟨g, 0, none⟩) c (xs.take n) w (by omega) hcm hr (hok.take n)
  rw [hl] at h
  refine h.mono ?_
  rintro e w' ⟨rfl, rfl⟩
  refine ⟨⟨rfl, xs, hrow, hok, by omega, ?_, by omega, hcm⟩, rfl⟩
  have := hd.2
  rw [List.take_take, Nat.min_eq_left (by omega)] at this
  exact this
set_option maxRecDepth 100000 in
theorem shrink_any (g c n s : Nat) (xs : List Nat) (w : World) (hrow : Row .u32 191 w g xs) (hok : Ok 4294967296 xs) (hn : n ≤ xs.length) (hc : n ≤ c) (hcm : c ≤ maxLen) (hs : s ≤ 4294967296) :
    Calls Tryz.prog 163 #[.slice (some ⟨g, 0, none⟩) n c, .int .i64 s] w fun e w' =>
      (e = .returned (.slice (some ⟨g, 0, none⟩) (digs 4294967296 (val 4294967296 (xs.take n) / 2 ^ s)).length c) ∧ Own w' g c (val 4294967296 (xs.take n) / 2 ^ s)) ∧ w.grownBy w' (some g) := by
  have hcm' := hcm
  unfold maxLen at hcm'
  obtain ⟨sk, p, hp, rfl⟩ : ∃ sk p, p < 32 ∧ s = 32 * sk + p := ⟨s / 32, s % 32, Nat.mod_lt _ (by omega), by omega⟩
  have hq : (((32 * sk + p : Nat) : Int)) / 32 = (sk : Int) := by omega
  have hm : (((32 * sk + p : Nat) : Int)) % 32 = (p : Int) := by omega
  rw [← val_shr_drop (by omega) hok]
  generalize hS : ((32 * sk + p : Nat) : Int) = S at *
  have hS0 : 0 ≤ S := by omega
  have hS1 : S ≤ 4294967296 := by omega
  clear hS
  have H0 : Row .u32 191 w g (shrAt p sk n xs 0) := by rw [shrAt_zero]; exact hrow
  clear hrow
  go_enter Tryz.func163, Tryz.ntmps163
  go_wp2
  rw [hq, hm]
  have HQ := Lib.hid hq
  have HM := Lib.hid hm
  clear hq hm
  go_loopw [7] (fun i wr => ∃ k : Nat, i = .int .i64 ((sk : Int) + k) ∧ (k = 0 ∨ sk + k ≤ n) ∧ Row .u32 191 wr g (shrAt p sk n xs k) ∧ w.grownBy wr (some g)) (fun i _ => n - (intOf i).toNat)
  case atStart => exact ⟨0, by simp, .inl rfl, H0, World.grownBy.refl w _⟩
  case round =>
    obtain ⟨k, rfl, hk, hrow, hg⟩ := hrel
    by_cases hlt : sk + k < n
    · have hlen := shrAt_length (p := p) hn (Nat.le_of_lt hlt)
      have hx1 := getElem_of_get? (shrAt_ge (p := p) hn (Nat.le_of_lt hlt) (show k ≤ sk + k by omega)) (by omega) (by omega)
      have hcell := hrow.cell (i := sk + k) (by omega)
      rw [hx1] at hcell
      have hfr := hrow.frozen k
      obtain ⟨vk, hcellk⟩ : ∃ vk, wr.cell? ⟨g, k, none⟩ = some vk := ⟨_, hrow.cell (i := k) (by omega)⟩
      have hset := shrAt_set (p := p) hn hlt
      obtain ⟨x0, hx0⟩ : ∃ x0, x0 = xs[sk + k] := ⟨_, rfl⟩
      have hxb := hok.get (k := sk + k) (by omega)
      have HC : ∀ y : Nat, Hid ((((x0 + 4294967296 * y) / 2 ^ p % 4294967296 : Nat) : Int) = ((x0 : Int) + y * 4294967296) / 2 ^ p % 4294967296) := fun y => by
        unfold Hid
        rw [Int.natCast_emod, Int.natCast_ediv, Int.natCast_add, Int.natCast_mul, Int.natCast_pow, Int.mul_comm (4294967296 : Nat)]; rfl
      have HS : Hid (∀ (y : Nat), (y = if sk + k + 1 < n then xs.getD (sk + k + 1) 0 else 0) → (shrAt p sk n xs k).set k ((x0 + 4294967296 * y) / 2 ^ p % 4294967296) = shrAt p sk n xs (k + 1)) := by rw [hx0]; exact hset
      rw [← hx0] at hcell hxb
      clear hset hx1 hx0
      have HL := Lib.hid hlen
      clear hlen
      by_cases h2 : sk + k + 1 < n
      · have hx2 := getElem_of_get? (shrAt_ge (p := p) hn (Nat.le_of_lt hlt) (show k ≤ sk + k + 1 by omega)) (by have := HL.out; omega) (by omega)
        have hcell2 := hrow.cell (i := sk + k + 1) (by have := HL.out; omega)
        rw [hx2] at hcell2
        clear hx2
        have hyb := hok.get (k := sk + k + 1) (by omega)
        have hset2 := HS.out (xs[sk + k + 1]'(by omega)) (by rw [if_pos h2, List.getD_eq_getElem?_getD, List.getElem?_eq_getElem (by omega)]; rfl)
        generalize xs[sk + k + 1] = y at *
        have HS2 := Lib.hid hset2
        clear hset2
        have hor : bits .or .u64 (x0 : Int) ((y : Int) * 4294967296) = ((x0 + y * 4294967296 : Nat) : Int) := or_u64 x0 y 32 (by omega) (by omega)
        go_wp2
        refine ⟨⟨k + 1, by go_num, .inr (by omega), ?_, grown_set hg _ _⟩, by simp [intOf]; omega⟩
        rw [← HS2.out, ← (HC y).out]
        exact hrow.set _ _
      · have hset2 := HS.out 0 (by rw [if_neg h2])
        have HS2 := Lib.hid hset2
        have hc0 := HC 0
        clear hset2
        go_wp2
        refine ⟨⟨k + 1, by go_num, .inr (by omega), ?_, grown_set hg _ _⟩, by simp [intOf]; omega⟩
        have e := hc0.out
        simp only [Nat.mul_zero, Nat.add_zero, Int.natCast_zero, Int.zero_mul, Int.add_zero] at e
        have e2 := HS2.out
        simp only [Nat.mul_zero, Nat.add_zero] at e2
        rw [← e2, ← e]
        exact hrow.set _ _
    · have hfin : ∃ j : Nat, j = n - sk ∧ Row .u32 191 wr g (shrAt p sk n xs (n - sk)) ∧ (shrAt p sk n xs (n - sk)).length = xs.length ∧ Ok 4294967296 (shrAt p sk n xs (n - sk)) ∧ (shrAt p sk n xs (n - sk)).take (n - sk) = shr p ((xs.take n).drop sk) := by
        have hkn : k = n - sk := by omega
        refine ⟨_, rfl, hkn ▸ hrow, ?_, shrAt_ok rfl hok, shrAt_take hn⟩
        rcases Nat.lt_or_ge n sk with h | h
        · have : n - sk = 0 := by omega
          rw [this, shrAt_zero]
        · exact shrAt_length hn (by omega)
      clear hrow
      obtain ⟨j, hj, hrow, hlen, hokz, htake⟩ := hfin
      rw [← hj] at hrow hlen hokz htake
      have HL := Lib.hid hlen
      have hjn : j ≤ n := by omega
      have HT := Lib.hid htake
      clear hlen htake
      generalize shrAt p sk n xs j = zs at *
      have hnlt : ¬ ((sk : Int) + k < n) := by omega
      clear H0
      have HK : ∀ q, q = j → Calls Tryz.prog 153 #[.slice (some ⟨g, 0, none⟩) q c] wr fun e w' => (e = .returned (.slice (some ⟨g, 0, none⟩) (digs 4294967296 (val 4294967296 (shr p ((xs.take n).drop sk)))).length c) ∧ Own wr g c (val 4294967296 (shr p ((xs.take n).drop sk)))) ∧ wr = w' := by
        rintro q rfl
        rw [← HT.out]
        exact trim_own g c q zs wr hrow hokz (by have := HL.out; omega) (by omega) hcm
      have HK := Lib.hid HK
      go_wp2_with fail
      all_goals
        first
          | (with_reducible refine (HK.out (n - sk) (by omega)).mono ?_)
          | (with_reducible refine (HK.out 0 (by omega)).mono ?_)
        rintro e w1 ⟨⟨rfl, ho⟩, rfl⟩
        go_wp2
        go_ret
        exact ⟨⟨rfl, ho⟩, hg⟩
end Go.Proofs.YtacbjbnocepnaaaGreatDoor
namespace Go.Proofs.YtacbjbnocepnaaaGreatDoor
open Go.RowKit Fm
theorem shrink_own (g c m s : Nat) (w : World) (h : Own w g c m) (hs : s ≤ 4294967296) :
    Calls Tryz.prog 163 #[.slice (some ⟨g, 0, none⟩) (digs 4294967296 m).length c, .int .i64 s] w fun e w' =>
      (e = .returned (.slice (some ⟨g, 0, none⟩) (digs 4294967296 (m / 2 ^ s)).length c) ∧ Own w' g c (m / 2 ^ s)) ∧ w.grownBy w' (some g) := by
  obtain ⟨xs, h1, h2, h3, h4, h5, h6⟩ := h
  have := shrink_any g c (digs 4294967296 m).length s xs w h1 h2 h3 h5 h6 hs
  rw [h4, val_digs (by omega)] at this
  exact this
theorem copied (ds : List Nat) : List.take 0 (zeroL ds.length) ++ (ds ++ List.drop (0 + ds.length) (zeroL ds.length)) = ds := by simp [zeroL]
set_option maxRecDepth 100000 in
theorem right_own (v : Value) (m s : Nat) (w : World) (h : Dv w v m) (hm : (digs 4294967296 m).length ≤ 2147483648) (hs : s ≤ 4294967296) :
    Calls Tryz.prog 151 #[v, .int .i64 s] w fun e w' =>
      ∃ g c, e = .returned (.slice (some ⟨g, 0, none⟩) (digs 4294967296 (m / 2 ^ s)).length c) ∧ Own w' g c (m / 2 ^ s) ∧ w.heap.size ≤ g ∧ Up w w' := by
  obtain ⟨A, c, rfl, hc, hcm, hr⟩ := h
  have hok := digs_ok (B := 4294967296) (by omega) m
  have hv := val_digs (B := 4294967296) (by omega) m
  generalize digs 4294967296 m = ds at *
  have HV := Lib.hid hv
  clear hv
  have hmk : ∀ W, (Instr.makeSlice 106 (.int .i64 (ds.length : Int)) (.int .i64 (ds.length : Int))).run Tryz.prog W = .ok (.slice (some ⟨W.heap.size, 0, none⟩) ds.length ds.length) (W.alloc (.cells (rowOf .u32 (zeroL ds.length)) 191)) :=
    fun W => mk32 ds.length (by omega) W
  have hrow0 := Row.new (k := .u32) (t := 191) w (zeroL ds.length)
  have hrA := hr.up (Up.alloc w (.cells (rowOf .u32 (zeroL ds.length)) 191))
  have HS0 : 0 ≤ (s : Int) := by omega
  have HS1 : (s : Int) ≤ 4294967296 := by omega
  go_enter Tryz.func151, Tryz.ntmps151
  go_wp2_with (first
    | (refine wpList_copy_row rfl (.tmp 9) (.tmp 10) _ _ rfl 191 Tryz.underlying106 size_u32 .u32 191 w.heap.size 0 ds.length _ _ _ _ _ ds rfl (fun _ => rfl) rfl hrow0 hrA (by omega) (by rw [zeroL_length]; omega) ?_; intro w1 hrow1 hg1
       rw [copied] at hrow1
       have hup1 : Up w w1 := (Up.alloc w _).grown hg1 (Nat.le_refl _))
    | (go_at_call 163
       refine (shrink_any w.heap.size ds.length ds.length s ds w1 hrow1 hok (Nat.le_refl _) (Nat.le_refl _) (by unfold maxLen; omega) hs).mono ?_
       rintro e w2 ⟨⟨rfl, ho⟩, hg2⟩
       rw [List.take_length, HV.out] at ho ⊢))
  go_ret
  exact ⟨_, _, rfl, ho, Nat.le_refl _, hup1.grown hg2 (Nat.le_refl _)⟩
set_option maxRecDepth 100000 in
theorem minus_dv (v1 v2 : Value) (m n : Nat) (w : World) (h1 : Dv w v1 m) (h2 : Dv w v2 n) (hm : (digs 4294967296 m).length ≤ 2147483648) (hnm : n ≤ m) :
    Calls Tryz.prog 157 #[v1, v2] w fun e w' => ∃ v, e = .returned v ∧ Dv w' v (m - n) ∧ Up w w' := by
  have hle : (digs 4294967296 n).length ≤ (digs 4294967296 m).length := by
    rcases Nat.lt_or_ge (digs 4294967296 m).length (digs 4294967296 n).length with h | h
    · have := lt_of_length_lt (B := 4294967296) (by omega) h; omega
    · exact h
  obtain ⟨A, c, rfl, hc, hcm, hr⟩ := h1
  obtain ⟨A2, c2, rfl, hc2, hcm2, hr2⟩ := h2
  have hok := digs_ok (B := 4294967296) (by omega) m
  have hok2 := digs_ok (B := 4294967296) (by omega) n
  have hv := val_digs (B := 4294967296) (by omega) m
  have hv2 := val_digs (B := 4294967296) (by omega) n
  generalize digs 4294967296 m = ds at *
  generalize digs 4294967296 n = es at *
  have HV := Lib.hid hv
  have HV2 := Lib.hid hv2
  clear hv hv2
  have hmk : ∀ W, (Instr.makeSlice 106 (.int .i64 (ds.length : Int)) (.int .i64 (ds.length : Int))).run Tryz.prog W = .ok (.slice (some ⟨W.heap.size, 0, none⟩) ds.length ds.length) (W.alloc (.cells (rowOf .u32 (zeroL ds.length)) 191)) :=
    fun W => mk32 ds.length (by omega) W
  have hrow0 := Row.new (k := .u32) (t := 191) w (zeroL ds.length)
  have hrA := hr.up (Up.alloc w (.cells (rowOf .u32 (zeroL ds.length)) 191))
  have haw : es ≠ [] → Away A2 w.heap.size := fun h => Away.of_lt hr2 h (Nat.le_refl _)
  have hr2A := hr2.up (Up.alloc w (.cells (rowOf .u32 (zeroL ds.length)) 191))
  go_enter Tryz.func157, Tryz.ntmps157
  go_wp2_with (first
    | (refine wpList_copy_row rfl (.tmp 9) (.tmp 10) _ _ rfl 191 Tryz.underlying106 size_u32 .u32 191 w.heap.size 0 ds.length _ _ _ _ _ ds rfl (fun _ => rfl) rfl hrow0 hrA (by omega) (by rw [zeroL_length]; omega) ?_; intro w1 hrow1 hg1
       rw [copied] at hrow1
       have hes1 : Rd .u32 w1 A2 es := fun h => (hr2A.grown hg1 (haw h)) h
       have hup1 : Up w w1 := (Up.alloc w _).grown hg1 (Nat.le_refl _))
    | (go_at_call 165
       refine (decrease_any w.heap.size 0 ds.length ds.length ds A2 c2 es w1 hrow1 (by simp) (by omega) (by unfold maxLen; omega) hok hle hes1 haw hok2 hc2).mono ?_
       rintro e w2 ⟨borrow, r, rfl, zs, hbor, hrow2, hzl, hzok, hzo, hzv, hg2, -⟩
       have hzv2 : val 4294967296 zs = m - n := by
         rw [← hzl, seg_all, hzl, seg_all, List.take_of_length_le hle, HV.out, HV2.out] at hzv
         have h1 := val_lt (B := 4294967296) (by omega) hzok
         rw [hzl] at h1
         rcases Nat.lt_or_ge 0 borrow with hb | hb
         · obtain rfl : borrow = 1 := by omega
           omega
         · obtain rfl : borrow = 0 := by omega
           omega
       have HZV := Lib.hid hzv2
       have HZL := Lib.hid hzl
       clear hzl hzv hzo hzv2)
    | (go_at_call 153
       refine (trim_row w.heap.size ds.length ds.length _ _ hrow2 hzok HZL.out (Nat.le_refl _) (by unfold maxLen; omega)).mono ?_
       rintro e w4 ⟨⟨rfl, hdv⟩, rfl⟩
       rw [HZV.out] at hdv ⊢))
  go_ret
  exact ⟨_, rfl, hdv, hup1.grown hg2 (Nat.le_refl _)⟩
end Go.Proofs.YtacbjbnocepnaaaGreatDoor
namespace Go.Proofs.YtacbjbnocepnaaaGreatDoor
open Go.RowKit Fm
def TimRel (g N : Nat) (w0 : World) (T top : Nat) (off carry : Nat) (w' : World) : Prop :=
  ∃ zs, Row .u32 191 w' g zs ∧ zs.length = N ∧ Ok 4294967296 zs ∧ carry < 4294967296 ∧ val 4294967296 zs + 4294967296 ^ off * carry = T ∧ (∀ q, top ≤ q → q < N → zs[q]? = some 0) ∧ w0.grownBy w' (some g)
theorem TimRel.step {g N T top off carry x y z : Nat} {w0 w' : World} {zs : List Nat} (hrow : Row .u32 191 w' g zs) (hl : zs.length = N) (hok : Ok 4294967296 zs) (hv : val 4294967296 zs + 4294967296 ^ off * carry = T) (hz : ∀ q, top ≤ q → q < N → zs[q]? = some 0) (hg : w0.grownBy w' (some g))
    (ho : off < zs.length) (hot : off < top) (hy : z = zs[off]) (hxb : x < 4294967296) (hyb : y < 4294967296) (hc : carry < 4294967296) :
    TimRel g N w0 (T + 4294967296 ^ off * (x * y)) top (off + 1) ((x * y + z + carry) / 4294967296) (w'.setCell ⟨g, off, none⟩ (.int .u32 (((x * y + z + carry) % 4294967296 : Nat) : Int))) := by
  have hzb : z < 4294967296 := by rw [hy]; exact hok.get _
  have hb := pow_bound hxb hyb hzb hc
  refine ⟨_, hrow.set _ _, by simp [hl], hok.set _ (Nat.mod_lt _ (by omega)), Nat.div_lt_of_lt_mul hb, ?_, fun q h1 h2 => ?_, grown_set hg _ _⟩
  · have h1 := val_set 4294967296 zs off ((x * y + z + carry) % 4294967296) ho
    rw [← hy] at h1
    have := mul_step (B := 4294967296) (P := T) (X := 0) (S := 0) (by simpa using hv) _ rfl _ h1
    simpa using this
  · rw [List.getElem?_set_ne (by omega)]; exact hz q h1 h2
set_option maxHeartbeats 1000000 in
set_option maxRecDepth 100000 in
theorem times_dv (v1 v2 : Value) (m n : Nat) (w : World) (h1 : Dv w v1 m) (h2 : Dv w v2 n) (hm : (digs 4294967296 m).length + (digs 4294967296 n).length ≤ 2147483648) :
    Calls Tryz.prog 155 #[v1, v2] w fun e w' => ∃ v, e = .returned v ∧ Dv w' v (m * n) ∧ Up w w' := by
  obtain ⟨A, c, rfl, hc, hcm, hr⟩ := h1
  obtain ⟨A2, c2, rfl, hc2, hcm2, hr2⟩ := h2
  have hok := digs_ok (B := 4294967296) (by omega) m
  have hok2 := digs_ok (B := 4294967296) (by omega) n
  have hv := val_digs (B := 4294967296) (by omega) m
  have hv2 := val_digs (B := 4294967296) (by omega) n
  generalize digs 4294967296 m = ds at *
  generalize digs 4294967296 n = es at *
  have HV := Lib.hid hv
  have HV2 := Lib.hid hv2
  clear hv hv2
  have hmk : ∀ W, (Instr.makeSlice 106 (.int .i64 ((ds.length : Int) + es.length)) (.int .i64 ((ds.length : Int) + es.length))).run Tryz.prog W = .ok (.slice (some ⟨W.heap.size, 0, none⟩) (ds.length + es.length) (ds.length + es.length)) (W.alloc (.cells (rowOf .u32 (zeroL (ds.length + es.length))) 191)) :=
    fun W => by have := mk32 (ds.length + es.length) (by omega) W; simpa using this
  have hrow0 := Row.new (k := .u32) (t := 191) w (zeroL (ds.length + es.length))
  have hrA := hr.up (Up.alloc w (.cells (rowOf .u32 (zeroL (ds.length + es.length))) 191))
  have hrA2 := hr2.up (Up.alloc w (.cells (rowOf .u32 (zeroL (ds.length + es.length))) 191))
  have haw : ds ≠ [] → Away A w.heap.size := fun h => Away.of_lt hr h (Nat.le_refl _)
  have haw2 : es ≠ [] → Away A2 w.heap.size := fun h => Away.of_lt hr2 h (Nat.le_refl _)
  have hup0 := Up.alloc w (.cells (rowOf .u32 (zeroL (ds.length + es.length))) 191)
  have H0 : TimRel w.heap.size (ds.length + es.length) (w.alloc (.cells (rowOf .u32 (zeroL (ds.length + es.length))) 191)) 0 es.length 0 0 (w.alloc (.cells (rowOf .u32 (zeroL (ds.length + es.length))) 191)) :=
    ⟨_, hrow0, zeroL_length _, zeroL_ok (by omega) _, by omega, by simp [zeroL_val], fun q _ hq => by rw [List.getElem?_eq_getElem (by rw [zeroL_length]; exact hq), zeroL_get], World.grownBy.refl _ _⟩
  clear hrow0
  go_enter Tryz.func155, Tryz.ntmps155
  go_wp2
  generalize hWA : w.alloc (.cells (rowOf .u32 (zeroL (ds.length + es.length))) 191) = wA at *
  clear hWA
  go_loopw [20] (fun iv wr => ∃ i : Nat, iv = .int .i64 i ∧ i ≤ ds.length ∧ TimRel w.heap.size (ds.length + es.length) wA (val 4294967296 (ds.take i) * val 4294967296 es) (i + es.length) 0 0 wr) (fun iv _ => ds.length - (intOf iv).toNat)
  case atStart => exact ⟨0, rfl, by omega, by simpa [val] using H0⟩
  case round =>
    obtain ⟨i, rfl, hi, hR⟩ := hrel
    rcases Nat.lt_or_ge i ds.length with hlt | hge
    · have hgw : wA.grownBy wr (some w.heap.size) := by obtain ⟨_, _, _, _, _, _, _, h⟩ := hR; exact h
      obtain ⟨b, off, rfl, hb, hcell⟩ := (hrA.grown hgw (haw (by intro e; subst e; simp at hlt))).at_ hlt
      have hxb := hok.get hlt
      have htk := val_take_succ 4294967296 hlt
      generalize ds[i] = x at *
      have HTK := Lib.hid htk
      clear htk
      have HA := Lib.hid hcell
      go_wp2
      obtain ⟨wo, hwo⟩ : ∃ wo : World, wo = wr := ⟨_, rfl⟩
      rw [← hwo] at hR hcell
      clear HA
      go_loopw [8, 27] (fun cv jv wr => ∃ j cy : Nat, jv = .int .i64 j ∧ cv = .int .u64 cy ∧ j ≤ es.length ∧ TimRel w.heap.size (ds.length + es.length) wA (val 4294967296 (ds.take i) * val 4294967296 es + 4294967296 ^ i * (x * val 4294967296 (es.take j))) (i + es.length) (i + j) cy wr) (fun _ jv _ => es.length - (intOf jv).toNat)
      case atStart =>
        refine ⟨0, 0, rfl, rfl, by omega, ?_⟩
        rw [← hwo]
        obtain ⟨zs, g1, g2, g3, g4, g5, g6, g7⟩ := hR
        exact ⟨zs, g1, g2, g3, by omega, by simpa [val] using g5, g6, g7⟩
      case round =>
        obtain ⟨j, cy, rfl, rfl, hj, hQ⟩ := hrel
        have hgw2 : wA.grownBy wr (some w.heap.size) := by obtain ⟨_, _, _, _, _, _, _, h⟩ := hQ; exact h
        obtain ⟨zs, hrow, hl, hokz, hcy, hvz, hz, -⟩ := hQ
        have HL := Lib.hid hl
        have HVZ := Lib.hid hvz
        have HZ := Lib.hid hz
        clear hl hvz hz
        rcases Nat.lt_or_ge j es.length with hjlt | hjge
        · obtain ⟨b2, off2, rfl, hb2, hcell2⟩ := (hrA2.grown hgw2 (haw2 (by intro e; subst e; simp at hjlt))).at_ hjlt
          have hyb := hok2.get hjlt
          have htk2 := val_take_succ 4294967296 hjlt
          generalize es[j] = y at *
          have HTK2 := Lib.hid htk2
          clear htk2
          have hij : i + j < zs.length := by rw [HL.out]; omega
          have hcz := hrow.cell hij
          have hfr := hrow.frozen (i + j)
          have hzb := hokz.get hij
          generalize hzz : zs[i + j] = z at *
          have HZZ := Lib.hid hzz
          clear hzz
          have hpb := pow_bound hxb hyb hzb hcy
          have hp0 : 0 ≤ (x : Int) * y := Int.mul_nonneg (by omega) (by omega)
          have hp1 : (x : Int) * y + z + cy ≤ 18446744073709551615 := by
            have : ((x * y + z + cy : Nat) : Int) < 18446744073709551616 := by omega
            simp only [Int.natCast_add, Int.natCast_mul] at this; omega
          have HS := Lib.hid (TimRel.step hrow HL.out hokz HVZ.out HZ.out hgw2 hij (by omega) HZZ.out.symm hxb hyb hcy)
          go_wp2
          refine ⟨⟨j + 1, (x * y + z + cy) / 4294967296, by go_num, by simp, by omega, ?_⟩, by simp [intOf]; omega⟩
          have e1 : (((x * y + z + cy) % 4294967296 : Nat) : Int) = ((x : Int) * y + z + cy) % 4294967296 := by simp
          have e2 : val 4294967296 (ds.take i) * val 4294967296 es + 4294967296 ^ i * (x * val 4294967296 (es.take j)) + 4294967296 ^ (i + j) * (x * y) = val 4294967296 (ds.take i) * val 4294967296 es + 4294967296 ^ i * (x * val 4294967296 (es.take (j + 1))) := by
            rw [HTK2.out, Nat.pow_add]
            generalize 4294967296 ^ i = Pi
            generalize 4294967296 ^ j = Pj
            grind
          rw [← e1, ← e2]
          exact HS.out
        · obtain rfl : j = es.length := by omega
          have hij : i + es.length < zs.length := by rw [HL.out]; omega
          have hcz := hrow.cell hij
          have hfr := hrow.frozen (i + es.length)
          have hz0 : zs[i + es.length] = 0 := by
            have := HZ.out (i + es.length) (Nat.le_refl _) (by have := HL.out; omega)
            rw [List.getElem?_eq_getElem hij] at this
            exact Option.some.inj this
          have hfin : TimRel w.heap.size (ds.length + es.length) wA (val 4294967296 (ds.take (i + 1)) * val 4294967296 es) (i + 1 + es.length) 0 0 (wr.setCell ⟨w.heap.size, i + es.length, none⟩ (.int .u32 (cy : Int))) := by
            have h1 := val_set 4294967296 zs (i + es.length) cy hij
            refine ⟨_, hrow.set _ _, by simp [HL.out], hokz.set _ hcy, by omega, ?_, fun q h1 h2 => ?_, grown_set hgw2 _ _⟩
            · rw [hz0] at h1
              have h2 := HVZ.out
              rw [List.take_length] at h2
              rw [HTK.out, Nat.add_mul]
              have : 4294967296 ^ i * (x * val 4294967296 es) = 4294967296 ^ i * x * val 4294967296 es := by rw [Nat.mul_assoc]
              omega
            · rw [List.getElem?_set_ne (by omega)]; exact HZ.out q (by omega) h2
          have HF := Lib.hid hfin
          clear hfin hz0
          go_wp2
          refine ⟨⟨i + 1, by go_num, by omega, HF.out⟩, by simp [intOf]; omega⟩
    · obtain rfl : i = ds.length := by omega
      obtain ⟨zs, hrow, hl, hokz, -, hvz, -, hg⟩ := hR
      rw [List.take_length, HV.out, HV2.out, Nat.mul_zero, Nat.add_zero] at hvz
      have HVZ := Lib.hid hvz
      have HL := Lib.hid hl
      clear hvz hl
      go_wp2_with (go_at_call 153; refine (trim_row w.heap.size (ds.length + es.length) (ds.length + es.length) zs wr hrow hokz HL.out (Nat.le_refl _) (by unfold maxLen; omega)).mono ?_; rintro e w4 ⟨⟨rfl, hdv⟩, rfl⟩; rw [HVZ.out] at hdv ⊢)
      go_ret
      exact ⟨_, rfl, hdv, hup0.grown hg (Nat.le_refl _)⟩
end Go.Proofs.YtacbjbnocepnaaaGreatDoor
