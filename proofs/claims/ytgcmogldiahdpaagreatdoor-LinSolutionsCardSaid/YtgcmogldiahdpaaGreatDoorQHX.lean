/- Plain facts about the solutions of a system, and what Echelon and Solve answer. -/
import Derived.Test.YtgcmogldiahdpaaGreatDoorQHW
import Derived.Test.YtgcmogldiahdpaaGreatDoorQHI
import Derived.Test.YtgcmogldiahdpaaGreatDoorQHG
import Derived.Test.YtgcmogldiahdpaaGreatDoorQGR
import Derived.Test.YtgcmogldiahdpaaGreatDoorQHV
namespace Go.Proofs.YtgcmogldiahdpaaGreatDoor
open Fm
/-- A number of a list at a place. -/
def pAt (m : List (Int × Int)) (i : Nat) : Rat := ratOf (m.getD i (0, 1)).1 (m.getD i (0, 1)).2
theorem rowF_parts (T : List Int) (n : Nat) (h : T.length = n + 1) : rowF (T.take n, T.getD n 0) = T := by
  unfold rowF
  have h1 : T.getD n 0 = T[n] := by rw [List.getD_eq_getElem?_getD, List.getElem?_eq_getElem (by omega)]; rfl
  simp only
  rw [h1, ← List.take_succ_eq_append_getElem (by omega), List.take_of_length_le (by omega)]
theorem validFs_each {n : Int} {fs : List (List Int × Int)} (h : validFs n fs = true) : ∀ f, f ∈ fs → validF n f = true := by
  simp only [validFs, Bool.and_eq_true, List.all_eq_true] at h
  exact h.2
theorem dotQ_dotR (r : List Int) : ∀ (qs : List (Int × Int)), r.length = qs.length → dotQ (r.map fun y => (y, (1 : Int))) qs = dotR r (pAt qs) := by
  induction r with
  | nil => intro qs h; cases qs with | nil => rfl | cons q qs => cases h
  | cons a r ih =>
    intro qs h
    cases qs with
    | nil => cases h
    | cons q qs =>
      have e := ih qs (by simpa using h)
      simp only [List.map_cons, dotQ, dotR, e, ratOf_one]
      have e1 : pAt (q :: qs) 0 = ratOf q.1 q.2 := by unfold pAt; simp
      have e2 : (fun i => pAt (q :: qs) (i + 1)) = pAt qs := by funext i; unfold pAt; simp
      rw [e1, e2]
/-- A point, with the number 1 behind its numbers. -/
abbrev pX (xs : List (Int × Int)) : Nat → Rat := pAt (xs ++ [(1, 1)])
theorem valQ_dotR (f : List Int × Int) (xs : List (Int × Int)) (h : f.1.length = xs.length) : valQ f xs = dotR (rowF f) (pX xs) := by
  unfold valQ
  exact dotQ_dotR _ _ (by simp [rowF, h])
theorem pX_last (xs : List (Int × Int)) : pX xs xs.length = 1 := by
  unfold pX pAt
  rw [List.getD_eq_getElem?_getD, List.getElem?_append_right (Nat.le_refl _), Nat.sub_self]
  exact ratOf_one 1
theorem pX_at (xs : List (Int × Int)) (i : Nat) (h : i < xs.length) : pX xs i = ratOf xs[i].1 xs[i].2 := by
  unfold pX pAt
  rw [List.getD_eq_getElem?_getD, List.getElem?_append_left h, List.getElem?_eq_getElem h]
  rfl
theorem mem_rowsR {n : Nat} {S : Sys} {r : List Int} : r ∈ rowsR n S ↔ ∃ c, c < n ∧ S.getD c none = some r := by
  unfold rowsR leadR
  simp only [List.mem_map, List.mem_filter, List.mem_range]
  constructor
  · rintro ⟨c, ⟨h1, h2⟩, rfl⟩
    refine ⟨c, h1, ?_⟩
    cases hp : S.getD c none with
    | none => rw [hp] at h2; cases h2
    | some p => rfl
  · rintro ⟨c, h1, h2⟩
    exact ⟨c, ⟨h1, by rw [h2]; rfl⟩, by rw [h2]; rfl⟩
theorem rows_ZS {n : Nat} {S : Sys} (h : Ech n S) (hn : S.getD n none = none) (X : Nat → Rat) : (∀ r, r ∈ rowsR n S → dotR r X = 0) ↔ ZS S X := by
  constructor
  · intro hh c r hc
    have hl := (h.2 c r hc).le
    have hcn : c ≠ n := fun e => by subst e; rw [hn] at hc; cases hc
    exact hh r (mem_rowsR.2 ⟨c, by omega, hc⟩)
  · intro hh r hr
    obtain ⟨c, -, hc⟩ := mem_rowsR.1 hr
    exact hh c r hc
/-- The equations that Echelon answers are the same system. -/
theorem sysR_rows {n : Nat} (hn : n ≤ 9) {S : Sys} (h : Red n S) (hs : S.getD n none = none) : sysR n (rowsR n S) = S :=
  red_unique (sysR_red n hn _ (rows_len h.ech)) h fun X => by rw [sysR_ZS n hn X _ (rows_len h.ech), rows_ZS h.ech hs]
theorem toF_rowF {n : Nat} {S : Sys} (h : Ech n S) : ((rowsR n S).map (toF n)).map rowF = rowsR n S := by
  rw [List.map_map]
  conv => rhs; rw [← List.map_id (rowsR n S)]
  apply List.map_congr_left
  intro r hr
  exact rowF_parts r n (rows_len h r hr)
theorem echelon_again {n : Nat} (hn : n ≤ 9) {S : Sys} (h : Red n S) (hs : S.getD n none = none) : sysR n (((rowsR n S).map (toF n)).map rowF) = S := by
  rw [toF_rowF h.ech]; exact sysR_rows hn h hs
/-- All forms have the value 0 for the point. -/
def zeroF (fs : List (List Int × Int)) (xs : List (Int × Int)) : Bool := fs.all fun f => decide (valQ f xs = 0)
theorem zeroF_ZS {n : Nat} (hn : n ≤ 9) {fs : List (List Int × Int)} {xs : List (Int × Int)} (hf : ∀ f, f ∈ fs → f.1.length = n) (hx : xs.length = n) : zeroF fs xs = true ↔ ZS (sysR n (fs.map rowF)) (pX xs) := by
  rw [sysR_ZS n hn _ _ (fun r hr => by obtain ⟨f, h1, rfl⟩ := List.mem_map.1 hr; simp [rowF, hf f h1])]
  unfold zeroF
  simp only [List.all_eq_true, decide_eq_true_eq, List.mem_map, forall_exists_index, and_imp, forall_apply_eq_imp_iff₂]
  constructor
  · intro h f h1; rw [← valQ_dotR f xs (by rw [hf f h1, hx])]; exact h f h1
  · intro h f h1; rw [valQ_dotR f xs (by rw [hf f h1, hx])]; exact h f h1
/-- Without a solution, no point solves the equations. -/
theorem zeroF_none {n : Nat} (hn : n ≤ 9) {fs : List (List Int × Int)} {xs : List (Int × Int)} (hf : ∀ f, f ∈ fs → f.1.length = n) (hx : xs.length = n) (hs : ((sysR n (fs.map rowF)).getD n none).isNone = false) : zeroF fs xs = false := by
  rw [Bool.eq_false_iff]
  intro h
  have h1 := (zeroF_ZS hn hf hx).1 h
  have hE := sysR_red n hn (fs.map rowF) (fun r hr => by obtain ⟨f, h1, rfl⟩ := List.mem_map.1 hr; simp [rowF, hf f h1])
  cases hr : (sysR n (fs.map rowF)).getD n none with
  | none => rw [hr] at hs; cases hs
  | some r =>
    have h2 := lead_zero hE.ech hr h1 (fun i hi hin => by omega)
    rw [← hx, pX_last] at h2
    exact absurd h2 (by decide)
theorem zeroF_rows {n : Nat} (hn : n ≤ 9) {fs : List (List Int × Int)} {xs : List (Int × Int)} (hf : ∀ f, f ∈ fs → f.1.length = n) (hx : xs.length = n) (hs : (sysR n (fs.map rowF)).getD n none = none) : zeroF ((rowsR n (sysR n (fs.map rowF))).map (toF n)) xs = zeroF fs xs := by
  have hE := sysR_red n hn (fs.map rowF) (fun r hr => by obtain ⟨f, h1, rfl⟩ := List.mem_map.1 hr; simp [rowF, hf f h1])
  have h1 := zeroF_ZS hn hf hx
  have h2 := zeroF_ZS (fs := (rowsR n (sysR n (fs.map rowF))).map (toF n)) hn (fun f hf => by obtain ⟨r, h1, rfl⟩ := List.mem_map.1 hf; simp [toF, rows_len hE.ech r h1]) hx
  rw [echelon_again hn hE hs, ← h1] at h2
  exact Bool.eq_iff_iff.2 h2
theorem solAt_get (n : Nat) (S : Sys) : ∀ (l : List Nat) (xs : List (Int × Int)) (i : Nat), i < xs.length → (l.foldl (fun xs c => xs.set c (solN n S c)) xs).getD i (0, 1) = if i ∈ l then solN n S i else xs.getD i (0, 1) := by
  intro l
  induction l with
  | nil => intro xs i _; simp
  | cons c l ih =>
    intro xs i hi
    rw [List.foldl_cons, ih _ i (by simpa using hi)]
    by_cases h1 : i ∈ l
    · rw [if_pos h1, if_pos (by simp [h1])]
    · rw [if_neg h1]
      by_cases h2 : i = c
      · subst h2
        rw [if_pos (by simp), List.getD_eq_getElem?_getD, List.getElem?_set_self hi]; rfl
      · rw [if_neg (by simp [h1, h2]), List.getD_eq_getElem?_getD, List.getElem?_set_ne (Ne.symm h2), List.getD_eq_getElem?_getD]
theorem pX_sol {n : Nat} {S : Sys} (i : Nat) (hi : i < n) : pX (solAt n S (leadR n S)) i = if (S.getD i none).isSome then solQ n S i else 0 := by
  have hl := solAt_length n S (leadR n S)
  have h1 := solAt_get n S (leadR n S) (List.replicate n (0, 1)) i (by simpa using hi)
  have h2 : (solAt n S (leadR n S)).getD i (0, 1) = (solAt n S (leadR n S))[i] := by
    rw [List.getD_eq_getElem?_getD, List.getElem?_eq_getElem (by omega)]; rfl
  rw [pX_at _ i (by omega), ← h2]
  unfold solAt
  rw [h1]
  have hm : i ∈ leadR n S ↔ (S.getD i none).isSome = true := by
    unfold leadR; simp [hi]
  by_cases h3 : (S.getD i none).isSome = true
  · rw [if_pos (hm.2 h3), if_pos h3]; exact ratOf_self _
  · rw [if_neg (fun h => h3 (hm.1 h)), if_neg h3, List.getD_eq_getElem?_getD, List.getElem?_replicate, if_pos hi]
    exact ratOf_one 0
theorem sol_ZS {n : Nat} {S : Sys} (h : Red n S) (hs : S.getD n none = none) : ZS S (pX (solAt n S (leadR n S))) := by
  intro c r hr
  have hl := h.ech.2 c r hr
  have hcn : c ≠ n := fun e => by subst e; rw [hs] at hr; cases hr
  have hc := hl.le
  have hc0 : ((r.getD c 0 : Int) : Rat) ≠ 0 := fun e => hl.at_ (int_rat_zero.1 e)
  rw [dotR_two (c := c) (j := n) (by rw [hl.len]; omega) (by rw [hl.len]; omega) hcn]
  · have e1 : pX (solAt n S (leadR n S)) n = 1 := by
      have := pX_last (solAt n S (leadR n S))
      rwa [solAt_length] at this
    have e2 := pX_sol (S := S) c (show c < n by omega)
    rw [hr] at e2
    simp only [Option.isSome_some, if_true] at e2
    rw [e1, e2, Rat.mul_one]
    have e3 : solQ n S c = ((-(r.getD n 0) : Int) : Rat) / ((r.getD c 0 : Int) : Rat) := by
      unfold solQ; rw [hr]; exact Rat.divInt_eq_div _ _
    rw [e3, Rat.mul_comm, Rat.div_mul_cancel hc0, Rat.intCast_neg]
    exact Rat.neg_add_cancel _
  · intro i hi hic hin
    rw [hl.len] at hi
    rw [pX_sol i (by omega)]
    cases hq : S.getD i none with
    | none => right; rfl
    | some q => left; exact h.zero i c q r (Nat.zero_le _) (Ne.symm hic) hq hr
theorem sol_zero {n : Nat} (hn : n ≤ 9) {fs : List (List Int × Int)} (hf : ∀ f, f ∈ fs → f.1.length = n) (hs : (sysR n (fs.map rowF)).getD n none = none) : zeroF fs (solAt n (sysR n (fs.map rowF)) (leadR n (sysR n (fs.map rowF)))) = true := by
  have hE := sysR_red n hn (fs.map rowF) (fun r hr => by obtain ⟨f, h1, rfl⟩ := List.mem_map.1 hr; simp [rowF, hf f h1])
  exact (zeroF_ZS hn hf (solAt_length _ _ _)).2 (sol_ZS hE hs)
theorem sol_ok {n : Nat} {S : Sys} (h : (leadR n S).all (fun c => fits (solQ n S c)) = true) : okAll (solAt n S (leadR n S)) = true := by
  unfold okAll
  rw [List.all_eq_true]
  intro p hp
  obtain ⟨i, hi, rfl⟩ := List.mem_iff_getElem.1 hp
  have hl := solAt_length n S (leadR n S)
  have h1 := solAt_get n S (leadR n S) (List.replicate n (0, 1)) i (by simpa using (by omega : i < n))
  have h2 : (solAt n S (leadR n S)).getD i (0, 1) = (solAt n S (leadR n S))[i] := by
    rw [List.getD_eq_getElem?_getD, List.getElem?_eq_getElem (by omega)]; rfl
  rw [← h2]
  unfold solAt
  rw [h1]
  split
  · rename_i hm
    exact okNum_of_fits ((List.all_eq_true.1 h) i hm)
  · rw [List.getD_eq_getElem?_getD, List.getElem?_replicate, if_pos (by omega)]; rfl
theorem rows_valid {n : Nat} (hn : n ≤ 8) {S : Sys} (h : Ech n S) (hl : (rowsR n S).all (fun r => r.all limI) = true) : validFs n ((rowsR n S).map (toF n)) = true := by
  have hlen : (rowsR n S).length ≤ n := by
    unfold rowsR leadR
    rw [List.length_map]
    exact Nat.le_trans (List.length_filter_le _ _) (by simp)
  simp only [validFs, Bool.and_eq_true, decide_eq_true_eq, List.all_eq_true, List.length_map]
  refine ⟨⟨by simp [dimI]; omega, by omega⟩, fun f hf => ?_⟩
  obtain ⟨r, hr, rfl⟩ := List.mem_map.1 hf
  have h1 := rows_len h r hr
  have h2 := (List.all_eq_true.1 ((List.all_eq_true.1 hl) r hr))
  simp only [validF, Bool.and_eq_true, List.all_eq_true, toF]
  refine ⟨⟨⟨by simp [dimI]; omega, by simp [h1]⟩, ?_⟩, fun y hy => h2 y (List.mem_of_mem_take hy)⟩
  rw [List.getD_eq_getElem?_getD, List.getElem?_eq_getElem (by omega)]
  exact h2 _ (List.getElem_mem _)
end Go.Proofs.YtgcmogldiahdpaaGreatDoor
namespace Go.Proofs.YtgcmogldiahdpaaGreatDoor
open Go.RowKit Fm
set_option maxHeartbeats 1000000 in
set_option maxRecDepth 10000 in
theorem echelon_bad (A : Option Addr) (c : Nat) (n : Int) (fs : List (List Int × Int)) (w : World) (hc : fs.length ≤ 9223372036854775807) (hr : RdE eltForm w A fs) (hv : validFs n fs = false) :
    Calls Tryz.prog 29 #[.int .i64 n, .slice A fs.length c] w fun e w' => e = .returned (.tuple #[.slice none 0 0, .bool false, .int .i64 1]) ∧ Up w w' := by
  have HV := Lib.hid (fun W (hu : Up w W) => validForms_any A c n fs W hc (hr.up hu))
  rw [hv] at HV
  clear hr hv hc
  go_enter Tryz.func29, Tryz.ntmps29
  go_wp2_with fail
  refine Calls.mono (HV.out _ (by (repeat (first | exact Below.refl _ _ | exact Go.RowKit.Hid.out (by assumption) | refine Up.trans ?_ (Up.drew _) | refine Up.trans ?_ (Up.drewN _ _) | refine Up.trans ?_ (Up.alloc _ _) | refine Up.trans ?_ (Go.RowKit.Hid.out (by assumption)))))) ?_
  rintro e w1 ⟨rfl, hu⟩
  have HU1 := Lib.hid hu
  clear hu
  go_wp2
  refine bodyPost_ret (by simp [results, Tryz.results29, go_sem]; try rfl) rfl ?_
  exact ⟨rfl, by (repeat (first | exact Below.refl _ _ | exact Go.RowKit.Hid.out (by assumption) | refine Up.trans ?_ (Up.drew _) | refine Up.trans ?_ (Up.drewN _ _) | refine Up.trans ?_ (Up.alloc _ _) | refine Up.trans ?_ (Go.RowKit.Hid.out (by assumption))))⟩
/-- The equations that Echelon answers. -/
abbrev echF (n : Nat) (fs : List (List Int × Int)) : List (List Int × Int) := (rowsR n (sysR n (fs.map rowF))).map (toF n)
theorem echelon_none (A : Option Addr) (c n : Nat) (fs : List (List Int × Int)) (w : World) (hc : fs.length ≤ 9223372036854775807) (hr : RdE eltForm w A fs) (hv : validFs n fs = true) (ht : Tab w) (hs : ((sysR n (fs.map rowF)).getD n none).isNone = false) :
    Calls Tryz.prog 29 #[.int .i64 n, .slice A fs.length c] w fun e w' => e = .returned (.tuple #[.slice none 0 0, .bool false, .int .i64 0]) ∧ Up w w' := by
  refine Calls.mono (echelon_ok A c n fs w hc hr hv ht) ?_
  rintro e w' ⟨⟨v, b, er, rfl, h⟩, hu⟩
  rw [if_pos hs] at h
  obtain ⟨rfl, rfl, rfl⟩ := h
  exact ⟨rfl, hu⟩
theorem echelon_full (A : Option Addr) (c n : Nat) (fs : List (List Int × Int)) (w : World) (hc : fs.length ≤ 9223372036854775807) (hr : RdE eltForm w A fs) (hv : validFs n fs = true) (ht : Tab w) (hs : ((sysR n (fs.map rowF)).getD n none).isNone = true) (hl : (rowsR n (sysR n (fs.map rowF))).all (fun r => r.all limI) = false) :
    Calls Tryz.prog 29 #[.int .i64 n, .slice A fs.length c] w fun e w' => e = .returned (.tuple #[.slice none 0 0, .bool false, .int .i64 3]) ∧ Up w w' := by
  refine Calls.mono (echelon_ok A c n fs w hc hr hv ht) ?_
  rintro e w' ⟨⟨v, b, er, rfl, h⟩, hu⟩
  rw [if_neg (by rw [hs]; decide), if_neg (by rw [hl]; decide)] at h
  obtain ⟨rfl, rfl, rfl⟩ := h
  exact ⟨rfl, hu⟩
theorem echelon_some (A : Option Addr) (c n : Nat) (fs : List (List Int × Int)) (w : World) (hc : fs.length ≤ 9223372036854775807) (hr : RdE eltForm w A fs) (hv : validFs n fs = true) (ht : Tab w) (hs : ((sysR n (fs.map rowF)).getD n none).isNone = true) (hl : (rowsR n (sysR n (fs.map rowF))).all (fun r => r.all limI) = true) :
    Calls Tryz.prog 29 #[.int .i64 n, .slice A fs.length c] w fun e w' => ∃ A' c', e = .returned (.tuple #[.slice A' (echF n fs).length c', .bool true, .int .i64 0]) ∧ RdE eltForm w' A' (echF n fs) ∧ Up w w' := by
  refine Calls.mono (echelon_ok A c n fs w hc hr hv ht) ?_
  rintro e w' ⟨⟨v, b, er, rfl, h⟩, hu⟩
  rw [if_neg (by rw [hs]; decide), if_pos hl] at h
  obtain ⟨⟨A', c', rfl, -, -, h3, -⟩, rfl, rfl⟩ := h
  exact ⟨A', c', by rw [List.length_map], h3, hu⟩
theorem solve_full (A : Option Addr) (c n : Nat) (fs : List (List Int × Int)) (w : World) (hc : fs.length ≤ 9223372036854775807) (hr : RdE eltForm w A fs) (hv : validFs n fs = true) (ht : Tab w) (hs : ((sysR n (fs.map rowF)).getD n none).isNone = true) (hl : (leadR n (sysR n (fs.map rowF))).all (fun c => fits (solQ n (sysR n (fs.map rowF)) c)) = false) :
    Calls Tryz.prog 31 #[.int .i64 n, .slice A fs.length c] w fun e w' => e = .returned (.tuple #[.slice none 0 0, .bool false, .int .i64 3]) ∧ Up w w' := by
  refine Calls.mono (solve_ok A c n fs w hc hr hv ht) ?_
  rintro e w' ⟨⟨v, b, er, rfl, h⟩, hu⟩
  rw [if_neg (by rw [hs]; decide), if_neg (by rw [hl]; decide)] at h
  obtain ⟨rfl, rfl, rfl⟩ := h
  exact ⟨rfl, hu⟩
/-- The numbers that Solve answers. -/
abbrev solF (n : Nat) (fs : List (List Int × Int)) : List (Int × Int) := solAt n (sysR n (fs.map rowF)) (leadR n (sysR n (fs.map rowF)))
theorem solve_some (A : Option Addr) (c n : Nat) (fs : List (List Int × Int)) (w : World) (hc : fs.length ≤ 9223372036854775807) (hr : RdE eltForm w A fs) (hv : validFs n fs = true) (ht : Tab w) (hs : ((sysR n (fs.map rowF)).getD n none).isNone = true) (hl : (leadR n (sysR n (fs.map rowF))).all (fun c => fits (solQ n (sysR n (fs.map rowF)) c)) = true) :
    Calls Tryz.prog 31 #[.int .i64 n, .slice A fs.length c] w fun e w' => ∃ g, e = .returned (.tuple #[.slice (some ⟨g, 0, none⟩) (solF n fs).length n, .bool true, .int .i64 0]) ∧ RdN w' (some ⟨g, 0, none⟩) (solF n fs) ∧ Up w w' := by
  refine Calls.mono (solve_ok A c n fs w hc hr hv ht) ?_
  rintro e w' ⟨⟨v, b, er, rfl, h⟩, hu⟩
  rw [if_neg (by rw [hs]; decide), if_pos hl] at h
  obtain ⟨⟨g, rfl, h3, -⟩, rfl, rfl⟩ := h
  exact ⟨g, by rw [solAt_length], h3.rd, hu⟩
theorem rng_ok {xs : List (Int × Int)} (h : okAll xs = true) : ∀ p, p ∈ xs → Rng p.1 p.2 := by
  intro p hp
  unfold okAll at h
  rw [List.all_eq_true] at h
  have h2 := h p hp
  simp only [okNum, decide_eq_true_eq] at h2
  exact ⟨by omega, by omega, by omega, by omega⟩
/-- All that the law asks of a solvable system whose equations are valid. -/
theorem sol_facts {n : Nat} {fs : List (List Int × Int)} {xs : List (Int × Int)} (hv : validFs n fs = true) (hs : ((sysR n (fs.map rowF)).getD n none).isNone = true) (hl : (rowsR n (sysR n (fs.map rowF))).all (fun r => r.all limI) = true) :
    n ≤ 8 ∧ (∀ f, f ∈ fs → validF n f = true) ∧ validFs n (echF n fs) = true ∧ (∀ f, f ∈ echF n fs → validF n f = true) ∧ ((sysR n ((echF n fs).map rowF)).getD n none).isNone = true ∧ (rowsR n (sysR n ((echF n fs).map rowF))).all (fun r => r.all limI) = true ∧ echF n (echF n fs) = echF n fs ∧
    sameB n fs (echF n fs) = true ∧ sameE n fs (echF n fs) = 0 ∧ (xs.length = n → zeroF (echF n fs) xs = zeroF fs xs) ∧ zeroF fs (solF n fs) = true ∧ (echF n fs).length ≤ 120 := by
  obtain ⟨-, hn8, h120, hall⟩ := validFs_all hv
  have hn : n ≤ 9 := by omega
  have hlen : ∀ f, f ∈ fs → f.1.length = n := fun f hf => by have := (hall f hf).1; simpa using this
  have hrl : ∀ r, r ∈ fs.map rowF → r.length = n + 1 := fun r hr => by
    obtain ⟨f, h1, rfl⟩ := List.mem_map.1 hr
    simp [rowF, hlen f h1]
  have hE := sysR_red n hn (fs.map rowF) hrl
  have hnone : (sysR n (fs.map rowF)).getD n none = none := by simpa using hs
  have hag := echelon_again hn hE hnone
  have hvr := rows_valid (by omega) hE.ech hl
  have hvr2 := hvr
  simp only [validFs, Bool.and_eq_true, decide_eq_true_eq] at hvr2
  have e1 : sysR n ((echF n fs).map rowF) = sysR n (fs.map rowF) := hag
  refine ⟨by omega, validFs_each hv, hvr, validFs_each hvr, by rw [e1]; exact hs, by rw [e1]; exact hl, by unfold echF at e1 ⊢; rw [e1], ?_, ?_, fun hx => zeroF_rows hn hlen hx hnone, sol_zero hn hlen hnone, hvr2.1.2⟩
  · unfold sameB
    rw [hv, hvr]
    simp only [Bool.and_self, if_true, Int.toNat_natCast]
    rw [e1]
    unfold sameS
    rw [hs]
    simp
  · unfold sameE
    rw [hv, hvr]; rfl
end Go.Proofs.YtgcmogldiahdpaaGreatDoor
