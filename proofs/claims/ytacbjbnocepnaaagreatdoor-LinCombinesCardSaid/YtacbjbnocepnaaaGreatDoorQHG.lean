/- Contracts of Solve, and of what the statements compare; the examples. -/
import Derived.Test.YtacbjbnocepnaaaGreatDoorQHF
import Derived.Test.YtacbjbnocepnaaaGreatDoorQGS
namespace Go.Proofs.YtacbjbnocepnaaaGreatDoor
open Go.RowKit Fm
def RowN (w : World) (g : Nat) (xs : List (Int × Int)) : Prop :=
  ∃ arr : Array Value, w.heap[g]? = some (.cells arr 55 (0, 0)) ∧ arr.size = xs.length * 2 ∧
    ∀ i (hi : i < xs.length), arr[i * 2]? = some (.int .i64 xs[i].1) ∧ arr[i * 2 + 1]? = some (.int .i64 xs[i].2)
theorem RowN.lt {w : World} {g : Nat} {xs : List (Int × Int)} (h : RowN w g xs) : g < w.heap.size := by
  obtain ⟨arr, h1, -⟩ := h
  rcases Nat.lt_or_ge g w.heap.size with h2 | h2
  · exact h2
  · rw [Array.getElem?_eq_none h2] at h1; cases h1
theorem RowN.up {w w' : World} {g : Nat} {xs : List (Int × Int)} (h : RowN w g xs) (hu : Up w w') : RowN w' g xs := by
  have hl := h.lt
  obtain ⟨arr, h1, h2, h3⟩ := h
  exact ⟨arr, (hu.block g hl).trans h1, h2, h3⟩
theorem RowN.frozen {w : World} {g : Nat} {xs : List (Int × Int)} (h : RowN w g xs) (i : Nat) : w.frozen? ⟨g, i, none⟩ = false := by
  obtain ⟨arr, h1, -⟩ := h
  simp [World.frozen?, h1]
theorem RowN.cells {w : World} {g : Nat} {xs : List (Int × Int)} (h : RowN w g xs) {i : Nat} (hi : i < xs.length) : w.cell? ⟨g, i * 2, none⟩ = some (.int .i64 xs[i].1) ∧ w.cell? ⟨g, i * 2 + 1, none⟩ = some (.int .i64 xs[i].2) := by
  obtain ⟨arr, h1, -, h3⟩ := h
  obtain ⟨e1, e2⟩ := h3 i hi
  exact ⟨by rw [cell_of_row w g _ _ _ _ h1]; exact e1, by rw [cell_of_row w g _ _ _ _ h1]; exact e2⟩
theorem RowN.rd {w : World} {g : Nat} {xs : List (Int × Int)} (h : RowN w g xs) : RdN w (some ⟨g, 0, none⟩) xs := fun _ =>
  ⟨g, 0, rfl, h.lt, fun i hi => by rw [Nat.zero_add]; exact h.cells hi⟩
theorem RowN.store {w : World} {g : Nat} {xs : List (Int × Int)} (h : RowN w g xs) {i : Nat} (hi : i < xs.length) (x y : Int) :
    RowN ((w.setCell ⟨g, i * 2, none⟩ (.int .i64 x)).setCell ⟨g, i * 2 + 1, none⟩ (.int .i64 y)) g (xs.set i (x, y)) := by
  obtain ⟨arr, h1, h2, h3⟩ := h
  refine ⟨(arr.setIfInBounds (i * 2) (.int .i64 x)).setIfInBounds (i * 2 + 1) (.int .i64 y), by simp [World.setCell, Array.getElem?_modify, h1], by simpa using h2, fun j hj => ?_⟩
  have hj' : j < xs.length := by simpa using hj
  by_cases hji : j = i
  · subst hji
    rw [List.getElem_set_self]
    refine ⟨?_, ?_⟩
    · rw [Array.getElem?_setIfInBounds_ne (by omega), Array.getElem?_setIfInBounds_self]; simp; omega
    · rw [Array.getElem?_setIfInBounds_self]; simp; omega
  · obtain ⟨e1, e2⟩ := h3 j hj'
    rw [List.getElem_set_ne (fun e => hji e.symm)]
    refine ⟨?_, ?_⟩
    · rw [Array.getElem?_setIfInBounds_ne (by omega), Array.getElem?_setIfInBounds_ne (by omega)]; exact e1
    · rw [Array.getElem?_setIfInBounds_ne (by omega), Array.getElem?_setIfInBounds_ne (by omega)]; exact e2
theorem info_numz : (Tryz.prog.info? 55).map (fun i => (i.zero, i.size, i.bytes)) = some (some (.agg #[.int .i64 0, .int .i64 0]), 2, 16) := by kernel_rfl
def zeroNums (n : Nat) : Array Value := madeCells (Value.agg #[.int .i64 0, .int .i64 0]).cells (n * 2)
theorem mkNums (n : Nat) (hn : n ≤ 4294967296) (w : World) : (Instr.makeSlice 23 (.int .i64 (n : Int)) (.int .i64 (n : Int))).run Tryz.prog w =
    .ok (.slice (some ⟨w.heap.size, 0, none⟩) n n) (w.alloc (.cells (zeroNums n) 55)) := by
  obtain ⟨i0, hi, hz0, hz1, hz2⟩ := info_parts info_numz
  have h := run_make (P := Tryz.prog) w 23 55 i0 (.agg #[.int .i64 0, .int .i64 0]) Tryz.underlying23 hi hz0 .i64 .i64 n n (by omega) (by omega) (by rw [hz2]; omega) (by omega)
  rw [h, hz1]; simp only [Int.toNat_natCast, zeroNums]
theorem RowN.new (w : World) (n : Nat) : RowN (w.alloc (.cells (zeroNums n) 55)) w.heap.size (List.replicate n (0, 0)) := by
  refine ⟨zeroNums n, heap_alloc_new w _, by simp [zeroNums, madeCells], fun i hi => ?_⟩
  have hi' : i < n := by simpa using hi
  have hs : (zeroNums n).size = n * 2 := by simp [zeroNums, madeCells]
  have e : (i * 2 + 1) % 2 = 1 := by omega
  constructor
  · rw [Array.getElem?_eq_getElem (by omega)]
    simp [zeroNums, madeCells, Value.cells]
  · rw [Array.getElem?_eq_getElem (by omega)]
    simp [zeroNums, madeCells, Value.cells, e]
theorem RdI.put {w : World} {A : Option Addr} {xs : List Int} {g : Nat} (h : RdI w A xs) (ha : Away A g) (o : Nat) (u : Value) : RdI (w.setCell ⟨g, o, none⟩ u) A xs := fun hn => by
  obtain ⟨b, off, rfl, hb, hc⟩ := h hn
  have hne := ha b off rfl
  exact ⟨b, off, rfl, by simpa [World.setCell] using hb, fun i hi => by rw [World.cell?_setCell_other _ _ _ _ (by intro e; injection e with e; exact hne e.symm)]; exact hc i hi⟩
def solQ (n : Nat) (S : Sys) (c : Nat) : Rat := Rat.divInt (-(((S.getD c none).getD []).getD n 0)) (((S.getD c none).getD []).getD c 0)
def solN (n : Nat) (S : Sys) (c : Nat) : Int × Int := ((solQ n S c).num, (solQ n S c).den)
def solAt (n : Nat) (S : Sys) (l : List Nat) : List (Int × Int) := l.foldl (fun xs c => xs.set c (solN n S c)) (List.replicate n (0, 1))
theorem solAt_length (n : Nat) (S : Sys) (l : List Nat) : (solAt n S l).length = n := by
  unfold solAt
  have : ∀ (l : List Nat) (xs : List (Int × Int)), (l.foldl (fun xs c => xs.set c (solN n S c)) xs).length = xs.length := by
    intro l
    induction l with
    | nil => intro xs; rfl
    | cons c l ih => intro xs; rw [List.foldl_cons, ih]; simp
  rw [this]; simp
def SolRes (w w' : World) (n : Nat) (S : Sys) (e : Ending) : Prop :=
  ∃ v b er, e = .returned (.tuple #[v, .bool b, .int .i64 er]) ∧
    (if (S.getD n none).isNone = false then v = .slice none 0 0 ∧ b = false ∧ er = 0
     else if (leadR n S).all (fun c => fits (solQ n S c)) = true then (∃ g, v = .slice (some ⟨g, 0, none⟩) n n ∧ RowN w' g (solAt n S (leadR n S)) ∧ w.heap.size ≤ g) ∧ b = true ∧ er = 0
     else v = .slice none 0 0 ∧ b = false ∧ er = 3)
theorem sysR_sb (n K : Nat) (hn : n ≤ 9) (hK : K ≤ 60) (ls : List (List Int)) (h : ∀ r, r ∈ ls → r.length = n + 1 ∧ Bd K r) : SB (fun _ => 63963135) (sysR n ls) := by
  obtain ⟨h1, h2⟩ := fold_ok n K hn ls _ h (startR n) (sb_start K)
  have h3 : SB (fun _ => 62463) (ls.foldl (fun S r => insR n (n + 1) S r) (List.replicate 10 none)) := fun i r hi => (h2 i r hi).mono (grow_le hK (by have := (h1.2 i r hi).le; omega))
  have h4 := redR_sb n hn (n + 1) _ 62463 (Nat.le_refl _) h1 h3
  intro c r hc
  refine (h4 c r hc).mono ?_
  show 2 ^ (n + 1) * (62463 + 1) - 1 ≤ 63963135
  have e1 : 2 ^ (n + 1) ≤ 2 ^ 10 := Nat.pow_le_pow_right (by omega) (by omega)
  have e2 : 2 ^ (n + 1) * (62463 + 1) ≤ 2 ^ 10 * (62463 + 1) := Nat.mul_le_mul_right _ e1
  omega
set_option maxHeartbeats 4000000 in
set_option maxRecDepth 10000 in
theorem solve_ok (A : Option Addr) (c n : Nat) (fs : List (List Int × Int)) (w : World) (hc : fs.length ≤ 9223372036854775807) (hr : RdE eltForm w A fs) (hv : validFs n fs = true) (ht : Tab w) :
    Calls Tryz.prog 15 #[.int .i64 n, .slice A fs.length c] w fun e w' => SolRes w w' n (sysR n (fs.map rowF)) e ∧ Up w w' := by
  obtain ⟨-, hn8, h120, hall⟩ := validFs_all hv
  have hn : n ≤ 8 := by omega
  have HV := Lib.hid (fun W (hu : Up w W) => validForms_any A c n fs W hc (hr.up hu))
  rw [hv] at HV
  have HSO := Lib.hid (fun W (hu : Up w W) => linSystemOf_any A c n fs W (by omega) (by omega) (hr.up hu) (by simpa using hall) (ht.up hu))
  have hrows : ∀ r, r ∈ fs.map rowF → r.length = n + 1 ∧ Bd 2 r := fun r hr => by
    obtain ⟨f, hf1, rfl⟩ := List.mem_map.1 hr
    have := (hall f hf1).bd
    simpa using this
  have HECH := Lib.hid (sysR_ech n 2 (by omega) (fs.map rowF) hrows)
  have HSB := Lib.hid (sysR_sb n 2 (by omega) (by omega) (fs.map rowF) hrows)
  have hmk : ∀ W, (Instr.makeSlice 23 (.int .i64 (n : Int)) (.int .i64 (n : Int))).run Tryz.prog W = .ok (.slice (some ⟨W.heap.size, 0, none⟩) n n) (W.alloc (.cells (zeroNums n) 55)) := fun W => mkNums n (by omega) W
  generalize sysR n (fs.map rowF) = S at *
  clear hr hv hall h120 hn8 hrows
  go_enter Tryz.func15, Tryz.ntmps15
  go_wp2_with fail
  refine Calls.mono (HV.out _ (by (repeat (first | exact Below.refl _ _ | exact Hid.out (by assumption) | refine Up.trans ?_ (Up.drew _) | refine Up.trans ?_ (Up.drewN _ _) | refine Up.trans ?_ (Up.alloc _ _) | refine Up.trans ?_ (Hid.out (by assumption)))))) ?_
  rintro e w1 ⟨rfl, hu⟩
  have HU1 := Lib.hid hu
  clear hu
  go_wp2_with fail
  refine Calls.mono (HSO.out _ (by (repeat (first | exact Below.refl _ _ | exact Hid.out (by assumption) | refine Up.trans ?_ (Up.drew _) | refine Up.trans ?_ (Up.drewN _ _) | refine Up.trans ?_ (Up.alloc _ _) | refine Up.trans ?_ (Hid.out (by assumption)))))) ?_
  rintro e w2 ⟨arr, rfl, hs, hu⟩
  have HU2 := Lib.hid hu
  have HS2 := Lib.hid hs.var
  have HUA := Lib.hid (Up.alloc w2 (.cells arr 93))
  obtain ⟨A0, m0, k0, A1, m1, k1, A2, m2, k2, A3, m3, k3, A4, m4, k4, A5, m5, k5, A6, m6, k6, A7, m7, k7, A8, m8, k8, A9, m9, k9, rfl⟩ := hs.open_
  clear hu hs
  go_wp2_with fail
  generalize w2.alloc (.cells #[.int .i64 n, .slice A0 m0 k0, .slice A1 m1 k1, .slice A2 m2 k2, .slice A3 m3 k3, .slice A4 m4 k4, .slice A5 m5 k5, .slice A6 m6 k6, .slice A7 m7 k7, .slice A8 m8 k8, .slice A9 m9 k9] 93) = w3 at *
  obtain ⟨g, hg⟩ : ∃ g, g = w2.heap.size := ⟨_, rfl⟩
  rw [← hg] at HS2 ⊢
  clear hg
  have HSV := Lib.hid (fun W (hu : Up w3 W) => sysSolvable_any g n S W (by omega) (HS2.out.up hu))
  refine Calls.mono (HSV.out _ (Up.refl _)) ?_
  rintro e w4 ⟨rfl, hu⟩
  have HU4 := Lib.hid hu
  clear hu
  rcases hsol : (S.getD n none).isNone with _ | _
  · have HSOL := Lib.hid hsol
    clear hsol
    go_wp2
    refine bodyPost_ret (by simp [results, Tryz.results15, go_sem]; try rfl) rfl ?_
    exact ⟨⟨_, _, _, rfl, by rw [if_pos HSOL.out]; exact ⟨rfl, rfl, rfl⟩⟩, by (repeat (first | exact Below.refl _ _ | exact Hid.out (by assumption) | refine Up.trans ?_ (Up.drew _) | refine Up.trans ?_ (Up.drewN _ _) | refine Up.trans ?_ (Up.alloc _ _) | refine Up.trans ?_ (Hid.out (by assumption))))⟩
  · have HSOL := Lib.hid hsol
    have HLD := Lib.hid (fun W (hu : Up w3 W) => sysLeading_any g n S W (by omega) (HS2.out.up hu))
    clear hsol
    go_wp2
    have HB0 := Lib.hid (RowN.new w4 n)
    have HUN := Lib.hid (Up.alloc w4 (.cells (zeroNums n) 55))
    generalize w4.alloc (.cells (zeroNums n) 55) = wB at *
    obtain ⟨gx, hgx⟩ : ∃ gx, gx = w4.heap.size := ⟨_, rfl⟩
    rw [← hgx] at HB0 ⊢
    have HGX := Lib.hid (show w4.heap.size ≤ gx by omega)
    clear hgx hmk
    go_loopw [28] (fun i wr => ∃ k : Nat, k ≤ n ∧ i = .int .i64 k ∧ Hid (RowN wr gx (List.replicate k (0, 1) ++ List.replicate (n - k) (0, 0))) ∧ Hid (Up w4 wr)) (fun i _ => n - (intOf i).toNat)
    case atStart => exact ⟨0, by omega, rfl, by simpa using HB0, HUN⟩
    case round =>
      obtain ⟨k, hk, rfl, HB, HU⟩ := hrel
      by_cases hkn : k < n
      · have hkl : k < (List.replicate k ((0 : Int), (1 : Int)) ++ List.replicate (n - k) (0, 0)).length := by simp; omega
        obtain ⟨d0, d1⟩ := HB.out.cells hkl
        have f3 := HB.out.frozen (k * 2)
        have f4 := HB.out.frozen (k * 2 + 1)
        have lg := HB.out.lt
        have HNX := Lib.hid (HB.out.store hkl 0 1)
        have HEQ : Hid ((List.replicate k ((0 : Int), (1 : Int)) ++ List.replicate (n - k) (0, 0)).set k (0, 1) = List.replicate (k + 1) (0, 1) ++ List.replicate (n - (k + 1)) (0, 0)) := Lib.hid (by
          rw [List.set_append_right _ _ (by simp), List.length_replicate, Nat.sub_self]
          obtain ⟨m, hm⟩ : ∃ m, n - k = m + 1 := ⟨n - k - 1, by omega⟩
          rw [hm, List.replicate_succ, List.set_cons_zero, show n - (k + 1) = m by omega, List.replicate_succ', List.append_assoc]; rfl)
        rw [HEQ.out] at HNX
        have HUS := Lib.hid ((HU.out.setCell (p := ⟨gx, k * 2, none⟩) HGX.out (.int .i64 0)).setCell (p := ⟨gx, k * 2 + 1, none⟩) HGX.out (.int .i64 1))
        generalize (List.replicate k ((0 : Int), (1 : Int)) ++ List.replicate (n - k) (0, 0))[k] = q at *
        have i0 : (0 : Int) ≤ (k : Int) := by omega
        have i1 : (k : Int) < (n : Int) := by omega
        clear hkl HEQ
        go_wp2_with fail
        exact ⟨⟨k + 1, by omega, by simp, HNX, HUS⟩, by simp [intOf]; omega⟩
      · have hke : k = n := by omega
        subst hke
        have HB1 : Hid (RowN wr gx (solAt k S [])) := Lib.hid (by have := HB.out; simpa [solAt] using this)
        go_wp2_with fail
        refine Calls.mono (HLD.out _ (by (repeat (first | exact Below.refl _ _ | exact Hid.out (by assumption) | refine Up.trans ?_ (Up.drew _) | refine Up.trans ?_ (Up.drewN _ _) | refine Up.trans ?_ (Up.alloc _ _) | refine Up.trans ?_ (Hid.out (by assumption)))))) ?_
        rintro e w5 ⟨A5', c5', rfl, h1, h2, hrd, hnw, hu⟩
        have HU5 := Lib.hid (HU.out.trans hu)
        have HB5 := Lib.hid (HB1.out.up hu)
        have HLI : Hid ((leadI k S).length = (leadR k S).length) := Lib.hid (by simp [leadI])
        have hl9 : (leadR k S).length ≤ 9 := by
          have := List.length_filter_le (fun c => (S.getD c none).isSome) (List.range k)
          rw [List.length_range] at this
          unfold leadR; omega
        have HAW : Hid (Away A5' gx) := Lib.hid (fun b9 off9 e9 => by have := hnw b9 off9 e9; have := HB1.out.lt; omega)
        rw [HLI.out]
        clear hu h1 h2 hnw HB HB1 HU hkn hk
        go_wp2
        go_loopw [38] (fun i wr => ∃ j : Nat, j ≤ (leadR k S).length ∧ i = .int .i64 j ∧ Hid (((leadR k S).take j).all (fun c => fits (solQ k S c)) = true) ∧ Hid (RowN wr gx (solAt k S ((leadR k S).take j))) ∧ Hid (Up w4 wr) ∧ Hid (RdI wr A5' (leadI k S))) (fun i _ => (leadR k S).length - (intOf i).toNat)
        case atStart => exact ⟨0, by omega, rfl, Lib.hid rfl, HB5, HU5, Lib.hid hrd⟩
        case round =>
          obtain ⟨j, hj, rfl, HK, HB, HU, HRD⟩ := hrel
          by_cases hjl : j < (leadR k S).length
          · obtain ⟨b, off, rfl, hbb, c0⟩ := HRD.out.at_ (i := j) (by rw [HLI.out]; exact hjl)
            obtain ⟨hcn, p, hp⟩ := lead_at hjl
            have HKN : Hid (((leadR k S).take (j + 1)).all (fun c => fits (solQ k S c)) = fits (solQ k S (leadR k S)[j])) := Lib.hid (by
              rw [List.take_succ_eq_append_getElem hjl, List.all_append, HK.out]; simp)
            have HFALSE : Hid (fits (solQ k S (leadR k S)[j]) = false → (leadR k S).all (fun c => fits (solQ k S c)) = false) := Lib.hid (fun h => by
              rw [List.all_eq_false]
              exact ⟨(leadR k S)[j], List.getElem_mem hjl, by rw [h]; simp⟩)
            have HSN : Hid (solAt k S ((leadR k S).take (j + 1)) = (solAt k S ((leadR k S).take j)).set (leadR k S)[j] (solN k S (leadR k S)[j])) := Lib.hid (by
              rw [List.take_succ_eq_append_getElem hjl]; unfold solAt; rw [List.foldl_append]; rfl)
            have ec : (leadI k S)[j]'(by rw [HLI.out]; exact hjl) = (((leadR k S)[j] : Nat) : Int) := by simp [leadI]
            rw [ec] at c0
            have hq : solQ k S (leadR k S)[j] = Rat.divInt (-(p.getD k 0)) (p.getD (leadR k S)[j] 0) := by unfold solQ; rw [hp]; rfl
            have hN : solN k S (leadR k S)[j] = ((solQ k S (leadR k S)[j]).num, ((solQ k S (leadR k S)[j]).den : Int)) := rfl
            rw [hN] at HSN
            generalize (leadR k S)[j] = e at *
            have hld := HECH.out.2 e p hp
            have hpb : Bd 63963135 p := HSB.out e p hp
            have hbz : bl (p.getD e 0) ≤ 67108864 := Nat.le_trans (hpb.getD e) (by omega)
            have hby : bl (-(p.getD k 0)) ≤ 67108864 := by rw [bl_neg]; exact Nat.le_trans (hpb.getD k) (by omega)
            have HRO := Lib.hid (fun W (hu : Up wr W) => sysRow_any g k e S p W (by omega) hp (HS2.out.up (HU4.out.trans (HU.out.trans hu))))
            have HPL : Hid (p.length = k + 1 ∧ p.getD e 0 ≠ 0) := Lib.hid ⟨hld.len, hld.at_⟩
            rw [hld.len] at HRO
            obtain ⟨q, hqe⟩ : ∃ q, q = solQ k S e := ⟨_, rfl⟩
            rw [← hqe] at hq HKN HFALSE HSN
            have HQ := Lib.hid hq
            have i0 : (0 : Int) ≤ (e : Int) := by omega
            have i1 : (e : Int) < (k : Int) + 1 := by omega
            have i2 : (e : Int) < (k : Int) := by omega
            have HBZ := Lib.hid (And.intro hbz hby)
            clear hq hqe hp hN ec hld hpb hbz hby
            go_wp2_with fail
            refine Calls.mono (HRO.out _ (Up.refl _)) ?_
            rintro e6 w6 ⟨A7, q7, rfl, t1, t2, t3, hu⟩
            have HU6 := Lib.hid hu
            obtain ⟨b8, off8, s8, B8, m8', k8', rfl, hbb8, d0, d1, hz8⟩ := t3.at_ (i := e) (by rw [HPL.out.1]; omega)
            have hpl := HPL.out.1
            have ez : p[e]'(by omega) = p.getD e 0 := by rw [List.getD_eq_getElem?_getD, List.getElem?_eq_getElem (by omega)]; rfl
            rw [ez] at hz8
            clear ez
            have HAD := Lib.hid (fun W (hu : Up w6 W) => rowAdd_any (some ⟨b8, off8, none⟩) q7 k p W (by omega) HPL.out.1 (t3.up hu))
            rw [HPL.out.1] at HAD
            obtain ⟨y, hy⟩ : ∃ y, y = p.getD k 0 := ⟨_, rfl⟩
            obtain ⟨z, hz⟩ : ∃ z, z = p.getD e 0 := ⟨_, rfl⟩
            have HBZ2 := HBZ
            have HPL2 := HPL
            rw [← hy] at HAD HBZ2
            rw [← hz] at hz8 HBZ2 HPL2
            have HQQ : Hid (q = Rat.divInt (-y) z) := Lib.hid (by rw [hy, hz]; exact HQ.out)
            have HZ8 := Lib.hid hz8
            have HNG := Lib.hid (fun W u (h : IV W u y) => neg_any u y W h)
            have HNW := Lib.hid (fun W u (hu : Up w6 W) (h : IV W u (-y)) => fracNew_any u _ (-y) z W h (HZ8.out.up hu) HPL2.out.2 HBZ2.out.2 HBZ2.out.1 (ht.up ((show Up w w4 by (repeat (first | exact Below.refl _ _ | exact Hid.out (by assumption) | refine Up.trans ?_ (Up.drew _) | refine Up.trans ?_ (Up.drewN _ _) | refine Up.trans ?_ (Up.alloc _ _) | refine Up.trans ?_ (Hid.out (by assumption))))).trans (HU.out.trans (HU6.out.trans hu)))))
            rw [← HQQ.out] at HNW
            have HNM := Lib.hid (fun W u (h : FV W u q) => fracNum_any u q W h)
            have HD0 := Lib.hid d0
            have HD1 := Lib.hid d1
            clear hu t1 t2 t3 hpl hz8 hy hz c0 hbb
            rcases hf : fits q with _ | _
            · have HF := Lib.hid (HFALSE.out hf)
              rw [hf] at HNM
              simp only [if_false, Bool.false_eq_true] at HNM
              clear hf HKN HFALSE
              have nx1 : (b8 = w6.heap.size) = False := eq_false (by omega)
              have nx2 : (w6.heap.size = b8) = False := eq_false (by omega)
              go_upto_region 12 with fail
              go_cut [13, 14] (fun p13 v14 wx => ∃ g13, p13 = .pointer (some ⟨g13, 0, none⟩) ∧ v14 = .bool false ∧ CellN wx g13 0 0 ∧ Up w6 wx)
              case first =>
                go_region_held3 (fun w' => w'.cell? ⟨b8, off8 + e * 2, none⟩ = some (.int .i64 s8) ∧ w'.cell? ⟨b8, off8 + e * 2 + 1, none⟩ = some (.slice B8 m8' k8')) (go_keep)
                  ((first
                | (go_at_call 63
                   refine Calls.mono (HNM.out _ _ (HVwd.out.up (by (repeat (first | exact Below.refl _ _ | exact Hid.out (by assumption) | refine Up.trans ?_ (Up.drew _) | refine Up.trans ?_ (Up.drewN _ _) | refine Up.trans ?_ (Up.alloc _ _) | refine Up.trans ?_ (Hid.out (by assumption))))))) ?_
                   rintro e9 we ⟨rfl, hu⟩
                   try (have HZV := Lib.hid (CellN.up (CellN.new _ 0 0) hu))
                   try (have HZV := Lib.hid (CellN.up HZV.out hu))
                   try (obtain ⟨z0, z1, y0, y1, lz⟩ := HZV.out.facts)
                   have HUwe := Lib.hid hu
                   obtain ⟨d0, d1⟩ := two_cells (show Up w6 we by (repeat (first | exact Below.refl _ _ | exact Hid.out (by assumption) | refine Up.trans ?_ (Up.drew _) | refine Up.trans ?_ (Up.drewN _ _) | refine Up.trans ?_ (Up.alloc _ _) | refine Up.trans ?_ (Hid.out (by assumption))))) hbb8 HD0.out HD1.out
                   obtain ⟨nxwe, nywe⟩ := And.intro (lt_ne (Nat.lt_of_lt_of_le hbb8 (show Up w6 we by (repeat (first | exact Below.refl _ _ | exact Hid.out (by assumption) | refine Up.trans ?_ (Up.drew _) | refine Up.trans ?_ (Up.drewN _ _) | refine Up.trans ?_ (Up.alloc _ _) | refine Up.trans ?_ (Hid.out (by assumption))))).size)) (lt_ne' (Nat.lt_of_lt_of_le hbb8 (show Up w6 we by (repeat (first | exact Below.refl _ _ | exact Hid.out (by assumption) | refine Up.trans ?_ (Up.drew _) | refine Up.trans ?_ (Up.drewN _ _) | refine Up.trans ?_ (Up.alloc _ _) | refine Up.trans ?_ (Hid.out (by assumption))))).size))
                   skip
                   clear hu)
                | (go_at_call 60
                   refine Calls.mono (HNW.out _ _ (by (repeat (first | exact Below.refl _ _ | exact Hid.out (by assumption) | refine Up.trans ?_ (Up.drew _) | refine Up.trans ?_ (Up.drewN _ _) | refine Up.trans ?_ (Up.alloc _ _) | refine Up.trans ?_ (Hid.out (by assumption))))) (HVwb.out.up (by (repeat (first | exact Below.refl _ _ | exact Hid.out (by assumption) | refine Up.trans ?_ (Up.drew _) | refine Up.trans ?_ (Up.drewN _ _) | refine Up.trans ?_ (Up.alloc _ _) | refine Up.trans ?_ (Hid.out (by assumption))))))) ?_
                   rintro e9 wd ⟨vd, rfl, hv, hu⟩
                   try (have HZV := Lib.hid (CellN.up (CellN.new _ 0 0) hu))
                   try (have HZV := Lib.hid (CellN.up HZV.out hu))
                   try (obtain ⟨z0, z1, y0, y1, lz⟩ := HZV.out.facts)
                   have HUwd := Lib.hid hu
                   obtain ⟨d0, d1⟩ := two_cells (show Up w6 wd by (repeat (first | exact Below.refl _ _ | exact Hid.out (by assumption) | refine Up.trans ?_ (Up.drew _) | refine Up.trans ?_ (Up.drewN _ _) | refine Up.trans ?_ (Up.alloc _ _) | refine Up.trans ?_ (Hid.out (by assumption))))) hbb8 HD0.out HD1.out
                   obtain ⟨nxwd, nywd⟩ := And.intro (lt_ne (Nat.lt_of_lt_of_le hbb8 (show Up w6 wd by (repeat (first | exact Below.refl _ _ | exact Hid.out (by assumption) | refine Up.trans ?_ (Up.drew _) | refine Up.trans ?_ (Up.drewN _ _) | refine Up.trans ?_ (Up.alloc _ _) | refine Up.trans ?_ (Hid.out (by assumption))))).size)) (lt_ne' (Nat.lt_of_lt_of_le hbb8 (show Up w6 wd by (repeat (first | exact Below.refl _ _ | exact Hid.out (by assumption) | refine Up.trans ?_ (Up.drew _) | refine Up.trans ?_ (Up.drewN _ _) | refine Up.trans ?_ (Up.alloc _ _) | refine Up.trans ?_ (Hid.out (by assumption))))).size))
                   have HVwd := Lib.hid hv
                   obtain ⟨t1, t2, t3, t4, t5, t6, t7, t8, rfl, -⟩ := hv
                   clear hu)
                | (go_at_call 62
                   refine Calls.mono (HNG.out _ _ (HVwa.out.up (by (repeat (first | exact Below.refl _ _ | exact Hid.out (by assumption) | refine Up.trans ?_ (Up.drew _) | refine Up.trans ?_ (Up.drewN _ _) | refine Up.trans ?_ (Up.alloc _ _) | refine Up.trans ?_ (Hid.out (by assumption))))))) ?_
                   rintro e9 wb ⟨vb, rfl, hv, hu⟩
                   try (have HZV := Lib.hid (CellN.up (CellN.new _ 0 0) hu))
                   try (have HZV := Lib.hid (CellN.up HZV.out hu))
                   try (obtain ⟨z0, z1, y0, y1, lz⟩ := HZV.out.facts)
                   have HUwb := Lib.hid hu
                   obtain ⟨d0, d1⟩ := two_cells (show Up w6 wb by (repeat (first | exact Below.refl _ _ | exact Hid.out (by assumption) | refine Up.trans ?_ (Up.drew _) | refine Up.trans ?_ (Up.drewN _ _) | refine Up.trans ?_ (Up.alloc _ _) | refine Up.trans ?_ (Hid.out (by assumption))))) hbb8 HD0.out HD1.out
                   obtain ⟨nxwb, nywb⟩ := And.intro (lt_ne (Nat.lt_of_lt_of_le hbb8 (show Up w6 wb by (repeat (first | exact Below.refl _ _ | exact Hid.out (by assumption) | refine Up.trans ?_ (Up.drew _) | refine Up.trans ?_ (Up.drewN _ _) | refine Up.trans ?_ (Up.alloc _ _) | refine Up.trans ?_ (Hid.out (by assumption))))).size)) (lt_ne' (Nat.lt_of_lt_of_le hbb8 (show Up w6 wb by (repeat (first | exact Below.refl _ _ | exact Hid.out (by assumption) | refine Up.trans ?_ (Up.drew _) | refine Up.trans ?_ (Up.drewN _ _) | refine Up.trans ?_ (Up.alloc _ _) | refine Up.trans ?_ (Hid.out (by assumption))))).size))
                   obtain ⟨swb, Awb, nwb, cwb, rfl, -, -, -, -, -⟩ := hv.open_
                   have HVwb := Lib.hid hv
                   clear hv
                   clear hu)
                | (go_at_call 61
                   refine Calls.mono (HAD.out _ (by (repeat (first | exact Below.refl _ _ | exact Hid.out (by assumption) | refine Up.trans ?_ (Up.drew _) | refine Up.trans ?_ (Up.drewN _ _) | refine Up.trans ?_ (Up.alloc _ _) | refine Up.trans ?_ (Hid.out (by assumption)))))) ?_
                   rintro e9 wa ⟨va, rfl, hv, hu⟩
                   try (have HZV : Go.RowKit.Hid (CellN wa w6.heap.size 0 0) := CellN.up (CellN.new w6.drew 0 0) hu)
                   try (have HZV := Lib.hid (CellN.up HZV.out hu))
                   try (obtain ⟨z0, z1, y0, y1, lz⟩ := HZV.out.facts)
                   have HUwa := Lib.hid hu
                   obtain ⟨d0, d1⟩ := two_cells (show Up w6 wa by (repeat (first | exact Below.refl _ _ | exact Hid.out (by assumption) | refine Up.trans ?_ (Up.drew _) | refine Up.trans ?_ (Up.drewN _ _) | refine Up.trans ?_ (Up.alloc _ _) | refine Up.trans ?_ (Hid.out (by assumption))))) hbb8 HD0.out HD1.out
                   obtain ⟨nxwa, nywa⟩ := And.intro (lt_ne (Nat.lt_of_lt_of_le hbb8 (show Up w6 wa by (repeat (first | exact Below.refl _ _ | exact Hid.out (by assumption) | refine Up.trans ?_ (Up.drew _) | refine Up.trans ?_ (Up.drewN _ _) | refine Up.trans ?_ (Up.alloc _ _) | refine Up.trans ?_ (Hid.out (by assumption))))).size)) (lt_ne' (Nat.lt_of_lt_of_le hbb8 (show Up w6 wa by (repeat (first | exact Below.refl _ _ | exact Hid.out (by assumption) | refine Up.trans ?_ (Up.drew _) | refine Up.trans ?_ (Up.drewN _ _) | refine Up.trans ?_ (Up.alloc _ _) | refine Up.trans ?_ (Hid.out (by assumption))))).size))
                   obtain ⟨swa, Awa, nwa, cwa, rfl, -, -, -, -, -⟩ := hv.open_
                   have HVwa := Lib.hid hv
                   clear hv
                   clear hu)))
                all_goals (go_wp2_with fail; go_meet)
                all_goals first
                  | exact ⟨_, rfl, rfl, CellN.new _ _ _, by (repeat (first | exact Below.refl _ _ | exact Hid.out (by assumption) | refine Up.trans ?_ (Up.drew _) | refine Up.trans ?_ (Up.drewN _ _) | refine Up.trans ?_ (Up.alloc _ _) | refine Up.trans ?_ (Hid.out (by assumption))))⟩
                  | exact ⟨_, rfl, rfl, HZV.out.set _ _, Up.stored (show Up w6 we by (repeat (first | exact Below.refl _ _ | exact Hid.out (by assumption) | refine Up.trans ?_ (Up.drew _) | refine Up.trans ?_ (Up.drewN _ _) | refine Up.trans ?_ (Up.alloc _ _) | refine Up.trans ?_ (Hid.out (by assumption))))) (by first | exact Nat.le_refl _ | exact (show Up w6 wa by (repeat (first | exact Below.refl _ _ | exact Hid.out (by assumption) | refine Up.trans ?_ (Up.drew _) | refine Up.trans ?_ (Up.drewN _ _) | refine Up.trans ?_ (Up.alloc _ _) | refine Up.trans ?_ (Hid.out (by assumption))))).size | exact (show Up w6 wb by (repeat (first | exact Below.refl _ _ | exact Hid.out (by assumption) | refine Up.trans ?_ (Up.drew _) | refine Up.trans ?_ (Up.drewN _ _) | refine Up.trans ?_ (Up.alloc _ _) | refine Up.trans ?_ (Hid.out (by assumption))))).size | exact (show Up w6 wd by (repeat (first | exact Below.refl _ _ | exact Hid.out (by assumption) | refine Up.trans ?_ (Up.drew _) | refine Up.trans ?_ (Up.drewN _ _) | refine Up.trans ?_ (Up.alloc _ _) | refine Up.trans ?_ (Hid.out (by assumption))))).size) _ _⟩
              case rest =>
                obtain ⟨g13, rfl, rfl, hcn13, hu13⟩ := hcut
                have HC13 := Lib.hid hcn13
                have HU13 := Lib.hid hu13
                clear hcn13 hu13 nx1 nx2 d0 d1
                obtain ⟨n0, n1, -, -, ln⟩ := HC13.out.facts
                go_wp2
                refine bodyPost_ret (by simp [results, Tryz.results15, go_sem]; try rfl) rfl ?_
                exact ⟨⟨_, _, _, rfl, by rw [if_neg (by rw [HSOL.out]; simp), if_neg (by rw [HF.out]; simp)]; exact ⟨rfl, rfl, rfl⟩⟩, by (repeat (first | exact Below.refl _ _ | exact Hid.out (by assumption) | refine Up.trans ?_ (Up.drew _) | refine Up.trans ?_ (Up.drewN _ _) | refine Up.trans ?_ (Up.alloc _ _) | refine Up.trans ?_ (Hid.out (by assumption))))⟩
            · rw [hf] at HNM HKN
              simp only [if_true] at HNM
              clear hf HFALSE
              have nx1 : (b8 = w6.heap.size) = False := eq_false (by omega)
              have nx2 : (w6.heap.size = b8) = False := eq_false (by omega)
              go_upto_region 12 with fail
              go_cut [13, 14] (fun p13 v14 wx => ∃ g13, p13 = .pointer (some ⟨g13, 0, none⟩) ∧ v14 = .bool true ∧ CellN wx g13 q.num q.den ∧ Up w6 wx)
              case first =>
                go_region_held3 (fun w' => w'.cell? ⟨b8, off8 + e * 2, none⟩ = some (.int .i64 s8) ∧ w'.cell? ⟨b8, off8 + e * 2 + 1, none⟩ = some (.slice B8 m8' k8')) (go_keep)
                  ((first
                | (go_at_call 63
                   refine Calls.mono (HNM.out _ _ (HVwd.out.up (by (repeat (first | exact Below.refl _ _ | exact Hid.out (by assumption) | refine Up.trans ?_ (Up.drew _) | refine Up.trans ?_ (Up.drewN _ _) | refine Up.trans ?_ (Up.alloc _ _) | refine Up.trans ?_ (Hid.out (by assumption))))))) ?_
                   rintro e9 we ⟨rfl, hu⟩
                   try (have HZV := Lib.hid (CellN.up (CellN.new _ 0 0) hu))
                   try (have HZV := Lib.hid (CellN.up HZV.out hu))
                   try (obtain ⟨z0, z1, y0, y1, lz⟩ := HZV.out.facts)
                   have HUwe := Lib.hid hu
                   obtain ⟨d0, d1⟩ := two_cells (show Up w6 we by (repeat (first | exact Below.refl _ _ | exact Hid.out (by assumption) | refine Up.trans ?_ (Up.drew _) | refine Up.trans ?_ (Up.drewN _ _) | refine Up.trans ?_ (Up.alloc _ _) | refine Up.trans ?_ (Hid.out (by assumption))))) hbb8 HD0.out HD1.out
                   obtain ⟨nxwe, nywe⟩ := And.intro (lt_ne (Nat.lt_of_lt_of_le hbb8 (show Up w6 we by (repeat (first | exact Below.refl _ _ | exact Hid.out (by assumption) | refine Up.trans ?_ (Up.drew _) | refine Up.trans ?_ (Up.drewN _ _) | refine Up.trans ?_ (Up.alloc _ _) | refine Up.trans ?_ (Hid.out (by assumption))))).size)) (lt_ne' (Nat.lt_of_lt_of_le hbb8 (show Up w6 we by (repeat (first | exact Below.refl _ _ | exact Hid.out (by assumption) | refine Up.trans ?_ (Up.drew _) | refine Up.trans ?_ (Up.drewN _ _) | refine Up.trans ?_ (Up.alloc _ _) | refine Up.trans ?_ (Hid.out (by assumption))))).size))
                   skip
                   clear hu)
                | (go_at_call 60
                   refine Calls.mono (HNW.out _ _ (by (repeat (first | exact Below.refl _ _ | exact Hid.out (by assumption) | refine Up.trans ?_ (Up.drew _) | refine Up.trans ?_ (Up.drewN _ _) | refine Up.trans ?_ (Up.alloc _ _) | refine Up.trans ?_ (Hid.out (by assumption))))) (HVwb.out.up (by (repeat (first | exact Below.refl _ _ | exact Hid.out (by assumption) | refine Up.trans ?_ (Up.drew _) | refine Up.trans ?_ (Up.drewN _ _) | refine Up.trans ?_ (Up.alloc _ _) | refine Up.trans ?_ (Hid.out (by assumption))))))) ?_
                   rintro e9 wd ⟨vd, rfl, hv, hu⟩
                   try (have HZV := Lib.hid (CellN.up (CellN.new _ 0 0) hu))
                   try (have HZV := Lib.hid (CellN.up HZV.out hu))
                   try (obtain ⟨z0, z1, y0, y1, lz⟩ := HZV.out.facts)
                   have HUwd := Lib.hid hu
                   obtain ⟨d0, d1⟩ := two_cells (show Up w6 wd by (repeat (first | exact Below.refl _ _ | exact Hid.out (by assumption) | refine Up.trans ?_ (Up.drew _) | refine Up.trans ?_ (Up.drewN _ _) | refine Up.trans ?_ (Up.alloc _ _) | refine Up.trans ?_ (Hid.out (by assumption))))) hbb8 HD0.out HD1.out
                   obtain ⟨nxwd, nywd⟩ := And.intro (lt_ne (Nat.lt_of_lt_of_le hbb8 (show Up w6 wd by (repeat (first | exact Below.refl _ _ | exact Hid.out (by assumption) | refine Up.trans ?_ (Up.drew _) | refine Up.trans ?_ (Up.drewN _ _) | refine Up.trans ?_ (Up.alloc _ _) | refine Up.trans ?_ (Hid.out (by assumption))))).size)) (lt_ne' (Nat.lt_of_lt_of_le hbb8 (show Up w6 wd by (repeat (first | exact Below.refl _ _ | exact Hid.out (by assumption) | refine Up.trans ?_ (Up.drew _) | refine Up.trans ?_ (Up.drewN _ _) | refine Up.trans ?_ (Up.alloc _ _) | refine Up.trans ?_ (Hid.out (by assumption))))).size))
                   have HVwd := Lib.hid hv
                   obtain ⟨t1, t2, t3, t4, t5, t6, t7, t8, rfl, -⟩ := hv
                   clear hu)
                | (go_at_call 62
                   refine Calls.mono (HNG.out _ _ (HVwa.out.up (by (repeat (first | exact Below.refl _ _ | exact Hid.out (by assumption) | refine Up.trans ?_ (Up.drew _) | refine Up.trans ?_ (Up.drewN _ _) | refine Up.trans ?_ (Up.alloc _ _) | refine Up.trans ?_ (Hid.out (by assumption))))))) ?_
                   rintro e9 wb ⟨vb, rfl, hv, hu⟩
                   try (have HZV := Lib.hid (CellN.up (CellN.new _ 0 0) hu))
                   try (have HZV := Lib.hid (CellN.up HZV.out hu))
                   try (obtain ⟨z0, z1, y0, y1, lz⟩ := HZV.out.facts)
                   have HUwb := Lib.hid hu
                   obtain ⟨d0, d1⟩ := two_cells (show Up w6 wb by (repeat (first | exact Below.refl _ _ | exact Hid.out (by assumption) | refine Up.trans ?_ (Up.drew _) | refine Up.trans ?_ (Up.drewN _ _) | refine Up.trans ?_ (Up.alloc _ _) | refine Up.trans ?_ (Hid.out (by assumption))))) hbb8 HD0.out HD1.out
                   obtain ⟨nxwb, nywb⟩ := And.intro (lt_ne (Nat.lt_of_lt_of_le hbb8 (show Up w6 wb by (repeat (first | exact Below.refl _ _ | exact Hid.out (by assumption) | refine Up.trans ?_ (Up.drew _) | refine Up.trans ?_ (Up.drewN _ _) | refine Up.trans ?_ (Up.alloc _ _) | refine Up.trans ?_ (Hid.out (by assumption))))).size)) (lt_ne' (Nat.lt_of_lt_of_le hbb8 (show Up w6 wb by (repeat (first | exact Below.refl _ _ | exact Hid.out (by assumption) | refine Up.trans ?_ (Up.drew _) | refine Up.trans ?_ (Up.drewN _ _) | refine Up.trans ?_ (Up.alloc _ _) | refine Up.trans ?_ (Hid.out (by assumption))))).size))
                   obtain ⟨swb, Awb, nwb, cwb, rfl, -, -, -, -, -⟩ := hv.open_
                   have HVwb := Lib.hid hv
                   clear hv
                   clear hu)
                | (go_at_call 61
                   refine Calls.mono (HAD.out _ (by (repeat (first | exact Below.refl _ _ | exact Hid.out (by assumption) | refine Up.trans ?_ (Up.drew _) | refine Up.trans ?_ (Up.drewN _ _) | refine Up.trans ?_ (Up.alloc _ _) | refine Up.trans ?_ (Hid.out (by assumption)))))) ?_
                   rintro e9 wa ⟨va, rfl, hv, hu⟩
                   try (have HZV : Go.RowKit.Hid (CellN wa w6.heap.size 0 0) := CellN.up (CellN.new w6.drew 0 0) hu)
                   try (have HZV := Lib.hid (CellN.up HZV.out hu))
                   try (obtain ⟨z0, z1, y0, y1, lz⟩ := HZV.out.facts)
                   have HUwa := Lib.hid hu
                   obtain ⟨d0, d1⟩ := two_cells (show Up w6 wa by (repeat (first | exact Below.refl _ _ | exact Hid.out (by assumption) | refine Up.trans ?_ (Up.drew _) | refine Up.trans ?_ (Up.drewN _ _) | refine Up.trans ?_ (Up.alloc _ _) | refine Up.trans ?_ (Hid.out (by assumption))))) hbb8 HD0.out HD1.out
                   obtain ⟨nxwa, nywa⟩ := And.intro (lt_ne (Nat.lt_of_lt_of_le hbb8 (show Up w6 wa by (repeat (first | exact Below.refl _ _ | exact Hid.out (by assumption) | refine Up.trans ?_ (Up.drew _) | refine Up.trans ?_ (Up.drewN _ _) | refine Up.trans ?_ (Up.alloc _ _) | refine Up.trans ?_ (Hid.out (by assumption))))).size)) (lt_ne' (Nat.lt_of_lt_of_le hbb8 (show Up w6 wa by (repeat (first | exact Below.refl _ _ | exact Hid.out (by assumption) | refine Up.trans ?_ (Up.drew _) | refine Up.trans ?_ (Up.drewN _ _) | refine Up.trans ?_ (Up.alloc _ _) | refine Up.trans ?_ (Hid.out (by assumption))))).size))
                   obtain ⟨swa, Awa, nwa, cwa, rfl, -, -, -, -, -⟩ := hv.open_
                   have HVwa := Lib.hid hv
                   clear hv
                   clear hu)))
                all_goals (go_wp2_with fail; go_meet)
                all_goals first
                  | exact ⟨_, rfl, rfl, CellN.new _ _ _, by (repeat (first | exact Below.refl _ _ | exact Hid.out (by assumption) | refine Up.trans ?_ (Up.drew _) | refine Up.trans ?_ (Up.drewN _ _) | refine Up.trans ?_ (Up.alloc _ _) | refine Up.trans ?_ (Hid.out (by assumption))))⟩
                  | exact ⟨_, rfl, rfl, HZV.out.set _ _, Up.stored (show Up w6 we by (repeat (first | exact Below.refl _ _ | exact Hid.out (by assumption) | refine Up.trans ?_ (Up.drew _) | refine Up.trans ?_ (Up.drewN _ _) | refine Up.trans ?_ (Up.alloc _ _) | refine Up.trans ?_ (Hid.out (by assumption))))) (by first | exact Nat.le_refl _ | exact (show Up w6 wa by (repeat (first | exact Below.refl _ _ | exact Hid.out (by assumption) | refine Up.trans ?_ (Up.drew _) | refine Up.trans ?_ (Up.drewN _ _) | refine Up.trans ?_ (Up.alloc _ _) | refine Up.trans ?_ (Hid.out (by assumption))))).size | exact (show Up w6 wb by (repeat (first | exact Below.refl _ _ | exact Hid.out (by assumption) | refine Up.trans ?_ (Up.drew _) | refine Up.trans ?_ (Up.drewN _ _) | refine Up.trans ?_ (Up.alloc _ _) | refine Up.trans ?_ (Hid.out (by assumption))))).size | exact (show Up w6 wd by (repeat (first | exact Below.refl _ _ | exact Hid.out (by assumption) | refine Up.trans ?_ (Up.drew _) | refine Up.trans ?_ (Up.drewN _ _) | refine Up.trans ?_ (Up.alloc _ _) | refine Up.trans ?_ (Hid.out (by assumption))))).size) _ _⟩
              case rest =>
                obtain ⟨g13, rfl, rfl, hcn13, hu13⟩ := hcut
                have HC13 := Lib.hid hcn13
                have HU13 := Lib.hid hu13
                clear hcn13 hu13 nx1 nx2 d0 d1
                obtain ⟨n0, n1, -, -, ln⟩ := HC13.out.facts
                have HB6 := Lib.hid (HB.out.up (w' := wc) (by (repeat (first | exact Below.refl _ _ | exact Hid.out (by assumption) | refine Up.trans ?_ (Up.drew _) | refine Up.trans ?_ (Up.drewN _ _) | refine Up.trans ?_ (Up.alloc _ _) | refine Up.trans ?_ (Hid.out (by assumption))))))
                have hel : e < (solAt k S ((leadR k S).take j)).length := by rw [solAt_length]; exact hcn
                obtain ⟨o0, o1⟩ := HB6.out.cells hel
                have f3 := HB6.out.frozen (e * 2)
                have f4 := HB6.out.frozen (e * 2 + 1)
                have lgx := HB6.out.lt
                have HNX := Lib.hid (HB6.out.store hel q.num q.den)
                rw [← HSN.out] at HNX
                have HUS := Lib.hid (((show Up w4 wc by (repeat (first | exact Below.refl _ _ | exact Hid.out (by assumption) | refine Up.trans ?_ (Up.drew _) | refine Up.trans ?_ (Up.drewN _ _) | refine Up.trans ?_ (Up.alloc _ _) | refine Up.trans ?_ (Hid.out (by assumption))))).setCell (p := ⟨gx, e * 2, none⟩) HGX.out (.int .i64 q.num)).setCell (p := ⟨gx, e * 2 + 1, none⟩) HGX.out (.int .i64 q.den))
                have HRD2 := Lib.hid (((HRD.out.up (show Up wr wc by (repeat (first | exact Below.refl _ _ | exact Hid.out (by assumption) | refine Up.trans ?_ (Up.drew _) | refine Up.trans ?_ (Up.drewN _ _) | refine Up.trans ?_ (Up.alloc _ _) | refine Up.trans ?_ (Hid.out (by assumption)))))).put HAW.out (e * 2) (.int .i64 q.num)).put HAW.out (e * 2 + 1) (.int .i64 q.den))
                go_wp2_with fail
                exact ⟨⟨j + 1, by omega, by simp, HKN, HNX, HUS, HRD2⟩, by simp [intOf]; omega⟩
          · have hje : j = (leadR k S).length := by omega
            subst hje
            rw [List.take_length] at HK HB
            go_wp2
            refine bodyPost_ret (by simp [results, Tryz.results15, go_sem]; try rfl) rfl ?_
            exact ⟨⟨_, _, _, rfl, by rw [if_neg (by rw [HSOL.out]; simp), if_pos HK.out]; exact ⟨⟨gx, rfl, HB.out, Nat.le_trans (show Up w w4 by (repeat (first | exact Below.refl _ _ | exact Hid.out (by assumption) | refine Up.trans ?_ (Up.drew _) | refine Up.trans ?_ (Up.drewN _ _) | refine Up.trans ?_ (Up.alloc _ _) | refine Up.trans ?_ (Hid.out (by assumption))))).size HGX.out⟩, rfl, rfl⟩⟩, by (repeat (first | exact Below.refl _ _ | exact Hid.out (by assumption) | refine Up.trans ?_ (Up.drew _) | refine Up.trans ?_ (Up.drewN _ _) | refine Up.trans ?_ (Up.alloc _ _) | refine Up.trans ?_ (Hid.out (by assumption))))⟩
end Go.Proofs.YtacbjbnocepnaaaGreatDoor
namespace Go.Proofs.YtacbjbnocepnaaaGreatDoor
open Go.RowKit Fm
set_option maxHeartbeats 1000000 in
set_option maxRecDepth 10000 in
theorem intsList_any (A B : Option Addr) (c d : Nat) (xs ys : List Int) (w : World) (hx : xs.length ≤ 9223372036854775807) (hy : ys.length ≤ 9223372036854775807) (hr : RdI w A xs) (hs : RdI w B ys) :
    Calls Tryz.prog 51 #[.slice A xs.length c, .slice B ys.length d] w fun e w' => e = .returned (.bool (decide (xs = ys))) ∧ Up w w' := by
  by_cases hl : xs.length = ys.length
  · rw [← hl]
    have HL := Lib.hid hl
    clear hl hy
    go_enter Tryz.func51, Tryz.ntmps51
    go_wp2
    go_loopw [13] (fun i wr => ∃ k : Nat, k ≤ xs.length ∧ i = .int .i64 k ∧ Hid (xs.take k = ys.take k) ∧ Hid (Up w wr)) (fun i _ => xs.length - (intOf i).toNat)
    case atStart => exact ⟨0, by omega, rfl, Lib.hid rfl, Lib.hid (Up.refl _)⟩
    case round =>
      obtain ⟨k, hk, rfl, HK, HU⟩ := hrel
      by_cases hkl : k < xs.length
      · have hkl2 : k < ys.length := by have := HL.out; omega
        obtain ⟨b, off, rfl, hbb, c0⟩ := (hr.up HU.out).at_ hkl
        obtain ⟨b2, off2, rfl, hbb2, d0⟩ := (hs.up HU.out).at_ hkl2
        have i0 : (0 : Int) ≤ (k : Int) := by omega
        have i1 : (k : Int) < (xs.length : Int) := by omega
        by_cases he : xs[k] = ys[k]
        · have HN : Hid (xs.take (k + 1) = ys.take (k + 1)) := Lib.hid (by
            rw [List.take_succ_eq_append_getElem hkl, List.take_succ_eq_append_getElem hkl2, HK.out, he])
          rw [← he] at d0
          generalize xs[k] = x at *
          clear he hkl2
          go_upto_region 6 with fail
          go_region
          all_goals
            go_wp2_with fail
            exact ⟨⟨k + 1, by omega, by simp, HN, Lib.hid (by (repeat (first | exact Below.refl _ _ | exact Hid.out (by assumption) | refine Up.trans ?_ (Up.drew _) | refine Up.trans ?_ (Up.drewN _ _) | refine Up.trans ?_ (Up.alloc _ _) | refine Up.trans ?_ (Hid.out (by assumption)))))⟩, by simp [intOf]; omega⟩
        · have HN : Hid (decide (xs = ys) = false) := Lib.hid (by
            simp only [decide_eq_false_iff_not]
            intro e; subst e; exact he rfl)
          have hne : (xs[k] != ys[k]) = true := by simpa using he
          generalize xs[k] = x at *
          generalize ys[k] = y at *
          clear he hkl2
          go_upto_region 6 with fail
          go_region
          all_goals
            go_wp2
            go_ret
            exact ⟨by rw [HN.out]; rfl, by (repeat (first | exact Below.refl _ _ | exact Hid.out (by assumption) | refine Up.trans ?_ (Up.drew _) | refine Up.trans ?_ (Up.drewN _ _) | refine Up.trans ?_ (Up.alloc _ _) | refine Up.trans ?_ (Hid.out (by assumption))))⟩
      · have HN : Hid (decide (xs = ys) = true) := Lib.hid (by
          have h1 := HK.out
          have h2 := HL.out
          rw [List.take_of_length_le (by omega), List.take_of_length_le (by omega)] at h1
          simp [h1])
        go_wp2
        go_ret
        exact ⟨by rw [HN.out]; rfl, HU.out⟩
  · have HN : Hid (decide (xs = ys) = false) := Lib.hid (by
      simp only [decide_eq_false_iff_not]
      intro e; subst e; exact hl rfl)
    have hne : ((xs.length : Int) != (ys.length : Int)) = true := by simp; omega
    rw [HN.out]
    clear hl
    go_enter Tryz.func51, Tryz.ntmps51
    go_wp2
    go_ret
    exact ⟨rfl, Up.refl _⟩
end Go.Proofs.YtacbjbnocepnaaaGreatDoor
namespace Go.Proofs.YtacbjbnocepnaaaGreatDoor
open Go.RowKit Fm
set_option maxHeartbeats 1000000 in
set_option maxRecDepth 10000 in
theorem sameForm_any (A B : Option Addr) (c d : Nat) (f g : List Int × Int) (w : World) (hx : f.1.length ≤ 9223372036854775807) (hy : g.1.length ≤ 9223372036854775807) (hr : RdI w A f.1) (hs : RdI w B g.1) :
    Calls Tryz.prog 12 #[.agg #[.slice A f.1.length c, .int .i64 f.2], .agg #[.slice B g.1.length d, .int .i64 g.2]] w fun e w' => e = .returned (.bool (decide (f = g))) ∧ Up w w' := by
  have HL := Lib.hid (fun W (hu : Up w W) => intsList_any A B c d f.1 g.1 W hx hy (hr.up hu) (hs.up hu))
  have HC := Lib.hid ((CellF.new w A f.1.length c f.2).up (Up.alloc _ (.cells #[.slice B g.1.length d, .int .i64 g.2] 28)))
  have HC2 := Lib.hid (CellF.new (w.alloc (.cells #[.slice A f.1.length c, .int .i64 f.2] 28)) B g.1.length d g.2)
  have HU := Lib.hid ((Up.alloc w (.cells #[.slice A f.1.length c, .int .i64 f.2] 28)).trans (Up.alloc _ (.cells #[.slice B g.1.length d, .int .i64 g.2] 28)))
  rw [size_alloc] at HC2
  clear hr hs
  by_cases he : f.2 = g.2
  · have HE : Hid (decide (f = g) = decide (f.1 = g.1)) := Lib.hid (by
      congr 1
      exact propext ⟨fun h => by rw [h], fun h => Prod.ext h he⟩)
    rw [← he] at HC2 HC HU ⊢
    clear he
    go_enter Tryz.func12, Tryz.ntmps12
    go_wp2_with fail
    refine Calls.mono (HL.out _ HU.out) ?_
    rintro e w1 ⟨rfl, hu⟩
    have HU1 := Lib.hid hu
    clear hu
    go_wp2
    go_ret
    exact ⟨by rw [HE.out]; rfl, by (repeat (first | exact Below.refl _ _ | exact Hid.out (by assumption) | refine Up.trans ?_ (Up.drew _) | refine Up.trans ?_ (Up.drewN _ _) | refine Up.trans ?_ (Up.alloc _ _) | refine Up.trans ?_ (Hid.out (by assumption))))⟩
  · have HE : Hid (decide (f = g) = false) := Lib.hid (by
      simp only [decide_eq_false_iff_not]
      intro h; rw [h] at he; exact he rfl)
    have hne : (f.2 == g.2) = false := by simpa using he
    clear he
    go_enter Tryz.func12, Tryz.ntmps12
    go_wp2
    go_ret
    exact ⟨by rw [HE.out]; rfl, by (repeat (first | exact Below.refl _ _ | exact Hid.out (by assumption) | refine Up.trans ?_ (Up.drew _) | refine Up.trans ?_ (Up.drewN _ _) | refine Up.trans ?_ (Up.alloc _ _) | refine Up.trans ?_ (Hid.out (by assumption))))⟩
set_option maxHeartbeats 1000000 in
set_option maxRecDepth 10000 in
theorem sameForms_any (A B : Option Addr) (c d : Nat) (fs gs : List (List Int × Int)) (w : World) (hx : fs.length ≤ 9223372036854775807) (hy : gs.length ≤ 9223372036854775807) (hr : RdE eltForm w A fs) (hs : RdE eltForm w B gs) :
    Calls Tryz.prog 19 #[.slice A fs.length c, .slice B gs.length d] w fun e w' => e = .returned (.bool (decide (fs = gs))) ∧ Up w w' := by
  by_cases hl : fs.length = gs.length
  · rw [← hl]
    have HL := Lib.hid hl
    clear hl hy
    go_enter Tryz.func19, Tryz.ntmps19
    go_wp2
    go_loopw [13] (fun i wr => ∃ k : Nat, k ≤ fs.length ∧ i = .int .i64 k ∧ Hid (fs.take k = gs.take k) ∧ Hid (Up w wr)) (fun i _ => fs.length - (intOf i).toNat)
    case atStart => exact ⟨0, by omega, rfl, Lib.hid rfl, Lib.hid (Up.refl _)⟩
    case round =>
      obtain ⟨k, hk, rfl, HK, HU⟩ := hrel
      by_cases hkl : k < fs.length
      · have hkl2 : k < gs.length := by have := HL.out; omega
        obtain ⟨b, off, A1, c1, rfl, hbb, c0, c1', h3, h4, h5⟩ := (hr.up HU.out).f hkl
        obtain ⟨b2, off2, B1, d1, rfl, hbb2, d0, d1', h6, h7, h8⟩ := (hs.up HU.out).f hkl2
        have i0 : (0 : Int) ≤ (k : Int) := by omega
        have i1 : (k : Int) < (fs.length : Int) := by omega
        have HSF := Lib.hid (fun W (hu : Up wr W) => sameForm_any A1 B1 c1 d1 fs[k] gs[k] W (Nat.le_trans h3 h4) (Nat.le_trans h6 h7) (h5.up hu) (h8.up hu))
        have HNEXT : Hid (fs[k] = gs[k] → fs.take (k + 1) = gs.take (k + 1)) := Lib.hid (fun he => by
            rw [List.take_succ_eq_append_getElem hkl, List.take_succ_eq_append_getElem hkl2, HK.out, he])
        have HFALSE : Hid (fs[k] ≠ gs[k] → decide (fs = gs) = false) := Lib.hid (fun he => by
            simp only [decide_eq_false_iff_not]
            intro e; subst e; exact he rfl)
        have HC0 := Lib.hid (And.intro c0 c1')
        have HD0 := Lib.hid (And.intro d0 d1')
        generalize fs[k] = f at *
        generalize gs[k] = g at *
        clear h3 h4 h5 h6 h7 h8 hkl2
        by_cases hfg : f = g
        · have HT := Lib.hid (HNEXT.out hfg)
          rw [decide_eq_true hfg] at HSF
          clear hfg HNEXT HFALSE
          go_upto_region 6 with fail
          go_region_with
            ((go_at_call 12
              refine Calls.mono (HSF.out _ (by (repeat (first | exact Below.refl _ _ | exact Hid.out (by assumption) | refine Up.trans ?_ (Up.drew _) | refine Up.trans ?_ (Up.drewN _ _) | refine Up.trans ?_ (Up.alloc _ _) | refine Up.trans ?_ (Hid.out (by assumption)))))) ?_
              rintro e w5 ⟨rfl, hu⟩
              have HU5 := Lib.hid hu
              clear hu))
          all_goals
            go_wp2_with fail
            exact ⟨⟨k + 1, by omega, by simp, HT, Lib.hid (by (repeat (first | exact Below.refl _ _ | exact Hid.out (by assumption) | refine Up.trans ?_ (Up.drew _) | refine Up.trans ?_ (Up.drewN _ _) | refine Up.trans ?_ (Up.alloc _ _) | refine Up.trans ?_ (Hid.out (by assumption)))))⟩, by simp [intOf]; omega⟩
        · have HF := Lib.hid (HFALSE.out hfg)
          rw [decide_eq_false hfg] at HSF
          clear hfg HNEXT HFALSE
          go_upto_region 6 with fail
          go_region_with
            ((go_at_call 12
              refine Calls.mono (HSF.out _ (by (repeat (first | exact Below.refl _ _ | exact Hid.out (by assumption) | refine Up.trans ?_ (Up.drew _) | refine Up.trans ?_ (Up.drewN _ _) | refine Up.trans ?_ (Up.alloc _ _) | refine Up.trans ?_ (Hid.out (by assumption)))))) ?_
              rintro e w5 ⟨rfl, hu⟩
              have HU5 := Lib.hid hu
              clear hu))
          all_goals
            go_wp2
            go_ret
            exact ⟨by rw [HF.out]; rfl, by (repeat (first | exact Below.refl _ _ | exact Hid.out (by assumption) | refine Up.trans ?_ (Up.drew _) | refine Up.trans ?_ (Up.drewN _ _) | refine Up.trans ?_ (Up.alloc _ _) | refine Up.trans ?_ (Hid.out (by assumption))))⟩
      · have HN : Hid (decide (fs = gs) = true) := Lib.hid (by
          have h1 := HK.out
          have h2 := HL.out
          rw [List.take_of_length_le (by omega), List.take_of_length_le (by omega)] at h1
          simp [h1])
        go_wp2
        go_ret
        exact ⟨by rw [HN.out]; rfl, HU.out⟩
  · have HN : Hid (decide (fs = gs) = false) := Lib.hid (by
      simp only [decide_eq_false_iff_not]
      intro e; subst e; exact hl rfl)
    have hne : ((fs.length : Int) != (gs.length : Int)) = true := by simp; omega
    clear hl
    go_enter Tryz.func19, Tryz.ntmps19
    go_wp2
    go_ret
    exact ⟨by rw [HN.out]; rfl, Up.refl _⟩
end Go.Proofs.YtacbjbnocepnaaaGreatDoor
namespace Go.Proofs.YtacbjbnocepnaaaGreatDoor
open Go.RowKit Fm
theorem RowI.new (w : World) (xs : List Int) (g : Nat) (hg : g = w.heap.size) : RowI (w.alloc (.cells (iCells xs) 3)) g xs := by subst hg; exact heap_alloc_new w _
theorem lit_rd {w : World} {g : Nat} {fs : List (List Int × Int)} {cs : List Value} (hh : w.heap[g]? = some (.cells cs.toArray 28 (0, 0)))
    (hc : ∀ i (hi : i < fs.length), ∃ b, cs[i * 2]? = some (.slice (some ⟨b, 0, none⟩) fs[i].1.length fs[i].1.length) ∧ cs[i * 2 + 1]? = some (.int .i64 fs[i].2) ∧ RowI w b fs[i].1 ∧ fs[i].1.length ≤ 100) : RdE eltForm w (some ⟨g, 0, none⟩) fs := fun _ => by
  refine ⟨g, 0, rfl, ?_, fun i hi => ?_⟩
  · rcases Nat.lt_or_ge g w.heap.size with h1 | h1
    · exact h1
    · rw [Array.getElem?_eq_none h1] at hh; cases hh
  · obtain ⟨b, e1, e2, e3, e4⟩ := hc i hi
    refine ⟨[.slice (some ⟨b, 0, none⟩) fs[i].1.length fs[i].1.length, .int .i64 fs[i].2], ⟨_, _, rfl, Nat.le_refl _, by unfold maxLen; omega, by have := e3.rd fs[i].1.length; rwa [List.take_length] at this, fun g hg => by cases hg⟩, fun j u hj => ?_⟩
    rw [cell_of_row w g _ _ _ _ hh, show eltForm.size = 2 from rfl, Nat.zero_add]
    match j, hj with
    | 0, hj => simp at hj; subst hj; simpa using e1
    | 1, hj => simp at hj; subst hj; simpa using e2
theorem lit_two (w : World) (a b x c d y : Int) : RdE eltForm (((w.alloc (.cells #[.int .i64 a, .int .i64 b] 3)).alloc (.cells #[.int .i64 c, .int .i64 d] 3)).alloc (.cells #[.slice (some ⟨w.heap.size, 0, none⟩) 2 2, .int .i64 x, .slice (some ⟨w.heap.size + 1, 0, none⟩) 2 2, .int .i64 y] 28)) (some ⟨w.heap.size + 1 + 1, 0, none⟩) [([a, b], x), ([c, d], y)] := by
  have r0 : RowI (((w.alloc (.cells #[.int .i64 a, .int .i64 b] 3)).alloc (.cells #[.int .i64 c, .int .i64 d] 3)).alloc (.cells #[.slice (some ⟨w.heap.size, 0, none⟩) 2 2, .int .i64 x, .slice (some ⟨w.heap.size + 1, 0, none⟩) 2 2, .int .i64 y] 28)) w.heap.size [a, b] := ((RowI.new w [a, b] _ rfl).up (Up.alloc _ _)).up (Up.alloc _ _)
  have r1 : RowI (((w.alloc (.cells #[.int .i64 a, .int .i64 b] 3)).alloc (.cells #[.int .i64 c, .int .i64 d] 3)).alloc (.cells #[.slice (some ⟨w.heap.size, 0, none⟩) 2 2, .int .i64 x, .slice (some ⟨w.heap.size + 1, 0, none⟩) 2 2, .int .i64 y] 28)) (w.heap.size + 1) [c, d] := (RowI.new (w.alloc (.cells #[.int .i64 a, .int .i64 b] 3)) [c, d] _ (size_alloc _ _).symm).up (Up.alloc _ _)
  refine lit_rd (cs := [.slice (some ⟨w.heap.size, 0, none⟩) 2 2, .int .i64 x, .slice (some ⟨w.heap.size + 1, 0, none⟩) 2 2, .int .i64 y]) ?_ fun i hi => ?_
  · have := heap_alloc_new ((w.alloc (.cells #[.int .i64 a, .int .i64 b] 3)).alloc (.cells #[.int .i64 c, .int .i64 d] 3)) (.cells #[.slice (some ⟨w.heap.size, 0, none⟩) 2 2, .int .i64 x, .slice (some ⟨w.heap.size + 1, 0, none⟩) 2 2, .int .i64 y] 28)
    rw [size_alloc, size_alloc] at this
    exact this
  · match i, hi with
    | 0, _ => exact ⟨w.heap.size, rfl, rfl, r0, by simp⟩
    | 1, _ => exact ⟨w.heap.size + 1, rfl, rfl, r1, by simp⟩
theorem lit_one (w : World) (a b x : Int) : RdE eltForm ((w.alloc (.cells #[.int .i64 a, .int .i64 b] 3)).alloc (.cells #[.slice (some ⟨w.heap.size, 0, none⟩) 2 2, .int .i64 x] 28)) (some ⟨w.heap.size + 1, 0, none⟩) [([a, b], x)] := by
  have r0 : RowI ((w.alloc (.cells #[.int .i64 a, .int .i64 b] 3)).alloc (.cells #[.slice (some ⟨w.heap.size, 0, none⟩) 2 2, .int .i64 x] 28)) w.heap.size [a, b] := (RowI.new w [a, b] _ rfl).up (Up.alloc _ _)
  refine lit_rd (cs := [.slice (some ⟨w.heap.size, 0, none⟩) 2 2, .int .i64 x]) ?_ fun i hi => ?_
  · have := heap_alloc_new (w.alloc (.cells #[.int .i64 a, .int .i64 b] 3)) (.cells #[.slice (some ⟨w.heap.size, 0, none⟩) 2 2, .int .i64 x] 28)
    rw [size_alloc] at this
    exact this
  · match i, hi with
    | 0, _ => exact ⟨w.heap.size, rfl, rfl, r0, by simp⟩
theorem echelon_awake (A : Option Addr) (c : Nat) (w : World) (hr : RdE eltForm w A [([1, 1], -3), ([2, -1], 0)]) (ht : Tab w) :
    Calls Tryz.prog 13 #[.int .i64 2, .slice A 2 c] w fun e w' => ∃ A c, e = .returned (.tuple #[.slice A 2 c, .bool true, .int .i64 0]) ∧ RdE eltForm w' A [([1, 0], -1), ([0, 1], -2)] ∧ Up w w' := by
  refine Calls.mono (echelon_ok A c 2 [([1, 1], -3), ([2, -1], 0)] w (by decide) hr (by decide +kernel) ht) ?_
  rintro e w' ⟨⟨v, b, er, rfl, h⟩, hu⟩
  have h1 : ((sysR 2 ([([1, 1], -3), ([2, -1], 0)].map rowF)).getD 2 none).isNone = true := by decide +kernel
  have h2 : rowsR 2 (sysR 2 ([([1, 1], -3), ([2, -1], 0)].map rowF)) = [[1, 0, -1], [0, 1, -2]] := by decide +kernel
  rw [if_neg (by rw [h1]; simp), h2, if_pos (by decide +kernel)] at h
  obtain ⟨⟨A', c', rfl, -, -, h3, -⟩, rfl, rfl⟩ := h
  exact ⟨A', c', rfl, h3, hu⟩
theorem solve_awake (A : Option Addr) (c : Nat) (w : World) (hr : RdE eltForm w A [([2, 4], -6)]) (ht : Tab w) :
    Calls Tryz.prog 15 #[.int .i64 2, .slice A 1 c] w fun e w' => ∃ g, e = .returned (.tuple #[.slice (some ⟨g, 0, none⟩) 2 2, .bool true, .int .i64 0]) ∧ RowN w' g [(3, 1), (0, 1)] ∧ Up w w' := by
  refine Calls.mono (solve_ok A c 2 [([2, 4], -6)] w (by decide) hr (by decide +kernel) ht) ?_
  rintro e w' ⟨⟨v, b, er, rfl, h⟩, hu⟩
  have h1 : ((sysR 2 ([([2, 4], -6)].map rowF)).getD 2 none).isNone = true := by decide +kernel
  have h2 : leadR 2 (sysR 2 ([([2, 4], -6)].map rowF)) = [0] := by decide +kernel
  have h3 : solAt 2 (sysR 2 ([([2, 4], -6)].map rowF)) [0] = [(3, 1), (0, 1)] := by decide +kernel
  rw [if_neg (by rw [h1]; simp), h2, if_pos (by decide +kernel), h3] at h
  obtain ⟨⟨g, rfl, h4, -⟩, rfl, rfl⟩ := h
  exact ⟨g, rfl, h4, hu⟩
set_option maxHeartbeats 4000000 in
set_option maxRecDepth 10000 in
theorem linAwake_any (w : World) (ht : Tab w) : Calls Tryz.prog 9 #[] w fun e w' => e = .returned (.bool true) ∧ Up w w' := by
  have HL2 := Lib.hid (lit_two w 1 1 (-3) 2 (-1) 0)
  have HU2 := Lib.hid (((Up.alloc w (.cells #[.int .i64 1, .int .i64 1] 3)).trans (Up.alloc _ (.cells #[.int .i64 2, .int .i64 (-1)] 3))).trans (Up.alloc _ (.cells #[.slice (some ⟨w.heap.size, 0, none⟩) 2 2, .int .i64 (-3), .slice (some ⟨w.heap.size + 1, 0, none⟩) 2 2, .int .i64 0] 28)))
  go_enter Tryz.func9, Tryz.ntmps9
  go_wp2_with fail
  generalize ((w.alloc (.cells #[.int .i64 1, .int .i64 1] 3)).alloc (.cells #[.int .i64 2, .int .i64 (-1)] 3)).alloc (.cells #[.slice (some ⟨w.heap.size, 0, none⟩) 2 2, .int .i64 (-3), .slice (some ⟨w.heap.size + 1, 0, none⟩) 2 2, .int .i64 0] 28) = w1 at *
  refine Calls.mono (echelon_awake _ 2 w1 HL2.out (ht.up HU2.out)) ?_
  rintro e w2 ⟨A1, c1, rfl, hrd, hu⟩
  have HRD := Lib.hid hrd
  have HU3 := Lib.hid (HU2.out.trans hu)
  clear hrd hu HL2 HU2
  have HL1 := Lib.hid (lit_one w2 2 4 (-6))
  have HU4 := Lib.hid ((Up.alloc w2 (.cells #[.int .i64 2, .int .i64 4] 3)).trans (Up.alloc _ (.cells #[.slice (some ⟨w2.heap.size, 0, none⟩) 2 2, .int .i64 (-6)] 28)))
  go_wp2_with fail
  generalize (w2.alloc (.cells #[.int .i64 2, .int .i64 4] 3)).alloc (.cells #[.slice (some ⟨w2.heap.size, 0, none⟩) 2 2, .int .i64 (-6)] 28) = w3 at *
  refine Calls.mono (solve_awake _ 1 w3 HL1.out (ht.up (HU3.out.trans HU4.out))) ?_
  rintro e w4 ⟨g, rfl, hrn, hu⟩
  have HRN := Lib.hid hrn
  have HU5 := Lib.hid (HU4.out.trans hu)
  clear hrn hu HL1 HU4
  have HL2 := Lib.hid (lit_two w4 1 0 (-1) 0 1 (-2))
  have HU6 := Lib.hid (((Up.alloc w4 (.cells #[.int .i64 1, .int .i64 0] 3)).trans (Up.alloc _ (.cells #[.int .i64 0, .int .i64 1] 3))).trans (Up.alloc _ (.cells #[.slice (some ⟨w4.heap.size, 0, none⟩) 2 2, .int .i64 (-1), .slice (some ⟨w4.heap.size + 1, 0, none⟩) 2 2, .int .i64 (-2)] 28)))
  go_wp2_with fail
  generalize ((w4.alloc (.cells #[.int .i64 1, .int .i64 0] 3)).alloc (.cells #[.int .i64 0, .int .i64 1] 3)).alloc (.cells #[.slice (some ⟨w4.heap.size, 0, none⟩) 2 2, .int .i64 (-1), .slice (some ⟨w4.heap.size + 1, 0, none⟩) 2 2, .int .i64 (-2)] 28) = w5 at *
  have HSF := Lib.hid (sameForms_any A1 (some ⟨w4.heap.size + 1 + 1, 0, none⟩) c1 2 [([1, 0], -1), ([0, 1], -2)] [([1, 0], -1), ([0, 1], -2)] w5 (by decide) (by decide) (HRD.out.up (HU5.out.trans HU6.out)) HL2.out)
  rw [decide_eq_true rfl] at HSF
  refine Calls.mono HSF.out ?_
  rintro e w6 ⟨rfl, hu⟩
  have HU7 := Lib.hid hu
  clear hu HSF HL2
  have HN2 := Lib.hid (two_rdN w6 3 1 0 1)
  have HU8 := Lib.hid (Up.alloc w6 (.cells #[.int .i64 3, .int .i64 1, .int .i64 0, .int .i64 1] 55))
  go_wp2_with fail
  have HSM := Lib.hid (refSame_any (some ⟨g, 0, none⟩) (some ⟨w6.heap.size, 0, none⟩) 2 2 [(3, 1), (0, 1)] (w6.alloc (.cells #[.int .i64 3, .int .i64 1, .int .i64 0, .int .i64 1] 55)) (by decide) (by unfold maxLen; omega) (HRN.out.up (HU6.out.trans (HU7.out.trans HU8.out))).rd HN2.out)
  refine Calls.mono HSM.out ?_
  rintro e w7 ⟨rfl, hu⟩
  have HU9 := Lib.hid hu
  clear hu HSM
  go_wp2
  go_ret
  exact ⟨rfl, by (repeat (first | exact Below.refl _ _ | exact Hid.out (by assumption) | refine Up.trans ?_ (Up.drew _) | refine Up.trans ?_ (Up.drewN _ _) | refine Up.trans ?_ (Up.alloc _ _) | refine Up.trans ?_ (Hid.out (by assumption))))⟩
end Go.Proofs.YtacbjbnocepnaaaGreatDoor
namespace Go.Proofs.YtacbjbnocepnaaaGreatDoor
open Go.RowKit Fm
set_option maxRecDepth 10000 in
theorem refSmallInt_any (n : Int) (w : World) : Calls Tryz.prog 123 #[.int .i64 n] w fun e w' => e = .returned (.bool (limI n)) ∧ Up w w' := by
  unfold limI
  by_cases h1 : -1152921504606846976 ≤ n
  · by_cases h2 : n ≤ 1152921504606846976
    · have HE : Hid (decide (-1152921504606846976 ≤ n ∧ n ≤ 1152921504606846976) = true) := Lib.hid (by simp [h1, h2])
      rw [HE.out]
      go_enter Tryz.func123, Tryz.ntmps123
      go_wp2
      refine bodyPost_ret (by simp [results, Tryz.results123, go_sem]; try rfl) rfl ?_
      exact ⟨rfl, by (repeat (first | exact Below.refl _ _ | exact Hid.out (by assumption) | refine Up.trans ?_ (Up.drew _) | refine Up.trans ?_ (Up.drewN _ _) | refine Up.trans ?_ (Up.alloc _ _) | refine Up.trans ?_ (Hid.out (by assumption))))⟩
    · have HE : Hid (decide (-1152921504606846976 ≤ n ∧ n ≤ 1152921504606846976) = false) := Lib.hid (by simp [h2])
      rw [HE.out]
      go_enter Tryz.func123, Tryz.ntmps123
      go_wp2
      refine bodyPost_ret (by simp [results, Tryz.results123, go_sem]; try rfl) rfl ?_
      exact ⟨rfl, by (repeat (first | exact Below.refl _ _ | exact Hid.out (by assumption) | refine Up.trans ?_ (Up.drew _) | refine Up.trans ?_ (Up.drewN _ _) | refine Up.trans ?_ (Up.alloc _ _) | refine Up.trans ?_ (Hid.out (by assumption))))⟩
  · have HE : Hid (decide (-1152921504606846976 ≤ n ∧ n ≤ 1152921504606846976) = false) := Lib.hid (by simp [h1])
    rw [HE.out]
    go_enter Tryz.func123, Tryz.ntmps123
    go_wp2
    refine bodyPost_ret (by simp [results, Tryz.results123, go_sem]; try rfl) rfl ?_
    exact ⟨rfl, by (repeat (first | exact Below.refl _ _ | exact Hid.out (by assumption) | refine Up.trans ?_ (Up.drew _) | refine Up.trans ?_ (Up.drewN _ _) | refine Up.trans ?_ (Up.alloc _ _) | refine Up.trans ?_ (Hid.out (by assumption))))⟩
set_option maxHeartbeats 1000000 in
set_option maxRecDepth 10000 in
theorem refValidForm_any (A : Option Addr) (c : Nat) (n : Int) (f : List Int × Int) (w : World) (hc : f.1.length ≤ 9223372036854775807) (hr : RdI w A f.1) :
    Calls Tryz.prog 87 #[.int .i64 n, .agg #[.slice A f.1.length c, .int .i64 f.2]] w fun e w' => e = .returned (.bool (validF n f)) ∧ Up w w' := by
  have HA := Lib.hid (fun W => refSmallInt_any f.2 W)
  have HC := Lib.hid (CellF.new w A f.1.length c f.2)
  have HU := Lib.hid (Up.alloc w (.cells #[.slice A f.1.length c, .int .i64 f.2] 28))
  have HE : Hid (validF n f = (dimI n && decide ((f.1.length : Int) = n) && limI f.2 && f.1.all limI)) := Lib.hid rfl
  by_cases h0 : 0 ≤ n
  · by_cases h8 : n ≤ 8
    · have hd : dimI n = true := by simp [dimI, h0, h8]
      rw [hd] at HE
      clear hd
      by_cases h2 : (f.1.length : Int) = n
      · subst h2
        have h2' : ((f.1.length : Int) != (f.1.length : Int)) = false := by simp
        rcases h3 : limI f.2 with _ | _
        · rw [h3] at HE HA
          clear h3
          go_enter Tryz.func87, Tryz.ntmps87
          go_wp2_with fail
          refine Calls.mono (HA.out _) ?_
          rintro e w2 ⟨rfl, hu⟩
          have HU2 := Lib.hid hu
          clear hu
          go_wp2
          go_ret
          exact ⟨by rw [HE.out]; simp, by (repeat (first | exact Below.refl _ _ | exact Hid.out (by assumption) | refine Up.trans ?_ (Up.drew _) | refine Up.trans ?_ (Up.drewN _ _) | refine Up.trans ?_ (Up.alloc _ _) | refine Up.trans ?_ (Hid.out (by assumption))))⟩
        · rw [h3] at HE HA
          have HE2 : Hid (validF (f.1.length : Int) f = f.1.all limI) := Lib.hid (by rw [HE.out]; simp)
          clear h3 HE
          go_enter Tryz.func87, Tryz.ntmps87
          go_wp2_with fail
          refine Calls.mono (HA.out _) ?_
          rintro e w2 ⟨rfl, hu⟩
          have HU2 := Lib.hid hu
          obtain ⟨p0, p1, -, -, lg⟩ := (HC.out.up hu).facts
          clear hu
          go_wp2
          go_loopw [29] (fun i wr => ∃ k : Nat, k ≤ f.1.length ∧ i = .int .i64 k ∧ Hid ((f.1.take k).all limI = true) ∧ Hid (Up w2 wr)) (fun i _ => f.1.length - (intOf i).toNat)
          case atStart => exact ⟨0, by omega, rfl, Lib.hid rfl, Lib.hid (Up.refl _)⟩
          case round =>
            obtain ⟨k, hk, rfl, HK, HUR⟩ := hrel
            by_cases hkl : k < f.1.length
            · obtain ⟨b, off, rfl, hbb, c0⟩ := (hr.up (show Up w wr by (repeat (first | exact Below.refl _ _ | exact Hid.out (by assumption) | refine Up.trans ?_ (Up.drew _) | refine Up.trans ?_ (Up.drewN _ _) | refine Up.trans ?_ (Up.alloc _ _) | refine Up.trans ?_ (Hid.out (by assumption)))))).at_ hkl
              have HI := Lib.hid (fun W => refSmallInt_any f.1[k] W)
              have HNEXT : Hid ((f.1.take (k + 1)).all limI = limI f.1[k]) := Lib.hid (by
                rw [List.take_succ_eq_append_getElem hkl, List.all_append, HK.out]; simp)
              have HFALSE : Hid (limI f.1[k] = false → f.1.all limI = false) := Lib.hid (fun h => by
                rw [List.all_eq_false]
                exact ⟨f.1[k], List.getElem_mem hkl, by simp [h]⟩)
              generalize f.1[k] = x at *
              go_wp2_with fail
              refine Calls.mono (HI.out _) ?_
              rintro e w3 ⟨rfl, hu⟩
              have HU3 := Lib.hid hu
              clear hu c0 hbb
              rcases h4 : limI x with _ | _
              · have HF := Lib.hid (HFALSE.out h4)
                clear h4 HNEXT HFALSE
                go_wp2
                go_ret
                exact ⟨by rw [HE2.out, HF.out]; rfl, by (repeat (first | exact Below.refl _ _ | exact Hid.out (by assumption) | refine Up.trans ?_ (Up.drew _) | refine Up.trans ?_ (Up.drewN _ _) | refine Up.trans ?_ (Up.alloc _ _) | refine Up.trans ?_ (Hid.out (by assumption))))⟩
              · rw [h4] at HNEXT
                clear h4 HFALSE
                go_wp2_with fail
                exact ⟨⟨k + 1, by omega, by simp, HNEXT, Lib.hid (by (repeat (first | exact Below.refl _ _ | exact Hid.out (by assumption) | refine Up.trans ?_ (Up.drew _) | refine Up.trans ?_ (Up.drewN _ _) | refine Up.trans ?_ (Up.alloc _ _) | refine Up.trans ?_ (Hid.out (by assumption)))))⟩, by simp [intOf]; omega⟩
            · have HA2 : Hid (f.1.all limI = true) := Lib.hid (by
                have := HK.out
                rwa [List.take_of_length_le (by omega)] at this)
              go_wp2
              go_ret
              exact ⟨by rw [HE2.out, HA2.out]; rfl, by (repeat (first | exact Below.refl _ _ | exact Hid.out (by assumption) | refine Up.trans ?_ (Up.drew _) | refine Up.trans ?_ (Up.drewN _ _) | refine Up.trans ?_ (Up.alloc _ _) | refine Up.trans ?_ (Hid.out (by assumption))))⟩
      · have h2a : ((f.1.length : Int) != n) = true := by simpa using h2
        have HE2 : Hid (validF n f = false) := Lib.hid (by rw [HE.out]; simp [h2])
        clear h2 HE
        go_enter Tryz.func87, Tryz.ntmps87
        go_wp2
        go_ret
        exact ⟨by rw [HE2.out]; rfl, by (repeat (first | exact Below.refl _ _ | exact Hid.out (by assumption) | refine Up.trans ?_ (Up.drew _) | refine Up.trans ?_ (Up.drewN _ _) | refine Up.trans ?_ (Up.alloc _ _) | refine Up.trans ?_ (Hid.out (by assumption))))⟩
    · have HE2 : Hid (validF n f = false) := Lib.hid (by rw [HE.out]; simp [dimI, h8])
      clear HE
      go_enter Tryz.func87, Tryz.ntmps87
      go_wp2
      go_ret
      exact ⟨by rw [HE2.out]; rfl, by (repeat (first | exact Below.refl _ _ | exact Hid.out (by assumption) | refine Up.trans ?_ (Up.drew _) | refine Up.trans ?_ (Up.drewN _ _) | refine Up.trans ?_ (Up.alloc _ _) | refine Up.trans ?_ (Hid.out (by assumption))))⟩
  · have HE2 : Hid (validF n f = false) := Lib.hid (by rw [HE.out]; simp [dimI, h0])
    clear HE
    go_enter Tryz.func87, Tryz.ntmps87
    go_wp2
    go_ret
    exact ⟨by rw [HE2.out]; rfl, by (repeat (first | exact Below.refl _ _ | exact Hid.out (by assumption) | refine Up.trans ?_ (Up.drew _) | refine Up.trans ?_ (Up.drewN _ _) | refine Up.trans ?_ (Up.alloc _ _) | refine Up.trans ?_ (Hid.out (by assumption))))⟩
end Go.Proofs.YtacbjbnocepnaaaGreatDoor
