/- A copy of a list of numbers; the walk of the law. -/
import Derived.Test.YtimlainffbpfdaaDoorGS2
import Derived.ArgAppend
namespace Go.Proofs.YtimlainffbpfdaaDoor
open Go.RowKit Fm

/-- The cells of a list of pairs. -/
def flat : List (Int × Int) → List Value
  | [] => []
  | p :: ps => .int .i64 p.1 :: .int .i64 p.2 :: flat ps
theorem flat_length (xs : List (Int × Int)) : (flat xs).length = xs.length * 2 := by
  induction xs with
  | nil => rfl
  | cons p ps ih => simp only [flat, List.length_cons, ih]; omega
theorem flat_one (xs : List (Int × Int)) : ∀ u ∈ flat xs, u.oneCell' = true := by
  induction xs with
  | nil => simp [flat]
  | cons p ps ih =>
    intro u hu
    simp only [flat, List.mem_cons] at hu
    rcases hu with rfl | rfl | hu
    · rfl
    · rfl
    · exact ih u hu
theorem flat_get (xs : List (Int × Int)) (i : Nat) (hi : i < xs.length) : (flat xs)[i * 2]? = some (.int .i64 xs[i].1) ∧ (flat xs)[i * 2 + 1]? = some (.int .i64 xs[i].2) := by
  induction xs generalizing i with
  | nil => simp at hi
  | cons p ps ih =>
    cases i with
    | zero => exact ⟨rfl, rfl⟩
    | succ i =>
      have h := ih i (by simpa using hi)
      have e1 : (i + 1) * 2 = i * 2 + 1 + 1 := by omega
      rw [e1]
      simpa [flat] using h
theorem flat_cells {w : World} {b off : Nat} {xs : List (Int × Int)} (h : RdN w (some ⟨b, off, none⟩) xs) (j : Nat) (u : Value) (hj : (flat xs)[j]? = some u) : w.cell? ⟨b, off + j, none⟩ = some u := by
  have hl : j < (flat xs).length := by
    rcases Nat.lt_or_ge j (flat xs).length with h1 | h1
    · exact h1
    · rw [List.getElem?_eq_none h1] at hj; cases hj
  rw [flat_length] at hl
  have hi : j / 2 < xs.length := by omega
  obtain ⟨b', off', hA, hb, hc⟩ := h (by intro e; subst e; simp at hi)
  cases hA
  have h1 := hc (j / 2) hi
  have h2 := flat_get xs (j / 2) hi
  rcases Nat.mod_two_eq_zero_or_one j with hm | hm
  · have e : j / 2 * 2 = j := by omega
    rw [e] at h1 h2
    rw [h2.1] at hj
    rw [← Option.some.inj hj]
    exact h1.1
  · have e : j / 2 * 2 + 1 = j := by omega
    rw [e] at h2
    rw [Nat.add_assoc, e] at h1
    rw [h2.2] at hj
    rw [← Option.some.inj hj]
    exact h1.2
theorem owns_rdN {w : World} {base : Nat} {v : Value} {xs : List (Int × Int)} (h : w.ownsRow base 23 2 v xs.length (flat xs)) : ∃ B d, v = .slice B xs.length d ∧ xs.length ≤ d ∧ d ≤ maxLen ∧ RdN w B xs := by
  obtain ⟨hl, h⟩ := h
  rcases h with ⟨rfl, hn⟩ | ⟨g, cap, cur, rfl, hb, hg, hle, hcm, hsz, htk⟩
  · obtain rfl : xs = [] := List.eq_nil_of_length_eq_zero hn
    exact ⟨none, 0, rfl, Nat.le_refl _, Nat.zero_le _, fun h => absurd rfl h⟩
  · refine ⟨some ⟨g, 0, none⟩, cap, rfl, hle, hcm, fun _ => ⟨g, 0, rfl, ?_, fun i hi => ?_⟩⟩
    · rcases Nat.lt_or_ge g w.heap.size with hlt | hge
      · exact hlt
      · rw [Array.getElem?_eq_none hge] at hg; cases hg
    · have h2 := flat_get xs i hi
      rw [← htk] at h2
      rw [List.getElem?_take_of_lt (by omega), List.getElem?_take_of_lt (by omega)] at h2
      rw [cell_of_row w g _ _ _ _ hg, cell_of_row w g _ _ _ _ hg]
      simpa using h2
theorem info_num : (Tryd.prog.info? 23).map (fun i => (i.zero, i.size, i.bytes)) = some (some (.agg #[.int .i64 0, .int .i64 0]), 2, 16) := by kernel_rfl

/-- A copy of a list of numbers, behind an empty slice. -/
theorem wpList_copyN (w : World) {ops : Array Oper} {rest : List Oper} {o : Oper} {a : Act} {Q : Exit → Act → World → Prop} (hg : o.guard = none) (s x : Operand) (t : TypeId)
    (hop : o.op = Op.call { callee := Callee.builtin Builtin.append, args := #[s, x], argTypes := #[t, t] }) (h1 : Tryd.prog.underlying t = some (.slice 23))
    (ao : Option Addr) (hs : a.eval s = .slice ao 0 0) (A : Option Addr) (c : Nat) (xs : List (Int × Int)) (hx : a.eval x = .slice A xs.length c) (hr : RdN w A xs) (hl : xs.length ≤ 1000)
    (hK : ∀ B d w', RdN w' B xs → xs.length ≤ d → d ≤ maxLen → Up w w' → wpList Tryd.prog ops Q rest (a.put o.dst (.slice B xs.length d)) w') : wpList Tryd.prog ops Q (o :: rest) a w := by
  obtain ⟨i0, hi, hz0, hz1, hz2⟩ := info_parts info_num
  by_cases h0 : xs = []
  · subst h0
    refine wpList_plain hg fun K hK' => ?_
    have hrun : (Builtin.append_ #[t, t] o.type #[.slice ao 0 0, .slice A 0 c]).run Tryd.prog w = .ok (.slice ao 0 0) w := by
      cases ao <;> cases A <;> simp [Builtin.append_, run_underlying h1, sizeOf, typeInfo, hi, storeCells, Builtin.lenOf, Builtin.firstCells, loadCells, loadCellsFrom, Result.andThen]
    unfold Oper.wp
    simp only [List.length_nil] at hx
    simp [execOp, hop, resolve, invoke, builtin, hs, hx, hrun, Result.andThen]
    exact hK' _ _ (hK ao 0 w (fun h => absurd rfl h) (Nat.le_refl _) (Nat.zero_le _) (Up.refl w))
  · obtain ⟨b, off, rfl, -⟩ := hr h0
    have hp := List.length_pos_iff.2 h0
    refine wpList_append_grows w hg s x t hop 23 i0 (.agg #[.int .i64 0, .int .i64 0]) 2 16 h1 hi hz0 hz1 hz2 rfl (by decide) ao 0 0 [] hs (fun _ => ⟨rfl, rfl⟩) rfl (fun _ _ j u h => by simp at h) ⟨b, off, none⟩ xs.length c (flat xs) hx (flat_length xs)
      (fun j u hj => by
        have := flat_cells hr j u hj
        by_cases hj0 : j = 0
        · subst hj0; simpa [Addr.add] using this
        · simpa [Addr.add, hj0] using this) (flat_one xs) (by omega) (by unfold maxLen; omega) (by omega) (fun v' w' r1 r2 => ?_)
    rw [Nat.zero_add, List.nil_append] at r1
    obtain ⟨B, d, rfl, hd, hm, hrr⟩ := owns_rdN r1
    exact hK B d w' hrr hd hm ⟨r2.os, r2.tape, r2.output, r2.size, fun j hj => r2.block j hj (by intro e; cases e)⟩
end Go.Proofs.YtimlainffbpfdaaDoor
namespace Go.Proofs.YtimlainffbpfdaaDoor
open Go.RowKit Fm

set_option maxHeartbeats 4000000 in
set_option maxRecDepth 10000 in
theorem dot_long (A B : Option Addr) (n k c d : Nat) (w : World) (h : 200 < n ∨ 200 < k) (hn : n ≤ 9223372036854775807) (hk : k ≤ 9223372036854775807)
    (HW : Hid (∀ W, Up w W → Calls Tryd.prog 14 #[] W fun e w' => e = .returned (.bool true) ∧ Up W w')) :
    Calls Tryd.prog 6 #[.slice A n c, .slice B k d] w fun e w' => e = .returned (.bool true) ∧ Up w w' := by
  by_cases h1 : 200 < n
  · have i1 : (200 : Int) < (n : Int) := by omega
    clear h hn hk
    go_enter Tryd.func6, Tryd.ntmps6
    go_wp2_with fail
    refine Calls.mono (HW.out _ (by (repeat (first | exact Below.refl _ _ | exact Go.RowKit.Hid.out (by assumption) | refine Up.trans ?_ (Up.drew _) | refine Up.trans ?_ (Up.drewN _ _) | refine Up.trans ?_ (Up.alloc _ _) | refine Up.trans ?_ (Go.RowKit.Hid.out (by assumption)))))) ?_
    rintro e w9 ⟨rfl, hu9⟩
    have HU9 := Lib.hid hu9
    clear hu9
    go_wp2
    go_ret
    exact ⟨rfl, by (repeat (first | exact Below.refl _ _ | exact Go.RowKit.Hid.out (by assumption) | refine Up.trans ?_ (Up.drew _) | refine Up.trans ?_ (Up.drewN _ _) | refine Up.trans ?_ (Up.alloc _ _) | refine Up.trans ?_ (Go.RowKit.Hid.out (by assumption))))⟩
  · have h2 : 200 < k := by omega
    have i1 : ¬ (200 : Int) < (n : Int) := by omega
    have i2 : (200 : Int) < (k : Int) := by omega
    have i3 : decide ((200 : Int) < (n : Int)) = false := decide_eq_false i1
    clear h hn hk
    go_enter Tryd.func6, Tryd.ntmps6
    go_wp2_with fail
    refine Calls.mono (HW.out _ (by (repeat (first | exact Below.refl _ _ | exact Go.RowKit.Hid.out (by assumption) | refine Up.trans ?_ (Up.drew _) | refine Up.trans ?_ (Up.drewN _ _) | refine Up.trans ?_ (Up.alloc _ _) | refine Up.trans ?_ (Go.RowKit.Hid.out (by assumption)))))) ?_
    rintro e w9 ⟨rfl, hu9⟩
    have HU9 := Lib.hid hu9
    clear hu9
    go_wp2
    go_ret
    exact ⟨rfl, by (repeat (first | exact Below.refl _ _ | exact Go.RowKit.Hid.out (by assumption) | refine Up.trans ?_ (Up.drew _) | refine Up.trans ?_ (Up.drewN _ _) | refine Up.trans ?_ (Up.alloc _ _) | refine Up.trans ?_ (Go.RowKit.Hid.out (by assumption))))⟩

set_option maxHeartbeats 4000000 in
set_option maxRecDepth 10000 in
theorem dot_main (A B : Option Addr) (c d : Nat) (l m : List (Int × Int)) (X Y E : Int) (w : World) (hl : l.length ≤ 200) (hm : m.length ≤ 200) (hr : RdN w A l) (hs : RdN w B m)
    (HR : Hid (∀ W, Up w W → Calls Tryd.prog 20 #[.slice A l.length c, .slice B m.length d] W fun e w' => e = .returned (.tuple #[.agg #[.int .i64 X, .int .i64 Y], .int .i64 E]) ∧ Up W w'))
    (HN : Hid (∀ W, Up w W → Calls Tryd.prog 21 #[.slice A l.length c, .slice B m.length d] W fun e w' => e = .returned (.tuple #[.agg #[.int .i64 X, .int .i64 Y], .int .i64 E]) ∧ Up W w'))
    (HS1 : Hid (∀ W B' d', Up w W → RdN W B' l → Calls Tryd.prog 22 #[.slice A l.length c, .slice B' l.length d'] W fun e w' => e = .returned (.bool true) ∧ Up W w'))
    (HS2 : Hid (∀ W B' d', Up w W → RdN W B' m → Calls Tryd.prog 22 #[.slice B m.length d, .slice B' m.length d'] W fun e w' => e = .returned (.bool true) ∧ Up W w'))
    (HW : Hid (∀ W, Up w W → Calls Tryd.prog 14 #[] W fun e w' => e = .returned (.bool true) ∧ Up W w')) :
    Calls Tryd.prog 6 #[.slice A l.length c, .slice B m.length d] w fun e w' => e = .returned (.bool true) ∧ Up w w' := by
  have i1 : ¬ (200 : Int) < (l.length : Int) := by omega
  have i3 : decide ((200 : Int) < (l.length : Int)) = false := decide_eq_false i1
  have i2 : ¬ (200 : Int) < (m.length : Int) := by omega
  have i4 : decide ((200 : Int) < (m.length : Int)) = false := decide_eq_false i2
  have HLL := Lib.hid (And.intro hl hm)
  have HRD := Lib.hid (And.intro hr hs)
  clear hl hm hr hs
  go_enter Tryd.func6, Tryd.ntmps6
  go_wp2_with fail
  refine Calls.mono (HR.out _ (by (repeat (first | exact Below.refl _ _ | exact Go.RowKit.Hid.out (by assumption) | refine Up.trans ?_ (Up.drew _) | refine Up.trans ?_ (Up.drewN _ _) | refine Up.trans ?_ (Up.alloc _ _) | refine Up.trans ?_ (Go.RowKit.Hid.out (by assumption)))))) ?_
  rintro e w1 ⟨rfl, hu⟩
  have HU1 := Lib.hid hu
  clear hu
  go_upto_region 4 with fail
  have HNP := Lib.hid (CellN.new w1 X Y)
  have HUA := Lib.hid (Up.alloc w1 (.cells #[.int .i64 X, .int .i64 Y] 23))
  generalize w1.alloc (.cells #[.int .i64 X, .int .i64 Y] 23) = w1a at *
  go_wp2_with (at_builtin; first
    | (refine wpList_copyN _ rfl (.tmp 26) (.tmp 27) 42 rfl Tryd.underlying42 _ rfl A c l rfl (HRD.out.1.up (by (repeat (first | exact Below.refl _ _ | exact Go.RowKit.Hid.out (by assumption) | refine Up.trans ?_ (Up.drew _) | refine Up.trans ?_ (Up.drewN _ _) | refine Up.trans ?_ (Up.alloc _ _) | refine Up.trans ?_ (Go.RowKit.Hid.out (by assumption)))))) (by have := HLL.out.1; omega) ?_
       intro B1 d1 w2 hr1 hd1 hdm1 hu1
       have HU2 := Lib.hid hu1
       have HRB1 := Lib.hid hr1
       clear hr1 hd1 hdm1 hu1)
    | (refine wpList_copyN _ rfl (.tmp 29) (.tmp 30) 42 rfl Tryd.underlying42 _ rfl B d m rfl (HRD.out.2.up (by (repeat (first | exact Below.refl _ _ | exact Go.RowKit.Hid.out (by assumption) | refine Up.trans ?_ (Up.drew _) | refine Up.trans ?_ (Up.drewN _ _) | refine Up.trans ?_ (Up.alloc _ _) | refine Up.trans ?_ (Go.RowKit.Hid.out (by assumption)))))) (by have := HLL.out.2; omega) ?_
       intro B2 d2 w3 hr2 hd2 hdm2 hu2
       have HU3 := Lib.hid hu2
       have HRB2 := Lib.hid hr2
       clear hr2 hd2 hdm2 hu2))
  have HUX := Lib.hid (show Up w1a w2 by (repeat (first | exact Below.refl _ _ | exact Go.RowKit.Hid.out (by assumption) | refine Up.trans ?_ (Up.drew _) | refine Up.trans ?_ (Up.drewN _ _) | refine Up.trans ?_ (Up.alloc _ _) | refine Up.trans ?_ (Go.RowKit.Hid.out (by assumption)))))
  have HUY := Lib.hid (show Up w2 w3 by (repeat (first | exact Below.refl _ _ | exact Go.RowKit.Hid.out (by assumption) | refine Up.trans ?_ (Up.drew _) | refine Up.trans ?_ (Up.drewN _ _) | refine Up.trans ?_ (Up.alloc _ _) | refine Up.trans ?_ (Go.RowKit.Hid.out (by assumption)))))
  clear HU2 HU3
  refine Calls.mono (HN.out _ (by (repeat (first | exact Below.refl _ _ | exact Go.RowKit.Hid.out (by assumption) | refine Up.trans ?_ (Up.drew _) | refine Up.trans ?_ (Up.drewN _ _) | refine Up.trans ?_ (Up.alloc _ _) | refine Up.trans ?_ (Go.RowKit.Hid.out (by assumption)))))) ?_
  rintro e w4 ⟨rfl, hu⟩
  have HU4 := Lib.hid hu
  clear hu
  obtain ⟨wC, hwC⟩ : ∃ wC, wC = w4.alloc (.cells #[.int .i64 X, .int .i64 Y] 23) := ⟨_, rfl⟩
  have HNQ := Lib.hid (show CellN wC w4.heap.size X Y by rw [hwC]; exact CellN.new _ _ _)
  have HUC := Lib.hid (show Up w4 wC by rw [hwC]; exact Up.alloc _ _)
  obtain ⟨p0, p1, -, -, lp⟩ := (HNP.out.up (w' := wC) (by (repeat (first | exact Below.refl _ _ | exact Go.RowKit.Hid.out (by assumption) | refine Up.trans ?_ (Up.drew _) | refine Up.trans ?_ (Up.drewN _ _) | refine Up.trans ?_ (Up.alloc _ _) | refine Up.trans ?_ (Go.RowKit.Hid.out (by assumption)))))).facts
  obtain ⟨q0, q1, -, -, lq⟩ := HNQ.out.facts
  rw [hwC] at p0 p1 q0 q1
  go_wp2_with fail
  rw [← hwC]
  clear hwC p0 p1 q0 q1 lp lq
  refine Calls.mono (HS1.out _ _ _ (by (repeat (first | exact Below.refl _ _ | exact Go.RowKit.Hid.out (by assumption) | refine Up.trans ?_ (Up.drew _) | refine Up.trans ?_ (Up.drewN _ _) | refine Up.trans ?_ (Up.alloc _ _) | refine Up.trans ?_ (Go.RowKit.Hid.out (by assumption))))) (HRB1.out.up (by (repeat (first | exact Below.refl _ _ | exact Go.RowKit.Hid.out (by assumption) | refine Up.trans ?_ (Up.drew _) | refine Up.trans ?_ (Up.drewN _ _) | refine Up.trans ?_ (Up.alloc _ _) | refine Up.trans ?_ (Go.RowKit.Hid.out (by assumption))))))) ?_
  rintro e w5 ⟨rfl, hu⟩
  have HU5 := Lib.hid hu
  clear hu
  go_wp2_with fail
  refine Calls.mono (HS2.out _ _ _ (by (repeat (first | exact Below.refl _ _ | exact Go.RowKit.Hid.out (by assumption) | refine Up.trans ?_ (Up.drew _) | refine Up.trans ?_ (Up.drewN _ _) | refine Up.trans ?_ (Up.alloc _ _) | refine Up.trans ?_ (Go.RowKit.Hid.out (by assumption))))) (HRB2.out.up (by (repeat (first | exact Below.refl _ _ | exact Go.RowKit.Hid.out (by assumption) | refine Up.trans ?_ (Up.drew _) | refine Up.trans ?_ (Up.drewN _ _) | refine Up.trans ?_ (Up.alloc _ _) | refine Up.trans ?_ (Go.RowKit.Hid.out (by assumption))))))) ?_
  rintro e w6 ⟨rfl, hu⟩
  have HU6 := Lib.hid hu
  clear hu
  go_wp2_with fail
  refine Calls.mono (HW.out _ (by (repeat (first | exact Below.refl _ _ | exact Go.RowKit.Hid.out (by assumption) | refine Up.trans ?_ (Up.drew _) | refine Up.trans ?_ (Up.drewN _ _) | refine Up.trans ?_ (Up.alloc _ _) | refine Up.trans ?_ (Go.RowKit.Hid.out (by assumption)))))) ?_
  rintro e w9 ⟨rfl, hu9⟩
  have HU9 := Lib.hid hu9
  clear hu9
  go_wp2
  go_ret
  exact ⟨rfl, by (repeat (first | exact Below.refl _ _ | exact Go.RowKit.Hid.out (by assumption) | refine Up.trans ?_ (Up.drew _) | refine Up.trans ?_ (Up.drewN _ _) | refine Up.trans ?_ (Up.alloc _ _) | refine Up.trans ?_ (Go.RowKit.Hid.out (by assumption))))⟩
end Go.Proofs.YtimlainffbpfdaaDoor
