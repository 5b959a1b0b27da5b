import Derived.Test.YtahmjnjammcifaaDoorInt1
namespace Go.Proofs.YtahmjnjammcifaaDoor
open Go.RowKit Fm

set_option maxRecDepth 10000 in
theorem bothSmall_any (v1 v2 : Value) (a b : Int) (w : World) (h1 : IV w v1 a) (h2 : IV w v2 b) :
    Calls Tryd.prog 81 #[v1, v2] w fun e w' => e = .returned (.bool (decide (a.natAbs < 4611686018427387904 ∧ b.natAbs < 4611686018427387904))) ∧ Up w w' := by
  obtain ⟨s, A, n, c, rfl, -, -, -, hn, hc⟩ := h1.open_
  obtain ⟨s2, A2, n2, c2, rfl, -, -, -, hn2, hc2⟩ := h2.open_
  clear h1 h2
  rcases hc with ⟨rfl, -, ha⟩ | ⟨hpos, -, ha, -, -⟩
  · rcases hc2 with ⟨rfl, -, hb⟩ | ⟨hpos2, -, hb, -, -⟩
    · have hr : decide (a.natAbs < 4611686018427387904 ∧ b.natAbs < 4611686018427387904) = true := by simp; exact ⟨ha, hb⟩
      rw [hr]
      clear hr ha hb
      go_enter Tryd.func81, Tryd.ntmps81
      go_wp2
      go_ret
      exact ⟨rfl, (Up.alloc _ _).trans (Up.alloc _ _)⟩
    · have hr : decide (a.natAbs < 4611686018427387904 ∧ b.natAbs < 4611686018427387904) = false := by simp; intro _; exact hb
      rw [hr]
      clear hr ha hb
      have hz : ((n2 : Int) == 0) = false := by simp; omega
      go_enter Tryd.func81, Tryd.ntmps81
      go_wp2
      go_ret
      exact ⟨rfl, (Up.alloc _ _).trans (Up.alloc _ _)⟩
  · have hr : decide (a.natAbs < 4611686018427387904 ∧ b.natAbs < 4611686018427387904) = false := by simp; omega
    rw [hr]
    clear hr ha hc2
    have hz : ((n : Int) == 0) = false := by simp; omega
    go_enter Tryd.func81, Tryd.ntmps81
    go_wp2
    go_ret
    exact ⟨rfl, (Up.alloc _ _).trans (Up.alloc _ _)⟩

set_option maxRecDepth 10000 in
theorem digits_any (v : Value) (a : Int) (w : World) (h : IV w v a) :
    Calls Tryd.prog 83 #[v] w fun e w' => ∃ d, e = .returned d ∧ Dv w' d a.natAbs ∧ Up w w' := by
  obtain ⟨s, A, n, c, rfl, -, hs1, hs2, hn, hc⟩ := h.open_
  clear h
  rcases hc with ⟨rfl, rfl, ha⟩ | ⟨hpos, -, ha, hd, -⟩
  · have hsz := fun W => size_any s W (by omega) (by omega)
    have hnat := fun W => natural_any s.natAbs W (by omega)
    have HSZ := Lib.hid hsz
    have HNAT := Lib.hid hnat
    clear hsz hnat ha hs1 hs2
    go_enter Tryd.func83, Tryd.ntmps83
    go_wp2_with (first
      | (go_at_call 67; refine (HSZ.out _).mono ?_; rintro e w1 ⟨rfl, rfl⟩)
      | (go_at_call 66; refine (HNAT.out _).mono ?_; rintro e w1 ⟨v1, rfl, hd1, hu1⟩; have HD1 := Lib.hid hd1; clear hd1))
    go_ret
    exact ⟨_, rfl, HD1.out, (Up.alloc _ _).trans hu1⟩
  · have HD := Lib.hid hd
    clear hd ha hs1 hs2
    go_enter Tryd.func83, Tryd.ntmps83
    go_wp2
    go_ret
    exact ⟨_, rfl, Sl.up HD.out (Up.alloc _ _), Up.alloc _ _⟩

set_option maxRecDepth 10000 in
theorem intSign_any (v : Value) (a : Int) (w : World) (h : IV w v a) :
    Calls Tryd.prog 62 #[v] w fun e w' => e = .returned (.int .i64 a.sign) ∧ Up w w' := by
  obtain ⟨s, A, n, c, rfl, -, hs1, hs2, hn, hc⟩ := h.open_
  clear h
  have hsg : s.sign = a.sign := by
    rcases hc with ⟨-, rfl, -⟩ | ⟨-, rfl, -⟩
    · rfl
    · exact Int.sign_sign
  have HSG := Lib.hid hsg
  clear hsg hc hs1 hs2
  go_enter Tryd.func62, Tryd.ntmps62
  go_wp2_with (go_at_call 85; refine (sign_any _ _).mono ?_; rintro e w1 ⟨rfl, rfl⟩)
  go_ret
  exact ⟨ret_int HSG.out, Up.alloc _ _⟩

set_option maxRecDepth 10000 in
theorem neg_any (v : Value) (a : Int) (w : World) (h : IV w v a) :
    Calls Tryd.prog 63 #[v] w fun e w' => ∃ v', e = .returned v' ∧ IV w' v' (-a) ∧ Up w w' := by
  obtain ⟨s, A, n, c, rfl, hp, hs1, hs2, hn, hc⟩ := h.open_
  have hq : IVp w (-s) (.slice A n c) (-a) := by
    rcases hp with ⟨h1, rfl, h3⟩ | ⟨h1, rfl, h3⟩
    · exact .inl ⟨by rw [Int.natAbs_neg]; exact h1, rfl, h3⟩
    · exact .inr ⟨by rw [Int.natAbs_neg]; exact h1, by rw [Int.sign_neg], by rw [Int.natAbs_neg]; exact h3⟩
  have HQ := Lib.hid hq
  clear h hp hc hq
  go_enter Tryd.func63, Tryd.ntmps63
  go_wp2
  refine bodyPost_ret (by simp [results, Tryd.results63, go_sem]; try rfl) rfl ?_
  have hu : Up w ((w.alloc (.cells #[.int .i64 s, .slice A n c] 49)).alloc (.cells #[.int .i64 (-s), .slice A n c] 49)) := (Up.alloc _ _).trans (Up.alloc _ _)
  exact ⟨_, rfl, ⟨_, _, rfl, HQ.out.up hu⟩, hu⟩

/-- z within a bound. -/
def within (a bound : Int) : Bool := decide (-bound ≤ a ∧ a ≤ bound)
set_option maxRecDepth 10000 in
theorem within_any (v : Value) (a bound : Int) (w : World) (h : IV w v a) (hb0 : 0 ≤ bound) (hb1 : bound < 4611686018427387904) :
    Calls Tryd.prog 80 #[v, .int .i64 bound] w fun e w' => e = .returned (.tuple #[.int .i64 (if within a bound then a else 0), .bool (within a bound)]) ∧ Up w w' := by
  obtain ⟨s, A, n, c, rfl, -, hs1, hs2, hn, hc⟩ := h.open_
  clear h
  rcases hc with ⟨rfl, rfl, ha⟩ | ⟨hpos, hsg, ha, hd, -⟩
  · by_cases h1 : bound < s
    · have hw : within s bound = false := by simp [within]; omega
      rw [hw]
      clear hw ha
      go_enter Tryd.func80, Tryd.ntmps80
      go_wp2
      go_ret2
      exact ⟨rfl, Up.alloc _ _⟩
    · by_cases h2 : s < -bound
      · have hw : within s bound = false := by simp [within]; omega
        rw [hw]
        clear hw ha
        go_enter Tryd.func80, Tryd.ntmps80
        go_wp2
        go_ret2
        exact ⟨rfl, Up.alloc _ _⟩
      · have hw : within s bound = true := by simp [within]; omega
        rw [hw]
        clear hw ha
        go_enter Tryd.func80, Tryd.ntmps80
        go_wp2
        go_ret2
        exact ⟨rfl, Up.alloc _ _⟩
  · have hw : within a bound = false := by simp [within]; omega
    rw [hw]
    clear hw ha hd hsg hb1
    go_enter Tryd.func80, Tryd.ntmps80
    go_wp2
    go_ret2
    exact ⟨rfl, Up.alloc _ _⟩
end Go.Proofs.YtahmjnjammcifaaDoor
