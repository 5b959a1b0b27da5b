import Derived.Test.YtahmjnjammcifaaDoorDig13
namespace Go.Proofs.YtahmjnjammcifaaDoor
open Go.RowKit Fm

theorem Dv.nil (w : World) : Dv w (.slice none 0 0) 0 := ⟨none, 0, by rw [digs_zero]; rfl, by rw [digs_zero]; exact Nat.le_refl _, Nat.zero_le _, by rw [digs_zero]; exact Rd.nil⟩

theorem quoRem_less (v1 v2 : Value) (m n : Nat) (w : World) (h1 : Dv w v1 m) (h2 : Dv w v2 n) (hmn : m < n) :
    Calls Tryd.prog 101 #[v1, v2] w fun e w' => ∃ v3 v4, e = .returned (.tuple #[v3, v4]) ∧ Dv w' v3 (m / n) ∧ Dv w' v4 (m % n) ∧ Up w w' := by
  have hcmp : Calls Tryd.prog 92 #[v1, v2] w fun e w' => e = .returned (.int .i64 (-1)) ∧ ∃ q, w' = w.drewN q :=
    (cmp_any v1 v2 m n w h1 h2).mono fun _ _ ⟨he, hw⟩ => ⟨by rw [he, Int.sign_eq_neg_one_of_neg (by omega)], hw⟩
  have HCMP := Lib.hid hcmp
  have H1 := Lib.hid h1
  clear h1 h2 hcmp
  go_enter Tryd.func101, Tryd.ntmps101
  go_wp2_with (go_at_call 92; refine HCMP.out.mono ?_; rintro e w1 ⟨rfl, q, rfl⟩)
  go_ret2
  exact ⟨_, _, rfl, by rw [Nat.div_eq_of_lt hmn]; exact Dv.nil _, by rw [Nat.mod_eq_of_lt hmn]; exact H1.out.drewN q, Up.drewN w q⟩

theorem quoRem_one (v1 v2 : Value) (m n : Nat) (w : World) (h1 : Dv w v1 m) (h2 : Dv w v2 n) (hm : (digs 4294967296 m).length ≤ 1073741824) (hnm : n ≤ m) (hk : (digs 4294967296 n).length = 1) :
    Calls Tryd.prog 101 #[v1, v2] w fun e w' => ∃ v3 v4, e = .returned (.tuple #[v3, v4]) ∧ Dv w' v3 (m / n) ∧ Dv w' v4 (m % n) ∧ Up w w' := by
  have hcmp : Calls Tryd.prog 92 #[v1, v2] w fun e w' => (∃ sg : Int, e = .returned (.int .i64 sg) ∧ 0 ≤ sg) ∧ ∃ q, w' = w.drewN q :=
    (cmp_any v1 v2 m n w h1 h2).mono fun _ _ ⟨he, hw⟩ => ⟨⟨_, he, by
      rcases Nat.lt_or_ge n m with h | h
      · rw [Int.sign_eq_one_of_pos (by omega)]; omega
      · obtain rfl : m = n := by omega
        simp⟩, hw⟩
  have H1 := Lib.hid h1
  obtain ⟨A2, c2, rfl, hc2, hcm2, hr2⟩ := h2
  have hv := val_digs (B := 4294967296) (by omega) n
  have hok := digs_ok (B := 4294967296) (by omega) n
  have hpos := digs_top_pos (n := n) (k := 0) (by omega)
  have hb := hok.get (k := 0) (by omega)
  have hn0 : (digs 4294967296 n)[0]'(by omega) = n := by
    have e := val_take_succ 4294967296 (l := digs 4294967296 n) (k := 0) (by omega)
    rw [List.take_of_length_le (by omega), hv, List.take_zero, val, Nat.pow_zero, Nat.one_mul, Nat.zero_add] at e
    exact e.symm
  obtain ⟨b2, off2, rfl, hb2, hcell⟩ := hr2.at_ (i := 0) (by omega)
  rw [hn0] at hcell hpos hb
  rw [Nat.add_zero] at hcell
  rw [hk] at hc2 hcmp ⊢
  have HCMP := Lib.hid hcmp
  clear hr2 hcmp h1 hv hok hn0 hk
  go_enter Tryd.func101, Tryd.ntmps101
  go_wp2_with (first
    | (go_at_call 92; refine HCMP.out.mono ?_; rintro e w1 ⟨⟨sg, rfl, hsg⟩, q, rfl⟩)
    | (go_at_call 111; refine (quoRemDigit_any v1 m n _ (H1.out.drewN q) (by omega) hb hpos).mono ?_; rintro e w2 ⟨v3, v4, rfl, hd3, hd4, hup⟩; have HD3 := Lib.hid hd3; have HD4 := Lib.hid hd4; clear hd3 hd4))
  go_ret2
  exact ⟨_, _, rfl, HD3.out, HD4.out, (Up.drewN w q).trans hup⟩

theorem quoRem_dv (v1 v2 : Value) (m n : Nat) (w : World) (h1 : Dv w v1 m) (h2 : Dv w v2 n) (hm : (digs 4294967296 m).length ≤ 1073741824) (hn : 0 < n) :
    Calls Tryd.prog 101 #[v1, v2] w fun e w' => ∃ v3 v4, e = .returned (.tuple #[v3, v4]) ∧ Dv w' v3 (m / n) ∧ Dv w' v4 (m % n) ∧ Up w w' := by
  rcases Nat.lt_or_ge m n with h | h
  · exact quoRem_less v1 v2 m n w h1 h2 h
  · have hne : (digs 4294967296 n) ≠ [] := fun e => by rw [digs_eq_nil (by omega)] at e; omega
    have hl : 0 < (digs 4294967296 n).length := List.length_pos_iff.2 hne
    rcases Nat.lt_or_ge 1 (digs 4294967296 n).length with h3 | h3
    · exact quoRem_long v1 v2 m n ((digs 4294967296 n).length - 2) w h1 h2 hm h (by omega)
    · exact quoRem_one v1 v2 m n w h1 h2 hm h (by omega)
end Go.Proofs.YtahmjnjammcifaaDoor
