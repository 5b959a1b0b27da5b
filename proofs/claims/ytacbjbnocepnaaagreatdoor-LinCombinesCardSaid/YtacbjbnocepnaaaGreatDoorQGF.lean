/- Contracts of the integers of any size. -/
import Derived.Test.YtacbjbnocepnaaaGreatDoorQGE2
namespace Go.Proofs.YtacbjbnocepnaaaGreatDoor
open Go.RowKit Fm
def IVp (w : World) (s : Int) (d : Value) (z : Int) : Prop :=
  (z.natAbs < 4611686018427387904 ∧ s = z ∧ Sl .u32 w d []) ∨ (4611686018427387904 ≤ z.natAbs ∧ s = z.sign ∧ Dv w d z.natAbs)
def IV (w : World) (v : Value) (z : Int) : Prop := ∃ s d, v = .agg #[.int .i64 s, d] ∧ IVp w s d z
abbrev bl (z : Int) : Nat := (digs 4294967296 z.natAbs).length
theorem Sl.empty (k : IntKind) (w : World) : Sl k w (.slice none 0 0) [] := ⟨none, 0, rfl, Nat.le_refl _, Nat.zero_le _, Rd.nil⟩
theorem IVp.up {w w' : World} {s : Int} {d : Value} {z : Int} (h : IVp w s d z) (hu : Up w w') : IVp w' s d z := by
  rcases h with ⟨h1, h2, h3⟩ | ⟨h1, h2, h3⟩
  · exact .inl ⟨h1, h2, h3.up hu⟩
  · exact .inr ⟨h1, h2, Sl.up h3 hu⟩
theorem IV.up {w w' : World} {v : Value} {z : Int} (h : IV w v z) (hu : Up w w') : IV w' v z := by
  obtain ⟨s, d, hv, h⟩ := h; exact ⟨s, d, hv, h.up hu⟩
theorem IV.small {w : World} {z : Int} (h : z.natAbs < 4611686018427387904) : IV w (.agg #[.int .i64 z, .slice none 0 0]) z := ⟨_, _, rfl, .inl ⟨h, rfl, Sl.empty _ _⟩⟩
theorem IV.open_ {w : World} {v : Value} {z : Int} (h : IV w v z) : ∃ s A n c, v = .agg #[.int .i64 s, .slice A n c] ∧ IVp w s (.slice A n c) z ∧ -4611686018427387904 < s ∧ s < 4611686018427387904 ∧ n ≤ 9223372036854775807 ∧
    ((n = 0 ∧ s = z ∧ z.natAbs < 4611686018427387904) ∨ (0 < n ∧ s = z.sign ∧ 4611686018427387904 ≤ z.natAbs ∧ Dv w (.slice A n c) z.natAbs ∧ n = bl z)) := by
  obtain ⟨s, d, rfl, hp⟩ := h
  have hp0 := hp
  rcases hp with ⟨h1, h2, A, c, rfl, h3, h4, h5⟩ | ⟨h1, h2, h3⟩
  · exact ⟨s, A, 0, c, rfl, hp0, by omega, by omega, by omega, .inl ⟨rfl, h2, h1⟩⟩
  · have h3' := h3
    have hl := h3.len
    obtain ⟨A, c, rfl, h4, h5, h6⟩ := h3
    have hne : digs 4294967296 z.natAbs ≠ [] := fun e => by rw [digs_eq_nil (by omega)] at e; omega
    have hs : s = 1 ∨ s = -1 := by
      rcases Int.lt_trichotomy z 0 with h | h | h
      · right; rw [h2]; exact Int.sign_eq_neg_one_of_neg h
      · omega
      · left; rw [h2]; exact Int.sign_eq_one_of_pos h
    exact ⟨s, A, _, c, rfl, hp0, by omega, by omega, hl, .inr ⟨List.length_pos_iff.2 hne, h2, h1, h3', rfl⟩⟩
def Res2 (w : World) (g : Nat) : Prop := w.heap[g]? = some (.cells #[.int .i64 0, .slice none 0 0] 108 (0, 0))
theorem Res2.new (w : World) : Res2 (w.alloc (.cells #[.int .i64 0, .slice none 0 0] 108)) w.heap.size := heap_alloc_new w _
theorem Res2.lt {w : World} {g : Nat} (h : Res2 w g) : g < w.heap.size := by
  rcases Nat.lt_or_ge g w.heap.size with h1 | h1
  · exact h1
  · unfold Res2 at h; rw [Array.getElem?_eq_none h1] at h; cases h
theorem Res2.up {w w' : World} {g : Nat} (h : Res2 w g) (hu : Up w w') : Res2 w' g := (hu.block g h.lt).trans h
theorem Res2.drewN {w : World} {g : Nat} (h : Res2 w g) (n : Nat) : Res2 (w.drewN n) g := h
theorem Res2.facts {w : World} {g : Nat} (h : Res2 w g) : w.cell? ⟨g, 0, none⟩ = some (.int .i64 0) ∧ w.cell? ⟨g, 1, none⟩ = some (.slice none 0 0) ∧ w.frozen? ⟨g, 0, none⟩ = false ∧ w.frozen? ⟨g, 1, none⟩ = false :=
  ⟨by rw [cell_of_row w g 0 _ _ _ h]; rfl, by rw [cell_of_row w g 1 _ _ _ h]; rfl, by unfold Res2 at h; simp [World.frozen?, h], by unfold Res2 at h; simp [World.frozen?, h]⟩
theorem Res2.not_digit {w : World} {g : Nat} (h : Res2 w g) (i x : Nat) : w.cell? ⟨g, i, none⟩ ≠ some (.int .u32 (x : Int)) := by
  rw [cell_of_row w g i _ _ _ h]
  match i with
  | 0 => intro e; injection e with e; injection e with e1 e2; cases e1
  | 1 => intro e; injection e with e; cases e
  | k + 2 => simp
theorem Res2.stored {w : World} {g : Nat} (h : Res2 w g) (x y : Value) : ((w.setCell ⟨g, 0, none⟩ x).setCell ⟨g, 1, none⟩ y).cell? ⟨g, 0, none⟩ = some x ∧ ((w.setCell ⟨g, 0, none⟩ x).setCell ⟨g, 1, none⟩ y).cell? ⟨g, 1, none⟩ = some y := by
  unfold Res2 at h
  have h1 : ((w.setCell ⟨g, 0, none⟩ x).setCell ⟨g, 1, none⟩ y).heap[g]? = some (.cells #[x, y] 108 (0, 0)) := by
    simp [World.setCell, Array.getElem?_modify, h]
  exact ⟨by rw [cell_of_row _ g 0 _ _ _ h1]; rfl, by rw [cell_of_row _ g 1 _ _ _ h1]; rfl⟩
theorem Up.stored {w0 w : World} {g : Nat} (h : Up w0 w) (hg : w0.heap.size ≤ g) (x y : Value) : Up w0 ((w.setCell ⟨g, 0, none⟩ x).setCell ⟨g, 1, none⟩ y) :=
  (Below.setCell (p := ⟨g, 0, none⟩) h hg x).setCell (p := ⟨g, 1, none⟩) hg y
theorem IV.stored {w : World} {v : Value} {z : Int} {g : Nat} (h : IV w v z) (hg : Res2 w g) (x y : Value) : IV ((w.setCell ⟨g, 0, none⟩ x).setCell ⟨g, 1, none⟩ y) v z := by
  obtain ⟨s, d, rfl, hp⟩ := h
  refine ⟨s, d, rfl, ?_⟩
  have hkey : ∀ ds, Sl .u32 w d ds → Sl .u32 ((w.setCell ⟨g, 0, none⟩ x).setCell ⟨g, 1, none⟩ y) d ds := by
    rintro ds ⟨A, c, rfl, h1, h2, h3⟩
    refine ⟨A, c, rfl, h1, h2, fun hn => ?_⟩
    obtain ⟨b, off, rfl, hb, hc⟩ := h3 hn
    have hne : b ≠ g := by
      rintro rfl
      exact hg.not_digit _ _ (hc 0 (List.length_pos_iff.2 hn))
    refine ⟨b, off, rfl, by simpa [World.setCell] using hb, fun i hi => ?_⟩
    rw [World.cell?_setCell_other _ _ _ _ (by intro e; injection e with e; exact hne e.symm), World.cell?_setCell_other _ _ _ _ (by intro e; injection e with e; exact hne e.symm)]
    exact hc i hi
  rcases hp with ⟨h1, h2, h3⟩ | ⟨h1, h2, h3⟩
  · exact .inl ⟨h1, h2, hkey _ h3⟩
  · exact .inr ⟨h1, h2, hkey _ h3⟩
theorem size_any (n : Int) (w : World) (h1 : -9223372036854775808 ≤ n) (h2 : n ≤ 9223372036854775807) :
    Calls Tryz.prog 130 #[.int .i64 n] w fun e w' => e = .returned (.int .u64 (n.natAbs : Nat)) ∧ w = w' := by
  rcases Int.lt_or_le n 0 with h | h
  · go_enter Tryz.func130, Tryz.ntmps130
    go_wp2
    go_ret
    exact ⟨ret_u64 (by rw [IntKind.wrap_u64, IntKind.wrap_u64]; omega), rfl⟩
  · go_enter Tryz.func130, Tryz.ntmps130
    go_wp2
    go_ret
    exact ⟨ret_u64 (by omega), rfl⟩
theorem word_int (v : Value) (n : Nat) (x : Int) (w : World) (h : Dv w v n) (hx : x = n) (hn : n < 18446744073709551616) :
    Calls Tryz.prog 147 #[v] w fun e w' => e = .returned (.int .u64 x) ∧ w = w' := by
  subst hx; exact word_any v n w h hn
theorem neg_small {x : Int} {m : Nat} {w : World} (hx : x = m) (hm : m < 4611686018427387904) : IV w (.agg #[.int .i64 (-x), .slice none 0 0]) (-(m : Int)) := by
  rw [hx]; exact IV.small (by omega)
theorem pos_small {x : Int} {m : Nat} {w : World} (hx : x = m) (hm : m < 4611686018427387904) : IV w (.agg #[.int .i64 x, .slice none 0 0]) (m : Int) := by
  rw [hx]; exact IV.small (by omega)
theorem neg_large {m : Nat} {w : World} {d : Value} (hm : 4611686018427387904 ≤ m) (h : Dv w d m) : IV w (.agg #[.int .i64 (-1), d]) (-(m : Int)) :=
  ⟨_, _, rfl, .inr ⟨by omega, (Int.sign_eq_neg_one_of_neg (by omega)).symm, by rw [Int.natAbs_neg, Int.natAbs_natCast]; exact h⟩⟩
theorem pos_large {m : Nat} {w : World} {d : Value} (hm : 4611686018427387904 ≤ m) (h : Dv w d m) : IV w (.agg #[.int .i64 1, d]) (m : Int) :=
  ⟨_, _, rfl, .inr ⟨by omega, (Int.sign_eq_one_of_pos (by omega)).symm, by rw [Int.natAbs_natCast]; exact h⟩⟩
set_option maxRecDepth 10000 in
theorem signed_small (neg : Bool) (d : Value) (m : Nat) (w : World) (h : Dv w d m) (hs : m < 4611686018427387904) :
    Calls Tryz.prog 131 #[.bool neg, d] w fun e w' => ∃ v, e = .returned v ∧ IV w' v (if neg then -(m : Int) else m) ∧ Up w w' := by
  have H := Lib.hid h
  have hl := digs_length_le (B := 4294967296) (n := m) (k := 2) (by omega) (by omega)
  obtain ⟨A, c, rfl, hc, hcm, hr⟩ := h
  obtain ⟨x, hx⟩ : ∃ x : Int, x = (m : Int) := ⟨_, rfl⟩
  have hx0 : 0 ≤ x := by omega
  have hx1 : x < 4611686018427387904 := by omega
  have HX := Lib.hid hx
  have HS := Lib.hid hs
  have hword : ∀ o, Calls Tryz.prog 147 #[.slice A (digs 4294967296 m).length c] (w.alloc o) fun e w' => e = .returned (.int .u64 x) ∧ w.alloc o = w' := fun o => word_int _ m x _ (Sl.up H.out (Up.alloc _ _)) hx (by omega)
  have HW := Lib.hid hword
  clear hs hword hx
  cases neg
  all_goals
    go_enter Tryz.func131, Tryz.ntmps131
    go_wp2_with (go_at_call 147; refine (HW.out _).mono ?_; rintro e w1 ⟨rfl, rfl⟩)
    refine bodyPost_ret (by simp [results, Tryz.results131, go_sem]; try rfl) rfl ?_
    first
      | exact ⟨_, rfl, pos_small HX.out HS.out, Up.alloc _ _⟩
      | exact ⟨_, rfl, neg_small HX.out HS.out, Up.alloc _ _⟩
set_option maxRecDepth 10000 in
theorem signed_large (neg : Bool) (d : Value) (m : Nat) (w : World) (h : Dv w d m) (hs : 4611686018427387904 ≤ m) :
    Calls Tryz.prog 131 #[.bool neg, d] w fun e w' => ∃ v, e = .returned v ∧ IV w' v (if neg then -(m : Int) else m) ∧ Up w w' := by
  have H := Lib.hid h
  have h63 := h.len
  have HS := Lib.hid hs
  obtain ⟨A, c, rfl, hc, hcm, hr⟩ := h
  by_cases hl : (digs 4294967296 m).length ≤ 2
  · have hm64 : m < 18446744073709551616 := by
      have := val_lt (B := 4294967296) (by omega) (digs_ok (B := 4294967296) (by omega) m)
      rw [val_digs (by omega)] at this
      have h2 := Nat.pow_le_pow_right (n := 4294967296) (by omega) hl
      omega
    obtain ⟨x, hx⟩ : ∃ x : Int, x = (m : Int) := ⟨_, rfl⟩
    have hx0 : 4611686018427387904 ≤ x := by omega
    have hword : ∀ o, Calls Tryz.prog 147 #[.slice A (digs 4294967296 m).length c] (w.alloc o) fun e w' => e = .returned (.int .u64 x) ∧ w.alloc o = w' := fun o => word_int _ m x _ (Sl.up H.out (Up.alloc _ _)) hx hm64
    have HW := Lib.hid hword
    clear hs hword hx hm64
    cases neg
    all_goals
      go_enter Tryz.func131, Tryz.ntmps131
      go_wp2_with (go_at_call 147; refine (HW.out _).mono ?_; rintro e w1 ⟨rfl, rfl⟩)
      refine bodyPost_ret (by simp [results, Tryz.results131, go_sem]; try rfl) rfl ?_
      first
        | exact ⟨_, rfl, pos_large HS.out (Sl.up H.out (Up.alloc _ _)), Up.alloc _ _⟩
        | exact ⟨_, rfl, neg_large HS.out (Sl.up H.out (Up.alloc _ _)), Up.alloc _ _⟩
  · clear hs
    cases neg
    all_goals
      go_enter Tryz.func131, Tryz.ntmps131
      go_wp2
      refine bodyPost_ret (by simp [results, Tryz.results131, go_sem]; try rfl) rfl ?_
      first
        | exact ⟨_, rfl, pos_large HS.out (Sl.up H.out (Up.alloc _ _)), Up.alloc _ _⟩
        | exact ⟨_, rfl, neg_large HS.out (Sl.up H.out (Up.alloc _ _)), Up.alloc _ _⟩
theorem signed_any (neg : Bool) (d : Value) (m : Nat) (w : World) (h : Dv w d m) :
    Calls Tryz.prog 131 #[.bool neg, d] w fun e w' => ∃ v, e = .returned v ∧ IV w' v (if neg then -(m : Int) else m) ∧ Up w w' := by
  rcases Nat.lt_or_ge m 4611686018427387904 with hs | hs
  · exact signed_small neg d m w h hs
  · exact signed_large neg d m w h hs
set_option maxRecDepth 10000 in
theorem of_any (n : Int) (w : World) (h1 : -9223372036854775808 ≤ n) (h2 : n ≤ 9223372036854775807) :
    Calls Tryz.prog 116 #[.int .i64 n] w fun e w' => ∃ v, e = .returned v ∧ IV w' v n ∧ Up w w' := by
  by_cases h : n.natAbs < 4611686018427387904
  · have H := Lib.hid h
    clear h
    have h3 : -4611686018427387904 < n := by have := H.out; omega
    have h4 : n < 4611686018427387904 := by have := H.out; omega
    go_enter Tryz.func116, Tryz.ntmps116
    go_wp2
    refine bodyPost_ret (by simp [results, Tryz.results116, go_sem]; try rfl) rfl ?_
    exact ⟨_, rfl, IV.small H.out, Up.alloc _ _⟩
  · have hsz := fun W => size_any n W h1 h2
    have hnb : n.natAbs < 18446744073709551616 := by omega
    have hnat := fun W => natural_any n.natAbs W hnb
    have HSZ := Lib.hid hsz
    have HNAT := Lib.hid hnat
    clear hsz hnat hnb
    rcases Int.lt_or_le n 0 with hn | hn
    · have h5 : n ≤ -4611686018427387904 := by omega
      have hneg : decide (n < 0) = true := by simpa using hn
      have hv : (if true = true then -((n.natAbs : Nat) : Int) else (n.natAbs : Nat)) = n := by rw [if_pos rfl]; omega
      have HV := Lib.hid hv
      clear h hv
      go_enter Tryz.func116, Tryz.ntmps116
      go_wp2_with (first
        | (go_at_call 130; refine (HSZ.out _).mono ?_; rintro e w1 ⟨rfl, rfl⟩)
        | (go_at_call 138; refine (HNAT.out _).mono ?_; rintro e w1 ⟨v1, rfl, hd1, hu1⟩; have HD1 := Lib.hid hd1; clear hd1))
      have hu01 := (Up.alloc w (.cells #[.int .i64 0, .slice none 0 0] 108)).trans hu1
      have hres := (Res2.new w).up hu1
      refine (signed_any _ _ n.natAbs _ HD1.out).mono ?_
      rintro e w2 ⟨v2, rfl, hv2, hu2⟩
      have hres2 := hres.up hu2
      obtain ⟨s, A, nn, c, rfl, -, -, -, -, -⟩ := hv2.open_
      obtain ⟨hc0, hc1, hf0, hf1⟩ := hres2.facts
      have HV2 := Lib.hid hv2
      clear hv2
      obtain ⟨hs0, hs1⟩ := hres2.stored (.int .i64 s) (.slice A nn c)
      have HVS := Lib.hid (HV2.out.stored hres2 (.int .i64 s) (.slice A nn c))
      have HUS := Lib.hid ((hu01.trans hu2).stored (Nat.le_refl _) (.int .i64 s) (.slice A nn c))
      go_wp2
      refine bodyPost_ret (by simp [results, Tryz.results116, go_sem, hs0, hs1]; try rfl) rfl ?_
      rw [HV.out] at HVS
      exact ⟨_, rfl, HVS.out, HUS.out⟩
    · have h5 : 4611686018427387904 ≤ n := by omega
      have hneg : decide (n < 0) = false := by simp; omega
      have hv : (if false = true then -((n.natAbs : Nat) : Int) else (n.natAbs : Nat)) = n := by rw [if_neg (by decide)]; omega
      have HV := Lib.hid hv
      clear h hv
      go_enter Tryz.func116, Tryz.ntmps116
      go_wp2_with (first
        | (go_at_call 130; refine (HSZ.out _).mono ?_; rintro e w1 ⟨rfl, rfl⟩)
        | (go_at_call 138; refine (HNAT.out _).mono ?_; rintro e w1 ⟨v1, rfl, hd1, hu1⟩; have HD1 := Lib.hid hd1; clear hd1))
      have hu01 := (Up.alloc w (.cells #[.int .i64 0, .slice none 0 0] 108)).trans hu1
      have hres := (Res2.new w).up hu1
      refine (signed_any _ _ n.natAbs _ HD1.out).mono ?_
      rintro e w2 ⟨v2, rfl, hv2, hu2⟩
      have hres2 := hres.up hu2
      obtain ⟨s, A, nn, c, rfl, -, -, -, -, -⟩ := hv2.open_
      obtain ⟨hc0, hc1, hf0, hf1⟩ := hres2.facts
      have HV2 := Lib.hid hv2
      clear hv2
      obtain ⟨hs0, hs1⟩ := hres2.stored (.int .i64 s) (.slice A nn c)
      have HVS := Lib.hid (HV2.out.stored hres2 (.int .i64 s) (.slice A nn c))
      have HUS := Lib.hid ((hu01.trans hu2).stored (Nat.le_refl _) (.int .i64 s) (.slice A nn c))
      go_wp2
      refine bodyPost_ret (by simp [results, Tryz.results116, go_sem, hs0, hs1]; try rfl) rfl ?_
      rw [HV.out] at HVS
      exact ⟨_, rfl, HVS.out, HUS.out⟩
end Go.Proofs.YtacbjbnocepnaaaGreatDoor
namespace Go.Proofs.YtacbjbnocepnaaaGreatDoor
open Go.RowKit Fm
set_option maxRecDepth 10000 in
theorem bothSmall_any (v1 v2 : Value) (a b : Int) (w : World) (h1 : IV w v1 a) (h2 : IV w v2 b) :
    Calls Tryz.prog 128 #[v1, v2] w fun e w' => e = .returned (.bool (decide (a.natAbs < 4611686018427387904 ∧ b.natAbs < 4611686018427387904))) ∧ Up w w' := by
  obtain ⟨s, A, n, c, rfl, -, -, -, hn, hc⟩ := h1.open_
  obtain ⟨s2, A2, n2, c2, rfl, -, -, -, hn2, hc2⟩ := h2.open_
  clear h1 h2
  rcases hc with ⟨rfl, -, ha⟩ | ⟨hpos, -, ha, -, -⟩
  · rcases hc2 with ⟨rfl, -, hb⟩ | ⟨hpos2, -, hb, -, -⟩
    · have hr : decide (a.natAbs < 4611686018427387904 ∧ b.natAbs < 4611686018427387904) = true := by simp; exact ⟨ha, hb⟩
      rw [hr]
      clear hr ha hb
      go_enter Tryz.func128, Tryz.ntmps128
      go_wp2
      go_ret
      exact ⟨rfl, (Up.alloc _ _).trans (Up.alloc _ _)⟩
    · have hr : decide (a.natAbs < 4611686018427387904 ∧ b.natAbs < 4611686018427387904) = false := by simp; intro _; exact hb
      rw [hr]
      clear hr ha hb
      have hz : ((n2 : Int) == 0) = false := by simp; omega
      go_enter Tryz.func128, Tryz.ntmps128
      go_wp2
      go_ret
      exact ⟨rfl, (Up.alloc _ _).trans (Up.alloc _ _)⟩
  · have hr : decide (a.natAbs < 4611686018427387904 ∧ b.natAbs < 4611686018427387904) = false := by simp; omega
    rw [hr]
    clear hr ha hc2
    have hz : ((n : Int) == 0) = false := by simp; omega
    go_enter Tryz.func128, Tryz.ntmps128
    go_wp2
    go_ret
    exact ⟨rfl, (Up.alloc _ _).trans (Up.alloc _ _)⟩
set_option maxRecDepth 10000 in
theorem digits_any (v : Value) (a : Int) (w : World) (h : IV w v a) :
    Calls Tryz.prog 132 #[v] w fun e w' => ∃ d, e = .returned d ∧ Dv w' d a.natAbs ∧ Up w w' := by
  obtain ⟨s, A, n, c, rfl, -, hs1, hs2, hn, hc⟩ := h.open_
  clear h
  rcases hc with ⟨rfl, rfl, ha⟩ | ⟨hpos, -, ha, hd, -⟩
  · have hsz := fun W => size_any s W (by omega) (by omega)
    have hnat := fun W => natural_any s.natAbs W (by omega)
    have HSZ := Lib.hid hsz
    have HNAT := Lib.hid hnat
    clear hsz hnat ha hs1 hs2
    go_enter Tryz.func132, Tryz.ntmps132
    go_wp2_with (first
      | (go_at_call 130; refine (HSZ.out _).mono ?_; rintro e w1 ⟨rfl, rfl⟩)
      | (go_at_call 138; refine (HNAT.out _).mono ?_; rintro e w1 ⟨v1, rfl, hd1, hu1⟩; have HD1 := Lib.hid hd1; clear hd1))
    go_ret
    exact ⟨_, rfl, HD1.out, (Up.alloc _ _).trans hu1⟩
  · have HD := Lib.hid hd
    clear hd ha hs1 hs2
    go_enter Tryz.func132, Tryz.ntmps132
    go_wp2
    go_ret
    exact ⟨_, rfl, Sl.up HD.out (Up.alloc _ _), Up.alloc _ _⟩
set_option maxRecDepth 10000 in
theorem intSign_any (v : Value) (a : Int) (w : World) (h : IV w v a) :
    Calls Tryz.prog 101 #[v] w fun e w' => e = .returned (.int .i64 a.sign) ∧ Up w w' := by
  obtain ⟨s, A, n, c, rfl, -, hs1, hs2, hn, hc⟩ := h.open_
  clear h
  have hsg : s.sign = a.sign := by
    rcases hc with ⟨-, rfl, -⟩ | ⟨-, rfl, -⟩
    · rfl
    · exact Int.sign_sign
  have HSG := Lib.hid hsg
  clear hsg hc hs1 hs2
  go_enter Tryz.func101, Tryz.ntmps101
  go_wp2_with (go_at_call 134; refine (sign_any _ _).mono ?_; rintro e w1 ⟨rfl, rfl⟩)
  go_ret
  exact ⟨ret_int HSG.out, Up.alloc _ _⟩
set_option maxRecDepth 10000 in
theorem neg_any (v : Value) (a : Int) (w : World) (h : IV w v a) :
    Calls Tryz.prog 62 #[v] w fun e w' => ∃ v', e = .returned v' ∧ IV w' v' (-a) ∧ Up w w' := by
  obtain ⟨s, A, n, c, rfl, hp, hs1, hs2, hn, hc⟩ := h.open_
  have hq : IVp w (-s) (.slice A n c) (-a) := by
    rcases hp with ⟨h1, rfl, h3⟩ | ⟨h1, rfl, h3⟩
    · exact .inl ⟨by rw [Int.natAbs_neg]; exact h1, rfl, h3⟩
    · exact .inr ⟨by rw [Int.natAbs_neg]; exact h1, by rw [Int.sign_neg], by rw [Int.natAbs_neg]; exact h3⟩
  have HQ := Lib.hid hq
  clear h hp hc hq
  go_enter Tryz.func62, Tryz.ntmps62
  go_wp2
  refine bodyPost_ret (by simp [results, Tryz.results62, go_sem]; try rfl) rfl ?_
  have hu : Up w ((w.alloc (.cells #[.int .i64 s, .slice A n c] 108)).alloc (.cells #[.int .i64 (-s), .slice A n c] 108)) := (Up.alloc _ _).trans (Up.alloc _ _)
  exact ⟨_, rfl, ⟨_, _, rfl, HQ.out.up hu⟩, hu⟩
def within (a bound : Int) : Bool := decide (-bound ≤ a ∧ a ≤ bound)
set_option maxRecDepth 10000 in
theorem within_any (v : Value) (a bound : Int) (w : World) (h : IV w v a) (hb0 : 0 ≤ bound) (hb1 : bound < 4611686018427387904) :
    Calls Tryz.prog 86 #[v, .int .i64 bound] w fun e w' => e = .returned (.tuple #[.int .i64 (if within a bound then a else 0), .bool (within a bound)]) ∧ Up w w' := by
  obtain ⟨s, A, n, c, rfl, -, hs1, hs2, hn, hc⟩ := h.open_
  clear h
  rcases hc with ⟨rfl, rfl, ha⟩ | ⟨hpos, hsg, ha, hd, -⟩
  · by_cases h1 : bound < s
    · have hw : within s bound = false := by simp [within]; omega
      rw [hw]
      clear hw ha
      go_enter Tryz.func86, Tryz.ntmps86
      go_wp2
      go_ret2
      exact ⟨rfl, Up.alloc _ _⟩
    · by_cases h2 : s < -bound
      · have hw : within s bound = false := by simp [within]; omega
        rw [hw]
        clear hw ha
        go_enter Tryz.func86, Tryz.ntmps86
        go_wp2
        go_ret2
        exact ⟨rfl, Up.alloc _ _⟩
      · have hw : within s bound = true := by simp [within]; omega
        rw [hw]
        clear hw ha
        go_enter Tryz.func86, Tryz.ntmps86
        go_wp2
        go_ret2
        exact ⟨rfl, Up.alloc _ _⟩
  · have hw : within a bound = false := by simp [within]; omega
    rw [hw]
    clear hw ha hd hsg hb1
    go_enter Tryz.func86, Tryz.ntmps86
    go_wp2
    go_ret2
    exact ⟨rfl, Up.alloc _ _⟩
end Go.Proofs.YtacbjbnocepnaaaGreatDoor
