import Derived.Test.YtahmjnjammcifaaDoorDig4
namespace Go.Proofs.YtahmjnjammcifaaDoor
open Go.RowKit Fm

theorem shrink_own (g c m s : Nat) (w : World) (h : Own w g c m) (hs : s ≤ 4294967296) :
    Calls Tryd.prog 114 #[.slice (some ⟨g, 0, none⟩) (digs 4294967296 m).length c, .int .i64 s] w fun e w' =>
      (e = .returned (.slice (some ⟨g, 0, none⟩) (digs 4294967296 (m / 2 ^ s)).length c) ∧ Own w' g c (m / 2 ^ s)) ∧ w.grownBy w' (some g) := by
  obtain ⟨xs, h1, h2, h3, h4, h5, h6⟩ := h
  have := shrink_any g c (digs 4294967296 m).length s xs w h1 h2 h3 h5 h6 hs
  rw [h4, val_digs (by omega)] at this
  exact this

/-- The row behind 'make' and 'copy': the list itself. -/
theorem copied (ds : List Nat) : List.take 0 (zeroL ds.length) ++ (ds ++ List.drop (0 + ds.length) (zeroL ds.length)) = ds := by simp [zeroL]

set_option maxRecDepth 100000 in
theorem right_own (v : Value) (m s : Nat) (w : World) (h : Dv w v m) (hm : (digs 4294967296 m).length ≤ 2147483648) (hs : s ≤ 4294967296) :
    Calls Tryd.prog 104 #[v, .int .i64 s] w fun e w' =>
      ∃ g c, e = .returned (.slice (some ⟨g, 0, none⟩) (digs 4294967296 (m / 2 ^ s)).length c) ∧ Own w' g c (m / 2 ^ s) ∧ w.heap.size ≤ g ∧ Up w w' := by
  obtain ⟨A, c, rfl, hc, hcm, hr⟩ := h
  have hok := digs_ok (B := 4294967296) (by omega) m
  have hv := val_digs (B := 4294967296) (by omega) m
  generalize digs 4294967296 m = ds at *
  have HV := Lib.hid hv
  clear hv
  have hmk : ∀ W, (Instr.makeSlice 47 (.int .i64 (ds.length : Int)) (.int .i64 (ds.length : Int))).run Tryd.prog W = .ok (.slice (some ⟨W.heap.size, 0, none⟩) ds.length ds.length) (W.alloc (.cells (rowOf .u32 (zeroL ds.length)) 102)) :=
    fun W => mk32 ds.length (by omega) W
  have hrow0 := Row.new (k := .u32) (t := 102) w (zeroL ds.length)
  have hrA := hr.up (Up.alloc w (.cells (rowOf .u32 (zeroL ds.length)) 102))
  have HS0 : 0 ≤ (s : Int) := by omega
  have HS1 : (s : Int) ≤ 4294967296 := by omega
  go_enter Tryd.func104, Tryd.ntmps104
  go_wp2_with (first
    | (refine wpList_copy_row rfl (.tmp 9) (.tmp 10) _ _ rfl 102 Tryd.underlying47 size_u32 .u32 102 w.heap.size 0 ds.length _ _ _ _ _ ds rfl (fun _ => rfl) rfl hrow0 hrA (by omega) (by rw [zeroL_length]; omega) ?_; intro w1 hrow1 hg1
       rw [copied] at hrow1
       have hup1 : Up w w1 := (Up.alloc w _).grown hg1 (Nat.le_refl _))
    | (go_at_call 114
       refine (shrink_any w.heap.size ds.length ds.length s ds w1 hrow1 hok (Nat.le_refl _) (Nat.le_refl _) (by unfold maxLen; omega) hs).mono ?_
       rintro e w2 ⟨⟨rfl, ho⟩, hg2⟩
       rw [List.take_length, HV.out] at ho ⊢))
  go_ret
  exact ⟨_, _, rfl, ho, Nat.le_refl _, hup1.grown hg2 (Nat.le_refl _)⟩

set_option maxRecDepth 100000 in
theorem minus_dv (v1 v2 : Value) (m n : Nat) (w : World) (h1 : Dv w v1 m) (h2 : Dv w v2 n) (hm : (digs 4294967296 m).length ≤ 2147483648) (hnm : n ≤ m) :
    Calls Tryd.prog 100 #[v1, v2] w fun e w' => ∃ v, e = .returned v ∧ Dv w' v (m - n) ∧ Up w w' := by
  have hle : (digs 4294967296 n).length ≤ (digs 4294967296 m).length := by
    rcases Nat.lt_or_ge (digs 4294967296 m).length (digs 4294967296 n).length with h | h
    · have := lt_of_length_lt (B := 4294967296) (by omega) h; omega
    · exact h
  obtain ⟨A, c, rfl, hc, hcm, hr⟩ := h1
  obtain ⟨A2, c2, rfl, hc2, hcm2, hr2⟩ := h2
  have hok := digs_ok (B := 4294967296) (by omega) m
  have hok2 := digs_ok (B := 4294967296) (by omega) n
  have hv := val_digs (B := 4294967296) (by omega) m
  have hv2 := val_digs (B := 4294967296) (by omega) n
  generalize digs 4294967296 m = ds at *
  generalize digs 4294967296 n = es at *
  have HV := Lib.hid hv
  have HV2 := Lib.hid hv2
  clear hv hv2
  have hmk : ∀ W, (Instr.makeSlice 47 (.int .i64 (ds.length : Int)) (.int .i64 (ds.length : Int))).run Tryd.prog W = .ok (.slice (some ⟨W.heap.size, 0, none⟩) ds.length ds.length) (W.alloc (.cells (rowOf .u32 (zeroL ds.length)) 102)) :=
    fun W => mk32 ds.length (by omega) W
  have hrow0 := Row.new (k := .u32) (t := 102) w (zeroL ds.length)
  have hrA := hr.up (Up.alloc w (.cells (rowOf .u32 (zeroL ds.length)) 102))
  have haw : es ≠ [] → Away A2 w.heap.size := fun h => Away.of_lt hr2 h (Nat.le_refl _)
  have hr2A := hr2.up (Up.alloc w (.cells (rowOf .u32 (zeroL ds.length)) 102))
  go_enter Tryd.func100, Tryd.ntmps100
  go_wp2_with (first
    | (refine wpList_copy_row rfl (.tmp 9) (.tmp 10) _ _ rfl 102 Tryd.underlying47 size_u32 .u32 102 w.heap.size 0 ds.length _ _ _ _ _ ds rfl (fun _ => rfl) rfl hrow0 hrA (by omega) (by rw [zeroL_length]; omega) ?_; intro w1 hrow1 hg1
       rw [copied] at hrow1
       have hes1 : Rd .u32 w1 A2 es := fun h => (hr2A.grown hg1 (haw h)) h
       have hup1 : Up w w1 := (Up.alloc w _).grown hg1 (Nat.le_refl _))
    | (go_at_call 110
       refine (decrease_any w.heap.size 0 ds.length ds.length ds A2 c2 es w1 hrow1 (by simp) (by omega) (by unfold maxLen; omega) hok hle hes1 haw hok2 hc2).mono ?_
       rintro e w2 ⟨borrow, r, rfl, zs, hbor, hrow2, hzl, hzok, hzo, hzv, hg2, -⟩
       have hzv2 : val 4294967296 zs = m - n := by
         rw [← hzl, seg_all, hzl, seg_all, List.take_of_length_le hle, HV.out, HV2.out] at hzv
         have h1 := val_lt (B := 4294967296) (by omega) hzok
         rw [hzl] at h1
         rcases Nat.lt_or_ge 0 borrow with hb | hb
         · obtain rfl : borrow = 1 := by omega
           omega
         · obtain rfl : borrow = 0 := by omega
           omega
       have HZV := Lib.hid hzv2
       have HZL := Lib.hid hzl
       clear hzl hzv hzo hzv2)
    | (go_at_call 88
       refine (trim_row w.heap.size ds.length ds.length _ _ hrow2 hzok HZL.out (Nat.le_refl _) (by unfold maxLen; omega)).mono ?_
       rintro e w4 ⟨⟨rfl, hdv⟩, rfl⟩
       rw [HZV.out] at hdv ⊢))
  go_ret
  exact ⟨_, rfl, hdv, hup1.grown hg2 (Nat.le_refl _)⟩
end Go.Proofs.YtahmjnjammcifaaDoor
