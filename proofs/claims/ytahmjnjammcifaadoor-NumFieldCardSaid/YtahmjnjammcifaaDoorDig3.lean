import Derived.Test.YtahmjnjammcifaaDoorDig2b
namespace Go.Proofs.YtahmjnjammcifaaDoor
open Go.RowKit Fm

set_option maxRecDepth 100000 in
theorem plus_sw (A A2 : Option Addr) (c c2 : Nat) (ds es : List Nat) (w : World) (hr : Rd .u32 w A ds) (hr2 : Rd .u32 w A2 es) (hok : Ok 4294967296 ds) (hok2 : Ok 4294967296 es)
    (hle : es.length ≤ ds.length) (hsz : ds.length ≤ 2147483648) (hc2 : es.length ≤ c2) (sw : Bool) (hsw : sw = true → es.length < ds.length) :
    Calls Tryd.prog 99 (if sw then #[.slice A2 es.length c2, .slice A ds.length c] else #[.slice A ds.length c, .slice A2 es.length c2]) w fun e w' => ∃ v, e = .returned v ∧ Dv w' v (val 4294967296 ds + val 4294967296 es) ∧ Up w w' := by
  have hmk : ∀ W, (Instr.makeSlice 47 (.int .i64 ((ds.length : Int) + 1)) (.int .i64 ((ds.length : Int) + 1))).run Tryd.prog W = .ok (.slice (some ⟨W.heap.size, 0, none⟩) (ds.length + 1) (ds.length + 1)) (W.alloc (.cells (rowOf .u32 (zeroL (ds.length + 1))) 102)) :=
    fun W => by have := mk32 (ds.length + 1) (by omega) W; simpa using this
  have hrow0 := Row.new (k := .u32) (t := 102) w (zeroL (ds.length + 1))
  have hrA := hr.up (Up.alloc w (.cells (rowOf .u32 (zeroL (ds.length + 1))) 102))
  have haw : es ≠ [] → Away A2 w.heap.size := fun h => Away.of_lt hr2 h (Nat.le_refl _)
  have HN : Hid (zeroL (ds.length + 1) = zeroL ds.length ++ [0]) := by unfold Hid zeroL; rw [List.replicate_succ']
  have hr2A := hr2.up (Up.alloc w (.cells (rowOf .u32 (zeroL (ds.length + 1))) 102))
  cases sw
  case' true => have hlt := hsw rfl; simp only [if_true]
  case' false => simp only [Bool.false_eq_true, if_false]
  all_goals
    go_enter Tryd.func99, Tryd.ntmps99
    go_wp2_with (first
      | (refine wpList_copy_row rfl (.tmp 17) (.tmp 18) _ _ rfl 102 Tryd.underlying47 size_u32 .u32 102 w.heap.size 0 (ds.length + 1) _ _ _ _ _ ds rfl (fun _ => rfl) rfl hrow0 hrA (by omega) (by rw [zeroL_length]; omega) ?_; intro w1 hrow1 hg1
         have hrow1' : Row .u32 102 w1 w.heap.size (ds ++ [0]) := by
           have e : List.take 0 (zeroL (ds.length + 1)) ++ (ds ++ List.drop (0 + ds.length) (zeroL (ds.length + 1))) = ds ++ [0] := by simp [zeroL]
           rw [e] at hrow1; exact hrow1
         have hes1 : es ≠ [] → Rd .u32 w1 A2 es := fun h => hr2A.grown hg1 (haw h)
         have hes1 : Rd .u32 w1 A2 es := fun h => hes1 h h
         have hup1 : Up w w1 := (Up.alloc w _).grown hg1 (Nat.le_refl _)
         clear hrow1)
      | (go_at_call 109
         refine (increase_any w.heap.size 0 ds.length (ds.length + 1) (ds ++ [0]) A2 c2 es w1 hrow1' (by simp) (by omega) (by unfold maxLen; omega) (hok.append (Ok.cons (by omega) Ok.nil)) hle hes1 haw hok2 hc2).mono ?_
         rintro e w2 ⟨carry, rfl, zs, hcar, hrow2, hzl, hzok, hzo, hzv, hg2, -⟩
         have hzl' : zs.length = ds.length + 1 := by rw [hzl]; simp
         have hlt : ds.length < zs.length := by omega
         have hcell2 := hrow2.cell hlt
         have hfr2 := hrow2.frozen ds.length
         have hup2 : Up w w2 := hup1.grown hg2 (Nat.le_refl _)
         have HZ := Lib.hid hzl'
         have HV := Lib.hid hzv
         have HR := Lib.hid hrow2
         have hrow3 := hrow2.set ds.length carry
         have hok3 := hzok.set ds.length (x := carry) (by omega)
         have hl3 : (zs.set ds.length carry).length = ds.length + 1 := by rw [List.length_set, hzl']
         have HL3 := Lib.hid hl3
         have HR3 := Lib.hid hrow3
         have hv3 : val 4294967296 (zs.set ds.length carry) = val 4294967296 ds + val 4294967296 es := by
           rw [last_set hzl', val_snoc, seg_length (by omega), hzv, seg_append_left, List.take_of_length_le hle]
         have HV3 := Lib.hid hv3
         have hup3 : Up w (w2.setCell ⟨w.heap.size, ds.length, none⟩ (.int .u32 (carry : Int))) := hup1.grown (grown_set hg2 _ _) (Nat.le_refl _)
         clear hzl hzl' hzv hrow2 hrow3 hl3 hv3)
      | (go_at_call 88
         refine (trim_row w.heap.size (ds.length + 1) (ds.length + 1) _ _ HR3.out hok3 HL3.out (Nat.le_refl _) (by unfold maxLen; omega)).mono ?_
         rintro e w4 ⟨⟨rfl, hdv⟩, rfl⟩
         rw [HV3.out] at hdv ⊢))
    go_ret
    exact ⟨_, rfl, hdv, hup3⟩

theorem plus_dv (v1 v2 : Value) (m n : Nat) (w : World) (h1 : Dv w v1 m) (h2 : Dv w v2 n) (hm : (digs 4294967296 m).length ≤ 2147483648) (hn : (digs 4294967296 n).length ≤ 2147483648) :
    Calls Tryd.prog 99 #[v1, v2] w fun e w' => ∃ v, e = .returned v ∧ Dv w' v (m + n) ∧ Up w w' := by
  obtain ⟨A, c, rfl, hc, hcm, hr⟩ := h1
  obtain ⟨A2, c2, rfl, hc2, hcm2, hr2⟩ := h2
  rcases Nat.lt_or_ge (digs 4294967296 m).length (digs 4294967296 n).length with h | h
  · have := plus_sw A2 A c2 c _ _ w hr2 hr (digs_ok (by omega) n) (digs_ok (by omega) m) (Nat.le_of_lt h) hn hc true (fun _ => h)
    simpa only [if_true, val_digs (show 2 ≤ 4294967296 by omega), Nat.add_comm n m] using this
  · have := plus_sw A A2 c c2 _ _ w hr hr2 (digs_ok (by omega) m) (digs_ok (by omega) n) h hm hc2 false (fun e => by cases e)
    simpa only [Bool.false_eq_true, if_false, val_digs (show 2 ≤ 4294967296 by omega)] using this
end Go.Proofs.YtahmjnjammcifaaDoor
