/- Contracts of the reference implementation: its integers. -/
import Derived.Test.YtacbjbnocepnaaaGreatDoorQGB
import Derived.Laws.AppendOwnNone
import Derived.Deep.LoopGhost
import Derived.Deep.RegionHeld3
import Derived.Deep.RegionWith
namespace Go.Proofs.YtacbjbnocepnaaaGreatDoor
open Go.RowKit Fm
abbrev rl (z : Int) : Nat := (digs 1073741824 z.natAbs).length
def RI (w : World) (v : Value) (z : Int) : Prop := ∃ s g A n c, v = .agg #[.int .i64 s, .bool g, .slice A n c] ∧
  ((n = 0 ∧ s = z ∧ z.natAbs < 2305843009213693952) ∨ (s = 0 ∧ g = decide (z < 0) ∧ 2305843009213693952 ≤ z.natAbs ∧ Ev w (.slice A n c) z.natAbs))
theorem RI.up {w w' : World} {v : Value} {z : Int} (h : RI w v z) (hu : Up w w') : RI w' v z := by
  obtain ⟨s, g, A, n, c, hv, h⟩ := h
  refine ⟨s, g, A, n, c, hv, ?_⟩
  rcases h with h | ⟨h1, h2, h3, h4⟩
  · exact .inl h
  · exact .inr ⟨h1, h2, h3, Sl.up h4 hu⟩
theorem RI.small {w : World} {z : Int} (h : z.natAbs < 2305843009213693952) : RI w (.agg #[.int .i64 z, .bool false, .slice none 0 0]) z := ⟨z, false, none, 0, 0, rfl, .inl ⟨rfl, rfl, h⟩⟩
theorem RI.open_ {w : World} {v : Value} {z : Int} (h : RI w v z) : ∃ s g A n c, v = .agg #[.int .i64 s, .bool g, .slice A n c] ∧ -2305843009213693952 < s ∧ s < 2305843009213693952 ∧ n ≤ 9223372036854775807 ∧
    ((n = 0 ∧ s = z ∧ z.natAbs < 2305843009213693952) ∨ (0 < n ∧ s = 0 ∧ g = decide (z < 0) ∧ 2305843009213693952 ≤ z.natAbs ∧ Ev w (.slice A n c) z.natAbs ∧ n = rl z)) := by
  obtain ⟨s, g, A, n, c, rfl, h⟩ := h
  rcases h with ⟨h1, h2, h3⟩ | ⟨h1, h2, h3, h4⟩
  · exact ⟨s, g, A, n, c, rfl, by omega, by omega, by omega, .inl ⟨h1, h2, h3⟩⟩
  · have hl := h4.len
    have h4' := h4
    obtain ⟨A', c', he, h5, h6, h7⟩ := h4
    injection he with e1 e2 e3
    have hne : digs 1073741824 z.natAbs ≠ [] := fun e => by rw [digs_eq_nil (by omega)] at e; omega
    exact ⟨s, g, A, n, c, rfl, by omega, by omega, by omega, .inr ⟨by rw [e2]; exact List.length_pos_iff.2 hne, h1, h2, h3, h4', e2⟩⟩
def Res3 (w : World) (g : Nat) : Prop := w.heap[g]? = some (.cells #[.int .i64 0, .bool false, .slice none 0 0] 48 (0, 0))
theorem Res3.new (w : World) : Res3 (w.alloc (.cells #[.int .i64 0, .bool false, .slice none 0 0] 48)) w.heap.size := heap_alloc_new w _
theorem Res3.lt {w : World} {g : Nat} (h : Res3 w g) : g < w.heap.size := by
  rcases Nat.lt_or_ge g w.heap.size with h1 | h1
  · exact h1
  · unfold Res3 at h; rw [Array.getElem?_eq_none h1] at h; cases h
theorem Res3.up {w w' : World} {g : Nat} (h : Res3 w g) (hu : Up w w') : Res3 w' g := (hu.block g h.lt).trans h
theorem Res3.drewN {w : World} {g : Nat} (h : Res3 w g) (n : Nat) : Res3 (w.drewN n) g := h
theorem Res3.facts {w : World} {g : Nat} (h : Res3 w g) : w.cell? ⟨g, 0, none⟩ = some (.int .i64 0) ∧ w.cell? ⟨g, 1, none⟩ = some (.bool false) ∧ w.cell? ⟨g, 2, none⟩ = some (.slice none 0 0) ∧ w.frozen? ⟨g, 0, none⟩ = false ∧ w.frozen? ⟨g, 1, none⟩ = false ∧ w.frozen? ⟨g, 2, none⟩ = false ∧ g < w.heap.size :=
  ⟨by rw [cell_of_row w g 0 _ _ _ h]; rfl, by rw [cell_of_row w g 1 _ _ _ h]; rfl, by rw [cell_of_row w g 2 _ _ _ h]; rfl, by unfold Res3 at h; simp [World.frozen?, h], by unfold Res3 at h; simp [World.frozen?, h], by unfold Res3 at h; simp [World.frozen?, h], h.lt⟩
abbrev put3 (w : World) (g : Nat) (x y z : Value) : World := ((w.setCell ⟨g, 0, none⟩ x).setCell ⟨g, 1, none⟩ y).setCell ⟨g, 2, none⟩ z
theorem Res3.stored {w : World} {g : Nat} (h : Res3 w g) (x y z : Value) : (put3 w g x y z).cell? ⟨g, 0, none⟩ = some x ∧ (put3 w g x y z).cell? ⟨g, 1, none⟩ = some y ∧ (put3 w g x y z).cell? ⟨g, 2, none⟩ = some z := by
  unfold Res3 at h
  have h1 : (put3 w g x y z).heap[g]? = some (.cells #[x, y, z] 48 (0, 0)) := by
    simp [put3, World.setCell, Array.getElem?_modify, h]
  exact ⟨by rw [cell_of_row _ g 0 _ _ _ h1]; rfl, by rw [cell_of_row _ g 1 _ _ _ h1]; rfl, by rw [cell_of_row _ g 2 _ _ _ h1]; rfl⟩
theorem up_setCell {w0 w : World} {g : Nat} (h : Up w0 w) (hg : w0.heap.size ≤ g) (i : Nat) (x : Value) : Up w0 (w.setCell ⟨g, i, none⟩ x) :=
  Below.setCell h (p := ⟨g, i, none⟩) hg x
theorem Up.put3 {w0 w : World} {g : Nat} (h : Up w0 w) (hg : w0.heap.size ≤ g) (x y z : Value) : Up w0 (put3 w g x y z) :=
  up_setCell (up_setCell (up_setCell h hg 0 x) hg 1 y) hg 2 z
set_option maxRecDepth 10000 in
theorem refSign_any (v : Value) (z : Int) (w : World) (h : RI w v z) :
    Calls Tryz.prog 73 #[v] w fun e w' => e = .returned (.int .i64 z.sign) ∧ Up w w' := by
  obtain ⟨s, g, A, n, c, rfl, hs1, hs2, hn, h⟩ := h.open_
  rcases h with ⟨rfl, rfl, hz⟩ | ⟨hn0, rfl, rfl, hz, -, -⟩
  · rcases Int.lt_trichotomy s 0 with h | h | h
    · rw [Int.sign_eq_neg_one_of_neg h]
      clear hz
      go_enter Tryz.func73, Tryz.ntmps73
      go_wp2
      go_ret
      exact ⟨rfl, Up.alloc _ _⟩
    · subst h
      clear hz
      go_enter Tryz.func73, Tryz.ntmps73
      go_wp2
      go_ret
      exact ⟨rfl, Up.alloc _ _⟩
    · rw [Int.sign_eq_one_of_pos h]
      clear hz
      go_enter Tryz.func73, Tryz.ntmps73
      go_wp2
      go_ret
      exact ⟨rfl, Up.alloc _ _⟩
  · rcases Int.lt_or_lt_of_ne (show z ≠ 0 by omega) with h | h
    · rw [Int.sign_eq_neg_one_of_neg h, decide_eq_true h]
      clear hz h
      go_enter Tryz.func73, Tryz.ntmps73
      go_wp2
      go_ret
      exact ⟨rfl, Up.alloc _ _⟩
    · rw [Int.sign_eq_one_of_pos h, decide_eq_false (show ¬ z < 0 by omega)]
      clear hz h
      go_enter Tryz.func73, Tryz.ntmps73
      go_wp2
      go_ret
      exact ⟨rfl, Up.alloc _ _⟩
set_option maxRecDepth 10000 in
theorem refMinus_any (v : Value) (z : Int) (w : World) (h : RI w v z) :
    Calls Tryz.prog 105 #[v] w fun e w' => ∃ v', e = .returned v' ∧ RI w' v' (-z) ∧ Up w w' := by
  obtain ⟨s, g, A, n, c, rfl, hs1, hs2, hn, h⟩ := h.open_
  rcases h with ⟨rfl, rfl, hz⟩ | ⟨hn0, rfl, hg, hz, hE, -⟩
  · have HZ := Lib.hid hz
    clear hz
    go_enter Tryz.func105, Tryz.ntmps105
    go_wp2
    refine bodyPost_ret (by simp [results, Tryz.results105, go_sem]; try rfl) rfl ?_
    exact ⟨_, rfl, ⟨-s, false, A, 0, c, rfl, .inl ⟨rfl, rfl, by have := HZ.out; omega⟩⟩, (Up.alloc _ _).trans (Up.alloc _ _)⟩
  · have HZ := Lib.hid hz
    have HE := Lib.hid hE
    have HG : Hid ((!g) = decide (-z < 0)) := by
      unfold Hid
      subst hg
      rcases Int.lt_or_lt_of_ne (show z ≠ 0 by omega) with h | h
      · rw [decide_eq_true h, decide_eq_false (show ¬ -z < 0 by omega)]; rfl
      · rw [decide_eq_false (show ¬ z < 0 by omega), decide_eq_true (show -z < 0 by omega)]; rfl
    clear hz hE hg
    go_enter Tryz.func105, Tryz.ntmps105
    go_wp2
    refine bodyPost_ret (by simp [results, Tryz.results105, go_sem]; try rfl) rfl ?_
    refine ⟨_, rfl, ⟨0, !g, A, n, c, rfl, .inr ⟨rfl, HG.out, ?_, ?_⟩⟩, (Up.alloc _ _).trans (Up.alloc _ _)⟩
    · rw [Int.natAbs_neg]; exact HZ.out
    · rw [Int.natAbs_neg]; exact Sl.up HE.out ((Up.alloc _ _).trans (Up.alloc _ _))
set_option maxRecDepth 10000 in
theorem refSmall_any (v : Value) (z : Int) (w : World) (h : RI w v z) :
    Calls Tryz.prog 50 #[v] w fun e w' => e = .returned (.tuple #[.int .i64 (if -1152921504606846976 ≤ z ∧ z ≤ 1152921504606846976 then z else 0), .bool (decide (-1152921504606846976 ≤ z ∧ z ≤ 1152921504606846976))]) ∧ Up w w' := by
  obtain ⟨s, g, A, n, c, rfl, hs1, hs2, hn, h⟩ := h.open_
  rcases h with ⟨rfl, rfl, hz⟩ | ⟨hn0, rfl, hg, hz, hE, -⟩
  · clear hz
    by_cases h1 : 1152921504606846976 < s
    · rw [if_neg (by omega), decide_eq_false (by omega)]
      go_enter Tryz.func50, Tryz.ntmps50
      go_wp2
      go_ret2
      exact ⟨rfl, by (repeat (first | exact Below.refl _ _ | exact Hid.out (by assumption) | refine Up.trans ?_ (Up.drew _) | refine Up.trans ?_ (Up.drewN _ _) | refine Up.trans ?_ (Up.alloc _ _) | refine Up.trans ?_ (Hid.out (by assumption))))⟩
    · by_cases h2 : s < -1152921504606846976
      · rw [if_neg (by omega), decide_eq_false (by omega)]
        go_enter Tryz.func50, Tryz.ntmps50
        go_wp2
        go_ret2
        exact ⟨rfl, by (repeat (first | exact Below.refl _ _ | exact Hid.out (by assumption) | refine Up.trans ?_ (Up.drew _) | refine Up.trans ?_ (Up.drewN _ _) | refine Up.trans ?_ (Up.alloc _ _) | refine Up.trans ?_ (Hid.out (by assumption))))⟩
      · rw [if_pos (by omega), decide_eq_true (by omega)]
        go_enter Tryz.func50, Tryz.ntmps50
        go_wp2
        go_ret2
        exact ⟨rfl, by (repeat (first | exact Below.refl _ _ | exact Hid.out (by assumption) | refine Up.trans ?_ (Up.drew _) | refine Up.trans ?_ (Up.drewN _ _) | refine Up.trans ?_ (Up.alloc _ _) | refine Up.trans ?_ (Hid.out (by assumption))))⟩
  · rw [if_neg (by omega), decide_eq_false (by omega)]
    clear hz hE hg
    go_enter Tryz.func50, Tryz.ntmps50
    go_wp2
    go_ret2
    exact ⟨rfl, by (repeat (first | exact Below.refl _ _ | exact Hid.out (by assumption) | refine Up.trans ?_ (Up.drew _) | refine Up.trans ?_ (Up.drewN _ _) | refine Up.trans ?_ (Up.alloc _ _) | refine Up.trans ?_ (Hid.out (by assumption))))⟩
end Go.Proofs.YtacbjbnocepnaaaGreatDoor
namespace Go.Proofs.YtacbjbnocepnaaaGreatDoor
open Go.RowKit Fm
theorem refTrim_any (A : Option Addr) (c : Nat) (ds : List Nat) (w : World) (hc : ds.length ≤ c) (hcm : c ≤ maxLen) (hr : Rd .i64 w A ds) (hok : Ok 1073741824 ds) :
    Calls Tryz.prog 144 #[.slice A ds.length c] w fun e w' => e = .returned (.slice A (digs 1073741824 (val 1073741824 ds)).length c) ∧ w = w' := by
  unfold maxLen at hcm
  rw [← cut_eq_digs (by omega) hok]
  go_enter Tryz.func144, Tryz.ntmps144
  go_wp2
  go_loop [0] (fun v => ∃ k : Nat, k ≤ ds.length ∧ v = .slice A k c ∧ Hid (cut (ds.take k) = cut ds)) (fun v => match v with | .slice _ n _ => n | _ => 0)
  case atStart => exact ⟨ds.length, Nat.le_refl _, rfl, by unfold Hid; rw [List.take_length]⟩
  case round =>
    obtain ⟨k, hk, rfl, hcut⟩ := hrel
    by_cases h0 : k = 0
    · subst h0
      go_wp2
      go_ret
      exact ⟨by rw [← cut_stop hk hcut.out (.inl rfl)]; rfl, rfl⟩
    · obtain ⟨j, rfl⟩ : ∃ j, k = j + 1 := ⟨k - 1, by omega⟩
      obtain ⟨b, off, rfl, hb, hcell⟩ := hr.at_ (i := j) (by omega)
      by_cases hz : ds[j] = 0
      · have hz' : ((ds[j] : Nat) : Int) = 0 := by rw [hz]; rfl
        go_wp2
        exact ⟨⟨j, by omega, rfl, by unfold Hid; rw [← hcut.out]; exact (cut_take_zero (by omega) hz).symm⟩, by simp⟩
      · have hf := cut_stop hk hcut.out (.inr ⟨j, by omega, rfl, hz⟩)
        have HF := Lib.hid hf
        clear hf
        go_wp2
        go_ret
        exact ⟨by rw [← HF.out]; rfl, rfl⟩
theorem refTrim_sl (v : Value) (ds : List Nat) (w : World) (h : Sl .i64 w v ds) (hok : Ok 1073741824 ds) :
    Calls Tryz.prog 144 #[v] w fun e w' => ∃ v', e = .returned v' ∧ Ev w v' (val 1073741824 ds) ∧ w = w' := by
  obtain ⟨A, c, rfl, h1, h2, h3⟩ := h
  refine (refTrim_any A c ds w h1 h2 h3 hok).mono ?_
  rintro e w' ⟨rfl, rfl⟩
  have hd := digs_take (B := 1073741824) (by omega) hok
  exact ⟨_, rfl, ⟨A, c, rfl, Nat.le_trans hd.1 h1, h2, hd.2 ▸ h3.take _⟩, rfl⟩
theorem refCmp_any (v1 v2 : Value) (m n : Nat) (w : World) (h1 : Ev w v1 m) (h2 : Ev w v2 n) :
    Calls Tryz.prog 112 #[v1, v2] w fun e w' => e = .returned (.int .i64 ((m : Int) - n).sign) ∧ ∃ k, w' = w.drewN k := by
  have hm63 := h1.len
  have hn63 := h2.len
  obtain ⟨A, c, rfl, hc, hcm, hr⟩ := h1
  obtain ⟨A2, c2, rfl, hc2, hcm2, hr2⟩ := h2
  by_cases hl : (digs 1073741824 m).length = (digs 1073741824 n).length
  · have hl1 : ((digs 1073741824 m).length != (digs 1073741824 n).length) = false := by simp [hl]
    have HL := Lib.hid hl
    have hm1 := digs_ok (B := 1073741824) (by omega) m
    have hn1 := digs_ok (B := 1073741824) (by omega) n
    have hm2 := val_digs (B := 1073741824) (by omega) m
    have hn2 := val_digs (B := 1073741824) (by omega) n
    generalize digs 1073741824 m = ds at *
    generalize digs 1073741824 n = es at *
    have HM := Lib.hid hm2
    have HN := Lib.hid hn2
    have HL1 := Lib.hid hl1
    clear hm2 hn2 hl1
    rw [← hl]
    clear hl
    go_enter Tryz.func112, Tryz.ntmps112
    go_wp2
    go_loopw [5] (fun i wr => ∃ k q : Nat, k ≤ ds.length ∧ i = .int .i64 ((k : Int) - 1) ∧ Hid (ds.drop k = es.drop k) ∧ wr = w.drewN q) (fun i _ => (intOf i + 1).toNat)
    case atStart => exact ⟨ds.length, 0, Nat.le_refl _, rfl, by unfold Hid; rw [List.drop_eq_nil_of_le (Nat.le_refl _), List.drop_eq_nil_of_le (by have := HL.out; omega)], rfl⟩
    case round =>
      obtain ⟨k, q, hk, rfl, hd, rfl⟩ := hrel
      by_cases h0 : k = 0
      · subst h0
        go_wp2
        go_ret
        have : ds = es := by simpa using hd.out
        subst this
        have := HM.out.symm.trans HN.out
        subst this
        exact ⟨ret_int (by simp), _, rfl⟩
      · obtain ⟨j, rfl⟩ : ∃ j, k = j + 1 := ⟨k - 1, by omega⟩
        have hje : j < es.length := by have := HL.out; omega
        obtain ⟨b, off, rfl, hb, hcell⟩ := hr.at_ (i := j) (by omega)
        obtain ⟨b2, off2, rfl, hb2, hcell2⟩ := hr2.at_ (i := j) hje
        have hlt := @lt_of_drop 1073741824 (by omega) ds es j hm1 HL.out (by omega) hd.out
        have hgt := @lt_of_drop 1073741824 (by omega) es ds j hn1 HL.out.symm hje hd.out.symm
        rw [HM.out, HN.out] at hlt hgt
        have hdd : ds[j] = es[j] → ds.drop j = es.drop j := fun e => by
          rw [List.drop_eq_getElem_cons (by omega : j < ds.length), List.drop_eq_getElem_cons hje, e, hd.out]
        rw [show ((j + 1 : Nat) : Int) - 1 = (j : Int) by omega]
        generalize ds[j] = x at *
        generalize es[j] = y at *
        have HLT := Lib.hid hlt
        have HGT := Lib.hid hgt
        have HDD := Lib.hid hdd
        clear hlt hgt hdd
        rcases Nat.lt_trichotomy x y with hxy | hxy | hxy
        · go_wp2
          go_quiet (fail)
          go_wp2
          go_ret
          refine ⟨ret_int ?_, by simp only [World.drewN_drewN]; exact ⟨_, rfl⟩⟩
          have := HLT.out hxy
          exact (Int.sign_eq_neg_one_of_neg (by omega)).symm
        · subst hxy
          go_wp2
          go_quiet (fail)
          go_wp2
          go_quiet (fail)
          go_wp2
          go_roundw
          case rel => exact ⟨j, _, by omega, rfl, HDD.out trivial, rfl⟩
          case measure => simp [intOf]
        · go_wp2
          go_quiet (fail)
          go_wp2
          go_quiet (fail)
          go_wp2
          go_ret
          refine ⟨ret_int ?_, by simp only [World.drewN_drewN]; exact ⟨_, rfl⟩⟩
          have := HGT.out hxy
          exact (Int.sign_eq_one_of_pos (by omega)).symm
  · have hlb : ((((digs 1073741824 m).length : Nat) : Int) != (digs 1073741824 n).length) = true := by simp; omega
    have hlt := lt_of_length_lt (B := 1073741824) (m := m) (n := n) (by omega)
    have hgt := lt_of_length_lt (B := 1073741824) (m := n) (n := m) (by omega)
    generalize (digs 1073741824 m).length = x at *
    generalize (digs 1073741824 n).length = y at *
    have HLT := Lib.hid hlt
    have HGT := Lib.hid hgt
    clear hlt hgt
    rcases Nat.lt_or_ge x y with h | h
    · go_enter Tryz.func112, Tryz.ntmps112
      go_wp2
      go_ret
      refine ⟨ret_int ?_, 0, rfl⟩
      have := HLT.out h
      exact (Int.sign_eq_neg_one_of_neg (by omega)).symm
    · have hxy : y < x := by omega
      go_enter Tryz.func112, Tryz.ntmps112
      go_wp2
      go_ret
      refine ⟨ret_int ?_, 0, rfl⟩
      have := HGT.out hxy
      exact (Int.sign_eq_one_of_pos (by omega)).symm
def Ow (w : World) (base : Nat) (v : Value) (ds : List Nat) : Prop := w.ownsRow base 3 1 v ds.length (ds.map fun d : Nat => Value.int .i64 (d : Int))
theorem Ow.nil (w : World) (base : Nat) : Ow w base (.slice none 0 0) [] := World.ownsRow_nil _ _ _ _
theorem Ow.sl {w : World} {base : Nat} {v : Value} {ds : List Nat} (h : Ow w base v ds) : Sl .i64 w v ds := by
  obtain ⟨hl, h⟩ := h
  rcases h with ⟨rfl, hn⟩ | ⟨g, cap, cur, rfl, hb, hg, hle, hcm, hsz, htk⟩
  · obtain rfl : ds = [] := List.eq_nil_of_length_eq_zero hn
    exact ⟨none, 0, rfl, Nat.le_refl _, Nat.zero_le _, Rd.nil⟩
  · refine ⟨some ⟨g, 0, none⟩, cap, rfl, hle, hcm, fun _ => ⟨g, 0, rfl, ?_, fun i hi => ?_⟩⟩
    · rcases Nat.lt_or_ge g w.heap.size with hlt | hge
      · exact hlt
      · rw [Array.getElem?_eq_none hge] at hg; cases hg
    · rw [cell_of_row w g (0 + i) _ _ _ hg]
      have h1 : (cur.toList.take (ds.length * 1))[i]? = some (Value.int .i64 (ds[i] : Nat)) := by
        rw [htk, List.getElem?_map, List.getElem?_eq_getElem hi]; rfl
      rw [List.getElem?_take_of_lt (by omega)] at h1
      rw [Nat.zero_add, ← h1]
      simp
theorem Ow.up {w w' : World} {base : Nat} {v : Value} {ds : List Nat} (h : Ow w base v ds) (hu : Up w w') : Ow w' base v ds := by
  obtain ⟨hl, h⟩ := h
  refine ⟨hl, ?_⟩
  rcases h with h | ⟨g, cap, cur, rfl, hb, hg, hle, hcm, hsz, htk⟩
  · exact .inl h
  · refine .inr ⟨g, cap, cur, rfl, hb, ?_, hle, hcm, hsz, htk⟩
    have hlt : g < w.heap.size := by
      rcases Nat.lt_or_ge g w.heap.size with hlt | hge
      · exact hlt
      · rw [Array.getElem?_eq_none hge] at hg; cases hg
    exact (hu.block g hlt).trans hg
theorem Ow.block {w : World} {base : Nat} {v : Value} {ds : List Nat} (h : Ow w base v ds) : ∀ k, v.ownBlock = some k → base ≤ k := by
  obtain ⟨-, h⟩ := h
  rcases h with ⟨rfl, -⟩ | ⟨g, cap, cur, rfl, hb, -⟩
  · intro k hk; cases hk
  · intro k hk; cases hk; exact hb
theorem wpList_push {w : World} {ops : Array Oper} {rest : List Oper} {o : Oper} {a : Act} {Q : Exit → Act → World → Prop} (w0 : World) (hgd : o.guard = none) (s x : Operand)
    (ho : o.op = .call { callee := .builtin .append, args := #[s, x], argTypes := #[26, 26] }) (v : Value) (ds : List Nat) (hs : a.eval s = v) (hown : Ow w w0.heap.size v ds) (hu : Up w0 w)
    (g : Nat) (hx : a.eval x = .slice (some ⟨g, 0, none⟩) 1 1) (d : Nat) (hcell : w.cell? ⟨g, 0, none⟩ = some (.int .i64 (d : Int))) (hlen : ds.length ≤ 1099511627776)
    (h : ∀ v' w', Ow w' w0.heap.size v' (ds ++ [d]) → Up w0 w' → wpList Tryz.prog ops Q rest (a.put o.dst v') w') : wpList Tryz.prog ops Q (o :: rest) a w := by
  obtain ⟨i0, hi, hz0, hz1, hz2⟩ := info_parts info_i64
  refine wpList_append_own w hgd s x 26 ho w0.heap.size 3 i0 (.int .i64 0) 1 8 Tryz.underlying26 hi hz0 hz1 hz2 rfl (by decide) v ds.length _ hs hown ⟨g, 0, none⟩ 1 1 [.int .i64 (d : Int)] hx rfl ?_ ?_ (by unfold maxLen; omega) (by omega) hu.size ?_
  · intro j u hj
    match j, hj with
    | 0, hj => simp at hj; subst hj; simpa [Addr.add] using hcell
  · intro u hu; simp at hu; subst hu; rfl
  · intro v' w' h1 h2 _
    refine h v' w' ?_ ?_
    · unfold Ow
      rw [List.map_append, List.length_append]
      exact h1
    · exact Below.grown hu h2 hu.size (fun k hk => hown.block k hk)
end Go.Proofs.YtacbjbnocepnaaaGreatDoor
namespace Go.Proofs.YtacbjbnocepnaaaGreatDoor
open Go.RowKit Fm
structure SumAt (ds es zs : List Nat) (k c : Nat) : Prop where
  len : zs.length = k
  ok : Ok 1073741824 zs
  car : c ≤ 1
  eq : val 1073741824 zs + 1073741824 ^ k * c = val 1073741824 (ds.take k) + val 1073741824 (es.take k)
  fin : k ≤ max ds.length es.length + 1
theorem take_next (B : Nat) (l : List Nat) (k : Nat) : val B (l.take (k + 1)) = val B (l.take k) + B ^ k * l.getD k 0 := by
  by_cases h : k < l.length
  · rw [val_take_succ B h, List.getD_eq_getElem?_getD, List.getElem?_eq_getElem h]; rfl
  · rw [List.take_of_length_le (by omega), List.take_of_length_le (by omega), List.getD_eq_getElem?_getD, List.getElem?_eq_none (by omega)]; simp
theorem getD_lt {B : Nat} (hB : 0 < B) {l : List Nat} (h : Ok B l) (k : Nat) : l.getD k 0 < B := by
  by_cases hk : k < l.length
  · rw [List.getD_eq_getElem?_getD, List.getElem?_eq_getElem hk]; exact h.get hk
  · rw [List.getD_eq_getElem?_getD, List.getElem?_eq_none (by omega)]; exact hB
theorem SumAt.next {ds es zs : List Nat} {k c : Nat} (h : SumAt ds es zs k c) (hd : Ok 1073741824 ds) (he : Ok 1073741824 es) (hgo : k < ds.length ∨ k < es.length ∨ 0 < c) (s : Nat) (hs : s = c + ds.getD k 0 + es.getD k 0) :
    SumAt ds es (zs ++ [s % 1073741824]) (k + 1) (s / 1073741824) := by
  have h1 := getD_lt (B := 1073741824) (by omega) hd k
  have h2 := getD_lt (B := 1073741824) (by omega) he k
  have hc := h.car
  have hk := h.fin
  refine ⟨by rw [List.length_append, h.len]; rfl, h.ok.append (Ok.cons (Nat.mod_lt _ (by omega)) Ok.nil), by omega, ?_, ?_⟩
  · rw [val_snoc, h.len, take_next, take_next]
    have h3 := h.eq
    have h4 := Nat.mod_add_div s 1073741824
    rw [Nat.pow_succ]
    generalize 1073741824 ^ k = p at *
    have e : p * s = p * (s % 1073741824) + p * 1073741824 * (s / 1073741824) := by
      rw [Nat.mul_assoc, ← Nat.mul_add, h4]
    rw [hs] at e
    rw [Nat.mul_add, Nat.mul_add] at e
    rw [← hs] at e
    omega
  · rcases hgo with hg | hg | hg
    · omega
    · omega
    · -- a carry behind all digits: the round before was the last one with digits
      rcases Nat.lt_or_ge k (max ds.length es.length + 1) with hlt | hge
      · omega
      · exfalso
        have hk1 : k = max ds.length es.length + 1 := by omega
        have h3 := h.eq
        rw [List.take_of_length_le (by omega), List.take_of_length_le (by omega)] at h3
        have v1 := val_lt (B := 1073741824) (by omega) hd
        have v2 := val_lt (B := 1073741824) (by omega) he
        have p1 : 1073741824 ^ ds.length ≤ 1073741824 ^ max ds.length es.length := Nat.pow_le_pow_right (by omega) (by omega)
        have p2 : 1073741824 ^ es.length ≤ 1073741824 ^ max ds.length es.length := Nat.pow_le_pow_right (by omega) (by omega)
        rw [hk1, Nat.pow_succ] at h3
        generalize 1073741824 ^ max ds.length es.length = p at *
        obtain rfl : c = 1 := by omega
        omega
theorem cell_one (w : World) (z : Int) (d : Nat) (h : z = (d : Int)) : (w.alloc (.cells #[.int .i64 z] 3)).cell? ⟨w.heap.size, 0, none⟩ = some (.int .i64 (d : Int)) := by
  subst h
  rw [cell_of_row _ _ 0 _ _ _ (heap_alloc_new w _)]; rfl
set_option maxHeartbeats 1000000 in
set_option maxRecDepth 10000 in
theorem refSum_any (v1 v2 : Value) (ds es : List Nat) (w : World) (h1 : Sl .i64 w v1 ds) (h2 : Sl .i64 w v2 es) (hd : Ok 1073741824 ds) (he : Ok 1073741824 es) (hl1 : ds.length ≤ 1073741824) (hl2 : es.length ≤ 1073741824) :
    Calls Tryz.prog 111 #[v1, v2] w fun e w' => ∃ v zs, e = .returned v ∧ Sl .i64 w' v zs ∧ Ok 1073741824 zs ∧ val 1073741824 zs = val 1073741824 ds + val 1073741824 es ∧ zs.length ≤ max ds.length es.length + 1 ∧ Up w w' := by
  obtain ⟨A, c, rfl, hc, hcm, hr⟩ := h1
  obtain ⟨A2, c2, rfl, hc2, hcm2, hr2⟩ := h2
  go_enter Tryz.func111, Tryz.ntmps111
  go_wp2
  go_loopw [5, 6, 7] (fun v c i wr => ∃ (k q : Nat) (zs : List Nat), i = .int .i64 k ∧ c = .int .i64 q ∧ Hid (SumAt ds es zs k q) ∧ Ow wr w.heap.size v zs ∧ Up w wr) (fun _ _ i _ => max ds.length es.length + 1 - (intOf i).toNat)
  case atStart => exact ⟨0, 0, [], rfl, rfl, ⟨rfl, Ok.nil, by omega, by simp [val], by omega⟩, Ow.nil _ _, Up.refl _⟩
  case round =>
    obtain ⟨k, q, zs, rfl, rfl, HS, hown, hup⟩ := hrel
    have hkm := HS.out.fin
    have hq1 := HS.out.car
    have hzl := HS.out.len
    have hN := fun hgo s hs => HS.out.next hd he hgo s hs
    have hrA := hr.up hup
    have hrB := hr2.up hup
    have HNIL := Lib.hid (fun (h1 : ¬ k < ds.length) (h2 : ¬ k < es.length) (h3 : ¬ 0 < q) => show val 1073741824 zs = val 1073741824 ds + val 1073741824 es by
      have h4 := HS.out.eq
      obtain rfl : q = 0 := by omega
      rw [List.take_of_length_le (by omega), List.take_of_length_le (by omega)] at h4
      simpa using h4)
    have HOK := Lib.hid HS.out.ok
    by_cases ha : k < ds.length
    · by_cases hb : k < es.length
      · obtain ⟨b, off, rfl, hbb, hcell⟩ := hrA.at_ ha
        obtain ⟨b2, off2, rfl, hbb2, hcell2⟩ := hrB.at_ hb
        have hx := hd.get ha
        have hy := he.get hb
        have hN' := hN (.inl ha) (q + ds[k] + es[k]) (by simp [ha, hb])
        generalize ds[k] = x at *
        generalize es[k] = y at *
        have HN := Lib.hid hN'
        clear hN hN' HS
        go_wp2_with (at_builtin; refine wpList_push w rfl (.tmp 44) (.tmp 47) rfl _ zs rfl (hown.up (Up.alloc _ _)) (hup.trans (Up.alloc _ _)) wr.heap.size rfl ((q + x + y) % 1073741824) (cell_one _ _ _ (by omega)) (by omega) ?_; intro v' w' hown' hup')
        go_roundw
        case rel => exact ⟨k + 1, (q + x + y) / 1073741824, _, by simp, by simp, HN, hown', hup'⟩
        case measure => simp [intOf]; omega
      · obtain ⟨b, off, rfl, hbb, hcell⟩ := hrA.at_ ha
        have hx := hd.get ha
        have hN' := hN (.inl ha) (q + ds[k]) (by simp [ha]; rw [List.getElem?_eq_none (by omega)]; simp)
        generalize ds[k] = x at *
        have HN := Lib.hid hN'
        clear hN hN' HS
        go_wp2_with (at_builtin; refine wpList_push w rfl (.tmp 44) (.tmp 47) rfl _ zs rfl (hown.up (Up.alloc _ _)) (hup.trans (Up.alloc _ _)) wr.heap.size rfl ((q + x) % 1073741824) (cell_one _ _ _ (by omega)) (by omega) ?_; intro v' w' hown' hup')
        go_roundw
        case rel => exact ⟨k + 1, (q + x) / 1073741824, _, by simp, by simp, HN, hown', hup'⟩
        case measure => simp [intOf]; omega
    · by_cases hb : k < es.length
      · obtain ⟨b2, off2, rfl, hbb2, hcell2⟩ := hrB.at_ hb
        have hy := he.get hb
        have hN' := hN (.inr (.inl hb)) (q + es[k]) (by simp [hb]; rw [List.getElem?_eq_none (by omega)]; simp)
        generalize es[k] = y at *
        have HN := Lib.hid hN'
        clear hN hN' HS
        go_wp2_with (at_builtin; refine wpList_push w rfl (.tmp 44) (.tmp 47) rfl _ zs rfl (hown.up (Up.alloc _ _)) (hup.trans (Up.alloc _ _)) wr.heap.size rfl ((q + y) % 1073741824) (cell_one _ _ _ (by omega)) (by omega) ?_; intro v' w' hown' hup')
        go_roundw
        case rel => exact ⟨k + 1, (q + y) / 1073741824, _, by simp, by simp, HN, hown', hup'⟩
        case measure => simp [intOf]; omega
      · by_cases hc0 : 0 < q
        · have hN' := hN (.inr (.inr hc0)) q (by rw [List.getD_eq_getElem?_getD, List.getD_eq_getElem?_getD, List.getElem?_eq_none (by omega), List.getElem?_eq_none (by omega)]; simp)
          have HN := Lib.hid hN'
          clear hN hN' HS
          go_wp2_with (at_builtin; refine wpList_push w rfl (.tmp 44) (.tmp 47) rfl _ zs rfl (hown.up (Up.alloc _ _)) (hup.trans (Up.alloc _ _)) wr.heap.size rfl (q % 1073741824) (cell_one _ _ _ (by omega)) (by omega) ?_; intro v' w' hown' hup')
          go_roundw
          case rel => exact ⟨k + 1, q / 1073741824, _, by simp, by simp, HN, hown', hup'⟩
          case measure => simp [intOf]; have := HN.out.fin; omega
        · clear hN HS
          go_wp2
          go_ret
          exact ⟨_, zs, rfl, hown.sl, HOK.out, HNIL.out ha hb hc0, by omega, hup⟩
end Go.Proofs.YtacbjbnocepnaaaGreatDoor
namespace Go.Proofs.YtacbjbnocepnaaaGreatDoor
open Go.RowKit Fm
structure DifAt (ds es zs : List Nat) (k c : Nat) : Prop where
  len : zs.length = k
  ok : Ok 1073741824 zs
  car : c ≤ 1
  eq' : val 1073741824 zs + val 1073741824 (es.take k) = val 1073741824 (ds.take k) + 1073741824 ^ k * c
  fin : k ≤ ds.length
theorem DifAt.next {ds es zs : List Nat} {k c : Nat} (h : DifAt ds es zs k c) (hk : k < ds.length) (x y d c' : Nat) (hx : ds[k] = x) (hy : es.getD k 0 = y) (hd : d < 1073741824) (hc : c' ≤ 1) (he : d + y + c = x + 1073741824 * c') :
    DifAt ds es (zs ++ [d]) (k + 1) c' := by
  refine ⟨by rw [List.length_append, h.len]; rfl, h.ok.append (Ok.cons hd Ok.nil), hc, ?_, hk⟩
  rw [val_snoc, h.len, take_next, val_take_succ _ hk, hx, hy]
  have h3 := h.eq'
  rw [Nat.pow_succ]
  generalize 1073741824 ^ k = p at *
  have e : p * (d + y + c) = p * (x + 1073741824 * c') := by rw [he]
  rw [Nat.mul_add, Nat.mul_add, Nat.mul_add, ← Nat.mul_assoc] at e
  omega
set_option maxHeartbeats 1000000 in
set_option maxRecDepth 10000 in
theorem refDif_any (v1 v2 : Value) (ds es : List Nat) (w : World) (h1 : Sl .i64 w v1 ds) (h2 : Sl .i64 w v2 es) (hd : Ok 1073741824 ds) (he : Ok 1073741824 es) (hl : es.length ≤ ds.length) (hle : val 1073741824 es ≤ val 1073741824 ds) (hl1 : ds.length ≤ 1073741824) :
    Calls Tryz.prog 113 #[v1, v2] w fun e w' => ∃ v zs, e = .returned v ∧ Ow w' w.heap.size v zs ∧ Ok 1073741824 zs ∧ val 1073741824 zs = val 1073741824 ds - val 1073741824 es ∧ zs.length = ds.length ∧ Up w w' := by
  obtain ⟨A, c, rfl, hc, hcm, hr⟩ := h1
  obtain ⟨A2, c2, rfl, hc2, hcm2, hr2⟩ := h2
  have HLE := Lib.hid hle
  clear hle
  go_enter Tryz.func113, Tryz.ntmps113
  go_wp2
  go_loopw [5, 6, 10] (fun v c i wr => ∃ (k q : Nat) (zs : List Nat), i = .int .i64 k ∧ c = .int .i64 (-(q : Int)) ∧ Hid (DifAt ds es zs k q) ∧ Ow wr w.heap.size v zs ∧ Up w wr) (fun _ _ i _ => ds.length - (intOf i).toNat)
  case atStart => exact ⟨0, 0, [], rfl, rfl, ⟨rfl, Ok.nil, by omega, by simp [val], by omega⟩, Ow.nil _ _, Up.refl _⟩
  case round =>
    obtain ⟨k, q, zs, rfl, rfl, HS, hown, hup⟩ := hrel
    have hkm := HS.out.fin
    have hq1 := HS.out.car
    have hzl := HS.out.len
    have hN := fun (hk : k < ds.length) x y d c' => HS.out.next hk x y d c'
    have hrA := hr.up hup
    have hrB := hr2.up hup
    by_cases ha : k < ds.length
    · obtain ⟨b, off, rfl, hbb, hcell⟩ := hrA.at_ ha
      have hx := hd.get ha
      have hNa := hN ha
      clear hN
      by_cases hb : k < es.length
      · obtain ⟨b2, off2, rfl, hbb2, hcell2⟩ := hrB.at_ hb
        have hy := he.get hb
        have hNb := fun d c' => hNa ds[k] es[k] d c' rfl (by simp [hb])
        clear hNa
        generalize ds[k] = x at *
        generalize es[k] = y at *
        by_cases hlt : x < y + q
        · have HN := Lib.hid (hNb (x + 1073741824 - y - q) 1 (by omega) (by omega) (by omega))
          clear hNb HS
          go_wp2_with (at_builtin; refine wpList_push w rfl (.tmp 31) (.tmp 34) rfl _ zs rfl (hown.up (Up.alloc _ _)) (hup.trans (Up.alloc _ _)) wr.heap.size rfl (x + 1073741824 - y - q) (cell_one _ _ _ (by omega)) (by omega) ?_; intro v' w' hown' hup')
          go_roundw
          case rel => exact ⟨k + 1, 1, _, by simp, by simp, HN, hown', hup'⟩
          case measure => simp [intOf]; omega
        · have HN := Lib.hid (hNb (x - y - q) 0 (by omega) (by omega) (by omega))
          clear hNb HS
          go_wp2_with (at_builtin; refine wpList_push w rfl (.tmp 36) (.tmp 38) rfl _ zs rfl (hown.up (Up.alloc _ _)) (hup.trans (Up.alloc _ _)) wr.heap.size rfl (x - y - q) (cell_one _ _ _ (by omega)) (by omega) ?_; intro v' w' hown' hup')
          go_roundw
          case rel => exact ⟨k + 1, 0, _, by simp, by simp, HN, hown', hup'⟩
          case measure => simp [intOf]; omega
      · have hNb := fun d c' => hNa ds[k] 0 d c' rfl (by rw [List.getD_eq_getElem?_getD, List.getElem?_eq_none (by omega)]; rfl)
        clear hNa
        generalize ds[k] = x at *
        by_cases hlt : x < q
        · have HN := Lib.hid (hNb (x + 1073741824 - q) 1 (by omega) (by omega) (by omega))
          clear hNb HS
          go_wp2_with (at_builtin; refine wpList_push w rfl (.tmp 31) (.tmp 34) rfl _ zs rfl (hown.up (Up.alloc _ _)) (hup.trans (Up.alloc _ _)) wr.heap.size rfl (x + 1073741824 - q) (cell_one _ _ _ (by omega)) (by omega) ?_; intro v' w' hown' hup')
          go_roundw
          case rel => exact ⟨k + 1, 1, _, by simp, by simp, HN, hown', hup'⟩
          case measure => simp [intOf]; omega
        · have HN := Lib.hid (hNb (x - q) 0 (by omega) (by omega) (by omega))
          clear hNb HS
          go_wp2_with (at_builtin; refine wpList_push w rfl (.tmp 36) (.tmp 38) rfl _ zs rfl (hown.up (Up.alloc _ _)) (hup.trans (Up.alloc _ _)) wr.heap.size rfl (x - q) (cell_one _ _ _ (by omega)) (by omega) ?_; intro v' w' hown' hup')
          go_roundw
          case rel => exact ⟨k + 1, 0, _, by simp, by simp, HN, hown', hup'⟩
          case measure => simp [intOf]; omega
    · have HE : Hid (val 1073741824 zs = val 1073741824 ds - val 1073741824 es) := by
        have h3 := HS.out.eq'
        rw [List.take_of_length_le (by omega), List.take_of_length_le (by omega)] at h3
        have h4 := val_lt (B := 1073741824) (by omega) HS.out.ok
        have h5 := HLE.out
        rw [hzl] at h4
        unfold Hid
        have : q = 0 := by
          rcases Nat.eq_zero_or_pos q with h | h
          · exact h
          · obtain rfl : q = 1 := by omega
            generalize 1073741824 ^ k = p at *
            omega
        subst this
        omega
      have HOK := Lib.hid HS.out.ok
      clear hN HS
      go_wp2
      go_ret
      exact ⟨_, zs, rfl, hown, HOK.out, HE.out, by omega, hup⟩
end Go.Proofs.YtacbjbnocepnaaaGreatDoor
namespace Go.Proofs.YtacbjbnocepnaaaGreatDoor
open Go.RowKit Fm
set_option maxHeartbeats 1000000 in
set_option maxRecDepth 10000 in
theorem refList_any (v : Value) (z : Int) (w : World) (h : RI w v z) :
    Calls Tryz.prog 109 #[v] w fun e w' => ∃ v', e = .returned v' ∧ Ev w' v' z.natAbs ∧ Up w w' := by
  obtain ⟨s, g, A, n, c, rfl, hs1, hs2, hn, h⟩ := h.open_
  rcases h with ⟨rfl, rfl, hz⟩ | ⟨hn0, rfl, hg, hz, hE, -⟩
  · obtain ⟨m0, hm0⟩ : ∃ m0 : Nat, s = m0 ∨ (0 < m0 ∧ s = -(m0 : Int)) := ⟨s.natAbs, by omega⟩
    have hab : s.natAbs = m0 := by omega
    rw [hab] at hz ⊢
    clear hab
    have HL : Hid ((digs 1073741824 m0).length ≤ 3) := digs_length_le (B := 1073741824) (by omega) (by omega)
    rcases hm0 with rfl | ⟨hm0, rfl⟩
    · go_enter Tryz.func109, Tryz.ntmps109
      go_wp2
      go_loopw [3, 4] (fun v i wr => ∃ (m : Nat) (zs : List Nat), i = .int .i64 m ∧ m < 2305843009213693952 ∧ Hid (digs 1073741824 m0 = zs ++ digs 1073741824 m) ∧ Ow wr w.heap.size v zs ∧ Up w wr) (fun _ i _ => (intOf i).toNat)
      case atStart => exact ⟨m0, [], by simp, by omega, rfl, Ow.nil _ _, Up.alloc _ _⟩
      case round =>
        obtain ⟨m, zs, rfl, hm, HD, hown, hup⟩ := hrel
        have hzl : zs.length ≤ 3 := by
          have h1 := HL.out
          rw [HD.out, List.length_append] at h1
          omega
        by_cases h0 : 0 < m
        · have HN : Hid (digs 1073741824 m0 = (zs ++ [m % 1073741824]) ++ digs 1073741824 (m / 1073741824)) := by
            unfold Hid
            rw [HD.out, digs_pos (by omega) h0, List.append_assoc]; rfl
          clear HD
          go_wp2_with (at_builtin; refine wpList_push w rfl (.tmp 21) (.tmp 24) rfl _ zs rfl (hown.up (Up.alloc _ _)) (hup.trans (Up.alloc _ _)) wr.heap.size rfl (m % 1073741824) (cell_one _ _ _ (by omega)) (by omega) ?_; intro v' w' hown' hup')
          go_roundw
          case rel => exact ⟨m / 1073741824, _, by simp, by omega, HN, hown', hup'⟩
          case measure => simp [intOf]; omega
        · obtain rfl : m = 0 := by omega
          have HE : Hid (zs = digs 1073741824 m0) := by
            have h1 := HD.out
            rw [digs_zero, List.append_nil] at h1
            exact h1.symm
          clear HD h0
          go_wp2
          go_ret
          have hsl := hown.sl
          rw [HE.out] at hsl
          exact ⟨_, rfl, hsl, hup⟩
    · go_enter Tryz.func109, Tryz.ntmps109
      go_wp2
      go_loopw [3, 4] (fun v i wr => ∃ (m : Nat) (zs : List Nat), i = .int .i64 m ∧ m < 2305843009213693952 ∧ Hid (digs 1073741824 m0 = zs ++ digs 1073741824 m) ∧ Ow wr w.heap.size v zs ∧ Up w wr) (fun _ i _ => (intOf i).toNat)
      case atStart => exact ⟨m0, [], by simp, by omega, rfl, Ow.nil _ _, Up.alloc _ _⟩
      case round =>
        obtain ⟨m, zs, rfl, hm, HD, hown, hup⟩ := hrel
        have hzl : zs.length ≤ 3 := by
          have h1 := HL.out
          rw [HD.out, List.length_append] at h1
          omega
        by_cases h0 : 0 < m
        · have HN : Hid (digs 1073741824 m0 = (zs ++ [m % 1073741824]) ++ digs 1073741824 (m / 1073741824)) := by
            unfold Hid
            rw [HD.out, digs_pos (by omega) h0, List.append_assoc]; rfl
          clear HD
          go_wp2_with (at_builtin; refine wpList_push w rfl (.tmp 21) (.tmp 24) rfl _ zs rfl (hown.up (Up.alloc _ _)) (hup.trans (Up.alloc _ _)) wr.heap.size rfl (m % 1073741824) (cell_one _ _ _ (by omega)) (by omega) ?_; intro v' w' hown' hup')
          go_roundw
          case rel => exact ⟨m / 1073741824, _, by simp, by omega, HN, hown', hup'⟩
          case measure => simp [intOf]; omega
        · obtain rfl : m = 0 := by omega
          have HE : Hid (zs = digs 1073741824 m0) := by
            have h1 := HD.out
            rw [digs_zero, List.append_nil] at h1
            exact h1.symm
          clear HD h0
          go_wp2
          go_ret
          have hsl := hown.sl
          rw [HE.out] at hsl
          exact ⟨_, rfl, hsl, hup⟩
  · have HE := Lib.hid hE
    clear hE hg
    go_enter Tryz.func109, Tryz.ntmps109
    go_wp2
    go_ret
    exact ⟨_, rfl, Sl.up HE.out (Up.alloc _ _), Up.alloc _ _⟩
end Go.Proofs.YtacbjbnocepnaaaGreatDoor
namespace Go.Proofs.YtacbjbnocepnaaaGreatDoor
open Go.RowKit Fm
theorem val3 (t0 t1 t2 : Nat) : val 1073741824 [t0, t1, t2] = t0 + 1073741824 * t1 + 1152921504606846976 * t2 := by simp [val]; omega
theorem digs_big {V : Nat} {ts : List Nat} (h : digs 1073741824 V = ts) (hb : 2305843009213693952 ≤ V) : 3 < ts.length ∨ (ts.length = 3 ∧ ∃ h2 : 2 < ts.length, 2 ≤ ts[2]) := by
  have hv := val_digs (B := 1073741824) (by omega) V
  have hok := digs_ok (B := 1073741824) (by omega) V
  rw [h] at hv hok
  have hlt := val_lt (B := 1073741824) (by omega) hok
  rw [hv] at hlt
  match ts, hv, hok, hlt with
  | [], _, _, hlt => simp at hlt; omega
  | [a], _, _, hlt => simp at hlt; omega
  | [a, b], _, _, hlt => simp at hlt; omega
  | [a, b, c], hv, hok, _ =>
    rw [val3] at hv
    have h0 := hok.get (k := 0) (by simp)
    have h1 := hok.get (k := 1) (by simp)
    simp at h0 h1
    exact .inr ⟨rfl, by simp, by simp; omega⟩
  | a :: b :: c :: d :: l, _, _, _ => exact .inl (by simp)
theorem digs_small {V : Nat} {ts : List Nat} (h : digs 1073741824 V = ts) (hb : V < 2305843009213693952) : ts.length ≤ 3 ∧ (ts.length = 3 → ∀ h2 : 2 < ts.length, ts[2] < 2) := by
  have hv := val_digs (B := 1073741824) (by omega) V
  have hle := digs_length_le (B := 1073741824) (n := V) (k := 3) (by omega) (by omega)
  rw [h] at hv hle
  refine ⟨hle, fun h3 h2 => ?_⟩
  match ts, hv, h3, h2 with
  | [a, b, c], hv, _, _ =>
    rw [val3] at hv
    simp
    omega
set_option maxHeartbeats 2000000 in
set_option maxRecDepth 10000 in
theorem refMade_any (g : Bool) (v : Value) (ds : List Nat) (w : World) (h : Sl .i64 w v ds) (hok : Ok 1073741824 ds) :
    Calls Tryz.prog 110 #[.bool g, v] w fun e w' => ∃ v', e = .returned v' ∧ RI w' v' (if g then -(val 1073741824 ds : Int) else (val 1073741824 ds : Int)) ∧ Up w w' := by
  obtain ⟨A, c, rfl, hc, hcm, hr⟩ := h
  have hcm' := hcm
  unfold maxLen at hcm'
  obtain ⟨V, hV⟩ : ∃ V, V = val 1073741824 ds := ⟨_, rfl⟩
  obtain ⟨ts, hts⟩ : ∃ ts, digs 1073741824 V = ts := ⟨_, rfl⟩
  have hcut := cut_eq_digs (B := 1073741824) (by omega) hok
  rw [← hV, hts] at hcut
  have hpre := digs_take (B := 1073741824) (by omega) hok
  rw [← hV, hts] at hpre
  have HR : Hid (Rd .i64 w A ts) := by unfold Hid; rw [← hpre.2]; exact hr.take _
  have hokt : Ok 1073741824 ts := by rw [← hts]; exact digs_ok (by omega) V
  have hvt : val 1073741824 ts = V := by rw [← hts]; exact val_digs (by omega) V
  have HOKT := Lib.hid hokt
  have HVT := Lib.hid hvt
  have HTS := Lib.hid hts
  have htl : ts.length ≤ ds.length := hpre.1
  have HBIG := Lib.hid (fun (hb : 2305843009213693952 ≤ V) => digs_big hts hb)
  have HSM := Lib.hid (fun (hb : V < 2305843009213693952) => digs_small hts hb)
  rw [← hV]
  obtain ⟨Z, hZ⟩ : ∃ Z : Int, Z = if g then -(V : Int) else (V : Int) := ⟨_, rfl⟩
  rw [← hZ]
  have HZ := Lib.hid hZ
  clear hV hokt hvt hts hpre hZ
  have HCUT := Lib.hid hcut
  clear hcut
  go_enter Tryz.func110, Tryz.ntmps110
  go_wp2
  obtain ⟨wB, hwB⟩ : ∃ wB, wB = w.alloc (.cells #[.int .i64 0, .bool false, .slice none 0 0] 48) := ⟨_, rfl⟩
  have HRS := Lib.hid (show Res3 wB w.heap.size by rw [hwB]; exact Res3.new w)
  have HU := Lib.hid (show Up w wB by rw [hwB]; exact Up.alloc _ _)
  rw [← hwB]
  clear hwB
  go_loop [1] (fun v => ∃ k : Nat, k ≤ ds.length ∧ v = .slice A k c ∧ Hid (cut (ds.take k) = cut ds)) (fun v => match v with | .slice _ n _ => n | _ => 0)
  case atStart => exact ⟨ds.length, Nat.le_refl _, rfl, by unfold Hid; rw [List.take_length]⟩
  case round =>
    obtain ⟨k, hk, rfl, hcut⟩ := hrel
    by_cases h0 : k = 0
    · subst h0
      have hf := cut_stop hk hcut.out (.inl rfl)
      rw [HCUT.out] at hf
      obtain rfl : ts = [] := List.eq_nil_of_length_eq_zero hf.symm
      obtain rfl : V = 0 := by have := HVT.out; simp [val] at this; exact this.symm
      obtain rfl : Z = 0 := by have := HZ.out; simpa using this
      clear hf hcut
      obtain ⟨r0, r1, r2, g0, g1, g2, lr⟩ := HRS.out.facts
      have HF := Lib.hid (HRS.out.stored (.int .i64 0) (.bool false) (.slice none 0 0))
      have HUF := Lib.hid ((show Up w wB by (repeat (first | exact Below.refl _ _ | exact Hid.out (by assumption) | refine Up.trans ?_ (Up.drew _) | refine Up.trans ?_ (Up.drewN _ _) | refine Up.trans ?_ (Up.alloc _ _) | refine Up.trans ?_ (Hid.out (by assumption))))).put3 (Nat.le_refl _) (.int .i64 0) (.bool false) (.slice none 0 0))
      cases g
      all_goals
        go_wp2
        refine wp_loop_rounds 1 ?_
        rw [rounds_succ]
        go_wp2
        obtain ⟨z0, z1, z2⟩ := HF.out
        refine bodyPost_ret (by simp [results, Tryz.results110, go_sem, z0, z1, z2]; try rfl) rfl ?_
        exact ⟨_, rfl, RI.small (by simp), HUF.out⟩
    · obtain ⟨j, rfl⟩ : ∃ j, k = j + 1 := ⟨k - 1, by omega⟩
      obtain ⟨b, off, rfl, hb, hcell0⟩ := hr.at_ (i := j) (by omega)
      have hcell : wB.cell? ⟨b, off + j, none⟩ = _ := (HU.out.cells.1 _ _ hb).trans hcell0
      clear hcell0
      by_cases hz : ds[j] = 0
      · have hz' : ((ds[j] : Nat) : Int) = 0 := by rw [hz]; rfl
        go_wp2
        exact ⟨⟨j, by omega, rfl, by unfold Hid; rw [← hcut.out]; exact (cut_take_zero (by omega) hz).symm⟩, by simp⟩
      · have hf := cut_stop hk hcut.out (.inr ⟨j, by omega, rfl, hz⟩)
        rw [HCUT.out] at hf
        obtain ⟨d, hd⟩ : ∃ d, d = ds[j] := ⟨_, rfl⟩
        rw [← hd] at hcell hz
        have HRD := Lib.hid (HR.out.up HU.out)
        have hjc : j + 1 ≤ c := by omega
        have hj63 : j + 1 ≤ 9223372036854775807 := by omega
        have HC := Lib.hid hcm
        clear hd hcut hr hok
        obtain ⟨r0, r1, r2, g0, g1, g2, lr⟩ := HRS.out.facts
        rcases Nat.lt_or_ge V 2305843009213693952 with hV | hV
        · have hs3 := HSM.out hV
          have HFL := Lib.hid hf
          have h3l : j + 1 ≤ 3 := by omega
          rcases (show j < 2 ∨ j = 2 by omega) with hj | hj
          · clear hs3 hf
            clear hcm hcm' hc htl hk
            go_wp2
            go_loop [5, 6] (fun n i => ∃ k m : Nat, k ≤ (j + 1) ∧ i = .int .i64 ((k : Int) - 1) ∧ n = .int .i64 (m : Int) ∧ Hid (val 1073741824 (ts.drop k) = m)) (fun _ i => (intOf i + 1).toNat)
            case atStart => exact ⟨(j + 1), 0, Nat.le_refl _, by simp, rfl, by unfold Hid; rw [List.drop_eq_nil_of_le (by have := HFL.out; omega)]; rfl⟩
            case round =>
              obtain ⟨k, m, hk, rfl, rfl, hm⟩ := hrel
              have hmV : m ≤ V := by
                have h1 := val_take_add 1073741824 ts k (by have := HFL.out; omega)
                rw [HVT.out, hm.out] at h1
                have h2 : 1 ≤ 1073741824 ^ k := Nat.one_le_pow _ _ (by omega)
                have h3 : 1 * m ≤ 1073741824 ^ k * m := Nat.mul_le_mul_right _ h2
                omega
              by_cases h0 : k = 0
              · subst h0
                obtain rfl : m = V := by have := hm.out; rw [List.drop_zero, HVT.out] at this; exact this.symm
                have HF := Lib.hid (HRS.out.stored (.int .i64 Z) (.bool false) (.slice none 0 0))
                have HUF := Lib.hid ((show Up w wB by (repeat (first | exact Below.refl _ _ | exact Hid.out (by assumption) | refine Up.trans ?_ (Up.drew _) | refine Up.trans ?_ (Up.drewN _ _) | refine Up.trans ?_ (Up.alloc _ _) | refine Up.trans ?_ (Hid.out (by assumption))))).put3 (Nat.le_refl _) (.int .i64 Z) (.bool false) (.slice none 0 0))
                have hZ := HZ.out
                have HZA : Hid (Z.natAbs < 2305843009213693952) := by unfold Hid; rw [hZ]; cases g <;> simp <;> omega
                clear hm
                cases g
                · obtain rfl : Z = (m : Int) := by simpa using hZ
                  clear hZ
                  go_wp2
                  obtain ⟨z0, z1, z2⟩ := HF.out
                  refine bodyPost_ret (by simp [results, Tryz.results110, go_sem, z0, z1, z2]; try rfl) rfl ?_
                  exact ⟨_, rfl, RI.small HZA.out, HUF.out⟩
                · obtain rfl : Z = -(m : Int) := by simpa using hZ
                  clear hZ
                  go_wp2
                  obtain ⟨z0, z1, z2⟩ := HF.out
                  refine bodyPost_ret (by simp [results, Tryz.results110, go_sem, z0, z1, z2]; try rfl) rfl ?_
                  exact ⟨_, rfl, RI.small HZA.out, HUF.out⟩
              · obtain ⟨i, rfl⟩ : ∃ i, k = i + 1 := ⟨k - 1, by omega⟩
                obtain ⟨b', off', he, hb', hcell2⟩ := HRD.out.at_ (i := i) (by have := HFL.out; omega)
                injection he with he
                injection he with e1 e2
                subst e1 e2
                have hti := HOKT.out.get (k := i) (by have := HFL.out; omega)
                have hdr : val 1073741824 (ts.drop i) = ts[i] + 1073741824 * m := by
                  rw [List.drop_eq_getElem_cons (by have := HFL.out; omega : i < ts.length), val, hm.out]
                obtain ⟨ti, hti0⟩ : ∃ ti, ti = ts[i]'(by have := HFL.out; omega) := ⟨_, rfl⟩
                rw [← hti0] at hcell2 hti hdr
                have hmV2 : ti + 1073741824 * m ≤ V := by
                  rw [← hdr]
                  have h1 := val_take_add 1073741824 ts i (by have := HFL.out; omega)
                  rw [HVT.out] at h1
                  have h2 : 1 ≤ 1073741824 ^ i := Nat.one_le_pow _ _ (by omega)
                  have h3 : 1 * val 1073741824 (ts.drop i) ≤ 1073741824 ^ i * val 1073741824 (ts.drop i) := Nat.mul_le_mul_right _ h2
                  omega
                have HDR := Lib.hid hdr
                clear hdr hm hti0
                rw [show ((i + 1 : Nat) : Int) - 1 = (i : Int) by omega]
                go_wp2
                exact ⟨⟨i, ti + 1073741824 * m, by omega, rfl, by first | rfl | (congr 1; omega) | go_num, HDR.out⟩, by simp [intOf]⟩
          · obtain ⟨b', off', he, hb', hcell2⟩ := HRD.out.at_ (i := 2) (by omega)
            injection he with he
            injection he with e1 e2
            subst e1 e2
            have ht22 := hs3.2 (by omega) (by omega)
            obtain ⟨t2, ht2⟩ : ∃ t2, t2 = ts[2]'(by omega) := ⟨_, rfl⟩
            rw [← ht2] at hcell2 ht22
            subst hj
            have hdt : d = t2 := by
              have h := hcell.symm.trans hcell2
              injection h with h
              injection h with _ h
              omega
            subst hdt
            clear hs3 hf ht2 hcell2
            clear hcm hcm' hc htl hk
            go_wp2
            go_loop [5, 6] (fun n i => ∃ k m : Nat, k ≤ 3 ∧ i = .int .i64 ((k : Int) - 1) ∧ n = .int .i64 (m : Int) ∧ Hid (val 1073741824 (ts.drop k) = m)) (fun _ i => (intOf i + 1).toNat)
            case atStart => exact ⟨3, 0, Nat.le_refl _, by simp, rfl, by unfold Hid; rw [List.drop_eq_nil_of_le (by have := HFL.out; omega)]; rfl⟩
            case round =>
              obtain ⟨k, m, hk, rfl, rfl, hm⟩ := hrel
              have hmV : m ≤ V := by
                have h1 := val_take_add 1073741824 ts k (by have := HFL.out; omega)
                rw [HVT.out, hm.out] at h1
                have h2 : 1 ≤ 1073741824 ^ k := Nat.one_le_pow _ _ (by omega)
                have h3 : 1 * m ≤ 1073741824 ^ k * m := Nat.mul_le_mul_right _ h2
                omega
              by_cases h0 : k = 0
              · subst h0
                obtain rfl : m = V := by have := hm.out; rw [List.drop_zero, HVT.out] at this; exact this.symm
                have HF := Lib.hid (HRS.out.stored (.int .i64 Z) (.bool false) (.slice none 0 0))
                have HUF := Lib.hid ((show Up w wB by (repeat (first | exact Below.refl _ _ | exact Hid.out (by assumption) | refine Up.trans ?_ (Up.drew _) | refine Up.trans ?_ (Up.drewN _ _) | refine Up.trans ?_ (Up.alloc _ _) | refine Up.trans ?_ (Hid.out (by assumption))))).put3 (Nat.le_refl _) (.int .i64 Z) (.bool false) (.slice none 0 0))
                have hZ := HZ.out
                have HZA : Hid (Z.natAbs < 2305843009213693952) := by unfold Hid; rw [hZ]; cases g <;> simp <;> omega
                clear hm
                cases g
                · obtain rfl : Z = (m : Int) := by simpa using hZ
                  clear hZ
                  go_wp2
                  obtain ⟨z0, z1, z2⟩ := HF.out
                  refine bodyPost_ret (by simp [results, Tryz.results110, go_sem, z0, z1, z2]; try rfl) rfl ?_
                  exact ⟨_, rfl, RI.small HZA.out, HUF.out⟩
                · obtain rfl : Z = -(m : Int) := by simpa using hZ
                  clear hZ
                  go_wp2
                  obtain ⟨z0, z1, z2⟩ := HF.out
                  refine bodyPost_ret (by simp [results, Tryz.results110, go_sem, z0, z1, z2]; try rfl) rfl ?_
                  exact ⟨_, rfl, RI.small HZA.out, HUF.out⟩
              · obtain ⟨i, rfl⟩ : ∃ i, k = i + 1 := ⟨k - 1, by omega⟩
                obtain ⟨b', off', he, hb', hcell3⟩ := HRD.out.at_ (i := i) (by have := HFL.out; omega)
                injection he with he
                injection he with e1 e2
                subst e1 e2
                have hti := HOKT.out.get (k := i) (by have := HFL.out; omega)
                have hdr : val 1073741824 (ts.drop i) = ts[i] + 1073741824 * m := by
                  rw [List.drop_eq_getElem_cons (by have := HFL.out; omega : i < ts.length), val, hm.out]
                obtain ⟨ti, hti0⟩ : ∃ ti, ti = ts[i]'(by have := HFL.out; omega) := ⟨_, rfl⟩
                rw [← hti0] at hcell3 hti hdr
                have hmV2 : ti + 1073741824 * m ≤ V := by
                  rw [← hdr]
                  have h1 := val_take_add 1073741824 ts i (by have := HFL.out; omega)
                  rw [HVT.out] at h1
                  have h2 : 1 ≤ 1073741824 ^ i := Nat.one_le_pow _ _ (by omega)
                  have h3 : 1 * val 1073741824 (ts.drop i) ≤ 1073741824 ^ i * val 1073741824 (ts.drop i) := Nat.mul_le_mul_right _ h2
                  omega
                have HDR := Lib.hid hdr
                clear hdr hm hti0
                rw [show ((i + 1 : Nat) : Int) - 1 = (i : Int) by omega]
                go_wp2
                exact ⟨⟨i, ti + 1073741824 * m, by omega, rfl, by first | rfl | (congr 1; omega) | go_num, HDR.out⟩, by simp [intOf]⟩
        · have HF := Lib.hid (HRS.out.stored (.int .i64 0) (.bool g) (.slice (some ⟨b, off, none⟩) (j + 1) c))
          have HUF := Lib.hid ((show Up w wB by (repeat (first | exact Below.refl _ _ | exact Hid.out (by assumption) | refine Up.trans ?_ (Up.drew _) | refine Up.trans ?_ (Up.drewN _ _) | refine Up.trans ?_ (Up.alloc _ _) | refine Up.trans ?_ (Hid.out (by assumption))))).put3 (Nat.le_refl _) (.int .i64 0) (.bool g) (.slice (some ⟨b, off, none⟩) (j + 1) c))
          have HRES : Hid (RI (put3 wB w.heap.size (.int .i64 0) (.bool g) (.slice (some ⟨b, off, none⟩) (j + 1) c)) (.agg #[.int .i64 0, .bool g, .slice (some ⟨b, off, none⟩) (j + 1) c]) Z) := by
            have hz := HZ.out
            unfold Hid
            subst hz
            refine ⟨0, g, _, _, _, rfl, .inr ⟨rfl, ?_, ?_, ?_⟩⟩
            · cases g <;> simp <;> omega
            · cases g <;> simp <;> omega
            · have e : ((if g then -(V : Int) else (V : Int))).natAbs = V := by cases g <;> simp
              unfold Ev
              have hr := HR.out.up HUF.out
              rw [e, HTS.out]
              rw [hf] at hr ⊢
              exact ⟨_, c, rfl, by omega, hcm, hr⟩
          rcases HBIG.out hV with h3 | ⟨h3, h2, h22⟩
          · have hj : 3 ≤ j := by omega
            clear hV h3 hcm hcm' hc htl hk hf
            go_wp2
            obtain ⟨z0, z1, z2⟩ := HF.out
            refine bodyPost_ret (by simp [results, Tryz.results110, go_sem, z0, z1, z2]; try rfl) rfl ?_
            exact ⟨_, rfl, HRES.out, HUF.out⟩
          · have hj : j = 2 := by omega
            obtain ⟨b', off', he, hb', hcell2⟩ := HRD.out.at_ h2
            injection he with he
            injection he with e1 e2
            subst e1 e2 hj
            obtain ⟨t2, ht2⟩ : ∃ t2, t2 = ts[2] := ⟨_, rfl⟩
            rw [← ht2] at hcell2 h22
            have hdt : d = t2 := by
              have h := hcell.symm.trans hcell2
              injection h with h
              injection h with _ h
              omega
            subst hdt
            clear hV h3 hcm hcm' hc htl hk hf ht2 hcell2
            go_wp2
            obtain ⟨z0, z1, z2⟩ := HF.out
            refine bodyPost_ret (by simp [results, Tryz.results110, go_sem, z0, z1, z2]; try rfl) rfl ?_
            exact ⟨_, rfl, HRES.out, HUF.out⟩
end Go.Proofs.YtacbjbnocepnaaaGreatDoor
namespace Go.Proofs.YtacbjbnocepnaaaGreatDoor
open Go.RowKit Fm
theorem digs3 {m : Nat} (h1 : 2305843009213693952 ≤ m) (h2 : m ≤ 9223372036854775808) :
    digs 1073741824 m = [m % 1073741824, m / 1073741824 % 1073741824, m / 1152921504606846976] := by
  rw [digs_pos (by omega) (by omega), digs_pos (by omega) (by omega), digs_pos (by omega) (by omega)]
  have e : m / 1073741824 / 1073741824 = m / 1152921504606846976 := by omega
  rw [e, show m / 1152921504606846976 / 1073741824 = 0 by omega, digs_zero, show m / 1152921504606846976 % 1073741824 = m / 1152921504606846976 by omega]
theorem Ow.one (w : World) (base : Nat) (z : Int) (d : Nat) (h : z = (d : Int)) (hb : base ≤ w.heap.size) : Ow (w.alloc (.cells #[.int .i64 z] 3)) base (.slice (some ⟨w.heap.size, 0, none⟩) 1 1) [d] := by
  subst h
  exact ⟨rfl, .inr ⟨_, 1, _, rfl, hb, heap_alloc_new w _, by simp, by unfold maxLen; omega, rfl, rfl⟩⟩
theorem Ow.put3 {w : World} {base : Nat} {v : Value} {ds : List Nat} (h : Ow w base v ds) {g : Nat} (hg : g < base) (x y z : Value) : Ow (put3 w g x y z) base v ds := by
  obtain ⟨hl, h⟩ := h
  refine ⟨hl, ?_⟩
  rcases h with h | ⟨g', cap, cur, rfl, hb, hh, h3⟩
  · exact .inl h
  · refine .inr ⟨g', cap, cur, rfl, hb, ?_, h3⟩
    have hne : g' ≠ g := by omega
    rw [Below.heap_setCell _ ⟨g, 2, none⟩ z g' hne, Below.heap_setCell _ ⟨g, 1, none⟩ y g' hne, Below.heap_setCell _ ⟨g, 0, none⟩ x g' hne]
    exact hh
theorem wrap_tdiv_neg (u : Int) (h : 0 ≤ u) (h2 : u ≤ 9223372036854775808) : wrap64 (-u.tdiv 1073741824) = -(u / 1073741824) := by
  rw [Int.tdiv_eq_ediv_of_nonneg h]
  unfold wrap64
  omega
set_option maxHeartbeats 2000000 in
set_option maxRecDepth 10000 in
theorem refOf_any (z : Int) (w : World) (h1 : -9223372036854775808 ≤ z) (h2 : z ≤ 9223372036854775807) :
    Calls Tryz.prog 69 #[.int .i64 z] w fun e w' => ∃ v, e = .returned v ∧ RI w' v z ∧ Up w w' := by
  by_cases hs : -2305843009213693952 < z ∧ z < 2305843009213693952
  · obtain ⟨ha, hb⟩ := hs
    have HZ := Lib.hid (show z.natAbs < 2305843009213693952 by omega)
    clear h1 h2
    go_enter Tryz.func69, Tryz.ntmps69
    go_wp2
    refine bodyPost_ret (by simp [results, Tryz.results69, go_sem]; try rfl) rfl ?_
    exact ⟨_, rfl, RI.small HZ.out, Up.alloc _ _⟩
  · have HM : Hid (digs 1073741824 z.natAbs = [z.natAbs % 1073741824] ++ digs 1073741824 (z.natAbs / 1073741824) ∧ (digs 1073741824 z.natAbs).length = 3) := by
      unfold Hid
      exact ⟨by rw [digs_pos (by omega) (by omega)]; rfl, by rw [digs3 (by omega) (by omega)]; rfl⟩
    have HB : Hid (2305843009213693952 ≤ z.natAbs) := by unfold Hid; omega
    rcases (show z ≤ -2305843009213693952 ∨ 2305843009213693952 ≤ z by omega) with hz | hz
    · obtain ⟨u, rfl⟩ : ∃ u, z = -u := ⟨-z, by omega⟩
      have hu1 : 2305843009213693952 ≤ u := by omega
      simp only [Int.natAbs_neg] at HM HB
      have hu2 : u ≤ 9223372036854775808 := by omega
      have HD0 : Hid (digs 1073741824 u.natAbs = [(u % 1073741824).toNat] ++ digs 1073741824 (u / 1073741824).natAbs) := by
        have h := HM.out.1
        rw [show u.natAbs % 1073741824 = (u % 1073741824).toNat by omega, show u.natAbs / 1073741824 = (u / 1073741824).natAbs by omega] at h
        exact h
      clear hs
      go_enter Tryz.func69, Tryz.ntmps69
      go_upto_region 4 with fail
      obtain ⟨wB, hwB⟩ : ∃ wB, wB = w.alloc (.cells #[.int .i64 0, .bool false, .slice none 0 0] 48) := ⟨_, rfl⟩
      have HRS := Lib.hid (show Res3 wB w.heap.size by rw [hwB]; exact Res3.new w)
      have HU := Lib.hid (show Up w wB by rw [hwB]; exact Up.alloc _ _)
      rw [← hwB]
      clear hwB
      rw [wrap_tdiv_neg u (by omega) (by omega)]
      go_wp2
      all_goals
        go_loopw [3, 4, 5] (fun lo rv v wr => ∃ (r t : Int) (zs : List Nat), rv = .int .i64 (-r) ∧ lo = .int .i64 t ∧ 0 ≤ r ∧ r ≤ 8589934592 ∧ Hid (digs 1073741824 u.natAbs = zs ++ digs 1073741824 r.natAbs) ∧ Ow wr wB.heap.size v zs ∧ Up wB wr) (fun _ rv _ _ => (-intOf rv).toNat)
        case atStart => exact ⟨u / 1073741824, _, [(u % 1073741824).toNat], rfl, rfl, by omega, by omega, HD0, Ow.one _ _ _ _ (by omega) (Nat.le_refl _), Up.alloc _ _⟩
        case round =>
          obtain ⟨r, t, zs, rfl, rfl, hr0, hr1, HD, hown, hup⟩ := hrel
          have hzl : zs.length ≤ 3 := by
            have h1 := HM.out.2
            rw [HD.out, List.length_append] at h1
            omega
          by_cases h0 : 0 < r
          · have HN : Hid (digs 1073741824 u.natAbs = (zs ++ [(r % 1073741824).toNat]) ++ digs 1073741824 (r / 1073741824).natAbs) := by
              unfold Hid
              rw [HD.out, digs_pos (by omega) (show 0 < r.natAbs by omega), show r.natAbs % 1073741824 = (r % 1073741824).toNat by omega, show r.natAbs / 1073741824 = (r / 1073741824).natAbs by omega, List.append_assoc]; rfl
            clear HD
            go_upto_region 7 with fail
            rw [wrap_tdiv_neg r (by omega) (by omega)]
            go_wp2_with (at_builtin; refine wpList_push wB rfl (.tmp 29) (.tmp 34) rfl _ zs rfl (hown.up (Up.alloc _ _)) (hup.trans (Up.alloc _ _)) wr.heap.size rfl (r % 1073741824).toNat (cell_one _ _ _ (by omega)) (by omega) ?_; intro v' w' hown' hup')
            all_goals
              go_roundw
              case rel => exact ⟨r / 1073741824, _, _, rfl, rfl, by omega, by omega, HN, hown', hup'⟩
              case measure => simp [intOf]; omega
          · obtain rfl : r = 0 := by omega
            have HE : Hid (zs = digs 1073741824 u.natAbs) := by
              have h1 := HD.out
              simp only [Int.natAbs_zero, digs_zero, List.append_nil] at h1
              exact h1.symm
            have HLT := HU.out
            have hlt : w.heap.size < wB.heap.size := HRS.out.lt
            have hown2 := fun x y z => (hown.put3 hlt x y z).sl
            rw [HE.out] at hown2
            have hsl := hown.sl
            rw [HE.out] at hsl
            obtain ⟨A, c, rfl, hc1, hc2, hrd⟩ := hsl
            obtain ⟨r0, r1, r2, g0, g1, g2, lr⟩ := (HRS.out.up hup).facts
            have HF := Lib.hid ((HRS.out.up hup).stored (.int .i64 0) (.bool (decide (0 < u))) (.slice A (digs 1073741824 u.natAbs).length c))
            have HUF := Lib.hid ((HU.out.trans hup).put3 (Nat.le_refl _) (.int .i64 0) (.bool (decide (0 < u))) (.slice A (digs 1073741824 u.natAbs).length c))
            have HRES : Hid (RI (put3 wr w.heap.size (.int .i64 0) (.bool (decide (0 < u))) (.slice A (digs 1073741824 u.natAbs).length c)) (.agg #[.int .i64 0, .bool (decide (0 < u)), .slice A (digs 1073741824 u.natAbs).length c]) (-u)) :=
              ⟨0, decide (0 < u), _, _, _, rfl, .inr ⟨rfl, by rw [decide_eq_true (by omega), decide_eq_true (by omega)], by rw [Int.natAbs_neg]; exact HB.out, by unfold Ev; rw [Int.natAbs_neg]; exact hown2 _ _ _⟩⟩
            clear hrd hc1 hc2 hown2 HLT HD hown
            go_wp2
            obtain ⟨z0, z1, z2⟩ := HF.out
            refine bodyPost_ret (by simp [results, Tryz.results69, go_sem, z0, z1, z2]; try rfl) rfl ?_
            exact ⟨_, rfl, HRES.out, HUF.out⟩
    · clear hs
      have HD0 : Hid (digs 1073741824 z.natAbs = [(z % 1073741824).toNat] ++ digs 1073741824 (z / 1073741824).natAbs) := by
        have h := HM.out.1
        rw [show z.natAbs % 1073741824 = (z % 1073741824).toNat by omega, show z.natAbs / 1073741824 = (z / 1073741824).natAbs by omega] at h
        exact h
      go_enter Tryz.func69, Tryz.ntmps69
      go_upto_region 4 with fail
      obtain ⟨wB, hwB⟩ : ∃ wB, wB = w.alloc (.cells #[.int .i64 0, .bool false, .slice none 0 0] 48) := ⟨_, rfl⟩
      have HRS := Lib.hid (show Res3 wB w.heap.size by rw [hwB]; exact Res3.new w)
      have HU := Lib.hid (show Up w wB by rw [hwB]; exact Up.alloc _ _)
      rw [← hwB]
      clear hwB
      go_wp2
      go_loopw [3, 4, 5] (fun lo rv v wr => ∃ (r t : Int) (zs : List Nat), rv = .int .i64 r ∧ lo = .int .i64 t ∧ 0 ≤ r ∧ r ≤ 8589934592 ∧ Hid (digs 1073741824 z.natAbs = zs ++ digs 1073741824 r.natAbs) ∧ Ow wr wB.heap.size v zs ∧ Up wB wr) (fun _ rv _ _ => (intOf rv).toNat)
      case atStart => exact ⟨z / 1073741824, z % 1073741824, [(z % 1073741824).toNat], rfl, rfl, by omega, by omega, HD0, Ow.one _ _ _ _ (by omega) (Nat.le_refl _), Up.alloc _ _⟩
      case round =>
        obtain ⟨r, t, zs, rfl, rfl, hr0, hr1, HD, hown, hup⟩ := hrel
        have hzl : zs.length ≤ 3 := by
          have h1 := HM.out.2
          rw [HD.out, List.length_append] at h1
          omega
        by_cases h0 : 0 < r
        · have HN : Hid (digs 1073741824 z.natAbs = (zs ++ [(r % 1073741824).toNat]) ++ digs 1073741824 (r / 1073741824).natAbs) := by
            unfold Hid
            rw [HD.out, digs_pos (by omega) (show 0 < r.natAbs by omega), show r.natAbs % 1073741824 = (r % 1073741824).toNat by omega, show r.natAbs / 1073741824 = (r / 1073741824).natAbs by omega, List.append_assoc]; rfl
          clear HD
          go_wp2_with (at_builtin; refine wpList_push wB rfl (.tmp 29) (.tmp 34) rfl _ zs rfl (hown.up (Up.alloc _ _)) (hup.trans (Up.alloc _ _)) wr.heap.size rfl (r % 1073741824).toNat (cell_one _ _ _ (by omega)) (by omega) ?_; intro v' w' hown' hup')
          go_roundw
          case rel => exact ⟨r / 1073741824, r % 1073741824, _, rfl, rfl, by omega, by omega, HN, hown', hup'⟩
          case measure => simp [intOf]; omega
        · obtain rfl : r = 0 := by omega
          have HE : Hid (zs = digs 1073741824 z.natAbs) := by
            have h1 := HD.out
            simp only [Int.natAbs_zero, digs_zero, List.append_nil] at h1
            exact h1.symm
          have HLT := HU.out
          have hlt : w.heap.size < wB.heap.size := HRS.out.lt
          have hown2 := fun x y z => (hown.put3 hlt x y z).sl
          rw [HE.out] at hown2
          have hsl := hown.sl
          rw [HE.out] at hsl
          obtain ⟨A, c, rfl, hc1, hc2, hrd⟩ := hsl
          obtain ⟨r0, r1, r2, g0, g1, g2, lr⟩ := (HRS.out.up hup).facts
          have HF := Lib.hid ((HRS.out.up hup).stored (.int .i64 0) (.bool (decide (z < 0))) (.slice A (digs 1073741824 z.natAbs).length c))
          have HUF := Lib.hid ((HU.out.trans hup).put3 (Nat.le_refl _) (.int .i64 0) (.bool (decide (z < 0))) (.slice A (digs 1073741824 z.natAbs).length c))
          have HRES : Hid (RI (put3 wr w.heap.size (.int .i64 0) (.bool (decide (z < 0))) (.slice A (digs 1073741824 z.natAbs).length c)) (.agg #[.int .i64 0, .bool (decide (z < 0)), .slice A (digs 1073741824 z.natAbs).length c]) z) :=
            ⟨0, decide (z < 0), _, _, _, rfl, .inr ⟨rfl, rfl, HB.out, hown2 _ _ _⟩⟩
          clear hrd hc1 hc2 hown2 HLT HD hown
          go_wp2
          obtain ⟨z0, z1, z2⟩ := HF.out
          refine bodyPost_ret (by simp [results, Tryz.results69, go_sem, z0, z1, z2]; try rfl) rfl ?_
          exact ⟨_, rfl, HRES.out, HUF.out⟩
end Go.Proofs.YtacbjbnocepnaaaGreatDoor
namespace Go.Proofs.YtacbjbnocepnaaaGreatDoor
open Go.RowKit Fm
def CellI (w : World) (g : Nat) (s : Int) (b : Bool) (v : Value) : Prop := w.heap[g]? = some (.cells #[.int .i64 s, .bool b, v] 48 (0, 0))
section
variable {w w' : World} {g : Nat} {s : Int} {b : Bool} {v : Value}
theorem CellI.lt (h : CellI w g s b v) : g < w.heap.size := by
  rcases Nat.lt_or_ge g w.heap.size with h1 | h1
  · exact h1
  · unfold CellI at h; rw [Array.getElem?_eq_none h1] at h; cases h
theorem CellI.up (h : CellI w g s b v) (hu : Up w w') : CellI w' g s b v := (hu.block g h.lt).trans h
theorem CellI.facts (h : CellI w g s b v) : w.cell? ⟨g, 0, none⟩ = some (.int .i64 s) ∧ w.cell? ⟨g, 1, none⟩ = some (.bool b) ∧ w.cell? ⟨g, 2, none⟩ = some v ∧ g < w.heap.size :=
  ⟨by rw [cell_of_row w g 0 _ _ _ h]; rfl, by rw [cell_of_row w g 1 _ _ _ h]; rfl, by rw [cell_of_row w g 2 _ _ _ h]; rfl, h.lt⟩
theorem CellI.frozen (h : CellI w g s b v) (i : Nat) : w.frozen? ⟨g, i, none⟩ = false := by unfold CellI at h; simp [World.frozen?, h]
theorem CellI.new (w : World) (s : Int) (b : Bool) (v : Value) : CellI (w.alloc (.cells #[.int .i64 s, .bool b, v] 48)) w.heap.size s b v := heap_alloc_new w _
theorem CellI.set (h : CellI w g s b v) (s' : Int) (b' : Bool) (v' : Value) : CellI (put3 w g (.int .i64 s') (.bool b') v') g s' b' v' := by
  unfold CellI at *
  simp [put3, World.setCell, Array.getElem?_modify, h]
theorem CellI.far (h : CellI w g s b v) {g' : Nat} (hne : g ≠ g') (x y z : Value) : CellI (put3 w g' x y z) g s b v := by
  unfold CellI at *
  rw [Below.heap_setCell _ ⟨g', 2, none⟩ z g hne, Below.heap_setCell _ ⟨g', 1, none⟩ y g hne, Below.heap_setCell _ ⟨g', 0, none⟩ x g hne]
  exact h
end
theorem startII (w : World) (s : Int) (b : Bool) (v : Value) (s2 : Int) (b2 : Bool) (v2 : Value) :
    ∃ wB, ((w.alloc (.cells #[.int .i64 s, .bool b, v] 48)).alloc (.cells #[.int .i64 s2, .bool b2, v2] 48)).alloc (.cells #[.int .i64 0, .bool false, .slice none 0 0] 48) = wB ∧
      CellI wB w.heap.size s b v ∧ CellI wB (w.heap.size + 1) s2 b2 v2 ∧ Res3 wB (w.heap.size + 1 + 1) ∧ Up w wB := by
  refine ⟨_, rfl, ((CellI.new w s b v).up (Up.alloc _ _)).up (Up.alloc _ _), ?_, ?_, ((Up.alloc _ _).trans (Up.alloc _ _)).trans (Up.alloc _ _)⟩
  · have := (CellI.new (w.alloc (.cells #[.int .i64 s, .bool b, v] 48)) s2 b2 v2).up (Up.alloc _ (.cells #[.int .i64 0, .bool false, .slice none 0 0] 48)); simpa using this
  · have := Res3.new ((w.alloc (.cells #[.int .i64 s, .bool b, v] 48)).alloc (.cells #[.int .i64 s2, .bool b2, v2] 48)); simpa using this
theorem RI.put {w : World} {v : Value} {z : Int} (h : RI w v z) {g : Nat} (hg : Res3 w g) (x y u : Value) : RI (put3 w g x y u) v z := by
  obtain ⟨s, b, A, n, c, rfl, h⟩ := h
  refine ⟨s, b, A, n, c, rfl, ?_⟩
  rcases h with h | ⟨h1, h2, h3, h4⟩
  · exact .inl h
  · refine .inr ⟨h1, h2, h3, ?_⟩
    obtain ⟨A', c', he, h5, h6, h7⟩ := h4
    refine ⟨A', c', he, h5, h6, fun hn => ?_⟩
    obtain ⟨b', off, hA, hb, hc⟩ := h7 hn
    have hne : b' ≠ g := by
      rintro rfl
      have hl : 1 < (digs 1073741824 z.natAbs).length := by
        rcases Nat.lt_or_ge 1 (digs 1073741824 z.natAbs).length with h9 | h9
        · exact h9
        · have h10 := val_lt (B := 1073741824) (by omega) (digs_ok (by omega) z.natAbs)
          rw [val_digs (by omega)] at h10
          have h11 : 1073741824 ^ (digs 1073741824 z.natAbs).length ≤ 1073741824 ^ 1 := Nat.pow_le_pow_right (by omega) h9
          omega
      have h8 := hc 0 (by omega)
      have h9 := hc 1 hl
      obtain ⟨q0, q1, q2, -⟩ := hg.facts
      rcases off with _ | _ | _ | k
      · have h10 := q1.symm.trans h9; cases h10
      · have h10 := q1.symm.trans h8; cases h10
      · have h10 := q2.symm.trans h8; cases h10
      · rw [cell_of_row _ _ _ _ _ _ hg] at h8; simp at h8
    refine ⟨b', off, hA, by simpa [put3, World.setCell] using hb, fun i hi => ?_⟩
    rw [← hc i hi]
    exact World.cell?_of_block (by
      rw [Below.heap_setCell _ ⟨g, 2, none⟩ u b' hne, Below.heap_setCell _ ⟨g, 1, none⟩ y b' hne, Below.heap_setCell _ ⟨g, 0, none⟩ x b' hne])
theorem digs_len_le {x y : Nat} (h : x ≤ y) : (digs 1073741824 x).length ≤ (digs 1073741824 y).length := by
  have h1 := val_lt (B := 1073741824) (by omega) (digs_ok (B := 1073741824) (by omega) y)
  rw [val_digs (by omega)] at h1
  exact digs_length_le (by omega) (Nat.lt_of_le_of_lt h h1)
end Go.Proofs.YtacbjbnocepnaaaGreatDoor
