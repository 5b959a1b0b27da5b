/- What a further law needs. -/
import Derived.Test.YtacbjbnocepnaaaGreatDoorQCH
import Derived.Test.YtacbjbnocepnaaaGreatDoorQHT
import Derived.Test.YtacbjbnocepnaaaGreatDoorQHT2
namespace Go.Proofs.YtacbjbnocepnaaaGreatDoor
open Go.RowKit Fm
theorem CellI.hidNew {wA w' : World} {G : Prop} (hu : Up (wA.alloc (.cells #[.int .i64 0, .bool false, .slice none 0 0] 48)) w') (k : Hid (CellI w' wA.heap.size 0 false (.slice none 0 0)) → G) : G := k (Lib.hid ((CellI.new wA 0 false (.slice none 0 0)).up hu))
theorem CellI.hidNew2 {wA w' : World} {G : Prop} (hu : Up ((wA.alloc (.cells #[.int .i64 0, .bool false, .slice none 0 0] 48)).alloc (.cells #[.int .i64 0, .bool false, .slice none 0 0] 48)) w') (k : Hid (CellI w' (wA.heap.size + 1) 0 false (.slice none 0 0)) → G) : G := k (Lib.hid (by
  have h9 := (CellI.new (wA.alloc (.cells #[.int .i64 0, .bool false, .slice none 0 0] 48)) 0 false (.slice none 0 0)).up hu
  rw [size_alloc] at h9
  exact h9))
theorem CellI.hidUp {w w' : World} {g : Nat} {G : Prop} (h : Hid (CellI w g 0 false (.slice none 0 0))) (hu : Up w w') (k : Hid (CellI w' g 0 false (.slice none 0 0)) → G) : G := k (Lib.hid (h.out.up hu))
def OverAt (wY : World) (z : Int) (p11 p12 : Value) (wx : World) : Prop := ∃ (gq gu : Nat) (s : Int) (b : Bool) (A : Option Addr) (n c : Nat), p11 = .pointer (some ⟨gq, 0, none⟩) ∧ p12 = .pointer (some ⟨gu, 0, none⟩) ∧ CellI wx gq s b (.slice A n c) ∧ RI wx (.agg #[.int .i64 s, .bool b, .slice A n c]) z ∧ Up wY wx
theorem OverAt.mk {wY W : World} {z : Int} {gq gu : Nat} (h1 : CellI W gq 0 false (.slice none 0 0)) (h2 : CellI W gu 0 false (.slice none 0 0)) (hne : gq ≠ gu) {s : Int} {b : Bool} {A : Option Addr} {n c : Nat} (hv : RI W (.agg #[.int .i64 s, .bool b, .slice A n c]) z) (hu : Up wY W) (h3 : wY.heap.size ≤ gq) (h4 : wY.heap.size ≤ gu) (x y u : Value) :
    OverAt wY z (.pointer (some ⟨gq, 0, none⟩)) (.pointer (some ⟨gu, 0, none⟩)) (put3 (put3 W gq (.int .i64 s) (.bool b) (.slice A n c)) gu x y u) :=
  ⟨gq, gu, s, b, A, n, c, rfl, rfl, (h1.set s b (.slice A n c)).far hne x y u, (hv.putI h1 _ _ _).putI (h2.far (Ne.symm hne) _ _ _) x y u, (hu.put3 h3 _ _ _).put3 h4 x y u⟩
theorem put3_size (w : World) (g : Nat) (x y z : Value) : (put3 w g x y z).heap.size = w.heap.size := by unfold put3; rw [setCell_size, setCell_size, setCell_size]
theorem OverAt.f1 {wY W : World} {z : Int} {s s7 : Int} {b b7 : Bool} {A A7 : Option Addr} {n c n7 c7 : Nat} (hv : RI W (.agg #[.int .i64 s, .bool b, .slice A n c]) z) (hu : Up wY W) :
    OverAt wY z (.pointer (some ⟨W.heap.size, 0, none⟩)) (.pointer (some ⟨W.heap.size + 1, 0, none⟩)) ((W.alloc (.cells #[.int .i64 s, .bool b, .slice A n c] 48)).alloc (.cells #[.int .i64 s7, .bool b7, .slice A7 n7 c7] 48)) :=
  ⟨_, _, s, b, A, n, c, rfl, rfl, (CellI.new W s b (.slice A n c)).up (Up.alloc _ _), (hv.up (Up.alloc _ _)).up (Up.alloc _ _), (hu.trans (Up.alloc _ _)).trans (Up.alloc _ _)⟩
theorem OverAt.f2 {wY W : World} {z : Int} {s s7 : Int} {b b7 : Bool} {A A7 : Option Addr} {n c n7 c7 : Nat} (hv : RI W (.agg #[.int .i64 s, .bool b, .slice A n c]) z) (hu : Up wY W) :
    OverAt wY z (.pointer (some ⟨W.heap.size + 1, 0, none⟩)) (.pointer (some ⟨W.heap.size, 0, none⟩)) ((W.alloc (.cells #[.int .i64 s7, .bool b7, .slice A7 n7 c7] 48)).alloc (.cells #[.int .i64 s, .bool b, .slice A n c] 48)) :=
  ⟨_, _, s, b, A, n, c, rfl, rfl, by have h9 := CellI.new (W.alloc (.cells #[.int .i64 s7, .bool b7, .slice A7 n7 c7] 48)) s b (.slice A n c); rw [size_alloc] at h9; exact h9, (hv.up (Up.alloc _ _)).up (Up.alloc _ _), (hu.trans (Up.alloc _ _)).trans (Up.alloc _ _)⟩
theorem OverAt.f3 {wY W : World} {z : Int} {gq : Nat} {s s7 : Int} {b b7 : Bool} {A A7 : Option Addr} {n c n7 c7 : Nat} (h1 : CellI W gq 0 false (.slice none 0 0)) (hv : RI W (.agg #[.int .i64 s, .bool b, .slice A n c]) z) (hu : Up wY W) (h3 : wY.heap.size ≤ gq) :
    OverAt wY z (.pointer (some ⟨gq, 0, none⟩)) (.pointer (some ⟨W.heap.size, 0, none⟩)) ((put3 W gq (.int .i64 s) (.bool b) (.slice A n c)).alloc (.cells #[.int .i64 s7, .bool b7, .slice A7 n7 c7] 48)) :=
  ⟨_, _, s, b, A, n, c, rfl, rfl, (h1.set s b (.slice A n c)).up (Up.alloc _ _), (hv.putI h1 _ _ _).up (Up.alloc _ _), (hu.put3 h3 _ _ _).trans (Up.alloc _ _)⟩
theorem OverAt.f4 {wY W : World} {z : Int} {gu : Nat} {s s7 : Int} {b b7 : Bool} {A A7 : Option Addr} {n c n7 c7 : Nat} (h1 : CellI W gu 0 false (.slice none 0 0)) (hv : RI W (.agg #[.int .i64 s, .bool b, .slice A n c]) z) (hu : Up wY W) (h3 : wY.heap.size ≤ gu) :
    OverAt wY z (.pointer (some ⟨W.heap.size, 0, none⟩)) (.pointer (some ⟨gu, 0, none⟩)) ((put3 W gu (.int .i64 s7) (.bool b7) (.slice A7 n7 c7)).alloc (.cells #[.int .i64 s, .bool b, .slice A n c] 48)) :=
  ⟨_, _, s, b, A, n, c, rfl, rfl, by have h9 := CellI.new (put3 W gu (.int .i64 s7) (.bool b7) (.slice A7 n7 c7)) s b (.slice A n c); rw [put3_size] at h9; exact h9, (hv.putI h1 _ _ _).up (Up.alloc _ _), (hu.put3 h3 _ _ _).trans (Up.alloc _ _)⟩
theorem OverAt.at1 {wY W wx : World} {z : Int} {p11 p12 : Value} {s s7 : Int} {b b7 : Bool} {A A7 : Option Addr} {n c n7 c7 : Nat} (e1 : p11 = .pointer (some ⟨W.heap.size, 0, none⟩)) (e2 : p12 = .pointer (some ⟨W.heap.size + 1, 0, none⟩)) (e3 : wx = (W.alloc (.cells #[.int .i64 s, .bool b, .slice A n c] 48)).alloc (.cells #[.int .i64 s7, .bool b7, .slice A7 n7 c7] 48)) (hv : RI W (.agg #[.int .i64 s, .bool b, .slice A n c]) z) (hu : Up wY W) : OverAt wY z p11 p12 wx := by subst e1 e2 e3; exact OverAt.f1 hv hu
theorem OverAt.at2 {wY W wx : World} {z : Int} {p11 p12 : Value} {s s7 : Int} {b b7 : Bool} {A A7 : Option Addr} {n c n7 c7 : Nat} (e1 : p11 = .pointer (some ⟨W.heap.size + 1, 0, none⟩)) (e2 : p12 = .pointer (some ⟨W.heap.size, 0, none⟩)) (e3 : wx = (W.alloc (.cells #[.int .i64 s7, .bool b7, .slice A7 n7 c7] 48)).alloc (.cells #[.int .i64 s, .bool b, .slice A n c] 48)) (hv : RI W (.agg #[.int .i64 s, .bool b, .slice A n c]) z) (hu : Up wY W) : OverAt wY z p11 p12 wx := by subst e1 e2 e3; exact OverAt.f2 hv hu
theorem OverAt.at3 {wY W wx : World} {z : Int} {p11 p12 : Value} {s s7 : Int} {b b7 : Bool} {A A7 : Option Addr} {n c n7 c7 : Nat} (gq : Nat) (e1 : p11 = .pointer (some ⟨gq, 0, none⟩)) (e2 : p12 = .pointer (some ⟨W.heap.size, 0, none⟩)) (e3 : wx = (put3 W gq (.int .i64 s) (.bool b) (.slice A n c)).alloc (.cells #[.int .i64 s7, .bool b7, .slice A7 n7 c7] 48)) (h1 : CellI W gq 0 false (.slice none 0 0)) (hv : RI W (.agg #[.int .i64 s, .bool b, .slice A n c]) z) (hu : Up wY W) (h3 : wY.heap.size ≤ gq) : OverAt wY z p11 p12 wx := by subst e1 e2 e3; exact OverAt.f3 h1 hv hu h3
theorem OverAt.at4 {wY W wx : World} {z : Int} {p11 p12 : Value} {s s7 : Int} {b b7 : Bool} {A A7 : Option Addr} {n c n7 c7 : Nat} (gu : Nat) (e1 : p11 = .pointer (some ⟨W.heap.size, 0, none⟩)) (e2 : p12 = .pointer (some ⟨gu, 0, none⟩)) (e3 : wx = (put3 W gu (.int .i64 s7) (.bool b7) (.slice A7 n7 c7)).alloc (.cells #[.int .i64 s, .bool b, .slice A n c] 48)) (h1 : CellI W gu 0 false (.slice none 0 0)) (hv : RI W (.agg #[.int .i64 s, .bool b, .slice A n c]) z) (hu : Up wY W) (h3 : wY.heap.size ≤ gu) : OverAt wY z p11 p12 wx := by subst e1 e2 e3; exact OverAt.f4 h1 hv hu h3
theorem OverAt.at5 {wY W wx : World} {z : Int} {p11 p12 : Value} {s s7 : Int} {b b7 : Bool} {A A7 : Option Addr} {n c n7 c7 : Nat} (gq gu : Nat) (e1 : p11 = .pointer (some ⟨gq, 0, none⟩)) (e2 : p12 = .pointer (some ⟨gu, 0, none⟩)) (e3 : wx = put3 (put3 W gq (.int .i64 s) (.bool b) (.slice A n c)) gu (.int .i64 s7) (.bool b7) (.slice A7 n7 c7)) (h1 : CellI W gq 0 false (.slice none 0 0)) (h2 : CellI W gu 0 false (.slice none 0 0)) (hne : gq ≠ gu) (hv : RI W (.agg #[.int .i64 s, .bool b, .slice A n c]) z) (hu : Up wY W) (h3 : wY.heap.size ≤ gq) (h4 : wY.heap.size ≤ gu) : OverAt wY z p11 p12 wx := by subst e1 e2 e3; exact OverAt.mk h1 h2 hne hv hu h3 h4 _ _ _
theorem CellI.row {w : World} {g : Nat} {s : Int} {b : Bool} {u : Value} (h : CellI w g s b u) {g' : Nat} (hne : g ≠ g') (v1 v2 : Value) (s' : Int) (b' : Bool) : CellI (rowSet w g' v1 s' b' v2) g s b u := by
  unfold CellI rowSet at *
  have h0 : w.heap[g]? = some (.cells #[.int .i64 s, .bool b, u] 48 (0, 0)) := h
  simp only [World.setCell, Array.getElem?_modify]
  simp [h0, Ne.symm hne]
theorem CellQ.row {w : World} {g : Nat} {v v2 : Value} {s : Int} {b : Bool} (h : CellQ w g v s b v2) {g' : Nat} (hne : g ≠ g') (v1 v3 : Value) (s' : Int) (b' : Bool) : CellQ (rowSet w g' v1 s' b' v3) g v s b v2 :=
  (((h.far hne 0 v1).far hne 1 (.int .i64 s')).far hne 2 (.bool b')).far hne 3 v3
theorem RdE.putI {w : World} {A : Option Addr} {zs : List Int} (h : RdE eltR w A zs) {g : Nat} {s0 : Int} {b0 : Bool} {A0 : Option Addr} {n0 c0 : Nat} (hg : CellI w g s0 b0 (.slice A0 n0 c0)) (ha : zs ≠ [] → Away A g) (x y u : Value) : RdE eltR (put3 w g x y u) A zs := fun hn => by
  obtain ⟨b, off, rfl, hb, hc⟩ := h hn
  have hne : b ≠ g := ha hn b off rfl
  refine ⟨b, off, rfl, by rw [put3_size]; exact hb, fun i hi => ?_⟩
  obtain ⟨cs, ⟨s, g', A, n, c, rfl, h1⟩, h2⟩ := hc i hi
  refine ⟨_, ⟨s, g', A, n, c, rfl, ((h1.ri).putI hg x y u).ria⟩, fun j v hj => ?_⟩
  unfold put3
  rw [World.cell?_setCell_other _ _ _ _ (by intro e; injection e with e; exact hne e.symm), World.cell?_setCell_other _ _ _ _ (by intro e; injection e with e; exact hne e.symm), World.cell?_setCell_other _ _ _ _ (by intro e; injection e with e; exact hne e.symm)]
  exact h2 j v hj
theorem CellQ.farI {w : World} {g : Nat} {v v2 : Value} {s : Int} {b : Bool} (h : CellQ w g v s b v2) {g' : Nat} (hne : g ≠ g') (x y z : Value) : CellQ (put3 w g' x y z) g v s b v2 := ((h.far hne 0 x).far hne 1 y).far hne 2 z
def DAt (wY : World) (z : Int) (p : Value) (wx : World) : Prop := ∃ (gq : Nat) (s : Int) (b : Bool) (A : Option Addr) (n c : Nat), p = .pointer (some ⟨gq, 0, none⟩) ∧ CellI wx gq s b (.slice A n c) ∧ RI wx (.agg #[.int .i64 s, .bool b, .slice A n c]) z ∧ Up wY wx ∧ wY.heap.size ≤ gq
theorem DAt.at1 {wY W wx : World} {z : Int} {p : Value} {s : Int} {b : Bool} {A : Option Addr} {n c : Nat} (e1 : p = .pointer (some ⟨W.heap.size, 0, none⟩)) (e2 : wx = W.alloc (.cells #[.int .i64 s, .bool b, .slice A n c] 48)) (hv : RI W (.agg #[.int .i64 s, .bool b, .slice A n c]) z) (hu : Up wY W) : DAt wY z p wx := by
  subst e1 e2
  exact ⟨_, s, b, A, n, c, rfl, CellI.new W s b (.slice A n c), hv.up (Up.alloc _ _), hu.trans (Up.alloc _ _), hu.size⟩
theorem DAt.at2 {wY W wx : World} {z : Int} {p : Value} {s : Int} {b : Bool} {A : Option Addr} {n c : Nat} (gq : Nat) (e1 : p = .pointer (some ⟨gq, 0, none⟩)) (e2 : wx = put3 W gq (.int .i64 s) (.bool b) (.slice A n c)) (h1 : CellI W gq 0 false (.slice none 0 0)) (hv : RI W (.agg #[.int .i64 s, .bool b, .slice A n c]) z) (hu : Up wY W) (h3 : wY.heap.size ≤ gq) : DAt wY z p wx := by
  subst e1 e2
  exact ⟨gq, s, b, A, n, c, rfl, h1.set s b (.slice A n c), hv.putI h1 _ _ _, hu.put3 h3 _ _ _, h3⟩
set_option maxHeartbeats 40000000 in
set_option maxRecDepth 10000 in
theorem refRowSum_any (A B : Option Addr) (c d n : Nat) (fs : List (List Int × Int)) (qs : List Rat) (w : World) (hn : n ≤ 8) (hl : fs.length = qs.length) (hfl : fs.length ≤ 200) (hr : RdE eltW w A fs) (hs : RdE eltQ w B qs) (hf : ∀ f, f ∈ fs → f.1.length = n) (hfb : ∀ f, f ∈ fs → (∀ y, y ∈ f.1 → rl y ≤ 3) ∧ rl f.2 ≤ 3) (hq : ∀ q, q ∈ qs → QB q 3) :
    Calls Tryz.prog 47 #[.int .i64 n, .slice A fs.length c, .slice B qs.length d] w fun e w' => ∃ v u, e = .returned (.tuple #[v, u]) ∧ RowQ w w' v ((sumF n (lcmD qs) fs qs).1.map (·.tdiv (Int.gcd (gcdR (sumF n (lcmD qs) fs qs).2.natAbs (sumF n (lcmD qs) fs qs).1 : Nat) (lcmD qs : Nat) : Int))) ((sumF n (lcmD qs) fs qs).2.tdiv (Int.gcd (gcdR (sumF n (lcmD qs) fs qs).2.natAbs (sumF n (lcmD qs) fs qs).1 : Nat) (lcmD qs : Nat) : Int)) ∧ RI w' u (((lcmD qs : Nat) : Int).tdiv (Int.gcd (gcdR (sumF n (lcmD qs) fs qs).2.natAbs (sumF n (lcmD qs) fs qs).1 : Nat) (lcmD qs : Nat) : Int)) ∧ Up w w' := by
  have HL := Lib.hid hl
  have HOF := Lib.hid (fun W => refOf_any 1 W (by decide) (by decide))
  have hqb : qs.length ≤ 200 := by omega
  clear hl
  go_enter Tryz.func47, Tryz.ntmps47
  go_wp2_with fail
  refine Calls.mono (HOF.out _) ?_
  rintro e w1 ⟨v1, rfl, hv, hu⟩
  obtain ⟨s1, b1, A1, n1, c1, rfl, -⟩ := hv.open_
  have HV1 := Lib.hid hv
  have HU1 := Lib.hid hu
  clear hu hv
  go_wp2_with fail
  have HU0 := Lib.hid ((Up.alloc w (.cells #[.slice none 0 0, .int .i64 0, .bool false, .slice none 0 0] 59)).trans (Up.alloc _ (.cells #[.int .i64 0, .bool false, .slice none 0 0] 48)))
  have HZ0 := Lib.hid ((CellQ.new w (.slice none 0 0) (.slice none 0 0) 0 false).up (Up.alloc _ (.cells #[.int .i64 0, .bool false, .slice none 0 0] 48)))
  have HY0 := Lib.hid (CellI.new (w.alloc (.cells #[.slice none 0 0, .int .i64 0, .bool false, .slice none 0 0] 59)) 0 false (.slice none 0 0))
  rw [size_alloc] at HY0
  obtain ⟨gz, hgz⟩ : ∃ gz, gz = w.heap.size := ⟨_, rfl⟩
  obtain ⟨gy, hgy⟩ : ∃ gy, gy = w.heap.size + 1 := ⟨_, rfl⟩
  rw [← hgz] at HZ0 
  rw [← hgy] at HY0
  rw [← hgy, ← hgz]
  have HGZ := Lib.hid (show w.heap.size ≤ gz ∧ w.heap.size ≤ gy ∧ gz ≠ gy by omega)
  have HZ1 := Lib.hid ((HZ0.out.up HU1.out).up (Up.alloc w1 (.cells #[.int .i64 s1, .bool b1, .slice A1 n1 c1] 48)))
  have HY1 := Lib.hid ((HY0.out.up HU1.out).up (Up.alloc w1 (.cells #[.int .i64 s1, .bool b1, .slice A1 n1 c1] 48)))
  have HK1 := Lib.hid (CellI.new w1 s1 b1 (.slice A1 n1 c1))
  have HV2 := Lib.hid (HV1.out.up (Up.alloc w1 (.cells #[.int .i64 s1, .bool b1, .slice A1 n1 c1] 48)))
  have HU2 := Lib.hid ((HU0.out.trans HU1.out).trans (Up.alloc w1 (.cells #[.int .i64 s1, .bool b1, .slice A1 n1 c1] 48)))
  have HGK := Lib.hid (show gz ≠ w1.heap.size ∧ gy ≠ w1.heap.size from ⟨Nat.ne_of_lt (HZ0.out.up HU1.out).lt, Nat.ne_of_lt (HY0.out.up HU1.out).lt⟩)
  have HGL := Lib.hid (show w.heap.size ≤ w1.heap.size from (HU0.out.trans HU1.out).size)
  obtain ⟨gk, hgk⟩ : ∃ gk, gk = w1.heap.size := ⟨_, rfl⟩
  rw [← hgk] at HK1 HGK HGL ⊢
  generalize w1.alloc (.cells #[.int .i64 s1, .bool b1, .slice A1 n1 c1] 48) = wB at *
  clear hgz hgy hgk HU0 HZ0 HY0 HU1 HV1
  go_loopw [27] (fun i wr => ∃ a : Nat, a ≤ qs.length ∧ i = .int .i64 a ∧ ∃ s b A n c, Hid (CellI wr gk s b (.slice A n c)) ∧ Hid (RI wr (.agg #[.int .i64 s, .bool b, .slice A n c]) (lcmD (qs.take a) : Nat)) ∧ Hid (CellQ wr gz (.slice none 0 0) 0 false (.slice none 0 0)) ∧ Hid (CellI wr gy 0 false (.slice none 0 0)) ∧ Hid (Up w wr)) (fun i _ => qs.length - (intOf i).toNat)
  case atStart => exact ⟨0, by omega, rfl, s1, b1, A1, n1, c1, HK1, HV2, HZ1, HY1, HU2⟩
  case round =>
    obtain ⟨a, ha, rfl, s2, b2, A2, n2, c2, HK, HV, HZ, HY, HU⟩ := hrel
    by_cases hal : a < qs.length
    · obtain ⟨b9, off, cs, rfl, hbb, hqq, hcell⟩ := (hs.up HU.out).at_ hal
      obtain ⟨e1, f1, F1, y1, x1, e2, f2, F2, y2, x2, rfl, hn1, hn2⟩ := id hqq
      have HRD := Lib.hid hn2.ri
      have HQB := Lib.hid (hq _ (List.getElem_mem hal)).2
      have hnx := lcmD_next qs a hal
      have hlp := lcmD_pos (qs.take a)
      have hlr := lcmD_rl qs hq a (by omega)
      have hd0 := (qs[a]).den_nz
      have c0 := hcell 0 _ rfl
      have c1' := hcell 1 _ rfl
      have c2' := hcell 2 _ rfl
      have c3 := hcell 3 _ rfl
      have c4 := hcell 4 _ rfl
      have c5 := hcell 5 _ rfl
      simp only [eltQ, Nat.add_zero] at c0 c1' c2' c3 c4 c5
      clear hcell hqq hn1 hn2
      generalize (qs[a]).den = D at *
      generalize lcmD (qs.take a) = K at *
      have hKr : rl ((K : Nat) : Int) ≤ 700 := by have := HL.out; omega
      have HGC := Lib.hid (fun W u v (h1 : RI W u (K : Nat)) (h2 : RI W v (D : Nat)) => refGcd_any u v _ _ W h1 h2 (by omega) (by have := HQB.out; omega))
      have hg0 : ((Int.gcd ((K : Nat) : Int) (D : Nat) : Nat) : Int) ≠ 0 := by
        have := Int.gcd_pos_of_ne_zero_left (D : Int) (show ((K : Nat) : Int) ≠ 0 by omega)
        omega
      have HOV := Lib.hid (fun W u v (h1 : RI W u (D : Nat)) (h2 : RI W v (Int.gcd ((K : Nat) : Int) (D : Nat) : Nat)) => refOver_any u v _ _ W h1 h2 hg0 (by have := HQB.out; omega))
      have HTM := Lib.hid (fun W u v (h1 : RI W u (K : Nat)) (h2 : RI W v (((D : Nat) : Int).tdiv (Int.gcd ((K : Nat) : Int) (D : Nat) : Nat))) => refTimes_any u v _ _ W h1 h2 (by omega) (Nat.le_trans (rl_tdiv HQB.out) (by omega)))
      clear hKr hg0 hlr
      go_upto_region 5 with fail
      have HUY := Lib.hid (Up.alloc wr (.cells #[.int .i64 e1, .bool f1, .slice F1 y1 x1, .int .i64 e2, .bool f2, .slice F2 y2 x2] 50))
      have HCR := Lib.hid (CellR.new wr e1 f1 (.slice F1 y1 x1) e2 f2 (.slice F2 y2 x2))
      obtain ⟨wY, hwY⟩ : ∃ wY, wY = wr.alloc (.cells #[.int .i64 e1, .bool f1, .slice F1 y1 x1, .int .i64 e2, .bool f2, .slice F2 y2 x2] 50) := ⟨_, rfl⟩
      obtain ⟨g7, hg7⟩ : ∃ g7, g7 = wr.heap.size := ⟨_, rfl⟩
      rw [← hwY] at HUY HCR ⊢
      rw [← hg7] at HCR ⊢
      have HKY := Lib.hid (HK.out.up HUY.out)
      have HVY := Lib.hid (HV.out.up HUY.out)
      have HRY := Lib.hid (HRD.out.up HUY.out)
      clear hwY hg7 c0 c1' c2' c3 c4 c5 hbb
      obtain ⟨k0, k1, k2, lk⟩ := HKY.out.facts
      obtain ⟨-, -, -, r3, r4, r5, lr⟩ := HCR.out.facts
      have : (gk = wY.heap.size) = False := eq_false (by have := lk; omega)
      have : (wY.heap.size = gk) = False := eq_false (by have := lk; omega)
      have : (gk = wY.heap.size + 1) = False := eq_false (by have := lk; omega)
      have : (wY.heap.size + 1 = gk) = False := eq_false (by have := lk; omega)
      have : (g7 = wY.heap.size) = False := eq_false (by have := lr; omega)
      have : (wY.heap.size = g7) = False := eq_false (by have := lr; omega)
      have : (g7 = wY.heap.size + 1) = False := eq_false (by have := lr; omega)
      have : (wY.heap.size + 1 = g7) = False := eq_false (by have := lr; omega)
      go_cut [11, 12] (fun p11 p12 wx => OverAt wY (((D : Nat) : Int).tdiv (Int.gcd ((K : Nat) : Int) (D : Nat) : Nat)) p11 p12 wx)
      case first =>
       go_region_held3 (fun w' => w'.cell? ⟨gk, 0, none⟩ = some (.int .i64 s2) ∧ w'.cell? ⟨gk, 1, none⟩ = some (.bool b2) ∧ w'.cell? ⟨gk, 2, none⟩ = some (.slice A2 n2 c2) ∧ w'.cell? ⟨g7, 3, none⟩ = some (.int .i64 e2) ∧ w'.cell? ⟨g7, 4, none⟩ = some (.bool f2) ∧ w'.cell? ⟨g7, 5, none⟩ = some (.slice F2 y2 x2)) (go_keep)
        ((first
          | (go_at_call 90
             refine Calls.mono (HGC.out _ _ _ (HVY.out.up (by (repeat (first | exact Below.refl _ _ | exact Hid.out (by assumption) | refine Up.trans ?_ (Up.drew _) | refine Up.trans ?_ (Up.drewN _ _) | refine Up.trans ?_ (Up.alloc _ _) | refine Up.trans ?_ (Hid.out (by assumption)))))) (HRY.out.up (by (repeat (first | exact Below.refl _ _ | exact Hid.out (by assumption) | refine Up.trans ?_ (Up.drew _) | refine Up.trans ?_ (Up.drewN _ _) | refine Up.trans ?_ (Up.alloc _ _) | refine Up.trans ?_ (Hid.out (by assumption))))))) ?_
             rintro e w5 ⟨v5, rfl, hv, hu⟩
             have HU5 := Lib.hid hu
             have HV5 := Lib.hid hv
             obtain ⟨s5, b5, A5, n5, c5, rfl, -⟩ := hv.open_
             obtain ⟨k0, k1, k2, lk⟩ := (HKY.out.up (w' := w5) (by (repeat (first | exact Below.refl _ _ | exact Hid.out (by assumption) | refine Up.trans ?_ (Up.drew _) | refine Up.trans ?_ (Up.drewN _ _) | refine Up.trans ?_ (Up.alloc _ _) | refine Up.trans ?_ (Hid.out (by assumption)))))).facts
             have : (gk = w5.heap.size) = False := eq_false (by have := lk; omega)
             have : (w5.heap.size = gk) = False := eq_false (by have := lk; omega)
             have : (gk = w5.heap.size + 1) = False := eq_false (by have := lk; omega)
             have : (w5.heap.size + 1 = gk) = False := eq_false (by have := lk; omega)
             obtain ⟨-, -, -, r3, r4, r5, lr⟩ := (HCR.out.up (w' := w5) (by (repeat (first | exact Below.refl _ _ | exact Hid.out (by assumption) | refine Up.trans ?_ (Up.drew _) | refine Up.trans ?_ (Up.drewN _ _) | refine Up.trans ?_ (Up.alloc _ _) | refine Up.trans ?_ (Hid.out (by assumption)))))).facts
             have : (g7 = w5.heap.size) = False := eq_false (by have := lr; omega)
             have : (w5.heap.size = g7) = False := eq_false (by have := lr; omega)
             have : (g7 = w5.heap.size + 1) = False := eq_false (by have := lr; omega)
             have : (w5.heap.size + 1 = g7) = False := eq_false (by have := lr; omega)
             first
               | (refine CellI.hidNew (wA := wY) (w' := w5) ?_ fun HZ1 => ?_
                  · (repeat (first | exact Below.refl _ _ | exact Hid.out (by assumption) | refine Up.trans ?_ (Up.drew _) | refine Up.trans ?_ (Up.drewN _ _) | refine Up.trans ?_ (Up.alloc _ _) | refine Up.trans ?_ (Hid.out (by assumption))))
                  obtain ⟨_, _, _, _⟩ := HZ1.out.facts
                  have : (wY.heap.size = w5.heap.size) = False := eq_false (by have := HZ1.out.lt; omega)
                  have : (w5.heap.size = wY.heap.size) = False := eq_false (by have := HZ1.out.lt; omega)
                  have : (wY.heap.size = w5.heap.size + 1) = False := eq_false (by have := HZ1.out.lt; omega)
                  have : (w5.heap.size + 1 = wY.heap.size) = False := eq_false (by have := HZ1.out.lt; omega)
                  have := HZ1.out.frozen 0
                  have := HZ1.out.frozen 1
                  have := HZ1.out.frozen 2)
               | skip
             first
               | (refine CellI.hidNew2 (wA := wY) (w' := w5) ?_ fun HZ2 => ?_
                  · (repeat (first | exact Below.refl _ _ | exact Hid.out (by assumption) | refine Up.trans ?_ (Up.drew _) | refine Up.trans ?_ (Up.drewN _ _) | refine Up.trans ?_ (Up.alloc _ _) | refine Up.trans ?_ (Hid.out (by assumption))))
                  obtain ⟨_, _, _, _⟩ := HZ2.out.facts
                  have : (wY.heap.size + 1 = w5.heap.size) = False := eq_false (by have := HZ2.out.lt; omega)
                  have : (w5.heap.size = wY.heap.size + 1) = False := eq_false (by have := HZ2.out.lt; omega)
                  have : (wY.heap.size + 1 = w5.heap.size + 1) = False := eq_false (by have := HZ2.out.lt; omega)
                  have : (w5.heap.size + 1 = wY.heap.size + 1) = False := eq_false (by have := HZ2.out.lt; omega)
                  have := HZ2.out.frozen 0
                  have := HZ2.out.frozen 1
                  have := HZ2.out.frozen 2)
               | skip
             clear hu hv)
          | (go_at_call 89
             refine Calls.mono (HOV.out _ _ _ (HRY.out.up (by (repeat (first | exact Below.refl _ _ | exact Hid.out (by assumption) | refine Up.trans ?_ (Up.drew _) | refine Up.trans ?_ (Up.drewN _ _) | refine Up.trans ?_ (Up.alloc _ _) | refine Up.trans ?_ (Hid.out (by assumption)))))) (HV5.out.up (by (repeat (first | exact Below.refl _ _ | exact Hid.out (by assumption) | refine Up.trans ?_ (Up.drew _) | refine Up.trans ?_ (Up.drewN _ _) | refine Up.trans ?_ (Up.alloc _ _) | refine Up.trans ?_ (Hid.out (by assumption))))))) ?_
             rintro e w6 ⟨v6, v7, rfl, hv, hv7, hu⟩
             have HU6 := Lib.hid hu
             have HV6 := Lib.hid hv
             obtain ⟨s6, b6, A6, n6, c6, rfl, -⟩ := hv.open_
             obtain ⟨s7, b7, A7, n7, c7, rfl, -⟩ := hv7.open_
             obtain ⟨k0, k1, k2, lk⟩ := (HKY.out.up (w' := w6) (by (repeat (first | exact Below.refl _ _ | exact Hid.out (by assumption) | refine Up.trans ?_ (Up.drew _) | refine Up.trans ?_ (Up.drewN _ _) | refine Up.trans ?_ (Up.alloc _ _) | refine Up.trans ?_ (Hid.out (by assumption)))))).facts
             have : (gk = w6.heap.size) = False := eq_false (by have := lk; omega)
             have : (w6.heap.size = gk) = False := eq_false (by have := lk; omega)
             have : (gk = w6.heap.size + 1) = False := eq_false (by have := lk; omega)
             have : (w6.heap.size + 1 = gk) = False := eq_false (by have := lk; omega)
             obtain ⟨-, -, -, r3, r4, r5, lr⟩ := (HCR.out.up (w' := w6) (by (repeat (first | exact Below.refl _ _ | exact Hid.out (by assumption) | refine Up.trans ?_ (Up.drew _) | refine Up.trans ?_ (Up.drewN _ _) | refine Up.trans ?_ (Up.alloc _ _) | refine Up.trans ?_ (Hid.out (by assumption)))))).facts
             have : (g7 = w6.heap.size) = False := eq_false (by have := lr; omega)
             have : (w6.heap.size = g7) = False := eq_false (by have := lr; omega)
             have : (g7 = w6.heap.size + 1) = False := eq_false (by have := lr; omega)
             have : (w6.heap.size + 1 = g7) = False := eq_false (by have := lr; omega)
             first
               | (refine CellI.hidUp (w' := w6) HZ1 ?_ fun HY1 => ?_
                  · (repeat (first | exact Below.refl _ _ | exact Hid.out (by assumption) | refine Up.trans ?_ (Up.drew _) | refine Up.trans ?_ (Up.drewN _ _) | refine Up.trans ?_ (Up.alloc _ _) | refine Up.trans ?_ (Hid.out (by assumption))))
                  obtain ⟨_, _, _, _⟩ := HY1.out.facts
                  have : (wY.heap.size = w6.heap.size) = False := eq_false (by have := HY1.out.lt; omega)
                  have : (w6.heap.size = wY.heap.size) = False := eq_false (by have := HY1.out.lt; omega)
                  have : (wY.heap.size = w6.heap.size + 1) = False := eq_false (by have := HY1.out.lt; omega)
                  have : (w6.heap.size + 1 = wY.heap.size) = False := eq_false (by have := HY1.out.lt; omega)
                  have := HY1.out.frozen 0
                  have := HY1.out.frozen 1
                  have := HY1.out.frozen 2)
               | skip
             first
               | (refine CellI.hidUp (w' := w6) HZ2 ?_ fun HY2 => ?_
                  · (repeat (first | exact Below.refl _ _ | exact Hid.out (by assumption) | refine Up.trans ?_ (Up.drew _) | refine Up.trans ?_ (Up.drewN _ _) | refine Up.trans ?_ (Up.alloc _ _) | refine Up.trans ?_ (Hid.out (by assumption))))
                  obtain ⟨_, _, _, _⟩ := HY2.out.facts
                  have : (wY.heap.size + 1 = w6.heap.size) = False := eq_false (by have := HY2.out.lt; omega)
                  have : (w6.heap.size = wY.heap.size + 1) = False := eq_false (by have := HY2.out.lt; omega)
                  have : (wY.heap.size + 1 = w6.heap.size + 1) = False := eq_false (by have := HY2.out.lt; omega)
                  have : (w6.heap.size + 1 = wY.heap.size + 1) = False := eq_false (by have := HY2.out.lt; omega)
                  have := HY2.out.frozen 0
                  have := HY2.out.frozen 1
                  have := HY2.out.frozen 2)
               | skip
             first
               | (refine CellI.hidNew (wA := w5) (w' := w6) ?_ fun HY3 => ?_
                  · (repeat (first | exact Below.refl _ _ | exact Hid.out (by assumption) | refine Up.trans ?_ (Up.drew _) | refine Up.trans ?_ (Up.drewN _ _) | refine Up.trans ?_ (Up.alloc _ _) | refine Up.trans ?_ (Hid.out (by assumption))))
                  obtain ⟨_, _, _, _⟩ := HY3.out.facts
                  have : (w5.heap.size = w6.heap.size) = False := eq_false (by have := HY3.out.lt; omega)
                  have : (w6.heap.size = w5.heap.size) = False := eq_false (by have := HY3.out.lt; omega)
                  have : (w5.heap.size = w6.heap.size + 1) = False := eq_false (by have := HY3.out.lt; omega)
                  have : (w6.heap.size + 1 = w5.heap.size) = False := eq_false (by have := HY3.out.lt; omega)
                  have := HY3.out.frozen 0
                  have := HY3.out.frozen 1
                  have := HY3.out.frozen 2)
               | skip
             first
               | (refine CellI.hidNew2 (wA := w5) (w' := w6) ?_ fun HY4 => ?_
                  · (repeat (first | exact Below.refl _ _ | exact Hid.out (by assumption) | refine Up.trans ?_ (Up.drew _) | refine Up.trans ?_ (Up.drewN _ _) | refine Up.trans ?_ (Up.alloc _ _) | refine Up.trans ?_ (Hid.out (by assumption))))
                  obtain ⟨_, _, _, _⟩ := HY4.out.facts
                  have : (w5.heap.size + 1 = w6.heap.size) = False := eq_false (by have := HY4.out.lt; omega)
                  have : (w6.heap.size = w5.heap.size + 1) = False := eq_false (by have := HY4.out.lt; omega)
                  have : (w5.heap.size + 1 = w6.heap.size + 1) = False := eq_false (by have := HY4.out.lt; omega)
                  have : (w6.heap.size + 1 = w5.heap.size + 1) = False := eq_false (by have := HY4.out.lt; omega)
                  have := HY4.out.frozen 0
                  have := HY4.out.frozen 1
                  have := HY4.out.frozen 2)
               | skip
             clear hu hv hv7)))
       all_goals (go_wp2_with fail; go_meet)
       all_goals first
         | exact OverAt.at3 (W := w6) wY.heap.size (by with_reducible rfl) (by with_reducible rfl) (by rfl) HY1.out HV6.out (by (repeat (first | exact Below.refl _ _ | exact Hid.out (by assumption) | refine Up.trans ?_ (Up.drew _) | refine Up.trans ?_ (Up.drewN _ _) | refine Up.trans ?_ (Up.alloc _ _) | refine Up.trans ?_ (Hid.out (by assumption))))) (Nat.le_refl _)
         | exact OverAt.at4 (W := w6) wY.heap.size (by with_reducible rfl) (by with_reducible rfl) (by rfl) HY1.out HV6.out (by (repeat (first | exact Below.refl _ _ | exact Hid.out (by assumption) | refine Up.trans ?_ (Up.drew _) | refine Up.trans ?_ (Up.drewN _ _) | refine Up.trans ?_ (Up.alloc _ _) | refine Up.trans ?_ (Hid.out (by assumption))))) (Nat.le_refl _)
         | exact OverAt.at3 (W := w6) w5.heap.size (by with_reducible rfl) (by with_reducible rfl) (by rfl) HY3.out HV6.out (by (repeat (first | exact Below.refl _ _ | exact Hid.out (by assumption) | refine Up.trans ?_ (Up.drew _) | refine Up.trans ?_ (Up.drewN _ _) | refine Up.trans ?_ (Up.alloc _ _) | refine Up.trans ?_ (Hid.out (by assumption))))) ((show Up wY w5 by (repeat (first | exact Below.refl _ _ | exact Hid.out (by assumption) | refine Up.trans ?_ (Up.drew _) | refine Up.trans ?_ (Up.drewN _ _) | refine Up.trans ?_ (Up.alloc _ _) | refine Up.trans ?_ (Hid.out (by assumption))))).size)
         | exact OverAt.at4 (W := w6) w5.heap.size (by with_reducible rfl) (by with_reducible rfl) (by rfl) HY3.out HV6.out (by (repeat (first | exact Below.refl _ _ | exact Hid.out (by assumption) | refine Up.trans ?_ (Up.drew _) | refine Up.trans ?_ (Up.drewN _ _) | refine Up.trans ?_ (Up.alloc _ _) | refine Up.trans ?_ (Hid.out (by assumption))))) ((show Up wY w5 by (repeat (first | exact Below.refl _ _ | exact Hid.out (by assumption) | refine Up.trans ?_ (Up.drew _) | refine Up.trans ?_ (Up.drewN _ _) | refine Up.trans ?_ (Up.alloc _ _) | refine Up.trans ?_ (Hid.out (by assumption))))).size)
         | exact OverAt.at5 (W := w6) wY.heap.size (wY.heap.size + 1) (by with_reducible rfl) (by with_reducible rfl) (by rfl) HY1.out HY2.out (by first | omega | (have := HZ1.out.lt; omega)) HV6.out (by (repeat (first | exact Below.refl _ _ | exact Hid.out (by assumption) | refine Up.trans ?_ (Up.drew _) | refine Up.trans ?_ (Up.drewN _ _) | refine Up.trans ?_ (Up.alloc _ _) | refine Up.trans ?_ (Hid.out (by assumption))))) (Nat.le_refl _) (Nat.le_succ _)
         | exact OverAt.at5 (W := w6) (wY.heap.size + 1) wY.heap.size (by with_reducible rfl) (by with_reducible rfl) (by rfl) HY2.out HY1.out (by first | omega | (have := HZ1.out.lt; omega)) HV6.out (by (repeat (first | exact Below.refl _ _ | exact Hid.out (by assumption) | refine Up.trans ?_ (Up.drew _) | refine Up.trans ?_ (Up.drewN _ _) | refine Up.trans ?_ (Up.alloc _ _) | refine Up.trans ?_ (Hid.out (by assumption))))) (Nat.le_succ _) (Nat.le_refl _)
         | exact OverAt.at5 (W := w6) wY.heap.size w5.heap.size (by with_reducible rfl) (by with_reducible rfl) (by rfl) HY1.out HY3.out (by first | omega | (have := HZ1.out.lt; omega)) HV6.out (by (repeat (first | exact Below.refl _ _ | exact Hid.out (by assumption) | refine Up.trans ?_ (Up.drew _) | refine Up.trans ?_ (Up.drewN _ _) | refine Up.trans ?_ (Up.alloc _ _) | refine Up.trans ?_ (Hid.out (by assumption))))) (Nat.le_refl _) ((show Up wY w5 by (repeat (first | exact Below.refl _ _ | exact Hid.out (by assumption) | refine Up.trans ?_ (Up.drew _) | refine Up.trans ?_ (Up.drewN _ _) | refine Up.trans ?_ (Up.alloc _ _) | refine Up.trans ?_ (Hid.out (by assumption))))).size)
         | exact OverAt.at5 (W := w6) w5.heap.size wY.heap.size (by with_reducible rfl) (by with_reducible rfl) (by rfl) HY3.out HY1.out (by first | omega | (have := HZ1.out.lt; omega)) HV6.out (by (repeat (first | exact Below.refl _ _ | exact Hid.out (by assumption) | refine Up.trans ?_ (Up.drew _) | refine Up.trans ?_ (Up.drewN _ _) | refine Up.trans ?_ (Up.alloc _ _) | refine Up.trans ?_ (Hid.out (by assumption))))) ((show Up wY w5 by (repeat (first | exact Below.refl _ _ | exact Hid.out (by assumption) | refine Up.trans ?_ (Up.drew _) | refine Up.trans ?_ (Up.drewN _ _) | refine Up.trans ?_ (Up.alloc _ _) | refine Up.trans ?_ (Hid.out (by assumption))))).size) (Nat.le_refl _)
         | exact OverAt.at5 (W := w6) w5.heap.size (w5.heap.size + 1) (by with_reducible rfl) (by with_reducible rfl) (by rfl) HY3.out HY4.out (by first | omega | (have := HZ1.out.lt; omega)) HV6.out (by (repeat (first | exact Below.refl _ _ | exact Hid.out (by assumption) | refine Up.trans ?_ (Up.drew _) | refine Up.trans ?_ (Up.drewN _ _) | refine Up.trans ?_ (Up.alloc _ _) | refine Up.trans ?_ (Hid.out (by assumption))))) ((show Up wY w5 by (repeat (first | exact Below.refl _ _ | exact Hid.out (by assumption) | refine Up.trans ?_ (Up.drew _) | refine Up.trans ?_ (Up.drewN _ _) | refine Up.trans ?_ (Up.alloc _ _) | refine Up.trans ?_ (Hid.out (by assumption))))).size) (Nat.le_succ_of_le (show Up wY w5 by (repeat (first | exact Below.refl _ _ | exact Hid.out (by assumption) | refine Up.trans ?_ (Up.drew _) | refine Up.trans ?_ (Up.drewN _ _) | refine Up.trans ?_ (Up.alloc _ _) | refine Up.trans ?_ (Hid.out (by assumption))))).size)
         | exact OverAt.at5 (W := w6) (w5.heap.size + 1) w5.heap.size (by with_reducible rfl) (by with_reducible rfl) (by rfl) HY4.out HY3.out (by first | omega | (have := HZ1.out.lt; omega)) HV6.out (by (repeat (first | exact Below.refl _ _ | exact Hid.out (by assumption) | refine Up.trans ?_ (Up.drew _) | refine Up.trans ?_ (Up.drewN _ _) | refine Up.trans ?_ (Up.alloc _ _) | refine Up.trans ?_ (Hid.out (by assumption))))) (Nat.le_succ_of_le (show Up wY w5 by (repeat (first | exact Below.refl _ _ | exact Hid.out (by assumption) | refine Up.trans ?_ (Up.drew _) | refine Up.trans ?_ (Up.drewN _ _) | refine Up.trans ?_ (Up.alloc _ _) | refine Up.trans ?_ (Hid.out (by assumption))))).size) ((show Up wY w5 by (repeat (first | exact Below.refl _ _ | exact Hid.out (by assumption) | refine Up.trans ?_ (Up.drew _) | refine Up.trans ?_ (Up.drewN _ _) | refine Up.trans ?_ (Up.alloc _ _) | refine Up.trans ?_ (Hid.out (by assumption))))).size)
         | exact OverAt.at1 (W := w6) (by with_reducible rfl) (by with_reducible rfl) (by rfl) HV6.out (by (repeat (first | exact Below.refl _ _ | exact Hid.out (by assumption) | refine Up.trans ?_ (Up.drew _) | refine Up.trans ?_ (Up.drewN _ _) | refine Up.trans ?_ (Up.alloc _ _) | refine Up.trans ?_ (Hid.out (by assumption)))))
         | exact OverAt.at2 (W := w6) (by with_reducible rfl) (by with_reducible rfl) (by rfl) HV6.out (by (repeat (first | exact Below.refl _ _ | exact Hid.out (by assumption) | refine Up.trans ?_ (Up.drew _) | refine Up.trans ?_ (Up.drewN _ _) | refine Up.trans ?_ (Up.alloc _ _) | refine Up.trans ?_ (Hid.out (by assumption)))))
      case rest => as_aux_lemma =>
       obtain ⟨gq, gu, s8, b8, A8, n8, c8, rfl, rfl, hcq, hrq, huq⟩ := hcut
       have HQC := Lib.hid hcq
       have HQR := Lib.hid hrq
       have HQU := Lib.hid huq
       clear hcq hrq huq
       have HKC := Lib.hid (HKY.out.up HQU.out)
       have HKV := Lib.hid (HVY.out.up HQU.out)
       have HKN : Hid (((K : Nat) : Int) * ((D : Nat) : Int).tdiv (Int.gcd ((K : Nat) : Int) (D : Nat) : Nat) = (lcmD (qs.take (a + 1)) : Nat)) := Lib.hid (by
         rw [hnx, Nat.lcm_comm, ← lcm_int (Nat.pos_of_ne_zero hd0), Int.gcd_comm, Int.mul_comm])
       rw [HKN.out] at HTM
       obtain ⟨k0, k1, k2, lk⟩ := HKC.out.facts
       obtain ⟨t0, t1, t2, lt⟩ := HQC.out.facts
       go_wp2_with fail
       refine Calls.mono (HTM.out _ _ _ HKV.out HQR.out) ?_
       rintro e w9 ⟨v9, rfl, hv, hu⟩
       have HV9 := Lib.hid hv
       obtain ⟨s9, b9', A9, n9, c9, rfl, -⟩ := hv.open_
       have st := HUY.out.trans (HQU.out.trans hu)
       have HK9 := Lib.hid (HKC.out.up hu)
       have HZ9 := Lib.hid (HZ.out.up st)
       have HY9 := Lib.hid (HY.out.up st)
       have HU9 := Lib.hid (HU.out.trans st)
       clear hu hv st k0 k1 k2 lk t0 t1 t2 lt
       obtain ⟨k0, k1, k2, lk⟩ := HK9.out.facts
       have fk0 := HK9.out.frozen 0
       have fk1 := HK9.out.frozen 1
       have fk2 := HK9.out.frozen 2
       have HKX := Lib.hid (HK9.out.set s9 b9' (.slice A9 n9 c9))
       have HVX := Lib.hid (HV9.out.putI HK9.out (.int .i64 s9) (.bool b9') (.slice A9 n9 c9))
       have HZX := Lib.hid (((HZ9.out.far HGK.out.1 0 (.int .i64 s9)).far HGK.out.1 1 (.bool b9')).far HGK.out.1 2 (.slice A9 n9 c9))
       have HYX := Lib.hid (HY9.out.far HGK.out.2 (.int .i64 s9) (.bool b9') (.slice A9 n9 c9))
       have HUX := Lib.hid (HU9.out.put3 HGL.out (.int .i64 s9) (.bool b9') (.slice A9 n9 c9))
       go_wp2
       exact ⟨⟨a + 1, by omega, by simp, s9, b9', A9, n9, c9, HKX, HVX, HZX, HYX, HUX⟩, by simp [intOf]; omega⟩
    · have hae : a = qs.length := by omega
      subst hae
      rw [List.take_length] at HV
      obtain ⟨Ak, hak⟩ : ∃ Ak, Ak = A2 := ⟨_, rfl⟩
      obtain ⟨nk, hnk⟩ : ∃ nk, nk = n2 := ⟨_, rfl⟩
      obtain ⟨ck, hck⟩ : ∃ ck, ck = c2 := ⟨_, rfl⟩
      rw [← hak, ← hnk, ← hck] at HK HV
      clear hak hnk hck
      have HZR := Lib.hid (fun W => refZero_any n W (by omega))
      go_wp2_with fail
      refine Calls.mono (HZR.out _) ?_
      rintro e w5 ⟨v5, rfl, ⟨A5, c5, s5, b5, A6, n6, c6, rfl, g1, g2, g3, g4, g5⟩, hu⟩
      have st := Lib.hid hu
      have HK5 := Lib.hid (HK.out.up hu)
      have HV5 := Lib.hid (HV.out.up hu)
      have HZ5 := Lib.hid (HZ.out.up hu)
      have HY5 := Lib.hid (HY.out.up hu)
      have HU5 := Lib.hid (HU.out.trans hu)
      have HG5 := Lib.hid (And.intro g3 g4)
      have HGF := Lib.hid g5
      rw [List.length_replicate]
      clear hu g1 g2 g3 g4 g5 HK HV HZ HY HU
      go_wp2_with fail
      have HGN := Lib.hid (CellQ.new w5 (.slice A5 n c5) (.slice A6 n6 c6) s5 b5)
      have HUN := Lib.hid (Up.alloc w5 (.cells #[.slice A5 n c5, .int .i64 s5, .bool b5, .slice A6 n6 c6] 59))
      obtain ⟨wN, hwN⟩ : ∃ wN, wN = w5.alloc (.cells #[.slice A5 n c5, .int .i64 s5, .bool b5, .slice A6 n6 c6] 59) := ⟨_, rfl⟩
      obtain ⟨gg, hgg⟩ : ∃ gg, gg = w5.heap.size := ⟨_, rfl⟩
      rw [← hwN] at HGN HUN ⊢
      rw [← hgg] at HGN ⊢
      have HGO := Lib.hid (show w.heap.size ≤ gg by have := HU5.out.size; omega)
      have HNE := Lib.hid (show gz ≠ gg ∧ gy ≠ gg ∧ gk ≠ gg by have h1 := HZ5.out.lt; have h2 := HY5.out.lt; have h3 := HK5.out.lt; omega)
      have HKN := Lib.hid (HK5.out.up HUN.out)
      have HVN := Lib.hid (HV5.out.up HUN.out)
      have HZN := Lib.hid (HZ5.out.up HUN.out)
      have HYN := Lib.hid (HY5.out.up HUN.out)
      have HUNW := Lib.hid (HU5.out.trans HUN.out)
      have HRG : Hid (RdE eltR wN A5 (sumF n (lcmD qs) (fs.take 0) (qs.take 0)).1 ∧ RI wN (.agg #[.int .i64 s5, .bool b5, .slice A6 n6 c6]) (sumF n (lcmD qs) (fs.take 0) (qs.take 0)).2) := Lib.hid ⟨HG5.out.1.up HUN.out, HG5.out.2.up HUN.out⟩
      have hkr : rl ((lcmD qs : Nat) : Int) ≤ 700 := by
        have h9 := lcmD_rl qs hq qs.length (Nat.le_refl _)
        rw [List.take_length] at h9
        omega
      have HSR := Lib.hid (sumF_rl n (lcmD qs) fs qs hkr HL.out hq hfb)
      have HSL := Lib.hid (fun i => sumF_len n (lcmD qs) fs qs hf i)
      have HKR := Lib.hid hkr
      clear hwN hgg hkr HG5 HGF HK5 HV5 HZ5 HY5 HU5 HUN HOF HV2 HK1 HZ1 HY1 HU2
      go_loopw [49] (fun i wr => ∃ a : Nat, a ≤ fs.length ∧ i = .int .i64 a ∧ ∃ A c s b A2 n2 c2, Hid (CellQ wr gg (.slice A n c) s b (.slice A2 n2 c2)) ∧ Hid (RdE eltR wr A (sumF n (lcmD qs) (fs.take a) (qs.take a)).1 ∧ RI wr (.agg #[.int .i64 s, .bool b, .slice A2 n2 c2]) (sumF n (lcmD qs) (fs.take a) (qs.take a)).2) ∧ Hid (CellI wr gk s2 b2 (.slice Ak nk ck)) ∧ Hid (RI wr (.agg #[.int .i64 s2, .bool b2, .slice Ak nk ck]) (lcmD qs : Nat)) ∧ Hid (CellQ wr gz (.slice none 0 0) 0 false (.slice none 0 0)) ∧ Hid (CellI wr gy 0 false (.slice none 0 0)) ∧ Hid (Up w wr)) (fun i _ => fs.length - (intOf i).toNat)
      case atStart => exact ⟨0, by omega, rfl, _, _, _, _, _, _, _, HGN, HRG, HKN, HVN, HZN, HYN, HUNW⟩
      case round =>
        obtain ⟨a, ha, rfl, A7, c7, s7, b7, A8, n8, c8, HG, HRG2, HK, HV, HZ, HY, HU⟩ := hrel
        by_cases hal : a < fs.length
        · have haq : a < qs.length := by have := HL.out; omega
          obtain ⟨b9, off, cs9, rfl, hbb, hrw, hcell⟩ := (hr.up HU.out).at_ hal
          obtain ⟨Ar, cr, sr, br, Ar2, nr2, cr2, rfl, hr1, hr2, hr3, hr4⟩ := id hrw
          obtain ⟨bq, offq, csq, rfl, hbq, hqq, hcellq⟩ := (hs.up HU.out).at_ haq
          obtain ⟨e1, f1, F1, y1, x1, e2, f2, F2, y2, x2, rfl, hn1, hn2⟩ := id hqq
          have w0 := hcell 0 _ rfl
          have w1' := hcell 1 _ rfl
          have w2' := hcell 2 _ rfl
          have w3' := hcell 3 _ rfl
          simp only [eltW, Nat.add_zero] at w0 w1' w2' w3'
          have HQC := Lib.hid (fun W (hu : Up wr W) => And.intro ((hu.cells.1 _ _ hbq).trans (hcellq 0 _ rfl)) (And.intro ((hu.cells.1 _ _ hbq).trans (hcellq 1 _ rfl)) (And.intro ((hu.cells.1 _ _ hbq).trans (hcellq 2 _ rfl)) (And.intro ((hu.cells.1 _ _ hbq).trans (hcellq 3 _ rfl)) (And.intro ((hu.cells.1 _ _ hbq).trans (hcellq 4 _ rfl)) ((hu.cells.1 _ _ hbq).trans (hcellq 5 _ rfl)))))))
          simp only [eltQ, Nat.add_zero] at HQC
          have HRN := Lib.hid (And.intro hn1.ri hn2.ri)
          have HRR := Lib.hid (And.intro hr3.rd hr4.ri)
          have hfl2 := hf _ (List.getElem_mem hal)
          have hfb2 := hfb _ (List.getElem_mem hal)
          have hqb2 := hq _ (List.getElem_mem haq)
          have hd0 := (qs[a]).den_nz
          have HNX := Lib.hid (sumF_next n (lcmD qs) fs qs a hal haq)
          have HBG := Lib.hid (HSR.out a (by omega))
          have HBL := Lib.hid (HSL.out a)
          generalize fs[a] = f at *
          generalize qs[a] = q at *
          have HOV := Lib.hid (fun W u v (h1 : RI W u (lcmD qs : Nat)) (h2 : RI W v (q.den : Nat)) => refOver_any u v _ _ W h1 h2 (by omega) (by have := HKR.out; omega))
          have i0 : (0 : Int) ≤ (a : Int) := by omega
          have i1 : (a : Int) < (qs.length : Int) := by omega
          rw [hfl2] at w0
          have HFL := Lib.hid hfl2
          clear hcell hcellq hrw hqq hn1 hn2 hr1 hr2 hr3 hr4 hfl2
          go_upto_region 12 with fail
          have HUY := Lib.hid (Up.alloc wr (.cells #[.slice Ar n cr, .int .i64 sr, .bool br, .slice Ar2 nr2 cr2] 59))
          have HRC := Lib.hid (CellQ.new wr (.slice Ar n cr) (.slice Ar2 nr2 cr2) sr br)
          obtain ⟨wY, hwY⟩ : ∃ wY, wY = wr.alloc (.cells #[.slice Ar n cr, .int .i64 sr, .bool br, .slice Ar2 nr2 cr2] 59) := ⟨_, rfl⟩
          obtain ⟨g15, hg15⟩ : ∃ g15, g15 = wr.heap.size := ⟨_, rfl⟩
          have HBQ := Lib.hid (show bq < wY.heap.size by rw [hwY, size_alloc]; omega)
          rw [← hwY] at HUY HRC ⊢
          rw [← hg15] at HRC ⊢
          have HKY := Lib.hid (HK.out.up HUY.out)
          have HVY := Lib.hid (HV.out.up HUY.out)
          have HRY := Lib.hid (HRN.out.2.up HUY.out)
          have HQY := Lib.hid (fun W (hu : Up wY W) => HQC.out W (HUY.out.trans hu))
          clear hwY hg15 w0 w1' w2' w3' hbb
          obtain ⟨k0, k1, k2, lk⟩ := HKY.out.facts
          obtain ⟨-, -, -, r3, r4, r5⟩ := HQY.out wY (Up.refl _)
          have lq := HBQ.out
          have : (gk = wY.heap.size) = False := eq_false (by have := lk; omega)
          have : (wY.heap.size = gk) = False := eq_false (by have := lk; omega)
          have : (gk = wY.heap.size + 1) = False := eq_false (by have := lk; omega)
          have : (wY.heap.size + 1 = gk) = False := eq_false (by have := lk; omega)
          have : (bq = wY.heap.size) = False := eq_false (by have := lq; omega)
          have : (wY.heap.size = bq) = False := eq_false (by have := lq; omega)
          have : (bq = wY.heap.size + 1) = False := eq_false (by have := lq; omega)
          have : (wY.heap.size + 1 = bq) = False := eq_false (by have := lq; omega)
          go_cut [16, 17] (fun p16 p17 wx => OverAt wY (((lcmD qs : Nat) : Int).tdiv (q.den : Nat)) p16 p17 wx)
          case first =>
           go_region_held3 (fun w' => w'.cell? ⟨gk, 0, none⟩ = some (.int .i64 s2) ∧ w'.cell? ⟨gk, 1, none⟩ = some (.bool b2) ∧ w'.cell? ⟨gk, 2, none⟩ = some (.slice Ak nk ck) ∧ w'.cell? ⟨bq, offq + a * 6 + 3, none⟩ = some (.int .i64 e2) ∧ w'.cell? ⟨bq, offq + a * 6 + 4, none⟩ = some (.bool f2) ∧ w'.cell? ⟨bq, offq + a * 6 + 5, none⟩ = some (.slice F2 y2 x2)) (go_keep)
            ((go_at_call 89
              refine Calls.mono (HOV.out _ _ _ (HVY.out.up (by (repeat (first | exact Below.refl _ _ | exact Hid.out (by assumption) | refine Up.trans ?_ (Up.drew _) | refine Up.trans ?_ (Up.drewN _ _) | refine Up.trans ?_ (Up.alloc _ _) | refine Up.trans ?_ (Hid.out (by assumption)))))) (HRY.out.up (by (repeat (first | exact Below.refl _ _ | exact Hid.out (by assumption) | refine Up.trans ?_ (Up.drew _) | refine Up.trans ?_ (Up.drewN _ _) | refine Up.trans ?_ (Up.alloc _ _) | refine Up.trans ?_ (Hid.out (by assumption))))))) ?_
              rintro e w6 ⟨v6, v7, rfl, hv, hv7, hu⟩
              have HU6 := Lib.hid hu
              have HV6 := Lib.hid hv
              obtain ⟨s6, b6, A6', n6', c6', rfl, -⟩ := hv.open_
              obtain ⟨s7', b7', A7', n7', c7', rfl, -⟩ := hv7.open_
              obtain ⟨k0, k1, k2, lk⟩ := (HKY.out.up (w' := w6) (by (repeat (first | exact Below.refl _ _ | exact Hid.out (by assumption) | refine Up.trans ?_ (Up.drew _) | refine Up.trans ?_ (Up.drewN _ _) | refine Up.trans ?_ (Up.alloc _ _) | refine Up.trans ?_ (Hid.out (by assumption)))))).facts
              obtain ⟨-, -, -, r3, r4, r5⟩ := HQY.out w6 (by (repeat (first | exact Below.refl _ _ | exact Hid.out (by assumption) | refine Up.trans ?_ (Up.drew _) | refine Up.trans ?_ (Up.drewN _ _) | refine Up.trans ?_ (Up.alloc _ _) | refine Up.trans ?_ (Hid.out (by assumption)))))
              have lq := Nat.lt_of_lt_of_le HBQ.out (show Up wY w6 by (repeat (first | exact Below.refl _ _ | exact Hid.out (by assumption) | refine Up.trans ?_ (Up.drew _) | refine Up.trans ?_ (Up.drewN _ _) | refine Up.trans ?_ (Up.alloc _ _) | refine Up.trans ?_ (Hid.out (by assumption))))).size
              have : (gk = w6.heap.size) = False := eq_false (by have := lk; omega)
              have : (w6.heap.size = gk) = False := eq_false (by have := lk; omega)
              have : (gk = w6.heap.size + 1) = False := eq_false (by have := lk; omega)
              have : (w6.heap.size + 1 = gk) = False := eq_false (by have := lk; omega)
              have : (bq = w6.heap.size) = False := eq_false (by have := lq; omega)
              have : (w6.heap.size = bq) = False := eq_false (by have := lq; omega)
              have : (bq = w6.heap.size + 1) = False := eq_false (by have := lq; omega)
              have : (w6.heap.size + 1 = bq) = False := eq_false (by have := lq; omega)
              first
                | (refine CellI.hidNew (wA := wY) (w' := w6) ?_ fun HY1 => ?_
                   · (repeat (first | exact Below.refl _ _ | exact Hid.out (by assumption) | refine Up.trans ?_ (Up.drew _) | refine Up.trans ?_ (Up.drewN _ _) | refine Up.trans ?_ (Up.alloc _ _) | refine Up.trans ?_ (Hid.out (by assumption))))
                   obtain ⟨_, _, _, _⟩ := HY1.out.facts
                   have : (wY.heap.size = w6.heap.size) = False := eq_false (by have := HY1.out.lt; omega)
                   have : (w6.heap.size = wY.heap.size) = False := eq_false (by have := HY1.out.lt; omega)
                   have : (wY.heap.size = w6.heap.size + 1) = False := eq_false (by have := HY1.out.lt; omega)
                   have : (w6.heap.size + 1 = wY.heap.size) = False := eq_false (by have := HY1.out.lt; omega)
                   have := HY1.out.frozen 0
                   have := HY1.out.frozen 1
                   have := HY1.out.frozen 2)
                | skip
              first
                | (refine CellI.hidNew2 (wA := wY) (w' := w6) ?_ fun HY2 => ?_
                   · (repeat (first | exact Below.refl _ _ | exact Hid.out (by assumption) | refine Up.trans ?_ (Up.drew _) | refine Up.trans ?_ (Up.drewN _ _) | refine Up.trans ?_ (Up.alloc _ _) | refine Up.trans ?_ (Hid.out (by assumption))))
                   obtain ⟨_, _, _, _⟩ := HY2.out.facts
                   have : (wY.heap.size + 1 = w6.heap.size) = False := eq_false (by have := HY2.out.lt; omega)
                   have : (w6.heap.size = wY.heap.size + 1) = False := eq_false (by have := HY2.out.lt; omega)
                   have : (wY.heap.size + 1 = w6.heap.size + 1) = False := eq_false (by have := HY2.out.lt; omega)
                   have : (w6.heap.size + 1 = wY.heap.size + 1) = False := eq_false (by have := HY2.out.lt; omega)
                   have := HY2.out.frozen 0
                   have := HY2.out.frozen 1
                   have := HY2.out.frozen 2)
                | skip
              clear hu hv hv7))
           all_goals (go_wp2_with fail; go_meet)
           all_goals first
             | exact OverAt.at3 (W := w6) wY.heap.size (by with_reducible rfl) (by with_reducible rfl) (by rfl) HY1.out HV6.out (by (repeat (first | exact Below.refl _ _ | exact Hid.out (by assumption) | refine Up.trans ?_ (Up.drew _) | refine Up.trans ?_ (Up.drewN _ _) | refine Up.trans ?_ (Up.alloc _ _) | refine Up.trans ?_ (Hid.out (by assumption))))) (Nat.le_refl _)
             | exact OverAt.at4 (W := w6) wY.heap.size (by with_reducible rfl) (by with_reducible rfl) (by rfl) HY1.out HV6.out (by (repeat (first | exact Below.refl _ _ | exact Hid.out (by assumption) | refine Up.trans ?_ (Up.drew _) | refine Up.trans ?_ (Up.drewN _ _) | refine Up.trans ?_ (Up.alloc _ _) | refine Up.trans ?_ (Hid.out (by assumption))))) (Nat.le_refl _)
             | exact OverAt.at5 (W := w6) wY.heap.size (wY.heap.size + 1) (by with_reducible rfl) (by with_reducible rfl) (by rfl) HY1.out HY2.out (by omega) HV6.out (by (repeat (first | exact Below.refl _ _ | exact Hid.out (by assumption) | refine Up.trans ?_ (Up.drew _) | refine Up.trans ?_ (Up.drewN _ _) | refine Up.trans ?_ (Up.alloc _ _) | refine Up.trans ?_ (Hid.out (by assumption))))) (Nat.le_refl _) (Nat.le_succ _)
             | exact OverAt.at5 (W := w6) (wY.heap.size + 1) wY.heap.size (by with_reducible rfl) (by with_reducible rfl) (by rfl) HY2.out HY1.out (by omega) HV6.out (by (repeat (first | exact Below.refl _ _ | exact Hid.out (by assumption) | refine Up.trans ?_ (Up.drew _) | refine Up.trans ?_ (Up.drewN _ _) | refine Up.trans ?_ (Up.alloc _ _) | refine Up.trans ?_ (Hid.out (by assumption))))) (Nat.le_succ _) (Nat.le_refl _)
             | exact OverAt.at1 (W := w6) (by with_reducible rfl) (by with_reducible rfl) (by rfl) HV6.out (by (repeat (first | exact Below.refl _ _ | exact Hid.out (by assumption) | refine Up.trans ?_ (Up.drew _) | refine Up.trans ?_ (Up.drewN _ _) | refine Up.trans ?_ (Up.alloc _ _) | refine Up.trans ?_ (Hid.out (by assumption)))))
             | exact OverAt.at2 (W := w6) (by with_reducible rfl) (by with_reducible rfl) (by rfl) HV6.out (by (repeat (first | exact Below.refl _ _ | exact Hid.out (by assumption) | refine Up.trans ?_ (Up.drew _) | refine Up.trans ?_ (Up.drewN _ _) | refine Up.trans ?_ (Up.alloc _ _) | refine Up.trans ?_ (Hid.out (by assumption)))))
          case rest => as_aux_lemma =>
           obtain ⟨gq, gu, s9, b9', A9, n9, c9, rfl, rfl, hcq, hrq, huq⟩ := hcut
           have HQC9 := Lib.hid hcq
           have HQV9 := Lib.hid hrq
           have HQU9 := Lib.hid huq
           have HUX := Lib.hid (HUY.out.trans huq)
           clear hcq hrq huq
           have HGX := Lib.hid (HG.out.up HUX.out)
           have HRX := Lib.hid (HRC.out.up HQU9.out)
           have HKX := Lib.hid (HKY.out.up HQU9.out)
           have HVX := Lib.hid (HVY.out.up HQU9.out)
           have HZX := Lib.hid (HZ.out.up HUX.out)
           have HYX := Lib.hid (HY.out.up HUX.out)
           have HQX := Lib.hid (fun W (hu : Up wc W) => HQY.out W (HQU9.out.trans hu))
           have HKD := Lib.hid (show rl (((lcmD qs : Nat) : Int).tdiv (q.den : Nat)) ≤ 700 from Nat.le_trans (rl_tdiv HKR.out) (by omega))
           have hkn : rl (q.num * ((lcmD qs : Nat) : Int).tdiv (q.den : Nat)) ≤ 703 := Nat.le_trans (rl_mul hqb2.1 HKD.out (Nat.le_refl _)) (by omega)
           have HTI := Lib.hid (fun W v (hu : Up wr W) (h2 : RI W v (((lcmD qs : Nat) : Int).tdiv (q.den : Nat))) => refTimes_any (.agg #[.int .i64 e1, .bool f1, .slice F1 y1 x1]) v q.num _ W (HRN.out.1.up hu) h2 (by have := hqb2.1; omega) (by have := HKD.out; omega))
           obtain ⟨G, hG⟩ : ∃ G, G = sumF n (lcmD qs) (fs.take a) (qs.take a) := ⟨_, rfl⟩
           rw [← hG] at HRG2 HBG HBL HNX
           clear hG
           obtain ⟨kk, hkk⟩ : ∃ kk, kk = q.num * ((lcmD qs : Nat) : Int).tdiv (q.den : Nat) := ⟨_, rfl⟩
           rw [← hkk] at hkn HTI
           have HTR := Lib.hid (fun W t d B m j (hu : Up wr W) (hk : RI W (.agg #[.int .i64 t, .bool d, .slice B m j]) kk) => (show Calls Tryz.prog 93 #[.agg #[.slice Ar n cr, .int .i64 sr, .bool br, .slice Ar2 nr2 cr2], .agg #[.int .i64 t, .bool d, .slice B m j]] W fun e w' => ∃ v, e = .returned v ∧ RowQ W w' v (f.1.map (· * kk)) (f.2 * kk) ∧ Up W w' from by
             have h9 := refRowTimes_any Ar Ar2 B cr nr2 cr2 m j sr t br d f.1 f.2 kk W (by rw [HFL.out]; omega) (HRR.out.1.up hu) (HRR.out.2.up hu) hk (fun z hz => by have := hfb2.1 z hz; omega) (by have := hfb2.2; omega) (by omega)
             rw [HFL.out] at h9
             exact h9))
           have hfk1 : ∀ y, y ∈ f.1.map (· * kk) → rl y ≤ 706 := fun y hy => by
             obtain ⟨z, hz, rfl⟩ := List.mem_map.1 hy
             exact rl_mul (hfb2.1 z hz) hkn (by omega)
           have hfk2 : rl (f.2 * kk) ≤ 706 := rl_mul hfb2.2 hkn (by omega)
           have HPL := Lib.hid (fun W E f2 t d B m j (hu : Up wr W) (hr2 : RdE eltR W E (f.1.map (· * kk))) (hk : RI W (.agg #[.int .i64 t, .bool d, .slice B m j]) (f.2 * kk)) => (show Calls Tryz.prog 92 #[.agg #[.slice A7 n c7, .int .i64 s7, .bool b7, .slice A8 n8 c8], .agg #[.slice E (f.1.map (· * kk)).length f2, .int .i64 t, .bool d, .slice B m j]] W fun e w' => ∃ v, e = .returned v ∧ RowQ W w' v (addF (lcmD qs) G f q).1 (addF (lcmD qs) G f q).2 ∧ Up W w' from by
             have h9 := refRowPlus_any A7 A8 E B c7 n8 c8 f2 m j s7 t b7 d G.1 (f.1.map (· * kk)) G.2 (f.2 * kk) W (by rw [HBL.out]; omega) (by rw [HBL.out, List.length_map, HFL.out]) (HRG2.out.1.up hu) hr2 (HRG2.out.2.up hu) hk (fun z hz => by have := HBG.out.1 z hz; omega) (fun z hz => by have := hfk1 z hz; omega) (by have := HBG.out.2; omega) (by omega)
             rw [HBL.out, hkk] at h9
             rw [hkk]
             exact h9))
           have hag : (addF (lcmD qs) G f q).1.length = n := by
             unfold addF
             simp only [List.length_zipWith, List.length_map, HBL.out, HFL.out]; omega
           rw [← HNX.out] at HPL hag
           have hsz : (f.1.map (· * kk)).length = n := by rw [List.length_map, HFL.out]
           rw [hsz] at HPL
           have HSZ := Lib.hid hsz
           have HAG := Lib.hid hag
           clear hsz hag hfk1 hfk2 hkn hkk HNX HBG HBL
           obtain ⟨v0, v1', v2', v3', -, lg⟩ := HGX.out.facts
           obtain ⟨z0, z1, z2, z3⟩ := HGX.out.frz
           obtain ⟨r0, r1, r2, r3, -, lr⟩ := HRX.out.facts
           obtain ⟨t0, t1, t2, lt⟩ := HQC9.out.facts
           obtain ⟨d0, d1, d2, -, -, -⟩ := HQX.out wc (Up.refl _)
           go_upto_region 13 with fail
           go_region_law
             ((first
               | (go_simp
                  go_at_call 71
                  refine Calls.mono (HTI.out _ _ (HUX.out.trans (by (repeat (first | exact Below.refl _ _ | exact Hid.out (by assumption) | refine Up.trans ?_ (Up.drew _) | refine Up.trans ?_ (Up.drewN _ _) | refine Up.trans ?_ (Up.alloc _ _) | refine Up.trans ?_ (Hid.out (by assumption)))))) (HQV9.out.up (by (repeat (first | exact Below.refl _ _ | exact Hid.out (by assumption) | refine Up.trans ?_ (Up.drew _) | refine Up.trans ?_ (Up.drewN _ _) | refine Up.trans ?_ (Up.alloc _ _) | refine Up.trans ?_ (Hid.out (by assumption))))))) ?_
                  rintro e w5 ⟨v5, rfl, hv, hu⟩
                  have HU5 := Lib.hid hu
                  have HV5 := Lib.hid hv
                  obtain ⟨s5, b5, A5, n5, c5, rfl, -⟩ := hv.open_
                  obtain ⟨v0, v1', v2', v3', -, lg⟩ := (HGX.out.up (w' := w5) (by (repeat (first | exact Below.refl _ _ | exact Hid.out (by assumption) | refine Up.trans ?_ (Up.drew _) | refine Up.trans ?_ (Up.drewN _ _) | refine Up.trans ?_ (Up.alloc _ _) | refine Up.trans ?_ (Hid.out (by assumption)))))).facts
                  obtain ⟨z0, z1, z2, z3⟩ := (HGX.out.up (w' := w5) (by (repeat (first | exact Below.refl _ _ | exact Hid.out (by assumption) | refine Up.trans ?_ (Up.drew _) | refine Up.trans ?_ (Up.drewN _ _) | refine Up.trans ?_ (Up.alloc _ _) | refine Up.trans ?_ (Hid.out (by assumption)))))).frz
                  obtain ⟨r0, r1, r2, r3, -, lr⟩ := (HRX.out.up (w' := w5) (by (repeat (first | exact Below.refl _ _ | exact Hid.out (by assumption) | refine Up.trans ?_ (Up.drew _) | refine Up.trans ?_ (Up.drewN _ _) | refine Up.trans ?_ (Up.alloc _ _) | refine Up.trans ?_ (Hid.out (by assumption)))))).facts
                  clear hu hv)
               | (go_simp
                  go_at_call 93
                  refine Calls.mono (HTR.out _ _ _ _ _ _ (HUX.out.trans (by (repeat (first | exact Below.refl _ _ | exact Hid.out (by assumption) | refine Up.trans ?_ (Up.drew _) | refine Up.trans ?_ (Up.drewN _ _) | refine Up.trans ?_ (Up.alloc _ _) | refine Up.trans ?_ (Hid.out (by assumption)))))) (HV5.out.up (by (repeat (first | exact Below.refl _ _ | exact Hid.out (by assumption) | refine Up.trans ?_ (Up.drew _) | refine Up.trans ?_ (Up.drewN _ _) | refine Up.trans ?_ (Up.alloc _ _) | refine Up.trans ?_ (Hid.out (by assumption))))))) ?_
                  rintro e w6 ⟨v6, rfl, hv, hu⟩
                  have HU6 := Lib.hid hu
                  obtain ⟨A6, c6, s6, b6, A16, n16, c16, rfl, -, -, h3, h4, -⟩ := hv
                  have HV6 := Lib.hid (And.intro h3 h4)
                  rw [HSZ.out]
                  obtain ⟨v0, v1', v2', v3', -, lg⟩ := (HGX.out.up (w' := w6) (by (repeat (first | exact Below.refl _ _ | exact Hid.out (by assumption) | refine Up.trans ?_ (Up.drew _) | refine Up.trans ?_ (Up.drewN _ _) | refine Up.trans ?_ (Up.alloc _ _) | refine Up.trans ?_ (Hid.out (by assumption)))))).facts
                  obtain ⟨z0, z1, z2, z3⟩ := (HGX.out.up (w' := w6) (by (repeat (first | exact Below.refl _ _ | exact Hid.out (by assumption) | refine Up.trans ?_ (Up.drew _) | refine Up.trans ?_ (Up.drewN _ _) | refine Up.trans ?_ (Up.alloc _ _) | refine Up.trans ?_ (Hid.out (by assumption)))))).frz
                  clear hu h3 h4)
               | (go_simp
                  go_at_call 92
                  refine Calls.mono (HPL.out _ _ _ _ _ _ _ _ (HUX.out.trans (by (repeat (first | exact Below.refl _ _ | exact Hid.out (by assumption) | refine Up.trans ?_ (Up.drew _) | refine Up.trans ?_ (Up.drewN _ _) | refine Up.trans ?_ (Up.alloc _ _) | refine Up.trans ?_ (Hid.out (by assumption)))))) (HV6.out.1.up (by (repeat (first | exact Below.refl _ _ | exact Hid.out (by assumption) | refine Up.trans ?_ (Up.drew _) | refine Up.trans ?_ (Up.drewN _ _) | refine Up.trans ?_ (Up.alloc _ _) | refine Up.trans ?_ (Hid.out (by assumption)))))) (HV6.out.2.up (by (repeat (first | exact Below.refl _ _ | exact Hid.out (by assumption) | refine Up.trans ?_ (Up.drew _) | refine Up.trans ?_ (Up.drewN _ _) | refine Up.trans ?_ (Up.alloc _ _) | refine Up.trans ?_ (Hid.out (by assumption))))))) ?_
                  rintro e w7 ⟨v7, rfl, hv, hu⟩
                  have HU7 := Lib.hid hu
                  obtain ⟨A17, c17, s17, b17, A18, n18, c18, rfl, -, -, h3, h4, h5⟩ := hv
                  have HV7 := Lib.hid (And.intro h3 h4)
                  have HF7 := Lib.hid h5
                  have HS7 := Lib.hid ((show Up wc _ by (repeat (first | exact Below.refl _ _ | exact Hid.out (by assumption) | refine Up.trans ?_ (Up.drew _) | refine Up.trans ?_ (Up.drewN _ _) | refine Up.trans ?_ (Up.alloc _ _) | refine Up.trans ?_ (Hid.out (by assumption))))).size)
                  rw [HAG.out]
                  obtain ⟨v0, v1', v2', v3', -, lg⟩ := (HGX.out.up (w' := w7) (by (repeat (first | exact Below.refl _ _ | exact Hid.out (by assumption) | refine Up.trans ?_ (Up.drew _) | refine Up.trans ?_ (Up.drewN _ _) | refine Up.trans ?_ (Up.alloc _ _) | refine Up.trans ?_ (Hid.out (by assumption)))))).facts
                  obtain ⟨z0, z1, z2, z3⟩ := (HGX.out.up (w' := w7) (by (repeat (first | exact Below.refl _ _ | exact Hid.out (by assumption) | refine Up.trans ?_ (Up.drew _) | refine Up.trans ?_ (Up.drewN _ _) | refine Up.trans ?_ (Up.alloc _ _) | refine Up.trans ?_ (Hid.out (by assumption)))))).frz
                  clear hu h3 h4 h5)))
           all_goals
             have HG9 := Lib.hid (HGX.out.up (w' := w7) (by (repeat (first | exact Below.refl _ _ | exact Hid.out (by assumption) | refine Up.trans ?_ (Up.drew _) | refine Up.trans ?_ (Up.drewN _ _) | refine Up.trans ?_ (Up.alloc _ _) | refine Up.trans ?_ (Hid.out (by assumption))))))
             have HAW := Lib.hid (show (sumF n (lcmD qs) (fs.take (a + 1)) (qs.take (a + 1))).1 ≠ [] → Away A17 gg from fun _ b off e e2 => by
               have h1 := HF7.out b off e
               have h2 := HGX.out.lt
               have h3 := HS7.out
               omega)
             have HGN := Lib.hid (HG9.out.put (.slice A17 n c17) s17 b17 (.slice A18 n18 c18))
             have HRN9 := Lib.hid (And.intro (HV7.out.1.putRow HG9.out (fun x e => by cases e) HAW.out (.slice A17 n c17) (fun x e => by cases e) s17 b17 (.slice A18 n18 c18)) (HV7.out.2.ria.putRow HG9.out (fun x e => by cases e) (.slice A17 n c17) (fun x e => by cases e) s17 b17 (.slice A18 n18 c18)).ri)
             have HKN := Lib.hid ((HKX.out.up (w' := w7) (by (repeat (first | exact Below.refl _ _ | exact Hid.out (by assumption) | refine Up.trans ?_ (Up.drew _) | refine Up.trans ?_ (Up.drewN _ _) | refine Up.trans ?_ (Up.alloc _ _) | refine Up.trans ?_ (Hid.out (by assumption)))))).row HNE.out.2.2 (.slice A17 n c17) (.slice A18 n18 c18) s17 b17)
             have HVN := Lib.hid (((HVX.out.up (w' := w7) (by (repeat (first | exact Below.refl _ _ | exact Hid.out (by assumption) | refine Up.trans ?_ (Up.drew _) | refine Up.trans ?_ (Up.drewN _ _) | refine Up.trans ?_ (Up.alloc _ _) | refine Up.trans ?_ (Hid.out (by assumption)))))).ria.putRow HG9.out (fun x e => by cases e) (.slice A17 n c17) (fun x e => by cases e) s17 b17 (.slice A18 n18 c18)).ri)
             have HZN := Lib.hid ((HZX.out.up (w' := w7) (by (repeat (first | exact Below.refl _ _ | exact Hid.out (by assumption) | refine Up.trans ?_ (Up.drew _) | refine Up.trans ?_ (Up.drewN _ _) | refine Up.trans ?_ (Up.alloc _ _) | refine Up.trans ?_ (Hid.out (by assumption)))))).row HNE.out.1 (.slice A17 n c17) (.slice A18 n18 c18) s17 b17)
             have HYN := Lib.hid ((HYX.out.up (w' := w7) (by (repeat (first | exact Below.refl _ _ | exact Hid.out (by assumption) | refine Up.trans ?_ (Up.drew _) | refine Up.trans ?_ (Up.drewN _ _) | refine Up.trans ?_ (Up.alloc _ _) | refine Up.trans ?_ (Hid.out (by assumption)))))).row HNE.out.2.1 (.slice A17 n c17) (.slice A18 n18 c18) s17 b17)
             have HUN := Lib.hid (Up.putQ ((HU.out.trans HUX.out).trans (show Up wc w7 by (repeat (first | exact Below.refl _ _ | exact Hid.out (by assumption) | refine Up.trans ?_ (Up.drew _) | refine Up.trans ?_ (Up.drewN _ _) | refine Up.trans ?_ (Up.alloc _ _) | refine Up.trans ?_ (Hid.out (by assumption)))))) HGO.out (.slice A17 n c17) s17 b17 (.slice A18 n18 c18))
             clear v0 v1' v2' v3' lg z0 z1 z2 z3 r0 r1 r2 r3 lr t0 t1 t2 lt d0 d1 d2
             go_wp2
             exact ⟨⟨a + 1, by omega, by simp, A17, c17, s17, b17, A18, n18, c18, HGN, HRN9, HKN, HVN, HZN, HYN, HUN⟩, by simp [intOf]; omega⟩
        · have hae : a = fs.length := by omega
          subst hae
          rw [List.take_length, List.take_of_length_le (by have := HL.out; omega)] at HRG2
          have HBG := Lib.hid (HSR.out fs.length (Nat.le_refl _))
          have HBL := Lib.hid (HSL.out fs.length)
          rw [List.take_length, List.take_of_length_le (by have := HL.out; omega)] at HBG HBL
          generalize hGe : sumF n (lcmD qs) fs qs = G at *
          have HGE := Lib.hid hGe
          have HK0 := Lib.hid (lcmD_pos qs)
          clear hGe
          generalize hKe : lcmD qs = K at *
          have HKE := Lib.hid hKe
          clear hKe
          have hn2 := HBL.out
          have HDV := Lib.hid (fun W (hu : Up wr W) => (show Calls Tryz.prog 94 #[.agg #[.slice A7 n c7, .int .i64 s7, .bool b7, .slice A8 n8 c8]] W fun e w' => ∃ v, e = .returned v ∧ RI w' v (gcdR G.2.natAbs G.1 : Nat) ∧ Up W w' from by
            have h9 := refDivisor_any A7 A8 c7 c8 n8 s7 b7 G.1 G.2 W (by omega) (HRG2.out.1.up hu) (HRG2.out.2.up hu) (fun z hz => by have := HBG.out.1 z hz; omega) (by have := HBG.out.2; omega)
            rw [hn2] at h9
            exact h9))
          clear hn2
          have HDL := Lib.hid (show rl ((gcdR G.2.natAbs G.1 : Nat) : Int) ≤ 1300 from gcdR_rl _ _ _ (by have := HBG.out.2; have := HL.out; unfold rl at *; rw [Int.natAbs_natCast]; omega) (fun y hy => by have := HBG.out.1 y hy; have := HL.out; omega))
          obtain ⟨v0, v1', v2', v3', -, lg⟩ := HG.out.facts
          obtain ⟨k0, k1, k2, lk⟩ := HK.out.facts
          go_upto_region 15 with fail
          have : (gk = wr.heap.size) = False := eq_false (by have := lk; omega)
          have : (wr.heap.size = gk) = False := eq_false (by have := lk; omega)
          have : (gg = wr.heap.size) = False := eq_false (by have := lg; omega)
          have : (wr.heap.size = gg) = False := eq_false (by have := lg; omega)
          have HGC := Lib.hid (fun W u v (h1 : RI W u (gcdR G.2.natAbs G.1 : Nat)) (h2 : RI W v (K : Nat)) => refGcd_any u v _ _ W h1 h2 (by have := HDL.out; omega) (by have := HKR.out; omega))
          go_cut [18] (fun p18 wx => DAt wr (Int.gcd (gcdR G.2.natAbs G.1 : Nat) (K : Nat) : Nat) p18 wx)
          case first =>
           go_region_held3 (fun w' => w'.cell? ⟨gg, 0, none⟩ = some (.slice A7 n c7) ∧ w'.cell? ⟨gg, 1, none⟩ = some (.int .i64 s7) ∧ w'.cell? ⟨gg, 2, none⟩ = some (.bool b7) ∧ w'.cell? ⟨gg, 3, none⟩ = some (.slice A8 n8 c8) ∧ w'.cell? ⟨gk, 0, none⟩ = some (.int .i64 s2) ∧ w'.cell? ⟨gk, 1, none⟩ = some (.bool b2) ∧ w'.cell? ⟨gk, 2, none⟩ = some (.slice Ak nk ck)) (go_keep)
            ((first
              | (go_at_call 94
                 refine Calls.mono (HDV.out _ (by (repeat (first | exact Below.refl _ _ | exact Hid.out (by assumption) | refine Up.trans ?_ (Up.drew _) | refine Up.trans ?_ (Up.drewN _ _) | refine Up.trans ?_ (Up.alloc _ _) | refine Up.trans ?_ (Hid.out (by assumption)))))) ?_
                 rintro e w5 ⟨v5, rfl, hv, hu⟩
                 have HU5 := Lib.hid hu
                 have HV5 := Lib.hid hv
                 obtain ⟨s5, b5, A5, n5, c5, rfl, -⟩ := hv.open_
                 obtain ⟨v0, v1', v2', v3', -, lg⟩ := (HG.out.up (w' := w5) (by (repeat (first | exact Below.refl _ _ | exact Hid.out (by assumption) | refine Up.trans ?_ (Up.drew _) | refine Up.trans ?_ (Up.drewN _ _) | refine Up.trans ?_ (Up.alloc _ _) | refine Up.trans ?_ (Hid.out (by assumption)))))).facts
                 obtain ⟨k0, k1, k2, lk⟩ := (HK.out.up (w' := w5) (by (repeat (first | exact Below.refl _ _ | exact Hid.out (by assumption) | refine Up.trans ?_ (Up.drew _) | refine Up.trans ?_ (Up.drewN _ _) | refine Up.trans ?_ (Up.alloc _ _) | refine Up.trans ?_ (Hid.out (by assumption)))))).facts
                 have : (gk = w5.heap.size) = False := eq_false (by have := lk; omega)
                 have : (w5.heap.size = gk) = False := eq_false (by have := lk; omega)
                 have : (gg = w5.heap.size) = False := eq_false (by have := lg; omega)
                 have : (w5.heap.size = gg) = False := eq_false (by have := lg; omega)
                 first
                   | (refine CellI.hidNew (wA := wr) (w' := w5) ?_ fun HZ1 => ?_
                      · (repeat (first | exact Below.refl _ _ | exact Hid.out (by assumption) | refine Up.trans ?_ (Up.drew _) | refine Up.trans ?_ (Up.drewN _ _) | refine Up.trans ?_ (Up.alloc _ _) | refine Up.trans ?_ (Hid.out (by assumption))))
                      obtain ⟨_, _, _, _⟩ := HZ1.out.facts
                      have : (wr.heap.size = w5.heap.size) = False := eq_false (by have := HZ1.out.lt; omega)
                      have : (w5.heap.size = wr.heap.size) = False := eq_false (by have := HZ1.out.lt; omega)
                      have := HZ1.out.frozen 0
                      have := HZ1.out.frozen 1
                      have := HZ1.out.frozen 2)
                   | skip
                 clear hu hv)
              | (go_at_call 90
                 refine Calls.mono (HGC.out _ _ _ (HV5.out.up (by (repeat (first | exact Below.refl _ _ | exact Hid.out (by assumption) | refine Up.trans ?_ (Up.drew _) | refine Up.trans ?_ (Up.drewN _ _) | refine Up.trans ?_ (Up.alloc _ _) | refine Up.trans ?_ (Hid.out (by assumption)))))) (HV.out.up (by (repeat (first | exact Below.refl _ _ | exact Hid.out (by assumption) | refine Up.trans ?_ (Up.drew _) | refine Up.trans ?_ (Up.drewN _ _) | refine Up.trans ?_ (Up.alloc _ _) | refine Up.trans ?_ (Hid.out (by assumption))))))) ?_
                 rintro e w6 ⟨v6, rfl, hv, hu⟩
                 have HU6 := Lib.hid hu
                 have HV6 := Lib.hid hv
                 obtain ⟨s6, b6, A6, n6, c6, rfl, -⟩ := hv.open_
                 obtain ⟨v0, v1', v2', v3', -, lg⟩ := (HG.out.up (w' := w6) (by (repeat (first | exact Below.refl _ _ | exact Hid.out (by assumption) | refine Up.trans ?_ (Up.drew _) | refine Up.trans ?_ (Up.drewN _ _) | refine Up.trans ?_ (Up.alloc _ _) | refine Up.trans ?_ (Hid.out (by assumption)))))).facts
                 obtain ⟨k0, k1, k2, lk⟩ := (HK.out.up (w' := w6) (by (repeat (first | exact Below.refl _ _ | exact Hid.out (by assumption) | refine Up.trans ?_ (Up.drew _) | refine Up.trans ?_ (Up.drewN _ _) | refine Up.trans ?_ (Up.alloc _ _) | refine Up.trans ?_ (Hid.out (by assumption)))))).facts
                 have : (gk = w6.heap.size) = False := eq_false (by have := lk; omega)
                 have : (w6.heap.size = gk) = False := eq_false (by have := lk; omega)
                 have : (gg = w6.heap.size) = False := eq_false (by have := lg; omega)
                 have : (w6.heap.size = gg) = False := eq_false (by have := lg; omega)
                 first
                   | (refine CellI.hidUp (w' := w6) HZ1 ?_ fun HY1 => ?_
                      · (repeat (first | exact Below.refl _ _ | exact Hid.out (by assumption) | refine Up.trans ?_ (Up.drew _) | refine Up.trans ?_ (Up.drewN _ _) | refine Up.trans ?_ (Up.alloc _ _) | refine Up.trans ?_ (Hid.out (by assumption))))
                      obtain ⟨_, _, _, _⟩ := HY1.out.facts
                      have : (wr.heap.size = w6.heap.size) = False := eq_false (by have := HY1.out.lt; omega)
                      have : (w6.heap.size = wr.heap.size) = False := eq_false (by have := HY1.out.lt; omega)
                      have := HY1.out.frozen 0
                      have := HY1.out.frozen 1
                      have := HY1.out.frozen 2)
                   | skip
                 first
                   | (refine CellI.hidNew (wA := w5) (w' := w6) ?_ fun HY3 => ?_
                      · (repeat (first | exact Below.refl _ _ | exact Hid.out (by assumption) | refine Up.trans ?_ (Up.drew _) | refine Up.trans ?_ (Up.drewN _ _) | refine Up.trans ?_ (Up.alloc _ _) | refine Up.trans ?_ (Hid.out (by assumption))))
                      obtain ⟨_, _, _, _⟩ := HY3.out.facts
                      have : (w5.heap.size = w6.heap.size) = False := eq_false (by have := HY3.out.lt; omega)
                      have : (w6.heap.size = w5.heap.size) = False := eq_false (by have := HY3.out.lt; omega)
                      have := HY3.out.frozen 0
                      have := HY3.out.frozen 1
                      have := HY3.out.frozen 2)
                   | skip
                 clear hu hv)))
           all_goals (go_wp2_with fail; go_meet)
           all_goals first
             | exact DAt.at2 (W := w6) wr.heap.size (by with_reducible rfl) (by rfl) HY1.out HV6.out (by (repeat (first | exact Below.refl _ _ | exact Hid.out (by assumption) | refine Up.trans ?_ (Up.drew _) | refine Up.trans ?_ (Up.drewN _ _) | refine Up.trans ?_ (Up.alloc _ _) | refine Up.trans ?_ (Hid.out (by assumption))))) (Nat.le_refl _)
             | exact DAt.at2 (W := w6) w5.heap.size (by with_reducible rfl) (by rfl) HY3.out HV6.out (by (repeat (first | exact Below.refl _ _ | exact Hid.out (by assumption) | refine Up.trans ?_ (Up.drew _) | refine Up.trans ?_ (Up.drewN _ _) | refine Up.trans ?_ (Up.alloc _ _) | refine Up.trans ?_ (Hid.out (by assumption))))) ((show Up wr w5 by (repeat (first | exact Below.refl _ _ | exact Hid.out (by assumption) | refine Up.trans ?_ (Up.drew _) | refine Up.trans ?_ (Up.drewN _ _) | refine Up.trans ?_ (Up.alloc _ _) | refine Up.trans ?_ (Hid.out (by assumption))))).size)
             | exact DAt.at1 (W := w6) (by with_reducible rfl) (by rfl) HV6.out (by (repeat (first | exact Below.refl _ _ | exact Hid.out (by assumption) | refine Up.trans ?_ (Up.drew _) | refine Up.trans ?_ (Up.drewN _ _) | refine Up.trans ?_ (Up.alloc _ _) | refine Up.trans ?_ (Hid.out (by assumption)))))
          case rest =>
           obtain ⟨gd, sd, bd, Ad, nd, cd, rfl, hcd, hrd, hud, hgd⟩ := hcut
           have HDC := Lib.hid hcd
           have HDR := Lib.hid hrd
           have HDU := Lib.hid hud
           have HGD := Lib.hid hgd
           clear hcd hrd hud hgd
           have hD0 : ((Int.gcd (gcdR G.2.natAbs G.1 : Nat) (K : Nat) : Nat) : Int) ≠ 0 := by
             have := Int.gcd_pos_of_ne_zero_right ((gcdR G.2.natAbs G.1 : Nat) : Int) (show ((K : Nat) : Int) ≠ 0 by have := HK0.out; omega)
             omega
           generalize hDe : Int.gcd (gcdR G.2.natAbs G.1 : Nat) (K : Nat) = D at *
           have HDE := Lib.hid hDe
           clear hDe
           have HOV := Lib.hid (fun W u v z (hz : rl z ≤ 536870912) (h : RI W u z) (h2 : RI W v (D : Nat)) => refOver_any u v z _ W h h2 hD0 hz)
           have HBZ := Lib.hid (And.intro (fun z (hz : z ∈ G.1) => show rl z ≤ 536870912 by have := HBG.out.1 z hz; have := HL.out; omega) (show rl G.2 ≤ 536870912 by have := HBG.out.2; have := HL.out; omega))
           have HGc := Lib.hid (HG.out.up HDU.out)
           have HKc := Lib.hid (HK.out.up HDU.out)
           have HVc := Lib.hid (HV.out.up HDU.out)
           have HRc := Lib.hid (And.intro (HRG2.out.1.up HDU.out) (HRG2.out.2.up HDU.out))
           have HZc := Lib.hid (HZ.out.up HDU.out)
           have HYc := Lib.hid (HY.out.up HDU.out)
           have HUc := Lib.hid (HU.out.trans HDU.out)
           clear hD0 HG HK HV HRG2 HZ HY HU HDV HGC HDL HBG
           obtain ⟨q0, q1, q2, q3, -, lq⟩ := HGc.out.facts
           obtain ⟨i0, i1, i2, li⟩ := HDC.out.facts
           go_wp2_with fail
           have HUO := Lib.hid (Up.alloc wc (.cells #[.slice none 0 0, .int .i64 0, .bool false, .slice none 0 0] 59))
           have HO0 := Lib.hid (CellQ.new wc (.slice none 0 0) (.slice none 0 0) 0 false)
           obtain ⟨wO, hwO⟩ : ∃ wO, wO = wc.alloc (.cells #[.slice none 0 0, .int .i64 0, .bool false, .slice none 0 0] 59) := ⟨_, rfl⟩
           obtain ⟨g4, hg4⟩ : ∃ g4, g4 = wc.heap.size := ⟨_, rfl⟩
           rw [← hwO] at HUO HO0 ⊢
           rw [← hg4] at HO0 ⊢
           have HG4 := Lib.hid (show wc.heap.size ≤ g4 by omega)
           have HN4 := Lib.hid (show gg ≠ g4 ∧ gd ≠ g4 ∧ gk ≠ g4 ∧ gz ≠ g4 ∧ gy ≠ g4 by have := HGc.out.lt; have := HDC.out.lt; have := HKc.out.lt; have := HZc.out.lt; have := HYc.out.lt; omega)
           clear hwO hg4 q0 q1 q2 q3 lq i0 i1 i2 li
           refine Calls.mono (HOV.out _ _ _ _ HBZ.out.2 (HRc.out.2.up HUO.out) (HDR.out.up HUO.out)) ?_
           rintro e w3 ⟨v3, r3, rfl, hv, hr3, hu⟩
           obtain ⟨s3, b3, A3, n3, c3, rfl, -⟩ := hv.open_
           obtain ⟨s4, b4, A4, n4, c4, rfl, -⟩ := hr3.open_
           have HU3 := Lib.hid hu
           have HV3 := Lib.hid hv
           have HO3 := Lib.hid (HO0.out.up hu)
           clear hu hv hr3
           obtain ⟨o0, o1, o2, o3, -, lo⟩ := HO3.out.facts
           obtain ⟨y0, y1, y2, y3⟩ := HO3.out.frz
           obtain ⟨q0, q1, q2, q3, -, lq⟩ := (HGc.out.up (HUO.out.trans HU3.out)).facts
           go_wp2_with fail
           have HUA := Lib.hid (show Up wc (((w3.setCell ⟨g4, 1, none⟩ (.int .i64 s3)).setCell ⟨g4, 2, none⟩ (.bool b3)).setCell ⟨g4, 3, none⟩ (.slice A3 n3 c3)) from ((Below.setCell (p := ⟨g4, 1, none⟩) (HUO.out.trans HU3.out) HG4.out (.int .i64 s3)).setCell (p := ⟨g4, 2, none⟩) HG4.out (.bool b3)).setCell (p := ⟨g4, 3, none⟩) HG4.out (.slice A3 n3 c3))
           have HVA := Lib.hid ((((HV3.out.ria.put HO3.out (fun x e => by cases e) 1 (.int .i64 s3)).put (HO3.out.set1 s3) (fun x e => by cases e) 2 (.bool b3)).put ((HO3.out.set1 s3).set2 b3) (fun x e => by cases e) 3 (.slice A3 n3 c3)).ri)
           have HQA := Lib.hid (((HO3.out.set1 s3).set2 b3).set3 (.slice A3 n3 c3))
           generalize ((w3.setCell ⟨g4, 1, none⟩ (.int .i64 s3)).setCell ⟨g4, 2, none⟩ (.bool b3)).setCell ⟨g4, 3, none⟩ (.slice A3 n3 c3) = wA at *
           clear o0 o1 o2 o3 lo y0 y1 y2 y3 q0 q1 q2 q3 lq HO0 HO3 HUO HU3 HV3
           obtain ⟨zs, xa⟩ := G
           simp only at HRc HBZ HBL HVA
           have hn3 := HBL.out
           clear HBL HSR HSL
           subst hn3
           clear HRG HGN HKN HVN HZN HYN HUNW
           go_loopw [92] (fun i wr => ∃ k : Nat, k ≤ zs.length ∧ i = .int .i64 k ∧ ∃ wB A5 c5, Hid (RI wB (.agg #[.int .i64 s3, .bool b3, .slice A3 n3 c3]) (xa.tdiv (D : Int))) ∧ Hid (CellQ wB g4 (.slice A5 k c5) s3 b3 (.slice A3 n3 c3)) ∧ Hid (Up wc wB) ∧ Hid (OwP eltR okR wB wr 48 (.slice A5 k c5) ((zs.take k).map (·.tdiv (D : Int)))) ∧ Hid (Up wB wr)) (fun i _ => zs.length - (intOf i).toNat)
           case atStart => exact ⟨0, by omega, rfl, wA, none, 0, HVA, HQA, HUA, Lib.hid (OwP.nil _ _ _ _ _), Lib.hid (Up.refl _)⟩
           case round =>
             obtain ⟨k, hk, rfl, wB, A5, c5, HVB, HQ, HUB, HOW, HU⟩ := hrel
             by_cases hkl : k < zs.length
             · obtain ⟨b9, off, cs, rfl, hbb, ⟨t1, d1, D1, m1, j1, rfl, hz⟩, hcell⟩ := (HRc.out.1.up (HUB.out.trans HU.out)).at_ hkl
               have HSM := Lib.hid (HBZ.out.1 zs[k] (List.getElem_mem hkl))
               have HRI := Lib.hid hz.ri
               have e0 := hcell 0 _ rfl
               have e1 := hcell 1 _ rfl
               have e2 := hcell 2 _ rfl
               have HNEXT : Hid ((zs.take (k + 1)).map (·.tdiv (D : Int)) = (zs.take k).map (·.tdiv (D : Int)) ++ [zs[k].tdiv (D : Int)]) := Lib.hid (by rw [List.take_succ_eq_append_getElem hkl, List.map_append]; rfl)
               have HLEN : Hid (((zs.take k).map (·.tdiv (D : Int))).length ≤ 1000000000) := Lib.hid (by rw [List.length_map, List.length_take]; omega)
               have HLK : Hid (((zs.take k).map (·.tdiv (D : Int)) ++ [zs[k].tdiv (D : Int)]).length = k + 1) := Lib.hid (by rw [List.length_append, List.length_map, List.length_take]; simp; omega)
               clear hcell hz
               simp only [eltR, Nat.add_zero] at e0 e1 e2
               generalize zs[k] = z at *
               obtain ⟨i0, i1, i2, li⟩ := (HDC.out.up (HUB.out.trans HU.out)).facts
               go_wp2_with fail
               have HUY := Lib.hid (Up.alloc wr (.cells #[.int .i64 t1, .bool d1, .slice D1 m1 j1] 48))
               refine Calls.mono (HOV.out _ _ _ _ HSM.out (HRI.out.up HUY.out) (HDR.out.up ((HUB.out.trans HU.out).trans HUY.out))) ?_
               rintro e w5 ⟨v5, r5, rfl, hv, hr5, hu⟩
               obtain ⟨s5, b5, A6, n5, c6, rfl, -⟩ := hv.open_
               obtain ⟨s6, b6, A7, n6, c7, rfl, -⟩ := hr5.open_
               have HU5 := Lib.hid hu
               have HV5 := Lib.hid hv
               clear hu hv hr5 e0 e1 e2 hbb i0 i1 i2 li
               obtain ⟨q0, q1, q2, q3, fz, lq⟩ := (HQ.out.up (HU.out.trans (HUY.out.trans HU5.out))).facts
               go_upto_region 22 with fail
               obtain ⟨wZ, hwZ⟩ : ∃ wZ, wZ = (w5.alloc (.cells #[.int .i64 s5, .bool b5, .slice A6 n5 c6] 48)).alloc (.cells #[.int .i64 s6, .bool b6, .slice A7 n6 c7] 48) := ⟨_, rfl⟩
               have HUZ := Lib.hid (show Up w5 wZ by rw [hwZ]; exact (Up.alloc _ _).trans (Up.alloc _ _))
               have HCZ := Lib.hid (show CellI wZ w5.heap.size s5 b5 (.slice A6 n5 c6) by rw [hwZ]; exact (CellI.new _ _ _ _).up (Up.alloc _ _))
               rw [← hwZ]
               clear hwZ q0 q1 q2 q3 fz lq
               have HU9 := Lib.hid ((HUY.out.trans HU5.out).trans HUZ.out)
               obtain ⟨q0, q1, q2, q3, fz, lq⟩ := (HQ.out.up (HU.out.trans HU9.out)).facts
               obtain ⟨m0, m1, m2, lm⟩ := HCZ.out.facts
               have HPP := Lib.hid (HOW.out.up (HU9.out.trans (Up.alloc wZ (.cells #[.int .i64 s5, .bool b5, .slice A6 n5 c6] 48))))
               have HEL := Lib.hid ((HV5.out.up (HUZ.out.trans (Up.alloc wZ (.cells #[.int .i64 s5, .bool b5, .slice A6 n5 c6] 48)))).eltP HPP.out.2)
               go_wp2_with (at_builtin; refine wpList_pushP eltR okR wB rfl (.tmp 103) (.tmp 105) 57 48 rfl _ 40 Tryz.underlying57 info_ri rfl zri_nod okR_zero (by decide) _ ((zs.take k).map (fun z : Int => z.tdiv (D : Int))) rfl HPP.out (HU.out.trans (HU9.out.trans (Up.alloc _ _))) ⟨wZ.heap.size, 0, none⟩ rfl [.int .i64 s5, .bool b5, .slice A6 n5 c6] (z.tdiv (D : Int)) (new_cells wZ [.int .i64 s5, .bool b5, .slice A6 n5 c6] _) HEL.out okR_elt HLEN.out ?_; intro v' w' hown' hup'; have HOW' := Lib.hid hown'; have HU' := Lib.hid hup'; obtain ⟨A8, c8, e8, -⟩ := hown'.1.read eltR_none; rw [HLK.out] at e8; subst e8; clear hown' hup' q0 q1 q2 q3 fz lq; obtain ⟨q0, q1, q2, q3, fz, lq⟩ := (HQ.out.up HU'.out).facts)
               exact ⟨⟨k + 1, by omega, by simp, wB.setCell ⟨g4, 0, none⟩ (.slice A8 (k + 1) c8), A8, c8, Lib.hid ((HVB.out.ria.put HQ.out (fun x e => by cases e) 0 (.slice A8 (k + 1) c8)).ri), Lib.hid (HQ.out.set _), Lib.hid (Below.setCell (p := ⟨g4, 0, none⟩) HUB.out HG4.out _), Lib.hid (((by rw [HNEXT.out]; exact HOW'.out : OwP eltR okR wB w' 48 (.slice A8 (k + 1) c8) ((zs.take (k + 1)).map (·.tdiv (D : Int)))).putQ (HQ.out.up HU'.out) (fun x e => by cases e) 0 _).base (setCell_size _ _ _)), Lib.hid (HU'.out.both g4 0 _)⟩, by simp [intOf]; omega⟩
             · have hke : k = zs.length := by omega
               subst hke
               rw [List.take_length] at HOW
               have HUW := Lib.hid (HUB.out.trans HU.out)
               have HOK := Lib.hid (fun W u v (h : RI W u (K : Nat)) (h2 : RI W v (D : Nat)) => HOV.out W u v _ (by have := HKR.out; omega) h h2)
               obtain ⟨k0, k1, k2, lk⟩ := (HKc.out.up HUW.out).facts
               obtain ⟨i0, i1, i2, li⟩ := (HDC.out.up HUW.out).facts
               go_wp2_with fail
               refine Calls.mono (HOK.out _ _ _ (HVc.out.up HUW.out) (HDR.out.up HUW.out)) ?_
               rintro e w5 ⟨v5, r5, rfl, hv, hr5, hu⟩
               obtain ⟨s5, b5, A6, n5, c6, rfl, -⟩ := hv.open_
               obtain ⟨s6, b6, A7, n6, c7, rfl, -⟩ := hr5.open_
               have HU5 := Lib.hid hu
               have HV5 := Lib.hid hv
               clear hu hv hr5 k0 k1 k2 lk i0 i1 i2 li
               have HK5 := Lib.hid (HKc.out.up (HUW.out.trans HU5.out))
               obtain ⟨k0, k1, k2, lk⟩ := HK5.out.facts
               have fk0 := HK5.out.frozen 0
               have fk1 := HK5.out.frozen 1
               have fk2 := HK5.out.frozen 2
               have HUX := Lib.hid (HUc.out.trans (HUW.out.trans HU5.out))
               have HQ5 := Lib.hid ((HQ.out.up (HU.out.trans HU5.out)).farI (Ne.symm HN4.out.2.2.1) (.int .i64 s5) (.bool b5) (.slice A6 n5 c6))
               have HKX := Lib.hid (HK5.out.set s5 b5 (.slice A6 n5 c6))
               have HVX := Lib.hid (HV5.out.putI HK5.out (.int .i64 s5) (.bool b5) (.slice A6 n5 c6))
               have HZX := Lib.hid ((HZc.out.up (HUW.out.trans HU5.out)).farI HGK.out.1 (.int .i64 s5) (.bool b5) (.slice A6 n5 c6))
               have HYX := Lib.hid ((HYc.out.up (HUW.out.trans HU5.out)).far HGK.out.2 (.int .i64 s5) (.bool b5) (.slice A6 n5 c6))
               have HBX := Lib.hid ((HVB.out.up (HU.out.trans HU5.out)).putI HK5.out (.int .i64 s5) (.bool b5) (.slice A6 n5 c6))
               have HSB := Lib.hid (HUB.out.size)
               obtain ⟨A9, c9, e9, l1, l2, l3, l4⟩ := (HOW.out.1.up HU5.out).read eltR_none
               have HL9 := Lib.hid (show A9 = A5 ∧ c9 = c5 ∧ zs.length ≤ c5 ∧ c5 ≤ maxLen from by
                 rw [List.length_map] at e9 l1
                 injection e9 with e1 e2 e3
                 exact ⟨e1.symm, e3.symm, by omega, by omega⟩)
               have HAB := Lib.hid (fun (b off : Nat) (e : A5 = some ⟨b, off, none⟩) => show wB.heap.size ≤ b from l4 b off (by rw [HL9.out.1]; exact e))
               have HAW := Lib.hid (show Away A5 gk ∧ Away A5 gz ∧ Away A5 gy from by
                 have h1 := HKc.out.lt
                 have h2 := HZc.out.lt
                 have h3 := HYc.out.lt
                 have h4 := HSB.out
                 refine ⟨fun b off e e2 => ?_, fun b off e e2 => ?_, fun b off e e2 => ?_⟩
                 all_goals
                   have := HAB.out b off e
                   omega)
               have HRX := Lib.hid (show RdE eltR (put3 w5 gk (.int .i64 s5) (.bool b5) (.slice A6 n5 c6)) A5 (zs.map (·.tdiv (D : Int))) from by
                 have l5 := l3.putI HK5.out (by rw [HL9.out.1]; exact fun _ => HAW.out.1) (.int .i64 s5) (.bool b5) (.slice A6 n5 c6)
                 rw [HL9.out.1] at l5
                 exact l5)
               have HUE := Lib.hid (HUX.out.put3 HGL.out (.int .i64 s5) (.bool b5) (.slice A6 n5 c6))
               have HF9 := Lib.hid (show ∀ b off, A5 = some ⟨b, off, none⟩ → w.heap.size ≤ b from fun b off e => Nat.le_trans (Nat.le_trans HUc.out.size HSB.out) (HAB.out b off e))
               clear e9 l1 l2 l3 l4
               go_upto_region 25 with fail
               obtain ⟨wE, hwE⟩ : ∃ wE, wE = put3 w5 gk (.int .i64 s5) (.bool b5) (.slice A6 n5 c6) := ⟨_, rfl⟩
               rw [show ((w5.setCell ⟨gk, 0, none⟩ (.int .i64 s5)).setCell ⟨gk, 1, none⟩ (.bool b5)).setCell ⟨gk, 2, none⟩ (.slice A6 n5 c6) = wE from hwE.symm]
               rw [← hwE] at HQ5 HKX HVX HZX HYX HBX HRX HUE
               clear hwE k0 k1 k2 lk fk0 fk1 fk2
               obtain ⟨o0, o1, o2, o3, -, lo⟩ := HQ5.out.facts
               obtain ⟨k0, k1, k2, lk⟩ := HKX.out.facts
               obtain ⟨z0, z1, z2, z3⟩ := HZX.out.frz
               have y0 := HYX.out.frozen 0
               have y1 := HYX.out.frozen 1
               have y2 := HYX.out.frozen 2
               obtain ⟨zc0, zc1, zc2, zc3, -, lz⟩ := HZX.out.facts
               obtain ⟨yc0, yc1, yc2, ly⟩ := HYX.out.facts
               have : (gz = gk) = False := eq_false HGK.out.1
               have : (gk = gz) = False := eq_false (Ne.symm HGK.out.1)
               have : (gy = gk) = False := eq_false HGK.out.2
               have : (gk = gy) = False := eq_false (Ne.symm HGK.out.2)
               have : (gz = g4) = False := eq_false HN4.out.2.2.2.1
               have : (g4 = gz) = False := eq_false (Ne.symm HN4.out.2.2.2.1)
               have : (gy = g4) = False := eq_false HN4.out.2.2.2.2
               have : (g4 = gy) = False := eq_false (Ne.symm HN4.out.2.2.2.2)
               have : (gz = gy) = False := eq_false HGZ.out.2.2
               have : (gy = gz) = False := eq_false (Ne.symm HGZ.out.2.2)
               clear HZR HOV HOK HRc HVA HBZ HGc HQA HUA HG4
               go_region
               all_goals
                 have HZF := Lib.hid ((HZX.out.put (.slice A5 zs.length c5) s3 b3 (.slice A3 n3 c3)).farI HGZ.out.2.2 (.int .i64 s5) (.bool b5) (.slice A6 n5 c6))
                 have HYF := Lib.hid ((HYX.out.row (Ne.symm HGZ.out.2.2) (.slice A5 zs.length c5) (.slice A3 n3 c3) s3 b3).set s5 b5 (.slice A6 n5 c6))
                 have HYM := Lib.hid (HYX.out.row (Ne.symm HGZ.out.2.2) (.slice A5 zs.length c5) (.slice A3 n3 c3) s3 b3)
                 have HRF := Lib.hid ((HRX.out.putRow HZX.out (fun x e => by cases e) (fun _ => HAW.out.2.1) (.slice A5 zs.length c5) (fun x e => by cases e) s3 b3 (.slice A3 n3 c3)).putI HYM.out (fun _ => HAW.out.2.2) (.int .i64 s5) (.bool b5) (.slice A6 n5 c6))
                 have HBF := Lib.hid (((HBX.out.ria.putRow HZX.out (fun x e => by cases e) (.slice A5 zs.length c5) (fun x e => by cases e) s3 b3 (.slice A3 n3 c3)).ri).putI HYM.out (.int .i64 s5) (.bool b5) (.slice A6 n5 c6))
                 have HVF := Lib.hid (((HVX.out.ria.putRow HZX.out (fun x e => by cases e) (.slice A5 zs.length c5) (fun x e => by cases e) s3 b3 (.slice A3 n3 c3)).ri).putI HYM.out (.int .i64 s5) (.bool b5) (.slice A6 n5 c6))
                 have HUF := Lib.hid ((HUE.out.putQ HGZ.out.1 (.slice A5 zs.length c5) s3 b3 (.slice A3 n3 c3)).put3 HGZ.out.2.1 (.int .i64 s5) (.bool b5) (.slice A6 n5 c6))
                 have HZG := Lib.hid HZF.out.facts
                 have HYG := Lib.hid HYF.out.facts
                 clear o0 o1 o2 o3 lo k0 k1 k2 lk z0 z1 z2 z3 y0 y1 y2 zc0 zc1 zc2 zc3 yc0 yc1 yc2
                 go_wp2
                 obtain ⟨z0, z1, z2, z3, -, -⟩ := HZG.out
                 obtain ⟨y0, y1, y2, -⟩ := HYG.out
                 simp only [rowSet, put3] at z0 z1 z2 z3 y0 y1 y2
                 refine bodyPost_ret (by simp [results, Tryz.results47, go_sem, z0, z1, z2, z3, y0, y1, y2]; try rfl) rfl ?_
                 rw [HKE.out, HGE.out]
                 simp only
                 rw [HDE.out]
                 refine ⟨_, _, rfl, ⟨A5, c5, s3, b3, A3, n3, c3, ?_, ?_, HL9.out.2.2.2, HRF.out.up (Up.drew _), HBF.out.up (Up.drew _), HF9.out⟩, HVF.out.up (Up.drew _), HUF.out.trans (Up.drew _)⟩
                 · rw [List.length_map]
                 · rw [List.length_map]; exact HL9.out.2.2.1
end Go.Proofs.YtacbjbnocepnaaaGreatDoor
