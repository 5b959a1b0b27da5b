/- Contracts of the reference implementation: products, differences, comparisons. -/
import Derived.Test.YtacbjbnocepnaaaGreatDoorQGK
import Derived.StillTailTactics
import Derived.Test.YtacbjbnocepnaaaGreatDoorQGA
namespace Go.Proofs.YtacbjbnocepnaaaGreatDoor
open Go.RowKit Fm
theorem mk64 (n : Nat) (hn : n ≤ 4294967296) (w : World) : (Instr.makeSlice 26 (.int .i64 (n : Int)) (.int .i64 (n : Int))).run Tryz.prog w =
    .ok (.slice (some ⟨w.heap.size, 0, none⟩) n n) (w.alloc (.cells (rowOf .i64 (zeroL n)) 3)) := by
  obtain ⟨i0, hi, hz0, hz1, hz2⟩ := info_parts info_i64
  have h := run_make (P := Tryz.prog) w 26 3 i0 (.int .i64 0) Tryz.underlying26 hi hz0 .i64 .i64 n n (by omega) (by omega) (by rw [hz2]; omega) (by omega)
  rw [h, hz1]; simp only [Int.toNat_natCast, Nat.mul_one, made_row]
structure ShAt (ds xs : List Nat) (n k r : Nat) : Prop where
  len : xs.length = ds.length
  ok : Ok 1073741824 xs
  lt : r < n
  eq : val 1073741824 (xs.drop k) * n + r = val 1073741824 (ds.drop k)
theorem ShAt.next {ds xs : List Nat} {n k r : Nat} (h : ShAt ds xs n (k + 1) r) (hk : k < ds.length) (hd : Ok 1073741824 ds) (hn : n < 1073741824) (t : Nat) (ht : t = r * 1073741824 + ds[k]) :
    t < 1152921504606846976 ∧ t / n < 1073741824 ∧ ShAt ds (xs.set k (t / n)) n k (t % n) := by
  have h1 := hd.get hk
  have hr := h.lt
  have hn0 : 0 < n := by omega
  have htn : t < n * 1073741824 := by
    have : (r + 1) * 1073741824 ≤ n * 1073741824 := Nat.mul_le_mul_right _ hr
    omega
  have hq : t / n < 1073741824 := Nat.div_lt_of_lt_mul htn
  have hxk : k < xs.length := by rw [h.len]; exact hk
  refine ⟨by omega, hq, by rw [List.length_set, h.len], h.ok.set k hq, Nat.mod_lt _ hn0, ?_⟩
  have hk2 : k < (xs.set k (t / n)).length := by rw [List.length_set]; exact hxk
  rw [List.drop_eq_getElem_cons hk2, List.getElem_set_self, List.drop_set_of_lt (by omega), List.drop_eq_getElem_cons hk, val, val]
  have h3 := h.eq
  have h4 := Nat.div_add_mod t n
  rw [← h3, Nat.add_mul, Nat.mul_add, Nat.mul_assoc]
  rw [Nat.mul_comm n] at h4
  generalize val 1073741824 (xs.drop (k + 1)) * n = V at *
  omega
set_option maxHeartbeats 2000000 in
set_option maxRecDepth 100000 in
theorem refShorter_any (v : Value) (ds : List Nat) (n : Nat) (w : World) (h : Sl .i64 w v ds) (hd : Ok 1073741824 ds) (hn0 : 0 < n) (hn : n < 1073741824) (hl : ds.length ≤ 1073741824) :
    Calls Tryz.prog 142 #[v, .int .i64 n] w fun e w' => ∃ g xs, e = .returned (.tuple #[.slice (some ⟨g, 0, none⟩) ds.length ds.length, .int .i64 ((val 1073741824 ds % n : Nat) : Int)]) ∧ w.heap.size ≤ g ∧ Row .i64 3 w' g xs ∧ Ok 1073741824 xs ∧ val 1073741824 xs = val 1073741824 ds / n ∧ xs.length = ds.length ∧ Up w w' := by
  obtain ⟨A, c, rfl, hc, hcm, hr⟩ := h
  have hmk := mk64 ds.length (by omega)
  have hrow0 := Row.new (k := .i64) (t := 3) w (zeroL ds.length)
  have hlz := zeroL_length ds.length
  have hok0 : Ok 1073741824 (zeroL ds.length) := Ok.replicate (by omega)
  go_enter Tryz.func142, Tryz.ntmps142
  go_wp2
  go_loopw [5, 6] (fun r i wr => ∃ (k q : Nat) (xs : List Nat), k ≤ ds.length ∧ i = .int .i64 ((k : Int) - 1) ∧ r = .int .i64 q ∧ q < n ∧ Hid (ShAt ds xs n k q) ∧ Row .i64 3 wr w.heap.size xs ∧ Up w wr) (fun _ i _ => (intOf i + 1).toNat)
  case atStart => exact ⟨ds.length, 0, zeroL ds.length, Nat.le_refl _, rfl, rfl, hn0, ⟨hlz, hok0, hn0, by rw [List.drop_eq_nil_of_le (by omega), List.drop_eq_nil_of_le (Nat.le_refl _)]; simp [val]⟩, hrow0, Up.alloc _ _⟩
  case round =>
    obtain ⟨k, q, xs, hk, rfl, rfl, hqn, HS, hrow, hup⟩ := hrel
    have hxl := HS.out.len
    have hrA := hr.up hup
    clear hmk hrow0 hlz hok0
    by_cases h0 : k = 0
    · subst h0
      have HOK := Lib.hid HS.out.ok
      have HE : Hid (val 1073741824 xs = val 1073741824 ds / n ∧ q = val 1073741824 ds % n) := by
        have h3 := HS.out.eq
        rw [List.drop_zero, List.drop_zero] at h3
        unfold Hid
        rw [← h3]
        refine ⟨?_, ?_⟩
        · rw [Nat.add_comm, Nat.add_mul_div_right _ _ hn0, Nat.div_eq_of_lt hqn, Nat.zero_add]
        · rw [Nat.add_comm, Nat.add_mul_mod_self_right, Nat.mod_eq_of_lt hqn]
      clear HS
      go_wp2
      go_ret2
      obtain ⟨he1, he2⟩ := HE.out
      subst he2
      exact ⟨_, xs, rfl, Nat.le_refl _, hrow, HOK.out, he1, hxl, hup⟩
    · obtain ⟨j, rfl⟩ : ∃ j, k = j + 1 := ⟨k - 1, by omega⟩
      obtain ⟨b, off, rfl, hbb, hcell⟩ := hrA.at_ (i := j) (by omega)
      have hx := hd.get (k := j) (by omega)
      have hN := HS.out.next (by omega) hd hn _ rfl
      obtain ⟨x, hxe⟩ : ∃ x, x = ds[j] := ⟨_, rfl⟩
      rw [← hxe] at hcell hx hN
      obtain ⟨hsb, hqb, hN2⟩ := hN
      have HN := Lib.hid hN2
      have hlt : j < xs.length := by omega
      have hxc := hrow.cell hlt
      have hxf := hrow.frozen j
      have HRS := Lib.hid (hrow.set j ((q * 1073741824 + x) / n))
      have HUS := Lib.hid (hup.grown (grown_set (World.grownBy.refl wr (some w.heap.size)) j (.int .i64 (((q * 1073741824 + x) / n : Nat) : Int))) (Nat.le_refl _))
      obtain ⟨t, ht⟩ : ∃ t, t = q * 1073741824 + x := ⟨_, rfl⟩
      rw [← ht] at hsb hqb HN HRS HUS
      have hnz : ((n : Int) == 0) = false := by simp; omega
      have hdv : ((t : Int) / (n : Int)) = ((t / n : Nat) : Int) := (Int.natCast_ediv t n).symm
      have hmd : ((t : Int) % (n : Int)) = ((t % n : Nat) : Int) := (Int.natCast_emod t n).symm
      rw [show ((j + 1 : Nat) : Int) - 1 = (j : Int) by omega]
      clear hN2 HS hxe
      go_upto_region 6 with fail
      have hT : (q : Int) * 1073741824 + (x : Int) = (t : Int) := by omega
      rw [hT]
      have ht9 : (t : Int) ≤ 9223372036854775807 := by omega
      clear hT ht hcell hsb
      obtain ⟨N, hNe⟩ : ∃ N : Int, N = (n : Int) := ⟨_, rfl⟩
      obtain ⟨T, hTe⟩ : ∃ T : Int, T = (t : Int) := ⟨_, rfl⟩
      have hz : (N == 0) = false := by rw [hNe]; exact hnz
      have hz' : N ≠ 0 := by omega
      have HW1 : Hid (wrap64 (T.tdiv N) = ((t / n : Nat) : Int)) := by
        unfold Hid
        rw [hNe, hTe, Int.tdiv_eq_ediv_of_nonneg (by omega), hdv]
        have q1 : ((t / n : Nat) : Int) < 1073741824 := Int.ofNat_lt.2 hqb
        have q2 : (0 : Int) ≤ ((t / n : Nat) : Int) := Int.natCast_nonneg _
        generalize ((t / n : Nat) : Int) = Q at *
        clear hdv hmd
        unfold wrap64; omega
      have HW2 : Hid (T.tmod N = ((t % n : Nat) : Int)) := by
        unfold Hid
        rw [hNe, hTe, Int.tmod_eq_emod_of_nonneg (by omega), hmd]
      rw [← hNe, ← hTe]
      have HNe := Lib.hid hNe
      clear hNe hTe hdv hmd hnz ht9
      have hj0 : (0 : Int) ≤ (j : Int) := by omega
      have hj1 : (j : Int) < (ds.length : Int) := by omega
      have hj2 : (j : Int).toNat = j := Int.toNat_natCast j
      go_region
      all_goals (try go_wp2)
      rw [HW1.out, HW2.out]
      have e := HNe.out
      subst e
      refine ⟨?_, by simp [intOf]⟩
      (repeat apply Exists.intro)
      exact ⟨⟨j, t % n, _, by omega, rfl, rfl, Nat.mod_lt _ hn0, HN.out, HRS.out.drewN 1, HUS.out.trans (Up.drew _)⟩, rfl⟩
end Go.Proofs.YtacbjbnocepnaaaGreatDoor
namespace Go.Proofs.YtacbjbnocepnaaaGreatDoor
open Go.RowKit Fm
theorem pow_bound30 {x y z c : Nat} (hx : x < 1073741824) (hy : y < 1073741824) (hz : z < 1073741824) (hc : c < 1073741824) : x * y + z + c < 1073741824 * 1073741824 := by
  have : x * y ≤ 1073741823 * 1073741823 := Nat.mul_le_mul (by omega) (by omega)
  omega
def TimR (g N : Nat) (w0 : World) (T top : Nat) (off carry : Nat) (w' : World) : Prop :=
  ∃ zs, Row .i64 3 w' g zs ∧ zs.length = N ∧ Ok 1073741824 zs ∧ carry < 1073741824 ∧ val 1073741824 zs + 1073741824 ^ off * carry = T ∧ (∀ q, top ≤ q → q < N → zs[q]? = some 0) ∧ Up w0 w'
theorem TimR.drewN {g N T top off carry : Nat} {w0 w' : World} (h : TimR g N w0 T top off carry w') (n : Nat) : TimR g N w0 T top off carry (w'.drewN n) := by
  obtain ⟨zs, h1, h2, h3, h4, h5, h6, h7⟩ := h
  exact ⟨zs, h1.drewN n, h2, h3, h4, h5, h6, h7.trans (Up.drewN _ _)⟩
theorem TimR.step {g N T top off carry x y z : Nat} {w0 w' : World} {zs : List Nat} (hrow : Row .i64 3 w' g zs) (hl : zs.length = N) (hok : Ok 1073741824 zs) (hv : val 1073741824 zs + 1073741824 ^ off * carry = T) (hz : ∀ q, top ≤ q → q < N → zs[q]? = some 0) (hg : Up w0 w') (h0 : w0.heap.size ≤ g)
    (ho : off < zs.length) (hot : off < top) (hy : z = zs[off]) (hxb : x < 1073741824) (hyb : y < 1073741824) (hc : carry < 1073741824) :
    TimR g N w0 (T + 1073741824 ^ off * (x * y)) top (off + 1) ((x * y + z + carry) / 1073741824) (w'.setCell ⟨g, off, none⟩ (.int .i64 (((x * y + z + carry) % 1073741824 : Nat) : Int))) := by
  have hzb : z < 1073741824 := by rw [hy]; exact hok.get _
  have hb := pow_bound30 hxb hyb hzb hc
  refine ⟨_, hrow.set _ _, by simp [hl], hok.set _ (Nat.mod_lt _ (by omega)), Nat.div_lt_of_lt_mul hb, ?_, fun q h1 h2 => ?_, up_setCell hg h0 _ _⟩
  · have h1 := val_set 1073741824 zs off ((x * y + z + carry) % 1073741824) ho
    rw [← hy] at h1
    have := mul_step (B := 1073741824) (P := T) (X := 0) (S := 0) (by simpa using hv) _ rfl _ h1
    simpa using this
  · rw [List.getElem?_set_ne (by omega)]; exact hz q h1 h2
theorem sign_prod (a b : Int) : (if (a.sign != b.sign) = true then -((a.natAbs * b.natAbs : Nat) : Int) else ((a.natAbs * b.natAbs : Nat) : Int)) = a * b := by
  rw [← Int.natAbs_mul]
  have hs : (a * b).sign = a.sign * b.sign := Int.sign_mul a b
  rcases Int.lt_trichotomy a 0 with ha | ha | ha
  · rcases Int.lt_trichotomy b 0 with hb | hb | hb
    · have := Int.mul_pos_of_neg_of_neg ha hb
      rw [Int.sign_eq_neg_one_of_neg ha, Int.sign_eq_neg_one_of_neg hb]; simp; omega
    · subst hb; simp
    · have := Int.mul_neg_of_neg_of_pos ha hb
      rw [Int.sign_eq_neg_one_of_neg ha, Int.sign_eq_one_of_pos hb]; simp; omega
  · subst ha; simp
  · rcases Int.lt_trichotomy b 0 with hb | hb | hb
    · have := Int.mul_neg_of_pos_of_neg ha hb
      rw [Int.sign_eq_one_of_pos ha, Int.sign_eq_neg_one_of_neg hb]; simp; omega
    · subst hb; simp
    · have := Int.mul_pos ha hb
      rw [Int.sign_eq_one_of_pos ha, Int.sign_eq_one_of_pos hb]; simp; omega
set_option maxHeartbeats 1000000 in
set_option maxRecDepth 10000 in
theorem refTimes_small (v1 v2 : Value) (a b : Int) (w : World) (h1 : RI w v1 a) (h2 : RI w v2 b) (ha : -1073741824 < a ∧ a < 1073741824) (hb : -1073741824 < b ∧ b < 1073741824) :
    Calls Tryz.prog 71 #[v1, v2] w fun e w' => ∃ v, e = .returned v ∧ RI w' v (a * b) ∧ Up w w' := by
  obtain ⟨s, g, A, n, c, rfl, hs1, hs2, hn, hc⟩ := h1.open_
  obtain ⟨s2, g2, A2, n2, c2, rfl, hs3, hs4, hn2, hc2⟩ := h2.open_
  obtain ⟨rfl, rfl⟩ : n = 0 ∧ s = a := by rcases hc with ⟨h1, h2, h3⟩ | ⟨h1, h2, h3, h4, h5⟩ <;> first | exact ⟨h1, h2⟩ | omega
  obtain ⟨rfl, rfl⟩ : n2 = 0 ∧ s2 = b := by rcases hc2 with ⟨h1, h2, h3⟩ | ⟨h1, h2, h3, h4, h5⟩ <;> first | exact ⟨h1, h2⟩ | omega
  obtain ⟨ha1, ha2⟩ := ha
  obtain ⟨hb1, hb2⟩ := hb
  obtain ⟨p, hp⟩ : ∃ p, p = s * s2 := ⟨_, rfl⟩
  have hpb : p.natAbs < 2305843009213693952 := by
    rw [hp, Int.natAbs_mul]
    have : s.natAbs * s2.natAbs ≤ 1073741823 * 1073741823 := Nat.mul_le_mul (by omega) (by omega)
    omega
  have hw64 : wrap64 (s * s2) = p := by rw [← hp]; unfold wrap64; omega
  have HPB := Lib.hid hpb
  rw [← hp]
  clear h1 h2 hc hc2 hs1 hs2 hs3 hs4 hp hpb
  go_enter Tryz.func71, Tryz.ntmps71
  go_wp2_with fail
  refine bodyPost_ret (by simp [results, Tryz.results71, go_sem]; try rfl) rfl ?_
  exact ⟨_, rfl, RI.small HPB.out, ((Up.alloc _ _).trans (Up.alloc _ _)).trans (Up.alloc _ _)⟩
set_option maxHeartbeats 4000000 in
set_option maxRecDepth 100000 in
theorem refTimes_big (v1 v2 : Value) (a b : Int) (w : World) (h1 : RI w v1 a) (h2 : RI w v2 b) (hbig : ¬ ((-1073741824 < a ∧ a < 1073741824) ∧ -1073741824 < b ∧ b < 1073741824)) (ha : rl a ≤ 536870912) (hb : rl b ≤ 536870912) :
    Calls Tryz.prog 71 #[v1, v2] w fun e w' => ∃ v, e = .returned v ∧ RI w' v (a * b) ∧ Up w w' := by
  have HLA := Lib.hid (fun W (hu : Up w W) => refList_any v1 a W (h1.up hu))
  have HLB := Lib.hid (fun W (hu : Up w W) => refList_any v2 b W (h2.up hu))
  obtain ⟨sa, hsa⟩ : ∃ sa, sa = a.sign := ⟨_, rfl⟩
  obtain ⟨sb, hsb⟩ : ∃ sb, sb = b.sign := ⟨_, rfl⟩
  have HSA := Lib.hid (fun W (hu : Up w W) => refSign_any v1 a W (h1.up hu))
  have HSB := Lib.hid (fun W (hu : Up w W) => refSign_any v2 b W (h2.up hu))
  rw [← hsa] at HSA
  rw [← hsb] at HSB
  have HGA := Lib.hid hsa
  have HGB := Lib.hid hsb
  have hda := digs_ok (B := 1073741824) (by omega) a.natAbs
  have hdb := digs_ok (B := 1073741824) (by omega) b.natAbs
  have hva := val_digs (B := 1073741824) (by omega) a.natAbs
  have hvb := val_digs (B := 1073741824) (by omega) b.natAbs
  unfold rl at ha hb
  unfold Ev at HLA HLB
  generalize digs 1073741824 a.natAbs = ds at *
  generalize digs 1073741824 b.natAbs = es at *
  have HVA := Lib.hid hva
  have HVB := Lib.hid hvb
  have HDA := Lib.hid hda
  have HDB := Lib.hid hdb
  obtain ⟨s, g, A, n, c, rfl, hs1, hs2, hn, hc⟩ := h1.open_
  obtain ⟨s2, g2, A2, n2, c2, rfl, hs3, hs4, hn2, hc2⟩ := h2.open_
  have HFORM : Hid (0 < n ∨ (n = 0 ∧ (0 < n2 ∨ (n2 = 0 ∧ (s ≤ -1073741824 ∨ (-1073741824 < s ∧ (1073741824 ≤ s ∨ (s < 1073741824 ∧ (s2 ≤ -1073741824 ∨ (-1073741824 < s2 ∧ 1073741824 ≤ s2))))))))) ) := by
    unfold Hid
    rcases hc with ⟨q1, q2, q3⟩ | ⟨q1, q2, q3, q4, q5⟩
    · rcases hc2 with ⟨q6, q7, q8⟩ | ⟨q6, q7, q8, q9, q10⟩
      · omega
      · omega
    · omega
  clear h1 h2 hc hc2 hs1 hs2 hs3 hs4 hbig hsa hsb hva hvb hda hdb
  go_enter Tryz.func71, Tryz.ntmps71
  go_upto_region 1 with fail
  obtain ⟨wB, hwB, hc1, hc2, hr, hu0⟩ := startII w s g (.slice A n c) s2 g2 (.slice A2 n2 c2)
  rw [hwB]
  clear hwB
  have HC1 := Lib.hid hc1
  have HC2 := Lib.hid hc2
  have HR := Lib.hid hr
  have HU := Lib.hid hu0
  clear hc1 hc2 hr hu0
  obtain ⟨a0, a1, a2, la⟩ := HC1.out.facts
  obtain ⟨b0, b1, b2, lb⟩ := HC2.out.facts
  go_cut [40] (fun s40 wx => s40 = .bool false ∧ wx = wB)
  case first =>
    rcases HFORM.out with h | ⟨rfl, h | ⟨rfl, h | ⟨h3, h | ⟨h4, h | ⟨h5, h⟩⟩⟩⟩⟩
    all_goals
      go_wp2
      go_meet
      case rel => exact ⟨by first | rfl | (simp; try omega), rfl⟩
  case rest =>
    obtain ⟨h1, h2⟩ := hcut
    subst h1
    rw [h2]
    clear h2 HFORM
    go_upto_region 3 with fail
    have hne1 : (w.heap.size = w.heap.size + 1 + 1) = False := by simp; omega
    have hne2 : (w.heap.size + 1 + 1 = w.heap.size) = False := by simp; omega
    go_region_held3 (fun w' => w'.cell? ⟨w.heap.size, 0, none⟩ = some (.int .i64 s) ∧ w'.cell? ⟨w.heap.size, 1, none⟩ = some (.bool g) ∧ w'.cell? ⟨w.heap.size, 2, none⟩ = some (.slice A n c) ∧ w'.cell? ⟨w.heap.size + 1, 0, none⟩ = some (.int .i64 s2) ∧ w'.cell? ⟨w.heap.size + 1, 1, none⟩ = some (.bool g2) ∧ w'.cell? ⟨w.heap.size + 1, 2, none⟩ = some (.slice A2 n2 c2)) (go_keep)
      ((first
        | (go_at_call_of 109 (Value.agg #[.int .i64 s, .bool g, .slice A n c])
           refine Calls.mono (HLA.out _ (by (repeat (first | exact Below.refl _ _ | exact Hid.out (by assumption) | refine Up.trans ?_ (Up.drew _) | refine Up.trans ?_ (Up.drewN _ _) | refine Up.trans ?_ (Up.alloc _ _) | refine Up.trans ?_ (Hid.out (by assumption)))))) ?_
           rintro e w1 ⟨u1, rfl, hu1v, hu1⟩
           have HU1 := Lib.hid hu1
           have HV1 := Lib.hid hu1v
           clear hu1v hu1
           obtain ⟨a0, a1, a2, la⟩ := (HC1.out.up (w' := w1) (by (repeat (first | exact Below.refl _ _ | exact Hid.out (by assumption) | refine Up.trans ?_ (Up.drew _) | refine Up.trans ?_ (Up.drewN _ _) | refine Up.trans ?_ (Up.alloc _ _) | refine Up.trans ?_ (Hid.out (by assumption)))))).facts
           obtain ⟨b0, b1, b2, lb⟩ := (HC2.out.up (w' := w1) (by (repeat (first | exact Below.refl _ _ | exact Hid.out (by assumption) | refine Up.trans ?_ (Up.drew _) | refine Up.trans ?_ (Up.drewN _ _) | refine Up.trans ?_ (Up.alloc _ _) | refine Up.trans ?_ (Hid.out (by assumption)))))).facts)
        | (go_at_call_of 109 (Value.agg #[.int .i64 s2, .bool g2, .slice A2 n2 c2])
           refine Calls.mono (HLB.out _ (by (repeat (first | exact Below.refl _ _ | exact Hid.out (by assumption) | refine Up.trans ?_ (Up.drew _) | refine Up.trans ?_ (Up.drewN _ _) | refine Up.trans ?_ (Up.alloc _ _) | refine Up.trans ?_ (Hid.out (by assumption)))))) ?_
           rintro e w2 ⟨u2, rfl, hu2v, hu2⟩
           have HU2 := Lib.hid hu2
           have HV2 := Lib.hid hu2v
           have HV1b := Lib.hid (Sl.up HV1.out hu2)
           clear hu2v hu2
           obtain ⟨a0, a1, a2, la⟩ := (HC1.out.up (w' := w2) (by (repeat (first | exact Below.refl _ _ | exact Hid.out (by assumption) | refine Up.trans ?_ (Up.drew _) | refine Up.trans ?_ (Up.drewN _ _) | refine Up.trans ?_ (Up.alloc _ _) | refine Up.trans ?_ (Hid.out (by assumption)))))).facts
           obtain ⟨b0, b1, b2, lb⟩ := (HC2.out.up (w' := w2) (by (repeat (first | exact Below.refl _ _ | exact Hid.out (by assumption) | refine Up.trans ?_ (Up.drew _) | refine Up.trans ?_ (Up.drewN _ _) | refine Up.trans ?_ (Up.alloc _ _) | refine Up.trans ?_ (Hid.out (by assumption)))))).facts)))
    clear a0 a1 a2 la b0 b1 b2 lb
    obtain ⟨Ax, cx, rfl, -, -, hrx⟩ := HV1b.out
    obtain ⟨Ay, cy0, rfl, -, -, hry⟩ := HV2.out
    have HRX := Lib.hid hrx
    have HRY := Lib.hid hry
    have HCA := Lib.hid (HC1.out.up (w' := w2) (by (repeat (first | exact Below.refl _ _ | exact Hid.out (by assumption) | refine Up.trans ?_ (Up.drew _) | refine Up.trans ?_ (Up.drewN _ _) | refine Up.trans ?_ (Up.alloc _ _) | refine Up.trans ?_ (Hid.out (by assumption))))))
    have HCB := Lib.hid (HC2.out.up (w' := w2) (by (repeat (first | exact Below.refl _ _ | exact Hid.out (by assumption) | refine Up.trans ?_ (Up.drew _) | refine Up.trans ?_ (Up.drewN _ _) | refine Up.trans ?_ (Up.alloc _ _) | refine Up.trans ?_ (Hid.out (by assumption))))))
    have HRS := Lib.hid (HR.out.up (w' := w2) (by (repeat (first | exact Below.refl _ _ | exact Hid.out (by assumption) | refine Up.trans ?_ (Up.drew _) | refine Up.trans ?_ (Up.drewN _ _) | refine Up.trans ?_ (Up.alloc _ _) | refine Up.trans ?_ (Hid.out (by assumption))))))
    have HUW := Lib.hid (show Up w w2 by (repeat (first | exact Below.refl _ _ | exact Hid.out (by assumption) | refine Up.trans ?_ (Up.drew _) | refine Up.trans ?_ (Up.drewN _ _) | refine Up.trans ?_ (Up.alloc _ _) | refine Up.trans ?_ (Hid.out (by assumption)))))
    have hmk : ∀ W, (Instr.makeSlice 26 (.int .i64 ((ds.length : Int) + es.length)) (.int .i64 ((ds.length : Int) + es.length))).run Tryz.prog W = .ok (.slice (some ⟨W.heap.size, 0, none⟩) (ds.length + es.length) (ds.length + es.length)) (W.alloc (.cells (rowOf .i64 (zeroL (ds.length + es.length))) 3)) :=
      fun W => by have := mk64 (ds.length + es.length) (by omega) W; simpa using this
    have H0 : TimR w2.heap.size (ds.length + es.length) w2 0 es.length 0 0 (w2.alloc (.cells (rowOf .i64 (zeroL (ds.length + es.length))) 3)) :=
      ⟨_, Row.new (k := .i64) (t := 3) w2 _, zeroL_length _, zeroL_ok (by omega) _, by omega, by simp [zeroL_val], fun q _ hq => by rw [List.getElem?_eq_getElem (by rw [zeroL_length]; exact hq), zeroL_get], Up.alloc _ _⟩
    clear HV1 HV1b HV2 HLA HLB HU1 HU2 HC1 HC2 HR HU hrx hry
    go_wp2
    generalize w2.alloc (.cells (rowOf .i64 (zeroL (ds.length + es.length))) 3) = wA at *
    clear hmk
    go_loopw [59] (fun iv wr => ∃ i : Nat, iv = .int .i64 i ∧ i ≤ ds.length ∧ TimR w2.heap.size (ds.length + es.length) w2 (val 1073741824 (ds.take i) * val 1073741824 es) (i + es.length) 0 0 wr) (fun iv _ => ds.length - (intOf iv).toNat)
    case atStart => exact ⟨0, rfl, by omega, by simpa [val] using H0⟩
    case round =>
      clear H0
      obtain ⟨i, rfl, hi, hR⟩ := hrel
      rcases Nat.lt_or_ge i ds.length with hlt | hge
      · have hgw : Up w2 wr := by obtain ⟨_, _, _, _, _, _, _, h⟩ := hR; exact h
        obtain ⟨b, off, rfl, hb, hcell⟩ := (HRX.out.up hgw).at_ hlt
        have hb2 : b < w2.heap.size := by
          obtain ⟨b9, off9, he, hb9, -⟩ := HRX.out.at_ hlt
          injection he with he
          injection he with e1 e2
          subst e1
          exact hb9
        have hcell0 : w2.cell? ⟨b, off + i, none⟩ = some (.int .i64 (ds[i] : Nat)) := by rw [← hcell]; exact (hgw.cells.1 _ _ hb2).symm
        have HA0 := Lib.hid hcell0
        have hxb := HDA.out.get hlt
        have htk := val_take_succ 1073741824 hlt
        generalize ds[i] = x at *
        have HTK := Lib.hid htk
        clear htk hcell0
        go_wp2
        obtain ⟨wo, hwo⟩ : ∃ wo : World, wo = wr := ⟨_, rfl⟩
        rw [← hwo] at hR hcell
        clear hgw hb
        go_loopw [9, 64] (fun cv jv wr => ∃ j cy : Nat, jv = .int .i64 j ∧ cv = .int .i64 cy ∧ j ≤ es.length ∧ TimR w2.heap.size (ds.length + es.length) w2 (val 1073741824 (ds.take i) * val 1073741824 es + 1073741824 ^ i * (x * val 1073741824 (es.take j))) (i + es.length) (i + j) cy wr) (fun _ jv _ => es.length - (intOf jv).toNat)
        case atStart =>
          refine ⟨0, 0, rfl, rfl, by omega, ?_⟩
          rw [← hwo]
          obtain ⟨zs, g1, g2, g3, g4, g5, g6, g7⟩ := hR
          exact ⟨zs, g1, g2, g3, by omega, by simpa [val] using g5, g6, g7⟩
        case round =>
          clear hR hcell
          obtain ⟨j, cy, rfl, rfl, hj, hQ⟩ := hrel
          obtain ⟨zs, hrow, hl, hokz, hcy, hvz, hz, hgw2⟩ := hQ
          have hcell : wr.cell? ⟨b, off + i, none⟩ = some (.int .i64 (x : Nat)) := (hgw2.cells.1 _ _ hb2).trans HA0.out
          have HL := Lib.hid hl
          have HVZ := Lib.hid hvz
          have HZ := Lib.hid hz
          clear hl hvz hz
          rcases Nat.lt_or_ge j es.length with hjlt | hjge
          · obtain ⟨b3, off2, rfl, hb3, hcell2⟩ := (HRY.out.up hgw2).at_ hjlt
            have hyb := HDB.out.get hjlt
            have htk2 := val_take_succ 1073741824 hjlt
            generalize es[j] = y at *
            have HTK2 := Lib.hid htk2
            clear htk2
            have hij : i + j < zs.length := by rw [HL.out]; omega
            have hcz := hrow.cell hij
            have hfr := hrow.frozen (i + j)
            have hzb := hokz.get hij
            generalize hzz : zs[i + j] = z at *
            have HZZ := Lib.hid hzz
            clear hzz
            have hpb := pow_bound30 hxb hyb hzb hcy
            have HS := Lib.hid (TimR.step hrow HL.out hokz HVZ.out HZ.out hgw2 (Nat.le_refl _) hij (by omega) HZZ.out.symm hxb hyb hcy)
            obtain ⟨pr, hpr⟩ : ∃ pr, pr = x * y := ⟨_, rfl⟩
            have hprI : (x : Int) * (y : Int) = (pr : Int) := by rw [hpr]; exact (Int.natCast_mul x y).symm
            rw [← hpr] at HS hpb
            have HPR := Lib.hid hpr
            clear hpr
            have hij2 : (i : Int) + (j : Int) < (ds.length : Int) + (es.length : Int) := by omega
            have hij3 : i + j < ds.length + es.length := by omega
            go_upto_region 12 with fail
            go_quiet (fail)
            go_wp2
            go_roundw
            case rel =>
              refine ⟨j + 1, (pr + z + cy) / 1073741824, by go_num, by congr 1; omega, by omega, ?_⟩
              have e1 : (((pr + z + cy) % 1073741824 : Nat) : Int) = ((cy : Int) + (z + pr)) % 1073741824 := by omega
              have e2 : val 1073741824 (ds.take i) * val 1073741824 es + 1073741824 ^ i * (x * val 1073741824 (es.take j)) + 1073741824 ^ (i + j) * pr = val 1073741824 (ds.take i) * val 1073741824 es + 1073741824 ^ i * (x * val 1073741824 (es.take (j + 1))) := by
                rw [HTK2.out, HPR.out, Nat.pow_add]
                generalize 1073741824 ^ i = Pi
                generalize 1073741824 ^ j = Pj
                grind
              rw [← e1, ← e2]
              exact HS.out.drewN _
            case measure => simp [intOf]; omega
          · obtain rfl : j = es.length := by omega
            have hij : i + es.length < zs.length := by rw [HL.out]; omega
            have hcz := hrow.cell hij
            have hfr := hrow.frozen (i + es.length)
            have hz0 : zs[i + es.length] = 0 := by
              have := HZ.out (i + es.length) (Nat.le_refl _) (by have := HL.out; omega)
              rw [List.getElem?_eq_getElem hij] at this
              exact Option.some.inj this
            have hfin : TimR w2.heap.size (ds.length + es.length) w2 (val 1073741824 (ds.take (i + 1)) * val 1073741824 es) (i + 1 + es.length) 0 0 (wr.setCell ⟨w2.heap.size, i + es.length, none⟩ (.int .i64 (cy : Int))) := by
              have h1 := val_set 1073741824 zs (i + es.length) cy hij
              refine ⟨_, hrow.set _ _, by simp [HL.out], hokz.set _ hcy, by omega, ?_, fun q h1 h2 => ?_, up_setCell hgw2 (Nat.le_refl _) _ _⟩
              · rw [hz0] at h1
                have h2 := HVZ.out
                rw [List.take_length] at h2
                rw [HTK.out, Nat.add_mul]
                have : 1073741824 ^ i * (x * val 1073741824 es) = 1073741824 ^ i * x * val 1073741824 es := by rw [Nat.mul_assoc]
                omega
              · rw [List.getElem?_set_ne (by omega)]; exact HZ.out q (by omega) h2
            have HF := Lib.hid hfin
            have hij2 : (i : Int) + (es.length : Int) < (ds.length : Int) + (es.length : Int) := by omega
            clear hfin hz0
            go_wp2
            go_roundw
            case rel => exact ⟨i + 1, by go_num, by omega, HF.out⟩
            case measure => simp [intOf]; omega
      · obtain rfl : i = ds.length := by omega
        obtain ⟨zs, hrow, hl, hokz, -, hvz, -, hg⟩ := hR
        rw [List.take_length, HVA.out, HVB.out, Nat.mul_zero, Nat.add_zero] at hvz
        have HVZ := Lib.hid hvz
        have HL := Lib.hid hl
        have HROW := Lib.hid hrow
        have HOKZ := Lib.hid hokz
        have HUG := Lib.hid hg
        clear hvz hl hokz hg hrow
        obtain ⟨a0, a1, a2, la⟩ := (HCA.out.up HUG.out).facts
        obtain ⟨b0, b1, b2, lb⟩ := (HCB.out.up HUG.out).facts
        have hlen : zs.length = ds.length + es.length := HL.out
        go_upto_region 18 with fail
        go_region_held3 (fun w' => w'.cell? ⟨w.heap.size, 0, none⟩ = some (.int .i64 s) ∧ w'.cell? ⟨w.heap.size, 1, none⟩ = some (.bool g) ∧ w'.cell? ⟨w.heap.size, 2, none⟩ = some (.slice A n c) ∧ w'.cell? ⟨w.heap.size + 1, 0, none⟩ = some (.int .i64 s2) ∧ w'.cell? ⟨w.heap.size + 1, 1, none⟩ = some (.bool g2) ∧ w'.cell? ⟨w.heap.size + 1, 2, none⟩ = some (.slice A2 n2 c2)) (go_keep)
          ((first
            | (go_at_call_of 73 (Value.agg #[.int .i64 s, .bool g, .slice A n c])
               refine Calls.mono (HSA.out _ (by (repeat (first | exact Below.refl _ _ | exact Hid.out (by assumption) | refine Up.trans ?_ (Up.drew _) | refine Up.trans ?_ (Up.drewN _ _) | refine Up.trans ?_ (Up.alloc _ _) | refine Up.trans ?_ (Hid.out (by assumption)))))) ?_
               rintro e w3 ⟨rfl, hu3⟩
               have HU3 := Lib.hid hu3
               clear hu3
               obtain ⟨a0, a1, a2, la⟩ := (HCA.out.up (w' := w3) (by (repeat (first | exact Below.refl _ _ | exact Hid.out (by assumption) | refine Up.trans ?_ (Up.drew _) | refine Up.trans ?_ (Up.drewN _ _) | refine Up.trans ?_ (Up.alloc _ _) | refine Up.trans ?_ (Hid.out (by assumption)))))).facts
               obtain ⟨b0, b1, b2, lb⟩ := (HCB.out.up (w' := w3) (by (repeat (first | exact Below.refl _ _ | exact Hid.out (by assumption) | refine Up.trans ?_ (Up.drew _) | refine Up.trans ?_ (Up.drewN _ _) | refine Up.trans ?_ (Up.alloc _ _) | refine Up.trans ?_ (Hid.out (by assumption)))))).facts)
            | (go_at_call_of 73 (Value.agg #[.int .i64 s2, .bool g2, .slice A2 n2 c2])
               refine Calls.mono (HSB.out _ (by (repeat (first | exact Below.refl _ _ | exact Hid.out (by assumption) | refine Up.trans ?_ (Up.drew _) | refine Up.trans ?_ (Up.drewN _ _) | refine Up.trans ?_ (Up.alloc _ _) | refine Up.trans ?_ (Hid.out (by assumption)))))) ?_
               rintro e w4 ⟨rfl, hu4⟩
               have HU4 := Lib.hid hu4
               clear hu4
               obtain ⟨a0, a1, a2, la⟩ := (HCA.out.up (w' := w4) (by (repeat (first | exact Below.refl _ _ | exact Hid.out (by assumption) | refine Up.trans ?_ (Up.drew _) | refine Up.trans ?_ (Up.drewN _ _) | refine Up.trans ?_ (Up.alloc _ _) | refine Up.trans ?_ (Hid.out (by assumption)))))).facts
               obtain ⟨b0, b1, b2, lb⟩ := (HCB.out.up (w' := w4) (by (repeat (first | exact Below.refl _ _ | exact Hid.out (by assumption) | refine Up.trans ?_ (Up.drew _) | refine Up.trans ?_ (Up.drewN _ _) | refine Up.trans ?_ (Up.alloc _ _) | refine Up.trans ?_ (Hid.out (by assumption)))))).facts)
            | (go_at_call 110
               refine Calls.mono (refMade_any _ _ zs _ ⟨_, _, by rw [← hlen], by omega, by unfold maxLen; omega, Rd.of_row0 (HROW.out.up (show Up wr _ by (repeat (first | exact Below.refl _ _ | exact Hid.out (by assumption) | refine Up.trans ?_ (Up.drew _) | refine Up.trans ?_ (Up.drewN _ _) | refine Up.trans ?_ (Up.alloc _ _) | refine Up.trans ?_ (Hid.out (by assumption))))))⟩ HOKZ.out) ?_
               rintro e w5 ⟨v5, rfl, hv5, hu5⟩
               have HU5 := Lib.hid hu5
               have HV5 := Lib.hid hv5
               clear hv5 hu5
               have HR5 := Lib.hid (HRS.out.up (w' := w5) (by (repeat (first | exact Below.refl _ _ | exact Hid.out (by assumption) | refine Up.trans ?_ (Up.drew _) | refine Up.trans ?_ (Up.drewN _ _) | refine Up.trans ?_ (Up.alloc _ _) | refine Up.trans ?_ (Hid.out (by assumption))))))
               obtain ⟨s3, g3, A3, n3, c3, rfl, -⟩ := HV5.out
               obtain ⟨r0, r1, r2, f0, f1, f2, lr⟩ := HR5.out.facts
               obtain ⟨a0, a1, a2, la⟩ := (HCA.out.up (w' := w5) (by (repeat (first | exact Below.refl _ _ | exact Hid.out (by assumption) | refine Up.trans ?_ (Up.drew _) | refine Up.trans ?_ (Up.drewN _ _) | refine Up.trans ?_ (Up.alloc _ _) | refine Up.trans ?_ (Hid.out (by assumption)))))).facts
               obtain ⟨b0, b1, b2, lb⟩ := (HCB.out.up (w' := w5) (by (repeat (first | exact Below.refl _ _ | exact Hid.out (by assumption) | refine Up.trans ?_ (Up.drew _) | refine Up.trans ?_ (Up.drewN _ _) | refine Up.trans ?_ (Up.alloc _ _) | refine Up.trans ?_ (Hid.out (by assumption)))))).facts)))
        have HRES := Lib.hid (HV5.out.put HR5.out (.int .i64 s3) (.bool g3) (.slice A3 n3 c3))
        have HF := Lib.hid (HR5.out.stored (.int .i64 s3) (.bool g3) (.slice A3 n3 c3))
        have HUF := Lib.hid ((show Up w w5 by (repeat (first | exact Below.refl _ _ | exact Hid.out (by assumption) | refine Up.trans ?_ (Up.drew _) | refine Up.trans ?_ (Up.drewN _ _) | refine Up.trans ?_ (Up.alloc _ _) | refine Up.trans ?_ (Hid.out (by assumption))))).put3 (show w.heap.size ≤ w.heap.size + 1 + 1 by omega) (.int .i64 s3) (.bool g3) (.slice A3 n3 c3))
        go_wp2
        obtain ⟨z0, z1, z2⟩ := HF.out
        refine bodyPost_ret (by simp [results, Tryz.results71, go_sem, z0, z1, z2]; try rfl) rfl ?_
        refine ⟨_, rfl, ?_, HUF.out⟩
        have h9 := HRES.out
        rw [HVZ.out, HGA.out, HGB.out, sign_prod] at h9
        exact h9
end Go.Proofs.YtacbjbnocepnaaaGreatDoor
namespace Go.Proofs.YtacbjbnocepnaaaGreatDoor
open Go.RowKit Fm
theorem refPlus_any (v1 v2 : Value) (a b : Int) (w : World) (h1 : RI w v1 a) (h2 : RI w v2 b) (ha : rl a ≤ 536870912) (hb : rl b ≤ 536870912) :
    Calls Tryz.prog 72 #[v1, v2] w fun e w' => ∃ v, e = .returned v ∧ RI w' v (a + b) ∧ Up w w' := by
  by_cases h3 : a.natAbs < 2305843009213693952
  · by_cases h4 : b.natAbs < 2305843009213693952
    · exact refPlus_small v1 v2 a b w h1 h2 h3 h4
    · exact refPlus_big v1 v2 a b w h1 h2 (.inr ⟨h3, by omega⟩) ha hb
  · exact refPlus_big v1 v2 a b w h1 h2 (.inl (by omega)) ha hb
theorem refTimes_any (v1 v2 : Value) (a b : Int) (w : World) (h1 : RI w v1 a) (h2 : RI w v2 b) (ha : rl a ≤ 536870912) (hb : rl b ≤ 536870912) :
    Calls Tryz.prog 71 #[v1, v2] w fun e w' => ∃ v, e = .returned v ∧ RI w' v (a * b) ∧ Up w w' := by
  by_cases h3 : (-1073741824 < a ∧ a < 1073741824) ∧ -1073741824 < b ∧ b < 1073741824
  · exact refTimes_small v1 v2 a b w h1 h2 h3.1 h3.2
  · exact refTimes_big v1 v2 a b w h1 h2 h3 ha hb
set_option maxHeartbeats 1000000 in
set_option maxRecDepth 10000 in
theorem refLess_any (v1 v2 : Value) (a b : Int) (w : World) (h1 : RI w v1 a) (h2 : RI w v2 b) (ha : rl a ≤ 536870912) (hb : rl b ≤ 536870912) :
    Calls Tryz.prog 137 #[v1, v2] w fun e w' => ∃ v, e = .returned v ∧ RI w' v (a - b) ∧ Up w w' := by
  have HMI := Lib.hid (fun W (hu : Up w W) => refMinus_any v2 b W (h2.up hu))
  have HPL := Lib.hid (fun W v (hu : Up w W) (hv : RI W v (-b)) => refPlus_any v1 v a (-b) W (h1.up hu) hv ha (by unfold rl; rw [Int.natAbs_neg]; exact hb))
  obtain ⟨s, g, A, n, c, rfl, hs1, hs2, hn, hc⟩ := h1.open_
  obtain ⟨s2, g2, A2, n2, c2, rfl, hs3, hs4, hn2, hc2⟩ := h2.open_
  clear h1 h2 hc hc2 ha hb hs1 hs2 hs3 hs4
  go_enter Tryz.func137, Tryz.ntmps137
  go_upto_region 1 with fail
  obtain ⟨wB, hwB, hc1, hc2, hr, hu0⟩ := startII w s g (.slice A n c) s2 g2 (.slice A2 n2 c2)
  rw [hwB]
  clear hwB
  have HC1 := Lib.hid hc1
  have HC2 := Lib.hid hc2
  have HR := Lib.hid hr
  have HU := Lib.hid hu0
  clear hc1 hc2 hr hu0
  obtain ⟨a0, a1, a2, la⟩ := HC1.out.facts
  obtain ⟨b0, b1, b2, lb⟩ := HC2.out.facts
  have hne1 : (w.heap.size = w.heap.size + 1 + 1) = False := by simp; omega
  have hne2 : (w.heap.size + 1 + 1 = w.heap.size) = False := by simp; omega
  go_region_held3 (fun w' => w'.cell? ⟨w.heap.size, 0, none⟩ = some (.int .i64 s) ∧ w'.cell? ⟨w.heap.size, 1, none⟩ = some (.bool g) ∧ w'.cell? ⟨w.heap.size, 2, none⟩ = some (.slice A n c) ∧ w'.cell? ⟨w.heap.size + 1, 0, none⟩ = some (.int .i64 s2) ∧ w'.cell? ⟨w.heap.size + 1, 1, none⟩ = some (.bool g2) ∧ w'.cell? ⟨w.heap.size + 1, 2, none⟩ = some (.slice A2 n2 c2)) (go_keep)
    ((first
      | (go_at_call 105
         refine Calls.mono (HMI.out _ (by (repeat (first | exact Below.refl _ _ | exact Hid.out (by assumption) | refine Up.trans ?_ (Up.drew _) | refine Up.trans ?_ (Up.drewN _ _) | refine Up.trans ?_ (Up.alloc _ _) | refine Up.trans ?_ (Hid.out (by assumption)))))) ?_
         rintro e w3 ⟨v3, rfl, hv3, hu3⟩
         have HU3 := Lib.hid hu3
         have HV3 := Lib.hid hv3
         clear hu3 hv3
         obtain ⟨a0, a1, a2, la⟩ := (HC1.out.up (w' := w3) (by (repeat (first | exact Below.refl _ _ | exact Hid.out (by assumption) | refine Up.trans ?_ (Up.drew _) | refine Up.trans ?_ (Up.drewN _ _) | refine Up.trans ?_ (Up.alloc _ _) | refine Up.trans ?_ (Hid.out (by assumption)))))).facts
         obtain ⟨b0, b1, b2, lb⟩ := (HC2.out.up (w' := w3) (by (repeat (first | exact Below.refl _ _ | exact Hid.out (by assumption) | refine Up.trans ?_ (Up.drew _) | refine Up.trans ?_ (Up.drewN _ _) | refine Up.trans ?_ (Up.alloc _ _) | refine Up.trans ?_ (Hid.out (by assumption)))))).facts)
      | (go_at_call 72
         refine Calls.mono (HPL.out _ _ (by (repeat (first | exact Below.refl _ _ | exact Hid.out (by assumption) | refine Up.trans ?_ (Up.drew _) | refine Up.trans ?_ (Up.drewN _ _) | refine Up.trans ?_ (Up.alloc _ _) | refine Up.trans ?_ (Hid.out (by assumption))))) HV3.out) ?_
         rintro e w5 ⟨v5, rfl, hv5, hu5⟩
         have HU5 := Lib.hid hu5
         have HV5 := Lib.hid hv5
         clear hv5 hu5
         have HR5 := Lib.hid (HR.out.up (w' := w5) (by (repeat (first | exact Below.refl _ _ | exact Hid.out (by assumption) | refine Up.trans ?_ (Up.drew _) | refine Up.trans ?_ (Up.drewN _ _) | refine Up.trans ?_ (Up.alloc _ _) | refine Up.trans ?_ (Hid.out (by assumption))))))
         obtain ⟨s3, g3, A3, n3, c3, rfl, -⟩ := HV5.out
         obtain ⟨r0, r1, r2, f0, f1, f2, lr⟩ := HR5.out.facts
         obtain ⟨a0, a1, a2, la⟩ := (HC1.out.up (w' := w5) (by (repeat (first | exact Below.refl _ _ | exact Hid.out (by assumption) | refine Up.trans ?_ (Up.drew _) | refine Up.trans ?_ (Up.drewN _ _) | refine Up.trans ?_ (Up.alloc _ _) | refine Up.trans ?_ (Hid.out (by assumption)))))).facts
         obtain ⟨b0, b1, b2, lb⟩ := (HC2.out.up (w' := w5) (by (repeat (first | exact Below.refl _ _ | exact Hid.out (by assumption) | refine Up.trans ?_ (Up.drew _) | refine Up.trans ?_ (Up.drewN _ _) | refine Up.trans ?_ (Up.alloc _ _) | refine Up.trans ?_ (Hid.out (by assumption)))))).facts)))
  have HRES := Lib.hid (HV5.out.put HR5.out (.int .i64 s3) (.bool g3) (.slice A3 n3 c3))
  have HF := Lib.hid (HR5.out.stored (.int .i64 s3) (.bool g3) (.slice A3 n3 c3))
  have HUF := Lib.hid ((show Up w w5 by (repeat (first | exact Below.refl _ _ | exact Hid.out (by assumption) | refine Up.trans ?_ (Up.drew _) | refine Up.trans ?_ (Up.drewN _ _) | refine Up.trans ?_ (Up.alloc _ _) | refine Up.trans ?_ (Hid.out (by assumption))))).put3 (show w.heap.size ≤ w.heap.size + 1 + 1 by omega) (.int .i64 s3) (.bool g3) (.slice A3 n3 c3))
  go_wp2
  obtain ⟨z0, z1, z2⟩ := HF.out
  refine bodyPost_ret (by simp [results, Tryz.results137, go_sem, z0, z1, z2]; try rfl) rfl ?_
  refine ⟨_, rfl, ?_, HUF.out⟩
  rw [Int.sub_eq_add_neg]
  exact HRES.out
set_option maxRecDepth 10000 in
theorem refCompare_any (v1 v2 : Value) (a b : Int) (w : World) (h1 : RI w v1 a) (h2 : RI w v2 b) (ha : rl a ≤ 536870912) (hb : rl b ≤ 536870912) :
    Calls Tryz.prog 108 #[v1, v2] w fun e w' => e = .returned (.int .i64 (a - b).sign) ∧ Up w w' := by
  have HLE := Lib.hid (fun W (hu : Up w W) => refLess_any v1 v2 a b W (h1.up hu) (h2.up hu) ha hb)
  obtain ⟨s, g, A, n, c, rfl, hs1, hs2, hn, hc⟩ := h1.open_
  obtain ⟨s2, g2, A2, n2, c2, rfl, hs3, hs4, hn2, hc2⟩ := h2.open_
  clear h1 h2 hc hc2 ha hb hs1 hs2 hs3 hs4
  go_enter Tryz.func108, Tryz.ntmps108
  go_wp2_with fail
  have HU := Lib.hid ((Up.alloc w (.cells #[.int .i64 s, .bool g, .slice A n c] 48)).trans (Up.alloc _ (.cells #[.int .i64 s2, .bool g2, .slice A2 n2 c2] 48)))
  refine Calls.mono (HLE.out _ HU.out) ?_
  rintro e w3 ⟨v3, rfl, hv3, hu3⟩
  have HSI := Lib.hid (refSign_any v3 (a - b) w3 hv3)
  have HU3 := Lib.hid hu3
  clear hv3 hu3
  go_wp2_with fail
  refine Calls.mono HSI.out ?_
  rintro e w4 ⟨rfl, hu4⟩
  have HU4 := Lib.hid hu4
  clear hu4
  go_wp2
  go_ret
  exact ⟨rfl, (HU.out.trans HU3.out).trans HU4.out⟩
set_option maxRecDepth 10000 in
theorem refAbs_any (v : Value) (a : Int) (w : World) (h1 : RI w v a) :
    Calls Tryz.prog 125 #[v] w fun e w' => ∃ v', e = .returned v' ∧ RI w' v' (a.natAbs : Int) ∧ Up w w' := by
  have HSI := Lib.hid (fun W (hu : Up w W) => refSign_any v a W (h1.up hu))
  have HMI := Lib.hid (fun W (hu : Up w W) => refMinus_any v a W (h1.up hu))
  have HA := Lib.hid h1
  obtain ⟨s, g, A, n, c, rfl, hs1, hs2, hn, hc⟩ := h1.open_
  obtain ⟨sa, hsa⟩ : ∃ sa, sa = a.sign := ⟨_, rfl⟩
  rw [← hsa] at HSI
  have hx : sa < 0 ↔ a < 0 := by rw [hsa]; exact Int.sign_neg_iff
  clear h1 hc hs1 hs2 hsa
  rcases Int.lt_or_le sa 0 with hs | hs
  · have HE := Lib.hid (show (a.natAbs : Int) = -a by have := hx.1 hs; omega)
    clear hx
    go_enter Tryz.func125, Tryz.ntmps125
    go_wp2_with fail
    obtain ⟨wB, hwB⟩ : ∃ wB, wB = (w.alloc (.cells #[.int .i64 s, .bool g, .slice A n c] 48)).alloc (.cells #[.int .i64 0, .bool false, .slice none 0 0] 48) := ⟨_, rfl⟩
    have HC1 := Lib.hid (show CellI wB w.heap.size s g (.slice A n c) by rw [hwB]; exact (CellI.new w s g _).up (Up.alloc _ _))
    have HR := Lib.hid (show Res3 wB (w.heap.size + 1) by rw [hwB]; have := Res3.new (w.alloc (.cells #[.int .i64 s, .bool g, .slice A n c] 48)); simpa using this)
    have HU := Lib.hid (show Up w wB by rw [hwB]; exact (Up.alloc _ _).trans (Up.alloc _ _))
    rw [← hwB]
    clear hwB
    refine Calls.mono (HSI.out _ (by (repeat (first | exact Below.refl _ _ | exact Hid.out (by assumption) | refine Up.trans ?_ (Up.drew _) | refine Up.trans ?_ (Up.drewN _ _) | refine Up.trans ?_ (Up.alloc _ _) | refine Up.trans ?_ (Hid.out (by assumption)))))) ?_
    rintro e w3 ⟨rfl, hu3⟩
    have HU3 := Lib.hid hu3
    clear hu3
    obtain ⟨a0, a1, a2, la⟩ := (HC1.out.up (w' := w3) (by (repeat (first | exact Below.refl _ _ | exact Hid.out (by assumption) | refine Up.trans ?_ (Up.drew _) | refine Up.trans ?_ (Up.drewN _ _) | refine Up.trans ?_ (Up.alloc _ _) | refine Up.trans ?_ (Hid.out (by assumption)))))).facts
    go_wp2_with fail
    refine Calls.mono (HMI.out _ (by (repeat (first | exact Below.refl _ _ | exact Hid.out (by assumption) | refine Up.trans ?_ (Up.drew _) | refine Up.trans ?_ (Up.drewN _ _) | refine Up.trans ?_ (Up.alloc _ _) | refine Up.trans ?_ (Hid.out (by assumption)))))) ?_
    rintro e w5 ⟨v5, rfl, hv5, hu5⟩
    have HU5 := Lib.hid hu5
    have HV5 := Lib.hid hv5
    clear hv5 hu5
    have HR5 := Lib.hid (HR.out.up (w' := w5) (by (repeat (first | exact Below.refl _ _ | exact Hid.out (by assumption) | refine Up.trans ?_ (Up.drew _) | refine Up.trans ?_ (Up.drewN _ _) | refine Up.trans ?_ (Up.alloc _ _) | refine Up.trans ?_ (Hid.out (by assumption))))))
    obtain ⟨s3, g3, A3, n3, c3, rfl, -⟩ := HV5.out
    obtain ⟨r0, r1, r2, f0, f1, f2, lr⟩ := HR5.out.facts
    have HRES := Lib.hid (HV5.out.put HR5.out (.int .i64 s3) (.bool g3) (.slice A3 n3 c3))
    have HF := Lib.hid (HR5.out.stored (.int .i64 s3) (.bool g3) (.slice A3 n3 c3))
    have HUF := Lib.hid ((show Up w w5 by (repeat (first | exact Below.refl _ _ | exact Hid.out (by assumption) | refine Up.trans ?_ (Up.drew _) | refine Up.trans ?_ (Up.drewN _ _) | refine Up.trans ?_ (Up.alloc _ _) | refine Up.trans ?_ (Hid.out (by assumption))))).put3 (show w.heap.size ≤ w.heap.size + 1 by omega) (.int .i64 s3) (.bool g3) (.slice A3 n3 c3))
    go_wp2
    obtain ⟨z0, z1, z2⟩ := HF.out
    refine bodyPost_ret (by simp [results, Tryz.results125, go_sem, z0, z1, z2]; try rfl) rfl ?_
    refine ⟨_, rfl, ?_, HUF.out⟩
    rw [HE.out]
    exact HRES.out
  · have HE := Lib.hid (show (a.natAbs : Int) = a by
      have : ¬ a < 0 := fun h => by have := hx.2 h; omega
      omega)
    clear hx
    go_enter Tryz.func125, Tryz.ntmps125
    go_wp2_with fail
    obtain ⟨wB, hwB⟩ : ∃ wB, wB = (w.alloc (.cells #[.int .i64 s, .bool g, .slice A n c] 48)).alloc (.cells #[.int .i64 0, .bool false, .slice none 0 0] 48) := ⟨_, rfl⟩
    have HC1 := Lib.hid (show CellI wB w.heap.size s g (.slice A n c) by rw [hwB]; exact (CellI.new w s g _).up (Up.alloc _ _))
    have HR := Lib.hid (show Res3 wB (w.heap.size + 1) by rw [hwB]; have := Res3.new (w.alloc (.cells #[.int .i64 s, .bool g, .slice A n c] 48)); simpa using this)
    have HU := Lib.hid (show Up w wB by rw [hwB]; exact (Up.alloc _ _).trans (Up.alloc _ _))
    rw [← hwB]
    clear hwB
    refine Calls.mono (HSI.out _ (by (repeat (first | exact Below.refl _ _ | exact Hid.out (by assumption) | refine Up.trans ?_ (Up.drew _) | refine Up.trans ?_ (Up.drewN _ _) | refine Up.trans ?_ (Up.alloc _ _) | refine Up.trans ?_ (Hid.out (by assumption)))))) ?_
    rintro e w3 ⟨rfl, hu3⟩
    have HU3 := Lib.hid hu3
    clear hu3
    obtain ⟨a0, a1, a2, la⟩ := (HC1.out.up (w' := w3) (by (repeat (first | exact Below.refl _ _ | exact Hid.out (by assumption) | refine Up.trans ?_ (Up.drew _) | refine Up.trans ?_ (Up.drewN _ _) | refine Up.trans ?_ (Up.alloc _ _) | refine Up.trans ?_ (Hid.out (by assumption)))))).facts
    have HR5 := Lib.hid (HR.out.up (w' := w3) (by (repeat (first | exact Below.refl _ _ | exact Hid.out (by assumption) | refine Up.trans ?_ (Up.drew _) | refine Up.trans ?_ (Up.drewN _ _) | refine Up.trans ?_ (Up.alloc _ _) | refine Up.trans ?_ (Hid.out (by assumption))))))
    obtain ⟨r0, r1, r2, f0, f1, f2, lr⟩ := HR5.out.facts
    have HRES := Lib.hid ((HA.out.up (show Up w w3 by (repeat (first | exact Below.refl _ _ | exact Hid.out (by assumption) | refine Up.trans ?_ (Up.drew _) | refine Up.trans ?_ (Up.drewN _ _) | refine Up.trans ?_ (Up.alloc _ _) | refine Up.trans ?_ (Hid.out (by assumption)))))).put HR5.out (.int .i64 s) (.bool g) (.slice A n c))
    have HF := Lib.hid (HR5.out.stored (.int .i64 s) (.bool g) (.slice A n c))
    have HUF := Lib.hid ((show Up w w3 by (repeat (first | exact Below.refl _ _ | exact Hid.out (by assumption) | refine Up.trans ?_ (Up.drew _) | refine Up.trans ?_ (Up.drewN _ _) | refine Up.trans ?_ (Up.alloc _ _) | refine Up.trans ?_ (Hid.out (by assumption))))).put3 (show w.heap.size ≤ w.heap.size + 1 by omega) (.int .i64 s) (.bool g) (.slice A n c))
    go_wp2
    obtain ⟨z0, z1, z2⟩ := HF.out
    refine bodyPost_ret (by simp [results, Tryz.results125, go_sem, z0, z1, z2]; try rfl) rfl ?_
    refine ⟨_, rfl, ?_, HUF.out⟩
    rw [HE.out]
    exact HRES.out
end Go.Proofs.YtacbjbnocepnaaaGreatDoor
namespace Go.Proofs.YtacbjbnocepnaaaGreatDoor.Fm
structure DivAt (B U0 V n L : Nat) (us qs : List Nat) (k : Nat) : Prop where
  ulen : us.length = L
  uok : Ok B us
  qlen : qs.length = L - n
  qok : Ok B qs
  eq : U0 = B ^ k * val B (qs.drop k) * V + val B us
  top : val B (us.drop k) < V
  kle : k + n ≤ L
theorem drop_val (B : Nat) (l : List Nat) (k : Nat) (hk : k < l.length) : val B (l.drop k) = l[k] + B * val B (l.drop (k + 1)) := by
  rw [List.drop_eq_getElem_cons hk]; rfl
theorem DivAt.high {B U0 V n L : Nat} {us qs : List Nat} {k : Nat} (h : DivAt B U0 V n L us qs k) (hV : V ≤ B ^ n) : val B (us.drop (k + n)) = 0 := by
  have h1 := val_append B ((us.drop k).take n) ((us.drop k).drop n)
  rw [List.take_append_drop, List.drop_drop] at h1
  have hl : ((us.drop k).take n).length = n := by
    have := h.kle; have := h.ulen
    rw [List.length_take, List.length_drop]; omega
  rw [hl] at h1
  have ht := h.top
  rcases Nat.eq_zero_or_pos (val B (us.drop (k + n))) with h2 | h2
  · exact h2
  · have h3 : B ^ n * 1 ≤ B ^ n * val B (us.drop (k + n)) := Nat.mul_le_mul_left _ h2
    omega
theorem DivAt.window {B U0 V n L : Nat} {us qs : List Nat} {k : Nat} (h : DivAt B U0 V n L us qs (k + 1)) (hV : V ≤ B ^ n) :
    val B ((us.drop k).take (n + 1)) = val B (us.drop k) ∧ val B (us.drop k) < B * V ∧ val B (us.drop k) / V < B := by
  have hk : k < us.length := by have := h.kle; have := h.ulen; omega
  have h0 := h.high hV
  have h1 := val_append B ((us.drop k).take (n + 1)) ((us.drop k).drop (n + 1))
  rw [List.take_append_drop, List.drop_drop, show k + (n + 1) = k + 1 + n by omega, h0] at h1
  have h2 := drop_val B us k hk
  have h3 := h.uok.get hk
  have h4 := h.top
  have h5 : B * (val B (us.drop (k + 1)) + 1) ≤ B * V := Nat.mul_le_mul_left _ h4
  rw [Nat.mul_add] at h5
  have h6 : val B (us.drop k) < B * V := by omega
  refine ⟨by omega, h6, ?_⟩
  rw [Nat.mul_comm] at h6
  exact Nat.div_lt_of_lt_mul h6
theorem DivAt.guess {B U0 V n L : Nat} {us qs vs : List Nat} {k : Nat} (h : DivAt B U0 V (n + 1) L us qs (k + 1)) (hB : 0 < B) (hV : V ≤ B ^ (n + 1)) (hvs : val B vs = V) (hvl : vs.length = n + 1) (h1 : k + n + 1 < us.length) (h2 : k + n < us.length) (h3 : n < vs.length) (hvt : 0 < vs[n]) :
    val B (us.drop k) / V ≤ (us[k + n + 1] * B + us[k + n]) / vs[n] := by
  have hVp : 0 < V := by
    have := val_take_succ B h3
    rw [show n + 1 = vs.length by omega, List.take_length, hvs] at this
    have : 0 < B ^ n * vs[n] := Nat.mul_pos (Nat.pow_pos hB) hvt
    omega
  obtain ⟨hw, -, -⟩ := h.window hV
  rw [Nat.le_div_iff_mul_le hvt]
  have hq := Nat.div_mul_le_self (val B (us.drop k)) V
  have hVv : V = val B (vs.take n) + B ^ n * vs[n] := by
    have := val_take_succ B h3
    rw [show n + 1 = vs.length by omega, List.take_length, hvs] at this
    exact this
  -- the window by its last two digits
  have e1 : val B ((us.drop k).take (n + 1 + 1)) = val B ((us.drop k).take n) + B ^ n * us[k + n] + B ^ (n + 1) * us[k + n + 1] := by
    have hl1 : n + 1 < (us.drop k).length := by rw [List.length_drop]; omega
    have hl2 : n < (us.drop k).length := by omega
    rw [val_take_succ B hl1, val_take_succ B hl2, List.getElem_drop, List.getElem_drop]
    rfl
  have e2 : val B ((us.drop k).take n) < B ^ n := by
    have := val_lt hB ((h.uok.drop k).take n)
    rw [List.length_take, List.length_drop, Nat.min_eq_left (by omega)] at this
    exact this
  have e3 : val B (us.drop k) < B ^ n * (us[k + n + 1] * B + us[k + n] + 1) := by
    rw [← hw, e1, Nat.pow_succ]
    have : B ^ n * (us[k + n + 1] * B + us[k + n] + 1) = B ^ n * us[k + n] + B ^ n * B * us[k + n + 1] + B ^ n := by grind
    omega
  have e4 : B ^ n * (val B (us.drop k) / V * vs[n]) ≤ val B (us.drop k) := by
    refine Nat.le_trans ?_ hq
    have : B ^ n * (val B (us.drop k) / V * vs[n]) = val B (us.drop k) / V * (B ^ n * vs[n]) := by grind
    rw [this]
    exact Nat.mul_le_mul_left _ (by omega)
  have e5 := Nat.lt_of_mul_lt_mul_left (Nat.lt_of_le_of_lt e4 e3)
  omega
theorem DivAt.next {B U0 V n L : Nat} {us qs : List Nat} {k : Nat} (h : DivAt B U0 V n L us qs (k + 1)) (hV : V ≤ B ^ n) (hVp : 0 < V) (e : Nat) (he : e = val B (us.drop k) / V) (ds : List Nat) (hds : val B ds = val B (us.drop k) - e * V) (hdl : ds.length = n + 1) (hdo : Ok B ds) :
    DivAt B U0 V n L (us.take k ++ (ds ++ us.drop (k + (n + 1)))) (qs.set k e) k := by
  obtain ⟨hw, hlt, hq⟩ := h.window hV
  have h0 := h.high hV
  have hkl := h.kle
  have hul := h.ulen
  have hql := h.qlen
  have hk : k < qs.length := by omega
  have hk2 : k < (qs.set k e).length := by rw [List.length_set]; exact hk
  have hev : e * V ≤ val B (us.drop k) := by rw [he]; exact Nat.div_mul_le_self _ _
  have hmod : val B (us.drop k) - e * V = val B (us.drop k) % V := by
    have := Nat.div_add_mod (val B (us.drop k)) V
    rw [← he, Nat.mul_comm] at this
    omega
  have hnew : val B (ds ++ us.drop (k + (n + 1))) = val B (us.drop k) - e * V := by
    rw [val_append, hds, show k + (n + 1) = k + 1 + n by omega, h0]; omega
  have hdrop : (us.take k ++ (ds ++ us.drop (k + (n + 1)))).drop k = ds ++ us.drop (k + (n + 1)) := by
    rw [List.drop_append_of_le_length (by rw [List.length_take]; omega), List.drop_eq_nil_of_le (by rw [List.length_take]; omega), List.nil_append]
  refine ⟨?_, (h.uok.take k).append (hdo.append (h.uok.drop _)), by rw [List.length_set, hql], h.qok.set k (by rw [he]; exact hq), ?_, ?_, by omega⟩
  · rw [List.length_append, List.length_append, List.length_take, List.length_drop, hdl]; omega
  · rw [drop_val B _ k hk2, List.getElem_set_self, List.drop_set_of_lt (by omega), val_append, hnew, List.length_take, Nat.min_eq_left (by omega)]
    have h6 := h.eq
    have h7 := val_append B (us.take k) (us.drop k)
    rw [List.take_append_drop, List.length_take, Nat.min_eq_left (by omega)] at h7
    rw [h7, Nat.pow_succ] at h6
    rw [h6]
    have h8 : B ^ k * val B (us.drop k) = B ^ k * (e * V) + B ^ k * (val B (us.drop k) - e * V) := by
      rw [← Nat.mul_add]; congr 1; omega
    rw [h8]
    generalize B ^ k = p
    generalize val B (us.drop k) - e * V = x
    generalize val B (qs.drop (k + 1)) = y
    grind
  · rw [hdrop, hnew, hmod]
    exact Nat.mod_lt _ hVp
theorem DivAt.done {B a b f n L : Nat} {us qs : List Nat} (h : DivAt B (a * f) (b * f) n L us qs 0) (hV : b * f ≤ B ^ n) (hf : 0 < f) (hb : 0 < b) : val B qs = a / b ∧ val B (us.take n) / f = a % b := by
  have h0 := h.high hV
  have h1 := val_append B (us.take n) (us.drop n)
  have hkl := h.kle
  have hul := h.ulen
  rw [Nat.zero_add] at h0
  rw [List.take_append_drop, h0, Nat.mul_zero, Nat.add_zero] at h1
  have h2 := h.eq
  have h3 := h.top
  rw [List.drop_zero] at h2 h3
  rw [Nat.pow_zero, Nat.one_mul] at h2
  rw [← h1]
  have h4 : a * f = (a / b * (b * f)) + (a % b) * f := by
    have := Nat.div_add_mod a b
    calc a * f = (b * (a / b) + a % b) * f := by rw [this]
      _ = (a / b * (b * f)) + (a % b) * f := by grind
  have h5 : (a % b) * f < b * f := Nat.mul_lt_mul_of_pos_right (Nat.mod_lt _ hb) hf
  have hbf : 0 < b * f := Nat.mul_pos hb hf
  have h6 : val B qs = a / b := by
    have e1 : (val B qs * (b * f) + val B us) / (b * f) = val B qs := by
      rw [Nat.add_comm, Nat.add_mul_div_right _ _ hbf, Nat.div_eq_of_lt h3, Nat.zero_add]
    have e2 : (a / b * (b * f) + (a % b) * f) / (b * f) = a / b := by
      rw [Nat.add_comm, Nat.add_mul_div_right _ _ hbf, Nat.div_eq_of_lt h5, Nat.zero_add]
    rw [← e1, ← h2, h4, e2]
  refine ⟨h6, ?_⟩
  rw [h6] at h2
  have h7 : val B us = (a % b) * f := by omega
  rw [h7, Nat.mul_div_cancel _ hf]
theorem DivAt.start {B a b f n la : Nat} {us : List Nat} (hB : 2 ≤ B) (ha : a < B ^ la) (hb : B ^ (n - 1) ≤ b) (hn : 1 ≤ n) (hnl : n ≤ la + 1) (hf : 0 < f) (hul : us.length = la + 1) (huo : Ok B us) (hus : val B us = a * f) :
    DivAt B (a * f) (b * f) n (la + 1) us (List.replicate (la + 1 - n) 0) (la + 1 - n) := by
  refine ⟨hul, huo, by simp, Ok.replicate (by omega), ?_, ?_, by omega⟩
  · rw [List.drop_eq_nil_of_le (by simp)]; simp [val, hus]
  · have h1 := val_append B (us.take (la + 1 - n)) (us.drop (la + 1 - n))
    rw [List.take_append_drop, List.length_take, Nat.min_eq_left (by omega), hus] at h1
    have h2 : a * f < B ^ la * f := Nat.mul_lt_mul_of_pos_right ha hf
    have h3 : B ^ la = B ^ (la + 1 - n) * B ^ (n - 1) := by rw [← Nat.pow_add]; congr 1; omega
    have h4 : B ^ (la + 1 - n) * val B (us.drop (la + 1 - n)) < B ^ (la + 1 - n) * (B ^ (n - 1) * f) := by
      rw [h3, Nat.mul_assoc] at h2
      omega
    have h5 := Nat.lt_of_mul_lt_mul_left h4
    exact Nat.lt_of_lt_of_le h5 (Nat.mul_le_mul_right _ hb)
end Go.Proofs.YtacbjbnocepnaaaGreatDoor.Fm
