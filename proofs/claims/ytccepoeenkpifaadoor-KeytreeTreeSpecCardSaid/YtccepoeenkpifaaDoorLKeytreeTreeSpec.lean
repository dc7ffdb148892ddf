/-
  The walk of KeytreeTreeSpec.
-/
import Derived.Test.YtccepoeenkpifaaDoorKtS
import Derived.Test.YtccepoeenkpifaaDoorKtV
import Derived.Test.YtccepoeenkpifaaDoorKrA
import Derived.Test.YtccepoeenkpifaaDoorKrV
import Derived.Test.YtccepoeenkpifaaDoorOpS
namespace Go.Proofs.YtccepoeenkpifaaDoor
open Go.RowKit
set_option linter.unusedVariables false
set_option linter.unusedSimpArgs false

theorem row_len {w : World} {B s n : Nat} {v : Value} {xs : List Value} (h : Row w B s n v xs) : n ≤ 9223372036854775807 := by
  obtain ⟨_, _, _, h1, h2, _⟩ := h
  unfold maxLen at h2
  omega
theorem bs_len {w : World} {B : Nat} {v : Value} {l : List UInt8} (h : Bs w B v l) : l.length ≤ 9223372036854775807 := by
  obtain ⟨_, _, _, h1, h2, _⟩ := h
  unfold maxLen at h2
  omega

/-- Path and its reference answer alike. -/
theorem path_pair (v : Value) (F : List UInt8) (n : Nat) (ix : Int) (hm : n ≤ 9223372036854775807) : ∃ (N : Nat) (PL : List UInt8) (E : Int), N ≤ 6 ∧
    (∀ w : World, Row w w.heap.size 32 n v (u8s F) → KIs 1 w → Calls Tryd.prog 17 #[v, .int .i64 ix] w fun e w' => ∃ v', e = .returned (.tuple #[v', .int .i64 E]) ∧ Row w' w'.heap.size 32 N v' (u8s PL) ∧ Below w.heap.size w w') ∧
    (∀ w : World, Row w w.heap.size 32 n v (u8s F) → KIs 2 w → InIs 0 w → Calls Tryd.prog 18 #[v, .int .i64 ix] w fun e w' => ∃ v', e = .returned (.tuple #[v', .int .i64 E]) ∧ Row w' w'.heap.size 32 N v' (u8s PL) ∧ Below w.heap.size w w') := by
  by_cases h : Kt.isw n = true ∧ 0 ≤ ix ∧ ix < (n : Int)
  · obtain ⟨h1, h2, h3⟩ := h
    obtain ⟨K, hK, rfl⟩ := Kt.isw_pow h1
    obtain ⟨i, rfl⟩ := Int.eq_ofNat_of_zero_le h2
    have hi : i < 2 ^ K := by omega
    exact ⟨K, Kt.pth F i K, 0, hK, fun w hv hk => path_yes v F K i w hv hK hi hk,
      fun w hv hk hin => (rpath_at v F K i w hv hK hi hk hin).mono fun e w' ⟨v', h1, h2, _, h4⟩ => ⟨v', h1, h2, h4⟩⟩
  · exact ⟨0, [], 1, by omega, fun w hv hk => (path_no v F n ix w hv hm h).mono fun e w' ⟨h1, h2⟩ => ⟨_, h1, Row.nil_ _ _ _, h2⟩,
      fun w hv hk hin => (rpath_no v F n ix w hv hm h).mono fun e w' ⟨h1, h2⟩ => ⟨_, h1, Row.nil_ _ _ _, h2⟩⟩

/-- Climb and its reference answer alike. -/
theorem climb_pair (v : Value) (x G : List UInt8) (n : Nat) (ix : Int) (hx : x.length = 32) (hm : n ≤ 9223372036854775807) (hx1 : -9223372036854775808 ≤ ix) (hx2 : ix ≤ 9223372036854775807) : ∃ (X : List UInt8) (E : Int), X.length = 32 ∧
    (∀ w : World, Row w w.heap.size 32 n v (u8s G) → KIs 1 w → Calls Tryd.prog 19 #[.agg (u8s x).toArray, .int .i64 ix, v] w fun e w' => e = .returned (.tuple #[.agg (u8s X).toArray, .int .i64 E]) ∧ Below w.heap.size w w') ∧
    (∀ w : World, Row w w.heap.size 32 n v (u8s G) → KIs 2 w → InIs 0 w → Calls Tryd.prog 20 #[.agg (u8s x).toArray, .int .i64 ix, v] w fun e w' => e = .returned (.tuple #[.agg (u8s X).toArray, .int .i64 E]) ∧ Below w.heap.size w w') := by
  by_cases h : n ≤ 6 ∧ 0 ≤ ix ∧ ix < ((2 ^ n : Nat) : Int)
  · obtain ⟨h1, h2, h3⟩ := h
    obtain ⟨i, rfl⟩ := Int.eq_ofNat_of_zero_le h2
    have hi : i < 2 ^ n := by omega
    exact ⟨Kt.climb x i G n, 0, Kt.climb_len hx _ _ _, fun w hv hk => climb_yes v x G n i w hv hx h1 hi hk, fun w hv hk hin => rclimb_yes v x G n i w hv hx h1 hi hk hin⟩
  · exact ⟨z32, 1, rfl, fun w hv hk => climb_no v x G n ix w hv hx hm hx1 hx2 h, fun w hv hk hin => rclimb_no v x G n ix w hv hx hm hx1 hx2 h⟩

/-- Verify and its reference answer alike. -/
theorem verify_pair (r l : List UInt8) (v : Value) (z : Int) (A B : Option Addr) (n c m d : Nat) (F G : List UInt8) (hr : r.length = 32) (hl : l.length ≤ 80000) (hn : n ≤ 9223372036854775807) (hx1 : -9223372036854775808 ≤ z) (hx2 : z ≤ 9223372036854775807) : ∃ Q : Bool,
    (∀ w : World, Bs w w.heap.size v l → Row w w.heap.size 32 n (.slice A n c) (u8s F) → Row w w.heap.size 32 m (.slice B m d) (u8s G) → KIs 1 w → Calls Tryd.prog 22 #[.agg (u8s r).toArray, v, .agg (sg z (.slice A n c) (.slice B m d)).toArray] w fun e w' => e = .returned (.bool Q) ∧ Below w.heap.size w w') ∧
    (∀ w : World, Bs w w.heap.size v l → Row w w.heap.size 32 n (.slice A n c) (u8s F) → Row w w.heap.size 32 m (.slice B m d) (u8s G) → KIs 2 w → InIs 0 w → Calls Tryd.prog 23 #[.agg (u8s r).toArray, v, .agg (sg z (.slice A n c) (.slice B m d)).toArray] w fun e w' => e = .returned (.bool Q) ∧ Below w.heap.size w w') := by
  by_cases hm : m = 2
  · subst hm
    by_cases hn18 : n = 18
    · subst hn18
      by_cases hz : 0 ≤ z ∧ z ≤ 3
      · obtain ⟨h0, h3⟩ := hz
        obtain ⟨i, rfl⟩ := Int.eq_ofNat_of_zero_le h0
        have hi : i ≤ 3 := by omega
        exact ⟨_, fun w hv hF hG hk => kverify_yes r l v i A B c d F G w hr hv (by omega) hi hF hG hk, fun w hv hF hG hk hin => rverify5_yes r l v i A B c d F G w hr hv hl hi hF hG hk hin⟩
      · exact ⟨false, fun w hv hF hG hk => kverify_no3 r l v z A B c d F G w hr hv (by omega) hz hx1 hx2 hF hG hk, fun w hv hF hG hk hin => rverify5_no r v l z A B 18 c 2 d w hr hv (fun h => hz ⟨h.1, h.2.1⟩)⟩
    · exact ⟨false, fun w hv hF hG hk => kverify_no2 r l v z A B c d n G w hr hv (by omega) hn18 hn hG hk, fun w hv hF hG hk hin => rverify5_no r v l z A B n c 2 d w hr hv (fun h => hn18 h.2.2.1)⟩
  · exact ⟨false, fun w hv hF hG hk => kverify_no1 r l v z A B c d n m w hr hv (by omega) hm hk, fun w hv hF hG hk hin => rverify5_no r v l z A B n c m d w hr hv (fun h => hm h.2.2.2)⟩

set_option maxRecDepth 100000 in
set_option maxHeartbeats 4000000 in
theorem keytreeTreeSpec_walk (lv : Value) (nl : Nat) (FL : List UInt8) (ix : Int) (r : List UInt8) (v : Value) (l : List UInt8) (z : Int) (A B : Option Addr) (n c m d : Nat) (F PP : List UInt8) (W : World) (hL : Row W W.heap.size 32 nl lv (u8s FL)) (hix : -9223372036854775808 ≤ ix ∧ ix ≤ 9223372036854775807) (hr : r.length = 32) (hv : Bs W W.heap.size v l) (hz : -9223372036854775808 ≤ z ∧ z ≤ 9223372036854775807) (hF : Row W W.heap.size 32 n (.slice A n c) (u8s F)) (hG : Row W W.heap.size 32 m (.slice B m d) (u8s PP)) (hk3 : KIs 2 W) (hin : InIs 0 W) (hk : KIs 1 W) :
    Calls Tryd.prog 4 #[lv, .int .i64 ix, .agg (u8s r).toArray, v, .agg (sg z (.slice A n c) (.slice B m d)).toArray] W fun e w' => e = .returned (.bool true) ∧ Below W.heap.size W w' := by
  obtain ⟨A0, cap0, rfl⟩ := hv.form
  obtain ⟨A1, cap1, rfl⟩ := row_form hL
  obtain ⟨hix1, hix2⟩ := hix
  obtain ⟨hz1, hz2⟩ := hz
  have hnl := row_len hF
  have hml := row_len hG
  have hll := bs_len hv
  have hLl := row_len hL
  have HR := Lib.hid hr
  have HUR := Lib.hid (show (u8s r).length = 32 by rw [u8s_length, hr])
  have b0 : Below W.heap.size W ((W.alloc (.cells (u8s r).toArray 25)).alloc (.cells (sg z (.slice A n c) (.slice B m d)).toArray 31)) := ((Below.refl _ _).alloc (Nat.le_refl _) _).alloc (by simp) _
  have r0 : Blk ((W.alloc (.cells (u8s r).toArray 25)).alloc (.cells (sg z (.slice A n c) (.slice B m d)).toArray 31)) W.heap.size 25 (u8s r) := (Blk.new W _ _).past ((Below.refl _ _).alloc (Nat.le_refl _) _) (by simp)
  have q0 : Blk ((W.alloc (.cells (u8s r).toArray 25)).alloc (.cells (sg z (.slice A n c) (.slice B m d)).toArray 31)) (W.heap.size + 1) 31 (sg z (.slice A n c) (.slice B m d)) := by
    have h := Blk.new (W.alloc (.cells (u8s r).toArray 25)) 31 (sg z (.slice A n c) (.slice B m d))
    rw [World.size_alloc] at h
    exact h
  obtain ⟨W0, hW0⟩ : ∃ U, U = (W.alloc (.cells (u8s r).toArray 25)).alloc (.cells (sg z (.slice A n c) (.slice B m d)).toArray 31) := ⟨_, rfl⟩
  rw [← hW0] at b0 r0 q0
  have HW := Lib.hid hW0
  have m0 := hv.past b0
  have k0 := hk.past b0
  have k30 := hk3.past b0
  have in0 := hin.past b0
  have c0 := hF.past b0
  have p0 := hG.past b0
  have l0 := hL.past b0
  clear hW0 hv hk hr hF hG hL hk3 hin
  go_enter Tryd.func4, Tryd.ntmps4
  go_upto_region 1 with (fail)
  rw [← HW.out]
  obtain ⟨gr, hgr⟩ : ∃ g, g = W.heap.size := ⟨_, rfl⟩
  obtain ⟨gq, hgq⟩ : ∃ g, g = W.heap.size + 1 := ⟨_, rfl⟩
  rw [← hgq] at q0 ⊢
  rw [← hgr] at r0 ⊢
  have HGR := Lib.hid hgr
  clear hgr hgq
  have HC1 := Lib.hid (sane_any W0 k0)
  go_wp2_with fail
  refine HC1.out.mono ?_
  rintro e v1 ⟨rfl, b1⟩
  have f_r1 := r0.past b1 r0.lt
  have f_q1 := q0.past b1 q0.lt
  have f_m1 := m0.past b1
  have f_k1 := k0.past b1
  have f_k31 := k30.past b1
  have f_in1 := in0.past b1
  have f_bel1 := b0.trans (b1.mono b0.size)
  have f_p1 := p0.past b1
  have f_c1 := c0.past b1
  have f_l1 := l0.past b1
  clear r0 q0 m0 k0 k30 in0 b0 p0 c0 l0 HC1 b1
  have d1 : v1.cell? ⟨gq, 1, none⟩ = some (.slice A n c) := Blk.cell f_q1 (j := 1) rfl
  have d2 : v1.cell? ⟨gq, 2, none⟩ = some (.slice B m d) := Blk.cell f_q1 (j := 2) rfl
  by_cases hl100 : nl ≤ 100
  · skip
    by_cases hm300 : l.length ≤ 300
    · skip
      by_cases hc40 : n ≤ 40
      · skip
        by_cases hp40 : m ≤ 40
        · skip
          obtain ⟨N, PL, E1, hN, hpa, hpb⟩ := path_pair (.slice A1 nl cap1) FL nl ix hLl
          obtain ⟨X, E2, hXl, hca, hcb⟩ := climb_pair (.slice B m d) r PP m ix HR.out hml hix1 hix2
          obtain ⟨Q, hva, hvb⟩ := verify_pair r l (.slice A0 l.length cap0) z A B n c m d F PP HR.out (by omega) hnl hz1 hz2
          have HPA := Lib.hid hpa
          have HPB := Lib.hid hpb
          have HCA := Lib.hid hca
          have HCB := Lib.hid hcb
          have HVA := Lib.hid hva
          have HVB := Lib.hid hvb
          have HXL := Lib.hid hXl
          have HUX := Lib.hid (show (u8s X).length = 32 by rw [u8s_length, hXl])
          have HE1 := Lib.hid (beq_self_eq_true E1)
          have HE2 := Lib.hid (beq_self_eq_true E2)
          have hz := zero_dig
          clear hpa hpb hca hcb hva hvb hXl
          have HC2 := Lib.hid (HPA.out v1 f_l1 f_k1)
          go_wp2_with fail
          refine HC2.out.mono ?_
          rintro e v2 ⟨pa, rfl, ra, b2⟩
          have f_r2 := f_r1.past b2 f_r1.lt
          have f_q2 := f_q1.past b2 f_q1.lt
          have f_m2 := f_m1.past b2
          have f_k2 := f_k1.past b2
          have f_k32 := f_k31.past b2
          have f_in2 := f_in1.past b2
          have f_bel2 := f_bel1.trans (b2.mono f_bel1.size)
          have f_p2 := f_p1.past b2
          have f_c2 := f_c1.past b2
          have f_l2 := f_l1.past b2
          clear f_r1 f_q1 f_m1 f_k1 f_k31 f_in1 f_bel1 f_p1 f_c1 f_l1 HC2 b2
          have HC3 := Lib.hid (HPB.out v2 f_l2 f_k32 f_in2)
          go_wp2_with fail
          refine HC3.out.mono ?_
          rintro e v3 ⟨pb, rfl, rb, b3⟩
          have f_r3 := f_r2.past b3 f_r2.lt
          have f_q3 := f_q2.past b3 f_q2.lt
          have f_m3 := f_m2.past b3
          have f_k3 := f_k2.past b3
          have f_k33 := f_k32.past b3
          have f_in3 := f_in2.past b3
          have f_bel3 := f_bel2.trans (b3.mono f_bel2.size)
          have f_p3 := f_p2.past b3
          have f_c3 := f_c2.past b3
          have f_l3 := f_l2.past b3
          have f_pa3 := ra.past b3
          clear f_r2 f_q2 f_m2 f_k2 f_k32 f_in2 f_bel2 f_p2 f_c2 f_l2 ra HC3 b3
          clear d1 d2
          have d2 : v3.cell? ⟨gq, 2, none⟩ = some (.slice B m d) := Blk.cell f_q3 (j := 2) rfl
          have HC4 := Lib.hid (HCA.out v3 f_p3 f_k3)
          go_wp2_with (first | (refine wp_run rfl (exec_loadA 25 rfl gr rfl 25 _ 32 5 f_r3 Tryd.underlying25 (by rw [info_dig, HUR.out])) ?_))
          refine HC4.out.mono ?_
          rintro e v4 ⟨rfl, b4⟩
          clear d2
          have f_r4 := f_r3.past b4 f_r3.lt
          have f_q4 := f_q3.past b4 f_q3.lt
          have f_m4 := f_m3.past b4
          have f_k4 := f_k3.past b4
          have f_k34 := f_k33.past b4
          have f_in4 := f_in3.past b4
          have f_bel4 := f_bel3.trans (b4.mono f_bel3.size)
          have f_p4 := f_p3.past b4
          have f_c4 := f_c3.past b4
          have f_l4 := f_l3.past b4
          have f_pa4 := f_pa3.past b4
          have f_pb4 := rb.past b4
          clear f_r3 f_q3 f_m3 f_k3 f_k33 f_in3 f_bel3 f_p3 f_c3 f_l3 f_pa3 rb HC4 b4
          have x5 := Blk.new v4 25 (u8s z32)
          have bx5 : Below v4.heap.size v4 (v4.alloc (.cells (u8s z32).toArray 25)) := (Below.refl _ _).alloc (Nat.le_refl _) _
          go_upto_region 8 with (refine wp_storeA 25 (.tmp 15) (.tmp 59) rfl rfl v4.heap.size rfl 25 (u8s z32) _ rfl x5 (by rw [info_dig, HUX.out]) (by first | (rw [HUX.out]; rfl) | rfl) (u8s_one _) rfl ?_; intro y5 h5 k5)
          have bb5 : Below v4.heap.size v4 y5 := ((Keep.of_below bx5).trans (k5.mono (O' := fun q => q < v4.heap.size) (fun q hq => by omega))).below (fun q hq => hq) (Nat.le_refl _)
          have f_r5 := f_r4.past bb5 f_r4.lt
          have f_q5 := f_q4.past bb5 f_q4.lt
          have f_m5 := f_m4.past bb5
          have f_k5 := f_k4.past bb5
          have f_k35 := f_k34.past bb5
          have f_in5 := f_in4.past bb5
          have f_bel5 := f_bel4.trans (bb5.mono f_bel4.size)
          have f_p5 := f_p4.past bb5
          have f_c5 := f_c4.past bb5
          have f_l5 := f_l4.past bb5
          have f_pa5 := f_pa4.past bb5
          have f_pb5 := f_pb4.past bb5
          clear f_r4 f_q4 f_m4 f_k4 f_k34 f_in4 f_bel4 f_p4 f_c4 f_l4 f_pa4 f_pb4 x5 bx5 k5 bb5
          obtain ⟨gx, hgx⟩ : ∃ g, g = v4.heap.size := ⟨_, rfl⟩
          rw [← hgx] at h5 ⊢
          clear hgx
          have d2 : y5.cell? ⟨gq, 2, none⟩ = some (.slice B m d) := Blk.cell f_q5 (j := 2) rfl
          have HC6 := Lib.hid (HCB.out y5 f_p5 f_k35 f_in5)
          go_wp2_with (first | (refine wp_run rfl (exec_loadA 25 rfl gr rfl 25 _ 32 5 f_r5 Tryd.underlying25 (by rw [info_dig, HUR.out])) ?_))
          refine HC6.out.mono ?_
          rintro e v6 ⟨rfl, b6⟩
          clear d2
          have f_r6 := f_r5.past b6 f_r5.lt
          have f_q6 := f_q5.past b6 f_q5.lt
          have f_m6 := f_m5.past b6
          have f_k6 := f_k5.past b6
          have f_k36 := f_k35.past b6
          have f_in6 := f_in5.past b6
          have f_bel6 := f_bel5.trans (b6.mono f_bel5.size)
          have f_p6 := f_p5.past b6
          have f_c6 := f_c5.past b6
          have f_l6 := f_l5.past b6
          have f_pa6 := f_pa5.past b6
          have f_pb6 := f_pb5.past b6
          have f_x6 := h5.past b6 h5.lt
          clear f_r5 f_q5 f_m5 f_k5 f_k35 f_in5 f_bel5 f_p5 f_c5 f_l5 f_pa5 f_pb5 h5 HC6 b6
          have x7 := Blk.new v6 25 (u8s z32)
          have bx7 : Below v6.heap.size v6 (v6.alloc (.cells (u8s z32).toArray 25)) := (Below.refl _ _).alloc (Nat.le_refl _) _
          go_upto_region 9 with (refine wp_storeA 25 (.tmp 17) (.tmp 67) rfl rfl v6.heap.size rfl 25 (u8s z32) _ rfl x7 (by rw [info_dig, HUX.out]) (by first | (rw [HUX.out]; rfl) | rfl) (u8s_one _) rfl ?_; intro y7 h7 k7)
          have bb7 : Below v6.heap.size v6 y7 := ((Keep.of_below bx7).trans (k7.mono (O' := fun q => q < v6.heap.size) (fun q hq => by omega))).below (fun q hq => hq) (Nat.le_refl _)
          have f_r7 := f_r6.past bb7 f_r6.lt
          have f_q7 := f_q6.past bb7 f_q6.lt
          have f_m7 := f_m6.past bb7
          have f_k7 := f_k6.past bb7
          have f_k37 := f_k36.past bb7
          have f_in7 := f_in6.past bb7
          have f_bel7 := f_bel6.trans (bb7.mono f_bel6.size)
          have f_p7 := f_p6.past bb7
          have f_c7 := f_c6.past bb7
          have f_l7 := f_l6.past bb7
          have f_pa7 := f_pa6.past bb7
          have f_pb7 := f_pb6.past bb7
          have f_x7 := f_x6.past bb7 f_x6.lt
          clear f_r6 f_q6 f_m6 f_k6 f_k36 f_in6 f_bel6 f_p6 f_c6 f_l6 f_pa6 f_pb6 f_x6 x7 bx7 k7 bb7
          obtain ⟨gy, hgy⟩ : ∃ g, g = v6.heap.size := ⟨_, rfl⟩
          rw [← hgy] at h7 ⊢
          clear hgy
          clear hz
          have lt_r := Blk.lt f_r7
          have lt_q := Blk.lt f_q7
          have lt_x := Blk.lt f_x7
          have lt_y := Blk.lt h7
          refine wp_region_pt (y7.heap.size) (.take 0 (.take 1 (.step 2 (.take 3 (.take 4 (.take 5 (.take 6 (.take 7 (.take 8 (.take 9 (.take 10 (.take 11 (.take 12 (.take 13 (.take 14 (.take 15 (.take 16 (.take 17 (.take 18 (.take 19 (.take 20 (.take 21 (.take 23 (.take 24 (.take 25 (.step 22 (.step 26 (.take 27 (.take 28 (.take 29 .done)))))))))))))))))))))))))))))) (by kernel_rfl) (by kernel_rfl) (by kernel_rfl) (fun _ _ h => h) ?_
          have bd8 : Below y7.heap.size y7 y7.drew := (Below.refl _ _).drew
          have zB8 : y7.heap.size ≤ y7.drew.heap.size := bd8.size
          have f_r8 := f_r7.past bd8 f_r7.lt
          have f_q8 := f_q7.past bd8 f_q7.lt
          have f_m8 := f_m7.past bd8
          have f_k8 := f_k7.past bd8
          have f_k38 := f_k37.past bd8
          have f_in8 := f_in7.past bd8
          have f_bel8 := f_bel7.trans (bd8.mono f_bel7.size)
          have f_p8 := f_p7.past bd8
          have f_c8 := f_c7.past bd8
          have f_l8 := f_l7.past bd8
          have f_pa8 := f_pa7.past bd8
          have f_pb8 := f_pb7.past bd8
          have f_x8 := f_x7.past bd8 f_x7.lt
          have f_y8 := h7.past bd8 h7.lt
          clear f_r7 f_q7 f_m7 f_k7 f_k37 f_in7 f_bel7 f_p7 f_c7 f_l7 f_pa7 f_pb7 f_x7 h7
          obtain ⟨u8, hu8⟩ : ∃ u, u = y7.drew := ⟨_, rfl⟩
          rw [← hu8] at f_r8 f_q8 f_m8 f_k8 f_k38 f_in8 f_bel8 f_p8 f_c8 f_l8 f_pa8 f_pb8 f_x8 f_y8 zB8 bd8 ⊢
          clear hu8 bd8
          have hdg := digests_any _ _ PL PL N N u8 f_pa8 f_pb8 (by omega) (by omega)
          rw [beq_self_eq_true] at hdg
          have HDG := Lib.hid hdg
          clear hdg
          first | refine pt_skip rfl rfl rfl rfl ?_ | (refine pt_take rfl rfl rfl rfl ?_; apply Exists.intro; refine ⟨fun w' hw' => ?_, ?_⟩; focus ((repeat (first | go_skip | go_guarded | go_step | go_upon | go_back)); exact ⟨rfl, rfl, rfl⟩))
          first | refine pt_skip rfl rfl rfl rfl ?_ | (refine pt_take rfl rfl rfl rfl ?_; apply Exists.intro; refine ⟨fun w' hw' => ?_, ?_⟩; focus ((repeat (first | go_skip | go_guarded | go_step | go_upon | go_back)); exact ⟨rfl, rfl, rfl⟩))
          refine pt_step rfl ?_
          go_wp2_with fail
          refine (HDG.out).mono ?_
          rintro e t9 ⟨rfl, c9⟩
          go_wp2_with fail
          refine ⟨rfl, c9.mono zB8, ?_⟩
          have f_r9 := f_r8.past c9 f_r8.lt
          have f_q9 := f_q8.past c9 f_q8.lt
          have f_m9 := f_m8.past c9
          have f_k9 := f_k8.past c9
          have f_k39 := f_k38.past c9
          have f_in9 := f_in8.past c9
          have f_bel9 := f_bel8.trans (c9.mono f_bel8.size)
          have f_p9 := f_p8.past c9
          have f_c9 := f_c8.past c9
          have f_l9 := f_l8.past c9
          have f_pa9 := f_pa8.past c9
          have f_pb9 := f_pb8.past c9
          have f_x9 := f_x8.past c9 f_x8.lt
          have f_y9 := f_y8.past c9 f_y8.lt
          have f_zB9 := Nat.le_trans zB8 c9.size
          clear f_r8 f_q8 f_m8 f_k8 f_k38 f_in8 f_bel8 f_p8 f_c8 f_l8 f_pa8 f_pb8 f_x8 f_y8 zB8 c9
          clear HDG
          first | refine pt_skip rfl rfl rfl rfl ?_ | (refine pt_take rfl rfl rfl rfl ?_; apply Exists.intro; refine ⟨fun w' hw' => ?_, ?_⟩; focus ((repeat (first | go_skip | go_guarded | go_step | go_upon | go_back)); exact ⟨rfl, rfl, rfl⟩))
          first | refine pt_skip rfl rfl rfl rfl ?_ | (refine pt_take rfl rfl rfl rfl ?_; apply Exists.intro; refine ⟨fun w' hw' => ?_, ?_⟩; focus ((repeat (first | go_skip | go_guarded | go_step | go_upon | go_back)); exact ⟨rfl, rfl, rfl⟩))
          first | refine pt_skip rfl rfl rfl rfl ?_ | (refine pt_take rfl rfl rfl rfl ?_; apply Exists.intro; refine ⟨fun w' hw' => ?_, ?_⟩; focus ((repeat (first | go_skip | go_guarded | go_step | go_upon | go_back)); exact ⟨rfl, rfl, rfl⟩))
          first | refine pt_skip rfl rfl rfl rfl ?_ | (refine pt_take rfl rfl rfl rfl ?_; apply Exists.intro; refine ⟨fun w' hw' => ?_, ?_⟩; focus ((repeat (first | go_skip | go_guarded | go_step | go_upon | go_back)); exact ⟨rfl, rfl, rfl⟩))
          first | refine pt_skip rfl rfl rfl rfl ?_ | (refine pt_take rfl rfl rfl rfl ?_; apply Exists.intro; refine ⟨fun w' hw' => ?_, ?_⟩; focus ((repeat (first | go_skip | go_guarded | go_step | go_upon | go_back)); exact ⟨rfl, rfl, rfl⟩))
          first | refine pt_skip rfl rfl rfl rfl ?_ | (refine pt_take rfl rfl rfl rfl ?_; apply Exists.intro; refine ⟨fun w' hw' => ?_, ?_⟩; focus ((repeat (first | go_skip | go_guarded | go_step | go_upon | go_back)); exact ⟨rfl, rfl, rfl⟩))
          refine pt_take rfl rfl rfl rfl ?_
          apply Exists.intro
          refine ⟨fun w' hw' => ?_, ?_⟩
          · refine wp_run rfl (exec_loadA 25 rfl _ rfl 25 _ 32 5 (f_x9.past hw' lt_x) Tryd.underlying25 (by rw [info_dig, HUX.out])) ?_
            exact ⟨rfl, rfl, rfl⟩
          refine pt_take rfl rfl rfl rfl ?_
          apply Exists.intro
          refine ⟨fun w' hw' => ?_, ?_⟩
          · refine wp_run rfl (exec_loadA 25 rfl _ rfl 25 _ 32 5 (f_y9.past hw' lt_y) Tryd.underlying25 (by rw [info_dig, HUX.out])) ?_
            exact ⟨rfl, rfl, rfl⟩
          refine pt_take rfl rfl rfl rfl ?_
          apply Exists.intro
          refine ⟨fun w' hw' => ?_, ?_⟩
          · refine wp_run rfl (exec_eqB rfl X X rfl rfl HXL.out HXL.out true (beq_self_eq_true _) w') ?_
            exact ⟨rfl, rfl, rfl⟩
          first | refine pt_skip rfl rfl rfl rfl ?_ | (refine pt_take rfl rfl rfl rfl ?_; apply Exists.intro; refine ⟨fun w' hw' => ?_, ?_⟩; focus ((repeat (first | go_skip | go_guarded | go_step | go_upon | go_back)); exact ⟨rfl, rfl, rfl⟩))
          first | refine pt_skip rfl rfl rfl rfl ?_ | (refine pt_take rfl rfl rfl rfl ?_; apply Exists.intro; refine ⟨fun w' hw' => ?_, ?_⟩; focus ((repeat (first | go_skip | go_guarded | go_step | go_upon | go_back)); exact ⟨rfl, rfl, rfl⟩))
          first | refine pt_skip rfl rfl rfl rfl ?_ | (refine pt_take rfl rfl rfl rfl ?_; apply Exists.intro; refine ⟨fun w' hw' => ?_, ?_⟩; focus ((repeat (first | go_skip | go_guarded | go_step | go_upon | go_back)); exact ⟨rfl, rfl, rfl⟩))
          first | refine pt_skip rfl rfl rfl rfl ?_ | (refine pt_take rfl rfl rfl rfl ?_; apply Exists.intro; refine ⟨fun w' hw' => ?_, ?_⟩; focus ((repeat (first | go_skip | go_guarded | go_step | go_upon | go_back)); exact ⟨rfl, rfl, rfl⟩))
          first | refine pt_skip rfl rfl rfl rfl ?_ | (refine pt_take rfl rfl rfl rfl ?_; apply Exists.intro; refine ⟨fun w' hw' => ?_, ?_⟩; focus ((repeat (first | go_skip | go_guarded | go_step | go_upon | go_back)); exact ⟨rfl, rfl, rfl⟩))
          first | refine pt_skip rfl rfl rfl rfl ?_ | (refine pt_take rfl rfl rfl rfl ?_; apply Exists.intro; refine ⟨fun w' hw' => ?_, ?_⟩; focus ((repeat (first | go_skip | go_guarded | go_step | go_upon | go_back)); exact ⟨rfl, rfl, rfl⟩))
          first | refine pt_skip rfl rfl rfl rfl ?_ | (refine pt_take rfl rfl rfl rfl ?_; apply Exists.intro; refine ⟨fun w' hw' => ?_, ?_⟩; focus ((repeat (first | go_skip | go_guarded | go_step | go_upon | go_back)); exact ⟨rfl, rfl, rfl⟩))
          refine pt_take rfl rfl rfl rfl ?_
          apply Exists.intro
          refine ⟨fun w' hw' => ?_, ?_⟩
          · refine wp_run rfl (exec_loadA 25 rfl _ rfl 25 _ 32 5 (f_r9.past hw' lt_r) Tryd.underlying25 (by rw [info_dig, HUR.out])) ?_
            exact ⟨rfl, rfl, rfl⟩
          first | refine pt_skip rfl rfl rfl rfl ?_ | (refine pt_take rfl rfl rfl rfl ?_; apply Exists.intro; refine ⟨fun w' hw' => ?_, ?_⟩; focus ((repeat (first | go_skip | go_guarded | go_step | go_upon | go_back)); exact ⟨rfl, rfl, rfl⟩))
          refine pt_take rfl rfl rfl rfl ?_
          apply Exists.intro
          refine ⟨fun w' hw' => ?_, ?_⟩
          · refine wp_run rfl (exec_loadR 31 rfl _ rfl 31 (sg z (.slice A n c) (.slice B m d)) _ (f_q9.past hw' lt_q) Tryd.underlying31 rfl (by rw [info_sig]; rfl)) ?_
            exact ⟨rfl, rfl, rfl⟩
          refine pt_take rfl rfl rfl rfl ?_
          apply Exists.intro
          refine ⟨fun w' hw' => ?_, ?_⟩
          · refine wp_run rfl (exec_loadA 25 rfl _ rfl 25 _ 32 5 (f_r9.past hw' lt_r) Tryd.underlying25 (by rw [info_dig, HUR.out])) ?_
            exact ⟨rfl, rfl, rfl⟩
          first | refine pt_skip rfl rfl rfl rfl ?_ | (refine pt_take rfl rfl rfl rfl ?_; apply Exists.intro; refine ⟨fun w' hw' => ?_, ?_⟩; focus ((repeat (first | go_skip | go_guarded | go_step | go_upon | go_back)); exact ⟨rfl, rfl, rfl⟩))
          refine pt_take rfl rfl rfl rfl ?_
          apply Exists.intro
          refine ⟨fun w' hw' => ?_, ?_⟩
          · refine wp_run rfl (exec_loadR 31 rfl _ rfl 31 (sg z (.slice A n c) (.slice B m d)) _ (f_q9.past hw' lt_q) Tryd.underlying31 rfl (by rw [info_sig]; rfl)) ?_
            exact ⟨rfl, rfl, rfl⟩
          refine pt_step rfl ?_
          go_wp2_with fail
          refine (HVA.out _ f_m9 f_c9 f_p9 f_k9).mono ?_
          rintro e t10 ⟨rfl, c10⟩
          go_wp2_with fail
          refine ⟨rfl, c10.mono f_zB9, ?_⟩
          have f_r10 := f_r9.past c10 f_r9.lt
          have f_q10 := f_q9.past c10 f_q9.lt
          have f_m10 := f_m9.past c10
          have f_k10 := f_k9.past c10
          have f_k310 := f_k39.past c10
          have f_in10 := f_in9.past c10
          have f_bel10 := f_bel9.trans (c10.mono f_bel9.size)
          have f_p10 := f_p9.past c10
          have f_c10 := f_c9.past c10
          have f_l10 := f_l9.past c10
          have f_pa10 := f_pa9.past c10
          have f_pb10 := f_pb9.past c10
          have f_x10 := f_x9.past c10 f_x9.lt
          have f_y10 := f_y9.past c10 f_y9.lt
          have f_zB10 := Nat.le_trans f_zB9 c10.size
          clear f_r9 f_q9 f_m9 f_k9 f_k39 f_in9 f_bel9 f_p9 f_c9 f_l9 f_pa9 f_pb9 f_x9 f_y9 f_zB9 c10
          refine pt_step rfl ?_
          go_wp2_with fail
          refine (HVB.out _ f_m10 f_c10 f_p10 f_k310 f_in10).mono ?_
          rintro e t11 ⟨rfl, c11⟩
          go_wp2_with fail
          refine ⟨rfl, c11.mono f_zB10, ?_⟩
          have f_r11 := f_r10.past c11 f_r10.lt
          have f_q11 := f_q10.past c11 f_q10.lt
          have f_m11 := f_m10.past c11
          have f_k11 := f_k10.past c11
          have f_k311 := f_k310.past c11
          have f_in11 := f_in10.past c11
          have f_bel11 := f_bel10.trans (c11.mono f_bel10.size)
          have f_p11 := f_p10.past c11
          have f_c11 := f_c10.past c11
          have f_l11 := f_l10.past c11
          have f_pa11 := f_pa10.past c11
          have f_pb11 := f_pb10.past c11
          have f_x11 := f_x10.past c11 f_x10.lt
          have f_y11 := f_y10.past c11 f_y10.lt
          have f_zB11 := Nat.le_trans f_zB10 c11.size
          clear f_r10 f_q10 f_m10 f_k10 f_k310 f_in10 f_bel10 f_p10 f_c10 f_l10 f_pa10 f_pb10 f_x10 f_y10 f_zB10 c11
          first | refine pt_skip rfl rfl rfl rfl ?_ | (refine pt_take rfl rfl rfl rfl ?_; apply Exists.intro; refine ⟨fun w' hw' => ?_, ?_⟩; focus ((repeat (first | go_skip | go_guarded | go_step | go_upon | go_back)); exact ⟨rfl, rfl, rfl⟩))
          first | refine pt_skip rfl rfl rfl rfl ?_ | (refine pt_take rfl rfl rfl rfl ?_; apply Exists.intro; refine ⟨fun w' hw' => ?_, ?_⟩; focus ((repeat (first | go_skip | go_guarded | go_step | go_upon | go_back)); exact ⟨rfl, rfl, rfl⟩))
          first | refine pt_skip rfl rfl rfl rfl ?_ | (refine pt_take rfl rfl rfl rfl ?_; apply Exists.intro; refine ⟨fun w' hw' => ?_, ?_⟩; focus ((repeat (first | go_skip | go_guarded | go_step | go_upon | go_back)); exact ⟨rfl, rfl, rfl⟩))
          change Exit.then _ _ Exit.normal _ _
          go_wp2
          go_ret
          rw [HGR.out] at *
          refine ⟨?_, f_bel11⟩
          first | rfl | (cases Q <;> rfl)
        · skip
          go_wp2
          go_ret
          rw [HGR.out] at *
          exact ⟨rfl, f_bel1⟩
      · skip
        go_wp2
        go_ret
        rw [HGR.out] at *
        exact ⟨rfl, f_bel1⟩
    · skip
      go_wp2
      go_ret
      rw [HGR.out] at *
      exact ⟨rfl, f_bel1⟩
  · skip
    go_wp2
    go_ret
    rw [HGR.out] at *
    exact ⟨rfl, f_bel1⟩
end Go.Proofs.YtccepoeenkpifaaDoor
