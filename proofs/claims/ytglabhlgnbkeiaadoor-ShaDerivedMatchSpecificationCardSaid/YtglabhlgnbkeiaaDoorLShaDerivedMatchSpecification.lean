/-
  The walk of ShaDerivedMatchSpecification.
-/
import Derived.Test.YtglabhlgnbkeiaaDoorShM
import Derived.Test.YtglabhlgnbkeiaaDoorOpA
import Derived.Test.YtglabhlgnbkeiaaDoorSrJ
namespace Go.Proofs.YtglabhlgnbkeiaaDoor
open Go.RowKit
set_option linter.unusedVariables false
set_option linter.unusedSimpArgs false

attribute [local irreducible] Sha.sum Sha.tag Sha.chain

set_option maxRecDepth 100000 in
set_option maxHeartbeats 4000000 in
theorem shaDerivedMatchSpecification_walk (t : List UInt8) (v : Value) (l x y : List UInt8) (n : Int) (W : World) (ht : t.length ≤ maxLen) (hv : Bs W W.heap.size v l) (hx : x.length = 32) (hy : y.length = 32) (hn : -9223372036854775808 ≤ n ∧ n ≤ 9223372036854775807)
    (hk : KIs 2 W) (hi : InIs 0 W) (hr : KIs 1 W) :
    Calls Tryd.prog 4 #[str t, v, .agg (u8s x).toArray, .agg (u8s y).toArray, .int .i64 n] W fun e w' => e = .returned (.bool true) ∧ Below W.heap.size W w' := by
  obtain ⟨A, cap, rfl⟩ := hv.form
  have hlm : l.length ≤ maxLen := by
    obtain ⟨_, _, e, h1, h2, _⟩ := hv
    omega
  unfold maxLen at ht hlm
  unfold str
  have HX := Lib.hid hx
  have HY := Lib.hid hy
  have HUX := Lib.hid (show (u8s x).length = 32 by rw [u8s_length, hx])
  have HUY := Lib.hid (show (u8s y).length = 32 by rw [u8s_length, hy])
  obtain ⟨hn0, hn1⟩ := hn
  obtain ⟨W0, hW0⟩ : ∃ W0, W0 = (W.alloc (.cells (u8s x).toArray 25)).alloc (.cells (u8s y).toArray 25) := ⟨_, rfl⟩
  have bl0 : Below W.heap.size W W0 := by rw [hW0]; exact ((Below.refl _ _).alloc (Nat.le_refl _) _).alloc (by simp) _
  have hx0 : Blk W0 W.heap.size 25 (u8s x) := by
    rw [hW0]
    exact (Blk.new W _ _).past ((Below.refl _ _).alloc (Nat.le_refl _) _) (by simp)
  have hy0 : Blk W0 (W.heap.size + 1) 25 (u8s y) := by
    have h := Blk.new (W.alloc (.cells (u8s x).toArray 25)) 25 (u8s y)
    rw [World.size_alloc] at h
    rw [hW0]; exact h
  have hv0 := hv.past bl0
  have hk0 := hk.past bl0
  have hi0 := hi.past bl0
  have hr0 := hr.past bl0
  have HW0 := Lib.hid hW0
  clear hW0 hx hy hv hk hi hr
  by_cases h1 : (600 : Int) < (t.length : Int)
  · go_enter Tryd.func4, Tryd.ntmps4
    go_wp2_with fail
    rw [← HW0.out]
    refine (sane_any W0 hr0).mono ?_
    rintro e w1 ⟨rfl, b1⟩
    go_wp2
    go_ret
    exact ⟨rfl, bl0.trans (b1.mono bl0.size)⟩
  · by_cases h2 : (600 : Int) < (l.length : Int)
    · go_enter Tryd.func4, Tryd.ntmps4
      go_wp2_with fail
      rw [← HW0.out]
      refine (sane_any W0 hr0).mono ?_
      rintro e w1 ⟨rfl, b1⟩
      go_wp2
      go_ret
      exact ⟨rfl, bl0.trans (b1.mono bl0.size)⟩
    · by_cases h3 : (60 : Int) < n
      · go_enter Tryd.func4, Tryd.ntmps4
        go_wp2_with fail
        rw [← HW0.out]
        refine (sane_any W0 hr0).mono ?_
        rintro e w1 ⟨rfl, b1⟩
        go_wp2
        go_ret
        exact ⟨rfl, bl0.trans (b1.mono bl0.size)⟩
      · go_enter Tryd.func4, Tryd.ntmps4
        go_wp2_with fail
        rw [← HW0.out]
        refine (sane_any W0 hr0).mono ?_
        rintro e w1 ⟨rfl, b1⟩
        have hx1 := hx0.past b1 hx0.lt
        have hy1 := hy0.past b1 hy0.lt
        have hv1 := hv0.past b1
        have hk1 := hk0.past b1
        have hi1 := hi0.past b1
        have hr1 := hr0.past b1
        have bl1 := bl0.trans (b1.mono bl0.size)
        clear hx0 hy0 hv0 hk0 hi0 hr0 bl0 b1
        go_upto_region 5 with (fail)
        have HB : Hid (t.length ≤ 600 ∧ l.length ≤ 600 ∧ n ≤ 60 ∧ -9223372036854775808 ≤ n) := Lib.hid (by omega)
        have hxb := hx1.lt
        have hyb := hy1.lt
        clear h1 h2 h3 hn0 hn1 ht hlm
        refine wp_region_pt w1.heap.size (.take 0 (.take 1 (.take 3 (.take 4 (.step 2 (.step 5 (.take 6 (.take 7 (.take 8 (.take 9 (.take 11 (.take 12 (.step 10 (.step 13 (.take 14 (.take 15 (.take 16 (.take 17 (.take 18 (.take 20 (.take 21 (.step 19 (.step 22 (.take 23 (.take 24 (.take 25 .done)))))))))))))))))))))))))) (by kernel_rfl) (by kernel_rfl) (by kernel_rfl) (fun _ _ h => h) ?_
        obtain ⟨w2, hw2⟩ : ∃ w2, w2 = w1.drew := ⟨_, rfl⟩
        have hbd : Below w1.heap.size w1 w2 := by rw [hw2]; exact (Below.refl _ _).drew
        have hx2 := hx1.past hbd hx1.lt
        have hy2 := hy1.past hbd hy1.lt
        have hv2 := hv1.past hbd
        have hk2 := hk1.past hbd
        have hi2 := hi1.past hbd
        have hr2 := hr1.past hbd
        have bl2 := bl1.trans (hbd.mono bl1.size)
        have z2 := hbd.size
        rw [← hw2]
        clear hw2 hbd hx1 hy1 hv1 hk1 hi1 hr1 bl1
        first | refine pt_skip rfl rfl rfl rfl ?_ | (refine pt_take rfl rfl rfl rfl ?_; apply Exists.intro; refine ⟨fun w' hw' => ?_, ?_⟩; focus ((repeat (first | go_skip | go_guarded | go_step | go_upon | go_back)); exact ⟨rfl, rfl, rfl⟩))
        first | refine pt_skip rfl rfl rfl rfl ?_ | (refine pt_take rfl rfl rfl rfl ?_; apply Exists.intro; refine ⟨fun w' hw' => ?_, ?_⟩; focus ((repeat (first | go_skip | go_guarded | go_step | go_upon | go_back)); exact ⟨rfl, rfl, rfl⟩))
        first | refine pt_skip rfl rfl rfl rfl ?_ | (refine pt_take rfl rfl rfl rfl ?_; apply Exists.intro; refine ⟨fun w' hw' => ?_, ?_⟩; focus ((repeat (first | go_skip | go_guarded | go_step | go_upon | go_back)); exact ⟨rfl, rfl, rfl⟩))
        first | refine pt_skip rfl rfl rfl rfl ?_ | (refine pt_take rfl rfl rfl rfl ?_; apply Exists.intro; refine ⟨fun w' hw' => ?_, ?_⟩; focus ((repeat (first | go_skip | go_guarded | go_step | go_upon | go_back)); exact ⟨rfl, rfl, rfl⟩))
        refine pt_step rfl ?_
        go_wp2_with fail
        refine (tagged_any (.slice A l.length cap) t l w2 hv2 hr2 (by have := HB.out; omega) (by have := HB.out; omega)).mono ?_
        rintro e w3 ⟨rfl, b3⟩
        go_wp2_with fail
        refine ⟨rfl, b3.mono z2, ?_⟩
        have hx3 := hx2.past b3 hx2.lt
        have hy3 := hy2.past b3 hy2.lt
        have hv3 := hv2.past b3
        have hk3 := hk2.past b3
        have hi3 := hi2.past b3
        have hr3 := hr2.past b3
        have bl3 := bl2.trans (b3.mono bl2.size)
        have z3 := Nat.le_trans z2 b3.size
        clear hx2 hy2 hv2 hk2 hi2 hr2 bl2 z2 b3
        refine pt_step rfl ?_
        go_wp2_with fail
        refine (rtagged_any (.slice A l.length cap) t l w3 hv3 hk3 hi3 (by have := HB.out; omega) (by have := HB.out; omega)).mono ?_
        rintro e w4 ⟨rfl, b4⟩
        go_wp2_with fail
        refine ⟨rfl, b4.mono z3, ?_⟩
        have hx4 := hx3.past b4 hx3.lt
        have hy4 := hy3.past b4 hy3.lt
        have hv4 := hv3.past b4
        have hk4 := hk3.past b4
        have hi4 := hi3.past b4
        have hr4 := hr3.past b4
        have bl4 := bl3.trans (b4.mono bl3.size)
        have z4 := Nat.le_trans z3 b4.size
        clear hx3 hy3 hv3 hk3 hi3 hr3 bl3 z3 b4
        refine pt_take rfl rfl rfl rfl ?_
        apply Exists.intro
        refine ⟨fun w' hw' => ?_, ?_⟩
        · refine wp_run rfl (exec_eqT rfl (Sha.tag t l) (Sha.tag t l) rfl rfl rfl (Sha.tag_len _ _) (Sha.tag_len _ _) w') ?_
          exact ⟨rfl, rfl, rfl⟩
        first | refine pt_skip rfl rfl rfl rfl ?_ | (refine pt_take rfl rfl rfl rfl ?_; apply Exists.intro; refine ⟨fun w' hw' => ?_, ?_⟩; focus ((repeat (first | go_skip | go_guarded | go_step | go_upon | go_back)); exact ⟨rfl, rfl, rfl⟩))
        refine pt_take rfl rfl rfl rfl ?_
        apply Exists.intro
        refine ⟨fun w' hw' => ?_, ?_⟩
        · refine wp_run rfl (exec_loadA 25 rfl _ rfl 25 _ 32 5 (hx4.past hw' hxb) Tryd.underlying25 (by rw [info_dig, HUX.out])) ?_
          exact ⟨rfl, rfl, rfl⟩
        refine pt_take rfl rfl rfl rfl ?_
        apply Exists.intro
        refine ⟨fun w' hw' => ?_, ?_⟩
        · refine wp_run rfl (exec_loadA 25 rfl _ rfl 25 _ 32 5 (hy4.past hw' hyb) Tryd.underlying25 (by rw [info_dig, HUY.out])) ?_
          exact ⟨rfl, rfl, rfl⟩
        refine pt_take rfl rfl rfl rfl ?_
        apply Exists.intro
        refine ⟨fun w' hw' => ?_, ?_⟩
        · refine wp_run rfl (exec_loadA 25 rfl _ rfl 25 _ 32 5 (hx4.past hw' hxb) Tryd.underlying25 (by rw [info_dig, HUX.out])) ?_
          exact ⟨rfl, rfl, rfl⟩
        refine pt_take rfl rfl rfl rfl ?_
        apply Exists.intro
        refine ⟨fun w' hw' => ?_, ?_⟩
        · refine wp_run rfl (exec_loadA 25 rfl _ rfl 25 _ 32 5 (hy4.past hw' hyb) Tryd.underlying25 (by rw [info_dig, HUY.out])) ?_
          exact ⟨rfl, rfl, rfl⟩
        refine pt_step rfl ?_
        go_wp2_with fail
        refine (pair_any x y w4 HX.out HY.out hr4).mono ?_
        rintro e w5 ⟨rfl, b5⟩
        go_wp2_with fail
        refine ⟨rfl, b5.mono z4, ?_⟩
        have hx5 := hx4.past b5 hx4.lt
        have hy5 := hy4.past b5 hy4.lt
        have hv5 := hv4.past b5
        have hk5 := hk4.past b5
        have hi5 := hi4.past b5
        have hr5 := hr4.past b5
        have bl5 := bl4.trans (b5.mono bl4.size)
        have z5 := Nat.le_trans z4 b5.size
        clear hx4 hy4 hv4 hk4 hi4 hr4 bl4 z4 b5
        refine pt_step rfl ?_
        go_wp2_with fail
        refine (rpair_any x y w5 HX.out HY.out hk5 hi5).mono ?_
        rintro e w6 ⟨rfl, b6⟩
        go_wp2_with fail
        refine ⟨rfl, b6.mono z5, ?_⟩
        have hx6 := hx5.past b6 hx5.lt
        have hy6 := hy5.past b6 hy5.lt
        have hv6 := hv5.past b6
        have hk6 := hk5.past b6
        have hi6 := hi5.past b6
        have hr6 := hr5.past b6
        have bl6 := bl5.trans (b6.mono bl5.size)
        have z6 := Nat.le_trans z5 b6.size
        clear hx5 hy5 hv5 hk5 hi5 hr5 bl5 z5 b6
        refine pt_take rfl rfl rfl rfl ?_
        apply Exists.intro
        refine ⟨fun w' hw' => ?_, ?_⟩
        · refine wp_run rfl (exec_eqT rfl (Sha.tag Sha.pairT (x ++ y)) (Sha.tag Sha.pairT (x ++ y)) rfl rfl rfl (Sha.tag_len _ _) (Sha.tag_len _ _) w') ?_
          exact ⟨rfl, rfl, rfl⟩
        first | refine pt_skip rfl rfl rfl rfl ?_ | (refine pt_take rfl rfl rfl rfl ?_; apply Exists.intro; refine ⟨fun w' hw' => ?_, ?_⟩; focus ((repeat (first | go_skip | go_guarded | go_step | go_upon | go_back)); exact ⟨rfl, rfl, rfl⟩))
        first | refine pt_skip rfl rfl rfl rfl ?_ | (refine pt_take rfl rfl rfl rfl ?_; apply Exists.intro; refine ⟨fun w' hw' => ?_, ?_⟩; focus ((repeat (first | go_skip | go_guarded | go_step | go_upon | go_back)); exact ⟨rfl, rfl, rfl⟩))
        refine pt_take rfl rfl rfl rfl ?_
        apply Exists.intro
        refine ⟨fun w' hw' => ?_, ?_⟩
        · refine wp_run rfl (exec_loadA 25 rfl _ rfl 25 _ 32 5 (hx6.past hw' hxb) Tryd.underlying25 (by rw [info_dig, HUX.out])) ?_
          exact ⟨rfl, rfl, rfl⟩
        first | refine pt_skip rfl rfl rfl rfl ?_ | (refine pt_take rfl rfl rfl rfl ?_; apply Exists.intro; refine ⟨fun w' hw' => ?_, ?_⟩; focus ((repeat (first | go_skip | go_guarded | go_step | go_upon | go_back)); exact ⟨rfl, rfl, rfl⟩))
        refine pt_take rfl rfl rfl rfl ?_
        apply Exists.intro
        refine ⟨fun w' hw' => ?_, ?_⟩
        · refine wp_run rfl (exec_loadA 25 rfl _ rfl 25 _ 32 5 (hx6.past hw' hxb) Tryd.underlying25 (by rw [info_dig, HUX.out])) ?_
          exact ⟨rfl, rfl, rfl⟩
        first | refine pt_skip rfl rfl rfl rfl ?_ | (refine pt_take rfl rfl rfl rfl ?_; apply Exists.intro; refine ⟨fun w' hw' => ?_, ?_⟩; focus ((repeat (first | go_skip | go_guarded | go_step | go_upon | go_back)); exact ⟨rfl, rfl, rfl⟩))
        refine pt_step rfl ?_
        go_wp2_with fail
        refine (chain_any x n w6 HX.out (by have := HB.out; omega) (by have := HB.out; omega) hr6).mono ?_
        rintro e w7 ⟨rfl, b7⟩
        go_wp2_with fail
        refine ⟨rfl, b7.mono z6, ?_⟩
        have hx7 := hx6.past b7 hx6.lt
        have hy7 := hy6.past b7 hy6.lt
        have hv7 := hv6.past b7
        have hk7 := hk6.past b7
        have hi7 := hi6.past b7
        have hr7 := hr6.past b7
        have bl7 := bl6.trans (b7.mono bl6.size)
        have z7 := Nat.le_trans z6 b7.size
        clear hx6 hy6 hv6 hk6 hi6 hr6 bl6 z6 b7
        refine pt_step rfl ?_
        go_wp2_with fail
        refine (rchain_any x n w7 HX.out (by have := HB.out; omega) (by have := HB.out; omega) hk7 hi7).mono ?_
        rintro e w8 ⟨rfl, b8⟩
        go_wp2_with fail
        refine ⟨rfl, b8.mono z7, ?_⟩
        have hx8 := hx7.past b8 hx7.lt
        have hy8 := hy7.past b8 hy7.lt
        have hv8 := hv7.past b8
        have hk8 := hk7.past b8
        have hi8 := hi7.past b8
        have hr8 := hr7.past b8
        have bl8 := bl7.trans (b8.mono bl7.size)
        have z8 := Nat.le_trans z7 b8.size
        clear hx7 hy7 hv7 hk7 hi7 hr7 bl7 z7 b8
        refine pt_take rfl rfl rfl rfl ?_
        apply Exists.intro
        refine ⟨fun w' hw' => ?_, ?_⟩
        · refine wp_run rfl (exec_eqT rfl (Sha.chain x n.toNat) (Sha.chain x n.toNat) rfl rfl rfl (Sha.chain_len HX.out _) (Sha.chain_len HX.out _) w') ?_
          exact ⟨rfl, rfl, rfl⟩
        first | refine pt_skip rfl rfl rfl rfl ?_ | (refine pt_take rfl rfl rfl rfl ?_; apply Exists.intro; refine ⟨fun w' hw' => ?_, ?_⟩; focus ((repeat (first | go_skip | go_guarded | go_step | go_upon | go_back)); exact ⟨rfl, rfl, rfl⟩))
        first | refine pt_skip rfl rfl rfl rfl ?_ | (refine pt_take rfl rfl rfl rfl ?_; apply Exists.intro; refine ⟨fun w' hw' => ?_, ?_⟩; focus ((repeat (first | go_skip | go_guarded | go_step | go_upon | go_back)); exact ⟨rfl, rfl, rfl⟩))
        change Exit.then _ _ Exit.normal _ _
        go_wp2
        go_ret
        exact ⟨rfl, bl8⟩
end Go.Proofs.YtglabhlgnbkeiaaDoor
