/-
  The walk of ShaChainsCompose.
-/
import Derived.Test.YtglabhlgnbkeiaaDoorShM
import Derived.Test.YtglabhlgnbkeiaaDoorOpA
namespace Go.Proofs.YtglabhlgnbkeiaaDoor
open Go.RowKit
set_option linter.unusedVariables false
set_option linter.unusedSimpArgs false

theorem chain_neg (x : List UInt8) {n : Int} (h : n < 0) : Sha.chain x n.toNat = x := by rw [show n.toNat = 0 by omega]; rfl
theorem chain_sum (x : List UInt8) {a b : Int} (ha : ¬ a < 0) (hb : ¬ b < 0) : Sha.chain (Sha.chain x a.toNat) b.toNat = Sha.chain x (a + b).toNat := by
  rw [show (a + b).toNat = a.toNat + b.toNat by omega, Sha.chain_add]

attribute [local irreducible] Sha.sum Sha.tag Sha.chain

set_option maxRecDepth 100000 in
set_option maxHeartbeats 2000000 in
theorem shaChainsCompose_walk (x : List UInt8) (a b : Int) (W : World) (hx : x.length = 32) (ha : -9223372036854775808 ≤ a ∧ a ≤ 9223372036854775807) (hb : -9223372036854775808 ≤ b ∧ b ≤ 9223372036854775807) (hk : KIs 1 W) :
    Calls Tryd.prog 9 #[.agg (u8s x).toArray, .int .i64 a, .int .i64 b] W fun e w' => e = .returned (.bool true) ∧ Below W.heap.size W w' := by
  have HX := Lib.hid hx
  have ux : (u8s x).length = 32 := by rw [u8s_length, hx]
  have HUX := Lib.hid ux
  clear ux
  obtain ⟨ha1, ha2⟩ := ha
  obtain ⟨hb1, hb2⟩ := hb
  obtain ⟨W0, hW0⟩ : ∃ W0, W0 = W.alloc (.cells (u8s x).toArray 25) := ⟨_, rfl⟩
  have bl0 : Below W.heap.size W W0 := by rw [hW0]; exact (Below.refl _ _).alloc (Nat.le_refl _) _
  have hx0 : Blk W0 W.heap.size 25 (u8s x) := by
    rw [hW0]
    exact Blk.new W _ _
  have hk0 := hk.past bl0
  have HW0 := Lib.hid hW0
  clear hW0 hx
  by_cases h1 : a < 0
  · go_enter Tryd.func9, Tryd.ntmps9
    go_wp2_with fail
    rw [← HW0.out]
    refine (sane_any W0 hk0).mono ?_
    rintro e w1 ⟨rfl, b1⟩
    have hx1 := hx0.past b1 hx0.lt
    have hk1 := hk0.past b1
    have bl1 := bl0.trans (b1.mono bl0.size)
    clear hx0 hk0 bl0 b1
    go_upto_region 4 with (fail)
    have hxb := hx1.lt
    refine wp_region_pt w1.heap.size (.take 0 (.take 1 (.take 2 (.take 5 (.step 3 (.step 4 (.take 6 (.take 7 .done)))))))) (by kernel_rfl) (by kernel_rfl) (by kernel_rfl) (fun _ _ h => h) ?_
    obtain ⟨w0, hw0⟩ : ∃ w0, w0 = w1.drew := ⟨_, rfl⟩
    have hx0 : Blk w0 W.heap.size 25 (u8s x) := by rw [hw0]; exact hx1.drew
    have hk0 : KIs 1 w0 := by rw [hw0]; exact hk1.past (Below.refl _ _).drew
    have bl0 : Below W.heap.size W w0 := by rw [hw0]; exact bl1.drew
    have z0 : w1.heap.size ≤ w0.heap.size := by rw [hw0]; exact (Below.refl w1.heap.size w1).drew.size
    rw [← hw0]
    clear hw0 hx1 hk1 bl1
    refine pt_take rfl rfl rfl rfl ?_
    apply Exists.intro
    refine ⟨fun w' hw' => ?_, ?_⟩
    · refine wp_run rfl (exec_loadA 25 rfl _ rfl 25 _ 32 5 (hx0.past hw' hxb) Tryd.underlying25 (by rw [info_dig, HUX.out])) ?_
      exact ⟨rfl, rfl, rfl⟩
    first | refine pt_skip rfl rfl rfl rfl ?_ | (refine pt_take rfl rfl rfl rfl ?_; apply Exists.intro; refine ⟨fun w' hw' => ?_, ?_⟩; focus (go_wp2; exact ⟨rfl, rfl, rfl⟩))
    first | refine pt_skip rfl rfl rfl rfl ?_ | (refine pt_take rfl rfl rfl rfl ?_; apply Exists.intro; refine ⟨fun w' hw' => ?_, ?_⟩; focus (go_wp2; exact ⟨rfl, rfl, rfl⟩))
    refine pt_take rfl rfl rfl rfl ?_
    apply Exists.intro
    refine ⟨fun w' hw' => ?_, ?_⟩
    · refine wp_run rfl (exec_loadA 25 rfl _ rfl 25 _ 32 5 (hx0.past hw' hxb) Tryd.underlying25 (by rw [info_dig, HUX.out])) ?_
      exact ⟨rfl, rfl, rfl⟩
    refine pt_step rfl ?_
    go_wp2_with fail
    · have HM : Hid (-9223372036854775808 ≤ b ∧ b ≤ 40) := Lib.hid (by omega)
      have HNEG : Hid (Sha.chain x (b).toNat = x) := Lib.hid (chain_neg x (by omega))
      refine ⟨rfl, Below.refl _ _, ?_⟩
      refine pt_step rfl ?_
      go_wp2_with fail
      refine (chain_any x b w0 HX.out (by have := HM.out; omega) (by have := HM.out; omega) hk0).mono ?_
      rintro e w2 ⟨rfl, b2⟩
      go_wp2_with fail
      refine ⟨rfl, b2.mono z0, ?_⟩
      have bl2 := bl0.trans (b2.mono bl0.size)
      clear hx0 hk0 bl0 z0 b2
      refine pt_take rfl rfl rfl rfl ?_
      apply Exists.intro
      refine ⟨fun w' hw' => ?_, ?_⟩
      · refine wp_run rfl (exec_eqT rfl (Sha.chain x b.toNat) x rfl rfl HNEG.out (Sha.chain_len HX.out _) HX.out w') ?_
        exact ⟨rfl, rfl, rfl⟩
      first | refine pt_skip rfl rfl rfl rfl ?_ | (refine pt_take rfl rfl rfl rfl ?_; apply Exists.intro; refine ⟨fun w' hw' => ?_, ?_⟩; focus (go_wp2; exact ⟨rfl, rfl, rfl⟩))
      change Exit.then _ _ Exit.normal _ _
      go_wp2
      go_ret
      exact ⟨rfl, bl2⟩
    · have HM : Hid (-9223372036854775808 ≤ a ∧ a ≤ 40) := Lib.hid (by omega)
      have HNEG : Hid (Sha.chain x (a).toNat = x) := Lib.hid (chain_neg x (by omega))
      refine ⟨rfl, Below.refl _ _, ?_⟩
      refine pt_step rfl ?_
      go_wp2_with fail
      refine (chain_any x a w0 HX.out (by have := HM.out; omega) (by have := HM.out; omega) hk0).mono ?_
      rintro e w2 ⟨rfl, b2⟩
      go_wp2_with fail
      refine ⟨rfl, b2.mono z0, ?_⟩
      have bl2 := bl0.trans (b2.mono bl0.size)
      clear hx0 hk0 bl0 z0 b2
      refine pt_take rfl rfl rfl rfl ?_
      apply Exists.intro
      refine ⟨fun w' hw' => ?_, ?_⟩
      · refine wp_run rfl (exec_eqT rfl (Sha.chain x a.toNat) x rfl rfl HNEG.out (Sha.chain_len HX.out _) HX.out w') ?_
        exact ⟨rfl, rfl, rfl⟩
      first | refine pt_skip rfl rfl rfl rfl ?_ | (refine pt_take rfl rfl rfl rfl ?_; apply Exists.intro; refine ⟨fun w' hw' => ?_, ?_⟩; focus (go_wp2; exact ⟨rfl, rfl, rfl⟩))
      change Exit.then _ _ Exit.normal _ _
      go_wp2
      go_ret
      exact ⟨rfl, bl2⟩
  · by_cases h2 : b < 0
    · go_enter Tryd.func9, Tryd.ntmps9
      go_wp2_with fail
      rw [← HW0.out]
      refine (sane_any W0 hk0).mono ?_
      rintro e w1 ⟨rfl, b1⟩
      have hx1 := hx0.past b1 hx0.lt
      have hk1 := hk0.past b1
      have bl1 := bl0.trans (b1.mono bl0.size)
      clear hx0 hk0 bl0 b1
      go_upto_region 4 with (fail)
      have hxb := hx1.lt
      refine wp_region_pt w1.heap.size (.take 0 (.take 1 (.take 2 (.take 5 (.step 3 (.step 4 (.take 6 (.take 7 .done)))))))) (by kernel_rfl) (by kernel_rfl) (by kernel_rfl) (fun _ _ h => h) ?_
      obtain ⟨w0, hw0⟩ : ∃ w0, w0 = w1.drew := ⟨_, rfl⟩
      have hx0 : Blk w0 W.heap.size 25 (u8s x) := by rw [hw0]; exact hx1.drew
      have hk0 : KIs 1 w0 := by rw [hw0]; exact hk1.past (Below.refl _ _).drew
      have bl0 : Below W.heap.size W w0 := by rw [hw0]; exact bl1.drew
      have z0 : w1.heap.size ≤ w0.heap.size := by rw [hw0]; exact (Below.refl w1.heap.size w1).drew.size
      rw [← hw0]
      clear hw0 hx1 hk1 bl1
      refine pt_take rfl rfl rfl rfl ?_
      apply Exists.intro
      refine ⟨fun w' hw' => ?_, ?_⟩
      · refine wp_run rfl (exec_loadA 25 rfl _ rfl 25 _ 32 5 (hx0.past hw' hxb) Tryd.underlying25 (by rw [info_dig, HUX.out])) ?_
        exact ⟨rfl, rfl, rfl⟩
      first | refine pt_skip rfl rfl rfl rfl ?_ | (refine pt_take rfl rfl rfl rfl ?_; apply Exists.intro; refine ⟨fun w' hw' => ?_, ?_⟩; focus (go_wp2; exact ⟨rfl, rfl, rfl⟩))
      first | refine pt_skip rfl rfl rfl rfl ?_ | (refine pt_take rfl rfl rfl rfl ?_; apply Exists.intro; refine ⟨fun w' hw' => ?_, ?_⟩; focus (go_wp2; exact ⟨rfl, rfl, rfl⟩))
      refine pt_take rfl rfl rfl rfl ?_
      apply Exists.intro
      refine ⟨fun w' hw' => ?_, ?_⟩
      · refine wp_run rfl (exec_loadA 25 rfl _ rfl 25 _ 32 5 (hx0.past hw' hxb) Tryd.underlying25 (by rw [info_dig, HUX.out])) ?_
        exact ⟨rfl, rfl, rfl⟩
      refine pt_step rfl ?_
      go_wp2_with fail
      · have HM : Hid (-9223372036854775808 ≤ b ∧ b ≤ 40) := Lib.hid (by omega)
        have HNEG : Hid (Sha.chain x (b).toNat = x) := Lib.hid (chain_neg x (by omega))
        refine ⟨rfl, Below.refl _ _, ?_⟩
        refine pt_step rfl ?_
        go_wp2_with fail
        refine (chain_any x b w0 HX.out (by have := HM.out; omega) (by have := HM.out; omega) hk0).mono ?_
        rintro e w2 ⟨rfl, b2⟩
        go_wp2_with fail
        refine ⟨rfl, b2.mono z0, ?_⟩
        have bl2 := bl0.trans (b2.mono bl0.size)
        clear hx0 hk0 bl0 z0 b2
        refine pt_take rfl rfl rfl rfl ?_
        apply Exists.intro
        refine ⟨fun w' hw' => ?_, ?_⟩
        · refine wp_run rfl (exec_eqT rfl (Sha.chain x b.toNat) x rfl rfl HNEG.out (Sha.chain_len HX.out _) HX.out w') ?_
          exact ⟨rfl, rfl, rfl⟩
        first | refine pt_skip rfl rfl rfl rfl ?_ | (refine pt_take rfl rfl rfl rfl ?_; apply Exists.intro; refine ⟨fun w' hw' => ?_, ?_⟩; focus (go_wp2; exact ⟨rfl, rfl, rfl⟩))
        change Exit.then _ _ Exit.normal _ _
        go_wp2
        go_ret
        exact ⟨rfl, bl2⟩
    · by_cases h3 : 40 < a
      · go_enter Tryd.func9, Tryd.ntmps9
        go_wp2_with fail
        rw [← HW0.out]
        refine (sane_any W0 hk0).mono ?_
        rintro e w1 ⟨rfl, b1⟩
        go_wp2
        go_ret
        exact ⟨rfl, bl0.trans (b1.mono bl0.size)⟩
      · by_cases h4 : 40 < b
        · go_enter Tryd.func9, Tryd.ntmps9
          go_wp2_with fail
          rw [← HW0.out]
          refine (sane_any W0 hk0).mono ?_
          rintro e w1 ⟨rfl, b1⟩
          go_wp2
          go_ret
          exact ⟨rfl, bl0.trans (b1.mono bl0.size)⟩
        · go_enter Tryd.func9, Tryd.ntmps9
          go_wp2_with fail
          rw [← HW0.out]
          refine (sane_any W0 hk0).mono ?_
          rintro e w1 ⟨rfl, b1⟩
          have hx1 := hx0.past b1 hx0.lt
          have hk1 := hk0.past b1
          have bl1 := bl0.trans (b1.mono bl0.size)
          clear hx0 hk0 bl0 b1
          go_upto_region 7 with (fail)
          have HSUM : Hid (Sha.chain (Sha.chain x a.toNat) b.toNat = Sha.chain x (a + b).toNat) := Lib.hid (chain_sum x (by omega) (by omega))
          have HA : Hid ((-9223372036854775808 ≤ a ∧ a ≤ 40) ∧ (-9223372036854775808 ≤ b ∧ b ≤ 40) ∧ (-9223372036854775808 ≤ a + b ∧ a + b ≤ 80)) := Lib.hid (by omega)
          have HW : Hid (IntKind.i64.wrap (a + b) = a + b) := Lib.hid (by simp [IntKind.wrap, IntKind.signed, IntKind.bits]; omega)
          have hxb := hx1.lt
          refine wp_region_pt w1.heap.size (.take 0 (.take 1 (.take 3 (.take 5 (.take 6 (.take 7 (.take 8 (.step 2 (.step 4 (.step 9 (.take 10 (.take 11 .done)))))))))))) (by kernel_rfl) (by kernel_rfl) (by kernel_rfl) (fun _ _ h => h) ?_
          obtain ⟨w0, hw0⟩ : ∃ w0, w0 = w1.drew := ⟨_, rfl⟩
          have hx0 : Blk w0 W.heap.size 25 (u8s x) := by rw [hw0]; exact hx1.drew
          have hk0 : KIs 1 w0 := by rw [hw0]; exact hk1.past (Below.refl _ _).drew
          have bl0 : Below W.heap.size W w0 := by rw [hw0]; exact bl1.drew
          have z0 : w1.heap.size ≤ w0.heap.size := by rw [hw0]; exact (Below.refl w1.heap.size w1).drew.size
          rw [← hw0]
          clear hw0 hx1 hk1 bl1
          refine pt_take rfl rfl rfl rfl ?_
          apply Exists.intro
          refine ⟨fun w' hw' => ?_, ?_⟩
          · refine wp_run rfl (exec_loadA 25 rfl _ rfl 25 _ 32 5 (hx0.past hw' hxb) Tryd.underlying25 (by rw [info_dig, HUX.out])) ?_
            exact ⟨rfl, rfl, rfl⟩
          first | refine pt_skip rfl rfl rfl rfl ?_ | (refine pt_take rfl rfl rfl rfl ?_; apply Exists.intro; refine ⟨fun w' hw' => ?_, ?_⟩; focus (go_wp2; exact ⟨rfl, rfl, rfl⟩))
          first | refine pt_skip rfl rfl rfl rfl ?_ | (refine pt_take rfl rfl rfl rfl ?_; apply Exists.intro; refine ⟨fun w' hw' => ?_, ?_⟩; focus (go_wp2; exact ⟨rfl, rfl, rfl⟩))
          refine pt_take rfl rfl rfl rfl ?_
          apply Exists.intro
          refine ⟨fun w' hw' => ?_, ?_⟩
          · refine wp_run rfl (exec_loadA 25 rfl _ rfl 25 _ 32 5 (hx0.past hw' hxb) Tryd.underlying25 (by rw [info_dig, HUX.out])) ?_
            exact ⟨rfl, rfl, rfl⟩
          first | refine pt_skip rfl rfl rfl rfl ?_ | (refine pt_take rfl rfl rfl rfl ?_; apply Exists.intro; refine ⟨fun w' hw' => ?_, ?_⟩; focus (go_wp2; exact ⟨rfl, rfl, rfl⟩))
          first | refine pt_skip rfl rfl rfl rfl ?_ | (refine pt_take rfl rfl rfl rfl ?_; apply Exists.intro; refine ⟨fun w' hw' => ?_, ?_⟩; focus (go_wp2; exact ⟨rfl, rfl, rfl⟩))
          first | refine pt_skip rfl rfl rfl rfl ?_ | (refine pt_take rfl rfl rfl rfl ?_; apply Exists.intro; refine ⟨fun w' hw' => ?_, ?_⟩; focus (go_wp2; exact ⟨rfl, rfl, rfl⟩))
          refine pt_step rfl ?_
          go_wp2_with fail
          refine (chain_any x a w0 HX.out (by have := HA.out; omega) (by have := HA.out; omega) hk0).mono ?_
          rintro e w2 ⟨rfl, b2⟩
          go_wp2_with fail
          refine ⟨rfl, b2.mono z0, ?_⟩
          have hk2 := hk0.past b2
          have bl2 := bl0.trans (b2.mono bl0.size)
          have z2 := Nat.le_trans z0 b2.size
          clear hx0 hk0 bl0 z0 b2
          refine pt_step rfl ?_
          go_wp2_with fail
          refine (chain_any (Sha.chain x a.toNat) b w2 (Sha.chain_len HX.out _) (by have := HA.out; omega) (by have := HA.out; omega) hk2).mono ?_
          rintro e w3 ⟨rfl, b3⟩
          go_wp2_with fail
          refine ⟨rfl, b3.mono z2, ?_⟩
          have hk3 := hk2.past b3
          have bl3 := bl2.trans (b3.mono bl2.size)
          have z3 := Nat.le_trans z2 b3.size
          clear hk2 bl2 z2 b3
          refine pt_step rfl ?_
          go_wp2_with fail
          refine (chain_any x (a + b) w3 HX.out (by have := HA.out; omega) (by have := HA.out; omega) hk3).mono ?_
          rintro e w4 ⟨rfl, b4⟩
          go_wp2_with fail
          refine ⟨rfl, b4.mono z3, ?_⟩
          have bl4 := bl3.trans (b4.mono bl3.size)
          clear hk3 bl3 z3 b4
          refine pt_take rfl rfl rfl rfl ?_
          apply Exists.intro
          refine ⟨fun w' hw' => ?_, ?_⟩
          · refine wp_run rfl (exec_eqT rfl (Sha.chain (Sha.chain x a.toNat) b.toNat) (Sha.chain x (a + b).toNat) rfl rfl HSUM.out (Sha.chain_len (Sha.chain_len HX.out _) _) (Sha.chain_len HX.out _) w') ?_
            exact ⟨rfl, rfl, rfl⟩
          first | refine pt_skip rfl rfl rfl rfl ?_ | (refine pt_take rfl rfl rfl rfl ?_; apply Exists.intro; refine ⟨fun w' hw' => ?_, ?_⟩; focus (go_wp2; exact ⟨rfl, rfl, rfl⟩))
          change Exit.then _ _ Exit.normal _ _
          go_wp2
          go_ret
          exact ⟨rfl, bl4⟩
end Go.Proofs.YtglabhlgnbkeiaaDoor
