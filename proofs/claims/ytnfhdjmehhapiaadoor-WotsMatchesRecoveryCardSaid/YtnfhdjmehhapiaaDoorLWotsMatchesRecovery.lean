/-
  The walk of WotsMatchesRecovery.
-/
import Derived.Test.YtnfhdjmehhapiaaDoorWtH
import Derived.Test.YtnfhdjmehhapiaaDoorWtU
import Derived.Test.YtnfhdjmehhapiaaDoorWtI
import Derived.Test.YtnfhdjmehhapiaaDoorOpD
namespace Go.Proofs.YtnfhdjmehhapiaaDoor
open Go.RowKit
set_option linter.unusedVariables false
set_option linter.unusedSimpArgs false

set_option maxRecDepth 100000 in
set_option maxHeartbeats 4000000 in
theorem wotsMatchesRecovery_walk (p d : List UInt8) (v : Value) (n : Nat) (F : List UInt8) (W : World) (hp : p.length = 32) (hd : d.length = 32) (hv : Row W W.heap.size 32 n v (u8s F)) (hk3 : KIs 2 W) (hin : InIs 1 W) (hk : KIs 0 W) :
    Calls Tryd.prog 5 #[.agg (u8s p).toArray, .agg (u8s d).toArray, v] W fun e w' => e = .returned (.bool true) ∧ Below W.heap.size W w' := by
  obtain ⟨A, cap, rfl⟩ := row_form hv
  have hnm : n ≤ 9223372036854775807 := by
    obtain ⟨A', cap', e1, h1, h2, _⟩ := hv
    unfold maxLen at h2
    omega
  have HUP := Lib.hid (show (u8s p).length = 32 by rw [u8s_length, hp])
  have HUD := Lib.hid (show (u8s d).length = 32 by rw [u8s_length, hd])
  have HP := Lib.hid hp
  have HD := Lib.hid hd
  obtain ⟨W0, hW0⟩ : ∃ W0, W0 = (W.alloc (.cells (u8s p).toArray 23)).alloc (.cells (u8s d).toArray 23) := ⟨_, rfl⟩
  have b0 : Below W.heap.size W W0 := by rw [hW0]; exact ((Below.refl _ _).alloc (Nat.le_refl _) _).alloc (by simp) _
  have hp0 : Blk W0 W.heap.size 23 (u8s p) := by
    rw [hW0]
    exact (Blk.new W _ _).past ((Below.refl _ _).alloc (Nat.le_refl _) _) (by simp)
  have hd0 : Blk W0 (W.heap.size + 1) 23 (u8s d) := by
    have h := Blk.new (W.alloc (.cells (u8s p).toArray 23)) 23 (u8s d)
    rw [World.size_alloc] at h
    rw [hW0]; exact h
  have HW := Lib.hid hW0
  have hk0 := hk.past b0
  have HV := Lib.hid hv
  have HK := Lib.hid hk
  have HK3 := Lib.hid hk3
  have HIN := Lib.hid hin
  clear hW0 hp hd hv hk hk3 hin
  by_cases hlen : n ≤ 40
  · go_enter Tryd.func5, Tryd.ntmps5
    go_upto_region 1 with (fail)
    rw [← HW.out]
    go_wp2_with fail
    refine (sane_any W0 hk0).mono ?_
    rintro e w1 ⟨rfl, b1⟩
    have hp1 := hp0.past b1 hp0.lt
    have hd1 := hd0.past b1 hd0.lt
    have bl1 := b0.trans (b1.mono b0.size)
    have hz := zero_dig
    clear hp0 hd0 hk0 b0 b1
    by_cases h18 : n = 18
    · subst h18
      have HRL := Lib.hid (Wt.rec_len d F)
      have HREC := Lib.hid (recover_yes d F (.slice A 18 cap) w1 (HV.out.past bl1) HD.out (HK.out.past bl1))
      go_wp2_with (refine wp_run rfl (exec_loadA 23 rfl (W.heap.size + 1) rfl 23 _ 32 5 hd1 Tryd.underlying23 (by rw [info_dig, HUD.out])) ?_)
      refine HREC.out.mono ?_
      rintro e w2 ⟨rfl, b2⟩
      have hp2 := hp1.past b2 hp1.lt
      have hd2 := hd1.past b2 hd1.lt
      have bl2 := bl1.trans (b2.mono bl1.size)
      have HRR := Lib.hid (rrecover_yes d F (.slice A 18 cap))
      obtain ⟨R, hR⟩ : ∃ R, R = Wt.rec_ d F := ⟨_, rfl⟩
      have HR := Lib.hid hR
      rw [← hR] at HRL HRR ⊢
      have HUR := Lib.hid (show (u8s R).length = 32 by rw [u8s_length, HRL.out])
      clear hR
      have hx2 := Blk.new w2 23 (u8s z32)
      have b23 : Below w2.heap.size w2 (w2.alloc (.cells (u8s z32).toArray 23)) := (Below.refl _ _).alloc (Nat.le_refl _) _
      clear HREC hp1 hd1 bl1 b2
      go_upto_region 6 with (refine wp_storeA 23 (.tmp 7) (.tmp 20) rfl rfl w2.heap.size rfl 23 (u8s z32) (u8s R) rfl hx2 (by rw [info_dig, HUR.out]) (by first | rfl | (rw [HUR.out]; rfl)) (u8s_one _) rfl ?_; intro w4 hx4 hk4)
      have b24 : Below w2.heap.size w2 w4 := ((Keep.of_below b23).trans (hk4.mono (O' := fun q => q < w2.heap.size) (fun q hq => by omega))).below (fun q hq => hq) (Nat.le_refl _)
      have hp4 := hp2.past b24 hp2.lt
      have hd4 := hd2.past b24 hd2.lt
      have bl4 := bl2.trans (b24.mono bl2.size)
      obtain ⟨ga, hga⟩ : ∃ ga, ga = w2.heap.size := ⟨_, rfl⟩
      rw [← hga] at hx4 ⊢
      clear hga hx2 b23 hk4 b24 hp2 hd2 bl2
      have HREC := Lib.hid (HRR.out w4 (HV.out.past bl4) HD.out (HK3.out.past bl4) (HIN.out.past bl4))
      go_wp2_with (refine wp_run rfl (exec_loadA 23 rfl (W.heap.size + 1) rfl 23 _ 32 5 hd4 Tryd.underlying23 (by rw [info_dig, HUD.out])) ?_)
      refine HREC.out.mono ?_
      rintro e w5 ⟨rfl, b5⟩
      have hp5 := hp4.past b5 hp4.lt
      have hd5 := hd4.past b5 hd4.lt
      have hx5 := hx4.past b5 hx4.lt
      have bl5 := bl4.trans (b5.mono bl4.size)
      have hy5 := Blk.new w5 23 (u8s z32)
      have b56 : Below w5.heap.size w5 (w5.alloc (.cells (u8s z32).toArray 23)) := (Below.refl _ _).alloc (Nat.le_refl _) _
      clear HREC hp4 hd4 hx4 bl4 b5
      go_upto_region 7 with (refine wp_storeA 23 (.tmp 9) (.tmp 26) rfl rfl w5.heap.size rfl 23 (u8s z32) (u8s R) rfl hy5 (by rw [info_dig, HUR.out]) (by first | rfl | (rw [HUR.out]; rfl)) (u8s_one _) rfl ?_; intro w6 hy6 hk6)
      have b66 : Below w5.heap.size w5 w6 := ((Keep.of_below b56).trans (hk6.mono (O' := fun q => q < w5.heap.size) (fun q hq => by omega))).below (fun q hq => hq) (Nat.le_refl _)
      have hp6 := hp5.past b66 hp5.lt
      have hd6 := hd5.past b66 hd5.lt
      have hx6 := hx5.past b66 hx5.lt
      have bl6 := bl5.trans (b66.mono bl5.size)
      obtain ⟨gb, hgb⟩ : ∃ gb, gb = w5.heap.size := ⟨_, rfl⟩
      rw [← hgb] at hy6 ⊢
      clear hgb hy5 b56 hk6 b66 hp5 hd5 hx5 bl5 hz
      have hpb := hp6.lt
      have hdb := hd6.lt
      have hxb := hx6.lt
      have hyb := hy6.lt
      refine wp_region_pt w6.heap.size (.take 0 (.take 1 (.take 2 (.take 3 (.take 4 (.take 5 (.take 6 (.take 7 (.take 8 (.take 9 (.take 10 (.take 11 (.take 13 (.take 14 (.take 15 (.step 12 (.step 16 (.take 17 (.take 18 (.take 19 (.take 20 (.take 21 (.take 22 (.take 24 (.take 25 (.step 23 (.take 26 (.take 27 (.take 28 .done))))))))))))))))))))))))))))) (by kernel_rfl) (by kernel_rfl) (by kernel_rfl) (fun _ _ h => h) ?_
      have bd : Below w6.heap.size w6 w6.drew := (Below.refl _ _).drew
      have hp0 := hp6.past bd hpb
      have hd0 := hd6.past bd hdb
      have hx0 := hx6.past bd hxb
      have hy0 := hy6.past bd hyb
      have bl0 := bl6.trans (bd.mono bl6.size)
      have z0 := bd.size
      obtain ⟨w0, hw0⟩ : ∃ w0, w0 = w6.drew := ⟨_, rfl⟩
      rw [← hw0] at hp0 hd0 hx0 hy0 bl0 z0 ⊢
      clear hw0 bd hp6 hd6 hx6 hy6 bl6
      have HQ : Hid ((R == R) = true) := Lib.hid (beq_self_eq_true _)
      refine pt_take rfl rfl rfl rfl ?_
      apply Exists.intro
      refine ⟨fun w' hw' => ?_, ?_⟩
      · refine wp_run rfl (exec_loadA 23 rfl _ rfl 23 _ 32 5 (hx0.past hw' hxb) Tryd.underlying23 (by rw [info_dig, HUR.out])) ?_
        exact ⟨rfl, rfl, rfl⟩
      refine pt_take rfl rfl rfl rfl ?_
      apply Exists.intro
      refine ⟨fun w' hw' => ?_, ?_⟩
      · refine wp_run rfl (exec_loadA 23 rfl _ rfl 23 _ 32 5 (hy0.past hw' hyb) Tryd.underlying23 (by rw [info_dig, HUR.out])) ?_
        exact ⟨rfl, rfl, rfl⟩
      refine pt_take rfl rfl rfl rfl ?_
      apply Exists.intro
      refine ⟨fun w' hw' => ?_, ?_⟩
      · refine wp_run rfl (exec_eqB rfl R R rfl rfl HRL.out HRL.out _ HQ.out w') ?_
        exact ⟨rfl, rfl, rfl⟩
      first | refine pt_skip rfl rfl rfl rfl ?_ | (refine pt_take rfl rfl rfl rfl ?_; apply Exists.intro; refine ⟨fun w' hw' => ?_, ?_⟩; focus ((repeat (first | go_skip | go_guarded | go_step | go_upon | go_back)); exact ⟨rfl, rfl, rfl⟩))
      first | refine pt_skip rfl rfl rfl rfl ?_ | (refine pt_take rfl rfl rfl rfl ?_; apply Exists.intro; refine ⟨fun w' hw' => ?_, ?_⟩; focus ((repeat (first | go_skip | go_guarded | go_step | go_upon | go_back)); exact ⟨rfl, rfl, rfl⟩))
      first | refine pt_skip rfl rfl rfl rfl ?_ | (refine pt_take rfl rfl rfl rfl ?_; apply Exists.intro; refine ⟨fun w' hw' => ?_, ?_⟩; focus ((repeat (first | go_skip | go_guarded | go_step | go_upon | go_back)); exact ⟨rfl, rfl, rfl⟩))
      first | refine pt_skip rfl rfl rfl rfl ?_ | (refine pt_take rfl rfl rfl rfl ?_; apply Exists.intro; refine ⟨fun w' hw' => ?_, ?_⟩; focus ((repeat (first | go_skip | go_guarded | go_step | go_upon | go_back)); exact ⟨rfl, rfl, rfl⟩))
      first | refine pt_skip rfl rfl rfl rfl ?_ | (refine pt_take rfl rfl rfl rfl ?_; apply Exists.intro; refine ⟨fun w' hw' => ?_, ?_⟩; focus ((repeat (first | go_skip | go_guarded | go_step | go_upon | go_back)); exact ⟨rfl, rfl, rfl⟩))
      first | refine pt_skip rfl rfl rfl rfl ?_ | (refine pt_take rfl rfl rfl rfl ?_; apply Exists.intro; refine ⟨fun w' hw' => ?_, ?_⟩; focus ((repeat (first | go_skip | go_guarded | go_step | go_upon | go_back)); exact ⟨rfl, rfl, rfl⟩))
      refine pt_take rfl rfl rfl rfl ?_
      apply Exists.intro
      refine ⟨fun w' hw' => ?_, ?_⟩
      · refine wp_run rfl (exec_loadA 23 rfl _ rfl 23 _ 32 5 (hp0.past hw' hpb) Tryd.underlying23 (by rw [info_dig, HUP.out])) ?_
        exact ⟨rfl, rfl, rfl⟩
      refine pt_take rfl rfl rfl rfl ?_
      apply Exists.intro
      refine ⟨fun w' hw' => ?_, ?_⟩
      · refine wp_run rfl (exec_loadA 23 rfl _ rfl 23 _ 32 5 (hd0.past hw' hdb) Tryd.underlying23 (by rw [info_dig, HUD.out])) ?_
        exact ⟨rfl, rfl, rfl⟩
      first | refine pt_skip rfl rfl rfl rfl ?_ | (refine pt_take rfl rfl rfl rfl ?_; apply Exists.intro; refine ⟨fun w' hw' => ?_, ?_⟩; focus ((repeat (first | go_skip | go_guarded | go_step | go_upon | go_back)); exact ⟨rfl, rfl, rfl⟩))
      refine pt_take rfl rfl rfl rfl ?_
      apply Exists.intro
      refine ⟨fun w' hw' => ?_, ?_⟩
      · refine wp_run rfl (exec_loadA 23 rfl _ rfl 23 _ 32 5 (hp0.past hw' hpb) Tryd.underlying23 (by rw [info_dig, HUP.out])) ?_
        exact ⟨rfl, rfl, rfl⟩
      refine pt_take rfl rfl rfl rfl ?_
      apply Exists.intro
      refine ⟨fun w' hw' => ?_, ?_⟩
      · refine wp_run rfl (exec_loadA 23 rfl _ rfl 23 _ 32 5 (hd0.past hw' hdb) Tryd.underlying23 (by rw [info_dig, HUD.out])) ?_
        exact ⟨rfl, rfl, rfl⟩
      first | refine pt_skip rfl rfl rfl rfl ?_ | (refine pt_take rfl rfl rfl rfl ?_; apply Exists.intro; refine ⟨fun w' hw' => ?_, ?_⟩; focus ((repeat (first | go_skip | go_guarded | go_step | go_upon | go_back)); exact ⟨rfl, rfl, rfl⟩))
      cases hB : (R == p)
      · have HB := Lib.hid hB
        clear hB
        have hver := verify_yes p d F (.slice A 18 cap) w0 (HV.out.past bl0) HP.out HD.out (HK.out.past bl0)
        rw [← HR.out, HB.out] at hver
        have HVR := Lib.hid hver
        clear hver
        refine pt_step rfl ?_
        go_wp2_with fail
        refine HVR.out.mono ?_
        rintro e w7 ⟨rfl, b7⟩
        go_wp2_with fail
        refine ⟨rfl, b7.mono z0, ?_⟩
        have hp7 := hp0.past b7 hp0.lt
        have hd7 := hd0.past b7 hd0.lt
        have hy7 := hy0.past b7 hy0.lt
        have bl7 := bl0.trans (b7.mono bl0.size)
        have z7 := Nat.le_trans z0 b7.size
        clear HVR hp0 hd0 hx0 hy0 bl0 z0 b7
        have hver := rverify_yes p d F (.slice A 18 cap) w7 (HV.out.past bl7) HP.out HD.out (HK3.out.past bl7) (HIN.out.past bl7)
        rw [← HR.out, HB.out] at hver
        have HVR := Lib.hid hver
        clear hver
        refine pt_step rfl ?_
        go_wp2_with fail
        refine HVR.out.mono ?_
        rintro e w8 ⟨rfl, b8⟩
        go_wp2_with fail
        refine ⟨rfl, b8.mono z7, ?_⟩
        have hd8 := hd7.past b8 hd7.lt
        have hy8 := hy7.past b8 hy7.lt
        have bl8 := bl7.trans (b8.mono bl7.size)
        have z8 := Nat.le_trans z7 b8.size
        clear HVR hp7 hd7 hy7 bl7 z7 b8
        first | refine pt_skip rfl rfl rfl rfl ?_ | (refine pt_take rfl rfl rfl rfl ?_; apply Exists.intro; refine ⟨fun w' hw' => ?_, ?_⟩; focus ((repeat (first | go_skip | go_guarded | go_step | go_upon | go_back)); exact ⟨rfl, rfl, rfl⟩))
        first | refine pt_skip rfl rfl rfl rfl ?_ | (refine pt_take rfl rfl rfl rfl ?_; apply Exists.intro; refine ⟨fun w' hw' => ?_, ?_⟩; focus ((repeat (first | go_skip | go_guarded | go_step | go_upon | go_back)); exact ⟨rfl, rfl, rfl⟩))
        first | refine pt_skip rfl rfl rfl rfl ?_ | (refine pt_take rfl rfl rfl rfl ?_; apply Exists.intro; refine ⟨fun w' hw' => ?_, ?_⟩; focus ((repeat (first | go_skip | go_guarded | go_step | go_upon | go_back)); exact ⟨rfl, rfl, rfl⟩))
        refine pt_take rfl rfl rfl rfl ?_
        apply Exists.intro
        refine ⟨fun w' hw' => ?_, ?_⟩
        · refine wp_run rfl (exec_loadA 23 rfl _ rfl 23 _ 32 5 (hy8.past hw' hyb) Tryd.underlying23 (by rw [info_dig, HUR.out])) ?_
          exact ⟨rfl, rfl, rfl⟩
        refine pt_take rfl rfl rfl rfl ?_
        apply Exists.intro
        refine ⟨fun w' hw' => ?_, ?_⟩
        · refine wp_run rfl (exec_loadA 23 rfl _ rfl 23 _ 32 5 (hd8.past hw' hdb) Tryd.underlying23 (by rw [info_dig, HUD.out])) ?_
          exact ⟨rfl, rfl, rfl⟩
        first | refine pt_skip rfl rfl rfl rfl ?_ | (refine pt_take rfl rfl rfl rfl ?_; apply Exists.intro; refine ⟨fun w' hw' => ?_, ?_⟩; focus ((repeat (first | go_skip | go_guarded | go_step | go_upon | go_back)); exact ⟨rfl, rfl, rfl⟩))
        first | refine pt_skip rfl rfl rfl rfl ?_ | (refine pt_take rfl rfl rfl rfl ?_; apply Exists.intro; refine ⟨fun w' hw' => ?_, ?_⟩; focus ((repeat (first | go_skip | go_guarded | go_step | go_upon | go_back)); exact ⟨rfl, rfl, rfl⟩))
        first | refine pt_skip rfl rfl rfl rfl ?_ | (refine pt_take rfl rfl rfl rfl ?_; apply Exists.intro; refine ⟨fun w' hw' => ?_, ?_⟩; focus ((repeat (first | go_skip | go_guarded | go_step | go_upon | go_back)); exact ⟨rfl, rfl, rfl⟩))
        have hver := verify_yes R d F (.slice A 18 cap) w8 (HV.out.past bl8) HRL.out HD.out (HK.out.past bl8)
        rw [← HR.out, HQ.out] at hver
        have HVR := Lib.hid hver
        clear hver
        refine pt_step rfl ?_
        go_wp2_with fail
        refine HVR.out.mono ?_
        rintro e w9 ⟨rfl, b9⟩
        go_wp2_with fail
        refine ⟨rfl, b9.mono z8, ?_⟩
        have bl9 := bl8.trans (b9.mono bl8.size)
        clear HVR hd8 hy8 bl8 z8 b9
        first | refine pt_skip rfl rfl rfl rfl ?_ | (refine pt_take rfl rfl rfl rfl ?_; apply Exists.intro; refine ⟨fun w' hw' => ?_, ?_⟩; focus ((repeat (first | go_skip | go_guarded | go_step | go_upon | go_back)); exact ⟨rfl, rfl, rfl⟩))
        first | refine pt_skip rfl rfl rfl rfl ?_ | (refine pt_take rfl rfl rfl rfl ?_; apply Exists.intro; refine ⟨fun w' hw' => ?_, ?_⟩; focus ((repeat (first | go_skip | go_guarded | go_step | go_upon | go_back)); exact ⟨rfl, rfl, rfl⟩))
        first | refine pt_skip rfl rfl rfl rfl ?_ | (refine pt_take rfl rfl rfl rfl ?_; apply Exists.intro; refine ⟨fun w' hw' => ?_, ?_⟩; focus ((repeat (first | go_skip | go_guarded | go_step | go_upon | go_back)); exact ⟨rfl, rfl, rfl⟩))
        change Exit.then _ _ Exit.normal _ _
        go_wp2
        go_ret
        exact ⟨rfl, bl9⟩
      · have HB := Lib.hid hB
        clear hB
        have hver := verify_yes p d F (.slice A 18 cap) w0 (HV.out.past bl0) HP.out HD.out (HK.out.past bl0)
        rw [← HR.out, HB.out] at hver
        have HVR := Lib.hid hver
        clear hver
        refine pt_step rfl ?_
        go_wp2_with fail
        refine HVR.out.mono ?_
        rintro e w7 ⟨rfl, b7⟩
        go_wp2_with fail
        refine ⟨rfl, b7.mono z0, ?_⟩
        have hp7 := hp0.past b7 hp0.lt
        have hd7 := hd0.past b7 hd0.lt
        have hy7 := hy0.past b7 hy0.lt
        have bl7 := bl0.trans (b7.mono bl0.size)
        have z7 := Nat.le_trans z0 b7.size
        clear HVR hp0 hd0 hx0 hy0 bl0 z0 b7
        have hver := rverify_yes p d F (.slice A 18 cap) w7 (HV.out.past bl7) HP.out HD.out (HK3.out.past bl7) (HIN.out.past bl7)
        rw [← HR.out, HB.out] at hver
        have HVR := Lib.hid hver
        clear hver
        refine pt_step rfl ?_
        go_wp2_with fail
        refine HVR.out.mono ?_
        rintro e w8 ⟨rfl, b8⟩
        go_wp2_with fail
        refine ⟨rfl, b8.mono z7, ?_⟩
        have hd8 := hd7.past b8 hd7.lt
        have hy8 := hy7.past b8 hy7.lt
        have bl8 := bl7.trans (b8.mono bl7.size)
        have z8 := Nat.le_trans z7 b8.size
        clear HVR hp7 hd7 hy7 bl7 z7 b8
        first | refine pt_skip rfl rfl rfl rfl ?_ | (refine pt_take rfl rfl rfl rfl ?_; apply Exists.intro; refine ⟨fun w' hw' => ?_, ?_⟩; focus ((repeat (first | go_skip | go_guarded | go_step | go_upon | go_back)); exact ⟨rfl, rfl, rfl⟩))
        first | refine pt_skip rfl rfl rfl rfl ?_ | (refine pt_take rfl rfl rfl rfl ?_; apply Exists.intro; refine ⟨fun w' hw' => ?_, ?_⟩; focus ((repeat (first | go_skip | go_guarded | go_step | go_upon | go_back)); exact ⟨rfl, rfl, rfl⟩))
        first | refine pt_skip rfl rfl rfl rfl ?_ | (refine pt_take rfl rfl rfl rfl ?_; apply Exists.intro; refine ⟨fun w' hw' => ?_, ?_⟩; focus ((repeat (first | go_skip | go_guarded | go_step | go_upon | go_back)); exact ⟨rfl, rfl, rfl⟩))
        refine pt_take rfl rfl rfl rfl ?_
        apply Exists.intro
        refine ⟨fun w' hw' => ?_, ?_⟩
        · refine wp_run rfl (exec_loadA 23 rfl _ rfl 23 _ 32 5 (hy8.past hw' hyb) Tryd.underlying23 (by rw [info_dig, HUR.out])) ?_
          exact ⟨rfl, rfl, rfl⟩
        refine pt_take rfl rfl rfl rfl ?_
        apply Exists.intro
        refine ⟨fun w' hw' => ?_, ?_⟩
        · refine wp_run rfl (exec_loadA 23 rfl _ rfl 23 _ 32 5 (hd8.past hw' hdb) Tryd.underlying23 (by rw [info_dig, HUD.out])) ?_
          exact ⟨rfl, rfl, rfl⟩
        first | refine pt_skip rfl rfl rfl rfl ?_ | (refine pt_take rfl rfl rfl rfl ?_; apply Exists.intro; refine ⟨fun w' hw' => ?_, ?_⟩; focus ((repeat (first | go_skip | go_guarded | go_step | go_upon | go_back)); exact ⟨rfl, rfl, rfl⟩))
        first | refine pt_skip rfl rfl rfl rfl ?_ | (refine pt_take rfl rfl rfl rfl ?_; apply Exists.intro; refine ⟨fun w' hw' => ?_, ?_⟩; focus ((repeat (first | go_skip | go_guarded | go_step | go_upon | go_back)); exact ⟨rfl, rfl, rfl⟩))
        first | refine pt_skip rfl rfl rfl rfl ?_ | (refine pt_take rfl rfl rfl rfl ?_; apply Exists.intro; refine ⟨fun w' hw' => ?_, ?_⟩; focus ((repeat (first | go_skip | go_guarded | go_step | go_upon | go_back)); exact ⟨rfl, rfl, rfl⟩))
        have hver := verify_yes R d F (.slice A 18 cap) w8 (HV.out.past bl8) HRL.out HD.out (HK.out.past bl8)
        rw [← HR.out, HQ.out] at hver
        have HVR := Lib.hid hver
        clear hver
        refine pt_step rfl ?_
        go_wp2_with fail
        refine HVR.out.mono ?_
        rintro e w9 ⟨rfl, b9⟩
        go_wp2_with fail
        refine ⟨rfl, b9.mono z8, ?_⟩
        have bl9 := bl8.trans (b9.mono bl8.size)
        clear HVR hd8 hy8 bl8 z8 b9
        first | refine pt_skip rfl rfl rfl rfl ?_ | (refine pt_take rfl rfl rfl rfl ?_; apply Exists.intro; refine ⟨fun w' hw' => ?_, ?_⟩; focus ((repeat (first | go_skip | go_guarded | go_step | go_upon | go_back)); exact ⟨rfl, rfl, rfl⟩))
        first | refine pt_skip rfl rfl rfl rfl ?_ | (refine pt_take rfl rfl rfl rfl ?_; apply Exists.intro; refine ⟨fun w' hw' => ?_, ?_⟩; focus ((repeat (first | go_skip | go_guarded | go_step | go_upon | go_back)); exact ⟨rfl, rfl, rfl⟩))
        first | refine pt_skip rfl rfl rfl rfl ?_ | (refine pt_take rfl rfl rfl rfl ?_; apply Exists.intro; refine ⟨fun w' hw' => ?_, ?_⟩; focus ((repeat (first | go_skip | go_guarded | go_step | go_upon | go_back)); exact ⟨rfl, rfl, rfl⟩))
        change Exit.then _ _ Exit.normal _ _
        go_wp2
        go_ret
        exact ⟨rfl, bl9⟩
    · have HREC := Lib.hid (recover_no d n A cap w1 h18 hnm)
      go_wp2_with (refine wp_run rfl (exec_loadA 23 rfl (W.heap.size + 1) rfl 23 _ 32 5 hd1 Tryd.underlying23 (by rw [info_dig, HUD.out])) ?_)
      refine HREC.out.mono ?_
      rintro e w2 ⟨rfl, b2⟩
      have hp2 := hp1.past b2 hp1.lt
      have hd2 := hd1.past b2 hd1.lt
      have bl2 := bl1.trans (b2.mono bl1.size)
      have HUR := Lib.hid (show (u8s z32).length = 32 from rfl)
      have HRL := Lib.hid (show z32.length = 32 from rfl)
      have hx2 := Blk.new w2 23 (u8s z32)
      have b23 : Below w2.heap.size w2 (w2.alloc (.cells (u8s z32).toArray 23)) := (Below.refl _ _).alloc (Nat.le_refl _) _
      clear HREC hp1 hd1 bl1 b2
      go_upto_region 6 with (refine wp_storeA 23 (.tmp 7) (.tmp 20) rfl rfl w2.heap.size rfl 23 (u8s z32) (u8s z32) rfl hx2 (by rw [info_dig, HUR.out]) (by first | rfl | (rw [HUR.out]; rfl)) (u8s_one _) rfl ?_; intro w4 hx4 hk4)
      have b24 : Below w2.heap.size w2 w4 := ((Keep.of_below b23).trans (hk4.mono (O' := fun q => q < w2.heap.size) (fun q hq => by omega))).below (fun q hq => hq) (Nat.le_refl _)
      have hp4 := hp2.past b24 hp2.lt
      have hd4 := hd2.past b24 hd2.lt
      have bl4 := bl2.trans (b24.mono bl2.size)
      obtain ⟨ga, hga⟩ : ∃ ga, ga = w2.heap.size := ⟨_, rfl⟩
      rw [← hga] at hx4 ⊢
      clear hga hx2 b23 hk4 b24 hp2 hd2 bl2
      have HREC := Lib.hid (rrecover_no d n A cap w4 h18 hnm)
      go_wp2_with (refine wp_run rfl (exec_loadA 23 rfl (W.heap.size + 1) rfl 23 _ 32 5 hd4 Tryd.underlying23 (by rw [info_dig, HUD.out])) ?_)
      refine HREC.out.mono ?_
      rintro e w5 ⟨rfl, b5⟩
      have hp5 := hp4.past b5 hp4.lt
      have hd5 := hd4.past b5 hd4.lt
      have hx5 := hx4.past b5 hx4.lt
      have bl5 := bl4.trans (b5.mono bl4.size)
      have hy5 := Blk.new w5 23 (u8s z32)
      have b56 : Below w5.heap.size w5 (w5.alloc (.cells (u8s z32).toArray 23)) := (Below.refl _ _).alloc (Nat.le_refl _) _
      clear HREC hp4 hd4 hx4 bl4 b5
      go_upto_region 7 with (refine wp_storeA 23 (.tmp 9) (.tmp 26) rfl rfl w5.heap.size rfl 23 (u8s z32) (u8s z32) rfl hy5 (by rw [info_dig, HUR.out]) (by first | rfl | (rw [HUR.out]; rfl)) (u8s_one _) rfl ?_; intro w6 hy6 hk6)
      have b66 : Below w5.heap.size w5 w6 := ((Keep.of_below b56).trans (hk6.mono (O' := fun q => q < w5.heap.size) (fun q hq => by omega))).below (fun q hq => hq) (Nat.le_refl _)
      have hp6 := hp5.past b66 hp5.lt
      have hd6 := hd5.past b66 hd5.lt
      have hx6 := hx5.past b66 hx5.lt
      have bl6 := bl5.trans (b66.mono bl5.size)
      obtain ⟨gb, hgb⟩ : ∃ gb, gb = w5.heap.size := ⟨_, rfl⟩
      rw [← hgb] at hy6 ⊢
      clear hgb hy5 b56 hk6 b66 hp5 hd5 hx5 bl5 hz
      have hpb := hp6.lt
      have hdb := hd6.lt
      have hxb := hx6.lt
      have hyb := hy6.lt
      refine wp_region_pt w6.heap.size (.take 0 (.take 1 (.take 2 (.take 3 (.take 4 (.take 5 (.take 6 (.take 7 (.take 8 (.take 9 (.take 10 (.take 11 (.take 13 (.take 14 (.take 15 (.step 12 (.step 16 (.take 17 (.take 18 (.take 19 (.take 20 (.take 21 (.take 22 (.take 24 (.take 25 (.step 23 (.take 26 (.take 27 (.take 28 .done))))))))))))))))))))))))))))) (by kernel_rfl) (by kernel_rfl) (by kernel_rfl) (fun _ _ h => h) ?_
      have bd : Below w6.heap.size w6 w6.drew := (Below.refl _ _).drew
      have hp0 := hp6.past bd hpb
      have hd0 := hd6.past bd hdb
      have hx0 := hx6.past bd hxb
      have hy0 := hy6.past bd hyb
      have bl0 := bl6.trans (bd.mono bl6.size)
      have z0 := bd.size
      obtain ⟨w0, hw0⟩ : ∃ w0, w0 = w6.drew := ⟨_, rfl⟩
      rw [← hw0] at hp0 hd0 hx0 hy0 bl0 z0 ⊢
      clear hw0 bd hp6 hd6 hx6 hy6 bl6
      have HQ : Hid ((z32 == z32) = true) := Lib.hid (beq_self_eq_true _)
      refine pt_take rfl rfl rfl rfl ?_
      apply Exists.intro
      refine ⟨fun w' hw' => ?_, ?_⟩
      · refine wp_run rfl (exec_loadA 23 rfl _ rfl 23 _ 32 5 (hx0.past hw' hxb) Tryd.underlying23 (by rw [info_dig, HUR.out])) ?_
        exact ⟨rfl, rfl, rfl⟩
      refine pt_take rfl rfl rfl rfl ?_
      apply Exists.intro
      refine ⟨fun w' hw' => ?_, ?_⟩
      · refine wp_run rfl (exec_loadA 23 rfl _ rfl 23 _ 32 5 (hy0.past hw' hyb) Tryd.underlying23 (by rw [info_dig, HUR.out])) ?_
        exact ⟨rfl, rfl, rfl⟩
      refine pt_take rfl rfl rfl rfl ?_
      apply Exists.intro
      refine ⟨fun w' hw' => ?_, ?_⟩
      · refine wp_run rfl (exec_eqB rfl z32 z32 rfl rfl HRL.out HRL.out _ HQ.out w') ?_
        exact ⟨rfl, rfl, rfl⟩
      first | refine pt_skip rfl rfl rfl rfl ?_ | (refine pt_take rfl rfl rfl rfl ?_; apply Exists.intro; refine ⟨fun w' hw' => ?_, ?_⟩; focus ((repeat (first | go_skip | go_guarded | go_step | go_upon | go_back)); exact ⟨rfl, rfl, rfl⟩))
      first | refine pt_skip rfl rfl rfl rfl ?_ | (refine pt_take rfl rfl rfl rfl ?_; apply Exists.intro; refine ⟨fun w' hw' => ?_, ?_⟩; focus ((repeat (first | go_skip | go_guarded | go_step | go_upon | go_back)); exact ⟨rfl, rfl, rfl⟩))
      first | refine pt_skip rfl rfl rfl rfl ?_ | (refine pt_take rfl rfl rfl rfl ?_; apply Exists.intro; refine ⟨fun w' hw' => ?_, ?_⟩; focus ((repeat (first | go_skip | go_guarded | go_step | go_upon | go_back)); exact ⟨rfl, rfl, rfl⟩))
      first | refine pt_skip rfl rfl rfl rfl ?_ | (refine pt_take rfl rfl rfl rfl ?_; apply Exists.intro; refine ⟨fun w' hw' => ?_, ?_⟩; focus ((repeat (first | go_skip | go_guarded | go_step | go_upon | go_back)); exact ⟨rfl, rfl, rfl⟩))
      first | refine pt_skip rfl rfl rfl rfl ?_ | (refine pt_take rfl rfl rfl rfl ?_; apply Exists.intro; refine ⟨fun w' hw' => ?_, ?_⟩; focus ((repeat (first | go_skip | go_guarded | go_step | go_upon | go_back)); exact ⟨rfl, rfl, rfl⟩))
      first | refine pt_skip rfl rfl rfl rfl ?_ | (refine pt_take rfl rfl rfl rfl ?_; apply Exists.intro; refine ⟨fun w' hw' => ?_, ?_⟩; focus ((repeat (first | go_skip | go_guarded | go_step | go_upon | go_back)); exact ⟨rfl, rfl, rfl⟩))
      refine pt_take rfl rfl rfl rfl ?_
      apply Exists.intro
      refine ⟨fun w' hw' => ?_, ?_⟩
      · refine wp_run rfl (exec_loadA 23 rfl _ rfl 23 _ 32 5 (hp0.past hw' hpb) Tryd.underlying23 (by rw [info_dig, HUP.out])) ?_
        exact ⟨rfl, rfl, rfl⟩
      refine pt_take rfl rfl rfl rfl ?_
      apply Exists.intro
      refine ⟨fun w' hw' => ?_, ?_⟩
      · refine wp_run rfl (exec_loadA 23 rfl _ rfl 23 _ 32 5 (hd0.past hw' hdb) Tryd.underlying23 (by rw [info_dig, HUD.out])) ?_
        exact ⟨rfl, rfl, rfl⟩
      first | refine pt_skip rfl rfl rfl rfl ?_ | (refine pt_take rfl rfl rfl rfl ?_; apply Exists.intro; refine ⟨fun w' hw' => ?_, ?_⟩; focus ((repeat (first | go_skip | go_guarded | go_step | go_upon | go_back)); exact ⟨rfl, rfl, rfl⟩))
      refine pt_take rfl rfl rfl rfl ?_
      apply Exists.intro
      refine ⟨fun w' hw' => ?_, ?_⟩
      · refine wp_run rfl (exec_loadA 23 rfl _ rfl 23 _ 32 5 (hp0.past hw' hpb) Tryd.underlying23 (by rw [info_dig, HUP.out])) ?_
        exact ⟨rfl, rfl, rfl⟩
      refine pt_take rfl rfl rfl rfl ?_
      apply Exists.intro
      refine ⟨fun w' hw' => ?_, ?_⟩
      · refine wp_run rfl (exec_loadA 23 rfl _ rfl 23 _ 32 5 (hd0.past hw' hdb) Tryd.underlying23 (by rw [info_dig, HUD.out])) ?_
        exact ⟨rfl, rfl, rfl⟩
      first | refine pt_skip rfl rfl rfl rfl ?_ | (refine pt_take rfl rfl rfl rfl ?_; apply Exists.intro; refine ⟨fun w' hw' => ?_, ?_⟩; focus ((repeat (first | go_skip | go_guarded | go_step | go_upon | go_back)); exact ⟨rfl, rfl, rfl⟩))
      have HVR := Lib.hid (verify_no p d n A cap w0 HD.out h18 hnm)
      refine pt_step rfl ?_
      go_wp2_with fail
      refine HVR.out.mono ?_
      rintro e w7 ⟨rfl, b7⟩
      go_wp2_with fail
      refine ⟨rfl, b7.mono z0, ?_⟩
      have hp7 := hp0.past b7 hp0.lt
      have hd7 := hd0.past b7 hd0.lt
      have hy7 := hy0.past b7 hy0.lt
      have bl7 := bl0.trans (b7.mono bl0.size)
      have z7 := Nat.le_trans z0 b7.size
      clear HVR hp0 hd0 hx0 hy0 bl0 z0 b7
      have HVR := Lib.hid (rverify_no p d n A cap w7 HD.out h18 hnm)
      refine pt_step rfl ?_
      go_wp2_with fail
      refine HVR.out.mono ?_
      rintro e w8 ⟨rfl, b8⟩
      go_wp2_with fail
      refine ⟨rfl, b8.mono z7, ?_⟩
      have hd8 := hd7.past b8 hd7.lt
      have hy8 := hy7.past b8 hy7.lt
      have bl8 := bl7.trans (b8.mono bl7.size)
      have z8 := Nat.le_trans z7 b8.size
      clear HVR hp7 hd7 hy7 bl7 z7 b8
      first | refine pt_skip rfl rfl rfl rfl ?_ | (refine pt_take rfl rfl rfl rfl ?_; apply Exists.intro; refine ⟨fun w' hw' => ?_, ?_⟩; focus ((repeat (first | go_skip | go_guarded | go_step | go_upon | go_back)); exact ⟨rfl, rfl, rfl⟩))
      first | refine pt_skip rfl rfl rfl rfl ?_ | (refine pt_take rfl rfl rfl rfl ?_; apply Exists.intro; refine ⟨fun w' hw' => ?_, ?_⟩; focus ((repeat (first | go_skip | go_guarded | go_step | go_upon | go_back)); exact ⟨rfl, rfl, rfl⟩))
      first | refine pt_skip rfl rfl rfl rfl ?_ | (refine pt_take rfl rfl rfl rfl ?_; apply Exists.intro; refine ⟨fun w' hw' => ?_, ?_⟩; focus ((repeat (first | go_skip | go_guarded | go_step | go_upon | go_back)); exact ⟨rfl, rfl, rfl⟩))
      refine pt_take rfl rfl rfl rfl ?_
      apply Exists.intro
      refine ⟨fun w' hw' => ?_, ?_⟩
      · refine wp_run rfl (exec_loadA 23 rfl _ rfl 23 _ 32 5 (hy8.past hw' hyb) Tryd.underlying23 (by rw [info_dig, HUR.out])) ?_
        exact ⟨rfl, rfl, rfl⟩
      refine pt_take rfl rfl rfl rfl ?_
      apply Exists.intro
      refine ⟨fun w' hw' => ?_, ?_⟩
      · refine wp_run rfl (exec_loadA 23 rfl _ rfl 23 _ 32 5 (hd8.past hw' hdb) Tryd.underlying23 (by rw [info_dig, HUD.out])) ?_
        exact ⟨rfl, rfl, rfl⟩
      first | refine pt_skip rfl rfl rfl rfl ?_ | (refine pt_take rfl rfl rfl rfl ?_; apply Exists.intro; refine ⟨fun w' hw' => ?_, ?_⟩; focus ((repeat (first | go_skip | go_guarded | go_step | go_upon | go_back)); exact ⟨rfl, rfl, rfl⟩))
      first | refine pt_skip rfl rfl rfl rfl ?_ | (refine pt_take rfl rfl rfl rfl ?_; apply Exists.intro; refine ⟨fun w' hw' => ?_, ?_⟩; focus ((repeat (first | go_skip | go_guarded | go_step | go_upon | go_back)); exact ⟨rfl, rfl, rfl⟩))
      first | refine pt_skip rfl rfl rfl rfl ?_ | (refine pt_take rfl rfl rfl rfl ?_; apply Exists.intro; refine ⟨fun w' hw' => ?_, ?_⟩; focus ((repeat (first | go_skip | go_guarded | go_step | go_upon | go_back)); exact ⟨rfl, rfl, rfl⟩))
      have HVR := Lib.hid (verify_no z32 d n A cap w8 HD.out h18 hnm)
      refine pt_step rfl ?_
      go_wp2_with fail
      refine HVR.out.mono ?_
      rintro e w9 ⟨rfl, b9⟩
      go_wp2_with fail
      refine ⟨rfl, b9.mono z8, ?_⟩
      have bl9 := bl8.trans (b9.mono bl8.size)
      clear HVR hd8 hy8 bl8 z8 b9
      first | refine pt_skip rfl rfl rfl rfl ?_ | (refine pt_take rfl rfl rfl rfl ?_; apply Exists.intro; refine ⟨fun w' hw' => ?_, ?_⟩; focus ((repeat (first | go_skip | go_guarded | go_step | go_upon | go_back)); exact ⟨rfl, rfl, rfl⟩))
      first | refine pt_skip rfl rfl rfl rfl ?_ | (refine pt_take rfl rfl rfl rfl ?_; apply Exists.intro; refine ⟨fun w' hw' => ?_, ?_⟩; focus ((repeat (first | go_skip | go_guarded | go_step | go_upon | go_back)); exact ⟨rfl, rfl, rfl⟩))
      first | refine pt_skip rfl rfl rfl rfl ?_ | (refine pt_take rfl rfl rfl rfl ?_; apply Exists.intro; refine ⟨fun w' hw' => ?_, ?_⟩; focus ((repeat (first | go_skip | go_guarded | go_step | go_upon | go_back)); exact ⟨rfl, rfl, rfl⟩))
      change Exit.then _ _ Exit.normal _ _
      go_wp2
      go_ret
      exact ⟨rfl, bl9⟩
  · have hlen' : ¬ (n : Int) ≤ 40 := by omega
    go_enter Tryd.func5, Tryd.ntmps5
    go_upto_region 1 with (fail)
    rw [← HW.out]
    go_wp2_with fail
    refine (sane_any W0 hk0).mono ?_
    rintro e w1 ⟨rfl, b1⟩
    go_wp2
    go_ret
    exact ⟨rfl, b0.trans (b1.mono b0.size)⟩
end Go.Proofs.YtnfhdjmehhapiaaDoor
