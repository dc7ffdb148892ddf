/-
  The walk of ShaChainSteps.
-/
import Derived.Test.YtglabhlgnbkeiaaDoorShM
import Derived.Test.YtglabhlgnbkeiaaDoorOpA
namespace Go.Proofs.YtglabhlgnbkeiaaDoor
open Go.RowKit
set_option linter.unusedVariables false
set_option linter.unusedSimpArgs false

theorem step_tag (l : List UInt8) : Sha.tag Sha.stepT l = Sha.sum ([4, 115, 116, 101, 112] ++ l) := congrArg Sha.sum (by rfl)
theorem chain_zero (x : List UInt8) : Sha.chain x 0 = x := rfl
theorem chain_succ (x : List UInt8) (k : Nat) : Sha.chain x (k + 1) = Sha.sum ([4, 115, 116, 101, 112] ++ Sha.chain x k) := (show Sha.chain x (k + 1) = Sha.tag Sha.stepT (Sha.chain x k) from rfl).trans (step_tag _)

attribute [local irreducible] Sha.sum Sha.tag Sha.chain

set_option maxRecDepth 100000 in
set_option maxHeartbeats 2000000 in
theorem shaChainSteps_walk (x : List UInt8) (n : Int) (W : World) (hx : x.length = 32) (hn : -9223372036854775808 ≤ n ∧ n ≤ 9223372036854775807) (hk : KIs 1 W) :
    Calls Tryd.prog 10 #[.agg (u8s x).toArray, .int .i64 n] W fun e w' => e = .returned (.bool true) ∧ Below W.heap.size W w' := by
  have HX := Lib.hid hx
  have ux : (u8s x).length = 32 := by rw [u8s_length, hx]
  have HUX := Lib.hid ux
  clear ux
  obtain ⟨hn0, hn1⟩ := hn
  obtain ⟨W0, hW0⟩ : ∃ W0, W0 = W.alloc (.cells (u8s x).toArray 25) := ⟨_, rfl⟩
  have bl0 : Below W.heap.size W W0 := by rw [hW0]; exact (Below.refl _ _).alloc (Nat.le_refl _) _
  have hx0 : Blk W0 W.heap.size 25 (u8s x) := by
    rw [hW0]
    exact Blk.new W _ _
  have hk0 := hk.past bl0
  have HW0 := Lib.hid hW0
  clear hW0 hx
  by_cases h1 : (40 : Int) < n
  · go_enter Tryd.func10, Tryd.ntmps10
    go_wp2_with fail
    rw [← HW0.out]
    refine (sane_any W0 hk0).mono ?_
    rintro e w1 ⟨rfl, b1⟩
    go_wp2
    go_ret
    exact ⟨rfl, bl0.trans (b1.mono bl0.size)⟩
  · go_enter Tryd.func10, Tryd.ntmps10
    go_wp2_with fail
    rw [← HW0.out]
    refine (sane_any W0 hk0).mono ?_
    rintro e w1 ⟨rfl, b1⟩
    have hx1 := hx0.past b1 hx0.lt
    have hk1 := hk0.past b1
    have bl1 := bl0.trans (b1.mono bl0.size)
    clear hx0 hk0 bl0 b1
    have hz := zero_dig
    go_wp2_with (first
      | (refine wp_run rfl (exec_loadA 25 rfl W.heap.size rfl 25 _ 32 5 hx1 Tryd.underlying25 (by rw [info_dig, HUX.out])) ?_)
      | (refine wp_storeA 25 (.tmp 5) (.tmp 12) rfl rfl w1.heap.size rfl 25 (u8s z32) (u8s x) rfl (Blk.new w1 _ _) (by rw [info_dig, HUX.out]) (by rw [HUX.out]; rfl) (u8s_one _) rfl ?_; intro v1 hv1 hkp1))
    have ha : Keep (fun q => q < w1.heap.size) w1 (w1.alloc (.cells (u8s z32).toArray 25)) := Keep.of_below ((Below.refl _ _).alloc (Nat.le_refl _) _)
    have g1 : Below w1.heap.size w1 v1 := (ha.trans (hkp1.mono (fun q hq => by omega))).below (fun q hq => hq) (Nat.le_refl _)
    have hxv := hx1.past g1 hx1.lt
    have hkv := hk1.past g1
    have blv := bl1.trans (g1.mono bl1.size)
    have hlt1 : W.heap.size < w1.heap.size := hx1.lt
    have hkb : 1 < w1.heap.size := block_lt_of_cell (hk1 0 (by omega))
    clear hz hx1 hk1 bl1 hkp1 ha g1
    generalize w1.heap.size = g at hv1 hlt1 hkb ⊢
    have hv0 : Blk v1 g 25 (u8s (Sha.chain x 0)) := by rw [chain_zero]; exact hv1
    clear hv1
    go_loopw [6] (fun i wr => ∃ k : Nat, i = .int .i64 k ∧ k ≤ n.toNat ∧ Blk wr W.heap.size 25 (u8s x) ∧ Blk wr g 25 (u8s (Sha.chain x k)) ∧ KIs 1 wr ∧ Below W.heap.size W wr) (fun i _ => n.toNat - (intOf i).toNat)
    case atStart => exact ⟨0, rfl, by omega, hxv, hv0, hkv, blv⟩
    case round =>
      clear hxv hv0 hkv blv
      obtain ⟨k, rfl, hkn, hxr, hcr, hkr, hb⟩ := hrel
      by_cases hlt : (k : Int) < n
      · have hcl := Sha.chain_len HX.out k
        have HCL := Lib.hid (show (u8s (Sha.chain x k)).length = 32 by rw [u8s_length, hcl])
        have a4 : Below wr.heap.size wr (wr.alloc (.cells (u8s [4, 115, 116, 101, 112]).toArray 5)) := (Below.refl _ _).alloc (Nat.le_refl _) _
        have o4 : Own (wr.alloc (.cells (u8s [4, 115, 116, 101, 112]).toArray 5)) wr.heap.size (.slice (some ⟨wr.heap.size, 0, none⟩) 5 5) [4, 115, 116, 101, 112] := own_lit_n wr [4, 115, 116, 101, 112] (by decide)
        have hc4 := dig_bs (hcr.past a4 hcr.lt) hcl
        have e4 : ([4, 115, 116, 101, 112] : List UInt8).length + (Sha.chain x k).length ≤ 140737488355328 := by rw [hcl]; decide
        go_upto_region 11 with (first
          | (refine wp_sliceA0 25 5 32 (.tmp 5) rfl rfl Tryd.underlying25 size_u8 g rfl ?_)
          | (refine wp_apps wr.heap.size (.tmp 19) (.tmp 20) rfl rfl _ _ [4, 115, 116, 101, 112] (Sha.chain x k) rfl rfl o4 a4.size hc4 e4 ?_; intro v4 w4 ho4 b4))
        have b34 : Below wr.heap.size wr w4 := a4.trans b4
        have hx4 := hxr.past b34 hxr.lt
        have hc4' := hcr.past b34 hcr.lt
        have hk4 := hkr.past b34
        have bl4 := hb.trans (b34.mono hb.size)
        have ho4' := Own.bs ho4
        have e5 : ([4, 115, 116, 101, 112] ++ Sha.chain x k : List UInt8).length ≤ 1000000 := by rw [List.length_append, hcl]; decide
        clear hxr hcr hkr hb e4 a4 o4 hc4 ho4 b4 b34
        go_wp2_with fail
        refine (sum_any v4 _ w4 ho4' hk4 e5).mono ?_
        rintro e w5 ⟨rfl, b5⟩
        have hx5 := hx4.past b5 hx4.lt
        have hc5 := hc4'.past b5 hc4'.lt
        have hk5 := hk4.past b5
        have bl5 := bl4.trans (b5.mono bl4.size)
        clear hx4 hc4' hk4 bl4 ho4' b5
        rw [← chain_succ]
        have HNL : Hid ((u8s (Sha.chain x (k + 1))).length = 32) := Lib.hid (by rw [u8s_length, Sha.chain_len HX.out])
        go_wp2_with (refine wp_storeA 25 (.tmp 5) (.tmp 23) rfl rfl g rfl 25 (u8s (Sha.chain x k)) (u8s (Sha.chain x (k + 1))) rfl hc5 (by rw [info_dig, HNL.out]) (by rw [HCL.out, HNL.out]) (u8s_one _) rfl ?_; intro w6 hc6 hk6)
        have hx6 := hx5.keep hk6 (by omega)
        have hkk := hk5.keep hk6 (by omega)
        have bl6 := bl5.trans (hk6.below (n := W.heap.size) (fun q hq => by omega) bl5.size)
        go_roundw
        case rel => exact ⟨k + 1, by go_num, by omega, hx6, hc6, hkk, bl6⟩
        case measure => simp [intOf]; omega
      · have hkk : k = n.toNat := by omega
        go_upto_region 12 with (fail)
        have HCL : Hid ((u8s (Sha.chain x k)).length = 32) := Lib.hid (by rw [u8s_length, Sha.chain_len HX.out])
        have HCD : Hid (Sha.chain x n.toNat = Sha.chain x k) := Lib.hid (by rw [hkk])
        obtain ⟨D, hD⟩ : ∃ D, D = Sha.chain x k := ⟨_, rfl⟩
        rw [← hD] at hcr HCL HCD
        have HDL : Hid (D.length = 32) := Lib.hid (by rw [hD, Sha.chain_len HX.out])
        have HN : Hid (n ≤ 40) := Lib.hid (by omega)
        have HN0 : Hid (-9223372036854775808 ≤ n) := Lib.hid hn0
        clear hD hkk hlt hkn h1 hn0 hn1
        have hxb := hxr.lt
        have hcb := hcr.lt
        refine wp_region_pt wr.heap.size (.take 0 (.take 1 (.take 3 (.step 2 (.take 4 (.take 5 .done)))))) (by kernel_rfl) (by kernel_rfl) (by kernel_rfl) (fun _ _ h => h) ?_
        obtain ⟨w0, hw0⟩ : ∃ w0, w0 = wr.drew := ⟨_, rfl⟩
        have hx0 : Blk w0 W.heap.size 25 (u8s x) := by rw [hw0]; exact hxr.drew
        have hc0 : Blk w0 g 25 (u8s D) := by rw [hw0]; exact hcr.drew
        have hk0 : KIs 1 w0 := by rw [hw0]; exact hkr.past (Below.refl _ _).drew
        have bl0 : Below W.heap.size W w0 := by rw [hw0]; exact hb.drew
        have z0 : wr.heap.size ≤ w0.heap.size := by rw [hw0]; exact (Below.refl wr.heap.size wr).drew.size
        rw [← hw0]
        clear hw0
        refine pt_take rfl rfl rfl rfl ?_
        apply Exists.intro
        refine ⟨fun w' hw' => ?_, ?_⟩
        · refine wp_run rfl (exec_loadA 25 rfl _ rfl 25 _ 32 5 (hx0.past hw' hxb) Tryd.underlying25 (by rw [info_dig, HUX.out])) ?_
          exact ⟨rfl, rfl, rfl⟩
        first | refine pt_skip rfl rfl rfl rfl ?_ | (refine pt_take rfl rfl rfl rfl ?_; apply Exists.intro; refine ⟨fun w' hw' => ?_, ?_⟩; focus (go_wp2; exact ⟨rfl, rfl, rfl⟩))
        refine pt_take rfl rfl rfl rfl ?_
        apply Exists.intro
        refine ⟨fun w' hw' => ?_, ?_⟩
        · refine wp_run rfl (exec_loadA 25 rfl _ rfl 25 _ 32 5 (hc0.past hw' hcb) Tryd.underlying25 (by rw [info_dig, HCL.out])) ?_
          exact ⟨rfl, rfl, rfl⟩
        refine pt_step rfl ?_
        go_wp2_with fail
        refine (chain_any x n w0 HX.out (by have := HN.out; omega) HN0.out hk0).mono ?_
        rintro e w2 ⟨rfl, b2⟩
        go_wp2_with fail
        refine ⟨rfl, b2.mono z0, ?_⟩
        have bl2 := bl0.trans (b2.mono bl0.size)
        clear hx0 hc0 hk0 bl0 z0 b2
        refine pt_take rfl rfl rfl rfl ?_
        apply Exists.intro
        refine ⟨fun w' hw' => ?_, ?_⟩
        · refine wp_run rfl (exec_eqT rfl (Sha.chain x n.toNat) D rfl rfl HCD.out (Sha.chain_len HX.out _) HDL.out w') ?_
          exact ⟨rfl, rfl, rfl⟩
        first | refine pt_skip rfl rfl rfl rfl ?_ | (refine pt_take rfl rfl rfl rfl ?_; apply Exists.intro; refine ⟨fun w' hw' => ?_, ?_⟩; focus (go_wp2; exact ⟨rfl, rfl, rfl⟩))
        change Exit.then _ _ Exit.normal _ _
        go_wp2
        go_ret
        exact ⟨rfl, bl2⟩
end Go.Proofs.YtglabhlgnbkeiaaDoor
