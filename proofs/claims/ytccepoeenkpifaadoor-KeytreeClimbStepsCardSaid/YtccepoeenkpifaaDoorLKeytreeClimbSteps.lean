/-
  The walk of KeytreeClimbSteps.
-/
import Derived.Test.YtccepoeenkpifaaDoorKtS
import Derived.Test.YtccepoeenkpifaaDoorOpD

namespace Go.Proofs.YtccepoeenkpifaaDoor
open Go.RowKit
set_option linter.unusedVariables false
set_option linter.unusedSimpArgs false

theorem row_len {w : World} {B s n : Nat} {v : Value} {xs : List Value} (h : Row w B s n v xs) : n ≤ 9223372036854775807 := by
  obtain ⟨_, _, _, h1, h2, _⟩ := h
  unfold maxLen at h2
  omega

set_option maxRecDepth 100000 in
set_option maxHeartbeats 4000000 in
theorem keytreeClimbSteps_walk (x : List UInt8) (ix : Int) (v : Value) (n : Nat) (F : List UInt8) (W : World) (hx : x.length = 32) (hix : -9223372036854775808 ≤ ix ∧ ix ≤ 9223372036854775807) (hv : Row W W.heap.size 32 n v (u8s F)) (hk : KIs 1 W) :
    Calls Tryd.prog 7 #[.agg (u8s x).toArray, .int .i64 ix, v] W fun e w' => e = .returned (.bool true) ∧ Below W.heap.size W w' := by
  obtain ⟨A, cap, rfl⟩ := row_form hv
  have hnl := row_len hv
  obtain ⟨hix1, hix2⟩ := hix
  have HXL := Lib.hid hx
  have HUX := Lib.hid (show (u8s x).length = 32 by rw [u8s_length, hx])
  have HFL := Lib.hid (row_flen hv)
  have hncap := Row.cap hv
  have HV := Lib.hid hv
  have HGT : Hid (1 < W.heap.size) := Lib.hid (block_lt_of_cell (hk 0 (by decide)))
  have b0 : Below W.heap.size W (W.alloc (.cells (u8s x).toArray 25)) := (Below.refl _ _).alloc (Nat.le_refl _) _
  have l0 : Blk (W.alloc (.cells (u8s x).toArray 25)) W.heap.size 25 (u8s x) := Blk.new W _ _
  obtain ⟨W0, hW0⟩ : ∃ W0, W0 = W.alloc (.cells (u8s x).toArray 25) := ⟨_, rfl⟩
  rw [← hW0] at b0 l0
  have HW := Lib.hid hW0
  have r0 := hv.past b0
  have k0 := hk.past b0
  clear hW0 hv hk hx
  go_enter Tryd.func7, Tryd.ntmps7
  go_upto_region 1 with (fail)
  rw [← HW.out]
  obtain ⟨gl, hgl⟩ : ∃ g, g = W.heap.size := ⟨_, rfl⟩
  rw [← hgl] at l0 ⊢
  clear HW
  have HC1 := Lib.hid (sane_any W0 k0)
  go_wp2_with fail
  refine HC1.out.mono ?_
  rintro e v1 ⟨rfl, b1⟩
  have f_l1 := l0.past b1 l0.lt
  have f_r1 := r0.past b1
  have f_k1 := k0.past b1
  have f_bel1 := b0.trans (b1.mono b0.size)
  clear l0 r0 k0 b0 HC1 b1
  have HGL := Lib.hid hgl
  clear hgl
  by_cases h40 : n ≤ 40
  · skip
    have hz := zero_dig
    by_cases hok : n ≤ 6 ∧ 0 ≤ ix ∧ ix < ((2 ^ n : Nat) : Int)
    · obtain ⟨hn6, hx0, hxn⟩ := hok
      obtain ⟨i, rfl⟩ := Int.eq_ofNat_of_zero_le hx0
      have hin : i < 2 ^ n := by omega
      have hi64 : i < 64 := by have := Kt.pow_le hn6; omega
      have HC2 := Lib.hid (climb_yes _ x F n i v1 f_r1 HXL.out hn6 hin f_k1)
      go_wp2_with (first | (refine wp_run rfl (exec_loadA 25 rfl gl rfl 25 _ 32 5 f_l1 Tryd.underlying25 (by rw [info_dig, HUX.out])) ?_))
      refine HC2.out.mono ?_
      rintro e v2 ⟨rfl, b2⟩
      have f_l2 := f_l1.past b2 f_l1.lt
      have f_r2 := f_r1.past b2
      have f_k2 := f_k1.past b2
      have f_bel2 := f_bel1.trans (b2.mono f_bel1.size)
      clear f_l1 f_r1 f_k1 f_bel1 HC2 b2
      have HIN := Lib.hid hin
      clear hin hxn hx0
      obtain ⟨X, hX⟩ : ∃ X, X = Kt.climb x i F n := ⟨_, rfl⟩
      have HXX := Lib.hid hX
      have HXXL := Lib.hid (show X.length = 32 by rw [hX, Kt.climb_len HXL.out])
      have HUXX := Lib.hid (show (u8s X).length = 32 by rw [u8s_length, HXXL.out])
      rw [← hX]
      clear hX
      have x3 := Blk.new v2 25 (u8s z32)
      have bx3 : Below v2.heap.size v2 (v2.alloc (.cells (u8s z32).toArray 25)) := (Below.refl _ _).alloc (Nat.le_refl _) _
      go_upto_region 6 with (refine wp_storeA 25 (.tmp 7) (.tmp 22) rfl rfl v2.heap.size rfl 25 (u8s z32) _ rfl x3 (by rw [info_dig, HUXX.out]) (by first | (rw [HUXX.out]; rfl) | rfl) (u8s_one _) rfl ?_; intro y3 h3 k3)
      have bb3 : Below v2.heap.size v2 y3 := ((Keep.of_below bx3).trans (k3.mono (O' := fun q => q < v2.heap.size) (fun q hq => by omega))).below (fun q hq => hq) (Nat.le_refl _)
      have f_l3 := f_l2.past bb3 f_l2.lt
      have f_r3 := f_r2.past bb3
      have f_k3 := f_k2.past bb3
      have f_bel3 := f_bel2.trans (bb3.mono f_bel2.size)
      clear f_l2 f_r2 f_k2 f_bel2 x3 bx3 k3 bb3
      obtain ⟨gx, hgx⟩ : ∃ g, g = v2.heap.size := ⟨_, rfl⟩
      rw [← hgx] at h3 ⊢
      clear hgx
      by_cases h0 : n = 0
      · subst h0
        have HXE := Lib.hid (show (X == x) = true by rw [HXX.out]; exact beq_self_eq_true _)
        clear hz
        go_wp2_with (first
          | (refine wp_run rfl (exec_loadA 25 rfl gx rfl 25 _ 32 5 h3 Tryd.underlying25 (by rw [info_dig, HUXX.out])) ?_)
          | (refine wp_run rfl (exec_loadA 25 rfl gl rfl 25 _ 32 5 f_l3 Tryd.underlying25 (by rw [info_dig, HUX.out])) ?_)
          | (refine wp_run rfl (exec_eqB rfl X x rfl rfl HXXL.out HXL.out true HXE.out _) ?_))
        go_ret
        rw [HGL.out] at *
        exact ⟨rfl, f_bel3⟩
      · skip
        obtain ⟨m, rfl⟩ : ∃ m, n = m + 1 := ⟨n - 1, by omega⟩
        obtain ⟨ad, rfl, had, _⟩ := Row.at_ HV.out (by omega)
        have hlt0 : 0 < m + 1 := by omega
        have hne0 : (((m + 1 : Nat) : Int) == 0) = false := beq_eq_false_iff_ne.2 (by omega)
        obtain ⟨y, hy⟩ : ∃ y, y = Wt.el F 0 := ⟨_, rfl⟩
        have HY := Lib.hid hy
        have HYL := Lib.hid (show y.length = 32 by rw [hy]; exact Wt.el_len (n := m + 1) (by have := HFL.out; omega) hlt0)
        have HUY := Lib.hid (show (u8s y).length = 32 by rw [u8s_length, HYL.out])
        have HCY : Hid (∀ w1 : World, Below W.heap.size W w1 → ∀ j u, (u8s y)[j]? = some u → w1.cell? ((ad.add (0 * 32)).add j) = some u) := Lib.hid fun w1 hb => by
          rw [HY.out]
          exact row_elem (HV.out.past hb) hlt0
        obtain ⟨A', cap', hcut, hcutr⟩ := run_cut_all (P := Tryd.prog) (size := 32) (n := m + 1) (k := m) (i := 1) (A := some ad) (cap := cap) 29 25 Tryd.underlying29 info_dig (some (.int .i64 1)) none (Or.inr ⟨.i64, 1, rfl, rfl⟩) (Or.inl ⟨rfl, by omega⟩) (by omega) hncap
        have HCUT := Lib.hid hcut
        have HCF : ((u8s F).drop (1 * 32)).take (m * 32) = u8s (F.drop 32) := by
          unfold u8s
          rw [← List.map_drop, List.take_of_length_le (by rw [List.length_map, List.length_drop, HFL.out]; omega)]
        have HCR : Hid (∀ w1 : World, Below W.heap.size W w1 → Row w1 w1.heap.size 32 m (.slice A' m cap') (u8s (F.drop 32))) := Lib.hid fun w1 hb => by
          rw [← HCF]
          exact hcutr w1 _ _ (HV.out.past hb)
        clear h0 hy hcut hcutr HCF had
        clear f_r3
        have HW0 : Hid (W.heap.size ≤ y3.heap.size) := Lib.hid (Below.size f_bel3)
        have HLL : Hid (gl < y3.heap.size) := Lib.hid (Blk.lt f_l3)
        have HLX : Hid (gx < y3.heap.size) := Lib.hid (Blk.lt h3)
        by_cases hev : i % 2 = 1
        · skip
          obtain ⟨E, hE⟩ : ∃ E, E = Kt.stp x y i := ⟨_, rfl⟩
          have HEL := Lib.hid (show E.length = 32 by rw [hE, Kt.stp_len])
          have HUE := Lib.hid (show (u8s E).length = 32 by rw [u8s_length, HEL.out])
          have HRES := Lib.hid (show Kt.climb E (i / 2) (F.drop 32) m = X by rw [hE, HY.out, HXX.out, Kt.climb_tail])
          have HCL : Hid (∀ w1 : World, Row w1 w1.heap.size 32 m (.slice A' m cap') (u8s (F.drop 32)) → KIs 1 w1 → Calls Tryd.prog 19 #[.agg (u8s E).toArray, .int .i64 ((i : Int) / 2), .slice A' m cap'] w1 fun e w' => e = .returned (.tuple #[.agg (u8s X).toArray, .int .i64 0]) ∧ Below w1.heap.size w1 w') := Lib.hid fun w1 h1 h2 => by
            have h := climb_yes _ E (F.drop 32) m (i / 2) w1 h1 HEL.out (by omega) (by have h9 := HIN.out; rw [Nat.pow_succ] at h9; omega) h2
            rw [HRES.out] at h
            exact h
          have he : (((i : Int) % 2) == 1) = true := by simp; omega
          have HD1 := Lib.hid (show E = Sha.tag Sha.pairT (y ++ x) by rw [hE]; unfold Kt.stp; rw [if_neg (by omega)]; rfl)
          obtain ⟨D, hD⟩ : ∃ D, D = Sha.tag Sha.pairT (x ++ y) := ⟨_, rfl⟩
          have HD := Lib.hid hD
          have HDL := Lib.hid (show D.length = 32 by rw [hD, Sha.tag_len])
          have HUD := Lib.hid (show (u8s D).length = 32 by rw [u8s_length, HDL.out])
          clear hD hE hev
          go_upto_region 8 with (fail)
          have lt_l := Blk.lt f_l3
          refine wp_region_pt (y3.heap.size) (.take 0 (.take 1 (.take 2 (.take 3 (.two 4 (.step 5 (.step 6 .done)) 5 (.step 4 (.step 6 .done))))))) (by kernel_rfl) (by kernel_rfl) (by kernel_rfl) (fun _ _ h => h) ?_
          have bd4 : Below y3.heap.size y3 y3.drew := (Below.refl _ _).drew
          have zB4 : y3.heap.size ≤ y3.drew.heap.size := bd4.size
          have f_l4 := f_l3.past bd4 f_l3.lt
          have f_k4 := f_k3.past bd4
          have f_bel4 := f_bel3.trans (bd4.mono f_bel3.size)
          have f_x4 := h3.past bd4 h3.lt
          clear f_l3 f_k3 f_bel3 h3
          obtain ⟨u4, hu4⟩ : ∃ u, u = y3.drew := ⟨_, rfl⟩
          rw [← hu4] at f_l4 f_k4 f_bel4 f_x4 zB4 bd4 ⊢
          clear hu4 bd4
          refine pt_take rfl rfl rfl rfl ?_
          apply Exists.intro
          refine ⟨fun w' hw' => ?_, ?_⟩
          · refine wp_run rfl (exec_loadA 25 rfl _ rfl 25 _ 32 5 (f_l4.past hw' lt_l) Tryd.underlying25 (by rw [info_dig, HUX.out])) ?_
            exact ⟨rfl, rfl, rfl⟩
          first | refine pt_skip rfl rfl rfl rfl ?_ | (refine pt_take rfl rfl rfl rfl ?_; apply Exists.intro; refine ⟨fun w' hw' => ?_, ?_⟩; focus ((repeat (first | go_skip | go_guarded | go_step | go_upon | go_back)); exact ⟨rfl, rfl, rfl⟩))
          refine pt_take rfl rfl rfl rfl ?_
          apply Exists.intro
          refine ⟨fun w' hw' => ?_, ?_⟩
          · refine wp_run rfl (exec_ixS 29 25 32 Tryd.underlying29 info_dig w' rfl rfl _ _ 0 rfl rfl hlt0 (q := ad.add (0 * 32)) rfl) ?_
            exact ⟨rfl, rfl, rfl⟩
          refine pt_take rfl rfl rfl rfl ?_
          apply Exists.intro
          refine ⟨fun w' hw' => ?_, ?_⟩
          · refine wp_run rfl (exec_loadP 25 rfl (ad.add (0 * 32)) rfl (u8s y) 32 5 (HCY.out w' (f_bel4.trans (hw'.mono (by have := HW0.out; omega)))) Tryd.underlying25 (by rw [info_dig, HUY.out])) ?_
            exact ⟨rfl, rfl, rfl⟩
          refine pt_two rfl rfl ?_ ?_
          · skip
            go_wp2_with fail
            refine (pair_any x y _ HXL.out HYL.out f_k4).mono ?_
            rintro e t5 ⟨rfl, c5⟩
            rw [← HD.out]
            go_wp2_with fail
            refine ⟨rfl, c5.mono zB4, ?_⟩
            have f_l5 := f_l4.past c5 f_l4.lt
            have f_k5 := f_k4.past c5
            have f_bel5 := f_bel4.trans (c5.mono f_bel4.size)
            have f_x5 := f_x4.past c5 f_x4.lt
            have f_zB5 := Nat.le_trans zB4 c5.size
            clear f_l4 f_k4 f_bel4 f_x4 zB4 c5
            have s6 := Blk.new t5 25 (u8s z32)
            have d6 : Below t5.heap.size t5 (t5.alloc (.cells (u8s z32).toArray 25)) := (Below.refl _ _).alloc (Nat.le_refl _) _
            refine pt_step rfl ?_
            go_wp2_with fail
            refine ⟨rfl, d6.mono f_zB5, ?_⟩
            have e6 := Nat.le_trans f_zB5 d6.size
            refine pt_step rfl ?_
            have zpre6 := f_zB5
            go_wp2_with (refine wp_storeA 25 (.tmp 9) (.tmp 52) rfl rfl t5.heap.size rfl 25 (u8s z32) (u8s D) rfl s6 (by rw [info_dig, HUD.out]) (by first | (rw [HUD.out]; rfl) | rfl) (u8s_one _) rfl ?_; intro y6 h6 k6)
            have f6 : Below t5.heap.size t5 y6 := (d6).trans ((k6.mono (O' := fun q => q < t5.heap.size) (fun q hq => by omega)).below (fun q hq => hq) (d6).size)
            refine ⟨rfl, (k6.mono (O' := fun q => q < t5.heap.size) (fun q hq => by omega)).below (fun q hq => by have := f_zB5; omega) (e6), ?_⟩
            have f_l6 := f_l5.past f6 f_l5.lt
            have f_k6 := f_k5.past f6
            have f_bel6 := f_bel5.trans (f6.mono f_bel5.size)
            have f_x6 := f_x5.past f6 f_x5.lt
            have f_zB6 := Nat.le_trans f_zB5 f6.size
            clear f_l5 f_k5 f_bel5 f_x5 f_zB5 k6 f6 d6 e6 s6
            obtain ⟨gs, hgs⟩ : ∃ g, g = t5.heap.size := ⟨_, rfl⟩
            have zg_s := zpre6
            rw [← hgs] at h6 zg_s ⊢
            clear hgs
            change Exit.then _ _ Exit.normal _ _
            clear f_zB6
            have hgl6 : gl < gs := by have := HLL.out; omega
            have hgx6 : gx < gs := by have := HLX.out; omega
            have hWgs : W.heap.size ≤ gs := by have := HW0.out; omega
            go_upto_region 10 with (fail)
            have ls_6 := Blk.lt h6
            have zs_6 : gs ≤ y6.heap.size := Nat.le_of_lt ls_6
            refine wp_region_pt (gs) (.take 0 (.take 1 (.take 2 (.take 3 (.step 4 (.step 5 .done)))))) (by kernel_rfl) (by kernel_rfl) (by kernel_rfl) (fun _ _ h => h) ?_
            have bd7 : Below y6.heap.size y6 y6.drew := (Below.refl _ _).drew
            have f_l7 := f_l6.past bd7 f_l6.lt
            have f_k7 := f_k6.past bd7
            have f_bel7 := f_bel6.trans (bd7.mono f_bel6.size)
            have f_x7 := f_x6.past bd7 f_x6.lt
            have f_s7 := h6.past bd7 h6.lt
            have f_zs7 := Nat.le_trans zs_6 bd7.size
            clear f_l6 f_k6 f_bel6 f_x6 h6 zs_6
            obtain ⟨u7, hu7⟩ : ∃ u, u = y6.drew := ⟨_, rfl⟩
            rw [← hu7] at f_l7 f_k7 f_bel7 f_x7 f_s7 f_zs7  bd7 ⊢
            clear hu7 bd7
            first | refine pt_skip rfl rfl rfl rfl ?_ | (refine pt_take rfl rfl rfl rfl ?_; apply Exists.intro; refine ⟨fun w' hw' => ?_, ?_⟩; focus ((repeat (first | go_skip | go_guarded | go_step | go_upon | go_back)); exact ⟨rfl, rfl, rfl⟩))
            refine pt_take rfl rfl rfl rfl ?_
            apply Exists.intro
            refine ⟨fun w' hw' => ?_, ?_⟩
            · refine wp_run rfl (exec_ixS 29 25 32 Tryd.underlying29 info_dig w' rfl rfl _ _ 0 rfl rfl hlt0 (q := ad.add (0 * 32)) rfl) ?_
              exact ⟨rfl, rfl, rfl⟩
            refine pt_take rfl rfl rfl rfl ?_
            apply Exists.intro
            refine ⟨fun w' hw' => ?_, ?_⟩
            · refine wp_run rfl (exec_loadP 25 rfl (ad.add (0 * 32)) rfl (u8s y) 32 5 (HCY.out w' (f_bel7.trans (hw'.mono hWgs))) Tryd.underlying25 (by rw [info_dig, HUY.out])) ?_
              exact ⟨rfl, rfl, rfl⟩
            refine pt_take rfl rfl rfl rfl ?_
            apply Exists.intro
            refine ⟨fun w' hw' => ?_, ?_⟩
            · refine wp_run rfl (exec_loadA 25 rfl _ rfl 25 _ 32 5 (f_l7.past hw' hgl6) Tryd.underlying25 (by rw [info_dig, HUX.out])) ?_
              exact ⟨rfl, rfl, rfl⟩
            refine pt_step rfl ?_
            go_wp2_with fail
            refine (pair_any y x _ HYL.out HXL.out f_k7).mono ?_
            rintro e t8 ⟨rfl, c8⟩
            rw [← HD1.out]
            go_wp2_with fail
            refine ⟨rfl, c8.mono f_zs7, ?_⟩
            have f_l8 := f_l7.past c8 f_l7.lt
            have f_k8 := f_k7.past c8
            have f_bel8 := f_bel7.trans (c8.mono f_bel7.size)
            have f_x8 := f_x7.past c8 f_x7.lt
            have f_s8 := f_s7.past c8 f_s7.lt
            have f_zB8 := Nat.le_trans f_zs7 c8.size
            clear f_l7 f_k7 f_bel7 f_x7 f_s7 f_zs7 c8
            refine pt_step rfl ?_
            go_wp2_with (refine wp_storeA 25 (.tmp 9) (.tmp 60) rfl rfl gs rfl 25 (u8s D) (u8s E) rfl f_s8 (by rw [info_dig, HUE.out]) (by rw [HUD.out, HUE.out]) (u8s_one _) rfl ?_; intro y9 h9 k9)
            refine ⟨rfl, k9.below (fun q hq => by omega) f_zB8, ?_⟩
            change Exit.then _ _ Exit.normal _ _
            have f_l9 := Blk.keep f_l8 k9 (by omega)
            have f_x9 := Blk.keep f_x8 k9 (by omega)
            have f_bel9 := Below.trans f_bel8 (k9.below (n := W.heap.size) (fun q hq => by omega) (Below.size f_bel8))
            have f_k9 := KIs.keep f_k8 k9 (by have := HGT.out; omega)
            clear f_l8 f_x8 f_bel8 f_k8 f_s8
            clear f_zB8
            go_upto_region 11 with (fail)
            have lt_s := Blk.lt h9
            refine wp_region_pt (y9.heap.size) (.take 0 (.take 1 (.take 2 (.take 3 (.take 4 (.two 5 (.take 6 (.take 7 (.take 8 (.step 9 (.step 10 (.take 11 .done)))))) 9 (.step 5 (.take 6 (.take 7 (.take 8 (.step 10 (.take 11 .done)))))))))))) (by kernel_rfl) (by kernel_rfl) (by kernel_rfl) (fun _ _ h => h) ?_
            have bd10 : Below y9.heap.size y9 y9.drew := (Below.refl _ _).drew
            have zB10 : y9.heap.size ≤ y9.drew.heap.size := bd10.size
            have f_l10 := f_l9.past bd10 f_l9.lt
            have f_x10 := f_x9.past bd10 f_x9.lt
            have f_bel10 := f_bel9.trans (bd10.mono f_bel9.size)
            have f_k10 := f_k9.past bd10
            have f_s10 := h9.past bd10 h9.lt
            clear f_l9 f_x9 f_bel9 f_k9 h9
            obtain ⟨u10, hu10⟩ : ∃ u, u = y9.drew := ⟨_, rfl⟩
            rw [← hu10] at f_l10 f_x10 f_bel10 f_k10 f_s10 zB10 bd10 ⊢
            clear hu10 bd10
            refine pt_take rfl rfl rfl rfl ?_
            apply Exists.intro
            refine ⟨fun w' hw' => ?_, ?_⟩
            · refine wp_run rfl (exec_loadA 25 rfl _ rfl 25 _ 32 5 (f_s10.past hw' lt_s) Tryd.underlying25 (by rw [info_dig, HUE.out])) ?_
              exact ⟨rfl, rfl, rfl⟩
            first | refine pt_skip rfl rfl rfl rfl ?_ | (refine pt_take rfl rfl rfl rfl ?_; apply Exists.intro; refine ⟨fun w' hw' => ?_, ?_⟩; focus ((repeat (first | go_skip | go_guarded | go_step | go_upon | go_back)); exact ⟨rfl, rfl, rfl⟩))
            first | refine pt_skip rfl rfl rfl rfl ?_ | (refine pt_take rfl rfl rfl rfl ?_; apply Exists.intro; refine ⟨fun w' hw' => ?_, ?_⟩; focus ((repeat (first | go_skip | go_guarded | go_step | go_upon | go_back)); exact ⟨rfl, rfl, rfl⟩))
            first | refine pt_skip rfl rfl rfl rfl ?_ | (refine pt_take rfl rfl rfl rfl ?_; apply Exists.intro; refine ⟨fun w' hw' => ?_, ?_⟩; focus ((repeat (first | go_skip | go_guarded | go_step | go_upon | go_back)); exact ⟨rfl, rfl, rfl⟩))
            refine pt_take rfl rfl rfl rfl ?_
            apply Exists.intro
            refine ⟨fun w' hw' => ?_, ?_⟩
            · refine wp_run rfl (exec_slice rfl (HCUT.out w')) ?_
              exact ⟨rfl, rfl, rfl⟩
            refine pt_two rfl rfl ?_ ?_
            skip
            · skip
              go_wp2_with fail
              refine (HCL.out _ (HCR.out _ f_bel10) f_k10).mono ?_
              rintro e t12 ⟨rfl, c12⟩
              go_wp2_with fail
              refine ⟨rfl, c12.mono zB10, ?_⟩
              have f_l12 := f_l10.past c12 f_l10.lt
              have f_x12 := f_x10.past c12 f_x10.lt
              have f_bel12 := f_bel10.trans (c12.mono f_bel10.size)
              have f_k12 := f_k10.past c12
              have f_s12 := f_s10.past c12 f_s10.lt
              have f_zB12 := Nat.le_trans zB10 c12.size
              clear f_l10 f_x10 f_bel10 f_k10 f_s10 zB10 c12
              first | refine pt_skip rfl rfl rfl rfl ?_ | (refine pt_take rfl rfl rfl rfl ?_; apply Exists.intro; refine ⟨fun w' hw' => ?_, ?_⟩; focus ((repeat (first | go_skip | go_guarded | go_step | go_upon | go_back)); exact ⟨rfl, rfl, rfl⟩))
              first | refine pt_skip rfl rfl rfl rfl ?_ | (refine pt_take rfl rfl rfl rfl ?_; apply Exists.intro; refine ⟨fun w' hw' => ?_, ?_⟩; focus ((repeat (first | go_skip | go_guarded | go_step | go_upon | go_back)); exact ⟨rfl, rfl, rfl⟩))
              first | refine pt_skip rfl rfl rfl rfl ?_ | (refine pt_take rfl rfl rfl rfl ?_; apply Exists.intro; refine ⟨fun w' hw' => ?_, ?_⟩; focus ((repeat (first | go_skip | go_guarded | go_step | go_upon | go_back)); exact ⟨rfl, rfl, rfl⟩))
              have s13 := Blk.new t12 25 (u8s z32)
              have d13 : Below t12.heap.size t12 (t12.alloc (.cells (u8s z32).toArray 25)) := (Below.refl _ _).alloc (Nat.le_refl _) _
              refine pt_step rfl ?_
              go_wp2_with fail
              refine ⟨rfl, d13.mono f_zB12, ?_⟩
              have e13 := Nat.le_trans f_zB12 d13.size
              refine pt_step rfl ?_
              have zpre13 := f_zB12
              go_wp2_with (refine wp_storeA 25 (.tmp 10) (.tmp 68) rfl rfl t12.heap.size rfl 25 (u8s z32) (u8s X) rfl s13 (by rw [info_dig, HUXX.out]) (by first | (rw [HUXX.out]; rfl) | rfl) (u8s_one _) rfl ?_; intro y13 h13 k13)
              have f13 : Below t12.heap.size t12 y13 := (d13).trans ((k13.mono (O' := fun q => q < t12.heap.size) (fun q hq => by omega)).below (fun q hq => hq) (d13).size)
              refine ⟨rfl, (k13.mono (O' := fun q => q < t12.heap.size) (fun q hq => by omega)).below (fun q hq => by have := f_zB12; omega) (e13), ?_⟩
              have f_l13 := f_l12.past f13 f_l12.lt
              have f_x13 := f_x12.past f13 f_x12.lt
              have f_bel13 := f_bel12.trans (f13.mono f_bel12.size)
              have f_k13 := f_k12.past f13
              have f_s13 := f_s12.past f13 f_s12.lt
              have f_zB13 := Nat.le_trans f_zB12 f13.size
              clear f_l12 f_x12 f_bel12 f_k12 f_s12 f_zB12 k13 f13 d13 e13 s13
              obtain ⟨gz, hgz⟩ : ∃ g, g = t12.heap.size := ⟨_, rfl⟩
              have zg_z := zpre13
              rw [← hgz] at h13 zg_z ⊢
              clear hgz
              first | refine pt_skip rfl rfl rfl rfl ?_ | (refine pt_take rfl rfl rfl rfl ?_; apply Exists.intro; refine ⟨fun w' hw' => ?_, ?_⟩; focus ((repeat (first | go_skip | go_guarded | go_step | go_upon | go_back)); exact ⟨rfl, rfl, rfl⟩))
              change Exit.then _ _ Exit.normal _ _
              clear f_zB13
              go_wp2_with (first
                | (refine wp_run rfl (exec_loadA 25 rfl gx rfl 25 _ 32 5 f_x13 Tryd.underlying25 (by rw [info_dig, HUXX.out])) ?_)
                | (refine wp_run rfl (exec_loadA 25 rfl gz rfl 25 _ 32 5 h13 Tryd.underlying25 (by rw [info_dig, HUXX.out])) ?_)
                | (refine wp_run rfl (exec_eqB rfl X X rfl rfl HXXL.out HXXL.out true (beq_self_eq_true _) _) ?_))
              go_ret
              rw [HGL.out] at *
              exact ⟨rfl, f_bel13⟩
            · skip
              have s14 := Blk.new u10 25 (u8s z32)
              have d14 : Below u10.heap.size u10 (u10.alloc (.cells (u8s z32).toArray 25)) := (Below.refl _ _).alloc (Nat.le_refl _) _
              go_wp2_with fail
              refine ⟨rfl, d14.mono zB10, ?_⟩
              have f_l14 := f_l10.past d14 f_l10.lt
              have f_x14 := f_x10.past d14 f_x10.lt
              have f_bel14 := f_bel10.trans (d14.mono f_bel10.size)
              have f_k14 := f_k10.past d14
              have f_s14 := f_s10.past d14 f_s10.lt
              have f_zB14 := Nat.le_trans zB10 d14.size
              refine pt_step rfl ?_
              go_wp2_with fail
              refine (HCL.out _ (HCR.out _ f_bel14) f_k14).mono ?_
              rintro e t14 ⟨rfl, c14⟩
              go_wp2_with fail
              refine ⟨rfl, c14.mono f_zB14, ?_⟩
              have e14 := Nat.le_trans f_zB14 c14.size
              have q14 := s14.past c14 s14.lt
              have m14 := d14.trans (c14.mono d14.size)
              clear s14 c14 d14 f_l14 f_x14 f_bel14 f_k14 f_s14 f_zB14
              first | refine pt_skip rfl rfl rfl rfl ?_ | (refine pt_take rfl rfl rfl rfl ?_; apply Exists.intro; refine ⟨fun w' hw' => ?_, ?_⟩; focus ((repeat (first | go_skip | go_guarded | go_step | go_upon | go_back)); exact ⟨rfl, rfl, rfl⟩))
              first | refine pt_skip rfl rfl rfl rfl ?_ | (refine pt_take rfl rfl rfl rfl ?_; apply Exists.intro; refine ⟨fun w' hw' => ?_, ?_⟩; focus ((repeat (first | go_skip | go_guarded | go_step | go_upon | go_back)); exact ⟨rfl, rfl, rfl⟩))
              first | refine pt_skip rfl rfl rfl rfl ?_ | (refine pt_take rfl rfl rfl rfl ?_; apply Exists.intro; refine ⟨fun w' hw' => ?_, ?_⟩; focus ((repeat (first | go_skip | go_guarded | go_step | go_upon | go_back)); exact ⟨rfl, rfl, rfl⟩))
              refine pt_step rfl ?_
              have s14 := q14
              clear q14
              have zpre14 := zB10
              go_wp2_with (refine wp_storeA 25 (.tmp 10) (.tmp 68) rfl rfl u10.heap.size rfl 25 (u8s z32) (u8s X) rfl s14 (by rw [info_dig, HUXX.out]) (by first | (rw [HUXX.out]; rfl) | rfl) (u8s_one _) rfl ?_; intro y14 h14 k14)
              have f14 : Below u10.heap.size u10 y14 := (m14).trans ((k14.mono (O' := fun q => q < u10.heap.size) (fun q hq => by omega)).below (fun q hq => hq) (m14).size)
              refine ⟨rfl, (k14.mono (O' := fun q => q < u10.heap.size) (fun q hq => by omega)).below (fun q hq => by have := zB10; omega) (e14), ?_⟩
              have f_l14 := f_l10.past f14 f_l10.lt
              have f_x14 := f_x10.past f14 f_x10.lt
              have f_bel14 := f_bel10.trans (f14.mono f_bel10.size)
              have f_k14 := f_k10.past f14
              have f_s14 := f_s10.past f14 f_s10.lt
              have f_zB14 := Nat.le_trans zB10 f14.size
              clear f_l10 f_x10 f_bel10 f_k10 f_s10 zB10 k14 f14 m14 e14 s14
              obtain ⟨gz, hgz⟩ : ∃ g, g = u10.heap.size := ⟨_, rfl⟩
              have zg_z := zpre14
              rw [← hgz] at h14 zg_z ⊢
              clear hgz
              first | refine pt_skip rfl rfl rfl rfl ?_ | (refine pt_take rfl rfl rfl rfl ?_; apply Exists.intro; refine ⟨fun w' hw' => ?_, ?_⟩; focus ((repeat (first | go_skip | go_guarded | go_step | go_upon | go_back)); exact ⟨rfl, rfl, rfl⟩))
              change Exit.then _ _ Exit.normal _ _
              clear f_zB14
              go_wp2_with (first
                | (refine wp_run rfl (exec_loadA 25 rfl gx rfl 25 _ 32 5 f_x14 Tryd.underlying25 (by rw [info_dig, HUXX.out])) ?_)
                | (refine wp_run rfl (exec_loadA 25 rfl gz rfl 25 _ 32 5 h14 Tryd.underlying25 (by rw [info_dig, HUXX.out])) ?_)
                | (refine wp_run rfl (exec_eqB rfl X X rfl rfl HXXL.out HXXL.out true (beq_self_eq_true _) _) ?_))
              go_ret
              rw [HGL.out] at *
              exact ⟨rfl, f_bel14⟩
          · skip
            have s15 := Blk.new u4 25 (u8s z32)
            have d15 : Below u4.heap.size u4 (u4.alloc (.cells (u8s z32).toArray 25)) := (Below.refl _ _).alloc (Nat.le_refl _) _
            go_wp2_with fail
            refine ⟨rfl, d15.mono zB4, ?_⟩
            have f_l15 := f_l4.past d15 f_l4.lt
            have f_k15 := f_k4.past d15
            have f_bel15 := f_bel4.trans (d15.mono f_bel4.size)
            have f_x15 := f_x4.past d15 f_x4.lt
            have f_zB15 := Nat.le_trans zB4 d15.size
            refine pt_step rfl ?_
            go_wp2_with fail
            refine (pair_any x y _ HXL.out HYL.out f_k15).mono ?_
            rintro e t15 ⟨rfl, c15⟩
            rw [← HD.out]
            go_wp2_with fail
            refine ⟨rfl, c15.mono f_zB15, ?_⟩
            have e15 := Nat.le_trans f_zB15 c15.size
            have q15 := s15.past c15 s15.lt
            have m15 := d15.trans (c15.mono d15.size)
            clear s15 c15 d15 f_l15 f_k15 f_bel15 f_x15 f_zB15
            refine pt_step rfl ?_
            have s15 := q15
            clear q15
            have zpre15 := zB4
            go_wp2_with (refine wp_storeA 25 (.tmp 9) (.tmp 52) rfl rfl u4.heap.size rfl 25 (u8s z32) (u8s D) rfl s15 (by rw [info_dig, HUD.out]) (by first | (rw [HUD.out]; rfl) | rfl) (u8s_one _) rfl ?_; intro y15 h15 k15)
            have f15 : Below u4.heap.size u4 y15 := (m15).trans ((k15.mono (O' := fun q => q < u4.heap.size) (fun q hq => by omega)).below (fun q hq => hq) (m15).size)
            refine ⟨rfl, (k15.mono (O' := fun q => q < u4.heap.size) (fun q hq => by omega)).below (fun q hq => by have := zB4; omega) (e15), ?_⟩
            have f_l15 := f_l4.past f15 f_l4.lt
            have f_k15 := f_k4.past f15
            have f_bel15 := f_bel4.trans (f15.mono f_bel4.size)
            have f_x15 := f_x4.past f15 f_x4.lt
            have f_zB15 := Nat.le_trans zB4 f15.size
            clear f_l4 f_k4 f_bel4 f_x4 zB4 k15 f15 m15 e15 s15
            obtain ⟨gs, hgs⟩ : ∃ g, g = u4.heap.size := ⟨_, rfl⟩
            have zg_s := zpre15
            rw [← hgs] at h15 zg_s ⊢
            clear hgs
            change Exit.then _ _ Exit.normal _ _
            clear f_zB15
            have hgl15 : gl < gs := by have := HLL.out; omega
            have hgx15 : gx < gs := by have := HLX.out; omega
            have hWgs : W.heap.size ≤ gs := by have := HW0.out; omega
            go_upto_region 10 with (fail)
            have ls_15 := Blk.lt h15
            have zs_15 : gs ≤ y15.heap.size := Nat.le_of_lt ls_15
            refine wp_region_pt (gs) (.take 0 (.take 1 (.take 2 (.take 3 (.step 4 (.step 5 .done)))))) (by kernel_rfl) (by kernel_rfl) (by kernel_rfl) (fun _ _ h => h) ?_
            have bd16 : Below y15.heap.size y15 y15.drew := (Below.refl _ _).drew
            have f_l16 := f_l15.past bd16 f_l15.lt
            have f_k16 := f_k15.past bd16
            have f_bel16 := f_bel15.trans (bd16.mono f_bel15.size)
            have f_x16 := f_x15.past bd16 f_x15.lt
            have f_s16 := h15.past bd16 h15.lt
            have f_zs16 := Nat.le_trans zs_15 bd16.size
            clear f_l15 f_k15 f_bel15 f_x15 h15 zs_15
            obtain ⟨u16, hu16⟩ : ∃ u, u = y15.drew := ⟨_, rfl⟩
            rw [← hu16] at f_l16 f_k16 f_bel16 f_x16 f_s16 f_zs16  bd16 ⊢
            clear hu16 bd16
            first | refine pt_skip rfl rfl rfl rfl ?_ | (refine pt_take rfl rfl rfl rfl ?_; apply Exists.intro; refine ⟨fun w' hw' => ?_, ?_⟩; focus ((repeat (first | go_skip | go_guarded | go_step | go_upon | go_back)); exact ⟨rfl, rfl, rfl⟩))
            refine pt_take rfl rfl rfl rfl ?_
            apply Exists.intro
            refine ⟨fun w' hw' => ?_, ?_⟩
            · refine wp_run rfl (exec_ixS 29 25 32 Tryd.underlying29 info_dig w' rfl rfl _ _ 0 rfl rfl hlt0 (q := ad.add (0 * 32)) rfl) ?_
              exact ⟨rfl, rfl, rfl⟩
            refine pt_take rfl rfl rfl rfl ?_
            apply Exists.intro
            refine ⟨fun w' hw' => ?_, ?_⟩
            · refine wp_run rfl (exec_loadP 25 rfl (ad.add (0 * 32)) rfl (u8s y) 32 5 (HCY.out w' (f_bel16.trans (hw'.mono hWgs))) Tryd.underlying25 (by rw [info_dig, HUY.out])) ?_
              exact ⟨rfl, rfl, rfl⟩
            refine pt_take rfl rfl rfl rfl ?_
            apply Exists.intro
            refine ⟨fun w' hw' => ?_, ?_⟩
            · refine wp_run rfl (exec_loadA 25 rfl _ rfl 25 _ 32 5 (f_l16.past hw' hgl15) Tryd.underlying25 (by rw [info_dig, HUX.out])) ?_
              exact ⟨rfl, rfl, rfl⟩
            refine pt_step rfl ?_
            go_wp2_with fail
            refine (pair_any y x _ HYL.out HXL.out f_k16).mono ?_
            rintro e t17 ⟨rfl, c17⟩
            rw [← HD1.out]
            go_wp2_with fail
            refine ⟨rfl, c17.mono f_zs16, ?_⟩
            have f_l17 := f_l16.past c17 f_l16.lt
            have f_k17 := f_k16.past c17
            have f_bel17 := f_bel16.trans (c17.mono f_bel16.size)
            have f_x17 := f_x16.past c17 f_x16.lt
            have f_s17 := f_s16.past c17 f_s16.lt
            have f_zB17 := Nat.le_trans f_zs16 c17.size
            clear f_l16 f_k16 f_bel16 f_x16 f_s16 f_zs16 c17
            refine pt_step rfl ?_
            go_wp2_with (refine wp_storeA 25 (.tmp 9) (.tmp 60) rfl rfl gs rfl 25 (u8s D) (u8s E) rfl f_s17 (by rw [info_dig, HUE.out]) (by rw [HUD.out, HUE.out]) (u8s_one _) rfl ?_; intro y18 h18 k18)
            refine ⟨rfl, k18.below (fun q hq => by omega) f_zB17, ?_⟩
            change Exit.then _ _ Exit.normal _ _
            have f_l18 := Blk.keep f_l17 k18 (by omega)
            have f_x18 := Blk.keep f_x17 k18 (by omega)
            have f_bel18 := Below.trans f_bel17 (k18.below (n := W.heap.size) (fun q hq => by omega) (Below.size f_bel17))
            have f_k18 := KIs.keep f_k17 k18 (by have := HGT.out; omega)
            clear f_l17 f_x17 f_bel17 f_k17 f_s17
            clear f_zB17
            go_upto_region 11 with (fail)
            have lt_s := Blk.lt h18
            refine wp_region_pt (y18.heap.size) (.take 0 (.take 1 (.take 2 (.take 3 (.take 4 (.two 5 (.take 6 (.take 7 (.take 8 (.step 9 (.step 10 (.take 11 .done)))))) 9 (.step 5 (.take 6 (.take 7 (.take 8 (.step 10 (.take 11 .done)))))))))))) (by kernel_rfl) (by kernel_rfl) (by kernel_rfl) (fun _ _ h => h) ?_
            have bd19 : Below y18.heap.size y18 y18.drew := (Below.refl _ _).drew
            have zB19 : y18.heap.size ≤ y18.drew.heap.size := bd19.size
            have f_l19 := f_l18.past bd19 f_l18.lt
            have f_x19 := f_x18.past bd19 f_x18.lt
            have f_bel19 := f_bel18.trans (bd19.mono f_bel18.size)
            have f_k19 := f_k18.past bd19
            have f_s19 := h18.past bd19 h18.lt
            clear f_l18 f_x18 f_bel18 f_k18 h18
            obtain ⟨u19, hu19⟩ : ∃ u, u = y18.drew := ⟨_, rfl⟩
            rw [← hu19] at f_l19 f_x19 f_bel19 f_k19 f_s19 zB19 bd19 ⊢
            clear hu19 bd19
            refine pt_take rfl rfl rfl rfl ?_
            apply Exists.intro
            refine ⟨fun w' hw' => ?_, ?_⟩
            · refine wp_run rfl (exec_loadA 25 rfl _ rfl 25 _ 32 5 (f_s19.past hw' lt_s) Tryd.underlying25 (by rw [info_dig, HUE.out])) ?_
              exact ⟨rfl, rfl, rfl⟩
            first | refine pt_skip rfl rfl rfl rfl ?_ | (refine pt_take rfl rfl rfl rfl ?_; apply Exists.intro; refine ⟨fun w' hw' => ?_, ?_⟩; focus ((repeat (first | go_skip | go_guarded | go_step | go_upon | go_back)); exact ⟨rfl, rfl, rfl⟩))
            first | refine pt_skip rfl rfl rfl rfl ?_ | (refine pt_take rfl rfl rfl rfl ?_; apply Exists.intro; refine ⟨fun w' hw' => ?_, ?_⟩; focus ((repeat (first | go_skip | go_guarded | go_step | go_upon | go_back)); exact ⟨rfl, rfl, rfl⟩))
            first | refine pt_skip rfl rfl rfl rfl ?_ | (refine pt_take rfl rfl rfl rfl ?_; apply Exists.intro; refine ⟨fun w' hw' => ?_, ?_⟩; focus ((repeat (first | go_skip | go_guarded | go_step | go_upon | go_back)); exact ⟨rfl, rfl, rfl⟩))
            refine pt_take rfl rfl rfl rfl ?_
            apply Exists.intro
            refine ⟨fun w' hw' => ?_, ?_⟩
            · refine wp_run rfl (exec_slice rfl (HCUT.out w')) ?_
              exact ⟨rfl, rfl, rfl⟩
            refine pt_two rfl rfl ?_ ?_
            skip
            · skip
              go_wp2_with fail
              refine (HCL.out _ (HCR.out _ f_bel19) f_k19).mono ?_
              rintro e t21 ⟨rfl, c21⟩
              go_wp2_with fail
              refine ⟨rfl, c21.mono zB19, ?_⟩
              have f_l21 := f_l19.past c21 f_l19.lt
              have f_x21 := f_x19.past c21 f_x19.lt
              have f_bel21 := f_bel19.trans (c21.mono f_bel19.size)
              have f_k21 := f_k19.past c21
              have f_s21 := f_s19.past c21 f_s19.lt
              have f_zB21 := Nat.le_trans zB19 c21.size
              clear f_l19 f_x19 f_bel19 f_k19 f_s19 zB19 c21
              first | refine pt_skip rfl rfl rfl rfl ?_ | (refine pt_take rfl rfl rfl rfl ?_; apply Exists.intro; refine ⟨fun w' hw' => ?_, ?_⟩; focus ((repeat (first | go_skip | go_guarded | go_step | go_upon | go_back)); exact ⟨rfl, rfl, rfl⟩))
              first | refine pt_skip rfl rfl rfl rfl ?_ | (refine pt_take rfl rfl rfl rfl ?_; apply Exists.intro; refine ⟨fun w' hw' => ?_, ?_⟩; focus ((repeat (first | go_skip | go_guarded | go_step | go_upon | go_back)); exact ⟨rfl, rfl, rfl⟩))
              first | refine pt_skip rfl rfl rfl rfl ?_ | (refine pt_take rfl rfl rfl rfl ?_; apply Exists.intro; refine ⟨fun w' hw' => ?_, ?_⟩; focus ((repeat (first | go_skip | go_guarded | go_step | go_upon | go_back)); exact ⟨rfl, rfl, rfl⟩))
              have s22 := Blk.new t21 25 (u8s z32)
              have d22 : Below t21.heap.size t21 (t21.alloc (.cells (u8s z32).toArray 25)) := (Below.refl _ _).alloc (Nat.le_refl _) _
              refine pt_step rfl ?_
              go_wp2_with fail
              refine ⟨rfl, d22.mono f_zB21, ?_⟩
              have e22 := Nat.le_trans f_zB21 d22.size
              refine pt_step rfl ?_
              have zpre22 := f_zB21
              go_wp2_with (refine wp_storeA 25 (.tmp 10) (.tmp 68) rfl rfl t21.heap.size rfl 25 (u8s z32) (u8s X) rfl s22 (by rw [info_dig, HUXX.out]) (by first | (rw [HUXX.out]; rfl) | rfl) (u8s_one _) rfl ?_; intro y22 h22 k22)
              have f22 : Below t21.heap.size t21 y22 := (d22).trans ((k22.mono (O' := fun q => q < t21.heap.size) (fun q hq => by omega)).below (fun q hq => hq) (d22).size)
              refine ⟨rfl, (k22.mono (O' := fun q => q < t21.heap.size) (fun q hq => by omega)).below (fun q hq => by have := f_zB21; omega) (e22), ?_⟩
              have f_l22 := f_l21.past f22 f_l21.lt
              have f_x22 := f_x21.past f22 f_x21.lt
              have f_bel22 := f_bel21.trans (f22.mono f_bel21.size)
              have f_k22 := f_k21.past f22
              have f_s22 := f_s21.past f22 f_s21.lt
              have f_zB22 := Nat.le_trans f_zB21 f22.size
              clear f_l21 f_x21 f_bel21 f_k21 f_s21 f_zB21 k22 f22 d22 e22 s22
              obtain ⟨gz, hgz⟩ : ∃ g, g = t21.heap.size := ⟨_, rfl⟩
              have zg_z := zpre22
              rw [← hgz] at h22 zg_z ⊢
              clear hgz
              first | refine pt_skip rfl rfl rfl rfl ?_ | (refine pt_take rfl rfl rfl rfl ?_; apply Exists.intro; refine ⟨fun w' hw' => ?_, ?_⟩; focus ((repeat (first | go_skip | go_guarded | go_step | go_upon | go_back)); exact ⟨rfl, rfl, rfl⟩))
              change Exit.then _ _ Exit.normal _ _
              clear f_zB22
              go_wp2_with (first
                | (refine wp_run rfl (exec_loadA 25 rfl gx rfl 25 _ 32 5 f_x22 Tryd.underlying25 (by rw [info_dig, HUXX.out])) ?_)
                | (refine wp_run rfl (exec_loadA 25 rfl gz rfl 25 _ 32 5 h22 Tryd.underlying25 (by rw [info_dig, HUXX.out])) ?_)
                | (refine wp_run rfl (exec_eqB rfl X X rfl rfl HXXL.out HXXL.out true (beq_self_eq_true _) _) ?_))
              go_ret
              rw [HGL.out] at *
              exact ⟨rfl, f_bel22⟩
            · skip
              have s23 := Blk.new u19 25 (u8s z32)
              have d23 : Below u19.heap.size u19 (u19.alloc (.cells (u8s z32).toArray 25)) := (Below.refl _ _).alloc (Nat.le_refl _) _
              go_wp2_with fail
              refine ⟨rfl, d23.mono zB19, ?_⟩
              have f_l23 := f_l19.past d23 f_l19.lt
              have f_x23 := f_x19.past d23 f_x19.lt
              have f_bel23 := f_bel19.trans (d23.mono f_bel19.size)
              have f_k23 := f_k19.past d23
              have f_s23 := f_s19.past d23 f_s19.lt
              have f_zB23 := Nat.le_trans zB19 d23.size
              refine pt_step rfl ?_
              go_wp2_with fail
              refine (HCL.out _ (HCR.out _ f_bel23) f_k23).mono ?_
              rintro e t23 ⟨rfl, c23⟩
              go_wp2_with fail
              refine ⟨rfl, c23.mono f_zB23, ?_⟩
              have e23 := Nat.le_trans f_zB23 c23.size
              have q23 := s23.past c23 s23.lt
              have m23 := d23.trans (c23.mono d23.size)
              clear s23 c23 d23 f_l23 f_x23 f_bel23 f_k23 f_s23 f_zB23
              first | refine pt_skip rfl rfl rfl rfl ?_ | (refine pt_take rfl rfl rfl rfl ?_; apply Exists.intro; refine ⟨fun w' hw' => ?_, ?_⟩; focus ((repeat (first | go_skip | go_guarded | go_step | go_upon | go_back)); exact ⟨rfl, rfl, rfl⟩))
              first | refine pt_skip rfl rfl rfl rfl ?_ | (refine pt_take rfl rfl rfl rfl ?_; apply Exists.intro; refine ⟨fun w' hw' => ?_, ?_⟩; focus ((repeat (first | go_skip | go_guarded | go_step | go_upon | go_back)); exact ⟨rfl, rfl, rfl⟩))
              first | refine pt_skip rfl rfl rfl rfl ?_ | (refine pt_take rfl rfl rfl rfl ?_; apply Exists.intro; refine ⟨fun w' hw' => ?_, ?_⟩; focus ((repeat (first | go_skip | go_guarded | go_step | go_upon | go_back)); exact ⟨rfl, rfl, rfl⟩))
              refine pt_step rfl ?_
              have s23 := q23
              clear q23
              have zpre23 := zB19
              go_wp2_with (refine wp_storeA 25 (.tmp 10) (.tmp 68) rfl rfl u19.heap.size rfl 25 (u8s z32) (u8s X) rfl s23 (by rw [info_dig, HUXX.out]) (by first | (rw [HUXX.out]; rfl) | rfl) (u8s_one _) rfl ?_; intro y23 h23 k23)
              have f23 : Below u19.heap.size u19 y23 := (m23).trans ((k23.mono (O' := fun q => q < u19.heap.size) (fun q hq => by omega)).below (fun q hq => hq) (m23).size)
              refine ⟨rfl, (k23.mono (O' := fun q => q < u19.heap.size) (fun q hq => by omega)).below (fun q hq => by have := zB19; omega) (e23), ?_⟩
              have f_l23 := f_l19.past f23 f_l19.lt
              have f_x23 := f_x19.past f23 f_x19.lt
              have f_bel23 := f_bel19.trans (f23.mono f_bel19.size)
              have f_k23 := f_k19.past f23
              have f_s23 := f_s19.past f23 f_s19.lt
              have f_zB23 := Nat.le_trans zB19 f23.size
              clear f_l19 f_x19 f_bel19 f_k19 f_s19 zB19 k23 f23 m23 e23 s23
              obtain ⟨gz, hgz⟩ : ∃ g, g = u19.heap.size := ⟨_, rfl⟩
              have zg_z := zpre23
              rw [← hgz] at h23 zg_z ⊢
              clear hgz
              first | refine pt_skip rfl rfl rfl rfl ?_ | (refine pt_take rfl rfl rfl rfl ?_; apply Exists.intro; refine ⟨fun w' hw' => ?_, ?_⟩; focus ((repeat (first | go_skip | go_guarded | go_step | go_upon | go_back)); exact ⟨rfl, rfl, rfl⟩))
              change Exit.then _ _ Exit.normal _ _
              clear f_zB23
              go_wp2_with (first
                | (refine wp_run rfl (exec_loadA 25 rfl gx rfl 25 _ 32 5 f_x23 Tryd.underlying25 (by rw [info_dig, HUXX.out])) ?_)
                | (refine wp_run rfl (exec_loadA 25 rfl gz rfl 25 _ 32 5 h23 Tryd.underlying25 (by rw [info_dig, HUXX.out])) ?_)
                | (refine wp_run rfl (exec_eqB rfl X X rfl rfl HXXL.out HXXL.out true (beq_self_eq_true _) _) ?_))
              go_ret
              rw [HGL.out] at *
              exact ⟨rfl, f_bel23⟩
        · skip
          obtain ⟨E, hE⟩ : ∃ E, E = Kt.stp x y i := ⟨_, rfl⟩
          have HEL := Lib.hid (show E.length = 32 by rw [hE, Kt.stp_len])
          have HUE := Lib.hid (show (u8s E).length = 32 by rw [u8s_length, HEL.out])
          have HRES := Lib.hid (show Kt.climb E (i / 2) (F.drop 32) m = X by rw [hE, HY.out, HXX.out, Kt.climb_tail])
          have HCL : Hid (∀ w1 : World, Row w1 w1.heap.size 32 m (.slice A' m cap') (u8s (F.drop 32)) → KIs 1 w1 → Calls Tryd.prog 19 #[.agg (u8s E).toArray, .int .i64 ((i : Int) / 2), .slice A' m cap'] w1 fun e w' => e = .returned (.tuple #[.agg (u8s X).toArray, .int .i64 0]) ∧ Below w1.heap.size w1 w') := Lib.hid fun w1 h1 h2 => by
            have h := climb_yes _ E (F.drop 32) m (i / 2) w1 h1 HEL.out (by omega) (by have h9 := HIN.out; rw [Nat.pow_succ] at h9; omega) h2
            rw [HRES.out] at h
            exact h
          have he : (((i : Int) % 2) == 1) = false := by simp; omega
          have HD := Lib.hid (show E = Sha.tag Sha.pairT (x ++ y) by rw [hE]; unfold Kt.stp; rw [if_pos (by omega)]; rfl)
          clear hE hev
          go_upto_region 8 with (fail)
          have lt_l := Blk.lt f_l3
          refine wp_region_pt (y3.heap.size) (.take 0 (.take 1 (.take 2 (.take 3 (.two 4 (.step 5 (.step 6 .done)) 5 (.step 4 (.step 6 .done))))))) (by kernel_rfl) (by kernel_rfl) (by kernel_rfl) (fun _ _ h => h) ?_
          have bd24 : Below y3.heap.size y3 y3.drew := (Below.refl _ _).drew
          have zB24 : y3.heap.size ≤ y3.drew.heap.size := bd24.size
          have f_l24 := f_l3.past bd24 f_l3.lt
          have f_k24 := f_k3.past bd24
          have f_bel24 := f_bel3.trans (bd24.mono f_bel3.size)
          have f_x24 := h3.past bd24 h3.lt
          clear f_l3 f_k3 f_bel3 h3
          obtain ⟨u24, hu24⟩ : ∃ u, u = y3.drew := ⟨_, rfl⟩
          rw [← hu24] at f_l24 f_k24 f_bel24 f_x24 zB24 bd24 ⊢
          clear hu24 bd24
          refine pt_take rfl rfl rfl rfl ?_
          apply Exists.intro
          refine ⟨fun w' hw' => ?_, ?_⟩
          · refine wp_run rfl (exec_loadA 25 rfl _ rfl 25 _ 32 5 (f_l24.past hw' lt_l) Tryd.underlying25 (by rw [info_dig, HUX.out])) ?_
            exact ⟨rfl, rfl, rfl⟩
          first | refine pt_skip rfl rfl rfl rfl ?_ | (refine pt_take rfl rfl rfl rfl ?_; apply Exists.intro; refine ⟨fun w' hw' => ?_, ?_⟩; focus ((repeat (first | go_skip | go_guarded | go_step | go_upon | go_back)); exact ⟨rfl, rfl, rfl⟩))
          refine pt_take rfl rfl rfl rfl ?_
          apply Exists.intro
          refine ⟨fun w' hw' => ?_, ?_⟩
          · refine wp_run rfl (exec_ixS 29 25 32 Tryd.underlying29 info_dig w' rfl rfl _ _ 0 rfl rfl hlt0 (q := ad.add (0 * 32)) rfl) ?_
            exact ⟨rfl, rfl, rfl⟩
          refine pt_take rfl rfl rfl rfl ?_
          apply Exists.intro
          refine ⟨fun w' hw' => ?_, ?_⟩
          · refine wp_run rfl (exec_loadP 25 rfl (ad.add (0 * 32)) rfl (u8s y) 32 5 (HCY.out w' (f_bel24.trans (hw'.mono (by have := HW0.out; omega)))) Tryd.underlying25 (by rw [info_dig, HUY.out])) ?_
            exact ⟨rfl, rfl, rfl⟩
          refine pt_two rfl rfl ?_ ?_
          · skip
            go_wp2_with fail
            refine (pair_any x y _ HXL.out HYL.out f_k24).mono ?_
            rintro e t25 ⟨rfl, c25⟩
            rw [← HD.out]
            go_wp2_with fail
            refine ⟨rfl, c25.mono zB24, ?_⟩
            have f_l25 := f_l24.past c25 f_l24.lt
            have f_k25 := f_k24.past c25
            have f_bel25 := f_bel24.trans (c25.mono f_bel24.size)
            have f_x25 := f_x24.past c25 f_x24.lt
            have f_zB25 := Nat.le_trans zB24 c25.size
            clear f_l24 f_k24 f_bel24 f_x24 zB24 c25
            have s26 := Blk.new t25 25 (u8s z32)
            have d26 : Below t25.heap.size t25 (t25.alloc (.cells (u8s z32).toArray 25)) := (Below.refl _ _).alloc (Nat.le_refl _) _
            refine pt_step rfl ?_
            go_wp2_with fail
            refine ⟨rfl, d26.mono f_zB25, ?_⟩
            have e26 := Nat.le_trans f_zB25 d26.size
            refine pt_step rfl ?_
            have zpre26 := f_zB25
            go_wp2_with (refine wp_storeA 25 (.tmp 9) (.tmp 52) rfl rfl t25.heap.size rfl 25 (u8s z32) (u8s E) rfl s26 (by rw [info_dig, HUE.out]) (by first | (rw [HUE.out]; rfl) | rfl) (u8s_one _) rfl ?_; intro y26 h26 k26)
            have f26 : Below t25.heap.size t25 y26 := (d26).trans ((k26.mono (O' := fun q => q < t25.heap.size) (fun q hq => by omega)).below (fun q hq => hq) (d26).size)
            refine ⟨rfl, (k26.mono (O' := fun q => q < t25.heap.size) (fun q hq => by omega)).below (fun q hq => by have := f_zB25; omega) (e26), ?_⟩
            have f_l26 := f_l25.past f26 f_l25.lt
            have f_k26 := f_k25.past f26
            have f_bel26 := f_bel25.trans (f26.mono f_bel25.size)
            have f_x26 := f_x25.past f26 f_x25.lt
            have f_zB26 := Nat.le_trans f_zB25 f26.size
            clear f_l25 f_k25 f_bel25 f_x25 f_zB25 k26 f26 d26 e26 s26
            obtain ⟨gs, hgs⟩ : ∃ g, g = t25.heap.size := ⟨_, rfl⟩
            have zg_s := zpre26
            rw [← hgs] at h26 zg_s ⊢
            clear hgs
            change Exit.then _ _ Exit.normal _ _
            clear f_zB26
            go_upto_region 11 with (fail)
            have lt_s := Blk.lt h26
            refine wp_region_pt (y26.heap.size) (.take 0 (.take 1 (.take 2 (.take 3 (.take 4 (.two 5 (.take 6 (.take 7 (.take 8 (.step 9 (.step 10 (.take 11 .done)))))) 9 (.step 5 (.take 6 (.take 7 (.take 8 (.step 10 (.take 11 .done)))))))))))) (by kernel_rfl) (by kernel_rfl) (by kernel_rfl) (fun _ _ h => h) ?_
            have bd27 : Below y26.heap.size y26 y26.drew := (Below.refl _ _).drew
            have zB27 : y26.heap.size ≤ y26.drew.heap.size := bd27.size
            have f_l27 := f_l26.past bd27 f_l26.lt
            have f_k27 := f_k26.past bd27
            have f_bel27 := f_bel26.trans (bd27.mono f_bel26.size)
            have f_x27 := f_x26.past bd27 f_x26.lt
            have f_s27 := h26.past bd27 h26.lt
            clear f_l26 f_k26 f_bel26 f_x26 h26
            obtain ⟨u27, hu27⟩ : ∃ u, u = y26.drew := ⟨_, rfl⟩
            rw [← hu27] at f_l27 f_k27 f_bel27 f_x27 f_s27 zB27 bd27 ⊢
            clear hu27 bd27
            refine pt_take rfl rfl rfl rfl ?_
            apply Exists.intro
            refine ⟨fun w' hw' => ?_, ?_⟩
            · refine wp_run rfl (exec_loadA 25 rfl _ rfl 25 _ 32 5 (f_s27.past hw' lt_s) Tryd.underlying25 (by rw [info_dig, HUE.out])) ?_
              exact ⟨rfl, rfl, rfl⟩
            first | refine pt_skip rfl rfl rfl rfl ?_ | (refine pt_take rfl rfl rfl rfl ?_; apply Exists.intro; refine ⟨fun w' hw' => ?_, ?_⟩; focus ((repeat (first | go_skip | go_guarded | go_step | go_upon | go_back)); exact ⟨rfl, rfl, rfl⟩))
            first | refine pt_skip rfl rfl rfl rfl ?_ | (refine pt_take rfl rfl rfl rfl ?_; apply Exists.intro; refine ⟨fun w' hw' => ?_, ?_⟩; focus ((repeat (first | go_skip | go_guarded | go_step | go_upon | go_back)); exact ⟨rfl, rfl, rfl⟩))
            first | refine pt_skip rfl rfl rfl rfl ?_ | (refine pt_take rfl rfl rfl rfl ?_; apply Exists.intro; refine ⟨fun w' hw' => ?_, ?_⟩; focus ((repeat (first | go_skip | go_guarded | go_step | go_upon | go_back)); exact ⟨rfl, rfl, rfl⟩))
            refine pt_take rfl rfl rfl rfl ?_
            apply Exists.intro
            refine ⟨fun w' hw' => ?_, ?_⟩
            · refine wp_run rfl (exec_slice rfl (HCUT.out w')) ?_
              exact ⟨rfl, rfl, rfl⟩
            refine pt_two rfl rfl ?_ ?_
            skip
            · skip
              go_wp2_with fail
              refine (HCL.out _ (HCR.out _ f_bel27) f_k27).mono ?_
              rintro e t29 ⟨rfl, c29⟩
              go_wp2_with fail
              refine ⟨rfl, c29.mono zB27, ?_⟩
              have f_l29 := f_l27.past c29 f_l27.lt
              have f_k29 := f_k27.past c29
              have f_bel29 := f_bel27.trans (c29.mono f_bel27.size)
              have f_x29 := f_x27.past c29 f_x27.lt
              have f_s29 := f_s27.past c29 f_s27.lt
              have f_zB29 := Nat.le_trans zB27 c29.size
              clear f_l27 f_k27 f_bel27 f_x27 f_s27 zB27 c29
              first | refine pt_skip rfl rfl rfl rfl ?_ | (refine pt_take rfl rfl rfl rfl ?_; apply Exists.intro; refine ⟨fun w' hw' => ?_, ?_⟩; focus ((repeat (first | go_skip | go_guarded | go_step | go_upon | go_back)); exact ⟨rfl, rfl, rfl⟩))
              first | refine pt_skip rfl rfl rfl rfl ?_ | (refine pt_take rfl rfl rfl rfl ?_; apply Exists.intro; refine ⟨fun w' hw' => ?_, ?_⟩; focus ((repeat (first | go_skip | go_guarded | go_step | go_upon | go_back)); exact ⟨rfl, rfl, rfl⟩))
              first | refine pt_skip rfl rfl rfl rfl ?_ | (refine pt_take rfl rfl rfl rfl ?_; apply Exists.intro; refine ⟨fun w' hw' => ?_, ?_⟩; focus ((repeat (first | go_skip | go_guarded | go_step | go_upon | go_back)); exact ⟨rfl, rfl, rfl⟩))
              have s30 := Blk.new t29 25 (u8s z32)
              have d30 : Below t29.heap.size t29 (t29.alloc (.cells (u8s z32).toArray 25)) := (Below.refl _ _).alloc (Nat.le_refl _) _
              refine pt_step rfl ?_
              go_wp2_with fail
              refine ⟨rfl, d30.mono f_zB29, ?_⟩
              have e30 := Nat.le_trans f_zB29 d30.size
              refine pt_step rfl ?_
              have zpre30 := f_zB29
              go_wp2_with (refine wp_storeA 25 (.tmp 10) (.tmp 68) rfl rfl t29.heap.size rfl 25 (u8s z32) (u8s X) rfl s30 (by rw [info_dig, HUXX.out]) (by first | (rw [HUXX.out]; rfl) | rfl) (u8s_one _) rfl ?_; intro y30 h30 k30)
              have f30 : Below t29.heap.size t29 y30 := (d30).trans ((k30.mono (O' := fun q => q < t29.heap.size) (fun q hq => by omega)).below (fun q hq => hq) (d30).size)
              refine ⟨rfl, (k30.mono (O' := fun q => q < t29.heap.size) (fun q hq => by omega)).below (fun q hq => by have := f_zB29; omega) (e30), ?_⟩
              have f_l30 := f_l29.past f30 f_l29.lt
              have f_k30 := f_k29.past f30
              have f_bel30 := f_bel29.trans (f30.mono f_bel29.size)
              have f_x30 := f_x29.past f30 f_x29.lt
              have f_s30 := f_s29.past f30 f_s29.lt
              have f_zB30 := Nat.le_trans f_zB29 f30.size
              clear f_l29 f_k29 f_bel29 f_x29 f_s29 f_zB29 k30 f30 d30 e30 s30
              obtain ⟨gz, hgz⟩ : ∃ g, g = t29.heap.size := ⟨_, rfl⟩
              have zg_z := zpre30
              rw [← hgz] at h30 zg_z ⊢
              clear hgz
              first | refine pt_skip rfl rfl rfl rfl ?_ | (refine pt_take rfl rfl rfl rfl ?_; apply Exists.intro; refine ⟨fun w' hw' => ?_, ?_⟩; focus ((repeat (first | go_skip | go_guarded | go_step | go_upon | go_back)); exact ⟨rfl, rfl, rfl⟩))
              change Exit.then _ _ Exit.normal _ _
              clear f_zB30
              go_wp2_with (first
                | (refine wp_run rfl (exec_loadA 25 rfl gx rfl 25 _ 32 5 f_x30 Tryd.underlying25 (by rw [info_dig, HUXX.out])) ?_)
                | (refine wp_run rfl (exec_loadA 25 rfl gz rfl 25 _ 32 5 h30 Tryd.underlying25 (by rw [info_dig, HUXX.out])) ?_)
                | (refine wp_run rfl (exec_eqB rfl X X rfl rfl HXXL.out HXXL.out true (beq_self_eq_true _) _) ?_))
              go_ret
              rw [HGL.out] at *
              exact ⟨rfl, f_bel30⟩
            · skip
              have s31 := Blk.new u27 25 (u8s z32)
              have d31 : Below u27.heap.size u27 (u27.alloc (.cells (u8s z32).toArray 25)) := (Below.refl _ _).alloc (Nat.le_refl _) _
              go_wp2_with fail
              refine ⟨rfl, d31.mono zB27, ?_⟩
              have f_l31 := f_l27.past d31 f_l27.lt
              have f_k31 := f_k27.past d31
              have f_bel31 := f_bel27.trans (d31.mono f_bel27.size)
              have f_x31 := f_x27.past d31 f_x27.lt
              have f_s31 := f_s27.past d31 f_s27.lt
              have f_zB31 := Nat.le_trans zB27 d31.size
              refine pt_step rfl ?_
              go_wp2_with fail
              refine (HCL.out _ (HCR.out _ f_bel31) f_k31).mono ?_
              rintro e t31 ⟨rfl, c31⟩
              go_wp2_with fail
              refine ⟨rfl, c31.mono f_zB31, ?_⟩
              have e31 := Nat.le_trans f_zB31 c31.size
              have q31 := s31.past c31 s31.lt
              have m31 := d31.trans (c31.mono d31.size)
              clear s31 c31 d31 f_l31 f_k31 f_bel31 f_x31 f_s31 f_zB31
              first | refine pt_skip rfl rfl rfl rfl ?_ | (refine pt_take rfl rfl rfl rfl ?_; apply Exists.intro; refine ⟨fun w' hw' => ?_, ?_⟩; focus ((repeat (first | go_skip | go_guarded | go_step | go_upon | go_back)); exact ⟨rfl, rfl, rfl⟩))
              first | refine pt_skip rfl rfl rfl rfl ?_ | (refine pt_take rfl rfl rfl rfl ?_; apply Exists.intro; refine ⟨fun w' hw' => ?_, ?_⟩; focus ((repeat (first | go_skip | go_guarded | go_step | go_upon | go_back)); exact ⟨rfl, rfl, rfl⟩))
              first | refine pt_skip rfl rfl rfl rfl ?_ | (refine pt_take rfl rfl rfl rfl ?_; apply Exists.intro; refine ⟨fun w' hw' => ?_, ?_⟩; focus ((repeat (first | go_skip | go_guarded | go_step | go_upon | go_back)); exact ⟨rfl, rfl, rfl⟩))
              refine pt_step rfl ?_
              have s31 := q31
              clear q31
              have zpre31 := zB27
              go_wp2_with (refine wp_storeA 25 (.tmp 10) (.tmp 68) rfl rfl u27.heap.size rfl 25 (u8s z32) (u8s X) rfl s31 (by rw [info_dig, HUXX.out]) (by first | (rw [HUXX.out]; rfl) | rfl) (u8s_one _) rfl ?_; intro y31 h31 k31)
              have f31 : Below u27.heap.size u27 y31 := (m31).trans ((k31.mono (O' := fun q => q < u27.heap.size) (fun q hq => by omega)).below (fun q hq => hq) (m31).size)
              refine ⟨rfl, (k31.mono (O' := fun q => q < u27.heap.size) (fun q hq => by omega)).below (fun q hq => by have := zB27; omega) (e31), ?_⟩
              have f_l31 := f_l27.past f31 f_l27.lt
              have f_k31 := f_k27.past f31
              have f_bel31 := f_bel27.trans (f31.mono f_bel27.size)
              have f_x31 := f_x27.past f31 f_x27.lt
              have f_s31 := f_s27.past f31 f_s27.lt
              have f_zB31 := Nat.le_trans zB27 f31.size
              clear f_l27 f_k27 f_bel27 f_x27 f_s27 zB27 k31 f31 m31 e31 s31
              obtain ⟨gz, hgz⟩ : ∃ g, g = u27.heap.size := ⟨_, rfl⟩
              have zg_z := zpre31
              rw [← hgz] at h31 zg_z ⊢
              clear hgz
              first | refine pt_skip rfl rfl rfl rfl ?_ | (refine pt_take rfl rfl rfl rfl ?_; apply Exists.intro; refine ⟨fun w' hw' => ?_, ?_⟩; focus ((repeat (first | go_skip | go_guarded | go_step | go_upon | go_back)); exact ⟨rfl, rfl, rfl⟩))
              change Exit.then _ _ Exit.normal _ _
              clear f_zB31
              go_wp2_with (first
                | (refine wp_run rfl (exec_loadA 25 rfl gx rfl 25 _ 32 5 f_x31 Tryd.underlying25 (by rw [info_dig, HUXX.out])) ?_)
                | (refine wp_run rfl (exec_loadA 25 rfl gz rfl 25 _ 32 5 h31 Tryd.underlying25 (by rw [info_dig, HUXX.out])) ?_)
                | (refine wp_run rfl (exec_eqB rfl X X rfl rfl HXXL.out HXXL.out true (beq_self_eq_true _) _) ?_))
              go_ret
              rw [HGL.out] at *
              exact ⟨rfl, f_bel31⟩
          · skip
            have s32 := Blk.new u24 25 (u8s z32)
            have d32 : Below u24.heap.size u24 (u24.alloc (.cells (u8s z32).toArray 25)) := (Below.refl _ _).alloc (Nat.le_refl _) _
            go_wp2_with fail
            refine ⟨rfl, d32.mono zB24, ?_⟩
            have f_l32 := f_l24.past d32 f_l24.lt
            have f_k32 := f_k24.past d32
            have f_bel32 := f_bel24.trans (d32.mono f_bel24.size)
            have f_x32 := f_x24.past d32 f_x24.lt
            have f_zB32 := Nat.le_trans zB24 d32.size
            refine pt_step rfl ?_
            go_wp2_with fail
            refine (pair_any x y _ HXL.out HYL.out f_k32).mono ?_
            rintro e t32 ⟨rfl, c32⟩
            rw [← HD.out]
            go_wp2_with fail
            refine ⟨rfl, c32.mono f_zB32, ?_⟩
            have e32 := Nat.le_trans f_zB32 c32.size
            have q32 := s32.past c32 s32.lt
            have m32 := d32.trans (c32.mono d32.size)
            clear s32 c32 d32 f_l32 f_k32 f_bel32 f_x32 f_zB32
            refine pt_step rfl ?_
            have s32 := q32
            clear q32
            have zpre32 := zB24
            go_wp2_with (refine wp_storeA 25 (.tmp 9) (.tmp 52) rfl rfl u24.heap.size rfl 25 (u8s z32) (u8s E) rfl s32 (by rw [info_dig, HUE.out]) (by first | (rw [HUE.out]; rfl) | rfl) (u8s_one _) rfl ?_; intro y32 h32 k32)
            have f32 : Below u24.heap.size u24 y32 := (m32).trans ((k32.mono (O' := fun q => q < u24.heap.size) (fun q hq => by omega)).below (fun q hq => hq) (m32).size)
            refine ⟨rfl, (k32.mono (O' := fun q => q < u24.heap.size) (fun q hq => by omega)).below (fun q hq => by have := zB24; omega) (e32), ?_⟩
            have f_l32 := f_l24.past f32 f_l24.lt
            have f_k32 := f_k24.past f32
            have f_bel32 := f_bel24.trans (f32.mono f_bel24.size)
            have f_x32 := f_x24.past f32 f_x24.lt
            have f_zB32 := Nat.le_trans zB24 f32.size
            clear f_l24 f_k24 f_bel24 f_x24 zB24 k32 f32 m32 e32 s32
            obtain ⟨gs, hgs⟩ : ∃ g, g = u24.heap.size := ⟨_, rfl⟩
            have zg_s := zpre32
            rw [← hgs] at h32 zg_s ⊢
            clear hgs
            change Exit.then _ _ Exit.normal _ _
            clear f_zB32
            go_upto_region 11 with (fail)
            have lt_s := Blk.lt h32
            refine wp_region_pt (y32.heap.size) (.take 0 (.take 1 (.take 2 (.take 3 (.take 4 (.two 5 (.take 6 (.take 7 (.take 8 (.step 9 (.step 10 (.take 11 .done)))))) 9 (.step 5 (.take 6 (.take 7 (.take 8 (.step 10 (.take 11 .done)))))))))))) (by kernel_rfl) (by kernel_rfl) (by kernel_rfl) (fun _ _ h => h) ?_
            have bd33 : Below y32.heap.size y32 y32.drew := (Below.refl _ _).drew
            have zB33 : y32.heap.size ≤ y32.drew.heap.size := bd33.size
            have f_l33 := f_l32.past bd33 f_l32.lt
            have f_k33 := f_k32.past bd33
            have f_bel33 := f_bel32.trans (bd33.mono f_bel32.size)
            have f_x33 := f_x32.past bd33 f_x32.lt
            have f_s33 := h32.past bd33 h32.lt
            clear f_l32 f_k32 f_bel32 f_x32 h32
            obtain ⟨u33, hu33⟩ : ∃ u, u = y32.drew := ⟨_, rfl⟩
            rw [← hu33] at f_l33 f_k33 f_bel33 f_x33 f_s33 zB33 bd33 ⊢
            clear hu33 bd33
            refine pt_take rfl rfl rfl rfl ?_
            apply Exists.intro
            refine ⟨fun w' hw' => ?_, ?_⟩
            · refine wp_run rfl (exec_loadA 25 rfl _ rfl 25 _ 32 5 (f_s33.past hw' lt_s) Tryd.underlying25 (by rw [info_dig, HUE.out])) ?_
              exact ⟨rfl, rfl, rfl⟩
            first | refine pt_skip rfl rfl rfl rfl ?_ | (refine pt_take rfl rfl rfl rfl ?_; apply Exists.intro; refine ⟨fun w' hw' => ?_, ?_⟩; focus ((repeat (first | go_skip | go_guarded | go_step | go_upon | go_back)); exact ⟨rfl, rfl, rfl⟩))
            first | refine pt_skip rfl rfl rfl rfl ?_ | (refine pt_take rfl rfl rfl rfl ?_; apply Exists.intro; refine ⟨fun w' hw' => ?_, ?_⟩; focus ((repeat (first | go_skip | go_guarded | go_step | go_upon | go_back)); exact ⟨rfl, rfl, rfl⟩))
            first | refine pt_skip rfl rfl rfl rfl ?_ | (refine pt_take rfl rfl rfl rfl ?_; apply Exists.intro; refine ⟨fun w' hw' => ?_, ?_⟩; focus ((repeat (first | go_skip | go_guarded | go_step | go_upon | go_back)); exact ⟨rfl, rfl, rfl⟩))
            refine pt_take rfl rfl rfl rfl ?_
            apply Exists.intro
            refine ⟨fun w' hw' => ?_, ?_⟩
            · refine wp_run rfl (exec_slice rfl (HCUT.out w')) ?_
              exact ⟨rfl, rfl, rfl⟩
            refine pt_two rfl rfl ?_ ?_
            skip
            · skip
              go_wp2_with fail
              refine (HCL.out _ (HCR.out _ f_bel33) f_k33).mono ?_
              rintro e t35 ⟨rfl, c35⟩
              go_wp2_with fail
              refine ⟨rfl, c35.mono zB33, ?_⟩
              have f_l35 := f_l33.past c35 f_l33.lt
              have f_k35 := f_k33.past c35
              have f_bel35 := f_bel33.trans (c35.mono f_bel33.size)
              have f_x35 := f_x33.past c35 f_x33.lt
              have f_s35 := f_s33.past c35 f_s33.lt
              have f_zB35 := Nat.le_trans zB33 c35.size
              clear f_l33 f_k33 f_bel33 f_x33 f_s33 zB33 c35
              first | refine pt_skip rfl rfl rfl rfl ?_ | (refine pt_take rfl rfl rfl rfl ?_; apply Exists.intro; refine ⟨fun w' hw' => ?_, ?_⟩; focus ((repeat (first | go_skip | go_guarded | go_step | go_upon | go_back)); exact ⟨rfl, rfl, rfl⟩))
              first | refine pt_skip rfl rfl rfl rfl ?_ | (refine pt_take rfl rfl rfl rfl ?_; apply Exists.intro; refine ⟨fun w' hw' => ?_, ?_⟩; focus ((repeat (first | go_skip | go_guarded | go_step | go_upon | go_back)); exact ⟨rfl, rfl, rfl⟩))
              first | refine pt_skip rfl rfl rfl rfl ?_ | (refine pt_take rfl rfl rfl rfl ?_; apply Exists.intro; refine ⟨fun w' hw' => ?_, ?_⟩; focus ((repeat (first | go_skip | go_guarded | go_step | go_upon | go_back)); exact ⟨rfl, rfl, rfl⟩))
              have s36 := Blk.new t35 25 (u8s z32)
              have d36 : Below t35.heap.size t35 (t35.alloc (.cells (u8s z32).toArray 25)) := (Below.refl _ _).alloc (Nat.le_refl _) _
              refine pt_step rfl ?_
              go_wp2_with fail
              refine ⟨rfl, d36.mono f_zB35, ?_⟩
              have e36 := Nat.le_trans f_zB35 d36.size
              refine pt_step rfl ?_
              have zpre36 := f_zB35
              go_wp2_with (refine wp_storeA 25 (.tmp 10) (.tmp 68) rfl rfl t35.heap.size rfl 25 (u8s z32) (u8s X) rfl s36 (by rw [info_dig, HUXX.out]) (by first | (rw [HUXX.out]; rfl) | rfl) (u8s_one _) rfl ?_; intro y36 h36 k36)
              have f36 : Below t35.heap.size t35 y36 := (d36).trans ((k36.mono (O' := fun q => q < t35.heap.size) (fun q hq => by omega)).below (fun q hq => hq) (d36).size)
              refine ⟨rfl, (k36.mono (O' := fun q => q < t35.heap.size) (fun q hq => by omega)).below (fun q hq => by have := f_zB35; omega) (e36), ?_⟩
              have f_l36 := f_l35.past f36 f_l35.lt
              have f_k36 := f_k35.past f36
              have f_bel36 := f_bel35.trans (f36.mono f_bel35.size)
              have f_x36 := f_x35.past f36 f_x35.lt
              have f_s36 := f_s35.past f36 f_s35.lt
              have f_zB36 := Nat.le_trans f_zB35 f36.size
              clear f_l35 f_k35 f_bel35 f_x35 f_s35 f_zB35 k36 f36 d36 e36 s36
              obtain ⟨gz, hgz⟩ : ∃ g, g = t35.heap.size := ⟨_, rfl⟩
              have zg_z := zpre36
              rw [← hgz] at h36 zg_z ⊢
              clear hgz
              first | refine pt_skip rfl rfl rfl rfl ?_ | (refine pt_take rfl rfl rfl rfl ?_; apply Exists.intro; refine ⟨fun w' hw' => ?_, ?_⟩; focus ((repeat (first | go_skip | go_guarded | go_step | go_upon | go_back)); exact ⟨rfl, rfl, rfl⟩))
              change Exit.then _ _ Exit.normal _ _
              clear f_zB36
              go_wp2_with (first
                | (refine wp_run rfl (exec_loadA 25 rfl gx rfl 25 _ 32 5 f_x36 Tryd.underlying25 (by rw [info_dig, HUXX.out])) ?_)
                | (refine wp_run rfl (exec_loadA 25 rfl gz rfl 25 _ 32 5 h36 Tryd.underlying25 (by rw [info_dig, HUXX.out])) ?_)
                | (refine wp_run rfl (exec_eqB rfl X X rfl rfl HXXL.out HXXL.out true (beq_self_eq_true _) _) ?_))
              go_ret
              rw [HGL.out] at *
              exact ⟨rfl, f_bel36⟩
            · skip
              have s37 := Blk.new u33 25 (u8s z32)
              have d37 : Below u33.heap.size u33 (u33.alloc (.cells (u8s z32).toArray 25)) := (Below.refl _ _).alloc (Nat.le_refl _) _
              go_wp2_with fail
              refine ⟨rfl, d37.mono zB33, ?_⟩
              have f_l37 := f_l33.past d37 f_l33.lt
              have f_k37 := f_k33.past d37
              have f_bel37 := f_bel33.trans (d37.mono f_bel33.size)
              have f_x37 := f_x33.past d37 f_x33.lt
              have f_s37 := f_s33.past d37 f_s33.lt
              have f_zB37 := Nat.le_trans zB33 d37.size
              refine pt_step rfl ?_
              go_wp2_with fail
              refine (HCL.out _ (HCR.out _ f_bel37) f_k37).mono ?_
              rintro e t37 ⟨rfl, c37⟩
              go_wp2_with fail
              refine ⟨rfl, c37.mono f_zB37, ?_⟩
              have e37 := Nat.le_trans f_zB37 c37.size
              have q37 := s37.past c37 s37.lt
              have m37 := d37.trans (c37.mono d37.size)
              clear s37 c37 d37 f_l37 f_k37 f_bel37 f_x37 f_s37 f_zB37
              first | refine pt_skip rfl rfl rfl rfl ?_ | (refine pt_take rfl rfl rfl rfl ?_; apply Exists.intro; refine ⟨fun w' hw' => ?_, ?_⟩; focus ((repeat (first | go_skip | go_guarded | go_step | go_upon | go_back)); exact ⟨rfl, rfl, rfl⟩))
              first | refine pt_skip rfl rfl rfl rfl ?_ | (refine pt_take rfl rfl rfl rfl ?_; apply Exists.intro; refine ⟨fun w' hw' => ?_, ?_⟩; focus ((repeat (first | go_skip | go_guarded | go_step | go_upon | go_back)); exact ⟨rfl, rfl, rfl⟩))
              first | refine pt_skip rfl rfl rfl rfl ?_ | (refine pt_take rfl rfl rfl rfl ?_; apply Exists.intro; refine ⟨fun w' hw' => ?_, ?_⟩; focus ((repeat (first | go_skip | go_guarded | go_step | go_upon | go_back)); exact ⟨rfl, rfl, rfl⟩))
              refine pt_step rfl ?_
              have s37 := q37
              clear q37
              have zpre37 := zB33
              go_wp2_with (refine wp_storeA 25 (.tmp 10) (.tmp 68) rfl rfl u33.heap.size rfl 25 (u8s z32) (u8s X) rfl s37 (by rw [info_dig, HUXX.out]) (by first | (rw [HUXX.out]; rfl) | rfl) (u8s_one _) rfl ?_; intro y37 h37 k37)
              have f37 : Below u33.heap.size u33 y37 := (m37).trans ((k37.mono (O' := fun q => q < u33.heap.size) (fun q hq => by omega)).below (fun q hq => hq) (m37).size)
              refine ⟨rfl, (k37.mono (O' := fun q => q < u33.heap.size) (fun q hq => by omega)).below (fun q hq => by have := zB33; omega) (e37), ?_⟩
              have f_l37 := f_l33.past f37 f_l33.lt
              have f_k37 := f_k33.past f37
              have f_bel37 := f_bel33.trans (f37.mono f_bel33.size)
              have f_x37 := f_x33.past f37 f_x33.lt
              have f_s37 := f_s33.past f37 f_s33.lt
              have f_zB37 := Nat.le_trans zB33 f37.size
              clear f_l33 f_k33 f_bel33 f_x33 f_s33 zB33 k37 f37 m37 e37 s37
              obtain ⟨gz, hgz⟩ : ∃ g, g = u33.heap.size := ⟨_, rfl⟩
              have zg_z := zpre37
              rw [← hgz] at h37 zg_z ⊢
              clear hgz
              first | refine pt_skip rfl rfl rfl rfl ?_ | (refine pt_take rfl rfl rfl rfl ?_; apply Exists.intro; refine ⟨fun w' hw' => ?_, ?_⟩; focus ((repeat (first | go_skip | go_guarded | go_step | go_upon | go_back)); exact ⟨rfl, rfl, rfl⟩))
              change Exit.then _ _ Exit.normal _ _
              clear f_zB37
              go_wp2_with (first
                | (refine wp_run rfl (exec_loadA 25 rfl gx rfl 25 _ 32 5 f_x37 Tryd.underlying25 (by rw [info_dig, HUXX.out])) ?_)
                | (refine wp_run rfl (exec_loadA 25 rfl gz rfl 25 _ 32 5 h37 Tryd.underlying25 (by rw [info_dig, HUXX.out])) ?_)
                | (refine wp_run rfl (exec_eqB rfl X X rfl rfl HXXL.out HXXL.out true (beq_self_eq_true _) _) ?_))
              go_ret
              rw [HGL.out] at *
              exact ⟨rfl, f_bel37⟩
    · skip
      have HC38 := Lib.hid (climb_no _ x F n ix v1 f_r1 HXL.out hnl hix1 hix2 hok)
      go_wp2_with (first | (refine wp_run rfl (exec_loadA 25 rfl gl rfl 25 _ 32 5 f_l1 Tryd.underlying25 (by rw [info_dig, HUX.out])) ?_))
      refine HC38.out.mono ?_
      rintro e v38 ⟨rfl, b38⟩
      have f_l38 := f_l1.past b38 f_l1.lt
      have f_r38 := f_r1.past b38
      have f_k38 := f_k1.past b38
      have f_bel38 := f_bel1.trans (b38.mono f_bel1.size)
      clear f_l1 f_r1 f_k1 f_bel1 HC38 b38
      have HUZ : Hid ((u8s z32).length = 32) := Lib.hid rfl
      have x39 := Blk.new v38 25 (u8s z32)
      have bx39 : Below v38.heap.size v38 (v38.alloc (.cells (u8s z32).toArray 25)) := (Below.refl _ _).alloc (Nat.le_refl _) _
      go_upto_region 6 with (refine wp_storeA 25 (.tmp 7) (.tmp 22) rfl rfl v38.heap.size rfl 25 (u8s z32) _ rfl x39 (by rw [info_dig, HUZ.out]) (by first | (rw [HUZ.out]; rfl) | rfl) (u8s_one _) rfl ?_; intro y39 h39 k39)
      have bb39 : Below v38.heap.size v38 y39 := ((Keep.of_below bx39).trans (k39.mono (O' := fun q => q < v38.heap.size) (fun q hq => by omega))).below (fun q hq => hq) (Nat.le_refl _)
      have f_l39 := f_l38.past bb39 f_l38.lt
      have f_r39 := f_r38.past bb39
      have f_k39 := f_k38.past bb39
      have f_bel39 := f_bel38.trans (bb39.mono f_bel38.size)
      clear f_l38 f_r38 f_k38 f_bel38 x39 bx39 k39 bb39
      obtain ⟨gx, hgx⟩ : ∃ g, g = v38.heap.size := ⟨_, rfl⟩
      rw [← hgx] at h39 ⊢
      clear hgx
      go_wp2_with (first
        | (refine wp_run rfl (exec_loadA 25 rfl gx rfl 25 _ 32 5 h39 Tryd.underlying25 (by rw [info_dig, HUZ.out])) ?_)
        | (refine wp_run rfl (exec_eqB rfl z32 z32 rfl rfl rfl rfl true (beq_self_eq_true _) _) ?_))
      go_ret
      rw [HGL.out] at *
      exact ⟨rfl, f_bel39⟩
  · skip
    go_wp2
    go_ret
    exact ⟨rfl, f_bel1⟩
end Go.Proofs.YtccepoeenkpifaaDoor
