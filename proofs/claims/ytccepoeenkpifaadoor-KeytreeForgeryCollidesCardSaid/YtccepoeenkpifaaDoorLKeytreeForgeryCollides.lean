/-
  The walk of KeytreeForgeryCollides.
-/
import Derived.Test.YtccepoeenkpifaaDoorKtS
import Derived.Test.YtccepoeenkpifaaDoorOpD
import Derived.Test.YtccepoeenkpifaaDoorPla
import Derived.Test.YtccepoeenkpifaaDoorPlk
namespace Go.Proofs.YtccepoeenkpifaaDoor
open Go.RowKit
set_option linter.unusedVariables false
set_option linter.unusedSimpArgs false

theorem row_len {w : World} {B s n : Nat} {v : Value} {xs : List Value} (h : Row w B s n v xs) : n ≤ 9223372036854775807 := by
  obtain ⟨_, _, _, h1, h2, _⟩ := h
  unfold maxLen at h2
  omega

set_option maxRecDepth 100000 in
set_option maxHeartbeats 8000000 in
theorem keytreeForgeryCollides_walk (a b : List UInt8) (ix : Int) (v : Value) (n : Nat) (F : List UInt8) (u : Value) (m : Nat) (G : List UInt8) (W : World) (ha : a.length = 32) (hb : b.length = 32) (hix : -9223372036854775808 ≤ ix ∧ ix ≤ 9223372036854775807) (hv : Row W W.heap.size 32 n v (u8s F)) (hu : Row W W.heap.size 32 m u (u8s G)) (hk : KIs 1 W) :
    Calls Tryd.prog 8 #[.agg (u8s a).toArray, .agg (u8s b).toArray, .int .i64 ix, v, u] W fun e w' => e = .returned (.bool true) ∧ Below W.heap.size W w' := by
  obtain ⟨A, cap, rfl⟩ := row_form hv
  obtain ⟨A2, cap2, rfl⟩ := row_form hu
  have hnl := row_len hv
  have hml := row_len hu
  obtain ⟨hix1, hix2⟩ := hix
  have HAL := Lib.hid ha
  have HBL := Lib.hid hb
  have HUA := Lib.hid (show (u8s a).length = 32 by rw [u8s_length, ha])
  have HUB := Lib.hid (show (u8s b).length = 32 by rw [u8s_length, hb])
  have HFL := Lib.hid (row_flen hv)
  have HGL := Lib.hid (row_flen hu)
  have HV := Lib.hid hv
  have HU := Lib.hid hu
  have HK := Lib.hid hk
  have b0 : Below W.heap.size W ((W.alloc (.cells (u8s a).toArray 25)).alloc (.cells (u8s b).toArray 25)) := ((Below.refl _ _).alloc (Nat.le_refl _) _).alloc (by simp) _
  have xa : Blk ((W.alloc (.cells (u8s a).toArray 25)).alloc (.cells (u8s b).toArray 25)) W.heap.size 25 (u8s a) := (Blk.new W _ _).past ((Below.refl _ _).alloc (Nat.le_refl _) _) (by simp)
  have xb : Blk ((W.alloc (.cells (u8s a).toArray 25)).alloc (.cells (u8s b).toArray 25)) (W.heap.size + 1) 25 (u8s b) := by
    have h := Blk.new (W.alloc (.cells (u8s a).toArray 25)) 25 (u8s b)
    rw [World.size_alloc] at h
    exact h
  obtain ⟨W0, hW0⟩ : ∃ U, U = (W.alloc (.cells (u8s a).toArray 25)).alloc (.cells (u8s b).toArray 25) := ⟨_, rfl⟩
  rw [← hW0] at b0 xa xb
  have HW := Lib.hid hW0
  have k0 := hk.past b0
  have v0 := hv.past b0
  have u0 := hu.past b0
  clear hW0 hv hu hk ha hb
  go_enter Tryd.func8, Tryd.ntmps8
  go_upto_region 1 with (fail)
  rw [← HW.out]
  obtain ⟨ga, hga⟩ : ∃ g, g = W.heap.size := ⟨_, rfl⟩
  obtain ⟨gb, hgb⟩ : ∃ g, g = W.heap.size + 1 := ⟨_, rfl⟩
  rw [← hgb] at xb ⊢
  rw [← hga] at xa ⊢
  have HGA := Lib.hid hga
  have HGB := Lib.hid hgb
  have hgab : ga ≠ gb := by omega
  have hgb2 : gb = ga + 1 := by omega
  have HAB := Lib.hid hgb2
  clear hga hgb hgb2
  have HC1 := Lib.hid (sane_any W0 k0)
  go_wp2_with fail
  refine HC1.out.mono ?_
  rintro e v1 ⟨rfl, b1⟩
  have f_a1 := xa.past b1 xa.lt
  have f_b1 := xb.past b1 xb.lt
  have f_v1 := v0.past b1
  have f_u1 := u0.past b1
  have f_k1 := k0.past b1
  have f_bel1 := b0.trans (b1.mono b0.size)
  clear xa xb v0 u0 k0 b0 HC1 b1
  by_cases hnm : n = m
  · subst hnm
    by_cases h6 : n ≤ 6
    · skip
      have g6 : decide ((6 : Int) < (n : Int)) = false := by simp; omega
      by_cases hab : a = b
      · skip
        have HQ : Hid ((a == b) = true) := Lib.hid (by rw [hab]; exact beq_self_eq_true _)
        clear hab
        go_wp2_with (first
          | (refine wp_run rfl (exec_loadA 25 rfl ga rfl 25 _ 32 5 f_a1 Tryd.underlying25 (by rw [info_dig, HUA.out])) ?_)
          | (refine wp_run rfl (exec_loadA 25 rfl gb rfl 25 _ 32 5 f_b1 Tryd.underlying25 (by rw [info_dig, HUB.out])) ?_)
          | (refine wp_run rfl (exec_eqB rfl a b rfl rfl HAL.out HBL.out true HQ.out _) ?_))
        go_ret
        rw [HGA.out] at *
        exact ⟨rfl, f_bel1⟩
      · skip
        have HQ : Hid ((a == b) = false) := Lib.hid (beq_eq_false_iff_ne.2 hab)
        have HNE := Lib.hid hab
        have hz := zero_dig
        clear hab
        go_upto_region 5 with (first
          | (refine wp_run rfl (exec_loadA 25 rfl ga rfl 25 _ 32 5 f_a1 Tryd.underlying25 (by rw [info_dig, HUA.out])) ?_)
          | (refine wp_run rfl (exec_loadA 25 rfl gb rfl 25 _ 32 5 f_b1 Tryd.underlying25 (by rw [info_dig, HUB.out])) ?_)
          | (refine wp_run rfl (exec_eqB rfl a b rfl rfl HAL.out HBL.out false HQ.out _) ?_))
        by_cases hok : n ≤ 6 ∧ 0 ≤ ix ∧ ix < ((2 ^ n : Nat) : Int)
        · obtain ⟨_, hx0, hxn⟩ := hok
          obtain ⟨i, rfl⟩ := Int.eq_ofNat_of_zero_le hx0
          have hi : i < 2 ^ n := by omega
          have hi64 : i < 64 := by have := Kt.pow_le h6; omega
          have HI := Lib.hid hi
          clear hx0 hxn hi
          have HC2 := Lib.hid (climb_yes _ a F n i v1 f_v1 HAL.out h6 HI.out f_k1)
          go_wp2_with (first | (refine wp_run rfl (exec_loadA 25 rfl ga rfl 25 _ 32 5 f_a1 Tryd.underlying25 (by rw [info_dig, HUA.out])) ?_))
          refine HC2.out.mono ?_
          rintro e v2 ⟨rfl, b2⟩
          have f_a2 := f_a1.past b2 f_a1.lt
          have f_b2 := f_b1.past b2 f_b1.lt
          have f_v2 := f_v1.past b2
          have f_u2 := f_u1.past b2
          have f_k2 := f_k1.past b2
          have f_bel2 := f_bel1.trans (b2.mono f_bel1.size)
          clear f_a1 f_b1 f_v1 f_u1 f_k1 f_bel1 HC2 b2
          obtain ⟨X, hX⟩ : ∃ X, X = Kt.climb a i F n := ⟨_, rfl⟩
          have HX := Lib.hid hX
          have HXL := Lib.hid (show X.length = 32 by rw [hX, Kt.climb_len HAL.out])
          have HUX := Lib.hid (show (u8s X).length = 32 by rw [u8s_length, HXL.out])
          rw [← hX]
          clear hX
          have x3 := Blk.new v2 25 (u8s z32)
          have bx3 : Below v2.heap.size v2 (v2.alloc (.cells (u8s z32).toArray 25)) := (Below.refl _ _).alloc (Nat.le_refl _) _
          go_upto_region 6 with (refine wp_storeA 25 (.tmp 11) (.tmp 42) rfl rfl v2.heap.size rfl 25 (u8s z32) _ rfl x3 (by rw [info_dig, HUX.out]) (by first | (rw [HUX.out]; rfl) | rfl) (u8s_one _) rfl ?_; intro y3 h3 k3)
          have bb3 : Below v2.heap.size v2 y3 := ((Keep.of_below bx3).trans (k3.mono (O' := fun q => q < v2.heap.size) (fun q hq => by omega))).below (fun q hq => hq) (Nat.le_refl _)
          have f_a3 := f_a2.past bb3 f_a2.lt
          have f_b3 := f_b2.past bb3 f_b2.lt
          have f_v3 := f_v2.past bb3
          have f_u3 := f_u2.past bb3
          have f_k3 := f_k2.past bb3
          have f_bel3 := f_bel2.trans (bb3.mono f_bel2.size)
          clear f_a2 f_b2 f_v2 f_u2 f_k2 f_bel2 x3 bx3 k3 bb3
          obtain ⟨gx, hgx⟩ : ∃ g, g = v2.heap.size := ⟨_, rfl⟩
          rw [← hgx] at h3 ⊢
          clear hgx
          have HC4 := Lib.hid (climb_yes _ b G n i y3 f_u3 HBL.out h6 HI.out f_k3)
          go_wp2_with (first | (refine wp_run rfl (exec_loadA 25 rfl gb rfl 25 _ 32 5 f_b3 Tryd.underlying25 (by rw [info_dig, HUB.out])) ?_))
          refine HC4.out.mono ?_
          rintro e v4 ⟨rfl, b4⟩
          have f_a4 := f_a3.past b4 f_a3.lt
          have f_b4 := f_b3.past b4 f_b3.lt
          have f_v4 := f_v3.past b4
          have f_u4 := f_u3.past b4
          have f_k4 := f_k3.past b4
          have f_bel4 := f_bel3.trans (b4.mono f_bel3.size)
          have f_x4 := h3.past b4 h3.lt
          clear f_a3 f_b3 f_v3 f_u3 f_k3 f_bel3 h3 HC4 b4
          obtain ⟨Y, hY⟩ : ∃ Y, Y = Kt.climb b i G n := ⟨_, rfl⟩
          have HY := Lib.hid hY
          have HYL := Lib.hid (show Y.length = 32 by rw [hY, Kt.climb_len HBL.out])
          have HUY := Lib.hid (show (u8s Y).length = 32 by rw [u8s_length, HYL.out])
          rw [← hY]
          clear hY
          have x5 := Blk.new v4 25 (u8s z32)
          have bx5 : Below v4.heap.size v4 (v4.alloc (.cells (u8s z32).toArray 25)) := (Below.refl _ _).alloc (Nat.le_refl _) _
          go_upto_region 7 with (refine wp_storeA 25 (.tmp 13) (.tmp 49) rfl rfl v4.heap.size rfl 25 (u8s z32) _ rfl x5 (by rw [info_dig, HUY.out]) (by first | (rw [HUY.out]; rfl) | rfl) (u8s_one _) rfl ?_; intro y5 h5 k5)
          have bb5 : Below v4.heap.size v4 y5 := ((Keep.of_below bx5).trans (k5.mono (O' := fun q => q < v4.heap.size) (fun q hq => by omega))).below (fun q hq => hq) (Nat.le_refl _)
          have f_a5 := f_a4.past bb5 f_a4.lt
          have f_b5 := f_b4.past bb5 f_b4.lt
          have f_v5 := f_v4.past bb5
          have f_u5 := f_u4.past bb5
          have f_k5 := f_k4.past bb5
          have f_bel5 := f_bel4.trans (bb5.mono f_bel4.size)
          have f_x5 := f_x4.past bb5 f_x4.lt
          clear f_a4 f_b4 f_v4 f_u4 f_k4 f_bel4 f_x4 x5 bx5 k5 bb5
          obtain ⟨gy, hgy⟩ : ∃ g, g = v4.heap.size := ⟨_, rfl⟩
          rw [← hgy] at h5 ⊢
          clear hgy
          by_cases hxy : X = Y
          · skip
            have HXY := Lib.hid hxy
            have HQX : Hid ((!(X == Y)) = false) := Lib.hid (by rw [hxy, beq_self_eq_true]; rfl)
            clear hxy hz
            go_wp2_with (first
              | (refine wp_run rfl (exec_loadA 25 rfl gx rfl 25 _ 32 5 f_x5 Tryd.underlying25 (by rw [info_dig, HUX.out])) ?_)
              | (refine wp_run rfl (exec_loadA 25 rfl gy rfl 25 _ 32 5 h5 Tryd.underlying25 (by rw [info_dig, HUY.out])) ?_)
              | (refine wp_run rfl (exec_neqD rfl X Y rfl rfl HXL.out HYL.out false HQX.out _) ?_))
            have hab0 := f_a5
            have hbb0 := f_b5
            have hbel0 := f_bel5
            have hga1 : ga < gb := by have := HAB.out; omega
            clear f_v5 f_u5 f_k5 f_x5 h5
            go_loopw [67, 2] (fun q jx wr => ∃ (k j : Nat) (P Q : List UInt8), q = .int .i64 k ∧ jx = .int .i64 j ∧ k ≤ n ∧ Hid (j = i / 2 ^ k) ∧ j ≤ 64 ∧ Hid (P = Kt.climb a i F k) ∧ Hid (Q = Kt.climb b i G k) ∧ Hid (P ≠ Q) ∧ Hid (P.length = 32) ∧ Hid (Q.length = 32) ∧ Blk wr ga 25 (u8s P) ∧ Blk wr gb 25 (u8s Q) ∧ Below W.heap.size W wr) (fun q _ _ => n - (intOf q).toNat)
            case atStart => exact ⟨0, i, a, b, rfl, rfl, by omega, Lib.hid (by simp), by omega, Lib.hid rfl, Lib.hid rfl, HNE, HAL, HBL, hab0, hbb0, hbel0⟩
            case round =>
              clear hab0 hbb0 hbel0
              obtain ⟨k, j, P, Q, rfl, rfl, hkn, HJ, hj64, HP, HQQ, HPQ, HPL, HQL, hA, hB, hbel⟩ := hrel
              by_cases hlt : k < n
              · skip
                have HUP := Lib.hid (show (u8s P).length = 32 by rw [u8s_length, HPL.out])
                have HUQ := Lib.hid (show (u8s Q).length = 32 by rw [u8s_length, HQL.out])
                obtain ⟨ad, hAe, _, _⟩ := Row.at_ HV.out (by omega)
                subst hAe
                obtain ⟨ae, hBe, _, _⟩ := Row.at_ HU.out (by omega)
                subst hBe
                obtain ⟨x, hx⟩ : ∃ x, x = Wt.el F k := ⟨_, rfl⟩
                obtain ⟨y, hy⟩ : ∃ y, y = Wt.el G k := ⟨_, rfl⟩
                have HLX := Lib.hid (show x.length = 32 by rw [hx]; exact Wt.el_len (n := n) (by have := HFL.out; omega) hlt)
                have HLY := Lib.hid (show y.length = 32 by rw [hy]; exact Wt.el_len (n := n) (by have := HGL.out; omega) hlt)
                have HUx := Lib.hid (show (u8s x).length = 32 by rw [u8s_length, HLX.out])
                have HUy := Lib.hid (show (u8s y).length = 32 by rw [u8s_length, HLY.out])
                have HCX : Hid (∀ w1 : World, Below W.heap.size W w1 → ∀ j u, (u8s x)[j]? = some u → w1.cell? ((ad.add (k * 32)).add j) = some u) := Lib.hid fun w1 hb => by
                  rw [hx]; exact row_elem (HV.out.past hb) hlt
                have HCY : Hid (∀ w1 : World, Below W.heap.size W w1 → ∀ j u, (u8s y)[j]? = some u → w1.cell? ((ae.add (k * 32)).add j) = some u) := Lib.hid fun w1 hb => by
                  rw [hy]; exact row_elem (HU.out.past hb) hlt
                have HX2 := Lib.hid hx
                have HY2 := Lib.hid hy
                obtain ⟨P2, hP2⟩ : ∃ P2, P2 = Kt.stp P x j := ⟨_, rfl⟩
                obtain ⟨Q2, hQ2⟩ : ∃ Q2, Q2 = Kt.stp Q y j := ⟨_, rfl⟩
                have HP2 := Lib.hid (show P2 = Kt.climb a i F (k + 1) by rw [hP2, Kt.climb_succ, HP.out, hx, HJ.out])
                have HQ2 := Lib.hid (show Q2 = Kt.climb b i G (k + 1) by rw [hQ2, Kt.climb_succ, HQQ.out, hy, HJ.out])
                have HP2L := Lib.hid (show P2.length = 32 by rw [hP2, Kt.stp_len])
                have HQ2L := Lib.hid (show Q2.length = 32 by rw [hQ2, Kt.stp_len])
                have HUP2 := Lib.hid (show (u8s P2).length = 32 by rw [u8s_length, HP2L.out])
                have HUQ2 := Lib.hid (show (u8s Q2).length = 32 by rw [u8s_length, HQ2L.out])
                have HSP := Lib.hid hP2
                have HSQ := Lib.hid hQ2
                have HJ2 := Lib.hid (show j / 2 = i / 2 ^ (k + 1) by rw [Kt.half_pow, HJ.out])
                have hal := hA.lt
                have hbl := hB.lt
                have hWS : W.heap.size ≤ wr.heap.size := hbel.size
                have hz := zero_dig
                clear hx hy hP2 hQ2
                go_upto_region 12 with (fail)
                refine wp_region_pb wr.heap.size (.take 0 (.take 1 (.take 2 (.take 3 (.take 4 (.take 5 (.take 6 (.take 7 (.take 8 (.take 9 (.all [(10, 16), (11, 17), (12, 18), (13, 19)] (.step 14 (.step 15 (.step 16 (.step 17 .done))))))))))))))) (by kernel_rfl) (by kernel_rfl) (by kernel_rfl) (fun _ _ h => h) ?_
                have bd : Below wr.heap.size wr wr.drew := (Below.refl _ _).drew
                have A0 := hA.past bd hal
                have B0 := hB.past bd hbl
                have bel0 := hbel.trans (bd.mono hWS)
                have zB : wr.heap.size ≤ wr.drew.heap.size := bd.size
                obtain ⟨w0, hw0⟩ : ∃ u, u = wr.drew := ⟨_, rfl⟩
                rw [← hw0] at A0 B0 bel0 zB ⊢
                clear hw0 bd hA hB hbel
                refine pb_take rfl rfl rfl rfl ?_
                apply Exists.intro
                refine ⟨fun w' hw' => ?_, ?_⟩
                · refine wp_run rfl (exec_loadA 25 rfl ga rfl 25 _ 32 5 (A0.past hw' hal) Tryd.underlying25 (by rw [info_dig, HUP.out])) ?_
                  exact ⟨rfl, rfl, rfl⟩
                refine pb_take rfl rfl rfl rfl ?_
                apply Exists.intro
                refine ⟨fun w' hw' => ?_, ?_⟩
                · refine wp_run rfl (exec_loadA 25 rfl gb rfl 25 _ 32 5 (B0.past hw' hbl) Tryd.underlying25 (by rw [info_dig, HUQ.out])) ?_
                  exact ⟨rfl, rfl, rfl⟩
                first | refine pb_skip rfl rfl rfl rfl ?_ | (refine pb_take rfl rfl rfl rfl ?_; apply Exists.intro; refine ⟨fun w' hw' => ?_, ?_⟩; focus ((repeat (first | go_skip | go_guarded | go_step | go_upon | go_back)); exact ⟨rfl, rfl, rfl⟩))
                first | refine pb_skip rfl rfl rfl rfl ?_ | (refine pb_take rfl rfl rfl rfl ?_; apply Exists.intro; refine ⟨fun w' hw' => ?_, ?_⟩; focus ((repeat (first | go_skip | go_guarded | go_step | go_upon | go_back)); exact ⟨rfl, rfl, rfl⟩))
                refine pb_take rfl rfl rfl rfl ?_
                apply Exists.intro
                refine ⟨fun w' hw' => ?_, ?_⟩
                · refine wp_run rfl (exec_ixS 29 25 32 Tryd.underlying29 info_dig w' rfl rfl _ _ k rfl rfl hlt (q := ad.add (k * 32)) rfl) ?_
                  exact ⟨rfl, rfl, rfl⟩
                refine pb_take rfl rfl rfl rfl ?_
                apply Exists.intro
                refine ⟨fun w' hw' => ?_, ?_⟩
                · refine wp_run rfl (exec_loadP 25 rfl (ad.add (k * 32)) rfl (u8s x) 32 5 (HCX.out w' (bel0.trans (hw'.mono hWS))) Tryd.underlying25 (by rw [info_dig, HUx.out])) ?_
                  exact ⟨rfl, rfl, rfl⟩
                first | refine pb_skip rfl rfl rfl rfl ?_ | (refine pb_take rfl rfl rfl rfl ?_; apply Exists.intro; refine ⟨fun w' hw' => ?_, ?_⟩; focus ((repeat (first | go_skip | go_guarded | go_step | go_upon | go_back)); exact ⟨rfl, rfl, rfl⟩))
                first | refine pb_skip rfl rfl rfl rfl ?_ | (refine pb_take rfl rfl rfl rfl ?_; apply Exists.intro; refine ⟨fun w' hw' => ?_, ?_⟩; focus ((repeat (first | go_skip | go_guarded | go_step | go_upon | go_back)); exact ⟨rfl, rfl, rfl⟩))
                refine pb_take rfl rfl rfl rfl ?_
                apply Exists.intro
                refine ⟨fun w' hw' => ?_, ?_⟩
                · refine wp_run rfl (exec_ixS 29 25 32 Tryd.underlying29 info_dig w' rfl rfl _ _ k rfl rfl hlt (q := ae.add (k * 32)) rfl) ?_
                  exact ⟨rfl, rfl, rfl⟩
                refine pb_take rfl rfl rfl rfl ?_
                apply Exists.intro
                refine ⟨fun w' hw' => ?_, ?_⟩
                · refine wp_run rfl (exec_loadP 25 rfl (ae.add (k * 32)) rfl (u8s y) 32 5 (HCY.out w' (bel0.trans (hw'.mono hWS))) Tryd.underlying25 (by rw [info_dig, HUy.out])) ?_
                  exact ⟨rfl, rfl, rfl⟩
                refine pb_all4 25 (u8s z32) hz (by decide) (by decide) zB ⟨_, rfl, rfl, rfl, rfl⟩ ⟨_, rfl, rfl, rfl, rfl⟩ ⟨_, rfl, rfl, rfl, rfl⟩ ⟨_, rfl, rfl, rfl, rfl⟩ ?_
                rintro g1 g2 g3 g4 w1 ⟨hg1, hg2, hg3, hg4⟩ hne4 D1 D2 D3 D4 b1
                have HNE4 := Lib.hid hne4
                clear hne4
                have A1 := A0.past b1 A0.lt
                have B1 := B0.past b1 B0.lt
                have bel1 := bel0.trans (b1.mono bel0.size)
                have hG1 : wr.heap.size ≤ g1 := Nat.le_trans zB hg1
                have hG2 : wr.heap.size ≤ g2 := Nat.le_trans zB hg2
                have hG3 : wr.heap.size ≤ g3 := Nat.le_trans zB hg3
                have hG4 : wr.heap.size ≤ g4 := Nat.le_trans zB hg4
                have z1 : wr.heap.size ≤ w1.heap.size := Nat.le_trans zB b1.size
                clear A0 B0 bel0 b1 zB hg1 hg2 hg3 hg4 hz
                simp only [Act.put, List.getElem_toArray, List.getElem_cons_succ, List.getElem_cons_zero, List.setIfInBounds_toArray, List.set_cons_succ, List.set_cons_zero]
                refine pb_step rfl ?_
                refine wp_storeA 25 (.tmp 16) (.tmp 70) rfl rfl g1 rfl 25 (u8s z32) (u8s P) rfl D1 (by rw [info_dig, HUP.out]) (by rw [HUP.out]; rfl) (u8s_one _) rfl ?_
                intro w2 E1 k2
                change _ ∧ _ ∧ _
                refine ⟨rfl, k2.below (fun q hq => by omega) z1, ?_⟩
                refine pb_step rfl ?_
                have D2' := D2.keep k2 (Ne.symm HNE4.out.1)
                refine wp_storeA 25 (.tmp 17) (.tmp 71) rfl rfl g2 rfl 25 (u8s z32) (u8s Q) rfl D2' (by rw [info_dig, HUQ.out]) (by rw [HUQ.out]; rfl) (u8s_one _) rfl ?_
                intro w3 E2 k3
                change _ ∧ _ ∧ _
                have z2 : wr.heap.size ≤ w2.heap.size := Nat.le_trans z1 k2.size
                have z3 : wr.heap.size ≤ w3.heap.size := Nat.le_trans z2 k3.size
                refine ⟨rfl, k3.below (fun q hq => by omega) z2, ?_⟩
                refine pb_step rfl ?_
                have D3' := (D3.keep k2 (Ne.symm HNE4.out.2.1)).keep k3 (Ne.symm HNE4.out.2.2.2.1)
                refine wp_storeA 25 (.tmp 18) (.tmp 75) rfl rfl g3 rfl 25 (u8s z32) (u8s x) rfl D3' (by rw [info_dig, HUx.out]) (by rw [HUx.out]; rfl) (u8s_one _) rfl ?_
                intro w4 E3 k4
                change _ ∧ _ ∧ _
                have z4 : wr.heap.size ≤ w4.heap.size := Nat.le_trans z3 k4.size
                refine ⟨rfl, k4.below (fun q hq => by omega) z3, ?_⟩
                refine pb_step rfl ?_
                have D4' := ((D4.keep k2 (Ne.symm HNE4.out.2.2.1)).keep k3 (Ne.symm HNE4.out.2.2.2.2.1)).keep k4 (Ne.symm HNE4.out.2.2.2.2.2)
                refine wp_storeA 25 (.tmp 19) (.tmp 79) rfl rfl g4 rfl 25 (u8s z32) (u8s y) rfl D4' (by rw [info_dig, HUy.out]) (by rw [HUy.out]; rfl) (u8s_one _) rfl ?_
                intro w5 E4 k5
                change _ ∧ _ ∧ _
                have z5 : wr.heap.size ≤ w5.heap.size := Nat.le_trans z4 k5.size
                refine ⟨rfl, k5.below (fun q hq => by omega) z4, ?_⟩
                change Exit.then _ _ Exit.normal _ _
                have F1 : Blk w5 g1 25 (u8s P) := ((E1.keep k3 HNE4.out.1).keep k4 HNE4.out.2.1).keep k5 HNE4.out.2.2.1
                have F2 : Blk w5 g2 25 (u8s Q) := (E2.keep k4 HNE4.out.2.2.2.1).keep k5 HNE4.out.2.2.2.2.1
                have F3 : Blk w5 g3 25 (u8s x) := E3.keep k5 HNE4.out.2.2.2.2.2
                have A5 : Blk w5 ga 25 (u8s P) := (((A1.keep k2 (by omega)).keep k3 (by omega)).keep k4 (by omega)).keep k5 (by omega)
                have B5 : Blk w5 gb 25 (u8s Q) := (((B1.keep k2 (by omega)).keep k3 (by omega)).keep k4 (by omega)).keep k5 (by omega)
                have c5 : Below wr.heap.size w1 w5 := (((k2.below (fun q hq => by omega) z1).trans (k3.below (fun q hq => by omega) z2)).trans (k4.below (fun q hq => by omega) z3)).trans (k5.below (fun q hq => by omega) z4)
                have bel5 := bel1.trans (c5.mono hWS)
                clear A1 B1 bel1 D1 D2 D3 D4 D2' D3' D4' E1 E2 E3 k2 k3 k4 k5 z1 z2 z3 z4 c5
                by_cases hev : j % 2 = 1
                · skip
                  have he : (((j : Int) % 2) == 1) = true := by simp; omega
                  have HPP := Lib.hid (show Sha.tag Sha.pairT (x ++ P) = P2 by rw [HSP.out]; unfold Kt.stp; rw [if_neg (by omega)]; rfl)
                  have HQP := Lib.hid (show Sha.tag Sha.pairT (y ++ Q) = Q2 by rw [HSQ.out]; unfold Kt.stp; rw [if_neg (by omega)]; rfl)
                  clear hev
                  go_upto_region 14 with (fail)
                  refine wp_region_pt wr.heap.size (.take 0 (.take 1 (.take 2 (.take 3 (.take 4 (.take 5 (.take 6 (.take 7 (.take 8 (.take 9 (.step 10 (.step 11 (.step 12 (.step 13 .done)))))))))))))) (by kernel_rfl) (by kernel_rfl) (by kernel_rfl) (fun _ _ h => h) ?_
                  have bd5 : Below w5.heap.size w5 w5.drew := (Below.refl _ _).drew
                  have G1 := F1.past bd5 F1.lt
                  have G2 := F2.past bd5 F2.lt
                  have G3 := F3.past bd5 F3.lt
                  have G4 := E4.past bd5 E4.lt
                  have GA := A5.past bd5 A5.lt
                  have GB := B5.past bd5 B5.lt
                  have Gb := bel5.trans (bd5.mono bel5.size)
                  have zg : wr.heap.size ≤ w5.drew.heap.size := Nat.le_trans z5 bd5.size
                  obtain ⟨q0, hq0⟩ : ∃ u, u = w5.drew := ⟨_, rfl⟩
                  rw [← hq0] at G1 G2 G3 G4 GA GB Gb zg ⊢
                  clear hq0 bd5 F1 F2 F3 E4 A5 B5 bel5
                  first | refine pt_skip rfl rfl rfl rfl ?_ | (refine pt_take rfl rfl rfl rfl ?_; apply Exists.intro; refine ⟨fun w' hw' => ?_, ?_⟩; focus ((repeat (first | go_skip | go_guarded | go_step | go_upon | go_back)); exact ⟨rfl, rfl, rfl⟩))
                  first | refine pt_skip rfl rfl rfl rfl ?_ | (refine pt_take rfl rfl rfl rfl ?_; apply Exists.intro; refine ⟨fun w' hw' => ?_, ?_⟩; focus ((repeat (first | go_skip | go_guarded | go_step | go_upon | go_back)); exact ⟨rfl, rfl, rfl⟩))
                  refine pt_take rfl rfl rfl rfl ?_
                  apply Exists.intro
                  refine ⟨fun w' hw' => ?_, ?_⟩
                  · refine wp_run rfl (exec_ixS 29 25 32 Tryd.underlying29 info_dig w' rfl rfl _ _ k rfl rfl hlt (q := ad.add (k * 32)) rfl) ?_
                    exact ⟨rfl, rfl, rfl⟩
                  refine pt_take rfl rfl rfl rfl ?_
                  apply Exists.intro
                  refine ⟨fun w' hw' => ?_, ?_⟩
                  · refine wp_run rfl (exec_loadP 25 rfl (ad.add (k * 32)) rfl (u8s x) 32 5 (HCX.out w' (Gb.trans (hw'.mono hWS))) Tryd.underlying25 (by rw [info_dig, HUx.out])) ?_
                    exact ⟨rfl, rfl, rfl⟩
                  first | refine pt_skip rfl rfl rfl rfl ?_ | (refine pt_take rfl rfl rfl rfl ?_; apply Exists.intro; refine ⟨fun w' hw' => ?_, ?_⟩; focus ((repeat (first | go_skip | go_guarded | go_step | go_upon | go_back)); exact ⟨rfl, rfl, rfl⟩))
                  first | refine pt_skip rfl rfl rfl rfl ?_ | (refine pt_take rfl rfl rfl rfl ?_; apply Exists.intro; refine ⟨fun w' hw' => ?_, ?_⟩; focus ((repeat (first | go_skip | go_guarded | go_step | go_upon | go_back)); exact ⟨rfl, rfl, rfl⟩))
                  refine pt_take rfl rfl rfl rfl ?_
                  apply Exists.intro
                  refine ⟨fun w' hw' => ?_, ?_⟩
                  · refine wp_run rfl (exec_ixS 29 25 32 Tryd.underlying29 info_dig w' rfl rfl _ _ k rfl rfl hlt (q := ae.add (k * 32)) rfl) ?_
                    exact ⟨rfl, rfl, rfl⟩
                  refine pt_take rfl rfl rfl rfl ?_
                  apply Exists.intro
                  refine ⟨fun w' hw' => ?_, ?_⟩
                  · refine wp_run rfl (exec_loadP 25 rfl (ae.add (k * 32)) rfl (u8s y) 32 5 (HCY.out w' (Gb.trans (hw'.mono hWS))) Tryd.underlying25 (by rw [info_dig, HUy.out])) ?_
                    exact ⟨rfl, rfl, rfl⟩
                  refine pt_take rfl rfl rfl rfl ?_
                  apply Exists.intro
                  refine ⟨fun w' hw' => ?_, ?_⟩
                  · refine wp_run rfl (exec_loadA 25 rfl ga rfl 25 _ 32 5 (GA.past hw' hal) Tryd.underlying25 (by rw [info_dig, HUP.out])) ?_
                    exact ⟨rfl, rfl, rfl⟩
                  refine pt_take rfl rfl rfl rfl ?_
                  apply Exists.intro
                  refine ⟨fun w' hw' => ?_, ?_⟩
                  · refine wp_run rfl (exec_loadA 25 rfl gb rfl 25 _ 32 5 (GB.past hw' hbl) Tryd.underlying25 (by rw [info_dig, HUQ.out])) ?_
                    exact ⟨rfl, rfl, rfl⟩
                  simp only [Act.put, List.getElem_toArray, List.getElem_cons_succ, List.getElem_cons_zero, List.setIfInBounds_toArray, List.set_cons_succ, List.set_cons_zero]
                  refine pt_step rfl ?_
                  refine wp_storeA 25 (.tmp 16) (.tmp 86) rfl rfl g1 rfl 25 (u8s P) (u8s x) rfl G1 (by rw [info_dig, HUx.out]) (by rw [HUP.out, HUx.out]) (u8s_one _) rfl ?_
                  intro q1 J1 k2
                  change _ ∧ _ ∧ _
                  have y1 : wr.heap.size ≤ q1.heap.size := Nat.le_trans zg k2.size
                  refine ⟨rfl, k2.below (fun q hq => by omega) zg, ?_⟩
                  refine pt_step rfl ?_
                  have G2' := G2.keep k2 (Ne.symm HNE4.out.1)
                  refine wp_storeA 25 (.tmp 17) (.tmp 90) rfl rfl g2 rfl 25 (u8s Q) (u8s y) rfl G2' (by rw [info_dig, HUy.out]) (by rw [HUQ.out, HUy.out]) (u8s_one _) rfl ?_
                  intro q2 J2 k3
                  change _ ∧ _ ∧ _
                  have y2 : wr.heap.size ≤ q2.heap.size := Nat.le_trans y1 k3.size
                  refine ⟨rfl, k3.below (fun q hq => by omega) y1, ?_⟩
                  refine pt_step rfl ?_
                  have G3' := (G3.keep k2 (Ne.symm HNE4.out.2.1)).keep k3 (Ne.symm HNE4.out.2.2.2.1)
                  refine wp_storeA 25 (.tmp 18) (.tmp 91) rfl rfl g3 rfl 25 (u8s x) (u8s P) rfl G3' (by rw [info_dig, HUP.out]) (by rw [HUP.out, HUx.out]) (u8s_one _) rfl ?_
                  intro q3 J3 k4
                  change _ ∧ _ ∧ _
                  have y3 : wr.heap.size ≤ q3.heap.size := Nat.le_trans y2 k4.size
                  refine ⟨rfl, k4.below (fun q hq => by omega) y2, ?_⟩
                  refine pt_step rfl ?_
                  have G4' := ((G4.keep k2 (Ne.symm HNE4.out.2.2.1)).keep k3 (Ne.symm HNE4.out.2.2.2.2.1)).keep k4 (Ne.symm HNE4.out.2.2.2.2.2)
                  refine wp_storeA 25 (.tmp 19) (.tmp 92) rfl rfl g4 rfl 25 (u8s y) (u8s Q) rfl G4' (by rw [info_dig, HUQ.out]) (by rw [HUQ.out, HUy.out]) (u8s_one _) rfl ?_
                  intro w6 N4 k5
                  change _ ∧ _ ∧ _
                  have z6 : wr.heap.size ≤ w6.heap.size := Nat.le_trans y3 k5.size
                  refine ⟨rfl, k5.below (fun q hq => by omega) y3, ?_⟩
                  change Exit.then _ _ Exit.normal _ _
                  have N1 : Blk w6 g1 25 (u8s x) := ((J1.keep k3 HNE4.out.1).keep k4 HNE4.out.2.1).keep k5 HNE4.out.2.2.1
                  have N2 : Blk w6 g2 25 (u8s y) := (J2.keep k4 HNE4.out.2.2.2.1).keep k5 HNE4.out.2.2.2.2.1
                  have N3 : Blk w6 g3 25 (u8s P) := J3.keep k5 HNE4.out.2.2.2.2.2
                  have NA : Blk w6 ga 25 (u8s P) := (((GA.keep k2 (by omega)).keep k3 (by omega)).keep k4 (by omega)).keep k5 (by omega)
                  have NB : Blk w6 gb 25 (u8s Q) := (((GB.keep k2 (by omega)).keep k3 (by omega)).keep k4 (by omega)).keep k5 (by omega)
                  have c6 : Below wr.heap.size q0 w6 := (((k2.below (fun q hq => by omega) zg).trans (k3.below (fun q hq => by omega) y1)).trans (k4.below (fun q hq => by omega) y2)).trans (k5.below (fun q hq => by omega) y3)
                  have Nb := Gb.trans (c6.mono hWS)
                  clear G1 G2 G3 G4 G2' G3' G4' GA GB Gb J1 J2 J3 k2 k3 k4 k5 y1 y2 y3 c6 zg
                  have l1 := N1.lt
                  have hz5 : wr.heap.size ≤ w6.heap.size := z6
                  go_upto_region 15 with (fail)
                  refine wp_region_ptk (fun b => b ≠ ga ∧ b ≠ gb) (.take 0 (.take 1 (.take 3 (.take 4 (.step 2 (.step 5 (.step 6 (.step 7 .done)))))))) (by kernel_rfl) (by kernel_rfl) (by kernel_rfl) (fun _ _ h => h) ?_
                  have bd : Below w6.heap.size w6 w6.drew := (Below.refl _ _).drew
                  have M1 := N1.past bd N1.lt
                  have M2 := N2.past bd N2.lt
                  have M3 := N3.past bd N3.lt
                  have M4 := N4.past bd N4.lt
                  have MA := NA.past bd NA.lt
                  have MB := NB.past bd NB.lt
                  have Mb := Nb.trans (bd.mono Nb.size)
                  obtain ⟨v0, hv0⟩ : ∃ u, u = w6.drew := ⟨_, rfl⟩
                  rw [← hv0] at M1 M2 M3 M4 MA MB Mb ⊢
                  have hWg : W.heap.size ≤ ga := by have := HGA.out; omega
                  have o1 : g1 ≠ ga ∧ g1 ≠ gb := ⟨by omega, by omega⟩
                  have o2 : g2 ≠ ga ∧ g2 ≠ gb := ⟨by omega, by omega⟩
                  have o3 : g3 ≠ ga ∧ g3 ≠ gb := ⟨by omega, by omega⟩
                  have o4 : g4 ≠ ga ∧ g4 ≠ gb := ⟨by omega, by omega⟩
                  clear hv0 bd N1 N2 N3 N4 NA NB Nb l1 hz5
                  refine ptk_take rfl rfl rfl rfl ?_
                  apply Exists.intro
                  refine ⟨fun w' hw' => ?_, ?_⟩
                  · refine wp_run rfl (exec_loadA 25 rfl g1 rfl 25 _ 32 5 (M1.keep hw' o1) Tryd.underlying25 (by rw [info_dig, HUx.out])) ?_
                    exact ⟨rfl, rfl, rfl⟩
                  refine ptk_take rfl rfl rfl rfl ?_
                  apply Exists.intro
                  refine ⟨fun w' hw' => ?_, ?_⟩
                  · refine wp_run rfl (exec_loadA 25 rfl g3 rfl 25 _ 32 5 (M3.keep hw' o3) Tryd.underlying25 (by rw [info_dig, HUP.out])) ?_
                    exact ⟨rfl, rfl, rfl⟩
                  refine ptk_take rfl rfl rfl rfl ?_
                  apply Exists.intro
                  refine ⟨fun w' hw' => ?_, ?_⟩
                  · refine wp_run rfl (exec_loadA 25 rfl g2 rfl 25 _ 32 5 (M2.keep hw' o2) Tryd.underlying25 (by rw [info_dig, HUy.out])) ?_
                    exact ⟨rfl, rfl, rfl⟩
                  refine ptk_take rfl rfl rfl rfl ?_
                  apply Exists.intro
                  refine ⟨fun w' hw' => ?_, ?_⟩
                  · refine wp_run rfl (exec_loadA 25 rfl g4 rfl 25 _ 32 5 (M4.keep hw' o4) Tryd.underlying25 (by rw [info_dig, HUQ.out])) ?_
                    exact ⟨rfl, rfl, rfl⟩
                  simp only [Act.put, List.getElem_toArray, List.getElem_cons_succ, List.getElem_cons_zero, List.setIfInBounds_toArray, List.set_cons_succ, List.set_cons_zero]
                  refine ptk_step rfl ?_
                  go_wp2_with fail
                  refine (pair_any x P v0 HLX.out HPL.out (HK.out.past Mb)).mono ?_
                  rintro e v1 ⟨rfl, c1⟩
                  rw [HPP.out]
                  go_wp2_with fail
                  refine ⟨rfl, Keep.of_below c1, ?_⟩
                  have Mb1 := Mb.trans (c1.mono Mb.size)
                  refine ptk_step rfl ?_
                  go_wp2_with fail
                  refine (pair_any y Q v1 HLY.out HQL.out (HK.out.past Mb1)).mono ?_
                  rintro e v2 ⟨rfl, c2⟩
                  rw [HQP.out]
                  go_wp2_with fail
                  refine ⟨rfl, Keep.of_below c2, ?_⟩
                  have Mb2 := Mb1.trans (c2.mono Mb1.size)
                  have c12 : Below v0.heap.size v0 v2 := c1.trans (c2.mono c1.size)
                  have O1 := M1.past c12 M1.lt
                  have O2 := M2.past c12 M2.lt
                  have O3 := M3.past c12 M3.lt
                  have O4 := M4.past c12 M4.lt
                  have OA := MA.past c12 MA.lt
                  have OB := MB.past c12 MB.lt
                  clear M1 M2 M3 M4 MA MB Mb Mb1 c1 c2 c12
                  refine ptk_step rfl ?_
                  refine wp_storeA 25 (.tmp 5) (.tmp 95) rfl rfl ga rfl 25 (u8s P) (u8s P2) rfl OA (by rw [info_dig, HUP2.out]) (by rw [HUP.out, HUP2.out]) (u8s_one _) rfl ?_
                  intro v3 PA k3
                  change _ ∧ _ ∧ _
                  refine ⟨rfl, k3.mono (fun q hq => hq.1), ?_⟩
                  have OB3 := OB.keep k3 (Ne.symm hgab)
                  refine ptk_step rfl ?_
                  refine wp_storeA 25 (.tmp 6) (.tmp 98) rfl rfl gb rfl 25 (u8s Q) (u8s Q2) rfl OB3 (by rw [info_dig, HUQ2.out]) (by rw [HUQ.out, HUQ2.out]) (u8s_one _) rfl ?_
                  intro v4 PB k4
                  change _ ∧ _ ∧ _
                  refine ⟨rfl, k4.mono (fun q hq => hq.2), ?_⟩
                  change Exit.then _ _ Exit.normal _ _
                  have PA4 := PA.keep k4 hgab
                  have P1 := (O1.keep k3 o1.1).keep k4 o1.2
                  have P2b := (O2.keep k3 o2.1).keep k4 o2.2
                  have P3 := (O3.keep k3 o3.1).keep k4 o3.2
                  have P4 := (O4.keep k3 o4.1).keep k4 o4.2
                  have hWb : W.heap.size ≤ gb := by omega
                  have Pb4 : Below W.heap.size W v4 := Mb2.trans ((k3.below (n := W.heap.size) (fun q hq => by omega) Mb2.size).trans (k4.below (n := W.heap.size) (fun q hq => by omega) (Nat.le_trans Mb2.size k3.size)))
                  clear O1 O2 O3 O4 OA OB OB3 PA Mb2 k3 k4 o1 o2 o3 o4
                  by_cases hpq : P2 = Q2
                  · have HE : Hid ((P2 == Q2) = true) := Lib.hid (by rw [hpq]; exact beq_self_eq_true _)
                    clear hpq
                    have HN : Hid ((!(P == Q)) = true) := Lib.hid (by rw [beq_eq_false_iff_ne.2 HPQ.out]; rfl)
                    by_cases hxy2 : x = y
                    · have HM : Hid ((!(x == y)) = false) := Lib.hid (by rw [hxy2, beq_self_eq_true]; rfl)
                      clear hxy2
                      go_wp2_with (first
                        | (refine wp_run rfl (exec_eqB rfl P2 Q2 rfl rfl HP2L.out HQ2L.out true HE.out _) ?_)
                        | (refine wp_run rfl (exec_loadA 25 rfl ga rfl 25 _ 32 5 PA4 Tryd.underlying25 (by rw [info_dig, HUP2.out])) ?_)
                        | (refine wp_run rfl (exec_loadA 25 rfl gb rfl 25 _ 32 5 PB Tryd.underlying25 (by rw [info_dig, HUQ2.out])) ?_)
                        | (refine wp_run rfl (exec_loadA 25 rfl g1 rfl 25 _ 32 5 P1 Tryd.underlying25 (by rw [info_dig, HUx.out])) ?_)
                        | (refine wp_run rfl (exec_loadA 25 rfl g2 rfl 25 _ 32 5 P2b Tryd.underlying25 (by rw [info_dig, HUy.out])) ?_)
                        | (refine wp_run rfl (exec_loadA 25 rfl g3 rfl 25 _ 32 5 P3 Tryd.underlying25 (by rw [info_dig, HUP.out])) ?_)
                        | (refine wp_run rfl (exec_loadA 25 rfl g4 rfl 25 _ 32 5 P4 Tryd.underlying25 (by rw [info_dig, HUQ.out])) ?_)
                        | (refine wp_run rfl (exec_neqD rfl x y rfl rfl HLX.out HLY.out false HM.out _) ?_)
                        | (refine wp_run rfl (exec_neqD rfl P Q rfl rfl HPL.out HQL.out true HN.out _) ?_))
                      go_ret
                      rw [HGA.out] at *
                      exact ⟨rfl, Pb4⟩
                    · have HM : Hid ((!(x == y)) = true) := Lib.hid (by rw [beq_eq_false_iff_ne.2 hxy2]; rfl)
                      clear hxy2
                      go_wp2_with (first
                        | (refine wp_run rfl (exec_eqB rfl P2 Q2 rfl rfl HP2L.out HQ2L.out true HE.out _) ?_)
                        | (refine wp_run rfl (exec_loadA 25 rfl ga rfl 25 _ 32 5 PA4 Tryd.underlying25 (by rw [info_dig, HUP2.out])) ?_)
                        | (refine wp_run rfl (exec_loadA 25 rfl gb rfl 25 _ 32 5 PB Tryd.underlying25 (by rw [info_dig, HUQ2.out])) ?_)
                        | (refine wp_run rfl (exec_loadA 25 rfl g1 rfl 25 _ 32 5 P1 Tryd.underlying25 (by rw [info_dig, HUx.out])) ?_)
                        | (refine wp_run rfl (exec_loadA 25 rfl g2 rfl 25 _ 32 5 P2b Tryd.underlying25 (by rw [info_dig, HUy.out])) ?_)
                        | (refine wp_run rfl (exec_neqD rfl x y rfl rfl HLX.out HLY.out true HM.out _) ?_))
                      go_ret
                      rw [HGA.out] at *
                      exact ⟨rfl, Pb4⟩
                  · have HE : Hid ((P2 == Q2) = false) := Lib.hid (beq_eq_false_iff_ne.2 hpq)
                    have HNE2 := Lib.hid hpq
                    clear hpq P1 P2b P3 P4
                    go_wp2_with (first
                      | (refine wp_run rfl (exec_loadA 25 rfl ga rfl 25 _ 32 5 PA4 Tryd.underlying25 (by rw [info_dig, HUP2.out])) ?_)
                      | (refine wp_run rfl (exec_loadA 25 rfl gb rfl 25 _ 32 5 PB Tryd.underlying25 (by rw [info_dig, HUQ2.out])) ?_)
                      | (refine wp_run rfl (exec_eqB rfl P2 Q2 rfl rfl HP2L.out HQ2L.out false HE.out _) ?_))
                    go_roundw
                    case rel => exact ⟨k + 1, j / 2, P2, Q2, by go_num, by go_num, by omega, HJ2, by omega, HP2, HQ2, HNE2, HP2L, HQ2L, PA4, PB, Pb4⟩
                    case measure => simp [intOf]; omega
                · skip
                  have he : (((j : Int) % 2) == 1) = false := by simp; omega
                  have HPP := Lib.hid (show Sha.tag Sha.pairT (P ++ x) = P2 by rw [HSP.out]; unfold Kt.stp; rw [if_pos (by omega)]; rfl)
                  have HQP := Lib.hid (show Sha.tag Sha.pairT (Q ++ y) = Q2 by rw [HSQ.out]; unfold Kt.stp; rw [if_pos (by omega)]; rfl)
                  have N1 := F1
                  have N2 := F2
                  have N3 := F3
                  have N4 := E4
                  have NA := A5
                  have NB := B5
                  have Nb := bel5
                  clear hev F1 F2 F3 E4 A5 B5 bel5
                  have l1 := N1.lt
                  have hz5 : wr.heap.size ≤ w5.heap.size := z5
                  go_upto_region 15 with (fail)
                  refine wp_region_ptk (fun b => b ≠ ga ∧ b ≠ gb) (.take 0 (.take 1 (.take 3 (.take 4 (.step 2 (.step 5 (.step 6 (.step 7 .done)))))))) (by kernel_rfl) (by kernel_rfl) (by kernel_rfl) (fun _ _ h => h) ?_
                  have bd : Below w5.heap.size w5 w5.drew := (Below.refl _ _).drew
                  have M1 := N1.past bd N1.lt
                  have M2 := N2.past bd N2.lt
                  have M3 := N3.past bd N3.lt
                  have M4 := N4.past bd N4.lt
                  have MA := NA.past bd NA.lt
                  have MB := NB.past bd NB.lt
                  have Mb := Nb.trans (bd.mono Nb.size)
                  obtain ⟨v0, hv0⟩ : ∃ u, u = w5.drew := ⟨_, rfl⟩
                  rw [← hv0] at M1 M2 M3 M4 MA MB Mb ⊢
                  have hWg : W.heap.size ≤ ga := by have := HGA.out; omega
                  have o1 : g1 ≠ ga ∧ g1 ≠ gb := ⟨by omega, by omega⟩
                  have o2 : g2 ≠ ga ∧ g2 ≠ gb := ⟨by omega, by omega⟩
                  have o3 : g3 ≠ ga ∧ g3 ≠ gb := ⟨by omega, by omega⟩
                  have o4 : g4 ≠ ga ∧ g4 ≠ gb := ⟨by omega, by omega⟩
                  clear hv0 bd N1 N2 N3 N4 NA NB Nb l1 hz5
                  refine ptk_take rfl rfl rfl rfl ?_
                  apply Exists.intro
                  refine ⟨fun w' hw' => ?_, ?_⟩
                  · refine wp_run rfl (exec_loadA 25 rfl g1 rfl 25 _ 32 5 (M1.keep hw' o1) Tryd.underlying25 (by rw [info_dig, HUP.out])) ?_
                    exact ⟨rfl, rfl, rfl⟩
                  refine ptk_take rfl rfl rfl rfl ?_
                  apply Exists.intro
                  refine ⟨fun w' hw' => ?_, ?_⟩
                  · refine wp_run rfl (exec_loadA 25 rfl g3 rfl 25 _ 32 5 (M3.keep hw' o3) Tryd.underlying25 (by rw [info_dig, HUx.out])) ?_
                    exact ⟨rfl, rfl, rfl⟩
                  refine ptk_take rfl rfl rfl rfl ?_
                  apply Exists.intro
                  refine ⟨fun w' hw' => ?_, ?_⟩
                  · refine wp_run rfl (exec_loadA 25 rfl g2 rfl 25 _ 32 5 (M2.keep hw' o2) Tryd.underlying25 (by rw [info_dig, HUQ.out])) ?_
                    exact ⟨rfl, rfl, rfl⟩
                  refine ptk_take rfl rfl rfl rfl ?_
                  apply Exists.intro
                  refine ⟨fun w' hw' => ?_, ?_⟩
                  · refine wp_run rfl (exec_loadA 25 rfl g4 rfl 25 _ 32 5 (M4.keep hw' o4) Tryd.underlying25 (by rw [info_dig, HUy.out])) ?_
                    exact ⟨rfl, rfl, rfl⟩
                  simp only [Act.put, List.getElem_toArray, List.getElem_cons_succ, List.getElem_cons_zero, List.setIfInBounds_toArray, List.set_cons_succ, List.set_cons_zero]
                  refine ptk_step rfl ?_
                  go_wp2_with fail
                  refine (pair_any P x v0 HPL.out HLX.out (HK.out.past Mb)).mono ?_
                  rintro e v1 ⟨rfl, c1⟩
                  rw [HPP.out]
                  go_wp2_with fail
                  refine ⟨rfl, Keep.of_below c1, ?_⟩
                  have Mb1 := Mb.trans (c1.mono Mb.size)
                  refine ptk_step rfl ?_
                  go_wp2_with fail
                  refine (pair_any Q y v1 HQL.out HLY.out (HK.out.past Mb1)).mono ?_
                  rintro e v2 ⟨rfl, c2⟩
                  rw [HQP.out]
                  go_wp2_with fail
                  refine ⟨rfl, Keep.of_below c2, ?_⟩
                  have Mb2 := Mb1.trans (c2.mono Mb1.size)
                  have c12 : Below v0.heap.size v0 v2 := c1.trans (c2.mono c1.size)
                  have O1 := M1.past c12 M1.lt
                  have O2 := M2.past c12 M2.lt
                  have O3 := M3.past c12 M3.lt
                  have O4 := M4.past c12 M4.lt
                  have OA := MA.past c12 MA.lt
                  have OB := MB.past c12 MB.lt
                  clear M1 M2 M3 M4 MA MB Mb Mb1 c1 c2 c12
                  refine ptk_step rfl ?_
                  refine wp_storeA 25 (.tmp 5) (.tmp 95) rfl rfl ga rfl 25 (u8s P) (u8s P2) rfl OA (by rw [info_dig, HUP2.out]) (by rw [HUP.out, HUP2.out]) (u8s_one _) rfl ?_
                  intro v3 PA k3
                  change _ ∧ _ ∧ _
                  refine ⟨rfl, k3.mono (fun q hq => hq.1), ?_⟩
                  have OB3 := OB.keep k3 (Ne.symm hgab)
                  refine ptk_step rfl ?_
                  refine wp_storeA 25 (.tmp 6) (.tmp 98) rfl rfl gb rfl 25 (u8s Q) (u8s Q2) rfl OB3 (by rw [info_dig, HUQ2.out]) (by rw [HUQ.out, HUQ2.out]) (u8s_one _) rfl ?_
                  intro v4 PB k4
                  change _ ∧ _ ∧ _
                  refine ⟨rfl, k4.mono (fun q hq => hq.2), ?_⟩
                  change Exit.then _ _ Exit.normal _ _
                  have PA4 := PA.keep k4 hgab
                  have P1 := (O1.keep k3 o1.1).keep k4 o1.2
                  have P2b := (O2.keep k3 o2.1).keep k4 o2.2
                  have P3 := (O3.keep k3 o3.1).keep k4 o3.2
                  have P4 := (O4.keep k3 o4.1).keep k4 o4.2
                  have hWb : W.heap.size ≤ gb := by omega
                  have Pb4 : Below W.heap.size W v4 := Mb2.trans ((k3.below (n := W.heap.size) (fun q hq => by omega) Mb2.size).trans (k4.below (n := W.heap.size) (fun q hq => by omega) (Nat.le_trans Mb2.size k3.size)))
                  clear O1 O2 O3 O4 OA OB OB3 PA Mb2 k3 k4 o1 o2 o3 o4
                  by_cases hpq : P2 = Q2
                  · have HE : Hid ((P2 == Q2) = true) := Lib.hid (by rw [hpq]; exact beq_self_eq_true _)
                    clear hpq
                    have HN : Hid ((!(P == Q)) = true) := Lib.hid (by rw [beq_eq_false_iff_ne.2 HPQ.out]; rfl)
                    go_wp2_with (first
                      | (refine wp_run rfl (exec_eqB rfl P2 Q2 rfl rfl HP2L.out HQ2L.out true HE.out _) ?_)
                      | (refine wp_run rfl (exec_loadA 25 rfl ga rfl 25 _ 32 5 PA4 Tryd.underlying25 (by rw [info_dig, HUP2.out])) ?_)
                      | (refine wp_run rfl (exec_loadA 25 rfl gb rfl 25 _ 32 5 PB Tryd.underlying25 (by rw [info_dig, HUQ2.out])) ?_)
                      | (refine wp_run rfl (exec_loadA 25 rfl g1 rfl 25 _ 32 5 P1 Tryd.underlying25 (by rw [info_dig, HUP.out])) ?_)
                      | (refine wp_run rfl (exec_loadA 25 rfl g2 rfl 25 _ 32 5 P2b Tryd.underlying25 (by rw [info_dig, HUQ.out])) ?_)
                      | (refine wp_run rfl (exec_neqD rfl P Q rfl rfl HPL.out HQL.out true HN.out _) ?_))
                    go_ret
                    rw [HGA.out] at *
                    exact ⟨rfl, Pb4⟩
                  · have HE : Hid ((P2 == Q2) = false) := Lib.hid (beq_eq_false_iff_ne.2 hpq)
                    have HNE2 := Lib.hid hpq
                    clear hpq P1 P2b P3 P4
                    go_wp2_with (first
                      | (refine wp_run rfl (exec_loadA 25 rfl ga rfl 25 _ 32 5 PA4 Tryd.underlying25 (by rw [info_dig, HUP2.out])) ?_)
                      | (refine wp_run rfl (exec_loadA 25 rfl gb rfl 25 _ 32 5 PB Tryd.underlying25 (by rw [info_dig, HUQ2.out])) ?_)
                      | (refine wp_run rfl (exec_eqB rfl P2 Q2 rfl rfl HP2L.out HQ2L.out false HE.out _) ?_))
                    go_roundw
                    case rel => exact ⟨k + 1, j / 2, P2, Q2, by go_num, by go_num, by omega, HJ2, by omega, HP2, HQ2, HNE2, HP2L, HQ2L, PA4, PB, Pb4⟩
                    case measure => simp [intOf]; omega
              · exfalso
                have hkn2 : k = n := by omega
                exact HPQ.out (by rw [HP.out, HQQ.out, hkn2, ← HX.out, ← HY.out]; exact HXY.out)
          · skip
            have HQX : Hid ((!(X == Y)) = true) := Lib.hid (by rw [beq_eq_false_iff_ne.2 hxy]; rfl)
            clear hxy hz
            go_wp2_with (first
              | (refine wp_run rfl (exec_loadA 25 rfl gx rfl 25 _ 32 5 f_x5 Tryd.underlying25 (by rw [info_dig, HUX.out])) ?_)
              | (refine wp_run rfl (exec_loadA 25 rfl gy rfl 25 _ 32 5 h5 Tryd.underlying25 (by rw [info_dig, HUY.out])) ?_)
              | (refine wp_run rfl (exec_neqD rfl X Y rfl rfl HXL.out HYL.out true HQX.out _) ?_))
            go_ret
            rw [HGA.out] at *
            exact ⟨rfl, f_bel5⟩
        · skip
          have HC6 := Lib.hid (climb_no _ a F n ix v1 f_v1 HAL.out hnl hix1 hix2 hok)
          go_wp2_with (first | (refine wp_run rfl (exec_loadA 25 rfl ga rfl 25 _ 32 5 f_a1 Tryd.underlying25 (by rw [info_dig, HUA.out])) ?_))
          refine HC6.out.mono ?_
          rintro e v6 ⟨rfl, b6⟩
          have f_a6 := f_a1.past b6 f_a1.lt
          have f_b6 := f_b1.past b6 f_b1.lt
          have f_v6 := f_v1.past b6
          have f_u6 := f_u1.past b6
          have f_k6 := f_k1.past b6
          have f_bel6 := f_bel1.trans (b6.mono f_bel1.size)
          clear f_a1 f_b1 f_v1 f_u1 f_k1 f_bel1 HC6 b6
          have HUZ : Hid ((u8s z32).length = 32) := Lib.hid rfl
          have x7 := Blk.new v6 25 (u8s z32)
          have bx7 : Below v6.heap.size v6 (v6.alloc (.cells (u8s z32).toArray 25)) := (Below.refl _ _).alloc (Nat.le_refl _) _
          go_upto_region 6 with (refine wp_storeA 25 (.tmp 11) (.tmp 42) rfl rfl v6.heap.size rfl 25 (u8s z32) _ rfl x7 (by rw [info_dig, HUZ.out]) (by first | (rw [HUZ.out]; rfl) | rfl) (u8s_one _) rfl ?_; intro y7 h7 k7)
          have bb7 : Below v6.heap.size v6 y7 := ((Keep.of_below bx7).trans (k7.mono (O' := fun q => q < v6.heap.size) (fun q hq => by omega))).below (fun q hq => hq) (Nat.le_refl _)
          have f_a7 := f_a6.past bb7 f_a6.lt
          have f_b7 := f_b6.past bb7 f_b6.lt
          have f_v7 := f_v6.past bb7
          have f_u7 := f_u6.past bb7
          have f_k7 := f_k6.past bb7
          have f_bel7 := f_bel6.trans (bb7.mono f_bel6.size)
          clear f_a6 f_b6 f_v6 f_u6 f_k6 f_bel6 x7 bx7 k7 bb7
          obtain ⟨gx, hgx⟩ : ∃ g, g = v6.heap.size := ⟨_, rfl⟩
          rw [← hgx] at h7 ⊢
          clear hgx
          have HC8 := Lib.hid (climb_no _ b G n ix y7 f_u7 HBL.out hnl hix1 hix2 hok)
          go_wp2_with (first | (refine wp_run rfl (exec_loadA 25 rfl gb rfl 25 _ 32 5 f_b7 Tryd.underlying25 (by rw [info_dig, HUB.out])) ?_))
          refine HC8.out.mono ?_
          rintro e v8 ⟨rfl, b8⟩
          have f_a8 := f_a7.past b8 f_a7.lt
          have f_b8 := f_b7.past b8 f_b7.lt
          have f_v8 := f_v7.past b8
          have f_u8 := f_u7.past b8
          have f_k8 := f_k7.past b8
          have f_bel8 := f_bel7.trans (b8.mono f_bel7.size)
          have f_x8 := h7.past b8 h7.lt
          clear f_a7 f_b7 f_v7 f_u7 f_k7 f_bel7 h7 HC8 b8
          have x9 := Blk.new v8 25 (u8s z32)
          have bx9 : Below v8.heap.size v8 (v8.alloc (.cells (u8s z32).toArray 25)) := (Below.refl _ _).alloc (Nat.le_refl _) _
          go_upto_region 7 with (refine wp_storeA 25 (.tmp 13) (.tmp 49) rfl rfl v8.heap.size rfl 25 (u8s z32) _ rfl x9 (by rw [info_dig, HUZ.out]) (by first | (rw [HUZ.out]; rfl) | rfl) (u8s_one _) rfl ?_; intro y9 h9 k9)
          have bb9 : Below v8.heap.size v8 y9 := ((Keep.of_below bx9).trans (k9.mono (O' := fun q => q < v8.heap.size) (fun q hq => by omega))).below (fun q hq => hq) (Nat.le_refl _)
          have f_a9 := f_a8.past bb9 f_a8.lt
          have f_b9 := f_b8.past bb9 f_b8.lt
          have f_v9 := f_v8.past bb9
          have f_u9 := f_u8.past bb9
          have f_k9 := f_k8.past bb9
          have f_bel9 := f_bel8.trans (bb9.mono f_bel8.size)
          have f_x9 := f_x8.past bb9 f_x8.lt
          clear f_a8 f_b8 f_v8 f_u8 f_k8 f_bel8 f_x8 x9 bx9 k9 bb9
          obtain ⟨gy, hgy⟩ : ∃ g, g = v8.heap.size := ⟨_, rfl⟩
          rw [← hgy] at h9 ⊢
          clear hgy
          clear hok hz
          go_wp2
          go_ret
          rw [HGA.out] at *
          exact ⟨rfl, f_bel9⟩
    · skip
      have h6i : (6 : Int) < (n : Int) := by omega
      go_wp2
      go_ret
      rw [HGA.out] at *
      exact ⟨rfl, f_bel1⟩
  · skip
    have hne : ((n : Int) == (m : Int)) = false := beq_eq_false_iff_ne.2 (by omega)
    have hni : ¬ ((n : Int) = (m : Int)) := by omega
    clear hnm
    go_wp2
    go_ret
    rw [HGA.out] at *
    exact ⟨rfl, f_bel1⟩
end Go.Proofs.YtccepoeenkpifaaDoor
