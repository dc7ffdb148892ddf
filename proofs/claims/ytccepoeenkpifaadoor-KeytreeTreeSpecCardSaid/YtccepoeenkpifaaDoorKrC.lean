/-
  The reference of layer 5: Climb.
-/
import Derived.Test.YtccepoeenkpifaaDoorKrA
import Derived.Test.YtccepoeenkpifaaDoorKtE
namespace Go.Proofs.YtccepoeenkpifaaDoor
open Go.RowKit
set_option linter.unusedVariables false
set_option linter.unusedSimpArgs false

set_option maxRecDepth 100000 in
set_option maxHeartbeats 1000000 in
theorem rclimb_no (v : Value) (x G : List UInt8) (n : Nat) (ix : Int) (w : World) (hv : Row w w.heap.size 32 n v (u8s G)) (hx : x.length = 32) (hm : n ≤ 9223372036854775807) (hx1 : -9223372036854775808 ≤ ix) (hx2 : ix ≤ 9223372036854775807) (h : ¬ (n ≤ 6 ∧ 0 ≤ ix ∧ ix < ((2 ^ n : Nat) : Int))) :
    Calls Tryd.prog 20 #[.agg (u8s x).toArray, .int .i64 ix, v] w fun e w' => e = .returned (.tuple #[.agg (u8s z32).toArray, .int .i64 1]) ∧ Below w.heap.size w w' := by
  obtain ⟨A, cap, rfl⟩ := row_form hv
  have hz := zero_dig
  have b0 : Below w.heap.size w ((w.alloc (.cells (u8s x).toArray 25)).alloc (.cells (u8s z32).toArray 25)) := ((Below.refl _ _).alloc (Nat.le_refl _) _).alloc (by simp) _
  have r0 : Blk ((w.alloc (.cells (u8s x).toArray 25)).alloc (.cells (u8s z32).toArray 25)) (w.heap.size + 1) 25 (u8s z32) := by
    have h := Blk.new (w.alloc (.cells (u8s x).toArray 25)) 25 (u8s z32)
    rw [World.size_alloc] at h; exact h
  obtain ⟨W0, hW0⟩ : ∃ W, W = (w.alloc (.cells (u8s x).toArray 25)).alloc (.cells (u8s z32).toArray 25) := ⟨_, rfl⟩
  rw [← hW0] at b0 r0
  have HW := Lib.hid hW0
  clear hW0 hv
  by_cases h6 : n ≤ 6
  · have g1 : decide ((6 : Int) < (n : Int)) = false := by simp; omega
    by_cases h0 : 0 ≤ ix
    · have g2 : decide (ix < 0) = false := by simp; omega
      have h3 : wrap64 ((2 : Int) ^ n) ≤ ix := by
        rw [shl_n h6]
        by_cases h2 : ((2 ^ n : Nat) : Int) ≤ ix
        · exact h2
        · exact absurd ⟨h6, h0, by omega⟩ h
      have g3 : decide (wrap64 ((2 : Int) ^ n) ≤ ix) = true := decide_eq_true h3
      clear h
      go_enter Tryd.func20, Tryd.ntmps20
      go_upto_region 1 with (fail)
      rw [← HW.out]
      go_wp2_with (refine wp_storeA 25 (.tmp 6) (.tmp 25) rfl rfl (w.heap.size + 1) rfl 25 (u8s z32) (u8s z32) rfl r0 (by rw [info_dig]; rfl) rfl (u8s_one _) rfl ?_; intro w8 h8 k8)
      have b8 : Below w.heap.size w w8 := b0.trans (k8.below (fun q hq => by omega) b0.size)
      refine ret_arr_tmp Tryd.results20 rfl (w.heap.size + 1) 25 _ 32 5 rfl h8 Tryd.underlying25 (by rw [info_dig]; rfl) _ rfl ?_
      exact ⟨rfl, b8⟩
    · have g2 : decide (ix < 0) = true := by simp; omega
      clear h
      go_enter Tryd.func20, Tryd.ntmps20
      go_upto_region 1 with (fail)
      rw [← HW.out]
      go_wp2_with (refine wp_storeA 25 (.tmp 6) (.tmp 25) rfl rfl (w.heap.size + 1) rfl 25 (u8s z32) (u8s z32) rfl r0 (by rw [info_dig]; rfl) rfl (u8s_one _) rfl ?_; intro w8 h8 k8)
      have b8 : Below w.heap.size w w8 := b0.trans (k8.below (fun q hq => by omega) b0.size)
      refine ret_arr_tmp Tryd.results20 rfl (w.heap.size + 1) 25 _ 32 5 rfl h8 Tryd.underlying25 (by rw [info_dig]; rfl) _ rfl ?_
      exact ⟨rfl, b8⟩
  · have g1 : decide ((6 : Int) < (n : Int)) = true := by simp; omega
    clear h
    go_enter Tryd.func20, Tryd.ntmps20
    go_upto_region 1 with (fail)
    rw [← HW.out]
    go_wp2_with (refine wp_storeA 25 (.tmp 6) (.tmp 25) rfl rfl (w.heap.size + 1) rfl 25 (u8s z32) (u8s z32) rfl r0 (by rw [info_dig]; rfl) rfl (u8s_one _) rfl ?_; intro w8 h8 k8)
    have b8 : Below w.heap.size w w8 := b0.trans (k8.below (fun q hq => by omega) b0.size)
    refine ret_arr_tmp Tryd.results20 rfl (w.heap.size + 1) 25 _ 32 5 rfl h8 Tryd.underlying25 (by rw [info_dig]; rfl) _ rfl ?_
    exact ⟨rfl, b8⟩

set_option maxRecDepth 100000 in
set_option maxHeartbeats 1000000 in
theorem rclimb_yes (v : Value) (x G : List UInt8) (n ix : Nat) (w : World) (hv : Row w w.heap.size 32 n v (u8s G)) (hx : x.length = 32) (hn : n ≤ 6) (hix : ix < 2 ^ n) (hk : KIs 2 w) (hin : InIs 0 w) :
    Calls Tryd.prog 20 #[.agg (u8s x).toArray, .int .i64 ix, v] w fun e w' => e = .returned (.tuple #[.agg (u8s (Kt.climb x ix G n)).toArray, .int .i64 0]) ∧ Below w.heap.size w w' := by
  obtain ⟨A, cap, rfl⟩ := row_form hv
  have HGL := Lib.hid (row_flen hv)
  have HV := Lib.hid hv
  have HK := Lib.hid hk
  have HIN := Lib.hid hin
  have hz := zero_dig
  have HX := Lib.hid hx
  have HUX := Lib.hid (show (u8s x).length = 32 by rw [u8s_length, hx])
  have hix64 : ix ≤ 64 := by have := Kt.pow_le hn; omega
  have b0 : Below w.heap.size w ((w.alloc (.cells (u8s x).toArray 25)).alloc (.cells (u8s z32).toArray 25)) := ((Below.refl _ _).alloc (Nat.le_refl _) _).alloc (by simp) _
  have x0 : Blk ((w.alloc (.cells (u8s x).toArray 25)).alloc (.cells (u8s z32).toArray 25)) w.heap.size 25 (u8s x) := (Blk.new w _ _).past ((Below.refl _ _).alloc (Nat.le_refl _) _) (by simp)
  have r0 : Blk ((w.alloc (.cells (u8s x).toArray 25)).alloc (.cells (u8s z32).toArray 25)) (w.heap.size + 1) 25 (u8s z32) := by
    have h := Blk.new (w.alloc (.cells (u8s x).toArray 25)) 25 (u8s z32)
    rw [World.size_alloc] at h; exact h
  obtain ⟨W0, hW0⟩ : ∃ W, W = (w.alloc (.cells (u8s x).toArray 25)).alloc (.cells (u8s z32).toArray 25) := ⟨_, rfl⟩
  rw [← hW0] at b0 x0 r0
  have HW := Lib.hid hW0
  have g1 : decide ((6 : Int) < (n : Int)) = false := by simp; omega
  have g2 : decide ((ix : Int) < 0) = false := by simp
  have h3 : ¬ wrap64 ((2 : Int) ^ n) ≤ (ix : Int) := by rw [shl_n hn]; omega
  have g3 : decide (wrap64 ((2 : Int) ^ n) ≤ (ix : Int)) = false := decide_eq_false h3
  clear hW0 hv hk hin hix hx
  go_enter Tryd.func20, Tryd.ntmps20
  go_upto_region 1 with (fail)
  rw [← HW.out]
  go_upto_region 3 with (fail)
  clear g1 g2 g3 h3
  have n3 := Blk.new W0 25 (u8s z32)
  have bn : Below W0.heap.size W0 (W0.alloc (.cells (u8s z32).toArray 25)) := (Below.refl _ _).alloc (Nat.le_refl _) _
  go_upto_region 4 with (first
    | (refine wp_run rfl (exec_loadA 25 rfl w.heap.size rfl 25 _ 32 5 x0 Tryd.underlying25 (by rw [info_dig, HUX.out])) ?_)
    | (refine wp_storeA 25 (.tmp 8) (.tmp 26) rfl rfl W0.heap.size rfl 25 (u8s z32) (u8s x) rfl n3 (by rw [info_dig, HUX.out]) (by rw [HUX.out]; rfl) (u8s_one _) rfl ?_; intro w4 n4 k4))
  have b24 : Below W0.heap.size W0 w4 := ((Keep.of_below bn).trans (k4.mono (O' := fun q => q < W0.heap.size) (fun q hq => by omega))).below (fun q hq => hq) (Nat.le_refl _)
  have r4 := r0.past b24 r0.lt
  have b4 := b0.trans (b24.mono b0.size)
  have hrl := r0.lt
  obtain ⟨gn, hgn⟩ : ∃ gn, gn = W0.heap.size := ⟨_, rfl⟩
  have hgn1 : w.heap.size + 1 < gn := by omega
  rw [← hgn] at n4 ⊢
  clear hgn n3 bn k4 b24 x0 r0 b0 hrl
  go_wp2_with fail
  go_loopw [29, 1] (fun i jx wr => ∃ (k j : Nat) (X : List UInt8), i = .int .i64 k ∧ jx = .int .i64 j ∧ k ≤ n ∧ Hid (j = ix / 2 ^ k) ∧ j ≤ 64 ∧ Hid (X = Kt.climb x ix G k) ∧ Hid (X.length = 32) ∧ Blk wr gn 25 (u8s X) ∧ Blk wr (w.heap.size + 1) 25 (u8s z32) ∧ Below w.heap.size w wr) (fun i _ _ => n - (intOf i).toNat)
  case atStart => exact ⟨0, ix, x, rfl, rfl, by omega, Lib.hid (by simp), hix64, Lib.hid rfl, HX, n4, r4, b4⟩
  case round =>
    clear n4 r4 b4
    obtain ⟨k, j, X, rfl, rfl, hkn, HJ, hj64, HXE, HXL, hno, hre, hb⟩ := hrel
    have HUX2 := Lib.hid (show (u8s X).length = 32 by rw [u8s_length, HXL.out])
    have hgl := hno.lt
    by_cases hlt : k < n
    · have hv := HV.out.past hb
      obtain ⟨ad, hAe, _, _⟩ := hv.at_ (by omega)
      subst hAe
      obtain ⟨y, hye⟩ : ∃ y, y = Wt.el G k := ⟨_, rfl⟩
      have HYL := Lib.hid (show y.length = 32 by rw [hye]; exact Wt.el_len (n := n) (by have := HGL.out; omega) hlt)
      have HUY := Lib.hid (show (u8s y).length = 32 by rw [u8s_length, HYL.out])
      have cy := row_elem hv hlt
      rw [← hye] at cy
      have HCY := Lib.hid cy
      have HS := Lib.hid (show Kt.stp X y j = Kt.climb x ix G (k + 1) by rw [Kt.climb_succ, ← HXE.out, hye, HJ.out])
      have hs0 := Blk.new wr 25 (u8s z32)
      have bs0 : Below wr.heap.size wr (wr.alloc (.cells (u8s z32).toArray 25)) := (Below.refl _ _).alloc (Nat.le_refl _) _
      have hz := zero_dig
      clear cy hye hv
      go_upto_region 7 with (first
        | (refine wp_run rfl (exec_ixS 29 25 32 Tryd.underlying29 info_dig wr rfl rfl _ _ k rfl rfl hlt (q := ad.add (k * 32)) rfl) ?_)
        | (refine wp_run rfl (exec_loadP 25 rfl (ad.add (k * 32)) rfl (u8s y) 32 5 HCY.out Tryd.underlying25 (by rw [info_dig, HUY.out])) ?_)
        | (refine wp_storeA 25 (.tmp 10) (.tmp 32) rfl rfl wr.heap.size rfl 25 (u8s z32) (u8s y) rfl hs0 (by rw [info_dig, HUY.out]) (by rw [HUY.out]; rfl) (u8s_one _) rfl ?_; intro w5 s5 k5))
      have b5 : Below wr.heap.size wr w5 := ((Keep.of_below bs0).trans (k5.mono (O' := fun q => q < wr.heap.size) (fun q hq => by omega))).below (fun q hq => hq) (Nat.le_refl _)
      have n5 := hno.past b5 hno.lt
      have r5 := hre.past b5 hre.lt
      have bb5 := hb.trans (b5.mono hb.size)
      obtain ⟨gs, hgs⟩ : ∃ gs, gs = wr.heap.size := ⟨_, rfl⟩
      rw [← hgs] at s5 ⊢
      clear hgs hs0 bs0 hz k5 b5 hno hre hb
      obtain ⟨D, hD⟩ : ∃ D, D = Kt.stp X y j := ⟨_, rfl⟩
      have HD := Lib.hid hD
      have HUD := Lib.hid (show (u8s D).length = 32 by rw [u8s_length, hD, Kt.stp_len])
      have HXL2 := Lib.hid (show D.length = 32 by rw [hD, Kt.stp_len])
      have HX2 := Lib.hid (show D = Kt.climb x ix G (k + 1) by rw [hD, HS.out])
      have HJ2 := Lib.hid (show j / 2 = ix / 2 ^ (k + 1) by rw [Kt.half_pow, HJ.out])
      clear hD HS
      by_cases hev : j % 2 = 0
      · have HP := Lib.hid (rpair_any X y w5 HXL.out HYL.out (HK.out.past bb5) (HIN.out.past bb5))
        have HSS := Lib.hid (show Sha.tag Sha.pairT (X ++ y) = D by rw [HD.out]; unfold Kt.stp; rw [if_pos hev]; rfl)
        have he : (((j : Int) % 2) == 0) = true := by simp; omega
        clear hev
        go_wp2_with (first
          | (refine wp_run rfl (exec_loadA 25 rfl gn rfl 25 _ 32 5 n5 Tryd.underlying25 (by rw [info_dig, HUX2.out])) ?_)
          | (refine wp_run rfl (exec_loadA 25 rfl gs rfl 25 _ 32 5 s5 Tryd.underlying25 (by rw [info_dig, HUY.out])) ?_))
        refine HP.out.mono ?_
        rintro e w6 ⟨rfl, b6⟩
        have n6 := n5.past b6 n5.lt
        have r6 := r5.past b6 r5.lt
        have bb6 := bb5.trans (b6.mono bb5.size)
        rw [HSS.out]
        clear HP HSS b6 n5 r5 bb5 s5
        go_wp2_with (refine wp_storeA 25 (.tmp 8) (.tmp 38) rfl rfl gn rfl 25 (u8s X) (u8s D) rfl n6 (by rw [info_dig, HUD.out]) (by rw [HUX2.out, HUD.out]) (u8s_one _) rfl ?_; intro w7 n7 k7)
        have r7 := r6.keep k7 (by omega)
        have bb7 : Below w.heap.size w w7 := bb6.trans (k7.below (fun q hq => by omega) bb6.size)
        clear n6 r6 bb6 k7
        go_roundw
        case rel => exact ⟨k + 1, j / 2, D, by go_num, by go_num, by omega, HJ2, by omega, HX2, HXL2, n7, r7, bb7⟩
        case measure => simp [intOf]; omega
      · have HP := Lib.hid (rpair_any y X w5 HYL.out HXL.out (HK.out.past bb5) (HIN.out.past bb5))
        have HSS := Lib.hid (show Sha.tag Sha.pairT (y ++ X) = D by rw [HD.out]; unfold Kt.stp; rw [if_neg hev]; rfl)
        have he : (((j : Int) % 2) == 0) = false := by simp; omega
        clear hev
        go_wp2_with (first
          | (refine wp_run rfl (exec_loadA 25 rfl gn rfl 25 _ 32 5 n5 Tryd.underlying25 (by rw [info_dig, HUX2.out])) ?_)
          | (refine wp_run rfl (exec_loadA 25 rfl gs rfl 25 _ 32 5 s5 Tryd.underlying25 (by rw [info_dig, HUY.out])) ?_))
        refine HP.out.mono ?_
        rintro e w6 ⟨rfl, b6⟩
        have n6 := n5.past b6 n5.lt
        have r6 := r5.past b6 r5.lt
        have bb6 := bb5.trans (b6.mono bb5.size)
        rw [HSS.out]
        clear HP HSS b6 n5 r5 bb5 s5
        go_wp2_with (refine wp_storeA 25 (.tmp 8) (.tmp 41) rfl rfl gn rfl 25 (u8s X) (u8s D) rfl n6 (by rw [info_dig, HUD.out]) (by rw [HUX2.out, HUD.out]) (u8s_one _) rfl ?_; intro w7 n7 k7)
        have r7 := r6.keep k7 (by omega)
        have bb7 : Below w.heap.size w w7 := bb6.trans (k7.below (fun q hq => by omega) bb6.size)
        clear n6 r6 bb6 k7
        go_roundw
        case rel => exact ⟨k + 1, j / 2, D, by go_num, by go_num, by omega, HJ2, by omega, HX2, HXL2, n7, r7, bb7⟩
        case measure => simp [intOf]; omega
    · have hkn2 : k = n := by omega
      have HXE2 := Lib.hid (show X = Kt.climb x ix G n by rw [HXE.out, hkn2])
      clear hkn2
      go_wp2_with (first
        | (refine wp_run rfl (exec_loadA 25 rfl gn rfl 25 _ 32 5 hno Tryd.underlying25 (by rw [info_dig, HUX2.out])) ?_)
        | (refine wp_storeA 25 (.tmp 6) (.tmp 45) rfl rfl (w.heap.size + 1) rfl 25 (u8s z32) (u8s X) rfl hre (by rw [info_dig, HUX2.out]) (by rw [HUX2.out]; rfl) (u8s_one _) rfl ?_; intro w8 h8 k8))
      have b8 : Below w.heap.size w w8 := hb.trans (k8.below (fun q hq => by omega) hb.size)
      refine ret_arr_tmp Tryd.results20 rfl (w.heap.size + 1) 25 _ 32 5 rfl h8 Tryd.underlying25 (by rw [info_dig, HUX2.out]) _ rfl ?_
      rw [← HXE2.out]
      exact ⟨rfl, b8⟩
end Go.Proofs.YtccepoeenkpifaaDoor
