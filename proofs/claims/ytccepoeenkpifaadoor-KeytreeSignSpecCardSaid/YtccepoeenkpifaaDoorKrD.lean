/-
  The reference of layer 5: leaves, Root, Sign.
-/
import Derived.Test.YtccepoeenkpifaaDoorKrA
import Derived.Test.YtccepoeenkpifaaDoorKtG
import Derived.Test.YtccepoeenkpifaaDoorWtS
namespace Go.Proofs.YtccepoeenkpifaaDoor
open Go.RowKit
set_option linter.unusedVariables false
set_option linter.unusedSimpArgs false

set_option maxRecDepth 100000 in
set_option maxHeartbeats 1000000 in
theorem rleaves_yes (v : Value) (s : List UInt8) (w : World) (hv : Bs w w.heap.size v s) (h1 : 1 ≤ s.length) (h2 : s.length ≤ 64) (hk : KIs 2 w) (hin : InIs 0 w) :
    Calls Tryd.prog 32 #[v] w fun e w' => ∃ u, e = .returned (.tuple #[u, .int .i64 0]) ∧ Row w' w'.heap.size 32 4 u (u8s (lvs s)) ∧ Below w.heap.size w w' := by
  obtain ⟨A, cap, rfl⟩ := hv.form
  have HV := Lib.hid hv
  have HF := Lib.hid (Wt.pub_len s)
  clear hv
  go_enter Tryd.func32, Tryd.ntmps32
  go_wp2_with fail
  go_loopw [8, 4] (fun i q wr => ∃ (k : Nat) (X : List UInt8), i = .int .i64 k ∧ k ≤ 4 ∧ Hid (X = Wt.cat (Wt.pub s) k) ∧ OwnD wr w.heap.size q k X ∧ Below w.heap.size w wr) (fun i _ _ => 4 - (intOf i).toNat)
  case atStart => exact ⟨0, [], rfl, by omega, Lib.hid rfl, OwnD.nil_ _ _, Below.refl _ _⟩
  case round =>
    obtain ⟨k, X, rfl, hk4, HX, ho, hb⟩ := hrel
    by_cases hlt : k < 4
    · have hz := zero_dig
      have HC := Lib.hid (rpublic_yes (.slice A s.length cap) s k wr (HV.out.past hb) h1 h2 (by omega) (hk.past hb) (hin.past hb))
      have HXS := Lib.hid (show X ++ Wt.pub s k = Wt.cat (Wt.pub s) (k + 1) by rw [HX.out]; rfl)
      obtain ⟨D, hD⟩ : ∃ D, D = Wt.pub s k := ⟨_, rfl⟩
      rw [← hD] at HC HXS
      have HDL := Lib.hid (show D.length = 32 by rw [hD, HF.out])
      have HUD := Lib.hid (show (u8s D).length = 32 by rw [u8s_length, HDL.out])
      clear hD
      go_wp2_with fail
      refine HC.out.mono ?_
      rintro e w2 ⟨rfl, b2⟩
      have o2 := ho.past b2
      have bb2 := hb.trans (b2.mono hb.size)
      have x2 := Blk.new w2 25 (u8s z32)
      have bx : Below w2.heap.size w2 (w2.alloc (.cells (u8s z32).toArray 25)) := (Below.refl _ _).alloc (Nat.le_refl _) _
      clear HC ho hb b2
      go_upto_region 6 with (refine wp_storeA 25 (.tmp 6) (.tmp 15) rfl rfl w2.heap.size rfl 25 (u8s z32) _ rfl x2 (by rw [info_dig, HUD.out]) (by rw [HUD.out]; rfl) (u8s_one _) rfl ?_; intro w3 x3 k3)
      have b3 : Below w2.heap.size w2 w3 := ((Keep.of_below bx).trans (k3.mono (O' := fun q => q < w2.heap.size) (fun q hq => by omega))).below (fun q hq => hq) (Nat.le_refl _)
      have o3 := o2.past b3
      have bb3 := bb2.trans (b3.mono bb2.size)
      have hbs := bb3.size
      obtain ⟨gx, hgx⟩ : ∃ g, g = w2.heap.size := ⟨_, rfl⟩
      rw [← hgx] at x3 ⊢
      clear hgx x2 bx k3 b3 o2 bb2 hz
      go_wp2_with (first
        | (refine wp_run rfl (exec_loadA 25 rfl gx rfl 25 _ 32 5 x3 Tryd.underlying25 (by rw [info_dig, HUD.out])) ?_)
        | (refine wp_buildD (.tmp 21) rfl rfl D HDL.out rfl ?_)
        | (refine wp_appD w.heap.size (.tmp 20) (.tmp 22) rfl rfl _ k X D HDL.out rfl rfl o3 hbs (by omega) ?_; intro v4 w4 o4 b4 _))
      have bb4 := bb3.trans b4
      clear o3 bb3 b4 x3
      go_roundw
      case rel => exact ⟨k + 1, X ++ D, by go_num, by omega, HXS, o4, bb4⟩
      case measure => simp [intOf]; omega
    · have hk44 : k = 4 := by omega
      subst hk44
      have hr := ho.row
      rw [show X = lvs s from HX.out] at hr
      have HR := Lib.hid hr
      clear hr ho hlt
      go_wp2
      go_ret2
      exact ⟨_, rfl, HR.out, hb⟩

set_option maxRecDepth 100000 in
set_option maxHeartbeats 1000000 in
theorem rleaves_no (v : Value) (s : List UInt8) (w : World) (hv : Bs w w.heap.size v s) (h : ¬ (1 ≤ s.length ∧ s.length ≤ 64)) :
    Calls Tryd.prog 32 #[v] w fun e w' => e = .returned (.tuple #[.slice none 0 0, .int .i64 1]) ∧ Below w.heap.size w w' := by
  obtain ⟨A, cap, rfl⟩ := hv.form
  have hc := rpublic_no (.slice A s.length cap) s 0 w hv (fun h2 => h ⟨h2.1, h2.2.1⟩)
  have HC := Lib.hid hc
  have hz := zero_dig
  clear hv hc h
  go_enter Tryd.func32, Tryd.ntmps32
  go_wp2_with fail
  go_loopw [8] (fun i wr => i = .int .i64 0 ∧ wr = w) (fun i _ => 0)
  case atStart => exact ⟨rfl, rfl⟩
  case round =>
    obtain ⟨rfl, rfl⟩ := hrel
    go_wp2_with fail
    refine HC.out.mono ?_
    rintro e w2 ⟨rfl, b2⟩
    have x2 := Blk.new w2 25 (u8s z32)
    have bx : Below w2.heap.size w2 (w2.alloc (.cells (u8s z32).toArray 25)) := (Below.refl _ _).alloc (Nat.le_refl _) _
    clear HC
    go_upto_region 6 with (refine wp_storeA 25 (.tmp 6) (.tmp 15) rfl rfl w2.heap.size rfl 25 (u8s z32) (u8s z32) rfl x2 (by rw [info_dig]; rfl) rfl (u8s_one _) rfl ?_; intro w3 x3 k3)
    have b3 : Below w2.heap.size w2 w3 := ((Keep.of_below bx).trans (k3.mono (O' := fun q => q < w2.heap.size) (fun q hq => by omega))).below (fun q hq => hq) (Nat.le_refl _)
    have bb3 := b2.trans (b3.mono b2.size)
    clear x2 bx k3 b3 b2 hz x3
    go_wp2
    go_ret2
    exact ⟨rfl, bb3⟩

set_option maxRecDepth 100000 in
theorem rroot_yes (v : Value) (s : List UInt8) (w : World) (hv : Bs w w.heap.size v s) (h1 : 1 ≤ s.length) (h2 : s.length ≤ 64) (hk : KIs 2 w) (hin : InIs 0 w) :
    Calls Tryd.prog 13 #[v] w fun e w' => e = .returned (.tuple #[.agg (u8s (Kt.mrk (lvs s) 2)).toArray, .int .i64 0]) ∧ Below w.heap.size w w' := by
  obtain ⟨A, cap, rfl⟩ := hv.form
  have hz := zero_dig
  have r0 := Blk.new w 25 (u8s z32)
  have b0 : Below w.heap.size w (w.alloc (.cells (u8s z32).toArray 25)) := (Below.refl _ _).alloc (Nat.le_refl _) _
  obtain ⟨W0, hW0⟩ : ∃ W, W = w.alloc (.cells (u8s z32).toArray 25) := ⟨_, rfl⟩
  rw [← hW0] at r0 b0
  have HW := Lib.hid hW0
  have HC := Lib.hid (rleaves_yes (.slice A s.length cap) s W0 (hv.past b0) h1 h2 (hk.past b0) (hin.past b0))
  obtain ⟨F, hF⟩ : ∃ F, F = lvs s := ⟨_, rfl⟩
  have HFL := Lib.hid (show F.length = 32 * 2 ^ 2 by rw [hF, lvs_flen])
  rw [← hF] at HC ⊢
  clear hW0 hv hF
  go_enter Tryd.func13, Tryd.ntmps13
  go_upto_region 1 with (fail)
  rw [← HW.out]
  clear hz
  go_wp2_with fail
  refine HC.out.mono ?_
  rintro e w2 ⟨u, rfl, u2, b2⟩
  have r2 := r0.past b2 r0.lt
  have bb2 := b0.trans (b2.mono b0.size)
  have HM := Lib.hid (merkle_any 2 u F w2 u2 (by decide) (hk.past bb2) (hin.past bb2))
  obtain ⟨R, hR⟩ : ∃ R, R = Kt.mrk F 2 := ⟨_, rfl⟩
  have HUR := Lib.hid (show (u8s R).length = 32 by rw [u8s_length, hR, Kt.mrk_len HFL.out])
  have HRE := Lib.hid hR
  rw [← hR] at HM
  clear HC b2 r0 b0 u2 hR
  go_wp2_with fail
  refine HM.out.mono ?_
  rintro e w3 ⟨rfl, b3⟩
  have r3 := r2.past b3 r2.lt
  have bb3 := bb2.trans (b3.mono bb2.size)
  clear HM b3 r2 bb2
  go_wp2_with (refine wp_storeA 25 (.tmp 2) (.tmp 16) rfl rfl w.heap.size rfl 25 (u8s z32) (u8s R) rfl r3 (by rw [info_dig, HUR.out]) (by rw [HUR.out]; rfl) (u8s_one _) rfl ?_; intro w8 h8 k8)
  have b8 : Below w.heap.size w w8 := bb3.trans (k8.below (fun q hq => by omega) bb3.size)
  refine ret_arr_tmp Tryd.results13 rfl w.heap.size 25 _ 32 5 rfl h8 Tryd.underlying25 (by rw [info_dig, HUR.out]) _ rfl ?_
  rw [← HRE.out]
  exact ⟨rfl, b8⟩

set_option maxRecDepth 100000 in
theorem rroot_no (v : Value) (s : List UInt8) (w : World) (hv : Bs w w.heap.size v s) (h : ¬ (1 ≤ s.length ∧ s.length ≤ 64)) :
    Calls Tryd.prog 13 #[v] w fun e w' => e = .returned (.tuple #[.agg (u8s z32).toArray, .int .i64 1]) ∧ Below w.heap.size w w' := by
  obtain ⟨A, cap, rfl⟩ := hv.form
  have hz := zero_dig
  have r0 := Blk.new w 25 (u8s z32)
  have b0 : Below w.heap.size w (w.alloc (.cells (u8s z32).toArray 25)) := (Below.refl _ _).alloc (Nat.le_refl _) _
  obtain ⟨W0, hW0⟩ : ∃ W, W = w.alloc (.cells (u8s z32).toArray 25) := ⟨_, rfl⟩
  rw [← hW0] at r0 b0
  have HW := Lib.hid hW0
  have HC := Lib.hid (rleaves_no (.slice A s.length cap) s W0 (hv.past b0) h)
  clear hW0 hv h
  go_enter Tryd.func13, Tryd.ntmps13
  go_upto_region 1 with (fail)
  rw [← HW.out]
  go_wp2_with fail
  refine HC.out.mono ?_
  rintro e w2 ⟨rfl, b2⟩
  have r2 := r0.past b2 r0.lt
  have bb2 := b0.trans (b2.mono b0.size)
  clear HC b2 r0 b0
  go_wp2_with (refine wp_storeA 25 (.tmp 2) (.tmp 13) rfl rfl w.heap.size rfl 25 (u8s z32) (u8s z32) rfl r2 (by rw [info_dig]; rfl) rfl (u8s_one _) rfl ?_; intro w8 h8 k8)
  have b8 : Below w.heap.size w w8 := bb2.trans (k8.below (fun q hq => by omega) bb2.size)
  refine ret_arr_tmp Tryd.results13 rfl w.heap.size 25 _ 32 5 rfl h8 Tryd.underlying25 (by rw [info_dig]; rfl) _ rfl ?_
  exact ⟨rfl, b8⟩

set_option maxRecDepth 100000 in
set_option maxHeartbeats 1000000 in
theorem rsign5_no (v u : Value) (s m : List UInt8) (ix : Int) (w : World) (hv : Bs w w.heap.size v s) (hu : Bs w w.heap.size u m) (h : ¬ (1 ≤ s.length ∧ s.length ≤ 64 ∧ 0 ≤ ix ∧ ix ≤ 3)) :
    Calls Tryd.prog 15 #[v, .int .i64 ix, u] w fun e w' => e = .returned (.tuple #[.agg (sg 0 nilS nilS).toArray, .int .i64 1]) ∧ Below w.heap.size w w' := by
  obtain ⟨A, cap, rfl⟩ := hv.form
  obtain ⟨A2, cap2, rfl⟩ := hu.form
  have hzs := zero_sig
  have r0 := Blk.new w 31 (sg 0 nilS nilS)
  have b0 : Below w.heap.size w (w.alloc (.cells (sg 0 nilS nilS).toArray 31)) := (Below.refl _ _).alloc (Nat.le_refl _) _
  obtain ⟨W0, hW0⟩ : ∃ W, W = w.alloc (.cells (sg 0 nilS nilS).toArray 31) := ⟨_, rfl⟩
  rw [← hW0] at r0 b0
  have HW := Lib.hid hW0
  obtain ⟨Z, hZ⟩ : ∃ Z, Z = sg 0 nilS nilS := ⟨_, rfl⟩
  rw [← hZ] at r0 hzs HW ⊢
  have HZL := Lib.hid (show Z.length = 3 by rw [hZ]; rfl)
  have HZ1 := Lib.hid (show ∀ v ∈ Z, v.oneCell' = true by rw [hZ]; exact sg_one)
  clear hZ
  by_cases hx : 0 ≤ ix ∧ ix ≤ 3
  · obtain ⟨hx0, hx3⟩ := hx
    have HC := Lib.hid (rleaves_no (.slice A s.length cap) s W0 (hv.past b0) (fun h2 => h ⟨h2.1, h2.2, hx0, hx3⟩))
    clear hW0 hv hu h
    go_enter Tryd.func15, Tryd.ntmps15
    go_upto_region 1 with (fail)
    rw [← HW.out]
    go_wp2_with fail
    refine HC.out.mono ?_
    rintro e w2 ⟨rfl, b2⟩
    have r2 := r0.past b2 r0.lt
    have bb2 := b0.trans (b2.mono b0.size)
    clear HC b2 r0 b0
    go_wp2_with (refine wp_storeA 31 (.tmp 6) (.tmp 28) rfl rfl w.heap.size rfl 31 Z Z rfl r2 (by rw [info_sig, HZL.out]) rfl HZ1.out rfl ?_; intro w8 h8 k8)
    have b8 : Below w.heap.size w w8 := bb2.trans (k8.below (fun q hq => by omega) bb2.size)
    refine ret_row_tmp Tryd.results15 rfl w.heap.size 31 _ _ rfl h8 Tryd.underlying31 rfl (by rw [info_sig, HZL.out]) _ rfl ?_
    exact ⟨rfl, b8⟩
  · have hor : ix < 0 ∨ ¬ ix < 0 ∧ 3 < ix := by omega
    clear hW0 hv hu h hx
    rcases hor with h1 | ⟨h1, h2⟩
    · go_enter Tryd.func15, Tryd.ntmps15
      go_upto_region 1 with (fail)
      rw [← HW.out]
      go_wp2_with (refine wp_storeA 31 (.tmp 6) (.tmp 20) rfl rfl w.heap.size rfl 31 Z Z rfl r0 (by rw [info_sig, HZL.out]) rfl HZ1.out rfl ?_; intro w8 h8 k8)
      have b8 : Below w.heap.size w w8 := b0.trans (k8.below (fun q hq => by omega) b0.size)
      refine ret_row_tmp Tryd.results15 rfl w.heap.size 31 _ _ rfl h8 Tryd.underlying31 rfl (by rw [info_sig, HZL.out]) _ rfl ?_
      exact ⟨rfl, b8⟩
    · go_enter Tryd.func15, Tryd.ntmps15
      go_upto_region 1 with (fail)
      rw [← HW.out]
      go_wp2_with (refine wp_storeA 31 (.tmp 6) (.tmp 20) rfl rfl w.heap.size rfl 31 Z Z rfl r0 (by rw [info_sig, HZL.out]) rfl HZ1.out rfl ?_; intro w8 h8 k8)
      have b8 : Below w.heap.size w w8 := b0.trans (k8.below (fun q hq => by omega) b0.size)
      refine ret_row_tmp Tryd.results15 rfl w.heap.size 31 _ _ rfl h8 Tryd.underlying31 rfl (by rw [info_sig, HZL.out]) _ rfl ?_
      exact ⟨rfl, b8⟩

set_option maxRecDepth 100000 in
set_option maxHeartbeats 1000000 in
theorem rsign5_yes (v u : Value) (s m : List UInt8) (ix : Nat) (w : World) (hv : Bs w w.heap.size v s) (hu : Bs w w.heap.size u m) (h1 : 1 ≤ s.length) (h2 : s.length ≤ 64) (hm : m.length ≤ 80000) (h3 : ix ≤ 3) (hk : KIs 2 w) (hin : InIs 0 w) :
    Calls Tryd.prog 15 #[v, .int .i64 ix, u] w fun e w' => ∃ (A B : Option Addr) (c d : Nat), e = .returned (.tuple #[.agg (sg ix (.slice A 18 c) (.slice B 2 d)).toArray, .int .i64 0]) ∧ Row w' w'.heap.size 32 18 (.slice A 18 c) (u8s (Wt.sig s ix (msgD m))) ∧ Row w' w'.heap.size 32 2 (.slice B 2 d) (u8s (Kt.pth (lvs s) ix 2)) ∧ Below w.heap.size w w' := by
  obtain ⟨A, cap, rfl⟩ := hv.form
  obtain ⟨A2, cap2, rfl⟩ := hu.form
  have hzs := zero_sig
  have r0 := Blk.new w 31 (sg 0 nilS nilS)
  have b0 : Below w.heap.size w (w.alloc (.cells (sg 0 nilS nilS).toArray 31)) := (Below.refl _ _).alloc (Nat.le_refl _) _
  obtain ⟨W0, hW0⟩ : ∃ W, W = w.alloc (.cells (sg 0 nilS nilS).toArray 31) := ⟨_, rfl⟩
  rw [← hW0] at r0 b0
  have HW := Lib.hid hW0
  obtain ⟨Z, hZ⟩ : ∃ Z, Z = sg 0 nilS nilS := ⟨_, rfl⟩
  rw [← hZ] at r0 hzs HW
  have HZL := Lib.hid (show Z.length = 3 by rw [hZ]; rfl)
  have HC := Lib.hid (rleaves_yes (.slice A s.length cap) s W0 (hv.past b0) h1 h2 (hk.past b0) (hin.past b0))
  obtain ⟨F, hF⟩ : ∃ F, F = lvs s := ⟨_, rfl⟩
  rw [← hF] at HC ⊢
  have HV := Lib.hid hv
  have HU := Lib.hid hu
  have HK := Lib.hid hk
  have HIN := Lib.hid hin
  clear hW0 hv hu hF hZ hk hin
  go_enter Tryd.func15, Tryd.ntmps15
  go_upto_region 1 with (fail)
  rw [← HW.out]
  go_wp2_with fail
  refine HC.out.mono ?_
  rintro e w2 ⟨lv, rfl, l2, b2⟩
  have r2 := r0.past b2 r0.lt
  have bb2 := b0.trans (b2.mono b0.size)
  have HC3 := Lib.hid (rtagged_any (.slice A2 m.length cap2) [109, 115, 103] m w2 (HU.out.past bb2) (HK.out.past bb2) (HIN.out.past bb2) (by omega) (by decide))
  obtain ⟨LA, lc, rfl⟩ := row_form l2
  clear HC b2 r0 b0
  go_wp2_with fail
  refine HC3.out.mono ?_
  rintro e w4 ⟨rfl, b4⟩
  have r4 := r2.past b4 r2.lt
  have l4 := l2.past b4
  have bb4 := bb2.trans (b4.mono bb2.size)
  have hw4 : w.heap.size < w4.heap.size := r4.lt
  have HC4 := Lib.hid (rsign_at (.slice A s.length cap) s (msgD m) ix w4 (HV.out.past bb4) h1 h2 (by omega) (msgD_len m) (HK.out.past bb4) (HIN.out.past bb4))
  clear HC3 b4 r2 l2 bb2
  go_wp2_with fail
  refine HC4.out.mono ?_
  rintro e w5 ⟨sv, rfl, s5, sT, b5⟩
  have r5 := r4.past b5 r4.lt
  have l5 := l4.past b5
  have bb5 := bb4.trans (b5.mono bb4.size)
  have hw5 : w.heap.size < w5.heap.size := r5.lt
  obtain ⟨SA, sc, rfl⟩ := row_form s5
  obtain ⟨SG, hSG⟩ : ∃ SG, SG = Wt.sig s ix (msgD m) := ⟨_, rfl⟩
  rw [← hSG] at s5
  have HSG := Lib.hid hSG
  have HC5 := Lib.hid (rpath_at (.slice LA 4 lc) F 2 ix w5 l5 (by decide) (by omega) (HK.out.past bb5) (HIN.out.past bb5))
  clear HC4 b5 r4 l4 bb4 hSG
  go_wp2_with fail
  refine HC5.out.mono ?_
  rintro e w6 ⟨pv, rfl, p6, pT, b6⟩
  have r6 := r5.past b6 r5.lt
  have s6 := s5.past b6
  have bb6 := bb5.trans (b6.mono bb5.size)
  obtain ⟨B, d, rfl⟩ := row_form p6
  obtain ⟨PT, hPT⟩ : ∃ PT, PT = Kt.pth F ix 2 := ⟨_, rfl⟩
  rw [← hPT] at p6
  have HPT := Lib.hid hPT
  have HR : Hid (∀ w8 : World, Keep (fun q => q ≠ w.heap.size) w6 w8 → Row w8 w8.heap.size 32 2 (.slice B 2 d) (u8s PT)) := Lib.hid fun w8 hk => Row.keepT p6 pT hk (fun b hb => by omega) hk.size
  have HR2 : Hid (∀ w8 : World, Keep (fun q => q ≠ w.heap.size) w6 w8 → Row w8 w8.heap.size 32 18 (.slice SA 18 sc) (u8s SG)) := Lib.hid fun w8 hk => Row.keepT s6 sT hk (fun b hb => by omega) hk.size
  clear HC5 b6 r5 l5 s5 bb5 hPT p6 s6 pT sT
  go_wp2_with (first
    | (refine wp_run rfl (exec_sig (.tmp 48) (.tmp 49) (.tmp 50) rfl ix SA B 18 2 sc d rfl rfl rfl _) ?_)
    | (refine wp_storeA 31 (.tmp 6) (.tmp 51) rfl rfl w.heap.size rfl 31 Z (sg ix (.slice SA 18 sc) (.slice B 2 d)) rfl r6 (by rw [info_sig]; rfl) (by rw [HZL.out]; rfl) sg_one rfl ?_; intro w8 h8 k8))
  have b8 : Below w.heap.size w w8 := bb6.trans (k8.below (fun q hq => by omega) bb6.size)
  have p8 := HR.out w8 k8
  have s8 := HR2.out w8 k8
  refine ret_row_tmp Tryd.results15 rfl w.heap.size 31 _ _ rfl h8 Tryd.underlying31 rfl (by rw [info_sig]; rfl) _ rfl ?_
  refine ⟨_, _, _, _, rfl, ?_, ?_, b8⟩
  · rw [← HSG.out]; exact s8
  · rw [← HPT.out]; exact p8
end Go.Proofs.YtccepoeenkpifaaDoor
