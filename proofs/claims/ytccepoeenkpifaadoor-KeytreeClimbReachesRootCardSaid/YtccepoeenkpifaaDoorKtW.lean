/-
  The laws' own functions rootOf and root.
-/
import Derived.Test.YtccepoeenkpifaaDoorKtS
import Derived.Test.YtccepoeenkpifaaDoorOpD
namespace Go.Proofs.YtccepoeenkpifaaDoor
open Go.RowKit
set_option linter.unusedVariables false
set_option linter.unusedSimpArgs false

theorem row_len {w : World} {B s n : Nat} {v : Value} {xs : List Value} (h : Row w B s n v xs) : n ≤ 9223372036854775807 := by
  obtain ⟨_, _, _, h1, h2, _⟩ := h
  unfold maxLen at h2
  omega

set_option maxRecDepth 100000 in
set_option maxHeartbeats 1000000 in
theorem rootOf_yes (v : Value) (F : List UInt8) (K : Nat) (w : World) (hv : Row w w.heap.size 32 (2 ^ K) v (u8s F)) (hK : K ≤ 6) (hk : KIs 1 w) :
    Calls Tryd.prog 28 #[v] w fun e w' => e = .returned (.tuple #[.agg (u8s (Kt.mrk F K)).toArray, .bool true]) ∧ Below w.heap.size w w' := by
  obtain ⟨A, cap, rfl⟩ := row_form hv
  have hz := zero_dig
  have r0 := Blk.new w 25 (u8s z32)
  have b0 : Below w.heap.size w (w.alloc (.cells (u8s z32).toArray 25)) := (Below.refl _ _).alloc (Nat.le_refl _) _
  obtain ⟨W0, hW0⟩ : ∃ W, W = w.alloc (.cells (u8s z32).toArray 25) := ⟨_, rfl⟩
  rw [← hW0] at r0 b0
  have HW := Lib.hid hW0
  have v0 := hv.past b0
  have k0 := hk.past b0
  have HFL := Lib.hid (show F.length = 32 * 2 ^ K by rw [row_flen hv, Nat.mul_comm])
  obtain ⟨n, hn⟩ : ∃ n, n = 2 ^ K := ⟨_, rfl⟩
  have hn1 : 0 < n := by rw [hn]; exact Nat.two_pow_pos _
  have hn64 : n ≤ 64 := by rw [hn]; exact Kt.pow_le hK
  have HP := Lib.hid (path_yes _ F K 0 W0 v0 hK (Nat.two_pow_pos _) k0)
  rw [← hn] at hv v0 HP ⊢
  obtain ⟨ad, rfl, _, _⟩ := v0.at_ hn1
  obtain ⟨x, hx⟩ : ∃ x, x = Wt.el F 0 := ⟨_, rfl⟩
  have HXL := Lib.hid (show x.length = 32 by rw [hx]; exact Wt.el_len (n := n) (by rw [HFL.out, hn]) hn1)
  have HUX := Lib.hid (show (u8s x).length = 32 by rw [u8s_length, HXL.out])
  have HCX : Hid (∀ w1 : World, Below W0.heap.size W0 w1 → ∀ j u, (u8s x)[j]? = some u → w1.cell? ((ad.add (0 * 32)).add j) = some u) := Lib.hid fun w1 hb => by
    rw [hx]; exact row_elem (v0.past hb) hn1
  have HCL := Lib.hid (show Kt.climb x 0 (Kt.pth F 0 K) K = Kt.mrk F K by rw [hx]; exact Kt.climb_path HFL.out (Nat.two_pow_pos _))
  have hne : ((n : Int) == 0) = false := beq_eq_false_iff_ne.2 (by omega)
  have HN := Lib.hid hn
  clear hW0 hv hn hx hk
  go_enter Tryd.func28, Tryd.ntmps28
  go_upto_region 1 with (fail)
  rw [← HW.out]
  go_wp2_with fail
  refine HP.out.mono ?_
  rintro e w2 ⟨p, rfl, p2, b2⟩
  have r2 := r0.past b2 r0.lt
  have k2 := k0.past b2
  have bb2 := b0.trans (b2.mono b0.size)
  have HCX2 := HCX.out w2 b2
  have HC2 := Lib.hid HCX2
  have HC := Lib.hid (climb_yes p x (Kt.pth F 0 K) K 0 w2 p2 HXL.out hK (Nat.two_pow_pos _) k2)
  rw [HCL.out] at HC
  clear HP b2 r0 v0 k0 b0 HCX2 p2
  go_wp2_with (first
    | (refine wp_run rfl (exec_ixS 29 25 32 Tryd.underlying29 info_dig _ rfl rfl _ _ 0 rfl rfl hn1 (q := ad.add (0 * 32)) rfl) ?_)
    | (refine wp_run rfl (exec_loadP 25 rfl (ad.add (0 * 32)) rfl (u8s x) 32 5 HC2.out Tryd.underlying25 (by rw [info_dig, HUX.out])) ?_))
  refine HC.out.mono ?_
  rintro e w3 ⟨rfl, b3⟩
  have r3 := r2.past b3 r2.lt
  have bb3 := bb2.trans (b3.mono bb2.size)
  obtain ⟨R, hR⟩ : ∃ R, R = Kt.mrk F K := ⟨_, rfl⟩
  have HR := Lib.hid hR
  have HUR := Lib.hid (show (u8s R).length = 32 by rw [u8s_length, hR, Kt.mrk_len HFL.out])
  rw [← hR]
  clear hR HC HC2 b3 r2 bb2 k2
  have x4 := Blk.new w3 25 (u8s z32)
  have bx4 : Below w3.heap.size w3 (w3.alloc (.cells (u8s z32).toArray 25)) := (Below.refl _ _).alloc (Nat.le_refl _) _
  go_upto_region 5 with (refine wp_storeA 25 (.tmp 6) (.tmp 27) rfl rfl w3.heap.size rfl 25 (u8s z32) _ rfl x4 (by rw [info_dig, HUR.out]) (by first | (rw [HUR.out]; rfl) | rfl) (u8s_one _) rfl ?_; intro y4 h4 k4)
  have bb4 : Below w3.heap.size w3 y4 := ((Keep.of_below bx4).trans (k4.mono (O' := fun q => q < w3.heap.size) (fun q hq => by omega))).below (fun q hq => hq) (Nat.le_refl _)
  have f_res4 := r3.past bb4 r3.lt
  have f_bel4 := bb3.trans (bb4.mono bb3.size)
  clear r3 bb3 x4 bx4 k4 bb4
  obtain ⟨gx, hgx⟩ : ∃ g, g = w3.heap.size := ⟨_, rfl⟩
  rw [← hgx] at h4 ⊢
  clear hgx
  go_wp2_with (first
    | (refine wp_run rfl (exec_loadA 25 rfl gx rfl 25 _ 32 5 h4 Tryd.underlying25 (by rw [info_dig, HUR.out])) ?_)
    | (refine wp_storeA 25 (.tmp 2) (.tmp 29) rfl rfl w.heap.size rfl 25 (u8s z32) (u8s R) rfl f_res4 (by rw [info_dig, HUR.out]) (by rw [HUR.out]; rfl) (u8s_one _) rfl ?_; intro w8 h8 k8))
  have b8 : Below w.heap.size w w8 := Below.trans f_bel4 (k8.below (fun q hq => by omega) (Below.size f_bel4))
  refine ret_arr_tmp Tryd.results28 rfl w.heap.size 25 _ 32 5 rfl h8 Tryd.underlying25 (by rw [info_dig, HUR.out]) _ rfl ?_
  rw [← HR.out]
  exact ⟨rfl, b8⟩

set_option maxRecDepth 100000 in
set_option maxHeartbeats 1000000 in
theorem rootOf_no (v : Value) (F : List UInt8) (n : Nat) (w : World) (hv : Row w w.heap.size 32 n v (u8s F)) (hn : Kt.isw n = false) :
    Calls Tryd.prog 28 #[v] w fun e w' => e = .returned (.tuple #[.agg (u8s z32).toArray, .bool false]) ∧ Below w.heap.size w w' := by
  obtain ⟨A, cap, rfl⟩ := row_form hv
  have hz := zero_dig
  have r0 := Blk.new w 25 (u8s z32)
  have b0 : Below w.heap.size w (w.alloc (.cells (u8s z32).toArray 25)) := (Below.refl _ _).alloc (Nat.le_refl _) _
  obtain ⟨W0, hW0⟩ : ∃ W, W = w.alloc (.cells (u8s z32).toArray 25) := ⟨_, rfl⟩
  rw [← hW0] at r0 b0
  have HW := Lib.hid hW0
  have v0 := hv.past b0
  have HP := Lib.hid (path_no _ F n 0 W0 v0 (row_len hv) (fun h => by rw [hn] at h; cases h.1))
  clear hW0 hv hn v0
  go_enter Tryd.func28, Tryd.ntmps28
  go_upto_region 1 with (fail)
  rw [← HW.out]
  go_wp2_with fail
  refine HP.out.mono ?_
  rintro e w2 ⟨rfl, b2⟩
  have r2 := r0.past b2 r0.lt
  have bb2 := b0.trans (b2.mono b0.size)
  clear HP b2 r0 b0
  go_wp2_with (refine wp_storeA 25 (.tmp 2) (.tmp 20) rfl rfl w.heap.size rfl 25 (u8s z32) (u8s z32) rfl r2 (by rw [info_dig]; rfl) rfl (u8s_one _) rfl ?_; intro w8 h8 k8)
  have b8 : Below w.heap.size w w8 := bb2.trans (k8.below (fun q hq => by omega) bb2.size)
  refine ret_arr_tmp Tryd.results28 rfl w.heap.size 25 _ 32 5 rfl h8 Tryd.underlying25 (by rw [info_dig]; rfl) _ rfl ?_
  exact ⟨rfl, b8⟩

set_option maxRecDepth 100000 in
set_option maxHeartbeats 2000000 in
theorem lawroot_yes (v : Value) (F : List UInt8) (K : Nat) (w : World) (hv : Row w w.heap.size 32 (2 ^ K) v (u8s F)) (hK : K ≤ 6) (hk : KIs 1 w) :
    Calls Tryd.prog 27 #[v] w fun e w' => e = .returned (.tuple #[.agg (u8s (Kt.mrk F K)).toArray, .bool true]) ∧ Below w.heap.size w w' := by
  obtain ⟨A, cap, rfl⟩ := row_form hv
  have hz := zero_dig
  have hnl := row_len hv
  have r0 := Blk.new w 25 (u8s z32)
  have b0 : Below w.heap.size w (w.alloc (.cells (u8s z32).toArray 25)) := (Below.refl _ _).alloc (Nat.le_refl _) _
  obtain ⟨W0, hW0⟩ : ∃ W, W = w.alloc (.cells (u8s z32).toArray 25) := ⟨_, rfl⟩
  rw [← hW0] at r0 b0
  have HW := Lib.hid hW0
  have v0 := hv.past b0
  have HV := Lib.hid hv
  have k0 := hk.past b0
  have HK := Lib.hid hk
  have HFL := Lib.hid (show F.length = 32 * 2 ^ K by rw [row_flen hv, Nat.mul_comm])
  obtain ⟨R, hR⟩ : ∃ R, R = Kt.mrk F K := ⟨_, rfl⟩
  have HR := Lib.hid hR
  have HRL := Lib.hid (show R.length = 32 by rw [hR, Kt.mrk_len HFL.out])
  have HUR := Lib.hid (show (u8s R).length = 32 by rw [u8s_length, HRL.out])
  have HC := Lib.hid (rootOf_yes _ F K W0 v0 hK k0)
  rw [← hR] at HC ⊢
  obtain ⟨n, hn⟩ : ∃ n, n = 2 ^ K := ⟨_, rfl⟩
  have hn64 : n ≤ 64 := by rw [hn]; exact Kt.pow_le hK
  have HN := Lib.hid hn
  rw [← hn] at hv v0 HC hnl
  clear hW0 hv hR hn k0 v0
  rw [← HN.out]
  go_enter Tryd.func27, Tryd.ntmps27
  go_upto_region 1 with (fail)
  rw [← HW.out]
  go_wp2_with fail
  refine HC.out.mono ?_
  rintro e w2 ⟨rfl, b2⟩
  have r2 := r0.past b2 r0.lt
  have bb2 := b0.trans (b2.mono b0.size)
  clear HC b2 r0 b0 hk
  have x3 := Blk.new w2 25 (u8s z32)
  have bx3 : Below w2.heap.size w2 (w2.alloc (.cells (u8s z32).toArray 25)) := (Below.refl _ _).alloc (Nat.le_refl _) _
  go_upto_region 2 with (refine wp_storeA 25 (.tmp 4) (.tmp 14) rfl rfl w2.heap.size rfl 25 (u8s z32) _ rfl x3 (by rw [info_dig, HUR.out]) (by first | (rw [HUR.out]; rfl) | rfl) (u8s_one _) rfl ?_; intro y3 h3 k3)
  have bb3 : Below w2.heap.size w2 y3 := ((Keep.of_below bx3).trans (k3.mono (O' := fun q => q < w2.heap.size) (fun q hq => by omega))).below (fun q hq => hq) (Nat.le_refl _)
  have f_res3 := r2.past bb3 r2.lt
  have f_bel3 := bb2.trans (bb3.mono bb2.size)
  clear r2 bb2 x3 bx3 k3 bb3
  obtain ⟨gt, hgt⟩ : ∃ g, g = w2.heap.size := ⟨_, rfl⟩
  rw [← hgt] at h3 ⊢
  clear hgt
  skip
  go_wp2_with fail
  go_loopw [18] (fun i wr => ∃ k : Nat, i = .int .i64 k ∧ k ≤ n ∧ Blk wr gt 25 (u8s R) ∧ Blk wr w.heap.size 25 (u8s z32) ∧ Below w.heap.size w wr) (fun i _ => n - (intOf i).toNat)
  case atStart => exact ⟨0, rfl, by omega, h3, f_res3, f_bel3⟩
  case round =>
    clear h3 f_res3 f_bel3
    obtain ⟨k, rfl, hkn, ht, hr, hb⟩ := hrel
    by_cases hlt : k < n
    · have hk2 : k < 2 ^ K := by rw [← HN.out]; exact hlt
      have hvr := HV.out.past hb
      have hkr := HK.out.past hb
      have HP := Lib.hid (path_yes _ F K k wr hvr hK hk2 hkr)
      rw [← HN.out] at HP hvr
      obtain ⟨ad, hAe, _, _⟩ := hvr.at_ (by omega)
      subst hAe
      obtain ⟨x, hx⟩ : ∃ x, x = Wt.el F k := ⟨_, rfl⟩
      have HXL := Lib.hid (show x.length = 32 by rw [hx]; exact Wt.el_len (n := n) (by rw [HFL.out, HN.out]) hlt)
      have HUX := Lib.hid (show (u8s x).length = 32 by rw [u8s_length, HXL.out])
      have HCX : Hid (∀ w1 : World, Below wr.heap.size wr w1 → ∀ j u, (u8s x)[j]? = some u → w1.cell? ((ad.add (k * 32)).add j) = some u) := Lib.hid fun w1 hb => by
        rw [hx]; exact row_elem (hvr.past hb) hlt
      have HCL := Lib.hid (show Kt.climb x k (Kt.pth F k K) K = R by rw [hx, HR.out]; exact Kt.climb_path HFL.out hk2)
      have HHK := Lib.hid hk2
      clear hx hvr hk2
      go_wp2_with fail
      refine HP.out.mono ?_
      rintro e w3 ⟨p, rfl, p3, b3⟩
      have t3 := ht.past b3 ht.lt
      have r3 := hr.past b3 hr.lt
      have k3 := hkr.past b3
      have bb3 := hb.trans (b3.mono hb.size)
      have HC3 := Lib.hid (HCX.out w3 b3)
      have HC := Lib.hid (climb_yes p x (Kt.pth F k K) K k w3 p3 HXL.out hK HHK.out k3)
      rw [HCL.out] at HC
      clear HP b3 ht hr hkr hb p3
      go_wp2_with (first
        | (refine wp_run rfl (exec_ixS 29 25 32 Tryd.underlying29 info_dig _ rfl rfl _ _ k rfl rfl hlt (q := ad.add (k * 32)) rfl) ?_)
        | (refine wp_run rfl (exec_loadP 25 rfl (ad.add (k * 32)) rfl (u8s x) 32 5 HC3.out Tryd.underlying25 (by rw [info_dig, HUX.out])) ?_))
      refine HC.out.mono ?_
      rintro e w4 ⟨rfl, b4⟩
      have t4 := t3.past b4 t3.lt
      have r4 := r3.past b4 r3.lt
      have bb4 := bb3.trans (b4.mono bb3.size)
      have hz := zero_dig
      clear HC HC3 b4 t3 r3 bb3 k3
      have x21 := Blk.new w4 25 (u8s z32)
      have bx21 : Below w4.heap.size w4 (w4.alloc (.cells (u8s z32).toArray 25)) := (Below.refl _ _).alloc (Nat.le_refl _) _
      go_upto_region 9 with (refine wp_storeA 25 (.tmp 9) (.tmp 42) rfl rfl w4.heap.size rfl 25 (u8s z32) _ rfl x21 (by rw [info_dig, HUR.out]) (by first | (rw [HUR.out]; rfl) | rfl) (u8s_one _) rfl ?_; intro y21 h21 k21)
      have bb21 : Below w4.heap.size w4 y21 := ((Keep.of_below bx21).trans (k21.mono (O' := fun q => q < w4.heap.size) (fun q hq => by omega))).below (fun q hq => hq) (Nat.le_refl _)
      have f_t21 := t4.past bb21 t4.lt
      have f_res21 := r4.past bb21 r4.lt
      have f_bel21 := bb4.trans (bb21.mono bb4.size)
      clear t4 r4 bb4 x21 bx21 k21 bb21
      obtain ⟨gx, hgx⟩ : ∃ g, g = w4.heap.size := ⟨_, rfl⟩
      rw [← hgx] at h21 ⊢
      clear hgx
      clear hz
      go_wp2_with (first
        | (refine wp_run rfl (exec_loadA 25 rfl gx rfl 25 _ 32 5 h21 Tryd.underlying25 (by rw [info_dig, HUR.out])) ?_)
        | (refine wp_run rfl (exec_loadA 25 rfl gt rfl 25 _ 32 5 f_t21 Tryd.underlying25 (by rw [info_dig, HUR.out])) ?_)
        | (refine wp_run rfl (exec_neqD rfl R R rfl rfl HRL.out HRL.out false (by rw [beq_self_eq_true]; rfl) _) ?_))
      go_roundw
      case rel => exact ⟨k + 1, by go_num, by omega, f_t21, f_res21, f_bel21⟩
      case measure => simp [intOf]; omega
    · go_wp2_with (first
        | (refine wp_run rfl (exec_loadA 25 rfl gt rfl 25 _ 32 5 ht Tryd.underlying25 (by rw [info_dig, HUR.out])) ?_)
        | (refine wp_storeA 25 (.tmp 2) (.tmp 53) rfl rfl w.heap.size rfl 25 (u8s z32) (u8s R) rfl hr (by rw [info_dig, HUR.out]) (by rw [HUR.out]; rfl) (u8s_one _) rfl ?_; intro w8 h8 k8))
      have b8 : Below w.heap.size w w8 := hb.trans (k8.below (fun q hq => by omega) hb.size)
      refine ret_arr_tmp Tryd.results27 rfl w.heap.size 25 _ 32 5 rfl h8 Tryd.underlying25 (by rw [info_dig, HUR.out]) _ rfl ?_
      exact ⟨rfl, b8⟩

set_option maxRecDepth 100000 in
set_option maxHeartbeats 2000000 in
theorem lawroot_no (v : Value) (F : List UInt8) (n : Nat) (w : World) (hv : Row w w.heap.size 32 n v (u8s F)) (hn : Kt.isw n = false) :
    Calls Tryd.prog 27 #[v] w fun e w' => e = .returned (.tuple #[.agg (u8s z32).toArray, .bool false]) ∧ Below w.heap.size w w' := by
  obtain ⟨A, cap, rfl⟩ := row_form hv
  have hz := zero_dig
  have hnl := row_len hv
  have r0 := Blk.new w 25 (u8s z32)
  have b0 : Below w.heap.size w (w.alloc (.cells (u8s z32).toArray 25)) := (Below.refl _ _).alloc (Nat.le_refl _) _
  obtain ⟨W0, hW0⟩ : ∃ W, W = w.alloc (.cells (u8s z32).toArray 25) := ⟨_, rfl⟩
  rw [← hW0] at r0 b0
  have HW := Lib.hid hW0
  have v0 := hv.past b0
  have HV := Lib.hid hv
  have HC := Lib.hid (rootOf_no _ F n W0 v0 hn)
  clear hW0 hv v0
  go_enter Tryd.func27, Tryd.ntmps27
  go_upto_region 1 with (fail)
  rw [← HW.out]
  go_wp2_with fail
  refine HC.out.mono ?_
  rintro e w2 ⟨rfl, b2⟩
  have r2 := r0.past b2 r0.lt
  have bb2 := b0.trans (b2.mono b0.size)
  have HUZ : Hid ((u8s z32).length = 32) := Lib.hid rfl
  clear HC b2 r0 b0
  have x3 := Blk.new w2 25 (u8s z32)
  have bx3 : Below w2.heap.size w2 (w2.alloc (.cells (u8s z32).toArray 25)) := (Below.refl _ _).alloc (Nat.le_refl _) _
  go_upto_region 2 with (refine wp_storeA 25 (.tmp 4) (.tmp 14) rfl rfl w2.heap.size rfl 25 (u8s z32) _ rfl x3 (by rw [info_dig, HUZ.out]) (by first | (rw [HUZ.out]; rfl) | rfl) (u8s_one _) rfl ?_; intro y3 h3 k3)
  have bb3 : Below w2.heap.size w2 y3 := ((Keep.of_below bx3).trans (k3.mono (O' := fun q => q < w2.heap.size) (fun q hq => by omega))).below (fun q hq => hq) (Nat.le_refl _)
  have f_res3 := r2.past bb3 r2.lt
  have f_bel3 := bb2.trans (bb3.mono bb2.size)
  clear r2 bb2 x3 bx3 k3 bb3
  obtain ⟨gt, hgt⟩ : ∃ g, g = w2.heap.size := ⟨_, rfl⟩
  rw [← hgt] at h3 ⊢
  clear hgt
  have HRES := Lib.hid f_res3
  have HBEL := Lib.hid f_bel3
  have HT := Lib.hid h3
  clear f_res3 f_bel3 h3
  go_wp2_with fail
  go_loopw [18] (fun i wr => i = .int .i64 0 ∧ wr = y3) (fun i _ => 0)
  case atStart => exact ⟨rfl, rfl⟩
  case round =>
    obtain ⟨rfl, rfl⟩ := hrel
    by_cases hlt : 0 < n
    · have HP := Lib.hid (path_no _ F n 0 _ (HV.out.past HBEL.out) hnl (fun h => by rw [hn] at h; cases h.1))
      have hz := zero_dig
      clear hn
      go_wp2_with fail
      refine HP.out.mono ?_
      rintro e w4 ⟨rfl, b4⟩
      have r4 := HRES.out.past b4 HRES.out.lt
      have bb4 := HBEL.out.trans (b4.mono HBEL.out.size)
      clear HP b4
      go_wp2_with (refine wp_storeA 25 (.tmp 2) (.tmp 33) rfl rfl w.heap.size rfl 25 (u8s z32) (u8s z32) rfl r4 (by rw [info_dig]; rfl) rfl (u8s_one _) rfl ?_; intro w8 h8 k8)
      have b8 : Below w.heap.size w w8 := bb4.trans (k8.below (fun q hq => by omega) bb4.size)
      refine ret_arr_tmp Tryd.results27 rfl w.heap.size 25 _ 32 5 rfl h8 Tryd.underlying25 (by rw [info_dig]; rfl) _ rfl ?_
      exact ⟨rfl, b8⟩
    · have hn0 : n = 0 := by omega
      subst hn0
      have ht := HT.out
      have hr := HRES.out
      clear hn
      go_wp2_with (first
        | (refine wp_run rfl (exec_loadA 25 rfl gt rfl 25 _ 32 5 ht Tryd.underlying25 (by rw [info_dig, HUZ.out])) ?_)
        | (refine wp_storeA 25 (.tmp 2) (.tmp 53) rfl rfl w.heap.size rfl 25 (u8s z32) (u8s z32) rfl hr (by rw [info_dig, HUZ.out]) rfl (u8s_one _) rfl ?_; intro w8 h8 k8))
      have b8 : Below w.heap.size w w8 := HBEL.out.trans (k8.below (fun q hq => by omega) HBEL.out.size)
      refine ret_arr_tmp Tryd.results27 rfl w.heap.size 25 _ 32 5 rfl h8 Tryd.underlying25 (by rw [info_dig, HUZ.out]) _ rfl ?_
      exact ⟨rfl, b8⟩
end Go.Proofs.YtccepoeenkpifaaDoor
