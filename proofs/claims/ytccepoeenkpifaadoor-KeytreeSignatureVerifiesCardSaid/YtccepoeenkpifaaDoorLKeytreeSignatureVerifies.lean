/-
  The walk of KeytreeSignatureVerifies.
-/
import Derived.Test.YtccepoeenkpifaaDoorKtS
import Derived.Test.YtccepoeenkpifaaDoorKtV
namespace Go.Proofs.YtccepoeenkpifaaDoor
open Go.RowKit
set_option linter.unusedVariables false
set_option linter.unusedSimpArgs false

theorem bs_len {w : World} {B : Nat} {v : Value} {l : List UInt8} (h : Bs w B v l) : l.length ≤ 9223372036854775807 := by
  obtain ⟨_, _, _, h1, h2, _⟩ := h
  unfold maxLen at h2
  omega
theorem el_lvs (s : List UInt8) {i : Nat} (h : i < 4) : Wt.el (lvs s) i = Wt.pub s i := Wt.el_cat (fun j _ => Wt.pub_len s j) h
theorem sig_climbs (s m : List UInt8) {i : Nat} (h : i ≤ 3) : Kt.climb (Wt.rec_ m (Wt.sig s i m)) i (Kt.pth (lvs s) i 2) 2 = Kt.mrk (lvs s) 2 := by
  rw [Wt.rec_sig, ← el_lvs s (by omega : i < 4)]
  exact Kt.climb_path (lvs_flen s) (by omega)

set_option maxRecDepth 100000 in
set_option maxHeartbeats 4000000 in
theorem keytreeSignatureVerifies_walk (v : Value) (s : List UInt8) (ix : Int) (u : Value) (m : List UInt8) (W : World) (hv : Bs W W.heap.size v s) (hix : -9223372036854775808 ≤ ix ∧ ix ≤ 9223372036854775807) (hu : Bs W W.heap.size u m) (hk : KIs 1 W) :
    Calls Tryd.prog 5 #[v, .int .i64 ix, u] W fun e w' => e = .returned (.bool true) ∧ Below W.heap.size W w' := by
  obtain ⟨A0, cap0, rfl⟩ := hv.form
  obtain ⟨A1, cap1, rfl⟩ := hu.form
  have hsl := bs_len hv
  have hml := bs_len hu
  obtain ⟨hix1, hix2⟩ := hix
  have bel := Below.refl W.heap.size W
  go_enter Tryd.func5, Tryd.ntmps5
  go_upto_region 1 with (fail)
  have HC1 := Lib.hid (sane_any W hk)
  go_wp2_with fail
  refine HC1.out.mono ?_
  rintro e v1 ⟨rfl, b1⟩
  have f_s1 := hv.past b1
  have f_m1 := hu.past b1
  have f_k1 := hk.past b1
  have f_bel1 := bel.trans (b1.mono bel.size)
  clear hv hu hk bel HC1 b1
  by_cases h100 : s.length ≤ 100
  · skip
    by_cases h300 : m.length ≤ 300
    · skip
      have hz := zero_dig
      have hzs := zero_sig
      by_cases hs : 1 ≤ s.length ∧ s.length ≤ 64
      · obtain ⟨hs1, hs64⟩ := hs
        have HC2 := Lib.hid (root_yes _ s v1 f_s1 hs1 hs64 f_k1)
        go_wp2_with fail
        refine HC2.out.mono ?_
        rintro e v2 ⟨rfl, b2⟩
        have f_s2 := f_s1.past b2
        have f_m2 := f_m1.past b2
        have f_k2 := f_k1.past b2
        have f_bel2 := f_bel1.trans (b2.mono f_bel1.size)
        clear f_s1 f_m1 f_k1 f_bel1 HC2 b2
        obtain ⟨R, hR⟩ : ∃ R, R = Kt.mrk (lvs s) 2 := ⟨_, rfl⟩
        have HR := Lib.hid hR
        have HRL := Lib.hid (show R.length = 32 by rw [hR]; exact Kt.mrk_len (lvs_flen s))
        have HUR := Lib.hid (show (u8s R).length = 32 by rw [u8s_length, HRL.out])
        rw [← hR]
        clear hR
        have x3 := Blk.new v2 25 (u8s z32)
        have bx3 : Below v2.heap.size v2 (v2.alloc (.cells (u8s z32).toArray 25)) := (Below.refl _ _).alloc (Nat.le_refl _) _
        go_upto_region 6 with (refine wp_storeA 25 (.tmp 7) (.tmp 28) rfl rfl v2.heap.size rfl 25 (u8s z32) _ rfl x3 (by rw [info_dig, HUR.out]) (by first | (rw [HUR.out]; rfl) | rfl) (u8s_one _) rfl ?_; intro y3 h3 k3)
        have bb3 : Below v2.heap.size v2 y3 := ((Keep.of_below bx3).trans (k3.mono (O' := fun q => q < v2.heap.size) (fun q hq => by omega))).below (fun q hq => hq) (Nat.le_refl _)
        have f_s3 := f_s2.past bb3
        have f_m3 := f_m2.past bb3
        have f_k3 := f_k2.past bb3
        have f_bel3 := f_bel2.trans (bb3.mono f_bel2.size)
        clear f_s2 f_m2 f_k2 f_bel2 x3 bx3 k3 bb3
        obtain ⟨gr, hgr⟩ : ∃ g, g = v2.heap.size := ⟨_, rfl⟩
        rw [← hgr] at h3 ⊢
        clear hgr
        by_cases hx : 0 ≤ ix ∧ ix ≤ 3
        · obtain ⟨hx0, hx3⟩ := hx
          obtain ⟨i, rfl⟩ := Int.eq_ofNat_of_zero_le hx0
          have hi3 : i ≤ 3 := by omega
          have HI := Lib.hid hi3
          clear hx0 hx3
          have HC4 := Lib.hid (ktsign_yes _ _ s m i y3 f_s3 f_m3 hs1 hs64 (by omega) hi3 f_k3)
          go_wp2_with fail
          refine HC4.out.mono ?_
          rintro e v4 ⟨A, B, c, d, rfl, rc, rp, b4⟩
          have f_s4 := f_s3.past b4
          have f_m4 := f_m3.past b4
          have f_k4 := f_k3.past b4
          have f_bel4 := f_bel3.trans (b4.mono f_bel3.size)
          have f_r4 := h3.past b4 h3.lt
          clear f_s3 f_m3 f_k3 f_bel3 h3 HC4 b4
          obtain ⟨C, hC⟩ : ∃ C, C = Wt.sig s i (msgD m) := ⟨_, rfl⟩
          obtain ⟨PP, hPP⟩ : ∃ PP, PP = Kt.pth (lvs s) i 2 := ⟨_, rfl⟩
          rw [← hC] at rc
          rw [← hPP] at rp
          have HC := Lib.hid hC
          have HPP := Lib.hid hPP
          obtain ⟨MD, hMD⟩ : ∃ MD, MD = msgD m := ⟨_, rfl⟩
          have HMD := Lib.hid hMD
          have HMDL := Lib.hid (show MD.length = 32 by rw [hMD, msgD_len])
          obtain ⟨D, hD⟩ : ∃ D, D = Wt.pub s i := ⟨_, rfl⟩
          have HD := Lib.hid hD
          have HDL := Lib.hid (show D.length = 32 by rw [hD, Wt.pub_len])
          have HUD := Lib.hid (show (u8s D).length = 32 by rw [u8s_length, HDL.out])
          have HRD := Lib.hid (show Wt.rec_ MD C = D by rw [hMD, hC, hD, Wt.rec_sig])
          have HVR : Hid ((Kt.climb (Wt.rec_ (msgD m) C) i PP 2 == R) = true) := Lib.hid (by rw [hC, hPP, sig_climbs s (msgD m) hi3, HR.out]; exact beq_self_eq_true _)
          clear hC hPP hMD hD
          have x5 := Blk.new v4 31 (sg 0 nilS nilS)
          have bx5 : Below v4.heap.size v4 (v4.alloc (.cells (sg 0 nilS nilS).toArray 31)) := (Below.refl _ _).alloc (Nat.le_refl _) _
          go_upto_region 7 with (refine wp_storeA 31 (.tmp 9) (.tmp 35) rfl rfl v4.heap.size rfl 31 (sg 0 nilS nilS) (sg i (.slice A 18 c) (.slice B 2 d)) rfl x5 (by rw [info_sig]; rfl) rfl sg_one rfl ?_; intro y5 h5 k5)
          have bb5 : Below v4.heap.size v4 y5 := ((Keep.of_below bx5).trans (k5.mono (O' := fun q => q < v4.heap.size) (fun q hq => by omega))).below (fun q hq => hq) (Nat.le_refl _)
          have f_s5 := f_s4.past bb5
          have f_m5 := f_m4.past bb5
          have f_k5 := f_k4.past bb5
          have f_bel5 := f_bel4.trans (bb5.mono f_bel4.size)
          have f_r5 := f_r4.past bb5 f_r4.lt
          have f_c5 := rc.past bb5
          have f_p5 := rp.past bb5
          clear f_s4 f_m4 f_k4 f_bel4 f_r4 rc rp x5 bx5 k5 bb5
          obtain ⟨gq, hgq⟩ : ∃ g, g = v4.heap.size := ⟨_, rfl⟩
          rw [← hgq] at h5 ⊢
          clear hgq
          go_upto_region 9 with (fail)
          have lq := Blk.lt h5
          refine wp_region_pt (y5.heap.size) (.take 0 (.take 2 (.take 3 (.two 1 (.two 4 (.take 5 (.take 6 (.take 7 (.step 8 (.step 9 (.take 10 .done)))))) 8 (.step 4 (.take 5 (.take 6 (.take 7 (.step 9 (.take 10 .done))))))) 8 (.step 1 (.step 4 (.take 5 (.take 6 (.take 7 (.step 9 (.take 10 .done))))))))))) (by kernel_rfl) (by kernel_rfl) (by kernel_rfl) (fun _ _ h => h) ?_
          have bd6 : Below y5.heap.size y5 y5.drew := (Below.refl _ _).drew
          have zB6 : y5.heap.size ≤ y5.drew.heap.size := bd6.size
          have f_s6 := f_s5.past bd6
          have f_m6 := f_m5.past bd6
          have f_k6 := f_k5.past bd6
          have f_bel6 := f_bel5.trans (bd6.mono f_bel5.size)
          have f_r6 := f_r5.past bd6 f_r5.lt
          have f_c6 := f_c5.past bd6
          have f_p6 := f_p5.past bd6
          have f_q6 := h5.past bd6 h5.lt
          clear f_s5 f_m5 f_k5 f_bel5 f_r5 f_c5 f_p5 h5
          obtain ⟨u6, hu6⟩ : ∃ u, u = y5.drew := ⟨_, rfl⟩
          rw [← hu6] at f_s6 f_m6 f_k6 f_bel6 f_r6 f_c6 f_p6 f_q6 zB6 bd6 ⊢
          clear hu6 bd6
          have cq : u6.cell? ⟨gq, 1, none⟩ = some (.slice A 18 c) := Blk.cell f_q6 (j := 1) rfl
          first | refine pt_skip rfl rfl rfl rfl ?_ | (refine pt_take rfl rfl rfl rfl ?_; apply Exists.intro; refine ⟨fun w' hw' => ?_, ?_⟩; focus ((repeat (first | go_skip | go_guarded | go_step | go_upon | go_back)); exact ⟨rfl, rfl, rfl⟩))
          first | refine pt_skip rfl rfl rfl rfl ?_ | (refine pt_take rfl rfl rfl rfl ?_; apply Exists.intro; refine ⟨fun w' hw' => ?_, ?_⟩; focus ((repeat (first | go_skip | go_guarded | go_step | go_upon | go_back)); exact ⟨rfl, rfl, rfl⟩))
          refine pt_take rfl rfl rfl rfl ?_
          apply Exists.intro
          refine ⟨fun w' hw' => ?_, ?_⟩
          · have hcell := (hw'.cell (p := ⟨gq, 1, none⟩) lq).trans cq
            focus ((repeat (first | go_skip | go_guarded | go_step | go_upon | go_back)); exact ⟨rfl, rfl, rfl⟩)
          clear cq
          have HMSG : Hid (∀ w1 : World, Bs w1 w1.heap.size (.slice A1 m.length cap1) m → KIs 1 w1 → Calls Tryd.prog 25 #[str [109, 115, 103], .slice A1 m.length cap1] w1 fun e w' => e = .returned (.agg (u8s MD).toArray) ∧ Below w1.heap.size w1 w') := Lib.hid fun w1 h1 h2 => by
            rw [HMD.out]; exact tagged_any _ [109, 115, 103] m w1 h1 h2 (by omega) (by decide)
          have HREC : Hid (∀ w1 : World, Row w1 w1.heap.size 32 18 (.slice A 18 c) (u8s C) → KIs 1 w1 → Calls Tryd.prog 24 #[.agg (u8s MD).toArray, .slice A 18 c] w1 fun e w' => e = .returned (.tuple #[.agg (u8s D).toArray, .int .i64 0]) ∧ Below w1.heap.size w1 w') := Lib.hid fun w1 h1 h2 => by
            rw [← HRD.out]; exact recover_yes MD C _ w1 h1 HMDL.out h2
          refine pt_two rfl rfl ?_ ?_
          · skip
            go_wp2_with fail
            refine (HMSG.out _ f_m6 f_k6).mono ?_
            rintro e t7 ⟨rfl, c7⟩
            go_wp2_with fail
            refine ⟨rfl, c7.mono zB6, ?_⟩
            have f_s7 := f_s6.past c7
            have f_m7 := f_m6.past c7
            have f_k7 := f_k6.past c7
            have f_bel7 := f_bel6.trans (c7.mono f_bel6.size)
            have f_r7 := f_r6.past c7 f_r6.lt
            have f_c7 := f_c6.past c7
            have f_p7 := f_p6.past c7
            have f_q7 := f_q6.past c7 f_q6.lt
            have f_zB7 := Nat.le_trans zB6 c7.size
            clear f_s6 f_m6 f_k6 f_bel6 f_r6 f_c6 f_p6 f_q6 zB6 c7
            refine pt_two rfl rfl ?_ ?_
            · skip
              go_wp2_with fail
              refine (HREC.out _ f_c7 f_k7).mono ?_
              rintro e t8 ⟨rfl, c8⟩
              go_wp2_with fail
              refine ⟨rfl, c8.mono f_zB7, ?_⟩
              have f_s8 := f_s7.past c8
              have f_m8 := f_m7.past c8
              have f_k8 := f_k7.past c8
              have f_bel8 := f_bel7.trans (c8.mono f_bel7.size)
              have f_r8 := f_r7.past c8 f_r7.lt
              have f_c8 := f_c7.past c8
              have f_p8 := f_p7.past c8
              have f_q8 := f_q7.past c8 f_q7.lt
              have f_zB8 := Nat.le_trans f_zB7 c8.size
              clear f_s7 f_m7 f_k7 f_bel7 f_r7 f_c7 f_p7 f_q7 f_zB7 c8
              first | refine pt_skip rfl rfl rfl rfl ?_ | (refine pt_take rfl rfl rfl rfl ?_; apply Exists.intro; refine ⟨fun w' hw' => ?_, ?_⟩; focus ((repeat (first | go_skip | go_guarded | go_step | go_upon | go_back)); exact ⟨rfl, rfl, rfl⟩))
              first | refine pt_skip rfl rfl rfl rfl ?_ | (refine pt_take rfl rfl rfl rfl ?_; apply Exists.intro; refine ⟨fun w' hw' => ?_, ?_⟩; focus ((repeat (first | go_skip | go_guarded | go_step | go_upon | go_back)); exact ⟨rfl, rfl, rfl⟩))
              first | refine pt_skip rfl rfl rfl rfl ?_ | (refine pt_take rfl rfl rfl rfl ?_; apply Exists.intro; refine ⟨fun w' hw' => ?_, ?_⟩; focus ((repeat (first | go_skip | go_guarded | go_step | go_upon | go_back)); exact ⟨rfl, rfl, rfl⟩))
              have s9 := Blk.new t8 25 (u8s z32)
              have d9 : Below t8.heap.size t8 (t8.alloc (.cells (u8s z32).toArray 25)) := (Below.refl _ _).alloc (Nat.le_refl _) _
              refine pt_step rfl ?_
              go_wp2_with fail
              refine ⟨rfl, d9.mono f_zB8, ?_⟩
              have e9 := Nat.le_trans f_zB8 d9.size
              refine pt_step rfl ?_
              have zpre9 := f_zB8
              go_wp2_with (refine wp_storeA 25 (.tmp 11) (.tmp 75) rfl rfl t8.heap.size rfl 25 (u8s z32) (u8s D) rfl s9 (by rw [info_dig, HUD.out]) (by first | (rw [HUD.out]; rfl) | rfl) (u8s_one _) rfl ?_; intro y9 h9 k9)
              have f9 : Below t8.heap.size t8 y9 := (d9).trans ((k9.mono (O' := fun q => q < t8.heap.size) (fun q hq => by omega)).below (fun q hq => hq) (d9).size)
              refine ⟨rfl, (k9.mono (O' := fun q => q < t8.heap.size) (fun q hq => by omega)).below (fun q hq => by have := f_zB8; omega) (e9), ?_⟩
              have f_s9 := f_s8.past f9
              have f_m9 := f_m8.past f9
              have f_k9 := f_k8.past f9
              have f_bel9 := f_bel8.trans (f9.mono f_bel8.size)
              have f_r9 := f_r8.past f9 f_r8.lt
              have f_c9 := f_c8.past f9
              have f_p9 := f_p8.past f9
              have f_q9 := f_q8.past f9 f_q8.lt
              have f_zB9 := Nat.le_trans f_zB8 f9.size
              clear f_s8 f_m8 f_k8 f_bel8 f_r8 f_c8 f_p8 f_q8 f_zB8 k9 f9 d9 e9 s9
              obtain ⟨gd, hgd⟩ : ∃ g, g = t8.heap.size := ⟨_, rfl⟩
              have zg_d := zpre9
              rw [← hgd] at h9 zg_d ⊢
              clear hgd
              first | refine pt_skip rfl rfl rfl rfl ?_ | (refine pt_take rfl rfl rfl rfl ?_; apply Exists.intro; refine ⟨fun w' hw' => ?_, ?_⟩; focus ((repeat (first | go_skip | go_guarded | go_step | go_upon | go_back)); exact ⟨rfl, rfl, rfl⟩))
              change Exit.then _ _ Exit.normal _ _
              clear f_zB9
              have HC10 := Lib.hid (public_yes _ s i y9 f_s9 hs1 hs64 (by omega) f_k9)
              go_wp2_with fail
              refine HC10.out.mono ?_
              rintro e v10 ⟨rfl, b10⟩
              have f_s10 := f_s9.past b10
              have f_m10 := f_m9.past b10
              have f_k10 := f_k9.past b10
              have f_bel10 := f_bel9.trans (b10.mono f_bel9.size)
              have f_r10 := f_r9.past b10 f_r9.lt
              have f_c10 := f_c9.past b10
              have f_p10 := f_p9.past b10
              have f_q10 := f_q9.past b10 f_q9.lt
              have f_d10 := h9.past b10 h9.lt
              clear f_s9 f_m9 f_k9 f_bel9 f_r9 f_c9 f_p9 f_q9 h9 HC10 b10
              rw [← HD.out]
              have x11 := Blk.new v10 25 (u8s z32)
              have bx11 : Below v10.heap.size v10 (v10.alloc (.cells (u8s z32).toArray 25)) := (Below.refl _ _).alloc (Nat.le_refl _) _
              go_upto_region 11 with (refine wp_storeA 25 (.tmp 13) (.tmp 81) rfl rfl v10.heap.size rfl 25 (u8s z32) _ rfl x11 (by rw [info_dig, HUD.out]) (by first | (rw [HUD.out]; rfl) | rfl) (u8s_one _) rfl ?_; intro y11 h11 k11)
              have bb11 : Below v10.heap.size v10 y11 := ((Keep.of_below bx11).trans (k11.mono (O' := fun q => q < v10.heap.size) (fun q hq => by omega))).below (fun q hq => hq) (Nat.le_refl _)
              have f_s11 := f_s10.past bb11
              have f_m11 := f_m10.past bb11
              have f_k11 := f_k10.past bb11
              have f_bel11 := f_bel10.trans (bb11.mono f_bel10.size)
              have f_r11 := f_r10.past bb11 f_r10.lt
              have f_c11 := f_c10.past bb11
              have f_p11 := f_p10.past bb11
              have f_q11 := f_q10.past bb11 f_q10.lt
              have f_d11 := f_d10.past bb11 f_d10.lt
              clear f_s10 f_m10 f_k10 f_bel10 f_r10 f_c10 f_p10 f_q10 f_d10 x11 bx11 k11 bb11
              obtain ⟨ge, hge⟩ : ∃ g, g = v10.heap.size := ⟨_, rfl⟩
              rw [← hge] at h11 ⊢
              clear hge
              have e0 : y11.cell? ⟨gq, 0, none⟩ = some (.int .i64 (i : Int)) := Blk.cell f_q11 (j := 0) rfl
              have hv := kverify_yes R m _ i A B c d C PP y11 HRL.out f_m11 (by omega) HI.out f_c11 f_p11 f_k11
              rw [HVR.out] at hv
              have HV := Lib.hid hv
              clear hv hz hzs
              go_wp2_with (first
                | (refine wp_run rfl (exec_loadA 25 rfl gd rfl 25 _ 32 5 f_d11 Tryd.underlying25 (by rw [info_dig, HUD.out])) ?_)
                | (refine wp_run rfl (exec_loadA 25 rfl ge rfl 25 _ 32 5 h11 Tryd.underlying25 (by rw [info_dig, HUD.out])) ?_)
                | (refine wp_run rfl (exec_loadA 25 rfl gr rfl 25 _ 32 5 f_r11 Tryd.underlying25 (by rw [info_dig, HUR.out])) ?_)
                | (refine wp_run rfl (exec_loadR 31 rfl gq rfl 31 (sg i (.slice A 18 c) (.slice B 2 d)) _ f_q11 Tryd.underlying31 rfl (by rw [info_sig]; rfl)) ?_)
                | (refine wp_run rfl (exec_eqB rfl D D rfl rfl HDL.out HDL.out true (beq_self_eq_true _) _) ?_))
              refine HV.out.mono ?_
              rintro e w9 ⟨rfl, b9⟩
              have bel9 := Below.trans f_bel11 (b9.mono (Below.size f_bel11))
              clear HV e0
              go_wp2_with fail
              go_ret
              exact ⟨rfl, bel9⟩
            · skip
              have s12 := Blk.new t7 25 (u8s z32)
              have d12 : Below t7.heap.size t7 (t7.alloc (.cells (u8s z32).toArray 25)) := (Below.refl _ _).alloc (Nat.le_refl _) _
              go_wp2_with fail
              refine ⟨rfl, d12.mono f_zB7, ?_⟩
              have f_s12 := f_s7.past d12
              have f_m12 := f_m7.past d12
              have f_k12 := f_k7.past d12
              have f_bel12 := f_bel7.trans (d12.mono f_bel7.size)
              have f_r12 := f_r7.past d12 f_r7.lt
              have f_c12 := f_c7.past d12
              have f_p12 := f_p7.past d12
              have f_q12 := f_q7.past d12 f_q7.lt
              have f_zB12 := Nat.le_trans f_zB7 d12.size
              have m12 := d12
              have q12 := s12
              clear d12 s12
              refine pt_step rfl ?_
              go_wp2_with fail
              refine (HREC.out _ f_c12 f_k12).mono ?_
              rintro e t13 ⟨rfl, c13⟩
              go_wp2_with fail
              refine ⟨rfl, c13.mono f_zB12, ?_⟩
              have q13 := q12.past c13 q12.lt
              have m13 := m12.trans (c13.mono m12.size)
              clear q12 m12
              have f_s13 := f_s12.past c13
              have f_m13 := f_m12.past c13
              have f_k13 := f_k12.past c13
              have f_bel13 := f_bel12.trans (c13.mono f_bel12.size)
              have f_r13 := f_r12.past c13 f_r12.lt
              have f_c13 := f_c12.past c13
              have f_p13 := f_p12.past c13
              have f_q13 := f_q12.past c13 f_q12.lt
              have f_zB13 := Nat.le_trans f_zB12 c13.size
              clear f_s12 f_m12 f_k12 f_bel12 f_r12 f_c12 f_p12 f_q12 f_zB12 c13
              have e13 := f_zB13
              clear f_s13 f_m13 f_k13 f_bel13 f_r13 f_c13 f_p13 f_q13 f_zB13
              first | refine pt_skip rfl rfl rfl rfl ?_ | (refine pt_take rfl rfl rfl rfl ?_; apply Exists.intro; refine ⟨fun w' hw' => ?_, ?_⟩; focus ((repeat (first | go_skip | go_guarded | go_step | go_upon | go_back)); exact ⟨rfl, rfl, rfl⟩))
              first | refine pt_skip rfl rfl rfl rfl ?_ | (refine pt_take rfl rfl rfl rfl ?_; apply Exists.intro; refine ⟨fun w' hw' => ?_, ?_⟩; focus ((repeat (first | go_skip | go_guarded | go_step | go_upon | go_back)); exact ⟨rfl, rfl, rfl⟩))
              first | refine pt_skip rfl rfl rfl rfl ?_ | (refine pt_take rfl rfl rfl rfl ?_; apply Exists.intro; refine ⟨fun w' hw' => ?_, ?_⟩; focus ((repeat (first | go_skip | go_guarded | go_step | go_upon | go_back)); exact ⟨rfl, rfl, rfl⟩))
              refine pt_step rfl ?_
              have s13 := q13
              clear q13
              have zpre13 := f_zB7
              go_wp2_with (refine wp_storeA 25 (.tmp 11) (.tmp 75) rfl rfl t7.heap.size rfl 25 (u8s z32) (u8s D) rfl s13 (by rw [info_dig, HUD.out]) (by first | (rw [HUD.out]; rfl) | rfl) (u8s_one _) rfl ?_; intro y13 h13 k13)
              have f13 : Below t7.heap.size t7 y13 := (m13).trans ((k13.mono (O' := fun q => q < t7.heap.size) (fun q hq => by omega)).below (fun q hq => hq) (m13).size)
              refine ⟨rfl, (k13.mono (O' := fun q => q < t7.heap.size) (fun q hq => by omega)).below (fun q hq => by have := f_zB7; omega) (e13), ?_⟩
              have f_s13 := f_s7.past f13
              have f_m13 := f_m7.past f13
              have f_k13 := f_k7.past f13
              have f_bel13 := f_bel7.trans (f13.mono f_bel7.size)
              have f_r13 := f_r7.past f13 f_r7.lt
              have f_c13 := f_c7.past f13
              have f_p13 := f_p7.past f13
              have f_q13 := f_q7.past f13 f_q7.lt
              have f_zB13 := Nat.le_trans f_zB7 f13.size
              clear f_s7 f_m7 f_k7 f_bel7 f_r7 f_c7 f_p7 f_q7 f_zB7 k13 f13 m13 e13 s13
              obtain ⟨gd, hgd⟩ : ∃ g, g = t7.heap.size := ⟨_, rfl⟩
              have zg_d := zpre13
              rw [← hgd] at h13 zg_d ⊢
              clear hgd
              first | refine pt_skip rfl rfl rfl rfl ?_ | (refine pt_take rfl rfl rfl rfl ?_; apply Exists.intro; refine ⟨fun w' hw' => ?_, ?_⟩; focus ((repeat (first | go_skip | go_guarded | go_step | go_upon | go_back)); exact ⟨rfl, rfl, rfl⟩))
              change Exit.then _ _ Exit.normal _ _
              clear f_zB13
              have HC14 := Lib.hid (public_yes _ s i y13 f_s13 hs1 hs64 (by omega) f_k13)
              go_wp2_with fail
              refine HC14.out.mono ?_
              rintro e v14 ⟨rfl, b14⟩
              have f_s14 := f_s13.past b14
              have f_m14 := f_m13.past b14
              have f_k14 := f_k13.past b14
              have f_bel14 := f_bel13.trans (b14.mono f_bel13.size)
              have f_r14 := f_r13.past b14 f_r13.lt
              have f_c14 := f_c13.past b14
              have f_p14 := f_p13.past b14
              have f_q14 := f_q13.past b14 f_q13.lt
              have f_d14 := h13.past b14 h13.lt
              clear f_s13 f_m13 f_k13 f_bel13 f_r13 f_c13 f_p13 f_q13 h13 HC14 b14
              rw [← HD.out]
              have x15 := Blk.new v14 25 (u8s z32)
              have bx15 : Below v14.heap.size v14 (v14.alloc (.cells (u8s z32).toArray 25)) := (Below.refl _ _).alloc (Nat.le_refl _) _
              go_upto_region 11 with (refine wp_storeA 25 (.tmp 13) (.tmp 81) rfl rfl v14.heap.size rfl 25 (u8s z32) _ rfl x15 (by rw [info_dig, HUD.out]) (by first | (rw [HUD.out]; rfl) | rfl) (u8s_one _) rfl ?_; intro y15 h15 k15)
              have bb15 : Below v14.heap.size v14 y15 := ((Keep.of_below bx15).trans (k15.mono (O' := fun q => q < v14.heap.size) (fun q hq => by omega))).below (fun q hq => hq) (Nat.le_refl _)
              have f_s15 := f_s14.past bb15
              have f_m15 := f_m14.past bb15
              have f_k15 := f_k14.past bb15
              have f_bel15 := f_bel14.trans (bb15.mono f_bel14.size)
              have f_r15 := f_r14.past bb15 f_r14.lt
              have f_c15 := f_c14.past bb15
              have f_p15 := f_p14.past bb15
              have f_q15 := f_q14.past bb15 f_q14.lt
              have f_d15 := f_d14.past bb15 f_d14.lt
              clear f_s14 f_m14 f_k14 f_bel14 f_r14 f_c14 f_p14 f_q14 f_d14 x15 bx15 k15 bb15
              obtain ⟨ge, hge⟩ : ∃ g, g = v14.heap.size := ⟨_, rfl⟩
              rw [← hge] at h15 ⊢
              clear hge
              have e0 : y15.cell? ⟨gq, 0, none⟩ = some (.int .i64 (i : Int)) := Blk.cell f_q15 (j := 0) rfl
              have hv := kverify_yes R m _ i A B c d C PP y15 HRL.out f_m15 (by omega) HI.out f_c15 f_p15 f_k15
              rw [HVR.out] at hv
              have HV := Lib.hid hv
              clear hv hz hzs
              go_wp2_with (first
                | (refine wp_run rfl (exec_loadA 25 rfl gd rfl 25 _ 32 5 f_d15 Tryd.underlying25 (by rw [info_dig, HUD.out])) ?_)
                | (refine wp_run rfl (exec_loadA 25 rfl ge rfl 25 _ 32 5 h15 Tryd.underlying25 (by rw [info_dig, HUD.out])) ?_)
                | (refine wp_run rfl (exec_loadA 25 rfl gr rfl 25 _ 32 5 f_r15 Tryd.underlying25 (by rw [info_dig, HUR.out])) ?_)
                | (refine wp_run rfl (exec_loadR 31 rfl gq rfl 31 (sg i (.slice A 18 c) (.slice B 2 d)) _ f_q15 Tryd.underlying31 rfl (by rw [info_sig]; rfl)) ?_)
                | (refine wp_run rfl (exec_eqB rfl D D rfl rfl HDL.out HDL.out true (beq_self_eq_true _) _) ?_))
              refine HV.out.mono ?_
              rintro e w9 ⟨rfl, b9⟩
              have bel9 := Below.trans f_bel15 (b9.mono (Below.size f_bel15))
              clear HV e0
              go_wp2_with fail
              go_ret
              exact ⟨rfl, bel9⟩
          · skip
            have s16 := Blk.new u6 25 (u8s z32)
            have d16 : Below u6.heap.size u6 (u6.alloc (.cells (u8s z32).toArray 25)) := (Below.refl _ _).alloc (Nat.le_refl _) _
            go_wp2_with fail
            refine ⟨rfl, d16.mono zB6, ?_⟩
            have f_s16 := f_s6.past d16
            have f_m16 := f_m6.past d16
            have f_k16 := f_k6.past d16
            have f_bel16 := f_bel6.trans (d16.mono f_bel6.size)
            have f_r16 := f_r6.past d16 f_r6.lt
            have f_c16 := f_c6.past d16
            have f_p16 := f_p6.past d16
            have f_q16 := f_q6.past d16 f_q6.lt
            have f_zB16 := Nat.le_trans zB6 d16.size
            have m16 := d16
            have q16 := s16
            clear d16 s16
            refine pt_step rfl ?_
            go_wp2_with fail
            refine (HMSG.out _ f_m16 f_k16).mono ?_
            rintro e t17 ⟨rfl, c17⟩
            go_wp2_with fail
            refine ⟨rfl, c17.mono f_zB16, ?_⟩
            have q17 := q16.past c17 q16.lt
            have m17 := m16.trans (c17.mono m16.size)
            clear q16 m16
            have f_s17 := f_s16.past c17
            have f_m17 := f_m16.past c17
            have f_k17 := f_k16.past c17
            have f_bel17 := f_bel16.trans (c17.mono f_bel16.size)
            have f_r17 := f_r16.past c17 f_r16.lt
            have f_c17 := f_c16.past c17
            have f_p17 := f_p16.past c17
            have f_q17 := f_q16.past c17 f_q16.lt
            have f_zB17 := Nat.le_trans f_zB16 c17.size
            clear f_s16 f_m16 f_k16 f_bel16 f_r16 f_c16 f_p16 f_q16 f_zB16 c17
            refine pt_step rfl ?_
            go_wp2_with fail
            refine (HREC.out _ f_c17 f_k17).mono ?_
            rintro e t18 ⟨rfl, c18⟩
            go_wp2_with fail
            refine ⟨rfl, c18.mono f_zB17, ?_⟩
            have q18 := q17.past c18 q17.lt
            have m18 := m17.trans (c18.mono m17.size)
            clear q17 m17
            have f_s18 := f_s17.past c18
            have f_m18 := f_m17.past c18
            have f_k18 := f_k17.past c18
            have f_bel18 := f_bel17.trans (c18.mono f_bel17.size)
            have f_r18 := f_r17.past c18 f_r17.lt
            have f_c18 := f_c17.past c18
            have f_p18 := f_p17.past c18
            have f_q18 := f_q17.past c18 f_q17.lt
            have f_zB18 := Nat.le_trans f_zB17 c18.size
            clear f_s17 f_m17 f_k17 f_bel17 f_r17 f_c17 f_p17 f_q17 f_zB17 c18
            have e18 := f_zB18
            clear f_s18 f_m18 f_k18 f_bel18 f_r18 f_c18 f_p18 f_q18 f_zB18
            first | refine pt_skip rfl rfl rfl rfl ?_ | (refine pt_take rfl rfl rfl rfl ?_; apply Exists.intro; refine ⟨fun w' hw' => ?_, ?_⟩; focus ((repeat (first | go_skip | go_guarded | go_step | go_upon | go_back)); exact ⟨rfl, rfl, rfl⟩))
            first | refine pt_skip rfl rfl rfl rfl ?_ | (refine pt_take rfl rfl rfl rfl ?_; apply Exists.intro; refine ⟨fun w' hw' => ?_, ?_⟩; focus ((repeat (first | go_skip | go_guarded | go_step | go_upon | go_back)); exact ⟨rfl, rfl, rfl⟩))
            first | refine pt_skip rfl rfl rfl rfl ?_ | (refine pt_take rfl rfl rfl rfl ?_; apply Exists.intro; refine ⟨fun w' hw' => ?_, ?_⟩; focus ((repeat (first | go_skip | go_guarded | go_step | go_upon | go_back)); exact ⟨rfl, rfl, rfl⟩))
            refine pt_step rfl ?_
            have s18 := q18
            clear q18
            have zpre18 := zB6
            go_wp2_with (refine wp_storeA 25 (.tmp 11) (.tmp 75) rfl rfl u6.heap.size rfl 25 (u8s z32) (u8s D) rfl s18 (by rw [info_dig, HUD.out]) (by first | (rw [HUD.out]; rfl) | rfl) (u8s_one _) rfl ?_; intro y18 h18 k18)
            have f18 : Below u6.heap.size u6 y18 := (m18).trans ((k18.mono (O' := fun q => q < u6.heap.size) (fun q hq => by omega)).below (fun q hq => hq) (m18).size)
            refine ⟨rfl, (k18.mono (O' := fun q => q < u6.heap.size) (fun q hq => by omega)).below (fun q hq => by have := zB6; omega) (e18), ?_⟩
            have f_s18 := f_s6.past f18
            have f_m18 := f_m6.past f18
            have f_k18 := f_k6.past f18
            have f_bel18 := f_bel6.trans (f18.mono f_bel6.size)
            have f_r18 := f_r6.past f18 f_r6.lt
            have f_c18 := f_c6.past f18
            have f_p18 := f_p6.past f18
            have f_q18 := f_q6.past f18 f_q6.lt
            have f_zB18 := Nat.le_trans zB6 f18.size
            clear f_s6 f_m6 f_k6 f_bel6 f_r6 f_c6 f_p6 f_q6 zB6 k18 f18 m18 e18 s18
            obtain ⟨gd, hgd⟩ : ∃ g, g = u6.heap.size := ⟨_, rfl⟩
            have zg_d := zpre18
            rw [← hgd] at h18 zg_d ⊢
            clear hgd
            first | refine pt_skip rfl rfl rfl rfl ?_ | (refine pt_take rfl rfl rfl rfl ?_; apply Exists.intro; refine ⟨fun w' hw' => ?_, ?_⟩; focus ((repeat (first | go_skip | go_guarded | go_step | go_upon | go_back)); exact ⟨rfl, rfl, rfl⟩))
            change Exit.then _ _ Exit.normal _ _
            clear f_zB18
            have HC19 := Lib.hid (public_yes _ s i y18 f_s18 hs1 hs64 (by omega) f_k18)
            go_wp2_with fail
            refine HC19.out.mono ?_
            rintro e v19 ⟨rfl, b19⟩
            have f_s19 := f_s18.past b19
            have f_m19 := f_m18.past b19
            have f_k19 := f_k18.past b19
            have f_bel19 := f_bel18.trans (b19.mono f_bel18.size)
            have f_r19 := f_r18.past b19 f_r18.lt
            have f_c19 := f_c18.past b19
            have f_p19 := f_p18.past b19
            have f_q19 := f_q18.past b19 f_q18.lt
            have f_d19 := h18.past b19 h18.lt
            clear f_s18 f_m18 f_k18 f_bel18 f_r18 f_c18 f_p18 f_q18 h18 HC19 b19
            rw [← HD.out]
            have x20 := Blk.new v19 25 (u8s z32)
            have bx20 : Below v19.heap.size v19 (v19.alloc (.cells (u8s z32).toArray 25)) := (Below.refl _ _).alloc (Nat.le_refl _) _
            go_upto_region 11 with (refine wp_storeA 25 (.tmp 13) (.tmp 81) rfl rfl v19.heap.size rfl 25 (u8s z32) _ rfl x20 (by rw [info_dig, HUD.out]) (by first | (rw [HUD.out]; rfl) | rfl) (u8s_one _) rfl ?_; intro y20 h20 k20)
            have bb20 : Below v19.heap.size v19 y20 := ((Keep.of_below bx20).trans (k20.mono (O' := fun q => q < v19.heap.size) (fun q hq => by omega))).below (fun q hq => hq) (Nat.le_refl _)
            have f_s20 := f_s19.past bb20
            have f_m20 := f_m19.past bb20
            have f_k20 := f_k19.past bb20
            have f_bel20 := f_bel19.trans (bb20.mono f_bel19.size)
            have f_r20 := f_r19.past bb20 f_r19.lt
            have f_c20 := f_c19.past bb20
            have f_p20 := f_p19.past bb20
            have f_q20 := f_q19.past bb20 f_q19.lt
            have f_d20 := f_d19.past bb20 f_d19.lt
            clear f_s19 f_m19 f_k19 f_bel19 f_r19 f_c19 f_p19 f_q19 f_d19 x20 bx20 k20 bb20
            obtain ⟨ge, hge⟩ : ∃ g, g = v19.heap.size := ⟨_, rfl⟩
            rw [← hge] at h20 ⊢
            clear hge
            have e0 : y20.cell? ⟨gq, 0, none⟩ = some (.int .i64 (i : Int)) := Blk.cell f_q20 (j := 0) rfl
            have hv := kverify_yes R m _ i A B c d C PP y20 HRL.out f_m20 (by omega) HI.out f_c20 f_p20 f_k20
            rw [HVR.out] at hv
            have HV := Lib.hid hv
            clear hv hz hzs
            go_wp2_with (first
              | (refine wp_run rfl (exec_loadA 25 rfl gd rfl 25 _ 32 5 f_d20 Tryd.underlying25 (by rw [info_dig, HUD.out])) ?_)
              | (refine wp_run rfl (exec_loadA 25 rfl ge rfl 25 _ 32 5 h20 Tryd.underlying25 (by rw [info_dig, HUD.out])) ?_)
              | (refine wp_run rfl (exec_loadA 25 rfl gr rfl 25 _ 32 5 f_r20 Tryd.underlying25 (by rw [info_dig, HUR.out])) ?_)
              | (refine wp_run rfl (exec_loadR 31 rfl gq rfl 31 (sg i (.slice A 18 c) (.slice B 2 d)) _ f_q20 Tryd.underlying31 rfl (by rw [info_sig]; rfl)) ?_)
              | (refine wp_run rfl (exec_eqB rfl D D rfl rfl HDL.out HDL.out true (beq_self_eq_true _) _) ?_))
            refine HV.out.mono ?_
            rintro e w9 ⟨rfl, b9⟩
            have bel9 := Below.trans f_bel20 (b9.mono (Below.size f_bel20))
            clear HV e0
            go_wp2_with fail
            go_ret
            exact ⟨rfl, bel9⟩
        · skip
          have HC21 := Lib.hid (ktsign_no _ _ s m ix y3 f_s3 f_m3 (fun h => hx h.2.2))
          go_wp2_with fail
          refine HC21.out.mono ?_
          rintro e v21 ⟨rfl, b21⟩
          have f_s21 := f_s3.past b21
          have f_m21 := f_m3.past b21
          have f_k21 := f_k3.past b21
          have f_bel21 := f_bel3.trans (b21.mono f_bel3.size)
          have f_r21 := h3.past b21 h3.lt
          clear f_s3 f_m3 f_k3 f_bel3 h3 HC21 b21
          have x22 := Blk.new v21 31 (sg 0 nilS nilS)
          have bx22 : Below v21.heap.size v21 (v21.alloc (.cells (sg 0 nilS nilS).toArray 31)) := (Below.refl _ _).alloc (Nat.le_refl _) _
          go_upto_region 7 with (refine wp_storeA 31 (.tmp 9) (.tmp 35) rfl rfl v21.heap.size rfl 31 (sg 0 nilS nilS) (sg 0 nilS nilS) rfl x22 (by rw [info_sig]; rfl) rfl sg_one rfl ?_; intro y22 h22 k22)
          have bb22 : Below v21.heap.size v21 y22 := ((Keep.of_below bx22).trans (k22.mono (O' := fun q => q < v21.heap.size) (fun q hq => by omega))).below (fun q hq => hq) (Nat.le_refl _)
          have f_s22 := f_s21.past bb22
          have f_m22 := f_m21.past bb22
          have f_k22 := f_k21.past bb22
          have f_bel22 := f_bel21.trans (bb22.mono f_bel21.size)
          have f_r22 := f_r21.past bb22 f_r21.lt
          clear f_s21 f_m21 f_k21 f_bel21 f_r21 x22 bx22 k22 bb22
          obtain ⟨gq, hgq⟩ : ∃ g, g = v21.heap.size := ⟨_, rfl⟩
          rw [← hgq] at h22 ⊢
          clear hgq
          have e1 : y22.cell? ⟨gq, 1, none⟩ = some (.slice none 0 0) := Blk.cell h22 (j := 1) rfl
          have e2 : y22.cell? ⟨gq, 2, none⟩ = some (.slice none 0 0) := Blk.cell h22 (j := 2) rfl
          clear hz hzs
          have hor : ix < 0 ∨ (¬ ix < 0 ∧ 3 < ix) := by omega
          clear hx
          rcases hor with hh | ⟨hh, hh2⟩
          · go_wp2
            go_ret
            exact ⟨rfl, f_bel22⟩
          · go_wp2
            go_ret
            exact ⟨rfl, f_bel22⟩
      · skip
        have HC23 := Lib.hid (root_no _ s v1 f_s1 hs)
        go_wp2_with fail
        refine HC23.out.mono ?_
        rintro e v23 ⟨rfl, b23⟩
        have f_s23 := f_s1.past b23
        have f_m23 := f_m1.past b23
        have f_k23 := f_k1.past b23
        have f_bel23 := f_bel1.trans (b23.mono f_bel1.size)
        clear f_s1 f_m1 f_k1 f_bel1 HC23 b23
        have HUZ : Hid ((u8s z32).length = 32) := Lib.hid rfl
        have x24 := Blk.new v23 25 (u8s z32)
        have bx24 : Below v23.heap.size v23 (v23.alloc (.cells (u8s z32).toArray 25)) := (Below.refl _ _).alloc (Nat.le_refl _) _
        go_upto_region 6 with (refine wp_storeA 25 (.tmp 7) (.tmp 28) rfl rfl v23.heap.size rfl 25 (u8s z32) _ rfl x24 (by rw [info_dig, HUZ.out]) (by first | (rw [HUZ.out]; rfl) | rfl) (u8s_one _) rfl ?_; intro y24 h24 k24)
        have bb24 : Below v23.heap.size v23 y24 := ((Keep.of_below bx24).trans (k24.mono (O' := fun q => q < v23.heap.size) (fun q hq => by omega))).below (fun q hq => hq) (Nat.le_refl _)
        have f_s24 := f_s23.past bb24
        have f_m24 := f_m23.past bb24
        have f_k24 := f_k23.past bb24
        have f_bel24 := f_bel23.trans (bb24.mono f_bel23.size)
        clear f_s23 f_m23 f_k23 f_bel23 x24 bx24 k24 bb24
        obtain ⟨gr, hgr⟩ : ∃ g, g = v23.heap.size := ⟨_, rfl⟩
        rw [← hgr] at h24 ⊢
        clear hgr
        have HC25 := Lib.hid (ktsign_no _ _ s m ix y24 f_s24 f_m24 (fun h => hs ⟨h.1, h.2.1⟩))
        go_wp2_with fail
        refine HC25.out.mono ?_
        rintro e v25 ⟨rfl, b25⟩
        have f_s25 := f_s24.past b25
        have f_m25 := f_m24.past b25
        have f_k25 := f_k24.past b25
        have f_bel25 := f_bel24.trans (b25.mono f_bel24.size)
        have f_r25 := h24.past b25 h24.lt
        clear f_s24 f_m24 f_k24 f_bel24 h24 HC25 b25
        have x26 := Blk.new v25 31 (sg 0 nilS nilS)
        have bx26 : Below v25.heap.size v25 (v25.alloc (.cells (sg 0 nilS nilS).toArray 31)) := (Below.refl _ _).alloc (Nat.le_refl _) _
        go_upto_region 7 with (refine wp_storeA 31 (.tmp 9) (.tmp 35) rfl rfl v25.heap.size rfl 31 (sg 0 nilS nilS) (sg 0 nilS nilS) rfl x26 (by rw [info_sig]; rfl) rfl sg_one rfl ?_; intro y26 h26 k26)
        have bb26 : Below v25.heap.size v25 y26 := ((Keep.of_below bx26).trans (k26.mono (O' := fun q => q < v25.heap.size) (fun q hq => by omega))).below (fun q hq => hq) (Nat.le_refl _)
        have f_s26 := f_s25.past bb26
        have f_m26 := f_m25.past bb26
        have f_k26 := f_k25.past bb26
        have f_bel26 := f_bel25.trans (bb26.mono f_bel25.size)
        have f_r26 := f_r25.past bb26 f_r25.lt
        clear f_s25 f_m25 f_k25 f_bel25 f_r25 x26 bx26 k26 bb26
        obtain ⟨gq, hgq⟩ : ∃ g, g = v25.heap.size := ⟨_, rfl⟩
        rw [← hgq] at h26 ⊢
        clear hgq
        have e1 : y26.cell? ⟨gq, 1, none⟩ = some (.slice none 0 0) := Blk.cell h26 (j := 1) rfl
        have e2 : y26.cell? ⟨gq, 2, none⟩ = some (.slice none 0 0) := Blk.cell h26 (j := 2) rfl
        clear hz hzs
        have hor : s.length < 1 ∨ (¬ s.length < 1 ∧ 64 < s.length) := by omega
        clear hs
        rcases hor with hh | ⟨hh, hh2⟩
        · go_wp2
          go_ret
          exact ⟨rfl, f_bel26⟩
        · go_wp2
          go_ret
          exact ⟨rfl, f_bel26⟩
    · skip
      go_wp2
      go_ret
      exact ⟨rfl, f_bel1⟩
  · skip
    go_wp2
    go_ret
    exact ⟨rfl, f_bel1⟩
end Go.Proofs.YtccepoeenkpifaaDoor
