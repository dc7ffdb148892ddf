/-
  The walk of KeytreeVerifyRoot.
-/
import Derived.Test.YtccepoeenkpifaaDoorKtS
import Derived.Test.YtccepoeenkpifaaDoorKtV
import Derived.Test.YtccepoeenkpifaaDoorOpS
namespace Go.Proofs.YtccepoeenkpifaaDoor
open Go.RowKit
set_option linter.unusedVariables false
set_option linter.unusedSimpArgs false

theorem row_len {w : World} {B s n : Nat} {v : Value} {xs : List Value} (h : Row w B s n v xs) : n ≤ 9223372036854775807 := by
  obtain ⟨_, _, _, h1, h2, _⟩ := h
  unfold maxLen at h2
  omega
theorem bs_len {w : World} {B : Nat} {v : Value} {l : List UInt8} (h : Bs w B v l) : l.length ≤ 9223372036854775807 := by
  obtain ⟨_, _, _, h1, h2, _⟩ := h
  unfold maxLen at h2
  omega

set_option maxRecDepth 100000 in
set_option maxHeartbeats 4000000 in
theorem keytreeVerifyRoot_walk (r : List UInt8) (v : Value) (l : List UInt8) (ix : Int) (A B : Option Addr) (n c m d : Nat) (F PP : List UInt8) (W : World) (hr : r.length = 32) (hv : Bs W W.heap.size v l) (hix : -9223372036854775808 ≤ ix ∧ ix ≤ 9223372036854775807) (hF : Row W W.heap.size 32 n (.slice A n c) (u8s F)) (hG : Row W W.heap.size 32 m (.slice B m d) (u8s PP)) (hk : KIs 1 W) :
    Calls Tryd.prog 10 #[.agg (u8s r).toArray, v, .agg (sg ix (.slice A n c) (.slice B m d)).toArray] W fun e w' => e = .returned (.bool true) ∧ Below W.heap.size W w' := by
  obtain ⟨A0, cap0, rfl⟩ := hv.form
  obtain ⟨hix1, hix2⟩ := hix
  have hnl := row_len hF
  have hml := row_len hG
  have hll := bs_len hv
  have HR := Lib.hid hr
  have HUR := Lib.hid (show (u8s r).length = 32 by rw [u8s_length, hr])
  have b0 : Below W.heap.size W ((W.alloc (.cells (u8s r).toArray 25)).alloc (.cells (sg ix (.slice A n c) (.slice B m d)).toArray 31)) := ((Below.refl _ _).alloc (Nat.le_refl _) _).alloc (by simp) _
  have r0 : Blk ((W.alloc (.cells (u8s r).toArray 25)).alloc (.cells (sg ix (.slice A n c) (.slice B m d)).toArray 31)) W.heap.size 25 (u8s r) := (Blk.new W _ _).past ((Below.refl _ _).alloc (Nat.le_refl _) _) (by simp)
  have q0 : Blk ((W.alloc (.cells (u8s r).toArray 25)).alloc (.cells (sg ix (.slice A n c) (.slice B m d)).toArray 31)) (W.heap.size + 1) 31 (sg ix (.slice A n c) (.slice B m d)) := by
    have h := Blk.new (W.alloc (.cells (u8s r).toArray 25)) 31 (sg ix (.slice A n c) (.slice B m d))
    rw [World.size_alloc] at h
    exact h
  obtain ⟨W0, hW0⟩ : ∃ U, U = (W.alloc (.cells (u8s r).toArray 25)).alloc (.cells (sg ix (.slice A n c) (.slice B m d)).toArray 31) := ⟨_, rfl⟩
  rw [← hW0] at b0 r0 q0
  have HW := Lib.hid hW0
  have m0 := hv.past b0
  have k0 := hk.past b0
  have c0 := hF.past b0
  have p0 := hG.past b0
  clear hW0 hv hk hr hF hG
  go_enter Tryd.func10, Tryd.ntmps10
  go_upto_region 1 with (fail)
  rw [← HW.out]
  obtain ⟨gr, hgr⟩ : ∃ g, g = W.heap.size := ⟨_, rfl⟩
  obtain ⟨gq, hgq⟩ : ∃ g, g = W.heap.size + 1 := ⟨_, rfl⟩
  rw [← hgq] at q0 ⊢
  rw [← hgr] at r0 ⊢
  have HGR := Lib.hid hgr
  clear hgr hgq
  have HC1 := Lib.hid (sane_any W0 k0)
  go_wp2_with fail
  refine HC1.out.mono ?_
  rintro e v1 ⟨rfl, b1⟩
  have f_r1 := r0.past b1 r0.lt
  have f_q1 := q0.past b1 q0.lt
  have f_m1 := m0.past b1
  have f_k1 := k0.past b1
  have f_bel1 := b0.trans (b1.mono b0.size)
  have f_p1 := p0.past b1
  have f_c1 := c0.past b1
  clear r0 q0 m0 k0 b0 p0 c0 HC1 b1
  have d0 : v1.cell? ⟨gq, 0, none⟩ = some (.int .i64 ix) := Blk.cell f_q1 (j := 0) rfl
  have d1 : v1.cell? ⟨gq, 1, none⟩ = some (.slice A n c) := Blk.cell f_q1 (j := 1) rfl
  have d2 : v1.cell? ⟨gq, 2, none⟩ = some (.slice B m d) := Blk.cell f_q1 (j := 2) rfl
  by_cases hx0 : 0 ≤ ix
  · skip
    by_cases hx3 : ix ≤ 3
    · skip
      by_cases hn : n = 18
      · subst hn
        by_cases hm : m = 2
        · subst hm
          by_cases hl300 : l.length ≤ 300
          · skip
            obtain ⟨i, rfl⟩ := Int.eq_ofNat_of_zero_le hx0
            have hi3 : i ≤ 3 := by omega
            have hz := zero_dig
            obtain ⟨MD, hMD⟩ : ∃ MD, MD = msgD l := ⟨_, rfl⟩
            have HMD := Lib.hid hMD
            have HMDL := Lib.hid (show MD.length = 32 by rw [hMD, msgD_len])
            obtain ⟨D, hD⟩ : ∃ D, D = Wt.rec_ MD F := ⟨_, rfl⟩
            have HD := Lib.hid hD
            have HDL := Lib.hid (show D.length = 32 by rw [hD, Wt.rec_len])
            have HUD := Lib.hid (show (u8s D).length = 32 by rw [u8s_length, HDL.out])
            obtain ⟨X, hX⟩ : ∃ X, X = Kt.climb D i PP 2 := ⟨_, rfl⟩
            have HX := Lib.hid hX
            have HXL := Lib.hid (show X.length = 32 by rw [hX, Kt.climb_len HDL.out])
            have HUX := Lib.hid (show (u8s X).length = 32 by rw [u8s_length, HXL.out])
            have HCL := Lib.hid (show Kt.climb (Wt.rec_ (msgD l) F) i PP 2 = X by rw [← hMD, ← hD, ← hX])
            obtain ⟨Q, hQ⟩ : ∃ Q, (X == r) = Q := ⟨_, rfl⟩
            have HQ := Lib.hid hQ
            clear hMD hD hX hQ
            have HMSG : Hid (∀ w1 : World, Bs w1 w1.heap.size (.slice A0 l.length cap0) l → KIs 1 w1 → Calls Tryd.prog 25 #[str [109, 115, 103], .slice A0 l.length cap0] w1 fun e w' => e = .returned (.agg (u8s MD).toArray) ∧ Below w1.heap.size w1 w') := Lib.hid fun w1 h1 h2 => by
              rw [HMD.out]; exact tagged_any _ [109, 115, 103] l w1 h1 h2 (by omega) (by decide)
            have HREC : Hid (∀ w1 : World, Row w1 w1.heap.size 32 18 (.slice A 18 c) (u8s F) → KIs 1 w1 → Calls Tryd.prog 24 #[.agg (u8s MD).toArray, .slice A 18 c] w1 fun e w' => e = .returned (.tuple #[.agg (u8s D).toArray, .int .i64 0]) ∧ Below w1.heap.size w1 w') := Lib.hid fun w1 h1 h2 => by
              rw [HD.out]; exact recover_yes MD F _ w1 h1 HMDL.out h2
            go_upto_region 5 with (fail)
            clear d0 d1 d2
            have lq := Blk.lt f_q1
            refine wp_region_pt (v1.heap.size) (.take 0 (.take 2 (.take 3 (.two 1 (.two 4 (.take 5 (.take 6 (.take 7 (.step 8 (.step 9 (.take 10 .done)))))) 8 (.step 4 (.take 5 (.take 6 (.take 7 (.step 9 (.take 10 .done))))))) 8 (.step 1 (.step 4 (.take 5 (.take 6 (.take 7 (.step 9 (.take 10 .done))))))))))) (by kernel_rfl) (by kernel_rfl) (by kernel_rfl) (fun _ _ h => h) ?_
            have bd2 : Below v1.heap.size v1 v1.drew := (Below.refl _ _).drew
            have zB2 : v1.heap.size ≤ v1.drew.heap.size := bd2.size
            have f_r2 := f_r1.past bd2 f_r1.lt
            have f_q2 := f_q1.past bd2 f_q1.lt
            have f_m2 := f_m1.past bd2
            have f_k2 := f_k1.past bd2
            have f_bel2 := f_bel1.trans (bd2.mono f_bel1.size)
            have f_p2 := f_p1.past bd2
            have f_c2 := f_c1.past bd2
            clear f_r1 f_q1 f_m1 f_k1 f_bel1 f_p1 f_c1
            obtain ⟨u2, hu2⟩ : ∃ u, u = v1.drew := ⟨_, rfl⟩
            rw [← hu2] at f_r2 f_q2 f_m2 f_k2 f_bel2 f_p2 f_c2 zB2 bd2 ⊢
            clear hu2 bd2
            have cq : u2.cell? ⟨gq, 1, none⟩ = some (.slice A 18 c) := Blk.cell f_q2 (j := 1) rfl
            first | refine pt_skip rfl rfl rfl rfl ?_ | (refine pt_take rfl rfl rfl rfl ?_; apply Exists.intro; refine ⟨fun w' hw' => ?_, ?_⟩; focus ((repeat (first | go_skip | go_guarded | go_step | go_upon | go_back)); exact ⟨rfl, rfl, rfl⟩))
            first | refine pt_skip rfl rfl rfl rfl ?_ | (refine pt_take rfl rfl rfl rfl ?_; apply Exists.intro; refine ⟨fun w' hw' => ?_, ?_⟩; focus ((repeat (first | go_skip | go_guarded | go_step | go_upon | go_back)); exact ⟨rfl, rfl, rfl⟩))
            refine pt_take rfl rfl rfl rfl ?_
            apply Exists.intro
            refine ⟨fun w' hw' => ?_, ?_⟩
            · have hcell := (hw'.cell (p := ⟨gq, 1, none⟩) lq).trans cq
              focus ((repeat (first | go_skip | go_guarded | go_step | go_upon | go_back)); exact ⟨rfl, rfl, rfl⟩)
            clear cq lq
            refine pt_two rfl rfl ?_ ?_
            · skip
              go_wp2_with fail
              refine (HMSG.out _ f_m2 f_k2).mono ?_
              rintro e t3 ⟨rfl, c3⟩
              go_wp2_with fail
              refine ⟨rfl, c3.mono zB2, ?_⟩
              have f_r3 := f_r2.past c3 f_r2.lt
              have f_q3 := f_q2.past c3 f_q2.lt
              have f_m3 := f_m2.past c3
              have f_k3 := f_k2.past c3
              have f_bel3 := f_bel2.trans (c3.mono f_bel2.size)
              have f_p3 := f_p2.past c3
              have f_c3 := f_c2.past c3
              have f_zB3 := Nat.le_trans zB2 c3.size
              clear f_r2 f_q2 f_m2 f_k2 f_bel2 f_p2 f_c2 zB2 c3
              refine pt_two rfl rfl ?_ ?_
              · skip
                go_wp2_with fail
                refine (HREC.out _ f_c3 f_k3).mono ?_
                rintro e t4 ⟨rfl, c4⟩
                go_wp2_with fail
                refine ⟨rfl, c4.mono f_zB3, ?_⟩
                have f_r4 := f_r3.past c4 f_r3.lt
                have f_q4 := f_q3.past c4 f_q3.lt
                have f_m4 := f_m3.past c4
                have f_k4 := f_k3.past c4
                have f_bel4 := f_bel3.trans (c4.mono f_bel3.size)
                have f_p4 := f_p3.past c4
                have f_c4 := f_c3.past c4
                have f_zB4 := Nat.le_trans f_zB3 c4.size
                clear f_r3 f_q3 f_m3 f_k3 f_bel3 f_p3 f_c3 f_zB3 c4
                first | refine pt_skip rfl rfl rfl rfl ?_ | (refine pt_take rfl rfl rfl rfl ?_; apply Exists.intro; refine ⟨fun w' hw' => ?_, ?_⟩; focus ((repeat (first | go_skip | go_guarded | go_step | go_upon | go_back)); exact ⟨rfl, rfl, rfl⟩))
                first | refine pt_skip rfl rfl rfl rfl ?_ | (refine pt_take rfl rfl rfl rfl ?_; apply Exists.intro; refine ⟨fun w' hw' => ?_, ?_⟩; focus ((repeat (first | go_skip | go_guarded | go_step | go_upon | go_back)); exact ⟨rfl, rfl, rfl⟩))
                first | refine pt_skip rfl rfl rfl rfl ?_ | (refine pt_take rfl rfl rfl rfl ?_; apply Exists.intro; refine ⟨fun w' hw' => ?_, ?_⟩; focus ((repeat (first | go_skip | go_guarded | go_step | go_upon | go_back)); exact ⟨rfl, rfl, rfl⟩))
                have s5 := Blk.new t4 25 (u8s z32)
                have d5 : Below t4.heap.size t4 (t4.alloc (.cells (u8s z32).toArray 25)) := (Below.refl _ _).alloc (Nat.le_refl _) _
                refine pt_step rfl ?_
                go_wp2_with fail
                refine ⟨rfl, d5.mono f_zB4, ?_⟩
                have e5 := Nat.le_trans f_zB4 d5.size
                refine pt_step rfl ?_
                have zpre5 := f_zB4
                go_wp2_with (refine wp_storeA 25 (.tmp 7) (.tmp 44) rfl rfl t4.heap.size rfl 25 (u8s z32) (u8s D) rfl s5 (by rw [info_dig, HUD.out]) (by first | (rw [HUD.out]; rfl) | rfl) (u8s_one _) rfl ?_; intro y5 h5 k5)
                have f5 : Below t4.heap.size t4 y5 := (d5).trans ((k5.mono (O' := fun q => q < t4.heap.size) (fun q hq => by omega)).below (fun q hq => hq) (d5).size)
                refine ⟨rfl, (k5.mono (O' := fun q => q < t4.heap.size) (fun q hq => by omega)).below (fun q hq => by have := f_zB4; omega) (e5), ?_⟩
                have f_r5 := f_r4.past f5 f_r4.lt
                have f_q5 := f_q4.past f5 f_q4.lt
                have f_m5 := f_m4.past f5
                have f_k5 := f_k4.past f5
                have f_bel5 := f_bel4.trans (f5.mono f_bel4.size)
                have f_p5 := f_p4.past f5
                have f_c5 := f_c4.past f5
                have f_zB5 := Nat.le_trans f_zB4 f5.size
                clear f_r4 f_q4 f_m4 f_k4 f_bel4 f_p4 f_c4 f_zB4 k5 f5 d5 e5 s5
                obtain ⟨gd, hgd⟩ : ∃ g, g = t4.heap.size := ⟨_, rfl⟩
                have zg_d := zpre5
                rw [← hgd] at h5 zg_d ⊢
                clear hgd
                first | refine pt_skip rfl rfl rfl rfl ?_ | (refine pt_take rfl rfl rfl rfl ?_; apply Exists.intro; refine ⟨fun w' hw' => ?_, ?_⟩; focus ((repeat (first | go_skip | go_guarded | go_step | go_upon | go_back)); exact ⟨rfl, rfl, rfl⟩))
                change Exit.then _ _ Exit.normal _ _
                clear f_zB5
                have e0 : y5.cell? ⟨gq, 0, none⟩ = some (.int .i64 (i : Int)) := Blk.cell f_q5 (j := 0) rfl
                have e2 : y5.cell? ⟨gq, 2, none⟩ = some (.slice B 2 d) := Blk.cell f_q5 (j := 2) rfl
                have HC6 := Lib.hid (climb_yes _ D PP 2 i y5 f_p5 HDL.out (by decide) (by omega) f_k5)
                go_wp2_with (first | (refine wp_run rfl (exec_loadA 25 rfl gd rfl 25 _ 32 5 h5 Tryd.underlying25 (by rw [info_dig, HUD.out])) ?_))
                refine HC6.out.mono ?_
                rintro e v6 ⟨rfl, b6⟩
                clear e0 e2
                have f_r6 := f_r5.past b6 f_r5.lt
                have f_q6 := f_q5.past b6 f_q5.lt
                have f_m6 := f_m5.past b6
                have f_k6 := f_k5.past b6
                have f_bel6 := f_bel5.trans (b6.mono f_bel5.size)
                have f_p6 := f_p5.past b6
                have f_c6 := f_c5.past b6
                have f_d6 := h5.past b6 h5.lt
                clear f_r5 f_q5 f_m5 f_k5 f_bel5 f_p5 f_c5 h5 HC6 b6
                rw [← HX.out]
                have x7 := Blk.new v6 25 (u8s z32)
                have bx7 : Below v6.heap.size v6 (v6.alloc (.cells (u8s z32).toArray 25)) := (Below.refl _ _).alloc (Nat.le_refl _) _
                go_upto_region 7 with (refine wp_storeA 25 (.tmp 9) (.tmp 53) rfl rfl v6.heap.size rfl 25 (u8s z32) _ rfl x7 (by rw [info_dig, HUX.out]) (by first | (rw [HUX.out]; rfl) | rfl) (u8s_one _) rfl ?_; intro y7 h7 k7)
                have bb7 : Below v6.heap.size v6 y7 := ((Keep.of_below bx7).trans (k7.mono (O' := fun q => q < v6.heap.size) (fun q hq => by omega))).below (fun q hq => hq) (Nat.le_refl _)
                have f_r7 := f_r6.past bb7 f_r6.lt
                have f_q7 := f_q6.past bb7 f_q6.lt
                have f_m7 := f_m6.past bb7
                have f_k7 := f_k6.past bb7
                have f_bel7 := f_bel6.trans (bb7.mono f_bel6.size)
                have f_p7 := f_p6.past bb7
                have f_c7 := f_c6.past bb7
                have f_d7 := f_d6.past bb7 f_d6.lt
                clear f_r6 f_q6 f_m6 f_k6 f_bel6 f_p6 f_c6 f_d6 x7 bx7 k7 bb7
                obtain ⟨gx, hgx⟩ : ∃ g, g = v6.heap.size := ⟨_, rfl⟩
                rw [← hgx] at h7 ⊢
                clear hgx
                clear hz
                have lt_x := Blk.lt h7
                have lt_r := Blk.lt f_r7
                have lt_q := Blk.lt f_q7
                refine wp_region_pt (y7.heap.size) (.take 0 (.take 1 (.take 2 (.take 3 (.take 4 (.take 5 (.take 6 (.take 7 (.take 8 (.take 9 (.step 10 (.take 11 (.take 12 (.take 13 (.take 14 (.take 15 (.take 17 (.take 18 (.take 19 (.step 16 (.take 20 (.take 21 (.take 22 .done))))))))))))))))))))))) (by kernel_rfl) (by kernel_rfl) (by kernel_rfl) (fun _ _ h => h) ?_
                have bd8 : Below y7.heap.size y7 y7.drew := (Below.refl _ _).drew
                have zB8 : y7.heap.size ≤ y7.drew.heap.size := bd8.size
                have f_r8 := f_r7.past bd8 f_r7.lt
                have f_q8 := f_q7.past bd8 f_q7.lt
                have f_m8 := f_m7.past bd8
                have f_k8 := f_k7.past bd8
                have f_bel8 := f_bel7.trans (bd8.mono f_bel7.size)
                have f_p8 := f_p7.past bd8
                have f_c8 := f_c7.past bd8
                have f_d8 := f_d7.past bd8 f_d7.lt
                have f_x8 := h7.past bd8 h7.lt
                clear f_r7 f_q7 f_m7 f_k7 f_bel7 f_p7 f_c7 f_d7 h7
                obtain ⟨u8, hu8⟩ : ∃ u, u = y7.drew := ⟨_, rfl⟩
                rw [← hu8] at f_r8 f_q8 f_m8 f_k8 f_bel8 f_p8 f_c8 f_d8 f_x8 zB8 bd8 ⊢
                clear hu8 bd8
                first | refine pt_skip rfl rfl rfl rfl ?_ | (refine pt_take rfl rfl rfl rfl ?_; apply Exists.intro; refine ⟨fun w' hw' => ?_, ?_⟩; focus ((repeat (first | go_skip | go_guarded | go_step | go_upon | go_back)); exact ⟨rfl, rfl, rfl⟩))
                first | refine pt_skip rfl rfl rfl rfl ?_ | (refine pt_take rfl rfl rfl rfl ?_; apply Exists.intro; refine ⟨fun w' hw' => ?_, ?_⟩; focus ((repeat (first | go_skip | go_guarded | go_step | go_upon | go_back)); exact ⟨rfl, rfl, rfl⟩))
                first | refine pt_skip rfl rfl rfl rfl ?_ | (refine pt_take rfl rfl rfl rfl ?_; apply Exists.intro; refine ⟨fun w' hw' => ?_, ?_⟩; focus ((repeat (first | go_skip | go_guarded | go_step | go_upon | go_back)); exact ⟨rfl, rfl, rfl⟩))
                first | refine pt_skip rfl rfl rfl rfl ?_ | (refine pt_take rfl rfl rfl rfl ?_; apply Exists.intro; refine ⟨fun w' hw' => ?_, ?_⟩; focus ((repeat (first | go_skip | go_guarded | go_step | go_upon | go_back)); exact ⟨rfl, rfl, rfl⟩))
                first | refine pt_skip rfl rfl rfl rfl ?_ | (refine pt_take rfl rfl rfl rfl ?_; apply Exists.intro; refine ⟨fun w' hw' => ?_, ?_⟩; focus ((repeat (first | go_skip | go_guarded | go_step | go_upon | go_back)); exact ⟨rfl, rfl, rfl⟩))
                first | refine pt_skip rfl rfl rfl rfl ?_ | (refine pt_take rfl rfl rfl rfl ?_; apply Exists.intro; refine ⟨fun w' hw' => ?_, ?_⟩; focus ((repeat (first | go_skip | go_guarded | go_step | go_upon | go_back)); exact ⟨rfl, rfl, rfl⟩))
                first | refine pt_skip rfl rfl rfl rfl ?_ | (refine pt_take rfl rfl rfl rfl ?_; apply Exists.intro; refine ⟨fun w' hw' => ?_, ?_⟩; focus ((repeat (first | go_skip | go_guarded | go_step | go_upon | go_back)); exact ⟨rfl, rfl, rfl⟩))
                refine pt_take rfl rfl rfl rfl ?_
                apply Exists.intro
                refine ⟨fun w' hw' => ?_, ?_⟩
                · refine wp_run rfl (exec_loadA 25 rfl _ rfl 25 _ 32 5 (f_x8.past hw' lt_x) Tryd.underlying25 (by rw [info_dig, HUX.out])) ?_
                  exact ⟨rfl, rfl, rfl⟩
                first | refine pt_skip rfl rfl rfl rfl ?_ | (refine pt_take rfl rfl rfl rfl ?_; apply Exists.intro; refine ⟨fun w' hw' => ?_, ?_⟩; focus ((repeat (first | go_skip | go_guarded | go_step | go_upon | go_back)); exact ⟨rfl, rfl, rfl⟩))
                refine pt_take rfl rfl rfl rfl ?_
                apply Exists.intro
                refine ⟨fun w' hw' => ?_, ?_⟩
                · refine wp_run rfl (exec_loadR 31 rfl _ rfl 31 (sg i (.slice A 18 c) (.slice B 2 d)) _ (f_q8.past hw' lt_q) Tryd.underlying31 rfl (by rw [info_sig]; rfl)) ?_
                  exact ⟨rfl, rfl, rfl⟩
                have hv1 := kverify_yes X l _ i A B c d F PP u8 HXL.out f_m8 (by omega) hi3 f_c8 f_p8 f_k8
                rw [HCL.out, beq_self_eq_true] at hv1
                have HV1 := Lib.hid hv1
                clear hv1
                refine pt_step rfl ?_
                go_wp2_with fail
                refine (HV1.out).mono ?_
                rintro e t9 ⟨rfl, c9⟩
                go_wp2_with fail
                refine ⟨rfl, c9.mono zB8, ?_⟩
                have f_r9 := f_r8.past c9 f_r8.lt
                have f_q9 := f_q8.past c9 f_q8.lt
                have f_m9 := f_m8.past c9
                have f_k9 := f_k8.past c9
                have f_bel9 := f_bel8.trans (c9.mono f_bel8.size)
                have f_p9 := f_p8.past c9
                have f_c9 := f_c8.past c9
                have f_d9 := f_d8.past c9 f_d8.lt
                have f_x9 := f_x8.past c9 f_x8.lt
                have f_zB9 := Nat.le_trans zB8 c9.size
                clear f_r8 f_q8 f_m8 f_k8 f_bel8 f_p8 f_c8 f_d8 f_x8 zB8 c9
                clear HV1
                first | refine pt_skip rfl rfl rfl rfl ?_ | (refine pt_take rfl rfl rfl rfl ?_; apply Exists.intro; refine ⟨fun w' hw' => ?_, ?_⟩; focus ((repeat (first | go_skip | go_guarded | go_step | go_upon | go_back)); exact ⟨rfl, rfl, rfl⟩))
                first | refine pt_skip rfl rfl rfl rfl ?_ | (refine pt_take rfl rfl rfl rfl ?_; apply Exists.intro; refine ⟨fun w' hw' => ?_, ?_⟩; focus ((repeat (first | go_skip | go_guarded | go_step | go_upon | go_back)); exact ⟨rfl, rfl, rfl⟩))
                refine pt_take rfl rfl rfl rfl ?_
                apply Exists.intro
                refine ⟨fun w' hw' => ?_, ?_⟩
                · refine wp_run rfl (exec_loadA 25 rfl _ rfl 25 _ 32 5 (f_r9.past hw' lt_r) Tryd.underlying25 (by rw [info_dig, HUR.out])) ?_
                  exact ⟨rfl, rfl, rfl⟩
                first | refine pt_skip rfl rfl rfl rfl ?_ | (refine pt_take rfl rfl rfl rfl ?_; apply Exists.intro; refine ⟨fun w' hw' => ?_, ?_⟩; focus ((repeat (first | go_skip | go_guarded | go_step | go_upon | go_back)); exact ⟨rfl, rfl, rfl⟩))
                refine pt_take rfl rfl rfl rfl ?_
                apply Exists.intro
                refine ⟨fun w' hw' => ?_, ?_⟩
                · refine wp_run rfl (exec_loadR 31 rfl _ rfl 31 (sg i (.slice A 18 c) (.slice B 2 d)) _ (f_q9.past hw' lt_q) Tryd.underlying31 rfl (by rw [info_sig]; rfl)) ?_
                  exact ⟨rfl, rfl, rfl⟩
                refine pt_take rfl rfl rfl rfl ?_
                apply Exists.intro
                refine ⟨fun w' hw' => ?_, ?_⟩
                · refine wp_run rfl (exec_loadA 25 rfl _ rfl 25 _ 32 5 (f_x9.past hw' lt_x) Tryd.underlying25 (by rw [info_dig, HUX.out])) ?_
                  exact ⟨rfl, rfl, rfl⟩
                refine pt_take rfl rfl rfl rfl ?_
                apply Exists.intro
                refine ⟨fun w' hw' => ?_, ?_⟩
                · refine wp_run rfl (exec_loadA 25 rfl _ rfl 25 _ 32 5 (f_r9.past hw' lt_r) Tryd.underlying25 (by rw [info_dig, HUR.out])) ?_
                  exact ⟨rfl, rfl, rfl⟩
                refine pt_take rfl rfl rfl rfl ?_
                apply Exists.intro
                refine ⟨fun w' hw' => ?_, ?_⟩
                · refine wp_run rfl (exec_eqB rfl X r rfl rfl HXL.out HR.out Q HQ.out w') ?_
                  exact ⟨rfl, rfl, rfl⟩
                have hv2 := kverify_yes r l _ i A B c d F PP t9 HR.out f_m9 (by omega) hi3 f_c9 f_p9 f_k9
                rw [HCL.out, HQ.out] at hv2
                have HV2 := Lib.hid hv2
                clear hv2
                refine pt_step rfl ?_
                go_wp2_with fail
                refine (HV2.out).mono ?_
                rintro e t10 ⟨rfl, c10⟩
                go_wp2_with fail
                refine ⟨rfl, c10.mono f_zB9, ?_⟩
                have f_r10 := f_r9.past c10 f_r9.lt
                have f_q10 := f_q9.past c10 f_q9.lt
                have f_m10 := f_m9.past c10
                have f_k10 := f_k9.past c10
                have f_bel10 := f_bel9.trans (c10.mono f_bel9.size)
                have f_p10 := f_p9.past c10
                have f_c10 := f_c9.past c10
                have f_d10 := f_d9.past c10 f_d9.lt
                have f_x10 := f_x9.past c10 f_x9.lt
                have f_zB10 := Nat.le_trans f_zB9 c10.size
                clear f_r9 f_q9 f_m9 f_k9 f_bel9 f_p9 f_c9 f_d9 f_x9 f_zB9 c10
                clear HV2
                first | refine pt_skip rfl rfl rfl rfl ?_ | (refine pt_take rfl rfl rfl rfl ?_; apply Exists.intro; refine ⟨fun w' hw' => ?_, ?_⟩; focus ((repeat (first | go_skip | go_guarded | go_step | go_upon | go_back)); exact ⟨rfl, rfl, rfl⟩))
                first | refine pt_skip rfl rfl rfl rfl ?_ | (refine pt_take rfl rfl rfl rfl ?_; apply Exists.intro; refine ⟨fun w' hw' => ?_, ?_⟩; focus ((repeat (first | go_skip | go_guarded | go_step | go_upon | go_back)); exact ⟨rfl, rfl, rfl⟩))
                first | refine pt_skip rfl rfl rfl rfl ?_ | (refine pt_take rfl rfl rfl rfl ?_; apply Exists.intro; refine ⟨fun w' hw' => ?_, ?_⟩; focus ((repeat (first | go_skip | go_guarded | go_step | go_upon | go_back)); exact ⟨rfl, rfl, rfl⟩))
                change Exit.then _ _ Exit.normal _ _
                go_wp2
                go_ret
                rw [HGR.out] at *
                refine ⟨?_, f_bel10⟩
                first | rfl | (cases Q <;> rfl)
              · skip
                have s11 := Blk.new t3 25 (u8s z32)
                have d11 : Below t3.heap.size t3 (t3.alloc (.cells (u8s z32).toArray 25)) := (Below.refl _ _).alloc (Nat.le_refl _) _
                go_wp2_with fail
                refine ⟨rfl, d11.mono f_zB3, ?_⟩
                have f_r11 := f_r3.past d11 f_r3.lt
                have f_q11 := f_q3.past d11 f_q3.lt
                have f_m11 := f_m3.past d11
                have f_k11 := f_k3.past d11
                have f_bel11 := f_bel3.trans (d11.mono f_bel3.size)
                have f_p11 := f_p3.past d11
                have f_c11 := f_c3.past d11
                have f_zB11 := Nat.le_trans f_zB3 d11.size
                have m11 := d11
                have q11 := s11
                clear d11 s11
                refine pt_step rfl ?_
                go_wp2_with fail
                refine (HREC.out _ f_c11 f_k11).mono ?_
                rintro e t12 ⟨rfl, c12⟩
                go_wp2_with fail
                refine ⟨rfl, c12.mono f_zB11, ?_⟩
                have q12 := q11.past c12 q11.lt
                have m12 := m11.trans (c12.mono m11.size)
                clear q11 m11
                have f_r12 := f_r11.past c12 f_r11.lt
                have f_q12 := f_q11.past c12 f_q11.lt
                have f_m12 := f_m11.past c12
                have f_k12 := f_k11.past c12
                have f_bel12 := f_bel11.trans (c12.mono f_bel11.size)
                have f_p12 := f_p11.past c12
                have f_c12 := f_c11.past c12
                have f_zB12 := Nat.le_trans f_zB11 c12.size
                clear f_r11 f_q11 f_m11 f_k11 f_bel11 f_p11 f_c11 f_zB11 c12
                have e12 := f_zB12
                clear f_r12 f_q12 f_m12 f_k12 f_bel12 f_p12 f_c12 f_zB12
                first | refine pt_skip rfl rfl rfl rfl ?_ | (refine pt_take rfl rfl rfl rfl ?_; apply Exists.intro; refine ⟨fun w' hw' => ?_, ?_⟩; focus ((repeat (first | go_skip | go_guarded | go_step | go_upon | go_back)); exact ⟨rfl, rfl, rfl⟩))
                first | refine pt_skip rfl rfl rfl rfl ?_ | (refine pt_take rfl rfl rfl rfl ?_; apply Exists.intro; refine ⟨fun w' hw' => ?_, ?_⟩; focus ((repeat (first | go_skip | go_guarded | go_step | go_upon | go_back)); exact ⟨rfl, rfl, rfl⟩))
                first | refine pt_skip rfl rfl rfl rfl ?_ | (refine pt_take rfl rfl rfl rfl ?_; apply Exists.intro; refine ⟨fun w' hw' => ?_, ?_⟩; focus ((repeat (first | go_skip | go_guarded | go_step | go_upon | go_back)); exact ⟨rfl, rfl, rfl⟩))
                refine pt_step rfl ?_
                have s12 := q12
                clear q12
                have zpre12 := f_zB3
                go_wp2_with (refine wp_storeA 25 (.tmp 7) (.tmp 44) rfl rfl t3.heap.size rfl 25 (u8s z32) (u8s D) rfl s12 (by rw [info_dig, HUD.out]) (by first | (rw [HUD.out]; rfl) | rfl) (u8s_one _) rfl ?_; intro y12 h12 k12)
                have f12 : Below t3.heap.size t3 y12 := (m12).trans ((k12.mono (O' := fun q => q < t3.heap.size) (fun q hq => by omega)).below (fun q hq => hq) (m12).size)
                refine ⟨rfl, (k12.mono (O' := fun q => q < t3.heap.size) (fun q hq => by omega)).below (fun q hq => by have := f_zB3; omega) (e12), ?_⟩
                have f_r12 := f_r3.past f12 f_r3.lt
                have f_q12 := f_q3.past f12 f_q3.lt
                have f_m12 := f_m3.past f12
                have f_k12 := f_k3.past f12
                have f_bel12 := f_bel3.trans (f12.mono f_bel3.size)
                have f_p12 := f_p3.past f12
                have f_c12 := f_c3.past f12
                have f_zB12 := Nat.le_trans f_zB3 f12.size
                clear f_r3 f_q3 f_m3 f_k3 f_bel3 f_p3 f_c3 f_zB3 k12 f12 m12 e12 s12
                obtain ⟨gd, hgd⟩ : ∃ g, g = t3.heap.size := ⟨_, rfl⟩
                have zg_d := zpre12
                rw [← hgd] at h12 zg_d ⊢
                clear hgd
                first | refine pt_skip rfl rfl rfl rfl ?_ | (refine pt_take rfl rfl rfl rfl ?_; apply Exists.intro; refine ⟨fun w' hw' => ?_, ?_⟩; focus ((repeat (first | go_skip | go_guarded | go_step | go_upon | go_back)); exact ⟨rfl, rfl, rfl⟩))
                change Exit.then _ _ Exit.normal _ _
                clear f_zB12
                have e0 : y12.cell? ⟨gq, 0, none⟩ = some (.int .i64 (i : Int)) := Blk.cell f_q12 (j := 0) rfl
                have e2 : y12.cell? ⟨gq, 2, none⟩ = some (.slice B 2 d) := Blk.cell f_q12 (j := 2) rfl
                have HC13 := Lib.hid (climb_yes _ D PP 2 i y12 f_p12 HDL.out (by decide) (by omega) f_k12)
                go_wp2_with (first | (refine wp_run rfl (exec_loadA 25 rfl gd rfl 25 _ 32 5 h12 Tryd.underlying25 (by rw [info_dig, HUD.out])) ?_))
                refine HC13.out.mono ?_
                rintro e v13 ⟨rfl, b13⟩
                clear e0 e2
                have f_r13 := f_r12.past b13 f_r12.lt
                have f_q13 := f_q12.past b13 f_q12.lt
                have f_m13 := f_m12.past b13
                have f_k13 := f_k12.past b13
                have f_bel13 := f_bel12.trans (b13.mono f_bel12.size)
                have f_p13 := f_p12.past b13
                have f_c13 := f_c12.past b13
                have f_d13 := h12.past b13 h12.lt
                clear f_r12 f_q12 f_m12 f_k12 f_bel12 f_p12 f_c12 h12 HC13 b13
                rw [← HX.out]
                have x14 := Blk.new v13 25 (u8s z32)
                have bx14 : Below v13.heap.size v13 (v13.alloc (.cells (u8s z32).toArray 25)) := (Below.refl _ _).alloc (Nat.le_refl _) _
                go_upto_region 7 with (refine wp_storeA 25 (.tmp 9) (.tmp 53) rfl rfl v13.heap.size rfl 25 (u8s z32) _ rfl x14 (by rw [info_dig, HUX.out]) (by first | (rw [HUX.out]; rfl) | rfl) (u8s_one _) rfl ?_; intro y14 h14 k14)
                have bb14 : Below v13.heap.size v13 y14 := ((Keep.of_below bx14).trans (k14.mono (O' := fun q => q < v13.heap.size) (fun q hq => by omega))).below (fun q hq => hq) (Nat.le_refl _)
                have f_r14 := f_r13.past bb14 f_r13.lt
                have f_q14 := f_q13.past bb14 f_q13.lt
                have f_m14 := f_m13.past bb14
                have f_k14 := f_k13.past bb14
                have f_bel14 := f_bel13.trans (bb14.mono f_bel13.size)
                have f_p14 := f_p13.past bb14
                have f_c14 := f_c13.past bb14
                have f_d14 := f_d13.past bb14 f_d13.lt
                clear f_r13 f_q13 f_m13 f_k13 f_bel13 f_p13 f_c13 f_d13 x14 bx14 k14 bb14
                obtain ⟨gx, hgx⟩ : ∃ g, g = v13.heap.size := ⟨_, rfl⟩
                rw [← hgx] at h14 ⊢
                clear hgx
                clear hz
                have lt_x := Blk.lt h14
                have lt_r := Blk.lt f_r14
                have lt_q := Blk.lt f_q14
                refine wp_region_pt (y14.heap.size) (.take 0 (.take 1 (.take 2 (.take 3 (.take 4 (.take 5 (.take 6 (.take 7 (.take 8 (.take 9 (.step 10 (.take 11 (.take 12 (.take 13 (.take 14 (.take 15 (.take 17 (.take 18 (.take 19 (.step 16 (.take 20 (.take 21 (.take 22 .done))))))))))))))))))))))) (by kernel_rfl) (by kernel_rfl) (by kernel_rfl) (fun _ _ h => h) ?_
                have bd15 : Below y14.heap.size y14 y14.drew := (Below.refl _ _).drew
                have zB15 : y14.heap.size ≤ y14.drew.heap.size := bd15.size
                have f_r15 := f_r14.past bd15 f_r14.lt
                have f_q15 := f_q14.past bd15 f_q14.lt
                have f_m15 := f_m14.past bd15
                have f_k15 := f_k14.past bd15
                have f_bel15 := f_bel14.trans (bd15.mono f_bel14.size)
                have f_p15 := f_p14.past bd15
                have f_c15 := f_c14.past bd15
                have f_d15 := f_d14.past bd15 f_d14.lt
                have f_x15 := h14.past bd15 h14.lt
                clear f_r14 f_q14 f_m14 f_k14 f_bel14 f_p14 f_c14 f_d14 h14
                obtain ⟨u15, hu15⟩ : ∃ u, u = y14.drew := ⟨_, rfl⟩
                rw [← hu15] at f_r15 f_q15 f_m15 f_k15 f_bel15 f_p15 f_c15 f_d15 f_x15 zB15 bd15 ⊢
                clear hu15 bd15
                first | refine pt_skip rfl rfl rfl rfl ?_ | (refine pt_take rfl rfl rfl rfl ?_; apply Exists.intro; refine ⟨fun w' hw' => ?_, ?_⟩; focus ((repeat (first | go_skip | go_guarded | go_step | go_upon | go_back)); exact ⟨rfl, rfl, rfl⟩))
                first | refine pt_skip rfl rfl rfl rfl ?_ | (refine pt_take rfl rfl rfl rfl ?_; apply Exists.intro; refine ⟨fun w' hw' => ?_, ?_⟩; focus ((repeat (first | go_skip | go_guarded | go_step | go_upon | go_back)); exact ⟨rfl, rfl, rfl⟩))
                first | refine pt_skip rfl rfl rfl rfl ?_ | (refine pt_take rfl rfl rfl rfl ?_; apply Exists.intro; refine ⟨fun w' hw' => ?_, ?_⟩; focus ((repeat (first | go_skip | go_guarded | go_step | go_upon | go_back)); exact ⟨rfl, rfl, rfl⟩))
                first | refine pt_skip rfl rfl rfl rfl ?_ | (refine pt_take rfl rfl rfl rfl ?_; apply Exists.intro; refine ⟨fun w' hw' => ?_, ?_⟩; focus ((repeat (first | go_skip | go_guarded | go_step | go_upon | go_back)); exact ⟨rfl, rfl, rfl⟩))
                first | refine pt_skip rfl rfl rfl rfl ?_ | (refine pt_take rfl rfl rfl rfl ?_; apply Exists.intro; refine ⟨fun w' hw' => ?_, ?_⟩; focus ((repeat (first | go_skip | go_guarded | go_step | go_upon | go_back)); exact ⟨rfl, rfl, rfl⟩))
                first | refine pt_skip rfl rfl rfl rfl ?_ | (refine pt_take rfl rfl rfl rfl ?_; apply Exists.intro; refine ⟨fun w' hw' => ?_, ?_⟩; focus ((repeat (first | go_skip | go_guarded | go_step | go_upon | go_back)); exact ⟨rfl, rfl, rfl⟩))
                first | refine pt_skip rfl rfl rfl rfl ?_ | (refine pt_take rfl rfl rfl rfl ?_; apply Exists.intro; refine ⟨fun w' hw' => ?_, ?_⟩; focus ((repeat (first | go_skip | go_guarded | go_step | go_upon | go_back)); exact ⟨rfl, rfl, rfl⟩))
                refine pt_take rfl rfl rfl rfl ?_
                apply Exists.intro
                refine ⟨fun w' hw' => ?_, ?_⟩
                · refine wp_run rfl (exec_loadA 25 rfl _ rfl 25 _ 32 5 (f_x15.past hw' lt_x) Tryd.underlying25 (by rw [info_dig, HUX.out])) ?_
                  exact ⟨rfl, rfl, rfl⟩
                first | refine pt_skip rfl rfl rfl rfl ?_ | (refine pt_take rfl rfl rfl rfl ?_; apply Exists.intro; refine ⟨fun w' hw' => ?_, ?_⟩; focus ((repeat (first | go_skip | go_guarded | go_step | go_upon | go_back)); exact ⟨rfl, rfl, rfl⟩))
                refine pt_take rfl rfl rfl rfl ?_
                apply Exists.intro
                refine ⟨fun w' hw' => ?_, ?_⟩
                · refine wp_run rfl (exec_loadR 31 rfl _ rfl 31 (sg i (.slice A 18 c) (.slice B 2 d)) _ (f_q15.past hw' lt_q) Tryd.underlying31 rfl (by rw [info_sig]; rfl)) ?_
                  exact ⟨rfl, rfl, rfl⟩
                have hv1 := kverify_yes X l _ i A B c d F PP u15 HXL.out f_m15 (by omega) hi3 f_c15 f_p15 f_k15
                rw [HCL.out, beq_self_eq_true] at hv1
                have HV1 := Lib.hid hv1
                clear hv1
                refine pt_step rfl ?_
                go_wp2_with fail
                refine (HV1.out).mono ?_
                rintro e t16 ⟨rfl, c16⟩
                go_wp2_with fail
                refine ⟨rfl, c16.mono zB15, ?_⟩
                have f_r16 := f_r15.past c16 f_r15.lt
                have f_q16 := f_q15.past c16 f_q15.lt
                have f_m16 := f_m15.past c16
                have f_k16 := f_k15.past c16
                have f_bel16 := f_bel15.trans (c16.mono f_bel15.size)
                have f_p16 := f_p15.past c16
                have f_c16 := f_c15.past c16
                have f_d16 := f_d15.past c16 f_d15.lt
                have f_x16 := f_x15.past c16 f_x15.lt
                have f_zB16 := Nat.le_trans zB15 c16.size
                clear f_r15 f_q15 f_m15 f_k15 f_bel15 f_p15 f_c15 f_d15 f_x15 zB15 c16
                clear HV1
                first | refine pt_skip rfl rfl rfl rfl ?_ | (refine pt_take rfl rfl rfl rfl ?_; apply Exists.intro; refine ⟨fun w' hw' => ?_, ?_⟩; focus ((repeat (first | go_skip | go_guarded | go_step | go_upon | go_back)); exact ⟨rfl, rfl, rfl⟩))
                first | refine pt_skip rfl rfl rfl rfl ?_ | (refine pt_take rfl rfl rfl rfl ?_; apply Exists.intro; refine ⟨fun w' hw' => ?_, ?_⟩; focus ((repeat (first | go_skip | go_guarded | go_step | go_upon | go_back)); exact ⟨rfl, rfl, rfl⟩))
                refine pt_take rfl rfl rfl rfl ?_
                apply Exists.intro
                refine ⟨fun w' hw' => ?_, ?_⟩
                · refine wp_run rfl (exec_loadA 25 rfl _ rfl 25 _ 32 5 (f_r16.past hw' lt_r) Tryd.underlying25 (by rw [info_dig, HUR.out])) ?_
                  exact ⟨rfl, rfl, rfl⟩
                first | refine pt_skip rfl rfl rfl rfl ?_ | (refine pt_take rfl rfl rfl rfl ?_; apply Exists.intro; refine ⟨fun w' hw' => ?_, ?_⟩; focus ((repeat (first | go_skip | go_guarded | go_step | go_upon | go_back)); exact ⟨rfl, rfl, rfl⟩))
                refine pt_take rfl rfl rfl rfl ?_
                apply Exists.intro
                refine ⟨fun w' hw' => ?_, ?_⟩
                · refine wp_run rfl (exec_loadR 31 rfl _ rfl 31 (sg i (.slice A 18 c) (.slice B 2 d)) _ (f_q16.past hw' lt_q) Tryd.underlying31 rfl (by rw [info_sig]; rfl)) ?_
                  exact ⟨rfl, rfl, rfl⟩
                refine pt_take rfl rfl rfl rfl ?_
                apply Exists.intro
                refine ⟨fun w' hw' => ?_, ?_⟩
                · refine wp_run rfl (exec_loadA 25 rfl _ rfl 25 _ 32 5 (f_x16.past hw' lt_x) Tryd.underlying25 (by rw [info_dig, HUX.out])) ?_
                  exact ⟨rfl, rfl, rfl⟩
                refine pt_take rfl rfl rfl rfl ?_
                apply Exists.intro
                refine ⟨fun w' hw' => ?_, ?_⟩
                · refine wp_run rfl (exec_loadA 25 rfl _ rfl 25 _ 32 5 (f_r16.past hw' lt_r) Tryd.underlying25 (by rw [info_dig, HUR.out])) ?_
                  exact ⟨rfl, rfl, rfl⟩
                refine pt_take rfl rfl rfl rfl ?_
                apply Exists.intro
                refine ⟨fun w' hw' => ?_, ?_⟩
                · refine wp_run rfl (exec_eqB rfl X r rfl rfl HXL.out HR.out Q HQ.out w') ?_
                  exact ⟨rfl, rfl, rfl⟩
                have hv2 := kverify_yes r l _ i A B c d F PP t16 HR.out f_m16 (by omega) hi3 f_c16 f_p16 f_k16
                rw [HCL.out, HQ.out] at hv2
                have HV2 := Lib.hid hv2
                clear hv2
                refine pt_step rfl ?_
                go_wp2_with fail
                refine (HV2.out).mono ?_
                rintro e t17 ⟨rfl, c17⟩
                go_wp2_with fail
                refine ⟨rfl, c17.mono f_zB16, ?_⟩
                have f_r17 := f_r16.past c17 f_r16.lt
                have f_q17 := f_q16.past c17 f_q16.lt
                have f_m17 := f_m16.past c17
                have f_k17 := f_k16.past c17
                have f_bel17 := f_bel16.trans (c17.mono f_bel16.size)
                have f_p17 := f_p16.past c17
                have f_c17 := f_c16.past c17
                have f_d17 := f_d16.past c17 f_d16.lt
                have f_x17 := f_x16.past c17 f_x16.lt
                have f_zB17 := Nat.le_trans f_zB16 c17.size
                clear f_r16 f_q16 f_m16 f_k16 f_bel16 f_p16 f_c16 f_d16 f_x16 f_zB16 c17
                clear HV2
                first | refine pt_skip rfl rfl rfl rfl ?_ | (refine pt_take rfl rfl rfl rfl ?_; apply Exists.intro; refine ⟨fun w' hw' => ?_, ?_⟩; focus ((repeat (first | go_skip | go_guarded | go_step | go_upon | go_back)); exact ⟨rfl, rfl, rfl⟩))
                first | refine pt_skip rfl rfl rfl rfl ?_ | (refine pt_take rfl rfl rfl rfl ?_; apply Exists.intro; refine ⟨fun w' hw' => ?_, ?_⟩; focus ((repeat (first | go_skip | go_guarded | go_step | go_upon | go_back)); exact ⟨rfl, rfl, rfl⟩))
                first | refine pt_skip rfl rfl rfl rfl ?_ | (refine pt_take rfl rfl rfl rfl ?_; apply Exists.intro; refine ⟨fun w' hw' => ?_, ?_⟩; focus ((repeat (first | go_skip | go_guarded | go_step | go_upon | go_back)); exact ⟨rfl, rfl, rfl⟩))
                change Exit.then _ _ Exit.normal _ _
                go_wp2
                go_ret
                rw [HGR.out] at *
                refine ⟨?_, f_bel17⟩
                first | rfl | (cases Q <;> rfl)
            · skip
              have s18 := Blk.new u2 25 (u8s z32)
              have d18 : Below u2.heap.size u2 (u2.alloc (.cells (u8s z32).toArray 25)) := (Below.refl _ _).alloc (Nat.le_refl _) _
              go_wp2_with fail
              refine ⟨rfl, d18.mono zB2, ?_⟩
              have f_r18 := f_r2.past d18 f_r2.lt
              have f_q18 := f_q2.past d18 f_q2.lt
              have f_m18 := f_m2.past d18
              have f_k18 := f_k2.past d18
              have f_bel18 := f_bel2.trans (d18.mono f_bel2.size)
              have f_p18 := f_p2.past d18
              have f_c18 := f_c2.past d18
              have f_zB18 := Nat.le_trans zB2 d18.size
              have m18 := d18
              have q18 := s18
              clear d18 s18
              refine pt_step rfl ?_
              go_wp2_with fail
              refine (HMSG.out _ f_m18 f_k18).mono ?_
              rintro e t19 ⟨rfl, c19⟩
              go_wp2_with fail
              refine ⟨rfl, c19.mono f_zB18, ?_⟩
              have q19 := q18.past c19 q18.lt
              have m19 := m18.trans (c19.mono m18.size)
              clear q18 m18
              have f_r19 := f_r18.past c19 f_r18.lt
              have f_q19 := f_q18.past c19 f_q18.lt
              have f_m19 := f_m18.past c19
              have f_k19 := f_k18.past c19
              have f_bel19 := f_bel18.trans (c19.mono f_bel18.size)
              have f_p19 := f_p18.past c19
              have f_c19 := f_c18.past c19
              have f_zB19 := Nat.le_trans f_zB18 c19.size
              clear f_r18 f_q18 f_m18 f_k18 f_bel18 f_p18 f_c18 f_zB18 c19
              refine pt_step rfl ?_
              go_wp2_with fail
              refine (HREC.out _ f_c19 f_k19).mono ?_
              rintro e t20 ⟨rfl, c20⟩
              go_wp2_with fail
              refine ⟨rfl, c20.mono f_zB19, ?_⟩
              have q20 := q19.past c20 q19.lt
              have m20 := m19.trans (c20.mono m19.size)
              clear q19 m19
              have f_r20 := f_r19.past c20 f_r19.lt
              have f_q20 := f_q19.past c20 f_q19.lt
              have f_m20 := f_m19.past c20
              have f_k20 := f_k19.past c20
              have f_bel20 := f_bel19.trans (c20.mono f_bel19.size)
              have f_p20 := f_p19.past c20
              have f_c20 := f_c19.past c20
              have f_zB20 := Nat.le_trans f_zB19 c20.size
              clear f_r19 f_q19 f_m19 f_k19 f_bel19 f_p19 f_c19 f_zB19 c20
              have e20 := f_zB20
              clear f_r20 f_q20 f_m20 f_k20 f_bel20 f_p20 f_c20 f_zB20
              first | refine pt_skip rfl rfl rfl rfl ?_ | (refine pt_take rfl rfl rfl rfl ?_; apply Exists.intro; refine ⟨fun w' hw' => ?_, ?_⟩; focus ((repeat (first | go_skip | go_guarded | go_step | go_upon | go_back)); exact ⟨rfl, rfl, rfl⟩))
              first | refine pt_skip rfl rfl rfl rfl ?_ | (refine pt_take rfl rfl rfl rfl ?_; apply Exists.intro; refine ⟨fun w' hw' => ?_, ?_⟩; focus ((repeat (first | go_skip | go_guarded | go_step | go_upon | go_back)); exact ⟨rfl, rfl, rfl⟩))
              first | refine pt_skip rfl rfl rfl rfl ?_ | (refine pt_take rfl rfl rfl rfl ?_; apply Exists.intro; refine ⟨fun w' hw' => ?_, ?_⟩; focus ((repeat (first | go_skip | go_guarded | go_step | go_upon | go_back)); exact ⟨rfl, rfl, rfl⟩))
              refine pt_step rfl ?_
              have s20 := q20
              clear q20
              have zpre20 := zB2
              go_wp2_with (refine wp_storeA 25 (.tmp 7) (.tmp 44) rfl rfl u2.heap.size rfl 25 (u8s z32) (u8s D) rfl s20 (by rw [info_dig, HUD.out]) (by first | (rw [HUD.out]; rfl) | rfl) (u8s_one _) rfl ?_; intro y20 h20 k20)
              have f20 : Below u2.heap.size u2 y20 := (m20).trans ((k20.mono (O' := fun q => q < u2.heap.size) (fun q hq => by omega)).below (fun q hq => hq) (m20).size)
              refine ⟨rfl, (k20.mono (O' := fun q => q < u2.heap.size) (fun q hq => by omega)).below (fun q hq => by have := zB2; omega) (e20), ?_⟩
              have f_r20 := f_r2.past f20 f_r2.lt
              have f_q20 := f_q2.past f20 f_q2.lt
              have f_m20 := f_m2.past f20
              have f_k20 := f_k2.past f20
              have f_bel20 := f_bel2.trans (f20.mono f_bel2.size)
              have f_p20 := f_p2.past f20
              have f_c20 := f_c2.past f20
              have f_zB20 := Nat.le_trans zB2 f20.size
              clear f_r2 f_q2 f_m2 f_k2 f_bel2 f_p2 f_c2 zB2 k20 f20 m20 e20 s20
              obtain ⟨gd, hgd⟩ : ∃ g, g = u2.heap.size := ⟨_, rfl⟩
              have zg_d := zpre20
              rw [← hgd] at h20 zg_d ⊢
              clear hgd
              first | refine pt_skip rfl rfl rfl rfl ?_ | (refine pt_take rfl rfl rfl rfl ?_; apply Exists.intro; refine ⟨fun w' hw' => ?_, ?_⟩; focus ((repeat (first | go_skip | go_guarded | go_step | go_upon | go_back)); exact ⟨rfl, rfl, rfl⟩))
              change Exit.then _ _ Exit.normal _ _
              clear f_zB20
              have e0 : y20.cell? ⟨gq, 0, none⟩ = some (.int .i64 (i : Int)) := Blk.cell f_q20 (j := 0) rfl
              have e2 : y20.cell? ⟨gq, 2, none⟩ = some (.slice B 2 d) := Blk.cell f_q20 (j := 2) rfl
              have HC21 := Lib.hid (climb_yes _ D PP 2 i y20 f_p20 HDL.out (by decide) (by omega) f_k20)
              go_wp2_with (first | (refine wp_run rfl (exec_loadA 25 rfl gd rfl 25 _ 32 5 h20 Tryd.underlying25 (by rw [info_dig, HUD.out])) ?_))
              refine HC21.out.mono ?_
              rintro e v21 ⟨rfl, b21⟩
              clear e0 e2
              have f_r21 := f_r20.past b21 f_r20.lt
              have f_q21 := f_q20.past b21 f_q20.lt
              have f_m21 := f_m20.past b21
              have f_k21 := f_k20.past b21
              have f_bel21 := f_bel20.trans (b21.mono f_bel20.size)
              have f_p21 := f_p20.past b21
              have f_c21 := f_c20.past b21
              have f_d21 := h20.past b21 h20.lt
              clear f_r20 f_q20 f_m20 f_k20 f_bel20 f_p20 f_c20 h20 HC21 b21
              rw [← HX.out]
              have x22 := Blk.new v21 25 (u8s z32)
              have bx22 : Below v21.heap.size v21 (v21.alloc (.cells (u8s z32).toArray 25)) := (Below.refl _ _).alloc (Nat.le_refl _) _
              go_upto_region 7 with (refine wp_storeA 25 (.tmp 9) (.tmp 53) rfl rfl v21.heap.size rfl 25 (u8s z32) _ rfl x22 (by rw [info_dig, HUX.out]) (by first | (rw [HUX.out]; rfl) | rfl) (u8s_one _) rfl ?_; intro y22 h22 k22)
              have bb22 : Below v21.heap.size v21 y22 := ((Keep.of_below bx22).trans (k22.mono (O' := fun q => q < v21.heap.size) (fun q hq => by omega))).below (fun q hq => hq) (Nat.le_refl _)
              have f_r22 := f_r21.past bb22 f_r21.lt
              have f_q22 := f_q21.past bb22 f_q21.lt
              have f_m22 := f_m21.past bb22
              have f_k22 := f_k21.past bb22
              have f_bel22 := f_bel21.trans (bb22.mono f_bel21.size)
              have f_p22 := f_p21.past bb22
              have f_c22 := f_c21.past bb22
              have f_d22 := f_d21.past bb22 f_d21.lt
              clear f_r21 f_q21 f_m21 f_k21 f_bel21 f_p21 f_c21 f_d21 x22 bx22 k22 bb22
              obtain ⟨gx, hgx⟩ : ∃ g, g = v21.heap.size := ⟨_, rfl⟩
              rw [← hgx] at h22 ⊢
              clear hgx
              clear hz
              have lt_x := Blk.lt h22
              have lt_r := Blk.lt f_r22
              have lt_q := Blk.lt f_q22
              refine wp_region_pt (y22.heap.size) (.take 0 (.take 1 (.take 2 (.take 3 (.take 4 (.take 5 (.take 6 (.take 7 (.take 8 (.take 9 (.step 10 (.take 11 (.take 12 (.take 13 (.take 14 (.take 15 (.take 17 (.take 18 (.take 19 (.step 16 (.take 20 (.take 21 (.take 22 .done))))))))))))))))))))))) (by kernel_rfl) (by kernel_rfl) (by kernel_rfl) (fun _ _ h => h) ?_
              have bd23 : Below y22.heap.size y22 y22.drew := (Below.refl _ _).drew
              have zB23 : y22.heap.size ≤ y22.drew.heap.size := bd23.size
              have f_r23 := f_r22.past bd23 f_r22.lt
              have f_q23 := f_q22.past bd23 f_q22.lt
              have f_m23 := f_m22.past bd23
              have f_k23 := f_k22.past bd23
              have f_bel23 := f_bel22.trans (bd23.mono f_bel22.size)
              have f_p23 := f_p22.past bd23
              have f_c23 := f_c22.past bd23
              have f_d23 := f_d22.past bd23 f_d22.lt
              have f_x23 := h22.past bd23 h22.lt
              clear f_r22 f_q22 f_m22 f_k22 f_bel22 f_p22 f_c22 f_d22 h22
              obtain ⟨u23, hu23⟩ : ∃ u, u = y22.drew := ⟨_, rfl⟩
              rw [← hu23] at f_r23 f_q23 f_m23 f_k23 f_bel23 f_p23 f_c23 f_d23 f_x23 zB23 bd23 ⊢
              clear hu23 bd23
              first | refine pt_skip rfl rfl rfl rfl ?_ | (refine pt_take rfl rfl rfl rfl ?_; apply Exists.intro; refine ⟨fun w' hw' => ?_, ?_⟩; focus ((repeat (first | go_skip | go_guarded | go_step | go_upon | go_back)); exact ⟨rfl, rfl, rfl⟩))
              first | refine pt_skip rfl rfl rfl rfl ?_ | (refine pt_take rfl rfl rfl rfl ?_; apply Exists.intro; refine ⟨fun w' hw' => ?_, ?_⟩; focus ((repeat (first | go_skip | go_guarded | go_step | go_upon | go_back)); exact ⟨rfl, rfl, rfl⟩))
              first | refine pt_skip rfl rfl rfl rfl ?_ | (refine pt_take rfl rfl rfl rfl ?_; apply Exists.intro; refine ⟨fun w' hw' => ?_, ?_⟩; focus ((repeat (first | go_skip | go_guarded | go_step | go_upon | go_back)); exact ⟨rfl, rfl, rfl⟩))
              first | refine pt_skip rfl rfl rfl rfl ?_ | (refine pt_take rfl rfl rfl rfl ?_; apply Exists.intro; refine ⟨fun w' hw' => ?_, ?_⟩; focus ((repeat (first | go_skip | go_guarded | go_step | go_upon | go_back)); exact ⟨rfl, rfl, rfl⟩))
              first | refine pt_skip rfl rfl rfl rfl ?_ | (refine pt_take rfl rfl rfl rfl ?_; apply Exists.intro; refine ⟨fun w' hw' => ?_, ?_⟩; focus ((repeat (first | go_skip | go_guarded | go_step | go_upon | go_back)); exact ⟨rfl, rfl, rfl⟩))
              first | refine pt_skip rfl rfl rfl rfl ?_ | (refine pt_take rfl rfl rfl rfl ?_; apply Exists.intro; refine ⟨fun w' hw' => ?_, ?_⟩; focus ((repeat (first | go_skip | go_guarded | go_step | go_upon | go_back)); exact ⟨rfl, rfl, rfl⟩))
              first | refine pt_skip rfl rfl rfl rfl ?_ | (refine pt_take rfl rfl rfl rfl ?_; apply Exists.intro; refine ⟨fun w' hw' => ?_, ?_⟩; focus ((repeat (first | go_skip | go_guarded | go_step | go_upon | go_back)); exact ⟨rfl, rfl, rfl⟩))
              refine pt_take rfl rfl rfl rfl ?_
              apply Exists.intro
              refine ⟨fun w' hw' => ?_, ?_⟩
              · refine wp_run rfl (exec_loadA 25 rfl _ rfl 25 _ 32 5 (f_x23.past hw' lt_x) Tryd.underlying25 (by rw [info_dig, HUX.out])) ?_
                exact ⟨rfl, rfl, rfl⟩
              first | refine pt_skip rfl rfl rfl rfl ?_ | (refine pt_take rfl rfl rfl rfl ?_; apply Exists.intro; refine ⟨fun w' hw' => ?_, ?_⟩; focus ((repeat (first | go_skip | go_guarded | go_step | go_upon | go_back)); exact ⟨rfl, rfl, rfl⟩))
              refine pt_take rfl rfl rfl rfl ?_
              apply Exists.intro
              refine ⟨fun w' hw' => ?_, ?_⟩
              · refine wp_run rfl (exec_loadR 31 rfl _ rfl 31 (sg i (.slice A 18 c) (.slice B 2 d)) _ (f_q23.past hw' lt_q) Tryd.underlying31 rfl (by rw [info_sig]; rfl)) ?_
                exact ⟨rfl, rfl, rfl⟩
              have hv1 := kverify_yes X l _ i A B c d F PP u23 HXL.out f_m23 (by omega) hi3 f_c23 f_p23 f_k23
              rw [HCL.out, beq_self_eq_true] at hv1
              have HV1 := Lib.hid hv1
              clear hv1
              refine pt_step rfl ?_
              go_wp2_with fail
              refine (HV1.out).mono ?_
              rintro e t24 ⟨rfl, c24⟩
              go_wp2_with fail
              refine ⟨rfl, c24.mono zB23, ?_⟩
              have f_r24 := f_r23.past c24 f_r23.lt
              have f_q24 := f_q23.past c24 f_q23.lt
              have f_m24 := f_m23.past c24
              have f_k24 := f_k23.past c24
              have f_bel24 := f_bel23.trans (c24.mono f_bel23.size)
              have f_p24 := f_p23.past c24
              have f_c24 := f_c23.past c24
              have f_d24 := f_d23.past c24 f_d23.lt
              have f_x24 := f_x23.past c24 f_x23.lt
              have f_zB24 := Nat.le_trans zB23 c24.size
              clear f_r23 f_q23 f_m23 f_k23 f_bel23 f_p23 f_c23 f_d23 f_x23 zB23 c24
              clear HV1
              first | refine pt_skip rfl rfl rfl rfl ?_ | (refine pt_take rfl rfl rfl rfl ?_; apply Exists.intro; refine ⟨fun w' hw' => ?_, ?_⟩; focus ((repeat (first | go_skip | go_guarded | go_step | go_upon | go_back)); exact ⟨rfl, rfl, rfl⟩))
              first | refine pt_skip rfl rfl rfl rfl ?_ | (refine pt_take rfl rfl rfl rfl ?_; apply Exists.intro; refine ⟨fun w' hw' => ?_, ?_⟩; focus ((repeat (first | go_skip | go_guarded | go_step | go_upon | go_back)); exact ⟨rfl, rfl, rfl⟩))
              refine pt_take rfl rfl rfl rfl ?_
              apply Exists.intro
              refine ⟨fun w' hw' => ?_, ?_⟩
              · refine wp_run rfl (exec_loadA 25 rfl _ rfl 25 _ 32 5 (f_r24.past hw' lt_r) Tryd.underlying25 (by rw [info_dig, HUR.out])) ?_
                exact ⟨rfl, rfl, rfl⟩
              first | refine pt_skip rfl rfl rfl rfl ?_ | (refine pt_take rfl rfl rfl rfl ?_; apply Exists.intro; refine ⟨fun w' hw' => ?_, ?_⟩; focus ((repeat (first | go_skip | go_guarded | go_step | go_upon | go_back)); exact ⟨rfl, rfl, rfl⟩))
              refine pt_take rfl rfl rfl rfl ?_
              apply Exists.intro
              refine ⟨fun w' hw' => ?_, ?_⟩
              · refine wp_run rfl (exec_loadR 31 rfl _ rfl 31 (sg i (.slice A 18 c) (.slice B 2 d)) _ (f_q24.past hw' lt_q) Tryd.underlying31 rfl (by rw [info_sig]; rfl)) ?_
                exact ⟨rfl, rfl, rfl⟩
              refine pt_take rfl rfl rfl rfl ?_
              apply Exists.intro
              refine ⟨fun w' hw' => ?_, ?_⟩
              · refine wp_run rfl (exec_loadA 25 rfl _ rfl 25 _ 32 5 (f_x24.past hw' lt_x) Tryd.underlying25 (by rw [info_dig, HUX.out])) ?_
                exact ⟨rfl, rfl, rfl⟩
              refine pt_take rfl rfl rfl rfl ?_
              apply Exists.intro
              refine ⟨fun w' hw' => ?_, ?_⟩
              · refine wp_run rfl (exec_loadA 25 rfl _ rfl 25 _ 32 5 (f_r24.past hw' lt_r) Tryd.underlying25 (by rw [info_dig, HUR.out])) ?_
                exact ⟨rfl, rfl, rfl⟩
              refine pt_take rfl rfl rfl rfl ?_
              apply Exists.intro
              refine ⟨fun w' hw' => ?_, ?_⟩
              · refine wp_run rfl (exec_eqB rfl X r rfl rfl HXL.out HR.out Q HQ.out w') ?_
                exact ⟨rfl, rfl, rfl⟩
              have hv2 := kverify_yes r l _ i A B c d F PP t24 HR.out f_m24 (by omega) hi3 f_c24 f_p24 f_k24
              rw [HCL.out, HQ.out] at hv2
              have HV2 := Lib.hid hv2
              clear hv2
              refine pt_step rfl ?_
              go_wp2_with fail
              refine (HV2.out).mono ?_
              rintro e t25 ⟨rfl, c25⟩
              go_wp2_with fail
              refine ⟨rfl, c25.mono f_zB24, ?_⟩
              have f_r25 := f_r24.past c25 f_r24.lt
              have f_q25 := f_q24.past c25 f_q24.lt
              have f_m25 := f_m24.past c25
              have f_k25 := f_k24.past c25
              have f_bel25 := f_bel24.trans (c25.mono f_bel24.size)
              have f_p25 := f_p24.past c25
              have f_c25 := f_c24.past c25
              have f_d25 := f_d24.past c25 f_d24.lt
              have f_x25 := f_x24.past c25 f_x24.lt
              have f_zB25 := Nat.le_trans f_zB24 c25.size
              clear f_r24 f_q24 f_m24 f_k24 f_bel24 f_p24 f_c24 f_d24 f_x24 f_zB24 c25
              clear HV2
              first | refine pt_skip rfl rfl rfl rfl ?_ | (refine pt_take rfl rfl rfl rfl ?_; apply Exists.intro; refine ⟨fun w' hw' => ?_, ?_⟩; focus ((repeat (first | go_skip | go_guarded | go_step | go_upon | go_back)); exact ⟨rfl, rfl, rfl⟩))
              first | refine pt_skip rfl rfl rfl rfl ?_ | (refine pt_take rfl rfl rfl rfl ?_; apply Exists.intro; refine ⟨fun w' hw' => ?_, ?_⟩; focus ((repeat (first | go_skip | go_guarded | go_step | go_upon | go_back)); exact ⟨rfl, rfl, rfl⟩))
              first | refine pt_skip rfl rfl rfl rfl ?_ | (refine pt_take rfl rfl rfl rfl ?_; apply Exists.intro; refine ⟨fun w' hw' => ?_, ?_⟩; focus ((repeat (first | go_skip | go_guarded | go_step | go_upon | go_back)); exact ⟨rfl, rfl, rfl⟩))
              change Exit.then _ _ Exit.normal _ _
              go_wp2
              go_ret
              rw [HGR.out] at *
              refine ⟨?_, f_bel25⟩
              first | rfl | (cases Q <;> rfl)
          · skip
            go_wp2
            go_ret
            rw [HGR.out] at *
            exact ⟨rfl, f_bel1⟩
        · skip
          have hme : ((m : Int) == 2) = false := beq_eq_false_iff_ne.2 (by omega)
          have hmi : ¬ ((m : Int) = 2) := by omega
          clear hm
          go_wp2
          go_ret
          rw [HGR.out] at *
          exact ⟨rfl, f_bel1⟩
      · skip
        have hne : ((n : Int) == 18) = false := beq_eq_false_iff_ne.2 (by omega)
        have hni : ¬ ((n : Int) = 18) := by omega
        clear hn
        go_wp2
        go_ret
        rw [HGR.out] at *
        exact ⟨rfl, f_bel1⟩
    · skip
      go_wp2
      go_ret
      rw [HGR.out] at *
      exact ⟨rfl, f_bel1⟩
  · skip
    go_wp2
    go_ret
    rw [HGR.out] at *
    exact ⟨rfl, f_bel1⟩
end Go.Proofs.YtccepoeenkpifaaDoor
