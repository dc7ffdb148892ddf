/-
  The walk of KeytreeClimbReachesRoot.
-/
import Derived.Test.YtccepoeenkpifaaDoorKtW
namespace Go.Proofs.YtccepoeenkpifaaDoor
open Go.RowKit
set_option linter.unusedVariables false
set_option linter.unusedSimpArgs false

set_option maxRecDepth 100000 in
set_option maxHeartbeats 4000000 in
theorem keytreeClimbReachesRoot_walk (v : Value) (n : Nat) (F : List UInt8) (W : World) (hv : Row W W.heap.size 32 n v (u8s F)) (hk : KIs 1 W) :
    Calls Tryd.prog 6 #[v] W fun e w' => e = .returned (.bool true) ∧ Below W.heap.size W w' := by
  obtain ⟨A, cap, rfl⟩ := row_form hv
  have hnl := row_len hv
  have hncap := Row.cap hv
  have bel := Below.refl W.heap.size W
  have HV := Lib.hid hv
  go_enter Tryd.func6, Tryd.ntmps6
  go_upto_region 1 with (fail)
  have HC1 := Lib.hid (sane_any W hk)
  go_wp2_with fail
  refine HC1.out.mono ?_
  rintro e v1 ⟨rfl, b1⟩
  have f_v1 := hv.past b1
  have f_k1 := hk.past b1
  have f_bel1 := bel.trans (b1.mono bel.size)
  clear hv hk bel HC1 b1
  by_cases h64 : n ≤ 64
  · skip
    have hz := zero_dig
    cases hw : Kt.isw n
    · skip
      have HC2 := Lib.hid (lawroot_no _ F n v1 f_v1 hw)
      go_wp2_with fail
      refine HC2.out.mono ?_
      rintro e v2 ⟨rfl, b2⟩
      have f_v2 := f_v1.past b2
      have f_k2 := f_k1.past b2
      have f_bel2 := f_bel1.trans (b2.mono f_bel1.size)
      clear f_v1 f_k1 f_bel1 HC2 b2
      have HUZ : Hid ((u8s z32).length = 32) := Lib.hid rfl
      have x3 := Blk.new v2 25 (u8s z32)
      have bx3 : Below v2.heap.size v2 (v2.alloc (.cells (u8s z32).toArray 25)) := (Below.refl _ _).alloc (Nat.le_refl _) _
      go_upto_region 6 with (refine wp_storeA 25 (.tmp 3) (.tmp 20) rfl rfl v2.heap.size rfl 25 (u8s z32) _ rfl x3 (by rw [info_dig, HUZ.out]) (by first | (rw [HUZ.out]; rfl) | rfl) (u8s_one _) rfl ?_; intro y3 h3 k3)
      have bb3 : Below v2.heap.size v2 y3 := ((Keep.of_below bx3).trans (k3.mono (O' := fun q => q < v2.heap.size) (fun q hq => by omega))).below (fun q hq => hq) (Nat.le_refl _)
      have f_v3 := f_v2.past bb3
      have f_k3 := f_k2.past bb3
      have f_bel3 := f_bel2.trans (bb3.mono f_bel2.size)
      clear f_v2 f_k2 f_bel2 x3 bx3 k3 bb3
      obtain ⟨gr, hgr⟩ : ∃ g, g = v2.heap.size := ⟨_, rfl⟩
      rw [← hgr] at h3 ⊢
      clear hgr
      have HWW := Lib.hid hw
      have HC4 := Lib.hid (path_no _ F n 0 y3 f_v3 hnl (fun h => by rw [hw] at h; cases h.1))
      go_wp2_with fail
      refine HC4.out.mono ?_
      rintro e v4 ⟨rfl, b4⟩
      have f_v4 := f_v3.past b4
      have f_k4 := f_k3.past b4
      have f_bel4 := f_bel3.trans (b4.mono f_bel3.size)
      have f_r4 := h3.past b4 h3.lt
      clear f_v3 f_k3 f_bel3 h3 HC4 b4
      clear hw hz
      go_wp2
      go_ret
      exact ⟨rfl, f_bel4⟩
    · skip
      obtain ⟨K, hK, hnK⟩ := Kt.isw_pow hw
      have HFL := Lib.hid (show F.length = 32 * 2 ^ K by rw [row_flen HV.out, hnK, Nat.mul_comm])
      obtain ⟨R, hR⟩ : ∃ R, R = Kt.mrk F K := ⟨_, rfl⟩
      have HR := Lib.hid hR
      have HRL := Lib.hid (show R.length = 32 by rw [hR, Kt.mrk_len HFL.out])
      have HUR := Lib.hid (show (u8s R).length = 32 by rw [u8s_length, HRL.out])
      have HNK := Lib.hid hnK
      have hrt : Calls Tryd.prog 27 #[.slice A n cap] v1 fun e w' => e = .returned (.tuple #[.agg (u8s R).toArray, .bool true]) ∧ Below v1.heap.size v1 w' := by
        have h := lawroot_yes (.slice A n cap) F K v1 (by rw [← hnK]; exact f_v1) hK f_k1
        rw [hR]; exact h
      have HRT := Lib.hid hrt
      clear hw hR hrt hnK
      have HC5 := Lib.hid (HRT.out)
      go_wp2_with fail
      refine HC5.out.mono ?_
      rintro e v5 ⟨rfl, b5⟩
      have f_v5 := f_v1.past b5
      have f_k5 := f_k1.past b5
      have f_bel5 := f_bel1.trans (b5.mono f_bel1.size)
      clear f_v1 f_k1 f_bel1 HC5 b5
      have x6 := Blk.new v5 25 (u8s z32)
      have bx6 : Below v5.heap.size v5 (v5.alloc (.cells (u8s z32).toArray 25)) := (Below.refl _ _).alloc (Nat.le_refl _) _
      go_upto_region 6 with (refine wp_storeA 25 (.tmp 3) (.tmp 20) rfl rfl v5.heap.size rfl 25 (u8s z32) _ rfl x6 (by rw [info_dig, HUR.out]) (by first | (rw [HUR.out]; rfl) | rfl) (u8s_one _) rfl ?_; intro y6 h6 k6)
      have bb6 : Below v5.heap.size v5 y6 := ((Keep.of_below bx6).trans (k6.mono (O' := fun q => q < v5.heap.size) (fun q hq => by omega))).below (fun q hq => hq) (Nat.le_refl _)
      have f_v6 := f_v5.past bb6
      have f_k6 := f_k5.past bb6
      have f_bel6 := f_bel5.trans (bb6.mono f_bel5.size)
      clear f_v5 f_k5 f_bel5 x6 bx6 k6 bb6
      obtain ⟨gr, hgr⟩ : ∃ g, g = v5.heap.size := ⟨_, rfl⟩
      rw [← hgr] at h6 ⊢
      clear hgr
      clear HRT
      cases K with
      | zero =>
        have hn1 : n = 1 := HNK.out
        subst hn1
        obtain ⟨ad, hAe, had, _⟩ := Row.at_ HV.out (by omega)
        subst hAe
        have hlt0 : 0 < 1 := by omega
        have HRE := Lib.hid (show R = Wt.el F 0 from HR.out)
        have HCX : Hid (∀ w1 : World, Below W.heap.size W w1 → ∀ j u, (u8s R)[j]? = some u → w1.cell? ((ad.add (0 * 32)).add j) = some u) := Lib.hid fun w1 hb => by
          rw [HRE.out]; exact row_elem (HV.out.past hb) hlt0
        have HWS : Hid (W.heap.size ≤ y6.heap.size) := Lib.hid (Below.size f_bel6)
        clear hz
        go_upto_region 14 with (fail)
        have lt_r := Blk.lt h6
        refine wp_region_pt (y6.heap.size) (.take 0 (.take 1 (.take 2 (.take 3 (.take 4 (.take 5 .done)))))) (by kernel_rfl) (by kernel_rfl) (by kernel_rfl) (fun _ _ h => h) ?_
        have bd7 : Below y6.heap.size y6 y6.drew := (Below.refl _ _).drew
        have zB7 : y6.heap.size ≤ y6.drew.heap.size := bd7.size
        have f_v7 := f_v6.past bd7
        have f_k7 := f_k6.past bd7
        have f_bel7 := f_bel6.trans (bd7.mono f_bel6.size)
        have f_r7 := h6.past bd7 h6.lt
        clear f_v6 f_k6 f_bel6 h6
        obtain ⟨u7, hu7⟩ : ∃ u, u = y6.drew := ⟨_, rfl⟩
        rw [← hu7] at f_v7 f_k7 f_bel7 f_r7 zB7 bd7 ⊢
        clear hu7 bd7
        refine pt_take rfl rfl rfl rfl ?_
        apply Exists.intro
        refine ⟨fun w' hw' => ?_, ?_⟩
        · refine wp_run rfl (exec_loadA 25 rfl _ rfl 25 _ 32 5 (f_r7.past hw' lt_r) Tryd.underlying25 (by rw [info_dig, HUR.out])) ?_
          exact ⟨rfl, rfl, rfl⟩
        first | refine pt_skip rfl rfl rfl rfl ?_ | (refine pt_take rfl rfl rfl rfl ?_; apply Exists.intro; refine ⟨fun w' hw' => ?_, ?_⟩; focus ((repeat (first | go_skip | go_guarded | go_step | go_upon | go_back)); exact ⟨rfl, rfl, rfl⟩))
        refine pt_take rfl rfl rfl rfl ?_
        apply Exists.intro
        refine ⟨fun w' hw' => ?_, ?_⟩
        · refine wp_run rfl (exec_ixS 29 25 32 Tryd.underlying29 info_dig w' rfl rfl _ _ 0 rfl rfl hlt0 (q := ad.add (0 * 32)) rfl) ?_
          exact ⟨rfl, rfl, rfl⟩
        refine pt_take rfl rfl rfl rfl ?_
        apply Exists.intro
        refine ⟨fun w' hw' => ?_, ?_⟩
        · refine wp_run rfl (exec_loadP 25 rfl (ad.add (0 * 32)) rfl (u8s R) 32 5 (HCX.out w' (f_bel7.trans (hw'.mono (by have := HWS.out; omega)))) Tryd.underlying25 (by rw [info_dig, HUR.out])) ?_
          exact ⟨rfl, rfl, rfl⟩
        refine pt_take rfl rfl rfl rfl ?_
        apply Exists.intro
        refine ⟨fun w' hw' => ?_, ?_⟩
        · refine wp_run rfl (exec_eqB rfl R R rfl rfl HRL.out HRL.out true (beq_self_eq_true _) w') ?_
          exact ⟨rfl, rfl, rfl⟩
        first | refine pt_skip rfl rfl rfl rfl ?_ | (refine pt_take rfl rfl rfl rfl ?_; apply Exists.intro; refine ⟨fun w' hw' => ?_, ?_⟩; focus ((repeat (first | go_skip | go_guarded | go_step | go_upon | go_back)); exact ⟨rfl, rfl, rfl⟩))
        change Exit.then _ _ Exit.normal _ _
        go_wp2
        go_ret
        exact ⟨rfl, f_bel7⟩
      | succ k =>
        obtain ⟨m, hm⟩ : ∃ m, m = 2 ^ k := ⟨_, rfl⟩
        have hnm : n = 2 * m := by rw [HNK.out, hm, Kt.pow_two]
        have hm0 : 0 < m := by rw [hm]; exact Nat.two_pow_pos _
        have HM := Lib.hid hm
        have hq : (n : Int) / 2 = (m : Int) := by omega
        obtain ⟨Ra, hRa⟩ : ∃ X, X = Kt.mrk (F.take (32 * 2 ^ k)) k := ⟨_, rfl⟩
        obtain ⟨Rb, hRb⟩ : ∃ X, X = Kt.mrk (F.drop (32 * 2 ^ k)) k := ⟨_, rfl⟩
        have hFT : (F.take (32 * 2 ^ k)).length = 32 * 2 ^ k := by rw [List.length_take, HFL.out, Kt.pow_two]; omega
        have hFD : (F.drop (32 * 2 ^ k)).length = 32 * 2 ^ k := by rw [List.length_drop, HFL.out, Kt.pow_two]; omega
        have HAL := Lib.hid (show Ra.length = 32 by rw [hRa, Kt.mrk_len hFT])
        have HBL := Lib.hid (show Rb.length = 32 by rw [hRb, Kt.mrk_len hFD])
        have HUA := Lib.hid (show (u8s Ra).length = 32 by rw [u8s_length, HAL.out])
        have HUB := Lib.hid (show (u8s Rb).length = 32 by rw [u8s_length, HBL.out])
        have HRP := Lib.hid (show R = Sha.tag Sha.pairT (Ra ++ Rb) by rw [HR.out, Kt.mrk_succ HFL.out, hRa, hRb]; rfl)
        obtain ⟨A1, cap1, hcut1, hrow1⟩ := run_cut_all (P := Tryd.prog) (size := 32) (n := n) (k := m) (i := 0) (A := A) (cap := cap) 29 25 Tryd.underlying29 info_dig none (some (.int .i64 (m : Int))) (Or.inl ⟨rfl, rfl⟩) (Or.inr ⟨.i64, (m : Int), rfl, by simp⟩) (by omega) hncap
        obtain ⟨A2, cap2, hcut2, hrow2⟩ := run_cut_all (P := Tryd.prog) (size := 32) (n := n) (k := m) (i := m) (A := A) (cap := cap) 29 25 Tryd.underlying29 info_dig (some (.int .i64 (m : Int))) none (Or.inr ⟨.i64, (m : Int), rfl, rfl⟩) (Or.inl ⟨rfl, by omega⟩) (by omega) hncap
        have hul : (u8s F).length = n * 32 := by rw [u8s_length, row_flen HV.out]
        have hx1 : ((u8s F).drop (0 * 32)).take (m * 32) = u8s (F.take (32 * 2 ^ k)) := by
          rw [Nat.zero_mul, List.drop_zero, hm, Nat.mul_comm (2 ^ k) 32]; unfold u8s; rw [List.map_take]
        have hx2 : ((u8s F).drop (m * 32)).take (m * 32) = u8s (F.drop (32 * 2 ^ k)) := by
          rw [List.take_of_length_le (by rw [List.length_drop, hul]; omega), hm, Nat.mul_comm (2 ^ k) 32]; unfold u8s; rw [List.map_drop]
        have hk6 : k ≤ 6 := by omega
        have HC1 : Hid (∀ w1 : World, Below W.heap.size W w1 → KIs 1 w1 → Calls Tryd.prog 28 #[.slice A1 m cap1] w1 fun e w' => e = .returned (.tuple #[.agg (u8s Ra).toArray, .bool true]) ∧ Below w1.heap.size w1 w') := Lib.hid fun w1 hb hk1 => by
          have h := hrow1 w1 _ _ (HV.out.past hb)
          rw [hx1] at h
          rw [hRa]
          rw [hm] at h ⊢
          exact rootOf_yes _ _ k w1 h hk6 hk1
        have HC2 : Hid (∀ w1 : World, Below W.heap.size W w1 → KIs 1 w1 → Calls Tryd.prog 28 #[.slice A2 m cap2] w1 fun e w' => e = .returned (.tuple #[.agg (u8s Rb).toArray, .bool true]) ∧ Below w1.heap.size w1 w') := Lib.hid fun w1 hb hk1 => by
          have h := hrow2 w1 _ _ (HV.out.past hb)
          rw [hx2] at h
          rw [hRb]
          rw [hm] at h ⊢
          exact rootOf_yes _ _ k w1 h hk6 hk1
        have HCUT1 := Lib.hid hcut1
        have HCUT2 := Lib.hid hcut2
        clear hm hnm hRa hRb hFT hFD hcut1 hcut2 hrow1 hrow2 hul hx1 hx2
        have HC8 := Lib.hid (HC1.out y6 f_bel6 f_k6)
        go_wp2_with (refine wp_run rfl (exec_slice rfl (HCUT1.out _)) ?_)
        refine HC8.out.mono ?_
        rintro e v8 ⟨rfl, b8⟩
        have f_v8 := f_v6.past b8
        have f_k8 := f_k6.past b8
        have f_bel8 := f_bel6.trans (b8.mono f_bel6.size)
        have f_r8 := h6.past b8 h6.lt
        clear f_v6 f_k6 f_bel6 h6 HC8 b8
        have x9 := Blk.new v8 25 (u8s z32)
        have bx9 : Below v8.heap.size v8 (v8.alloc (.cells (u8s z32).toArray 25)) := (Below.refl _ _).alloc (Nat.le_refl _) _
        go_upto_region 12 with (refine wp_storeA 25 (.tmp 8) (.tmp 41) rfl rfl v8.heap.size rfl 25 (u8s z32) _ rfl x9 (by rw [info_dig, HUA.out]) (by first | (rw [HUA.out]; rfl) | rfl) (u8s_one _) rfl ?_; intro y9 h9 k9)
        have bb9 : Below v8.heap.size v8 y9 := ((Keep.of_below bx9).trans (k9.mono (O' := fun q => q < v8.heap.size) (fun q hq => by omega))).below (fun q hq => hq) (Nat.le_refl _)
        have f_v9 := f_v8.past bb9
        have f_k9 := f_k8.past bb9
        have f_bel9 := f_bel8.trans (bb9.mono f_bel8.size)
        have f_r9 := f_r8.past bb9 f_r8.lt
        clear f_v8 f_k8 f_bel8 f_r8 x9 bx9 k9 bb9
        obtain ⟨ga, hga⟩ : ∃ g, g = v8.heap.size := ⟨_, rfl⟩
        rw [← hga] at h9 ⊢
        clear hga
        have HC10 := Lib.hid (HC2.out y9 f_bel9 f_k9)
        go_wp2_with (refine wp_run rfl (exec_slice rfl (HCUT2.out _)) ?_)
        refine HC10.out.mono ?_
        rintro e v10 ⟨rfl, b10⟩
        have f_v10 := f_v9.past b10
        have f_k10 := f_k9.past b10
        have f_bel10 := f_bel9.trans (b10.mono f_bel9.size)
        have f_r10 := f_r9.past b10 f_r9.lt
        have f_a10 := h9.past b10 h9.lt
        clear f_v9 f_k9 f_bel9 f_r9 h9 HC10 b10
        have x11 := Blk.new v10 25 (u8s z32)
        have bx11 : Below v10.heap.size v10 (v10.alloc (.cells (u8s z32).toArray 25)) := (Below.refl _ _).alloc (Nat.le_refl _) _
        go_upto_region 13 with (refine wp_storeA 25 (.tmp 10) (.tmp 48) rfl rfl v10.heap.size rfl 25 (u8s z32) _ rfl x11 (by rw [info_dig, HUB.out]) (by first | (rw [HUB.out]; rfl) | rfl) (u8s_one _) rfl ?_; intro y11 h11 k11)
        have bb11 : Below v10.heap.size v10 y11 := ((Keep.of_below bx11).trans (k11.mono (O' := fun q => q < v10.heap.size) (fun q hq => by omega))).below (fun q hq => hq) (Nat.le_refl _)
        have f_v11 := f_v10.past bb11
        have f_k11 := f_k10.past bb11
        have f_bel11 := f_bel10.trans (bb11.mono f_bel10.size)
        have f_r11 := f_r10.past bb11 f_r10.lt
        have f_a11 := f_a10.past bb11 f_a10.lt
        clear f_v10 f_k10 f_bel10 f_r10 f_a10 x11 bx11 k11 bb11
        obtain ⟨gb, hgb⟩ : ∃ g, g = v10.heap.size := ⟨_, rfl⟩
        rw [← hgb] at h11 ⊢
        clear hgb
        clear hz
        have lt_r := Blk.lt f_r11
        have lt_a := Blk.lt f_a11
        have lt_b := Blk.lt h11
        refine wp_region_pt (y11.heap.size) (.take 0 (.take 1 (.take 2 (.take 3 (.take 4 (.take 5 (.take 6 (.take 7 (.step 8 (.take 9 (.take 10 (.take 11 .done)))))))))))) (by kernel_rfl) (by kernel_rfl) (by kernel_rfl) (fun _ _ h => h) ?_
        have bd12 : Below y11.heap.size y11 y11.drew := (Below.refl _ _).drew
        have zB12 : y11.heap.size ≤ y11.drew.heap.size := bd12.size
        have f_v12 := f_v11.past bd12
        have f_k12 := f_k11.past bd12
        have f_bel12 := f_bel11.trans (bd12.mono f_bel11.size)
        have f_r12 := f_r11.past bd12 f_r11.lt
        have f_a12 := f_a11.past bd12 f_a11.lt
        have f_b12 := h11.past bd12 h11.lt
        clear f_v11 f_k11 f_bel11 f_r11 f_a11 h11
        obtain ⟨u12, hu12⟩ : ∃ u, u = y11.drew := ⟨_, rfl⟩
        rw [← hu12] at f_v12 f_k12 f_bel12 f_r12 f_a12 f_b12 zB12 bd12 ⊢
        clear hu12 bd12
        first | refine pt_skip rfl rfl rfl rfl ?_ | (refine pt_take rfl rfl rfl rfl ?_; apply Exists.intro; refine ⟨fun w' hw' => ?_, ?_⟩; focus ((repeat (first | go_skip | go_guarded | go_step | go_upon | go_back)); exact ⟨rfl, rfl, rfl⟩))
        first | refine pt_skip rfl rfl rfl rfl ?_ | (refine pt_take rfl rfl rfl rfl ?_; apply Exists.intro; refine ⟨fun w' hw' => ?_, ?_⟩; focus ((repeat (first | go_skip | go_guarded | go_step | go_upon | go_back)); exact ⟨rfl, rfl, rfl⟩))
        first | refine pt_skip rfl rfl rfl rfl ?_ | (refine pt_take rfl rfl rfl rfl ?_; apply Exists.intro; refine ⟨fun w' hw' => ?_, ?_⟩; focus ((repeat (first | go_skip | go_guarded | go_step | go_upon | go_back)); exact ⟨rfl, rfl, rfl⟩))
        first | refine pt_skip rfl rfl rfl rfl ?_ | (refine pt_take rfl rfl rfl rfl ?_; apply Exists.intro; refine ⟨fun w' hw' => ?_, ?_⟩; focus ((repeat (first | go_skip | go_guarded | go_step | go_upon | go_back)); exact ⟨rfl, rfl, rfl⟩))
        first | refine pt_skip rfl rfl rfl rfl ?_ | (refine pt_take rfl rfl rfl rfl ?_; apply Exists.intro; refine ⟨fun w' hw' => ?_, ?_⟩; focus ((repeat (first | go_skip | go_guarded | go_step | go_upon | go_back)); exact ⟨rfl, rfl, rfl⟩))
        refine pt_take rfl rfl rfl rfl ?_
        apply Exists.intro
        refine ⟨fun w' hw' => ?_, ?_⟩
        · refine wp_run rfl (exec_loadA 25 rfl _ rfl 25 _ 32 5 (f_r12.past hw' lt_r) Tryd.underlying25 (by rw [info_dig, HUR.out])) ?_
          exact ⟨rfl, rfl, rfl⟩
        refine pt_take rfl rfl rfl rfl ?_
        apply Exists.intro
        refine ⟨fun w' hw' => ?_, ?_⟩
        · refine wp_run rfl (exec_loadA 25 rfl _ rfl 25 _ 32 5 (f_a12.past hw' lt_a) Tryd.underlying25 (by rw [info_dig, HUA.out])) ?_
          exact ⟨rfl, rfl, rfl⟩
        refine pt_take rfl rfl rfl rfl ?_
        apply Exists.intro
        refine ⟨fun w' hw' => ?_, ?_⟩
        · refine wp_run rfl (exec_loadA 25 rfl _ rfl 25 _ 32 5 (f_b12.past hw' lt_b) Tryd.underlying25 (by rw [info_dig, HUB.out])) ?_
          exact ⟨rfl, rfl, rfl⟩
        refine pt_step rfl ?_
        go_wp2_with fail
        refine (pair_any Ra Rb _ HAL.out HBL.out f_k12).mono ?_
        rintro e t13 ⟨rfl, c13⟩
        rw [← HRP.out]
        go_wp2_with fail
        refine ⟨rfl, c13.mono zB12, ?_⟩
        have f_v13 := f_v12.past c13
        have f_k13 := f_k12.past c13
        have f_bel13 := f_bel12.trans (c13.mono f_bel12.size)
        have f_r13 := f_r12.past c13 f_r12.lt
        have f_a13 := f_a12.past c13 f_a12.lt
        have f_b13 := f_b12.past c13 f_b12.lt
        have f_zB13 := Nat.le_trans zB12 c13.size
        clear f_v12 f_k12 f_bel12 f_r12 f_a12 f_b12 zB12 c13
        refine pt_take rfl rfl rfl rfl ?_
        apply Exists.intro
        refine ⟨fun w' hw' => ?_, ?_⟩
        · refine wp_run rfl (exec_eqB rfl R R rfl rfl HRL.out HRL.out true (beq_self_eq_true _) w') ?_
          exact ⟨rfl, rfl, rfl⟩
        first | refine pt_skip rfl rfl rfl rfl ?_ | (refine pt_take rfl rfl rfl rfl ?_; apply Exists.intro; refine ⟨fun w' hw' => ?_, ?_⟩; focus ((repeat (first | go_skip | go_guarded | go_step | go_upon | go_back)); exact ⟨rfl, rfl, rfl⟩))
        first | refine pt_skip rfl rfl rfl rfl ?_ | (refine pt_take rfl rfl rfl rfl ?_; apply Exists.intro; refine ⟨fun w' hw' => ?_, ?_⟩; focus ((repeat (first | go_skip | go_guarded | go_step | go_upon | go_back)); exact ⟨rfl, rfl, rfl⟩))
        change Exit.then _ _ Exit.normal _ _
        go_wp2
        go_ret
        exact ⟨rfl, f_bel13⟩
  · skip
    go_wp2
    go_ret
    exact ⟨rfl, f_bel1⟩
end Go.Proofs.YtccepoeenkpifaaDoor
