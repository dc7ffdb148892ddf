/-
  The walk of KeytreeSignSpec.
-/
import Derived.Test.YtccepoeenkpifaaDoorKtS
import Derived.Test.YtccepoeenkpifaaDoorKrD
import Derived.Test.YtccepoeenkpifaaDoorKrS
namespace Go.Proofs.YtccepoeenkpifaaDoor
open Go.RowKit
set_option linter.unusedVariables false
set_option linter.unusedSimpArgs false

theorem bs_len {w : World} {B : Nat} {v : Value} {l : List UInt8} (h : Bs w B v l) : l.length ≤ 9223372036854775807 := by
  obtain ⟨_, _, _, h1, h2, _⟩ := h
  unfold maxLen at h2
  omega

set_option maxRecDepth 100000 in
set_option maxHeartbeats 4000000 in
theorem keytreeSignSpec_walk (v : Value) (s : List UInt8) (ix : Int) (u : Value) (m : List UInt8) (W : World) (hv : Bs W W.heap.size v s) (hix : -9223372036854775808 ≤ ix ∧ ix ≤ 9223372036854775807) (hu : Bs W W.heap.size u m) (hk3 : KIs 2 W) (hin : InIs 0 W) (hk : KIs 1 W) :
    Calls Tryd.prog 3 #[v, .int .i64 ix, u] W fun e w' => e = .returned (.bool true) ∧ Below W.heap.size W w' := by
  obtain ⟨A0, cap0, rfl⟩ := hv.form
  obtain ⟨A1, cap1, rfl⟩ := hu.form
  have hsl := bs_len hv
  have hml := bs_len hu
  obtain ⟨hix1, hix2⟩ := hix
  have bel := Below.refl W.heap.size W
  go_enter Tryd.func3, Tryd.ntmps3
  go_upto_region 1 with (fail)
  have HC1 := Lib.hid (sane_any W hk)
  go_wp2_with fail
  refine HC1.out.mono ?_
  rintro e v1 ⟨rfl, b1⟩
  have f_s1 := hv.past b1
  have f_m1 := hu.past b1
  have f_k1 := hk.past b1
  have f_k31 := hk3.past b1
  have f_in1 := hin.past b1
  have f_bel1 := bel.trans (b1.mono bel.size)
  clear hv hu hk hk3 hin bel HC1 b1
  by_cases h100 : s.length ≤ 100
  · skip
    by_cases h300 : m.length ≤ 300
    · skip
      have hz := zero_dig
      have hzs := zero_sig
      by_cases hs : 1 ≤ s.length ∧ s.length ≤ 64
      · obtain ⟨hs1, hs64⟩ := hs
        obtain ⟨R, hR⟩ : ∃ R, R = Kt.mrk (lvs s) 2 := ⟨_, rfl⟩
        have HRL := Lib.hid (show R.length = 32 by rw [hR]; exact Kt.mrk_len (lvs_flen s))
        have HUR := Lib.hid (show (u8s R).length = 32 by rw [u8s_length, HRL.out])
        have hr1 := root_yes _ s v1 f_s1 hs1 hs64 f_k1
        rw [← hR] at hr1
        have HRE := Lib.hid hR
        clear hR
        have HC2 := Lib.hid (hr1)
        go_wp2_with fail
        refine HC2.out.mono ?_
        rintro e v2 ⟨rfl, b2⟩
        clear hr1
        have f_s2 := f_s1.past b2
        have f_m2 := f_m1.past b2
        have f_k2 := f_k1.past b2
        have f_k32 := f_k31.past b2
        have f_in2 := f_in1.past b2
        have f_bel2 := f_bel1.trans (b2.mono f_bel1.size)
        clear f_s1 f_m1 f_k1 f_k31 f_in1 f_bel1 HC2 b2
        have x3 := Blk.new v2 25 (u8s z32)
        have bx3 : Below v2.heap.size v2 (v2.alloc (.cells (u8s z32).toArray 25)) := (Below.refl _ _).alloc (Nat.le_refl _) _
        go_upto_region 6 with (refine wp_storeA 25 (.tmp 7) (.tmp 28) rfl rfl v2.heap.size rfl 25 (u8s z32) _ rfl x3 (by rw [info_dig, HUR.out]) (by first | (rw [HUR.out]; rfl) | rfl) (u8s_one _) rfl ?_; intro y3 h3 k3)
        have bb3 : Below v2.heap.size v2 y3 := ((Keep.of_below bx3).trans (k3.mono (O' := fun q => q < v2.heap.size) (fun q hq => by omega))).below (fun q hq => hq) (Nat.le_refl _)
        have f_s3 := f_s2.past bb3
        have f_m3 := f_m2.past bb3
        have f_k3 := f_k2.past bb3
        have f_k33 := f_k32.past bb3
        have f_in3 := f_in2.past bb3
        have f_bel3 := f_bel2.trans (bb3.mono f_bel2.size)
        clear f_s2 f_m2 f_k2 f_k32 f_in2 f_bel2 x3 bx3 k3 bb3
        obtain ⟨gr1, hgr1⟩ : ∃ g, g = v2.heap.size := ⟨_, rfl⟩
        rw [← hgr1] at h3 ⊢
        clear hgr1
        have hr2 := rroot_yes _ s y3 f_s3 hs1 hs64 f_k33 f_in3
        rw [← HRE.out] at hr2
        have HC4 := Lib.hid (hr2)
        go_wp2_with fail
        refine HC4.out.mono ?_
        rintro e v4 ⟨rfl, b4⟩
        clear hr2
        have f_s4 := f_s3.past b4
        have f_m4 := f_m3.past b4
        have f_k4 := f_k3.past b4
        have f_k34 := f_k33.past b4
        have f_in4 := f_in3.past b4
        have f_bel4 := f_bel3.trans (b4.mono f_bel3.size)
        have f_r14 := h3.past b4 h3.lt
        clear f_s3 f_m3 f_k3 f_k33 f_in3 f_bel3 h3 HC4 b4
        have x5 := Blk.new v4 25 (u8s z32)
        have bx5 : Below v4.heap.size v4 (v4.alloc (.cells (u8s z32).toArray 25)) := (Below.refl _ _).alloc (Nat.le_refl _) _
        go_upto_region 7 with (refine wp_storeA 25 (.tmp 9) (.tmp 33) rfl rfl v4.heap.size rfl 25 (u8s z32) _ rfl x5 (by rw [info_dig, HUR.out]) (by first | (rw [HUR.out]; rfl) | rfl) (u8s_one _) rfl ?_; intro y5 h5 k5)
        have bb5 : Below v4.heap.size v4 y5 := ((Keep.of_below bx5).trans (k5.mono (O' := fun q => q < v4.heap.size) (fun q hq => by omega))).below (fun q hq => hq) (Nat.le_refl _)
        have f_s5 := f_s4.past bb5
        have f_m5 := f_m4.past bb5
        have f_k5 := f_k4.past bb5
        have f_k35 := f_k34.past bb5
        have f_in5 := f_in4.past bb5
        have f_bel5 := f_bel4.trans (bb5.mono f_bel4.size)
        have f_r15 := f_r14.past bb5 f_r14.lt
        clear f_s4 f_m4 f_k4 f_k34 f_in4 f_bel4 f_r14 x5 bx5 k5 bb5
        obtain ⟨gr2, hgr2⟩ : ∃ g, g = v4.heap.size := ⟨_, rfl⟩
        rw [← hgr2] at h5 ⊢
        clear hgr2
        by_cases hx : 0 ≤ ix ∧ ix ≤ 3
        · obtain ⟨hx0, hx3⟩ := hx
          obtain ⟨i, rfl⟩ := Int.eq_ofNat_of_zero_le hx0
          have hi3 : i ≤ 3 := by omega
          clear hx0 hx3
          have HC6 := Lib.hid (ktsign_yes _ _ s m i y5 f_s5 f_m5 hs1 hs64 (by omega) hi3 f_k5)
          go_wp2_with fail
          refine HC6.out.mono ?_
          rintro e v6 ⟨A, B, c, d, rfl, rc, rp, b6⟩
          have f_s6 := f_s5.past b6
          have f_m6 := f_m5.past b6
          have f_k6 := f_k5.past b6
          have f_k36 := f_k35.past b6
          have f_in6 := f_in5.past b6
          have f_bel6 := f_bel5.trans (b6.mono f_bel5.size)
          have f_r16 := f_r15.past b6 f_r15.lt
          have f_r26 := h5.past b6 h5.lt
          clear f_s5 f_m5 f_k5 f_k35 f_in5 f_bel5 f_r15 h5 HC6 b6
          obtain ⟨C, hC⟩ : ∃ C, C = Wt.sig s i (msgD m) := ⟨_, rfl⟩
          obtain ⟨PP, hPP⟩ : ∃ PP, PP = Kt.pth (lvs s) i 2 := ⟨_, rfl⟩
          rw [← hC] at rc
          rw [← hPP] at rp
          have HC := Lib.hid hC
          have HPP := Lib.hid hPP
          clear hC hPP
          have x7 := Blk.new v6 31 (sg 0 nilS nilS)
          have bx7 : Below v6.heap.size v6 (v6.alloc (.cells (sg 0 nilS nilS).toArray 31)) := (Below.refl _ _).alloc (Nat.le_refl _) _
          go_upto_region 8 with (refine wp_storeA 31 (.tmp 11) (.tmp 40) rfl rfl v6.heap.size rfl 31 (sg 0 nilS nilS) (sg i (.slice A 18 c) (.slice B 2 d)) rfl x7 (by rw [info_sig]; rfl) rfl sg_one rfl ?_; intro y7 h7 k7)
          have bb7 : Below v6.heap.size v6 y7 := ((Keep.of_below bx7).trans (k7.mono (O' := fun q => q < v6.heap.size) (fun q hq => by omega))).below (fun q hq => hq) (Nat.le_refl _)
          have f_s7 := f_s6.past bb7
          have f_m7 := f_m6.past bb7
          have f_k7 := f_k6.past bb7
          have f_k37 := f_k36.past bb7
          have f_in7 := f_in6.past bb7
          have f_bel7 := f_bel6.trans (bb7.mono f_bel6.size)
          have f_r17 := f_r16.past bb7 f_r16.lt
          have f_r27 := f_r26.past bb7 f_r26.lt
          have f_c7 := rc.past bb7
          have f_p7 := rp.past bb7
          clear f_s6 f_m6 f_k6 f_k36 f_in6 f_bel6 f_r16 f_r26 rc rp x7 bx7 k7 bb7
          obtain ⟨gq1, hgq1⟩ : ∃ g, g = v6.heap.size := ⟨_, rfl⟩
          rw [← hgq1] at h7 ⊢
          clear hgq1
          have HC8 := Lib.hid (rsign5_yes _ _ s m i y7 f_s7 f_m7 hs1 hs64 (by omega) hi3 f_k37 f_in7)
          go_wp2_with fail
          refine HC8.out.mono ?_
          rintro e v8 ⟨A', B', c', d', rfl, rc', rp', b8⟩
          have f_s8 := f_s7.past b8
          have f_m8 := f_m7.past b8
          have f_k8 := f_k7.past b8
          have f_k38 := f_k37.past b8
          have f_in8 := f_in7.past b8
          have f_bel8 := f_bel7.trans (b8.mono f_bel7.size)
          have f_r18 := f_r17.past b8 f_r17.lt
          have f_r28 := f_r27.past b8 f_r27.lt
          have f_c8 := f_c7.past b8
          have f_p8 := f_p7.past b8
          have f_q18 := h7.past b8 h7.lt
          clear f_s7 f_m7 f_k7 f_k37 f_in7 f_bel7 f_r17 f_r27 f_c7 f_p7 h7 HC8 b8
          rw [← HC.out] at rc'
          rw [← HPP.out] at rp'
          have x9 := Blk.new v8 31 (sg 0 nilS nilS)
          have bx9 : Below v8.heap.size v8 (v8.alloc (.cells (sg 0 nilS nilS).toArray 31)) := (Below.refl _ _).alloc (Nat.le_refl _) _
          go_upto_region 9 with (refine wp_storeA 31 (.tmp 13) (.tmp 47) rfl rfl v8.heap.size rfl 31 (sg 0 nilS nilS) (sg i (.slice A' 18 c') (.slice B' 2 d')) rfl x9 (by rw [info_sig]; rfl) rfl sg_one rfl ?_; intro y9 h9 k9)
          have bb9 : Below v8.heap.size v8 y9 := ((Keep.of_below bx9).trans (k9.mono (O' := fun q => q < v8.heap.size) (fun q hq => by omega))).below (fun q hq => hq) (Nat.le_refl _)
          have f_s9 := f_s8.past bb9
          have f_m9 := f_m8.past bb9
          have f_k9 := f_k8.past bb9
          have f_k39 := f_k38.past bb9
          have f_in9 := f_in8.past bb9
          have f_bel9 := f_bel8.trans (bb9.mono f_bel8.size)
          have f_r19 := f_r18.past bb9 f_r18.lt
          have f_r29 := f_r28.past bb9 f_r28.lt
          have f_c9 := f_c8.past bb9
          have f_p9 := f_p8.past bb9
          have f_q19 := f_q18.past bb9 f_q18.lt
          have f_c29 := rc'.past bb9
          have f_p29 := rp'.past bb9
          clear f_s8 f_m8 f_k8 f_k38 f_in8 f_bel8 f_r18 f_r28 f_c8 f_p8 f_q18 rc' rp' x9 bx9 k9 bb9
          obtain ⟨gq2, hgq2⟩ : ∃ g, g = v8.heap.size := ⟨_, rfl⟩
          rw [← hgq2] at h9 ⊢
          clear hgq2
          have HSM := Lib.hid (same_yes i A B A' B' 18 2 c d c' d' C PP y9 f_c9 f_c29 f_p9 f_p29 (by decide) (by decide))
          clear hz hzs
          go_wp2_with (first
            | (refine wp_run rfl (exec_loadA 25 rfl gr1 rfl 25 _ 32 5 f_r19 Tryd.underlying25 (by rw [info_dig, HUR.out])) ?_)
            | (refine wp_run rfl (exec_loadA 25 rfl gr2 rfl 25 _ 32 5 f_r29 Tryd.underlying25 (by rw [info_dig, HUR.out])) ?_)
            | (refine wp_run rfl (exec_loadR 31 rfl gq1 rfl 31 (sg i (.slice A 18 c) (.slice B 2 d)) _ f_q19 Tryd.underlying31 rfl (by rw [info_sig]; rfl)) ?_)
            | (refine wp_run rfl (exec_loadR 31 rfl gq2 rfl 31 (sg i (.slice A' 18 c') (.slice B' 2 d')) _ h9 Tryd.underlying31 rfl (by rw [info_sig]; rfl)) ?_)
            | (refine wp_run rfl (exec_eqB rfl R R rfl rfl HRL.out HRL.out true (beq_self_eq_true _) _) ?_))
          refine HSM.out.mono ?_
          rintro e w9 ⟨rfl, b9⟩
          have bel9 := Below.trans f_bel9 (b9.mono (Below.size f_bel9))
          clear HSM
          go_wp2_with fail
          go_ret
          exact ⟨rfl, bel9⟩
        · skip
          have HC10 := Lib.hid (ktsign_no _ _ s m ix y5 f_s5 f_m5 (fun h => hx h.2.2))
          go_wp2_with fail
          refine HC10.out.mono ?_
          rintro e v10 ⟨rfl, b10⟩
          have f_s10 := f_s5.past b10
          have f_m10 := f_m5.past b10
          have f_k10 := f_k5.past b10
          have f_k310 := f_k35.past b10
          have f_in10 := f_in5.past b10
          have f_bel10 := f_bel5.trans (b10.mono f_bel5.size)
          have f_r110 := f_r15.past b10 f_r15.lt
          have f_r210 := h5.past b10 h5.lt
          clear f_s5 f_m5 f_k5 f_k35 f_in5 f_bel5 f_r15 h5 HC10 b10
          have x11 := Blk.new v10 31 (sg 0 nilS nilS)
          have bx11 : Below v10.heap.size v10 (v10.alloc (.cells (sg 0 nilS nilS).toArray 31)) := (Below.refl _ _).alloc (Nat.le_refl _) _
          go_upto_region 8 with (refine wp_storeA 31 (.tmp 11) (.tmp 40) rfl rfl v10.heap.size rfl 31 (sg 0 nilS nilS) (sg 0 nilS nilS) rfl x11 (by rw [info_sig]; rfl) rfl sg_one rfl ?_; intro y11 h11 k11)
          have bb11 : Below v10.heap.size v10 y11 := ((Keep.of_below bx11).trans (k11.mono (O' := fun q => q < v10.heap.size) (fun q hq => by omega))).below (fun q hq => hq) (Nat.le_refl _)
          have f_s11 := f_s10.past bb11
          have f_m11 := f_m10.past bb11
          have f_k11 := f_k10.past bb11
          have f_k311 := f_k310.past bb11
          have f_in11 := f_in10.past bb11
          have f_bel11 := f_bel10.trans (bb11.mono f_bel10.size)
          have f_r111 := f_r110.past bb11 f_r110.lt
          have f_r211 := f_r210.past bb11 f_r210.lt
          clear f_s10 f_m10 f_k10 f_k310 f_in10 f_bel10 f_r110 f_r210 x11 bx11 k11 bb11
          obtain ⟨gq1, hgq1⟩ : ∃ g, g = v10.heap.size := ⟨_, rfl⟩
          rw [← hgq1] at h11 ⊢
          clear hgq1
          have HC12 := Lib.hid (rsign5_no _ _ s m ix y11 f_s11 f_m11 (fun h => hx h.2.2))
          go_wp2_with fail
          refine HC12.out.mono ?_
          rintro e v12 ⟨rfl, b12⟩
          have f_s12 := f_s11.past b12
          have f_m12 := f_m11.past b12
          have f_k12 := f_k11.past b12
          have f_k312 := f_k311.past b12
          have f_in12 := f_in11.past b12
          have f_bel12 := f_bel11.trans (b12.mono f_bel11.size)
          have f_r112 := f_r111.past b12 f_r111.lt
          have f_r212 := f_r211.past b12 f_r211.lt
          have f_q112 := h11.past b12 h11.lt
          clear f_s11 f_m11 f_k11 f_k311 f_in11 f_bel11 f_r111 f_r211 h11 HC12 b12
          have x13 := Blk.new v12 31 (sg 0 nilS nilS)
          have bx13 : Below v12.heap.size v12 (v12.alloc (.cells (sg 0 nilS nilS).toArray 31)) := (Below.refl _ _).alloc (Nat.le_refl _) _
          go_upto_region 9 with (refine wp_storeA 31 (.tmp 13) (.tmp 47) rfl rfl v12.heap.size rfl 31 (sg 0 nilS nilS) (sg 0 nilS nilS) rfl x13 (by rw [info_sig]; rfl) rfl sg_one rfl ?_; intro y13 h13 k13)
          have bb13 : Below v12.heap.size v12 y13 := ((Keep.of_below bx13).trans (k13.mono (O' := fun q => q < v12.heap.size) (fun q hq => by omega))).below (fun q hq => hq) (Nat.le_refl _)
          have f_s13 := f_s12.past bb13
          have f_m13 := f_m12.past bb13
          have f_k13 := f_k12.past bb13
          have f_k313 := f_k312.past bb13
          have f_in13 := f_in12.past bb13
          have f_bel13 := f_bel12.trans (bb13.mono f_bel12.size)
          have f_r113 := f_r112.past bb13 f_r112.lt
          have f_r213 := f_r212.past bb13 f_r212.lt
          have f_q113 := f_q112.past bb13 f_q112.lt
          clear f_s12 f_m12 f_k12 f_k312 f_in12 f_bel12 f_r112 f_r212 f_q112 x13 bx13 k13 bb13
          obtain ⟨gq2, hgq2⟩ : ∃ g, g = v12.heap.size := ⟨_, rfl⟩
          rw [← hgq2] at h13 ⊢
          clear hgq2
          have HSM := Lib.hid (same_yes 0 none none none none 0 0 0 0 0 0 [] [] y13 (Row.nil_ _ _ _) (Row.nil_ _ _ _) (Row.nil_ _ _ _) (Row.nil_ _ _ _) (by decide) (by decide))
          clear hz hzs
          go_wp2_with (first
            | (refine wp_run rfl (exec_loadA 25 rfl gr1 rfl 25 _ 32 5 f_r113 Tryd.underlying25 (by rw [info_dig, HUR.out])) ?_)
            | (refine wp_run rfl (exec_loadA 25 rfl gr2 rfl 25 _ 32 5 f_r213 Tryd.underlying25 (by rw [info_dig, HUR.out])) ?_)
            | (refine wp_run rfl (exec_loadR 31 rfl gq1 rfl 31 (sg 0 nilS nilS) _ f_q113 Tryd.underlying31 rfl (by rw [info_sig]; rfl)) ?_)
            | (refine wp_run rfl (exec_loadR 31 rfl gq2 rfl 31 (sg 0 nilS nilS) _ h13 Tryd.underlying31 rfl (by rw [info_sig]; rfl)) ?_)
            | (refine wp_run rfl (exec_eqB rfl R R rfl rfl HRL.out HRL.out true (beq_self_eq_true _) _) ?_))
          refine HSM.out.mono ?_
          rintro e w9 ⟨rfl, b9⟩
          have bel9 := Below.trans f_bel13 (b9.mono (Below.size f_bel13))
          clear HSM
          go_wp2_with fail
          go_ret
          exact ⟨rfl, bel9⟩
      · skip
        have HRL : Hid (z32.length = 32) := Lib.hid rfl
        have HUR : Hid ((u8s z32).length = 32) := Lib.hid rfl
        have HC14 := Lib.hid (root_no _ s v1 f_s1 hs)
        go_wp2_with fail
        refine HC14.out.mono ?_
        rintro e v14 ⟨rfl, b14⟩
        have f_s14 := f_s1.past b14
        have f_m14 := f_m1.past b14
        have f_k14 := f_k1.past b14
        have f_k314 := f_k31.past b14
        have f_in14 := f_in1.past b14
        have f_bel14 := f_bel1.trans (b14.mono f_bel1.size)
        clear f_s1 f_m1 f_k1 f_k31 f_in1 f_bel1 HC14 b14
        have x15 := Blk.new v14 25 (u8s z32)
        have bx15 : Below v14.heap.size v14 (v14.alloc (.cells (u8s z32).toArray 25)) := (Below.refl _ _).alloc (Nat.le_refl _) _
        go_upto_region 6 with (refine wp_storeA 25 (.tmp 7) (.tmp 28) rfl rfl v14.heap.size rfl 25 (u8s z32) _ rfl x15 (by rw [info_dig, HUR.out]) (by first | (rw [HUR.out]; rfl) | rfl) (u8s_one _) rfl ?_; intro y15 h15 k15)
        have bb15 : Below v14.heap.size v14 y15 := ((Keep.of_below bx15).trans (k15.mono (O' := fun q => q < v14.heap.size) (fun q hq => by omega))).below (fun q hq => hq) (Nat.le_refl _)
        have f_s15 := f_s14.past bb15
        have f_m15 := f_m14.past bb15
        have f_k15 := f_k14.past bb15
        have f_k315 := f_k314.past bb15
        have f_in15 := f_in14.past bb15
        have f_bel15 := f_bel14.trans (bb15.mono f_bel14.size)
        clear f_s14 f_m14 f_k14 f_k314 f_in14 f_bel14 x15 bx15 k15 bb15
        obtain ⟨gr1, hgr1⟩ : ∃ g, g = v14.heap.size := ⟨_, rfl⟩
        rw [← hgr1] at h15 ⊢
        clear hgr1
        have HC16 := Lib.hid (rroot_no _ s y15 f_s15 hs)
        go_wp2_with fail
        refine HC16.out.mono ?_
        rintro e v16 ⟨rfl, b16⟩
        have f_s16 := f_s15.past b16
        have f_m16 := f_m15.past b16
        have f_k16 := f_k15.past b16
        have f_k316 := f_k315.past b16
        have f_in16 := f_in15.past b16
        have f_bel16 := f_bel15.trans (b16.mono f_bel15.size)
        have f_r116 := h15.past b16 h15.lt
        clear f_s15 f_m15 f_k15 f_k315 f_in15 f_bel15 h15 HC16 b16
        have x17 := Blk.new v16 25 (u8s z32)
        have bx17 : Below v16.heap.size v16 (v16.alloc (.cells (u8s z32).toArray 25)) := (Below.refl _ _).alloc (Nat.le_refl _) _
        go_upto_region 7 with (refine wp_storeA 25 (.tmp 9) (.tmp 33) rfl rfl v16.heap.size rfl 25 (u8s z32) _ rfl x17 (by rw [info_dig, HUR.out]) (by first | (rw [HUR.out]; rfl) | rfl) (u8s_one _) rfl ?_; intro y17 h17 k17)
        have bb17 : Below v16.heap.size v16 y17 := ((Keep.of_below bx17).trans (k17.mono (O' := fun q => q < v16.heap.size) (fun q hq => by omega))).below (fun q hq => hq) (Nat.le_refl _)
        have f_s17 := f_s16.past bb17
        have f_m17 := f_m16.past bb17
        have f_k17 := f_k16.past bb17
        have f_k317 := f_k316.past bb17
        have f_in17 := f_in16.past bb17
        have f_bel17 := f_bel16.trans (bb17.mono f_bel16.size)
        have f_r117 := f_r116.past bb17 f_r116.lt
        clear f_s16 f_m16 f_k16 f_k316 f_in16 f_bel16 f_r116 x17 bx17 k17 bb17
        obtain ⟨gr2, hgr2⟩ : ∃ g, g = v16.heap.size := ⟨_, rfl⟩
        rw [← hgr2] at h17 ⊢
        clear hgr2
        have HC18 := Lib.hid (ktsign_no _ _ s m ix y17 f_s17 f_m17 (fun h => hs ⟨h.1, h.2.1⟩))
        go_wp2_with fail
        refine HC18.out.mono ?_
        rintro e v18 ⟨rfl, b18⟩
        have f_s18 := f_s17.past b18
        have f_m18 := f_m17.past b18
        have f_k18 := f_k17.past b18
        have f_k318 := f_k317.past b18
        have f_in18 := f_in17.past b18
        have f_bel18 := f_bel17.trans (b18.mono f_bel17.size)
        have f_r118 := f_r117.past b18 f_r117.lt
        have f_r218 := h17.past b18 h17.lt
        clear f_s17 f_m17 f_k17 f_k317 f_in17 f_bel17 f_r117 h17 HC18 b18
        have x19 := Blk.new v18 31 (sg 0 nilS nilS)
        have bx19 : Below v18.heap.size v18 (v18.alloc (.cells (sg 0 nilS nilS).toArray 31)) := (Below.refl _ _).alloc (Nat.le_refl _) _
        go_upto_region 8 with (refine wp_storeA 31 (.tmp 11) (.tmp 40) rfl rfl v18.heap.size rfl 31 (sg 0 nilS nilS) (sg 0 nilS nilS) rfl x19 (by rw [info_sig]; rfl) rfl sg_one rfl ?_; intro y19 h19 k19)
        have bb19 : Below v18.heap.size v18 y19 := ((Keep.of_below bx19).trans (k19.mono (O' := fun q => q < v18.heap.size) (fun q hq => by omega))).below (fun q hq => hq) (Nat.le_refl _)
        have f_s19 := f_s18.past bb19
        have f_m19 := f_m18.past bb19
        have f_k19 := f_k18.past bb19
        have f_k319 := f_k318.past bb19
        have f_in19 := f_in18.past bb19
        have f_bel19 := f_bel18.trans (bb19.mono f_bel18.size)
        have f_r119 := f_r118.past bb19 f_r118.lt
        have f_r219 := f_r218.past bb19 f_r218.lt
        clear f_s18 f_m18 f_k18 f_k318 f_in18 f_bel18 f_r118 f_r218 x19 bx19 k19 bb19
        obtain ⟨gq1, hgq1⟩ : ∃ g, g = v18.heap.size := ⟨_, rfl⟩
        rw [← hgq1] at h19 ⊢
        clear hgq1
        have HC20 := Lib.hid (rsign5_no _ _ s m ix y19 f_s19 f_m19 (fun h => hs ⟨h.1, h.2.1⟩))
        go_wp2_with fail
        refine HC20.out.mono ?_
        rintro e v20 ⟨rfl, b20⟩
        have f_s20 := f_s19.past b20
        have f_m20 := f_m19.past b20
        have f_k20 := f_k19.past b20
        have f_k320 := f_k319.past b20
        have f_in20 := f_in19.past b20
        have f_bel20 := f_bel19.trans (b20.mono f_bel19.size)
        have f_r120 := f_r119.past b20 f_r119.lt
        have f_r220 := f_r219.past b20 f_r219.lt
        have f_q120 := h19.past b20 h19.lt
        clear f_s19 f_m19 f_k19 f_k319 f_in19 f_bel19 f_r119 f_r219 h19 HC20 b20
        have x21 := Blk.new v20 31 (sg 0 nilS nilS)
        have bx21 : Below v20.heap.size v20 (v20.alloc (.cells (sg 0 nilS nilS).toArray 31)) := (Below.refl _ _).alloc (Nat.le_refl _) _
        go_upto_region 9 with (refine wp_storeA 31 (.tmp 13) (.tmp 47) rfl rfl v20.heap.size rfl 31 (sg 0 nilS nilS) (sg 0 nilS nilS) rfl x21 (by rw [info_sig]; rfl) rfl sg_one rfl ?_; intro y21 h21 k21)
        have bb21 : Below v20.heap.size v20 y21 := ((Keep.of_below bx21).trans (k21.mono (O' := fun q => q < v20.heap.size) (fun q hq => by omega))).below (fun q hq => hq) (Nat.le_refl _)
        have f_s21 := f_s20.past bb21
        have f_m21 := f_m20.past bb21
        have f_k21 := f_k20.past bb21
        have f_k321 := f_k320.past bb21
        have f_in21 := f_in20.past bb21
        have f_bel21 := f_bel20.trans (bb21.mono f_bel20.size)
        have f_r121 := f_r120.past bb21 f_r120.lt
        have f_r221 := f_r220.past bb21 f_r220.lt
        have f_q121 := f_q120.past bb21 f_q120.lt
        clear f_s20 f_m20 f_k20 f_k320 f_in20 f_bel20 f_r120 f_r220 f_q120 x21 bx21 k21 bb21
        obtain ⟨gq2, hgq2⟩ : ∃ g, g = v20.heap.size := ⟨_, rfl⟩
        rw [← hgq2] at h21 ⊢
        clear hgq2
        have HSM := Lib.hid (same_yes 0 none none none none 0 0 0 0 0 0 [] [] y21 (Row.nil_ _ _ _) (Row.nil_ _ _ _) (Row.nil_ _ _ _) (Row.nil_ _ _ _) (by decide) (by decide))
        clear hz hzs
        go_wp2_with (first
          | (refine wp_run rfl (exec_loadA 25 rfl gr1 rfl 25 _ 32 5 f_r121 Tryd.underlying25 (by rw [info_dig, HUR.out])) ?_)
          | (refine wp_run rfl (exec_loadA 25 rfl gr2 rfl 25 _ 32 5 f_r221 Tryd.underlying25 (by rw [info_dig, HUR.out])) ?_)
          | (refine wp_run rfl (exec_loadR 31 rfl gq1 rfl 31 (sg 0 nilS nilS) _ f_q121 Tryd.underlying31 rfl (by rw [info_sig]; rfl)) ?_)
          | (refine wp_run rfl (exec_loadR 31 rfl gq2 rfl 31 (sg 0 nilS nilS) _ h21 Tryd.underlying31 rfl (by rw [info_sig]; rfl)) ?_)
          | (refine wp_run rfl (exec_eqB rfl z32 z32 rfl rfl HRL.out HRL.out true (beq_self_eq_true _) _) ?_))
        refine HSM.out.mono ?_
        rintro e w9 ⟨rfl, b9⟩
        have bel9 := Below.trans f_bel21 (b9.mono (Below.size f_bel21))
        clear HSM
        go_wp2_with fail
        go_ret
        exact ⟨rfl, bel9⟩
    · skip
      go_wp2
      go_ret
      exact ⟨rfl, f_bel1⟩
  · skip
    go_wp2
    go_ret
    exact ⟨rfl, f_bel1⟩
end Go.Proofs.YtccepoeenkpifaaDoor
