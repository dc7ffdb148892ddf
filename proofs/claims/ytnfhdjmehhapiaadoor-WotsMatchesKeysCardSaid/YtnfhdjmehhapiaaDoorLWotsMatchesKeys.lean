/-
  The walk of WotsMatchesKeys.
-/
import Derived.Test.YtnfhdjmehhapiaaDoorWtH
import Derived.Test.YtnfhdjmehhapiaaDoorWtU
import Derived.Test.YtnfhdjmehhapiaaDoorWtI
import Derived.Test.YtnfhdjmehhapiaaDoorOpA
namespace Go.Proofs.YtnfhdjmehhapiaaDoor
open Go.RowKit
set_option linter.unusedVariables false
set_option linter.unusedSimpArgs false

theorem bs_len {w : World} {B : Nat} {v : Value} {l : List UInt8} (h : Bs w B v l) : l.length ≤ 9223372036854775807 := by
  obtain ⟨_, _, _, h1, h2, _⟩ := h
  unfold maxLen at h2
  omega

set_option maxRecDepth 100000 in
set_option maxHeartbeats 4000000 in
theorem wotsMatchesKeys_walk (v : Value) (s : List UInt8) (ix : Int) (d : List UInt8) (W : World) (hv : Bs W W.heap.size v s) (hix : -9223372036854775808 ≤ ix ∧ ix ≤ 9223372036854775807) (hd : d.length = 32) (hk3 : KIs 2 W) (hin : InIs 1 W) (hk : KIs 0 W) :
    Calls Tryd.prog 4 #[v, .int .i64 ix, .agg (u8s d).toArray] W fun e w' => e = .returned (.bool true) ∧ Below W.heap.size W w' := by
  obtain ⟨A, cap, rfl⟩ := hv.form
  have hsl := bs_len hv
  have HUD := Lib.hid (show (u8s d).length = 32 by rw [u8s_length, hd])
  have HD := Lib.hid hd
  have b0 : Below W.heap.size W (W.alloc (.cells (u8s d).toArray 23)) := (Below.refl _ _).alloc (Nat.le_refl _) _
  have hd0 : Blk (W.alloc (.cells (u8s d).toArray 23)) W.heap.size 23 (u8s d) := Blk.new W _ _
  obtain ⟨W0, hW0⟩ : ∃ W0, W0 = W.alloc (.cells (u8s d).toArray 23) := ⟨_, rfl⟩
  rw [← hW0] at b0 hd0
  have HW := Lib.hid hW0
  have hk0 := hk.past b0
  have HV := Lib.hid hv
  have HK := Lib.hid hk
  have HK3 := Lib.hid hk3
  have HIN := Lib.hid hin
  clear hW0 hd hv hk hk3 hin
  by_cases hlen : s.length ≤ 200
  · go_enter Tryd.func4, Tryd.ntmps4
    go_upto_region 1 with (fail)
    rw [← HW.out]
    go_wp2_with fail
    refine (sane_any W0 hk0).mono ?_
    rintro e w1 ⟨rfl, b1⟩
    have hd1 := hd0.past b1 hd0.lt
    have bl1 := b0.trans (b1.mono b0.size)
    have hz := zero_dig
    clear hd0 hk0 b0 b1
    by_cases hok : 1 ≤ s.length ∧ s.length ≤ 64 ∧ 0 ≤ ix ∧ ix ≤ 1023
    · obtain ⟨h1, h2, h3, h4⟩ := hok
      obtain ⟨n, rfl⟩ := Int.eq_ofNat_of_zero_le h3
      have HRL := Lib.hid (Wt.pub_len s n)
      have HP := Lib.hid (public_yes (.slice A s.length cap) s n w1 (HV.out.past bl1) h1 h2 (by omega) (HK.out.past bl1))
      go_wp2_with fail
      refine HP.out.mono ?_
      rintro e w2 ⟨rfl, b2⟩
      have hd2 := hd1.past b2 hd1.lt
      have bl2 := bl1.trans (b2.mono bl1.size)
      have HRR := Lib.hid (fun w h a => rpublic_yes (.slice A s.length cap) s n w h h1 h2 (by omega) a)
      obtain ⟨R, hR⟩ : ∃ R, R = Wt.pub s n := ⟨_, rfl⟩
      rw [← hR] at HRL HRR ⊢
      have HUR := Lib.hid (show (u8s R).length = 32 by rw [u8s_length, HRL.out])
      clear hR
      have hx2 := Blk.new w2 23 (u8s z32)
      have b23 : Below w2.heap.size w2 (w2.alloc (.cells (u8s z32).toArray 23)) := (Below.refl _ _).alloc (Nat.le_refl _) _
      clear HP hd1 bl1 b2
      go_upto_region 6 with (refine wp_storeA 23 (.tmp 7) (.tmp 24) rfl rfl w2.heap.size rfl 23 (u8s z32) (u8s R) rfl hx2 (by rw [info_dig, HUR.out]) (by first | rfl | (rw [HUR.out]; rfl)) (u8s_one _) rfl ?_; intro w4 hx4 hk4)
      have b24 : Below w2.heap.size w2 w4 := ((Keep.of_below b23).trans (hk4.mono (O' := fun q => q < w2.heap.size) (fun q hq => by omega))).below (fun q hq => hq) (Nat.le_refl _)
      have hd4 := hd2.past b24 hd2.lt
      have bl4 := bl2.trans (b24.mono bl2.size)
      obtain ⟨ga, hga⟩ : ∃ ga, ga = w2.heap.size := ⟨_, rfl⟩
      rw [← hga] at hx4 ⊢
      clear hga hx2 b23 hk4 b24 hd2 bl2
      have HREC := Lib.hid (HRR.out w4 (HV.out.past bl4) (HK3.out.past bl4) (HIN.out.past bl4))
      go_wp2_with fail
      refine HREC.out.mono ?_
      rintro e w5 ⟨rfl, b5⟩
      have hd5 := hd4.past b5 hd4.lt
      have hx5 := hx4.past b5 hx4.lt
      have bl5 := bl4.trans (b5.mono bl4.size)
      have hy5 := Blk.new w5 23 (u8s z32)
      have b56 : Below w5.heap.size w5 (w5.alloc (.cells (u8s z32).toArray 23)) := (Below.refl _ _).alloc (Nat.le_refl _) _
      clear HREC hd4 hx4 bl4 b5
      go_upto_region 7 with (refine wp_storeA 23 (.tmp 9) (.tmp 30) rfl rfl w5.heap.size rfl 23 (u8s z32) (u8s R) rfl hy5 (by rw [info_dig, HUR.out]) (by first | rfl | (rw [HUR.out]; rfl)) (u8s_one _) rfl ?_; intro w6 hy6 hk6)
      have b66 : Below w5.heap.size w5 w6 := ((Keep.of_below b56).trans (hk6.mono (O' := fun q => q < w5.heap.size) (fun q hq => by omega))).below (fun q hq => hq) (Nat.le_refl _)
      have hd6 := hd5.past b66 hd5.lt
      have hx6 := hx5.past b66 hx5.lt
      have bl6 := bl5.trans (b66.mono bl5.size)
      obtain ⟨gb, hgb⟩ : ∃ gb, gb = w5.heap.size := ⟨_, rfl⟩
      rw [← hgb] at hy6 ⊢
      clear hgb hy5 b56 hk6 b66 hd5 hx5 bl5
      have HS := Lib.hid (sign_yes (.slice A s.length cap) s d n w6 (HV.out.past bl6) h1 h2 (by omega) HD.out (HK.out.past bl6))
      go_wp2_with (refine wp_run rfl (exec_loadA 23 rfl (W.heap.size) rfl 23 _ 32 5 hd6 Tryd.underlying23 (by rw [info_dig, HUD.out])) ?_)
      refine HS.out.mono ?_
      rintro e w7 ⟨gs, rfl, hs7, hgs, b7⟩
      have hd7 := hd6.past b7 hd6.lt
      have hx7 := hx6.past b7 hx6.lt
      have hy7 := hy6.past b7 hy6.lt
      have bl7 := bl6.trans (b7.mono bl6.size)
      have HT0 := rsign_yes (.slice A s.length cap) s d n w7 (HV.out.past bl7) h1 h2 (by omega) HD.out (HK3.out.past bl7) (HIN.out.past bl7)
      obtain ⟨F, hF⟩ : ∃ F, F = Wt.sig s n d := ⟨_, rfl⟩
      have HFL := Lib.hid (show (u8s F).length = 18 * 32 by rw [hF, u8s_length, Wt.sig_len])
      rw [← hF] at hs7 HT0
      have HT := Lib.hid HT0
      clear HS HT0 hF hd6 hx6 hy6 bl6 b7
      go_wp2_with (refine wp_run rfl (exec_loadA 23 rfl (W.heap.size) rfl 23 _ 32 5 hd7 Tryd.underlying23 (by rw [info_dig, HUD.out])) ?_)
      refine HT.out.mono ?_
      rintro e w8 ⟨u, rfl, hr8, b8⟩
      obtain ⟨Au, cu, rfl⟩ := row_form hr8
      have hs8 := hs7.past b8 hs7.lt
      have hx8 := hx7.past b8 hx7.lt
      have hy8 := hy7.past b8 hy7.lt
      have bl8 := bl7.trans (b8.mono bl7.size)
      have HQ : Hid ((R == R) = true) := Lib.hid (beq_self_eq_true _)
      have hcd := digests_any _ _ F F 18 18 w8 (row_of_blkS (s := 32) (n := 18) hs8 hs8.lt HFL.out (by decide)) hr8 (by decide) (by decide)
      rw [beq_self_eq_true] at hcd
      have HCD := Lib.hid hcd
      clear HT hs7 hs8 hr8 hd7 hx7 hy7 bl7 b8 hcd hz
      go_wp2_with (first
        | (refine wp_run rfl (exec_loadA 23 rfl (ga) rfl 23 _ 32 5 hx8 Tryd.underlying23 (by rw [info_dig, HUR.out])) ?_)
        | (refine wp_run rfl (exec_loadA 23 rfl (gb) rfl 23 _ 32 5 hy8 Tryd.underlying23 (by rw [info_dig, HUR.out])) ?_)
        | (refine wp_run rfl (exec_eqB rfl R R rfl rfl HRL.out HRL.out _ HQ.out _) ?_))
      refine HCD.out.mono ?_
      rintro e w9 ⟨rfl, b9⟩
      have bl9 := bl8.trans (b9.mono bl8.size)
      go_wp2
      go_ret
      exact ⟨rfl, bl9⟩
    · have HP := Lib.hid (public_no (.slice A s.length cap) s ix w1 (HV.out.past bl1) hok)
      go_wp2_with fail
      refine HP.out.mono ?_
      rintro e w2 ⟨rfl, b2⟩
      have hd2 := hd1.past b2 hd1.lt
      have bl2 := bl1.trans (b2.mono bl1.size)
      have HUR := Lib.hid (show (u8s z32).length = 32 from rfl)
      have HRL := Lib.hid (show z32.length = 32 from rfl)
      have hx2 := Blk.new w2 23 (u8s z32)
      have b23 : Below w2.heap.size w2 (w2.alloc (.cells (u8s z32).toArray 23)) := (Below.refl _ _).alloc (Nat.le_refl _) _
      clear HP hd1 bl1 b2
      go_upto_region 6 with (refine wp_storeA 23 (.tmp 7) (.tmp 24) rfl rfl w2.heap.size rfl 23 (u8s z32) (u8s z32) rfl hx2 (by rw [info_dig, HUR.out]) (by first | rfl | (rw [HUR.out]; rfl)) (u8s_one _) rfl ?_; intro w4 hx4 hk4)
      have b24 : Below w2.heap.size w2 w4 := ((Keep.of_below b23).trans (hk4.mono (O' := fun q => q < w2.heap.size) (fun q hq => by omega))).below (fun q hq => hq) (Nat.le_refl _)
      have hd4 := hd2.past b24 hd2.lt
      have bl4 := bl2.trans (b24.mono bl2.size)
      obtain ⟨ga, hga⟩ : ∃ ga, ga = w2.heap.size := ⟨_, rfl⟩
      rw [← hga] at hx4 ⊢
      clear hga hx2 b23 hk4 b24 hd2 bl2
      have HREC := Lib.hid (rpublic_no (.slice A s.length cap) s ix w4 (HV.out.past bl4) hok)
      go_wp2_with fail
      refine HREC.out.mono ?_
      rintro e w5 ⟨rfl, b5⟩
      have hd5 := hd4.past b5 hd4.lt
      have hx5 := hx4.past b5 hx4.lt
      have bl5 := bl4.trans (b5.mono bl4.size)
      have hy5 := Blk.new w5 23 (u8s z32)
      have b56 : Below w5.heap.size w5 (w5.alloc (.cells (u8s z32).toArray 23)) := (Below.refl _ _).alloc (Nat.le_refl _) _
      clear HREC hd4 hx4 bl4 b5
      go_upto_region 7 with (refine wp_storeA 23 (.tmp 9) (.tmp 30) rfl rfl w5.heap.size rfl 23 (u8s z32) (u8s z32) rfl hy5 (by rw [info_dig, HUR.out]) (by first | rfl | (rw [HUR.out]; rfl)) (u8s_one _) rfl ?_; intro w6 hy6 hk6)
      have b66 : Below w5.heap.size w5 w6 := ((Keep.of_below b56).trans (hk6.mono (O' := fun q => q < w5.heap.size) (fun q hq => by omega))).below (fun q hq => hq) (Nat.le_refl _)
      have hd6 := hd5.past b66 hd5.lt
      have hx6 := hx5.past b66 hx5.lt
      have bl6 := bl5.trans (b66.mono bl5.size)
      obtain ⟨gb, hgb⟩ : ∃ gb, gb = w5.heap.size := ⟨_, rfl⟩
      rw [← hgb] at hy6 ⊢
      clear hgb hy5 b56 hk6 b66 hd5 hx5 bl5
      have HS := Lib.hid (sign_no (.slice A s.length cap) s d ix w6 (HV.out.past bl6) hok)
      go_wp2_with (refine wp_run rfl (exec_loadA 23 rfl (W.heap.size) rfl 23 _ 32 5 hd6 Tryd.underlying23 (by rw [info_dig, HUD.out])) ?_)
      refine HS.out.mono ?_
      rintro e w7 ⟨rfl, b7⟩
      have hd7 := hd6.past b7 hd6.lt
      have hx7 := hx6.past b7 hx6.lt
      have hy7 := hy6.past b7 hy6.lt
      have bl7 := bl6.trans (b7.mono bl6.size)
      have HT := Lib.hid (rsign_no (.slice A s.length cap) s d ix w7 (HV.out.past bl7) hok)
      clear HS hd6 hx6 hy6 bl6 b7
      go_wp2_with (refine wp_run rfl (exec_loadA 23 rfl (W.heap.size) rfl 23 _ 32 5 hd7 Tryd.underlying23 (by rw [info_dig, HUD.out])) ?_)
      refine HT.out.mono ?_
      rintro e w8 ⟨rfl, b8⟩
      have hx8 := hx7.past b8 hx7.lt
      have hy8 := hy7.past b8 hy7.lt
      have bl8 := bl7.trans (b8.mono bl7.size)
      have HQ : Hid ((z32 == z32) = true) := Lib.hid (beq_self_eq_true _)
      have hcd := digests_any _ _ [] [] 0 0 w8 (Row.nil_ _ _ _) (Row.nil_ _ _ _) (by decide) (by decide)
      rw [beq_self_eq_true] at hcd
      have HCD := Lib.hid hcd
      clear HT hd7 hx7 hy7 bl7 b8 hcd hz hok
      go_wp2_with (first
        | (refine wp_run rfl (exec_loadA 23 rfl (ga) rfl 23 _ 32 5 hx8 Tryd.underlying23 (by rw [info_dig, HUR.out])) ?_)
        | (refine wp_run rfl (exec_loadA 23 rfl (gb) rfl 23 _ 32 5 hy8 Tryd.underlying23 (by rw [info_dig, HUR.out])) ?_)
        | (refine wp_run rfl (exec_eqB rfl z32 z32 rfl rfl HRL.out HRL.out _ HQ.out _) ?_))
      refine HCD.out.mono ?_
      rintro e w9 ⟨rfl, b9⟩
      have bl9 := bl8.trans (b9.mono bl8.size)
      go_wp2
      go_ret
      exact ⟨rfl, bl9⟩
  · go_enter Tryd.func4, Tryd.ntmps4
    go_upto_region 1 with (fail)
    rw [← HW.out]
    go_wp2_with fail
    refine (sane_any W0 hk0).mono ?_
    rintro e w1 ⟨rfl, b1⟩
    go_wp2
    go_ret
    exact ⟨rfl, b0.trans (b1.mono b0.size)⟩
end Go.Proofs.YtnfhdjmehhapiaaDoor
