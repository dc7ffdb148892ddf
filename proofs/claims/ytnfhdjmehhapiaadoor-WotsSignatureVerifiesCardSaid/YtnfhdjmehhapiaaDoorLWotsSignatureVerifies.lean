/-
  The walk of WotsSignatureVerifies.
-/
import Derived.Test.YtnfhdjmehhapiaaDoorWtH
import Derived.Test.YtnfhdjmehhapiaaDoorWtI
import Derived.Test.YtnfhdjmehhapiaaDoorOpA
namespace Go.Proofs.YtnfhdjmehhapiaaDoor
open Go.RowKit
set_option linter.unusedVariables false
set_option linter.unusedSimpArgs false

theorem bs_len {w : World} {B : Nat} {v : Value} {l : List UInt8} (h : Bs w B v l) : l.length ≤ 9223372036854775807 := by
  obtain ⟨_, _, _, h1, h2, _⟩ := h
  unfold maxLen at h2
  omega

set_option maxRecDepth 100000 in
set_option maxHeartbeats 2000000 in
theorem wotsSignatureVerifies_walk (v : Value) (s : List UInt8) (ix : Int) (d : List UInt8) (W : World) (hv : Bs W W.heap.size v s) (hix : -9223372036854775808 ≤ ix ∧ ix ≤ 9223372036854775807) (hd : d.length = 32) (hk : KIs 0 W) :
    Calls Tryd.prog 6 #[v, .int .i64 ix, .agg (u8s d).toArray] W fun e w' => e = .returned (.bool true) ∧ Below W.heap.size W w' := by
  obtain ⟨A, cap, rfl⟩ := hv.form
  have hsl := bs_len hv
  have HUD := Lib.hid (show (u8s d).length = 32 by rw [u8s_length, hd])
  have HD := Lib.hid hd
  have b0 : Below W.heap.size W (W.alloc (.cells (u8s d).toArray 23)) := (Below.refl _ _).alloc (Nat.le_refl _) _
  have hd0 : Blk (W.alloc (.cells (u8s d).toArray 23)) W.heap.size 23 (u8s d) := Blk.new W _ _
  obtain ⟨W0, hW0⟩ : ∃ W0, W0 = W.alloc (.cells (u8s d).toArray 23) := ⟨_, rfl⟩
  rw [← hW0] at b0 hd0
  have HW := Lib.hid hW0
  have hk0 := hk.past b0
  have hv0 := hv.past b0
  clear hW0 hd hv
  by_cases hlen : s.length ≤ 200
  · go_enter Tryd.func6, Tryd.ntmps6
    go_upto_region 1 with (fail)
    rw [← HW.out]
    go_wp2_with fail
    refine (sane_any W0 hk0).mono ?_
    rintro e w1 ⟨rfl, b1⟩
    have hd1 := hd0.past b1 hd0.lt
    have hk1 := hk0.past b1
    have hv1 := hv0.past b1
    have bl1 := b0.trans (b1.mono b0.size)
    have hz := zero_dig
    have hz2 := zero_ends
    clear hd0 hk0 hv0 b0 b1
    by_cases hok : 1 ≤ s.length ∧ s.length ≤ 64 ∧ 0 ≤ ix ∧ ix ≤ 1023
    · obtain ⟨h1, h2, h3, h4⟩ := hok
      obtain ⟨n, rfl⟩ := Int.eq_ofNat_of_zero_le h3
      have HP := Lib.hid (public_yes (.slice A s.length cap) s n w1 hv1 h1 h2 (by omega) hk1)
      have HPL := Lib.hid (Wt.pub_len s n)
      have HREC := Lib.hid (Wt.rec_sig s n d)
      go_wp2_with fail
      refine HP.out.mono ?_
      rintro e w2 ⟨rfl, b2⟩
      have hd2 := hd1.past b2 hd1.lt
      have hk2 := hk1.past b2
      have hv2 := hv1.past b2
      have bl2 := bl1.trans (b2.mono bl1.size)
      obtain ⟨P, hP⟩ : ∃ P, P = Wt.pub s n := ⟨_, rfl⟩
      rw [← hP] at HPL HREC ⊢
      have HUP := Lib.hid (show (u8s P).length = 32 by rw [u8s_length, HPL.out])
      have hp2 := Blk.new w2 23 (u8s z32)
      have b23 : Below w2.heap.size w2 (w2.alloc (.cells (u8s z32).toArray 23)) := (Below.refl _ _).alloc (Nat.le_refl _) _
      clear HP hP hd1 hk1 hv1 bl1 b2
      go_upto_region 6 with (refine wp_storeA 23 (.tmp 7) (.tmp 22) rfl rfl w2.heap.size rfl 23 (u8s z32) _ rfl hp2 (by rw [info_dig, HUP.out]) (by rw [HUP.out]; rfl) (u8s_one _) rfl ?_; intro w4 hp4 hk4)
      have b24 : Below w2.heap.size w2 w4 := ((Keep.of_below b23).trans (hk4.mono (O' := fun q => q < w2.heap.size) (fun q hq => by omega))).below (fun q hq => hq) (Nat.le_refl _)
      have hd4 := hd2.past b24 hd2.lt
      have hkk4 := hk2.past b24
      have hv4 := hv2.past b24
      have bl4 := bl2.trans (b24.mono bl2.size)
      obtain ⟨gp, hgp⟩ : ∃ gp, gp = w2.heap.size := ⟨_, rfl⟩
      rw [← hgp] at hp4 ⊢
      clear hgp hp2 b23 hk4 b24 hd2 hk2 hv2 bl2
      have HS := Lib.hid (sign_yes (.slice A s.length cap) s d n w4 hv4 h1 h2 (by omega) HD.out hkk4)
      go_wp2_with (refine wp_run rfl (exec_loadA 23 rfl W.heap.size rfl 23 _ 32 5 hd4 Tryd.underlying23 (by rw [info_dig, HUD.out])) ?_)
      refine HS.out.mono ?_
      rintro e w5 ⟨gs, rfl, hs5, hgs, b5⟩
      have hd5 := hd4.past b5 hd4.lt
      have hk5 := hkk4.past b5
      have hp5 := hp4.past b5 hp4.lt
      have bl5 := bl4.trans (b5.mono bl4.size)
      have HROW := Lib.hid (row_of_blkS (s := 32) (n := 18) hs5 hs5.lt (by rw [u8s_length, Wt.sig_len]) (by decide))
      obtain ⟨F, hF⟩ : ∃ F, F = Wt.sig s n d := ⟨_, rfl⟩
      rw [← hF] at hs5 HROW HREC
      have HFL := Lib.hid (show (u8s F).length = 576 by rw [hF, u8s_length, Wt.sig_len])
      have HR := Lib.hid (recover_yes d F (.slice (some ⟨gs, 0, none⟩) 18 18) w5 HROW.out HD.out hk5)
      clear HS hF hd4 hkk4 hv4 bl4 hp4 b5
      go_wp2_with (refine wp_run rfl (exec_loadA 23 rfl W.heap.size rfl 23 _ 32 5 hd5 Tryd.underlying23 (by rw [info_dig, HUD.out])) ?_)
      refine HR.out.mono ?_
      rintro e w6 ⟨rfl, b6⟩
      rw [HREC.out]
      have hd6 := hd5.past b6 hd5.lt
      have hk6 := hk5.past b6
      have hp6 := hp5.past b6 hp5.lt
      have hs6 := hs5.past b6 hs5.lt
      have bl6 := bl5.trans (b6.mono bl5.size)
      have hx6 := Blk.new w6 23 (u8s z32)
      have b67 : Below w6.heap.size w6 (w6.alloc (.cells (u8s z32).toArray 23)) := (Below.refl _ _).alloc (Nat.le_refl _) _
      clear HR HROW hd5 hk5 hp5 hs5 bl5 b6
      go_upto_region 12 with (refine wp_storeA 23 (.tmp 11) (.tmp 56) rfl rfl w6.heap.size rfl 23 (u8s z32) _ rfl hx6 (by rw [info_dig, HUP.out]) (by rw [HUP.out]; rfl) (u8s_one _) rfl ?_; intro w8 hx8 hk8)
      have b68 : Below w6.heap.size w6 w8 := ((Keep.of_below b67).trans (hk8.mono (O' := fun q => q < w6.heap.size) (fun q hq => by omega))).below (fun q hq => hq) (Nat.le_refl _)
      have hd8 := hd6.past b68 hd6.lt
      have hkk8 := hk6.past b68
      have hp8 := hp6.past b68 hp6.lt
      have hs8 := hs6.past b68 hs6.lt
      have bl8 := bl6.trans (b68.mono bl6.size)
      have HROW := Lib.hid (row_of_blkS (s := 32) (n := 18) hs8 hs8.lt (by rw [HFL.out]) (by decide))
      have hver := verify_yes P d F (.slice (some ⟨gs, 0, none⟩) 18 18) w8 HROW.out HPL.out HD.out hkk8
      rw [HREC.out, beq_self_eq_true] at hver
      have HV := Lib.hid hver
      have HQ : Hid ((P == P) = true) := Lib.hid (beq_self_eq_true P)
      clear hver hx6 b67 b68 hk8 hd6 hk6 hp6 hs6 bl6
      go_wp2_with (first
        | (refine wp_run rfl (exec_loadA 23 rfl w6.heap.size rfl 23 _ 32 5 hx8 Tryd.underlying23 (by rw [info_dig, HUP.out])) ?_)
        | (refine wp_run rfl (exec_loadA 23 rfl gp rfl 23 _ 32 5 hp8 Tryd.underlying23 (by rw [info_dig, HUP.out])) ?_)
        | (refine wp_run rfl (exec_loadA 23 rfl W.heap.size rfl 23 _ 32 5 hd8 Tryd.underlying23 (by rw [info_dig, HUD.out])) ?_)
        | (refine wp_run rfl (exec_eqB rfl P P rfl rfl HPL.out HPL.out _ HQ.out _) ?_))
      refine HV.out.mono ?_
      rintro e w9 ⟨rfl, b9⟩
      have bl9 := bl8.trans (b9.mono bl8.size)
      go_wp2
      go_ret
      exact ⟨rfl, bl9⟩
    · have HP := Lib.hid (public_no (.slice A s.length cap) s ix w1 hv1 hok)
      go_wp2_with fail
      refine HP.out.mono ?_
      rintro e w2 ⟨rfl, b2⟩
      have hd2 := hd1.past b2 hd1.lt
      have hv2 := hv1.past b2
      have bl2 := bl1.trans (b2.mono bl1.size)
      have hp2 := Blk.new w2 23 (u8s z32)
      have b23 : Below w2.heap.size w2 (w2.alloc (.cells (u8s z32).toArray 23)) := (Below.refl _ _).alloc (Nat.le_refl _) _
      clear HP hd1 hk1 hv1 bl1 b2
      go_upto_region 6 with (refine wp_storeA 23 (.tmp 7) (.tmp 22) rfl rfl w2.heap.size rfl 23 (u8s z32) (u8s z32) rfl hp2 (by rw [info_dig]; rfl) rfl (u8s_one _) rfl ?_; intro w4 hp4 hk4)
      have b24 : Below w2.heap.size w2 w4 := ((Keep.of_below b23).trans (hk4.mono (O' := fun q => q < w2.heap.size) (fun q hq => by omega))).below (fun q hq => hq) (Nat.le_refl _)
      have hd4 := hd2.past b24 hd2.lt
      have hv4 := hv2.past b24
      have bl4 := bl2.trans (b24.mono bl2.size)
      obtain ⟨gp, hgp⟩ : ∃ gp, gp = w2.heap.size := ⟨_, rfl⟩
      rw [← hgp] at hp4 ⊢
      clear hgp hp2 b23 hk4 b24 hd2 hv2 bl2
      have HS := Lib.hid (sign_no (.slice A s.length cap) s d ix w4 hv4 hok)
      go_wp2_with (refine wp_run rfl (exec_loadA 23 rfl W.heap.size rfl 23 _ 32 5 hd4 Tryd.underlying23 (by rw [info_dig, HUD.out])) ?_)
      refine HS.out.mono ?_
      rintro e w5 ⟨rfl, b5⟩
      have hp5 := hp4.past b5 hp4.lt
      have bl5 := bl4.trans (b5.mono bl4.size)
      have HQ : Hid ((!(z32 == z32)) = false) := Lib.hid (by rw [beq_self_eq_true]; rfl)
      clear HS hd4 hv4 bl4 hp4 b5 hok
      go_wp2_with (first
        | (refine wp_run rfl (exec_loadA 23 rfl gp rfl 23 _ 32 5 hp5 Tryd.underlying23 (by rw [info_dig]; rfl)) ?_)
        | (refine wp_run rfl (exec_neqD rfl z32 z32 rfl rfl rfl rfl _ HQ.out _) ?_))
      go_ret
      exact ⟨rfl, bl5⟩
  · go_enter Tryd.func6, Tryd.ntmps6
    go_upto_region 1 with (fail)
    rw [← HW.out]
    go_wp2_with fail
    refine (sane_any W0 hk0).mono ?_
    rintro e w1 ⟨rfl, b1⟩
    go_wp2
    go_ret
    exact ⟨rfl, b0.trans (b1.mono b0.size)⟩
end Go.Proofs.YtnfhdjmehhapiaaDoor
