/-
  The walk of WotsSignedPrefix.
-/
import Derived.Test.YtnfhdjmehhapiaaDoorWtH
import Derived.Test.YtnfhdjmehhapiaaDoorWtI
import Derived.Test.YtnfhdjmehhapiaaDoorOpA
namespace Go.Proofs.YtnfhdjmehhapiaaDoor
open Go.RowKit
set_option linter.unusedVariables false
set_option linter.unusedSimpArgs false

theorem bs_len {w : World} {B : Nat} {v : Value} {l : List UInt8} (h : Bs w B v l) : l.length ≤ 9223372036854775807 := by
  obtain ⟨_, _, _, h1, h2, _⟩ := h
  unfold maxLen at h2
  omega
theorem ns_small (d : List UInt8) : ∀ x ∈ Wt.ns d, x < 1000000 := by
  intro x hx
  simp only [Wt.ns, List.mem_map] at hx
  obtain ⟨i, _, rfl⟩ := hx
  have := Wt.nn_le d i
  omega
theorem set_head {X d : List UInt8} {k : Nat} {c : UInt8} (h : d.take 8 = X.take 8) (hk : 8 ≤ k) : d.take 8 = (X.set k c).take 8 := by
  rw [h]
  apply List.ext_getElem?
  intro i
  rw [List.getElem?_take, List.getElem?_take]
  by_cases hi : i < 8
  · rw [if_pos hi, if_pos hi, List.getElem?_set_ne (by omega)]
  · rw [if_neg hi, if_neg hi]
theorem u8s_put (X : List UInt8) (k : Nat) (c : UInt8) : (u8s X).set k (.int .u8 (c.toNat : Int)) = u8s (X.set k c) := by unfold u8s; rw [List.map_set]; rfl

set_option maxRecDepth 100000 in
set_option maxHeartbeats 4000000 in
theorem wotsSignedPrefix_walk (v : Value) (s : List UInt8) (ix : Int) (d : List UInt8) (u : Value) (t : List UInt8) (W : World) (hv : Bs W W.heap.size v s) (hix : -9223372036854775808 ≤ ix ∧ ix ≤ 9223372036854775807) (hd : d.length = 32) (hu : Bs W W.heap.size u t) (hk : KIs 0 W) :
    Calls Tryd.prog 10 #[v, .int .i64 ix, .agg (u8s d).toArray, u] W fun e w' => e = .returned (.bool true) ∧ Below W.heap.size W w' := by
  obtain ⟨A, cap, rfl⟩ := hv.form
  obtain ⟨A2, cap2, rfl⟩ := hu.form
  have hsl := bs_len hv
  have htl := bs_len hu
  have HUD := Lib.hid (show (u8s d).length = 32 by rw [u8s_length, hd])
  have HD := Lib.hid hd
  have b0 : Below W.heap.size W (W.alloc (.cells (u8s d).toArray 23)) := (Below.refl _ _).alloc (Nat.le_refl _) _
  have hd0 : Blk (W.alloc (.cells (u8s d).toArray 23)) W.heap.size 23 (u8s d) := Blk.new W _ _
  obtain ⟨W0, hW0⟩ : ∃ W0, W0 = W.alloc (.cells (u8s d).toArray 23) := ⟨_, rfl⟩
  rw [← hW0] at b0 hd0
  have HW := Lib.hid hW0
  have hk0 := hk.past b0
  have HV := Lib.hid hv
  have HU := Lib.hid hu
  have HK := Lib.hid hk
  clear hW0 hd hv hu hk
  by_cases hlen : s.length ≤ 200
  · go_enter Tryd.func10, Tryd.ntmps10
    go_upto_region 1 with (fail)
    rw [← HW.out]
    go_wp2_with fail
    refine (sane_any W0 hk0).mono ?_
    rintro e w1 ⟨rfl, b1⟩
    have hd1 := hd0.past b1 hd0.lt
    have bl1 := b0.trans (b1.mono b0.size)
    have hz := zero_dig
    have hx1 := Blk.new w1 23 (u8s z32)
    have b12 : Below w1.heap.size w1 (w1.alloc (.cells (u8s z32).toArray 23)) := (Below.refl _ _).alloc (Nat.le_refl _) _
    clear hd0 hk0 b0 b1
    go_upto_region 6 with (first
      | (refine wp_run rfl (exec_loadA 23 rfl W.heap.size rfl 23 _ 32 5 hd1 Tryd.underlying23 (by rw [info_dig, HUD.out])) ?_)
      | (refine wp_storeA 23 (.tmp 9) (.tmp 22) rfl rfl w1.heap.size rfl 23 (u8s z32) (u8s d) rfl hx1 (by rw [info_dig, HUD.out]) (by rw [HUD.out]; rfl) (u8s_one _) rfl ?_; intro w2 hx2 hk2))
    have g12 : Below w1.heap.size w1 w2 := ((Keep.of_below b12).trans (hk2.mono (O' := fun q => q < w1.heap.size) (fun q hq => by omega))).below (fun q hq => hq) (Nat.le_refl _)
    have hd2 := hd1.past g12 hd1.lt
    have bl2 := bl1.trans (g12.mono bl1.size)
    have hgx := hd1.lt
    obtain ⟨gx, hgxe⟩ : ∃ gx, gx = w1.heap.size := ⟨_, rfl⟩
    rw [← hgxe] at hx2 hgx ⊢
    clear hgxe hx1 b12 hk2 g12 hd1 bl1
    go_wp2_with fail
    go_loopw [10] (fun i wr => ∃ (k : Nat) (X : List UInt8), i = .int .i64 k ∧ 8 ≤ k ∧ k ≤ 32 ∧ Hid (X.length = 32) ∧ Hid (d.take 8 = X.take 8) ∧ Blk wr W.heap.size 23 (u8s d) ∧ Blk wr gx 23 (u8s X) ∧ Below W.heap.size W wr) (fun i _ => 32 - (intOf i).toNat)
    case atStart => exact ⟨8, d, rfl, by omega, by omega, HD, Lib.hid rfl, hd2, hx2, bl2⟩
    case round =>
      clear hd2 hx2 bl2
      obtain ⟨k, X, rfl, hk8, hk32, HXL, HXE, hdr, hxr, hbl⟩ := hrel
      have hxlt := hxr.lt
      by_cases hin : k < 32 ∧ k - 8 < t.length
      · obtain ⟨hlt, hlt2⟩ := hin
        have hut := HU.out.past hbl
        obtain ⟨c, hc⟩ : ∃ c, t[k - 8]? = some c := ⟨_, List.getElem?_eq_getElem hlt2⟩
        have hcu : (u8s t)[k - 8]? = some (.int .u8 (c.toNat : Int)) := by simp [u8s, hc, Go.Proofs.YtnfhdjmehhapiaaDoor.u8]
        have HP := Lib.hid (u8s_put X k c)
        have HXU := Lib.hid (show (u8s X).length = 32 by rw [u8s_length, HXL.out])
        have HX2 : Hid ((X.set k c).length = 32) := Lib.hid (by rw [List.length_set, HXL.out])
        have HXE2 : Hid (d.take 8 = (X.set k c).take 8) := Lib.hid (set_head HXE.out hk8)
        obtain ⟨C, hC⟩ : ∃ C : Int, C = (c.toNat : Int) := ⟨_, rfl⟩
        rw [← hC] at hcu HP
        clear hc hC
        have hi1 : (k : Int) - 8 < (t.length : Int) := by omega
        go_wp2_with (first
          | (refine wp_at 29 5 Tryd.underlying29 size_u8 (.tmp 35) (.tmp 37) rfl rfl rfl hut _ _ (k - 8) _ rfl (by omega) hcu ?_; intro p hp1 hp2)
          | (refine wp_run rfl (exec_ixA 23 5 32 1 Tryd.underlying23 size_u8 wr rfl gx rfl _ _ k rfl rfl hlt (q := k) (by omega)) ?_)
          | (refine wp_store1 5 .u8 (.tmp 40) (.tmp 39) rfl rfl gx k rfl 23 _ _ rfl hxr (by rw [HXU.out]; omega) size_u8 rfl ?_; intro w4 hx4 hk4))
        rw [HP.out] at hx4
        have hd4 := hdr.keep hk4 (by omega)
        have b4 : Below W.heap.size W w4 := hbl.trans (hk4.below (n := W.heap.size) (fun q hq => by omega) hbl.size)
        clear hdr hxr hbl hk4 hut hcu
        go_roundw
        case rel => exact ⟨k + 1, X.set k c, by go_num, by omega, by omega, HX2, HXE2, hd4, hx4, b4⟩
        case measure => simp [intOf]; omega
      · have hz2 := zero_dig
        have HEX : Hid (Wt.nn d = Wt.nn X) := Lib.hid (Wt.nn_congr HXE.out)
        have hend : (k : Int) < 32 → ¬ (k : Int) - 8 < (t.length : Int) := fun h1 h2 => hin ⟨by omega, by omega⟩
        have hor : (¬ (k : Int) < 32) ∨ ((k : Int) < 32 ∧ ¬ (k : Int) - 8 < (t.length : Int)) := by
          by_cases h : (k : Int) < 32
          · exact .inr ⟨h, hend h⟩
          · exact .inl h
        clear hin hend
        rcases hor with hq1 | ⟨hq1, hq2⟩
        · go_upto_region 10 with (fail)
          have hv1 := HV.out.past hbl
          have hk1 := HK.out.past hbl
          clear hxlt hk8 hk32
          by_cases hok : 1 ≤ s.length ∧ s.length ≤ 64 ∧ 0 ≤ ix ∧ ix ≤ 1023
          · obtain ⟨h1, h2, h3, h4⟩ := hok
            obtain ⟨n, rfl⟩ := Int.eq_ofNat_of_zero_le h3
            have HP := Lib.hid (public_yes (.slice A s.length cap) s n wr hv1 h1 h2 (by omega) hk1)
            have HPL := Lib.hid (Wt.pub_len s n)
            have HREC := Lib.hid ((Wt.rec_congr (Wt.sig s n d) HXE.out.symm).trans (Wt.rec_sig s n d))
            have HSE := Lib.hid (Wt.sig_congr s n HXE.out)
            have HNE := Lib.hid (Wt.ns_congr HXE.out)
            go_wp2_with fail
            refine HP.out.mono ?_
            rintro e w2 ⟨rfl, b2⟩
            have hd2 := hdr.past b2 hdr.lt
            have hx2 := hxr.past b2 hxr.lt
            have hk2 := hk1.past b2
            have hv2 := hv1.past b2
            have bl2 := hbl.trans (b2.mono hbl.size)
            obtain ⟨P, hP⟩ : ∃ P, P = Wt.pub s n := ⟨_, rfl⟩
            rw [← hP] at HPL HREC ⊢
            have HUP := Lib.hid (show (u8s P).length = 32 by rw [u8s_length, HPL.out])
            have HXU := Lib.hid (show (u8s X).length = 32 by rw [u8s_length, HXL.out])
            have hp2 := Blk.new w2 23 (u8s z32)
            have b23 : Below w2.heap.size w2 (w2.alloc (.cells (u8s z32).toArray 23)) := (Below.refl _ _).alloc (Nat.le_refl _) _
            clear HP hP hdr hxr hk1 hv1 hbl b2
            go_upto_region 11 with (refine wp_storeA 23 (.tmp 11) (.tmp 45) rfl rfl w2.heap.size rfl 23 (u8s z32) _ rfl hp2 (by rw [info_dig, HUP.out]) (by rw [HUP.out]; rfl) (u8s_one _) rfl ?_; intro w4 hp4 hk4)
            have b24 : Below w2.heap.size w2 w4 := ((Keep.of_below b23).trans (hk4.mono (O' := fun q => q < w2.heap.size) (fun q hq => by omega))).below (fun q hq => hq) (Nat.le_refl _)
            have hd4 := hd2.past b24 hd2.lt
            have hx4 := hx2.past b24 hx2.lt
            have hkk4 := hk2.past b24
            have hv4 := hv2.past b24
            have bl4 := bl2.trans (b24.mono bl2.size)
            obtain ⟨gp, hgp⟩ : ∃ gp, gp = w2.heap.size := ⟨_, rfl⟩
            rw [← hgp] at hp4 ⊢
            clear hgp hp2 b23 hk4 b24 hd2 hx2 hk2 hv2 bl2
            have HS := Lib.hid (sign_yes (.slice A s.length cap) s d n w4 hv4 h1 h2 (by omega) HD.out hkk4)
            go_wp2_with (refine wp_run rfl (exec_loadA 23 rfl W.heap.size rfl 23 _ 32 5 hd4 Tryd.underlying23 (by rw [info_dig, HUD.out])) ?_)
            refine HS.out.mono ?_
            rintro e w5 ⟨gs, rfl, hs5, hgs, b5⟩
            have hd5 := hd4.past b5 hd4.lt
            have hx5 := hx4.past b5 hx4.lt
            have hp5 := hp4.past b5 hp4.lt
            have hk5 := hkk4.past b5
            have hv5 := hv4.past b5
            have bl5 := bl4.trans (b5.mono bl4.size)
            have HT0 := sign_yes (.slice A s.length cap) s X n w5 hv5 h1 h2 (by omega) HXL.out hk5
            rw [← HSE.out] at HT0
            obtain ⟨F, hF⟩ : ∃ F, F = Wt.sig s n d := ⟨_, rfl⟩
            have HFL := Lib.hid (show (u8s F).length = 18 * 32 by rw [hF, u8s_length, Wt.sig_len])
            rw [← hF] at hs5 HREC HT0
            have HT := Lib.hid HT0
            clear HS HT0 hF hd4 hx4 hp4 hkk4 hv4 bl4 b5 HSE
            go_wp2_with (refine wp_run rfl (exec_loadA 23 rfl gx rfl 23 _ 32 5 hx5 Tryd.underlying23 (by rw [info_dig, HXU.out])) ?_)
            refine HT.out.mono ?_
            rintro e w6 ⟨gt, rfl, ht6, hgt, b6⟩
            have hd6 := hd5.past b6 hd5.lt
            have hx6 := hx5.past b6 hx5.lt
            have hp6 := hp5.past b6 hp5.lt
            have hs6 := hs5.past b6 hs5.lt
            have hk6 := hk5.past b6
            have bl6 := bl5.trans (b6.mono bl5.size)
            clear HT hd5 hx5 hp5 hs5 hk5 hv5 bl5 b6 hz hz2
            go_upto_region 15 with (fail)
            have hdb := hd6.lt
            have hxb := hx6.lt
            have hpb := hp6.lt
            refine wp_region_pt w6.heap.size (.take 0 (.take 1 (.take 2 (.take 3 (.take 4 (.take 5 (.take 6 (.take 7 (.take 8 (.step 9 (.take 10 (.take 11 (.take 12 (.take 13 (.take 14 (.step 15 (.take 16 (.take 17 (.take 18 (.take 20 (.step 19 (.step 21 (.step 22 (.take 23 (.take 24 .done))))))))))))))))))))))))) (by kernel_rfl) (by kernel_rfl) (by kernel_rfl) (fun _ _ h => h) ?_
            have bd : Below w6.heap.size w6 w6.drew := (Below.refl _ _).drew
            have hd0 := hd6.past bd hdb
            have hx0 := hx6.past bd hxb
            have hp0 := hp6.past bd hpb
            have hs0 := hs6.past bd hs6.lt
            have ht0 := ht6.past bd ht6.lt
            have hk0 := hk6.past bd
            have bl0 := bl6.trans (bd.mono bl6.size)
            have z0 := bd.size
            obtain ⟨w0, hw0⟩ : ∃ w0, w0 = w6.drew := ⟨_, rfl⟩
            rw [← hw0] at hd0 hx0 hp0 hs0 ht0 hk0 bl0 z0 ⊢
            have hrs := row_of_blkS (s := 32) (n := 18) hs0 hs0.lt HFL.out (by decide)
            have hrt := row_of_blkS (s := 32) (n := 18) ht0 ht0.lt HFL.out (by decide)
            have hcd := digests_any _ _ F F 18 18 w0 hrs hrt (by decide) (by decide)
            rw [beq_self_eq_true] at hcd
            have HCD := Lib.hid hcd
            clear hw0 bd hd6 hx6 hp6 hs6 ht6 hk6 bl6 hcd hrs hrt
            first | refine pt_skip rfl rfl rfl rfl ?_ | (refine pt_take rfl rfl rfl rfl ?_; apply Exists.intro; refine ⟨fun w' hw' => ?_, ?_⟩; focus ((repeat (first | go_skip | go_guarded | go_step | go_upon | go_back)); exact ⟨rfl, rfl, rfl⟩))
            first | refine pt_skip rfl rfl rfl rfl ?_ | (refine pt_take rfl rfl rfl rfl ?_; apply Exists.intro; refine ⟨fun w' hw' => ?_, ?_⟩; focus ((repeat (first | go_skip | go_guarded | go_step | go_upon | go_back)); exact ⟨rfl, rfl, rfl⟩))
            first | refine pt_skip rfl rfl rfl rfl ?_ | (refine pt_take rfl rfl rfl rfl ?_; apply Exists.intro; refine ⟨fun w' hw' => ?_, ?_⟩; focus ((repeat (first | go_skip | go_guarded | go_step | go_upon | go_back)); exact ⟨rfl, rfl, rfl⟩))
            first | refine pt_skip rfl rfl rfl rfl ?_ | (refine pt_take rfl rfl rfl rfl ?_; apply Exists.intro; refine ⟨fun w' hw' => ?_, ?_⟩; focus ((repeat (first | go_skip | go_guarded | go_step | go_upon | go_back)); exact ⟨rfl, rfl, rfl⟩))
            first | refine pt_skip rfl rfl rfl rfl ?_ | (refine pt_take rfl rfl rfl rfl ?_; apply Exists.intro; refine ⟨fun w' hw' => ?_, ?_⟩; focus ((repeat (first | go_skip | go_guarded | go_step | go_upon | go_back)); exact ⟨rfl, rfl, rfl⟩))
            first | refine pt_skip rfl rfl rfl rfl ?_ | (refine pt_take rfl rfl rfl rfl ?_; apply Exists.intro; refine ⟨fun w' hw' => ?_, ?_⟩; focus ((repeat (first | go_skip | go_guarded | go_step | go_upon | go_back)); exact ⟨rfl, rfl, rfl⟩))
            first | refine pt_skip rfl rfl rfl rfl ?_ | (refine pt_take rfl rfl rfl rfl ?_; apply Exists.intro; refine ⟨fun w' hw' => ?_, ?_⟩; focus ((repeat (first | go_skip | go_guarded | go_step | go_upon | go_back)); exact ⟨rfl, rfl, rfl⟩))
            first | refine pt_skip rfl rfl rfl rfl ?_ | (refine pt_take rfl rfl rfl rfl ?_; apply Exists.intro; refine ⟨fun w' hw' => ?_, ?_⟩; focus ((repeat (first | go_skip | go_guarded | go_step | go_upon | go_back)); exact ⟨rfl, rfl, rfl⟩))
            first | refine pt_skip rfl rfl rfl rfl ?_ | (refine pt_take rfl rfl rfl rfl ?_; apply Exists.intro; refine ⟨fun w' hw' => ?_, ?_⟩; focus ((repeat (first | go_skip | go_guarded | go_step | go_upon | go_back)); exact ⟨rfl, rfl, rfl⟩))
            refine pt_step rfl ?_
            go_wp2_with fail
            refine HCD.out.mono ?_
            rintro e w7 ⟨rfl, b7⟩
            go_wp2_with fail
            refine ⟨rfl, b7.mono z0, ?_⟩
            have hd7 := hd0.past b7 hd0.lt
            have hx7 := hx0.past b7 hx0.lt
            have hp7 := hp0.past b7 hp0.lt
            have hs7 := hs0.past b7 hs0.lt
            have hk7 := hk0.past b7
            have bl7 := bl0.trans (b7.mono bl0.size)
            have z7 := Nat.le_trans z0 b7.size
            clear HCD hd0 hx0 hp0 hs0 ht0 hk0 bl0 z0 b7
            first | refine pt_skip rfl rfl rfl rfl ?_ | (refine pt_take rfl rfl rfl rfl ?_; apply Exists.intro; refine ⟨fun w' hw' => ?_, ?_⟩; focus ((repeat (first | go_skip | go_guarded | go_step | go_upon | go_back)); exact ⟨rfl, rfl, rfl⟩))
            first | refine pt_skip rfl rfl rfl rfl ?_ | (refine pt_take rfl rfl rfl rfl ?_; apply Exists.intro; refine ⟨fun w' hw' => ?_, ?_⟩; focus ((repeat (first | go_skip | go_guarded | go_step | go_upon | go_back)); exact ⟨rfl, rfl, rfl⟩))
            refine pt_take rfl rfl rfl rfl ?_
            apply Exists.intro
            refine ⟨fun w' hw' => ?_, ?_⟩
            · refine wp_run rfl (exec_loadA 23 rfl _ rfl 23 _ 32 5 (hp7.past hw' hpb) Tryd.underlying23 (by rw [info_dig, HUP.out])) ?_
              exact ⟨rfl, rfl, rfl⟩
            refine pt_take rfl rfl rfl rfl ?_
            apply Exists.intro
            refine ⟨fun w' hw' => ?_, ?_⟩
            · refine wp_run rfl (exec_loadA 23 rfl _ rfl 23 _ 32 5 (hx7.past hw' hxb) Tryd.underlying23 (by rw [info_dig, HXU.out])) ?_
              exact ⟨rfl, rfl, rfl⟩
            first | refine pt_skip rfl rfl rfl rfl ?_ | (refine pt_take rfl rfl rfl rfl ?_; apply Exists.intro; refine ⟨fun w' hw' => ?_, ?_⟩; focus ((repeat (first | go_skip | go_guarded | go_step | go_upon | go_back)); exact ⟨rfl, rfl, rfl⟩))
            have hver := verify_yes P X F (.slice (some ⟨gs, 0, none⟩) 18 18) w7 (row_of_blkS (s := 32) (n := 18) hs7 hs7.lt HFL.out (by decide)) HPL.out HXL.out hk7
            rw [HREC.out, beq_self_eq_true] at hver
            have HVR := Lib.hid hver
            clear hver
            refine pt_step rfl ?_
            go_wp2_with fail
            refine HVR.out.mono ?_
            rintro e w8 ⟨rfl, b8⟩
            go_wp2_with fail
            refine ⟨rfl, b8.mono z7, ?_⟩
            have hd8 := hd7.past b8 hd7.lt
            have hx8 := hx7.past b8 hx7.lt
            have bl8 := bl7.trans (b8.mono bl7.size)
            have z8 := Nat.le_trans z7 b8.size
            clear HVR hd7 hx7 hp7 hs7 hk7 bl7 z7 b8
            first | refine pt_skip rfl rfl rfl rfl ?_ | (refine pt_take rfl rfl rfl rfl ?_; apply Exists.intro; refine ⟨fun w' hw' => ?_, ?_⟩; focus ((repeat (first | go_skip | go_guarded | go_step | go_upon | go_back)); exact ⟨rfl, rfl, rfl⟩))
            first | refine pt_skip rfl rfl rfl rfl ?_ | (refine pt_take rfl rfl rfl rfl ?_; apply Exists.intro; refine ⟨fun w' hw' => ?_, ?_⟩; focus ((repeat (first | go_skip | go_guarded | go_step | go_upon | go_back)); exact ⟨rfl, rfl, rfl⟩))
            refine pt_take rfl rfl rfl rfl ?_
            apply Exists.intro
            refine ⟨fun w' hw' => ?_, ?_⟩
            · refine wp_run rfl (exec_loadA 23 rfl _ rfl 23 _ 32 5 (hd8.past hw' hdb) Tryd.underlying23 (by rw [info_dig, HUD.out])) ?_
              exact ⟨rfl, rfl, rfl⟩
            refine pt_take rfl rfl rfl rfl ?_
            apply Exists.intro
            refine ⟨fun w' hw' => ?_, ?_⟩
            · refine wp_run rfl (exec_loadA 23 rfl _ rfl 23 _ 32 5 (hx8.past hw' hxb) Tryd.underlying23 (by rw [info_dig, HXU.out])) ?_
              exact ⟨rfl, rfl, rfl⟩
            refine pt_step rfl ?_
            go_wp2_with fail
            refine (nibbles_any d w8 HD.out).mono ?_
            rintro e w9 ⟨g1, rfl, hm9, hg1, b9⟩
            go_wp2_with fail
            refine ⟨rfl, b9.mono z8, ?_⟩
            have bl9 := bl8.trans (b9.mono bl8.size)
            have z9 := Nat.le_trans z8 b9.size
            have hr9 : Row w9 w9.heap.size 1 (Wt.ns d).length (.slice (some ⟨g1, 0, none⟩) 18 18) (ins (Wt.ns d)) := by rw [Wt.ns_len]; exact row_of_blkS hm9 hm9.lt (by rw [ins_length, Wt.ns_len]) (by decide)
            have HR9 := Lib.hid hr9
            clear hd8 hx8 bl8 z8 b9 hm9 hr9
            refine pt_step rfl ?_
            go_wp2_with fail
            refine (nibbles_any X w9 HXL.out).mono ?_
            rintro e w10 ⟨g2, rfl, hn10, hg2, b10⟩
            go_wp2_with fail
            refine ⟨rfl, b10.mono z9, ?_⟩
            have bl10 := bl9.trans (b10.mono bl9.size)
            have z10 := Nat.le_trans z9 b10.size
            rw [← HNE.out] at hn10
            have hr10 : Row w10 w10.heap.size 1 (Wt.ns d).length (.slice (some ⟨g2, 0, none⟩) 18 18) (ins (Wt.ns d)) := by rw [Wt.ns_len]; exact row_of_blkS hn10 hn10.lt (by rw [ins_length, Wt.ns_len]) (by decide)
            have hci := ints_any _ _ _ _ w10 (HR9.out.past b10) hr10 (by rw [Wt.ns_len]; decide) (by rw [Wt.ns_len]; decide) (ns_small d) (ns_small d)
            rw [beq_self_eq_true] at hci
            have HCI := Lib.hid hci
            clear HR9 hr10 hn10 bl9 z9 b10 hci
            refine pt_step rfl ?_
            go_wp2_with fail
            refine HCI.out.mono ?_
            rintro e w11 ⟨rfl, b11⟩
            go_wp2_with fail
            refine ⟨rfl, b11.mono z10, ?_⟩
            have bl11 := bl10.trans (b11.mono bl10.size)
            clear HCI bl10 z10 b11
            first | refine pt_skip rfl rfl rfl rfl ?_ | (refine pt_take rfl rfl rfl rfl ?_; apply Exists.intro; refine ⟨fun w' hw' => ?_, ?_⟩; focus ((repeat (first | go_skip | go_guarded | go_step | go_upon | go_back)); exact ⟨rfl, rfl, rfl⟩))
            first | refine pt_skip rfl rfl rfl rfl ?_ | (refine pt_take rfl rfl rfl rfl ?_; apply Exists.intro; refine ⟨fun w' hw' => ?_, ?_⟩; focus ((repeat (first | go_skip | go_guarded | go_step | go_upon | go_back)); exact ⟨rfl, rfl, rfl⟩))
            change Exit.then _ _ Exit.normal _ _
            go_wp2
            go_ret
            exact ⟨rfl, bl11⟩
          · have HP := Lib.hid (public_no (.slice A s.length cap) s ix wr hv1 hok)
            have HXU := Lib.hid (show (u8s X).length = 32 by rw [u8s_length, HXL.out])
            go_wp2_with fail
            refine HP.out.mono ?_
            rintro e w2 ⟨rfl, b2⟩
            have hd2 := hdr.past b2 hdr.lt
            have hx2 := hxr.past b2 hxr.lt
            have hv2 := hv1.past b2
            have bl2 := hbl.trans (b2.mono hbl.size)
            have hp2 := Blk.new w2 23 (u8s z32)
            have b23 : Below w2.heap.size w2 (w2.alloc (.cells (u8s z32).toArray 23)) := (Below.refl _ _).alloc (Nat.le_refl _) _
            clear HP hdr hxr hk1 hv1 hbl b2
            go_upto_region 11 with (refine wp_storeA 23 (.tmp 11) (.tmp 45) rfl rfl w2.heap.size rfl 23 (u8s z32) (u8s z32) rfl hp2 (by rw [info_dig]; rfl) rfl (u8s_one _) rfl ?_; intro w4 hp4 hk4)
            have b24 : Below w2.heap.size w2 w4 := ((Keep.of_below b23).trans (hk4.mono (O' := fun q => q < w2.heap.size) (fun q hq => by omega))).below (fun q hq => hq) (Nat.le_refl _)
            have hd4 := hd2.past b24 hd2.lt
            have hx4 := hx2.past b24 hx2.lt
            have hv4 := hv2.past b24
            have bl4 := bl2.trans (b24.mono bl2.size)
            clear hp2 b23 hk4 b24 hd2 hx2 hv2 bl2 hp4
            have HS := Lib.hid (sign_no (.slice A s.length cap) s d ix w4 hv4 hok)
            go_wp2_with (refine wp_run rfl (exec_loadA 23 rfl W.heap.size rfl 23 _ 32 5 hd4 Tryd.underlying23 (by rw [info_dig, HUD.out])) ?_)
            refine HS.out.mono ?_
            rintro e w5 ⟨rfl, b5⟩
            have hx5 := hx4.past b5 hx4.lt
            have hv5 := hv4.past b5
            have bl5 := bl4.trans (b5.mono bl4.size)
            have HT := Lib.hid (sign_no (.slice A s.length cap) s X ix w5 hv5 hok)
            clear HS hd4 hx4 hv4 bl4 b5 hok
            go_wp2_with (refine wp_run rfl (exec_loadA 23 rfl gx rfl 23 _ 32 5 hx5 Tryd.underlying23 (by rw [info_dig, HXU.out])) ?_)
            refine HT.out.mono ?_
            rintro e w6 ⟨rfl, b6⟩
            have bl6 := bl5.trans (b6.mono bl5.size)
            clear HT hx5 hv5 bl5 b6
            go_wp2
            go_ret
            exact ⟨rfl, bl6⟩
        · go_upto_region 10 with (fail)
          have hv1 := HV.out.past hbl
          have hk1 := HK.out.past hbl
          clear hxlt hk8 hk32
          by_cases hok : 1 ≤ s.length ∧ s.length ≤ 64 ∧ 0 ≤ ix ∧ ix ≤ 1023
          · obtain ⟨h1, h2, h3, h4⟩ := hok
            obtain ⟨n, rfl⟩ := Int.eq_ofNat_of_zero_le h3
            have HP := Lib.hid (public_yes (.slice A s.length cap) s n wr hv1 h1 h2 (by omega) hk1)
            have HPL := Lib.hid (Wt.pub_len s n)
            have HREC := Lib.hid ((Wt.rec_congr (Wt.sig s n d) HXE.out.symm).trans (Wt.rec_sig s n d))
            have HSE := Lib.hid (Wt.sig_congr s n HXE.out)
            have HNE := Lib.hid (Wt.ns_congr HXE.out)
            go_wp2_with fail
            refine HP.out.mono ?_
            rintro e w2 ⟨rfl, b2⟩
            have hd2 := hdr.past b2 hdr.lt
            have hx2 := hxr.past b2 hxr.lt
            have hk2 := hk1.past b2
            have hv2 := hv1.past b2
            have bl2 := hbl.trans (b2.mono hbl.size)
            obtain ⟨P, hP⟩ : ∃ P, P = Wt.pub s n := ⟨_, rfl⟩
            rw [← hP] at HPL HREC ⊢
            have HUP := Lib.hid (show (u8s P).length = 32 by rw [u8s_length, HPL.out])
            have HXU := Lib.hid (show (u8s X).length = 32 by rw [u8s_length, HXL.out])
            have hp2 := Blk.new w2 23 (u8s z32)
            have b23 : Below w2.heap.size w2 (w2.alloc (.cells (u8s z32).toArray 23)) := (Below.refl _ _).alloc (Nat.le_refl _) _
            clear HP hP hdr hxr hk1 hv1 hbl b2
            go_upto_region 11 with (refine wp_storeA 23 (.tmp 11) (.tmp 45) rfl rfl w2.heap.size rfl 23 (u8s z32) _ rfl hp2 (by rw [info_dig, HUP.out]) (by rw [HUP.out]; rfl) (u8s_one _) rfl ?_; intro w4 hp4 hk4)
            have b24 : Below w2.heap.size w2 w4 := ((Keep.of_below b23).trans (hk4.mono (O' := fun q => q < w2.heap.size) (fun q hq => by omega))).below (fun q hq => hq) (Nat.le_refl _)
            have hd4 := hd2.past b24 hd2.lt
            have hx4 := hx2.past b24 hx2.lt
            have hkk4 := hk2.past b24
            have hv4 := hv2.past b24
            have bl4 := bl2.trans (b24.mono bl2.size)
            obtain ⟨gp, hgp⟩ : ∃ gp, gp = w2.heap.size := ⟨_, rfl⟩
            rw [← hgp] at hp4 ⊢
            clear hgp hp2 b23 hk4 b24 hd2 hx2 hk2 hv2 bl2
            have HS := Lib.hid (sign_yes (.slice A s.length cap) s d n w4 hv4 h1 h2 (by omega) HD.out hkk4)
            go_wp2_with (refine wp_run rfl (exec_loadA 23 rfl W.heap.size rfl 23 _ 32 5 hd4 Tryd.underlying23 (by rw [info_dig, HUD.out])) ?_)
            refine HS.out.mono ?_
            rintro e w5 ⟨gs, rfl, hs5, hgs, b5⟩
            have hd5 := hd4.past b5 hd4.lt
            have hx5 := hx4.past b5 hx4.lt
            have hp5 := hp4.past b5 hp4.lt
            have hk5 := hkk4.past b5
            have hv5 := hv4.past b5
            have bl5 := bl4.trans (b5.mono bl4.size)
            have HT0 := sign_yes (.slice A s.length cap) s X n w5 hv5 h1 h2 (by omega) HXL.out hk5
            rw [← HSE.out] at HT0
            obtain ⟨F, hF⟩ : ∃ F, F = Wt.sig s n d := ⟨_, rfl⟩
            have HFL := Lib.hid (show (u8s F).length = 18 * 32 by rw [hF, u8s_length, Wt.sig_len])
            rw [← hF] at hs5 HREC HT0
            have HT := Lib.hid HT0
            clear HS HT0 hF hd4 hx4 hp4 hkk4 hv4 bl4 b5 HSE
            go_wp2_with (refine wp_run rfl (exec_loadA 23 rfl gx rfl 23 _ 32 5 hx5 Tryd.underlying23 (by rw [info_dig, HXU.out])) ?_)
            refine HT.out.mono ?_
            rintro e w6 ⟨gt, rfl, ht6, hgt, b6⟩
            have hd6 := hd5.past b6 hd5.lt
            have hx6 := hx5.past b6 hx5.lt
            have hp6 := hp5.past b6 hp5.lt
            have hs6 := hs5.past b6 hs5.lt
            have hk6 := hk5.past b6
            have bl6 := bl5.trans (b6.mono bl5.size)
            clear HT hd5 hx5 hp5 hs5 hk5 hv5 bl5 b6 hz hz2
            go_upto_region 15 with (fail)
            have hdb := hd6.lt
            have hxb := hx6.lt
            have hpb := hp6.lt
            refine wp_region_pt w6.heap.size (.take 0 (.take 1 (.take 2 (.take 3 (.take 4 (.take 5 (.take 6 (.take 7 (.take 8 (.step 9 (.take 10 (.take 11 (.take 12 (.take 13 (.take 14 (.step 15 (.take 16 (.take 17 (.take 18 (.take 20 (.step 19 (.step 21 (.step 22 (.take 23 (.take 24 .done))))))))))))))))))))))))) (by kernel_rfl) (by kernel_rfl) (by kernel_rfl) (fun _ _ h => h) ?_
            have bd : Below w6.heap.size w6 w6.drew := (Below.refl _ _).drew
            have hd0 := hd6.past bd hdb
            have hx0 := hx6.past bd hxb
            have hp0 := hp6.past bd hpb
            have hs0 := hs6.past bd hs6.lt
            have ht0 := ht6.past bd ht6.lt
            have hk0 := hk6.past bd
            have bl0 := bl6.trans (bd.mono bl6.size)
            have z0 := bd.size
            obtain ⟨w0, hw0⟩ : ∃ w0, w0 = w6.drew := ⟨_, rfl⟩
            rw [← hw0] at hd0 hx0 hp0 hs0 ht0 hk0 bl0 z0 ⊢
            have hrs := row_of_blkS (s := 32) (n := 18) hs0 hs0.lt HFL.out (by decide)
            have hrt := row_of_blkS (s := 32) (n := 18) ht0 ht0.lt HFL.out (by decide)
            have hcd := digests_any _ _ F F 18 18 w0 hrs hrt (by decide) (by decide)
            rw [beq_self_eq_true] at hcd
            have HCD := Lib.hid hcd
            clear hw0 bd hd6 hx6 hp6 hs6 ht6 hk6 bl6 hcd hrs hrt
            first | refine pt_skip rfl rfl rfl rfl ?_ | (refine pt_take rfl rfl rfl rfl ?_; apply Exists.intro; refine ⟨fun w' hw' => ?_, ?_⟩; focus ((repeat (first | go_skip | go_guarded | go_step | go_upon | go_back)); exact ⟨rfl, rfl, rfl⟩))
            first | refine pt_skip rfl rfl rfl rfl ?_ | (refine pt_take rfl rfl rfl rfl ?_; apply Exists.intro; refine ⟨fun w' hw' => ?_, ?_⟩; focus ((repeat (first | go_skip | go_guarded | go_step | go_upon | go_back)); exact ⟨rfl, rfl, rfl⟩))
            first | refine pt_skip rfl rfl rfl rfl ?_ | (refine pt_take rfl rfl rfl rfl ?_; apply Exists.intro; refine ⟨fun w' hw' => ?_, ?_⟩; focus ((repeat (first | go_skip | go_guarded | go_step | go_upon | go_back)); exact ⟨rfl, rfl, rfl⟩))
            first | refine pt_skip rfl rfl rfl rfl ?_ | (refine pt_take rfl rfl rfl rfl ?_; apply Exists.intro; refine ⟨fun w' hw' => ?_, ?_⟩; focus ((repeat (first | go_skip | go_guarded | go_step | go_upon | go_back)); exact ⟨rfl, rfl, rfl⟩))
            first | refine pt_skip rfl rfl rfl rfl ?_ | (refine pt_take rfl rfl rfl rfl ?_; apply Exists.intro; refine ⟨fun w' hw' => ?_, ?_⟩; focus ((repeat (first | go_skip | go_guarded | go_step | go_upon | go_back)); exact ⟨rfl, rfl, rfl⟩))
            first | refine pt_skip rfl rfl rfl rfl ?_ | (refine pt_take rfl rfl rfl rfl ?_; apply Exists.intro; refine ⟨fun w' hw' => ?_, ?_⟩; focus ((repeat (first | go_skip | go_guarded | go_step | go_upon | go_back)); exact ⟨rfl, rfl, rfl⟩))
            first | refine pt_skip rfl rfl rfl rfl ?_ | (refine pt_take rfl rfl rfl rfl ?_; apply Exists.intro; refine ⟨fun w' hw' => ?_, ?_⟩; focus ((repeat (first | go_skip | go_guarded | go_step | go_upon | go_back)); exact ⟨rfl, rfl, rfl⟩))
            first | refine pt_skip rfl rfl rfl rfl ?_ | (refine pt_take rfl rfl rfl rfl ?_; apply Exists.intro; refine ⟨fun w' hw' => ?_, ?_⟩; focus ((repeat (first | go_skip | go_guarded | go_step | go_upon | go_back)); exact ⟨rfl, rfl, rfl⟩))
            first | refine pt_skip rfl rfl rfl rfl ?_ | (refine pt_take rfl rfl rfl rfl ?_; apply Exists.intro; refine ⟨fun w' hw' => ?_, ?_⟩; focus ((repeat (first | go_skip | go_guarded | go_step | go_upon | go_back)); exact ⟨rfl, rfl, rfl⟩))
            refine pt_step rfl ?_
            go_wp2_with fail
            refine HCD.out.mono ?_
            rintro e w7 ⟨rfl, b7⟩
            go_wp2_with fail
            refine ⟨rfl, b7.mono z0, ?_⟩
            have hd7 := hd0.past b7 hd0.lt
            have hx7 := hx0.past b7 hx0.lt
            have hp7 := hp0.past b7 hp0.lt
            have hs7 := hs0.past b7 hs0.lt
            have hk7 := hk0.past b7
            have bl7 := bl0.trans (b7.mono bl0.size)
            have z7 := Nat.le_trans z0 b7.size
            clear HCD hd0 hx0 hp0 hs0 ht0 hk0 bl0 z0 b7
            first | refine pt_skip rfl rfl rfl rfl ?_ | (refine pt_take rfl rfl rfl rfl ?_; apply Exists.intro; refine ⟨fun w' hw' => ?_, ?_⟩; focus ((repeat (first | go_skip | go_guarded | go_step | go_upon | go_back)); exact ⟨rfl, rfl, rfl⟩))
            first | refine pt_skip rfl rfl rfl rfl ?_ | (refine pt_take rfl rfl rfl rfl ?_; apply Exists.intro; refine ⟨fun w' hw' => ?_, ?_⟩; focus ((repeat (first | go_skip | go_guarded | go_step | go_upon | go_back)); exact ⟨rfl, rfl, rfl⟩))
            refine pt_take rfl rfl rfl rfl ?_
            apply Exists.intro
            refine ⟨fun w' hw' => ?_, ?_⟩
            · refine wp_run rfl (exec_loadA 23 rfl _ rfl 23 _ 32 5 (hp7.past hw' hpb) Tryd.underlying23 (by rw [info_dig, HUP.out])) ?_
              exact ⟨rfl, rfl, rfl⟩
            refine pt_take rfl rfl rfl rfl ?_
            apply Exists.intro
            refine ⟨fun w' hw' => ?_, ?_⟩
            · refine wp_run rfl (exec_loadA 23 rfl _ rfl 23 _ 32 5 (hx7.past hw' hxb) Tryd.underlying23 (by rw [info_dig, HXU.out])) ?_
              exact ⟨rfl, rfl, rfl⟩
            first | refine pt_skip rfl rfl rfl rfl ?_ | (refine pt_take rfl rfl rfl rfl ?_; apply Exists.intro; refine ⟨fun w' hw' => ?_, ?_⟩; focus ((repeat (first | go_skip | go_guarded | go_step | go_upon | go_back)); exact ⟨rfl, rfl, rfl⟩))
            have hver := verify_yes P X F (.slice (some ⟨gs, 0, none⟩) 18 18) w7 (row_of_blkS (s := 32) (n := 18) hs7 hs7.lt HFL.out (by decide)) HPL.out HXL.out hk7
            rw [HREC.out, beq_self_eq_true] at hver
            have HVR := Lib.hid hver
            clear hver
            refine pt_step rfl ?_
            go_wp2_with fail
            refine HVR.out.mono ?_
            rintro e w8 ⟨rfl, b8⟩
            go_wp2_with fail
            refine ⟨rfl, b8.mono z7, ?_⟩
            have hd8 := hd7.past b8 hd7.lt
            have hx8 := hx7.past b8 hx7.lt
            have bl8 := bl7.trans (b8.mono bl7.size)
            have z8 := Nat.le_trans z7 b8.size
            clear HVR hd7 hx7 hp7 hs7 hk7 bl7 z7 b8
            first | refine pt_skip rfl rfl rfl rfl ?_ | (refine pt_take rfl rfl rfl rfl ?_; apply Exists.intro; refine ⟨fun w' hw' => ?_, ?_⟩; focus ((repeat (first | go_skip | go_guarded | go_step | go_upon | go_back)); exact ⟨rfl, rfl, rfl⟩))
            first | refine pt_skip rfl rfl rfl rfl ?_ | (refine pt_take rfl rfl rfl rfl ?_; apply Exists.intro; refine ⟨fun w' hw' => ?_, ?_⟩; focus ((repeat (first | go_skip | go_guarded | go_step | go_upon | go_back)); exact ⟨rfl, rfl, rfl⟩))
            refine pt_take rfl rfl rfl rfl ?_
            apply Exists.intro
            refine ⟨fun w' hw' => ?_, ?_⟩
            · refine wp_run rfl (exec_loadA 23 rfl _ rfl 23 _ 32 5 (hd8.past hw' hdb) Tryd.underlying23 (by rw [info_dig, HUD.out])) ?_
              exact ⟨rfl, rfl, rfl⟩
            refine pt_take rfl rfl rfl rfl ?_
            apply Exists.intro
            refine ⟨fun w' hw' => ?_, ?_⟩
            · refine wp_run rfl (exec_loadA 23 rfl _ rfl 23 _ 32 5 (hx8.past hw' hxb) Tryd.underlying23 (by rw [info_dig, HXU.out])) ?_
              exact ⟨rfl, rfl, rfl⟩
            refine pt_step rfl ?_
            go_wp2_with fail
            refine (nibbles_any d w8 HD.out).mono ?_
            rintro e w9 ⟨g1, rfl, hm9, hg1, b9⟩
            go_wp2_with fail
            refine ⟨rfl, b9.mono z8, ?_⟩
            have bl9 := bl8.trans (b9.mono bl8.size)
            have z9 := Nat.le_trans z8 b9.size
            have hr9 : Row w9 w9.heap.size 1 (Wt.ns d).length (.slice (some ⟨g1, 0, none⟩) 18 18) (ins (Wt.ns d)) := by rw [Wt.ns_len]; exact row_of_blkS hm9 hm9.lt (by rw [ins_length, Wt.ns_len]) (by decide)
            have HR9 := Lib.hid hr9
            clear hd8 hx8 bl8 z8 b9 hm9 hr9
            refine pt_step rfl ?_
            go_wp2_with fail
            refine (nibbles_any X w9 HXL.out).mono ?_
            rintro e w10 ⟨g2, rfl, hn10, hg2, b10⟩
            go_wp2_with fail
            refine ⟨rfl, b10.mono z9, ?_⟩
            have bl10 := bl9.trans (b10.mono bl9.size)
            have z10 := Nat.le_trans z9 b10.size
            rw [← HNE.out] at hn10
            have hr10 : Row w10 w10.heap.size 1 (Wt.ns d).length (.slice (some ⟨g2, 0, none⟩) 18 18) (ins (Wt.ns d)) := by rw [Wt.ns_len]; exact row_of_blkS hn10 hn10.lt (by rw [ins_length, Wt.ns_len]) (by decide)
            have hci := ints_any _ _ _ _ w10 (HR9.out.past b10) hr10 (by rw [Wt.ns_len]; decide) (by rw [Wt.ns_len]; decide) (ns_small d) (ns_small d)
            rw [beq_self_eq_true] at hci
            have HCI := Lib.hid hci
            clear HR9 hr10 hn10 bl9 z9 b10 hci
            refine pt_step rfl ?_
            go_wp2_with fail
            refine HCI.out.mono ?_
            rintro e w11 ⟨rfl, b11⟩
            go_wp2_with fail
            refine ⟨rfl, b11.mono z10, ?_⟩
            have bl11 := bl10.trans (b11.mono bl10.size)
            clear HCI bl10 z10 b11
            first | refine pt_skip rfl rfl rfl rfl ?_ | (refine pt_take rfl rfl rfl rfl ?_; apply Exists.intro; refine ⟨fun w' hw' => ?_, ?_⟩; focus ((repeat (first | go_skip | go_guarded | go_step | go_upon | go_back)); exact ⟨rfl, rfl, rfl⟩))
            first | refine pt_skip rfl rfl rfl rfl ?_ | (refine pt_take rfl rfl rfl rfl ?_; apply Exists.intro; refine ⟨fun w' hw' => ?_, ?_⟩; focus ((repeat (first | go_skip | go_guarded | go_step | go_upon | go_back)); exact ⟨rfl, rfl, rfl⟩))
            change Exit.then _ _ Exit.normal _ _
            go_wp2
            go_ret
            exact ⟨rfl, bl11⟩
          · have HP := Lib.hid (public_no (.slice A s.length cap) s ix wr hv1 hok)
            have HXU := Lib.hid (show (u8s X).length = 32 by rw [u8s_length, HXL.out])
            go_wp2_with fail
            refine HP.out.mono ?_
            rintro e w2 ⟨rfl, b2⟩
            have hd2 := hdr.past b2 hdr.lt
            have hx2 := hxr.past b2 hxr.lt
            have hv2 := hv1.past b2
            have bl2 := hbl.trans (b2.mono hbl.size)
            have hp2 := Blk.new w2 23 (u8s z32)
            have b23 : Below w2.heap.size w2 (w2.alloc (.cells (u8s z32).toArray 23)) := (Below.refl _ _).alloc (Nat.le_refl _) _
            clear HP hdr hxr hk1 hv1 hbl b2
            go_upto_region 11 with (refine wp_storeA 23 (.tmp 11) (.tmp 45) rfl rfl w2.heap.size rfl 23 (u8s z32) (u8s z32) rfl hp2 (by rw [info_dig]; rfl) rfl (u8s_one _) rfl ?_; intro w4 hp4 hk4)
            have b24 : Below w2.heap.size w2 w4 := ((Keep.of_below b23).trans (hk4.mono (O' := fun q => q < w2.heap.size) (fun q hq => by omega))).below (fun q hq => hq) (Nat.le_refl _)
            have hd4 := hd2.past b24 hd2.lt
            have hx4 := hx2.past b24 hx2.lt
            have hv4 := hv2.past b24
            have bl4 := bl2.trans (b24.mono bl2.size)
            clear hp2 b23 hk4 b24 hd2 hx2 hv2 bl2 hp4
            have HS := Lib.hid (sign_no (.slice A s.length cap) s d ix w4 hv4 hok)
            go_wp2_with (refine wp_run rfl (exec_loadA 23 rfl W.heap.size rfl 23 _ 32 5 hd4 Tryd.underlying23 (by rw [info_dig, HUD.out])) ?_)
            refine HS.out.mono ?_
            rintro e w5 ⟨rfl, b5⟩
            have hx5 := hx4.past b5 hx4.lt
            have hv5 := hv4.past b5
            have bl5 := bl4.trans (b5.mono bl4.size)
            have HT := Lib.hid (sign_no (.slice A s.length cap) s X ix w5 hv5 hok)
            clear HS hd4 hx4 hv4 bl4 b5 hok
            go_wp2_with (refine wp_run rfl (exec_loadA 23 rfl gx rfl 23 _ 32 5 hx5 Tryd.underlying23 (by rw [info_dig, HXU.out])) ?_)
            refine HT.out.mono ?_
            rintro e w6 ⟨rfl, b6⟩
            have bl6 := bl5.trans (b6.mono bl5.size)
            clear HT hx5 hv5 bl5 b6
            go_wp2
            go_ret
            exact ⟨rfl, bl6⟩
  · go_enter Tryd.func10, Tryd.ntmps10
    go_upto_region 1 with (fail)
    rw [← HW.out]
    go_wp2_with fail
    refine (sane_any W0 hk0).mono ?_
    rintro e w1 ⟨rfl, b1⟩
    go_wp2
    go_ret
    exact ⟨rfl, b0.trans (b1.mono b0.size)⟩
end Go.Proofs.YtnfhdjmehhapiaaDoor
