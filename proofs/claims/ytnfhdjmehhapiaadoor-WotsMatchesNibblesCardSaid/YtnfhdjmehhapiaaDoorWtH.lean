/-
  The examples of layer 4: walks of filled and sane.
-/
import Derived.Test.YtnfhdjmehhapiaaDoorWtF
namespace Go.Proofs.YtnfhdjmehhapiaaDoor
open Go.RowKit
set_option linter.unusedVariables false
set_option linter.unusedSimpArgs false

def fillTo (c : UInt8) (k : Nat) : List UInt8 := List.replicate k c ++ List.replicate (32 - k) 0
theorem fillTo_put (c : UInt8) {k : Nat} (hk : k < 32) : (u8s (fillTo c k)).set k (.int .u8 (c.toNat : Int)) = u8s (fillTo c (k + 1)) := by
  have e : (List.replicate (32 - k) (0 : UInt8)) = 0 :: List.replicate (32 - (k + 1)) 0 := by
    rw [show 32 - k = (32 - (k + 1)) + 1 by omega, List.replicate_succ]
  unfold fillTo u8s
  rw [e, List.map_append, List.map_cons, List.set_append_right _ _ (by simp)]
  simp only [List.length_map, List.length_replicate, Nat.sub_self, List.set_cons_zero]
  rw [List.replicate_succ', List.map_append, List.map_append, List.append_assoc]
  rfl
def fil (c : UInt8) : List UInt8 := List.replicate 32 c
theorem fil_len (c : UInt8) : (fil c).length = 32 := by simp [fil]
theorem fillTo_done (c : UInt8) : fillTo c 32 = fil c := by simp [fillTo, fil]

set_option maxRecDepth 100000 in
set_option maxHeartbeats 1000000 in
theorem filled_any (c : UInt8) (w : World) : Calls Tryd.prog 27 #[.int .u8 (c.toNat : Int)] w fun e w' => e = .returned (.agg (u8s (fil c)).toArray) ∧ Below w.heap.size w w' := by
  have hz := zero_dig
  obtain ⟨W0, hW0⟩ : ∃ W0, W0 = (w.alloc (.cells (u8s z32).toArray 23)).alloc (.cells (u8s z32).toArray 23) := ⟨_, rfl⟩
  have b0 : Below w.heap.size w W0 := by rw [hW0]; exact ((Below.refl _ _).alloc (Nat.le_refl _) _).alloc (by simp) _
  have hr0 : Blk W0 w.heap.size 23 (u8s z32) := by
    rw [hW0]
    exact (Blk.new w _ _).past ((Below.refl _ _).alloc (Nat.le_refl _) _) (by simp)
  have hd0 : Blk W0 (w.heap.size + 1) 23 (u8s (fillTo c 0)) := by
    have h := Blk.new (w.alloc (.cells (u8s z32).toArray 23)) 23 (u8s z32)
    rw [World.size_alloc] at h
    rw [hW0]; exact h
  have HW := Lib.hid hW0
  clear hW0
  obtain ⟨C, hC⟩ : ∃ C : Int, C = (c.toNat : Int) := ⟨_, rfl⟩
  rw [← hC]
  have HC := Lib.hid hC
  clear hC
  go_enter Tryd.func27, Tryd.ntmps27
  go_upto_region 2 with (fail)
  rw [← HW.out]
  go_wp2_with fail
  clear hz
  go_loopw [4] (fun i wr => ∃ k : Nat, i = .int .i64 k ∧ k ≤ 32 ∧ Blk wr w.heap.size 23 (u8s z32) ∧ Blk wr (w.heap.size + 1) 23 (u8s (fillTo c k)) ∧ Below w.heap.size w wr) (fun i _ => 32 - (intOf i).toNat)
  case atStart => exact ⟨0, rfl, by omega, hr0, hd0, b0⟩
  case round =>
    clear hr0 hd0 b0
    obtain ⟨k, rfl, hk, hr, hd, hb⟩ := hrel
    have hs1 : w.heap.size + 1 < wr.heap.size := hd.lt
    by_cases hlt : k < 32
    · have HP := Lib.hid (fillTo_put c hlt)
      have HL : Hid ((u8s (fillTo c k)).length = 32) := Lib.hid (by rw [u8s_length, fillTo, List.length_append, List.length_replicate, List.length_replicate]; omega)
      go_wp2_with (first
        | (refine wp_run rfl (exec_ixA 23 5 32 1 Tryd.underlying23 size_u8 wr rfl (w.heap.size + 1) rfl _ _ k rfl rfl hlt (q := k) (by omega)) ?_)
        | (refine wp_store1 5 .u8 (.tmp 11) (.tmp 10) rfl rfl (w.heap.size + 1) k rfl 23 _ _ rfl hd (by rw [HL.out]; omega) size_u8 rfl ?_; intro w4 hd4 hk4))
      rw [HC.out, HP.out] at hd4
      have hr4 := hr.keep hk4 (by omega)
      have b4 : Below w.heap.size w w4 := hb.trans (hk4.below (n := w.heap.size) (fun q hq => by omega) hb.size)
      clear hr hd hb hk4
      go_roundw
      case rel => exact ⟨k + 1, by go_num, by omega, hr4, hd4, b4⟩
      case measure => simp [intOf]; omega
    · have hk32 : k = 32 := by omega
      rw [hk32, fillTo_done] at hd
      have HL : Hid ((u8s (fil c)).length = 32) := Lib.hid (by rw [u8s_length, fil_len])
      obtain ⟨D, hD⟩ : ∃ D, D = fil c := ⟨_, rfl⟩
      rw [← hD] at hd HL
      have HD := Lib.hid hD
      clear hD hk32
      go_wp2_with (first
        | (refine wp_run rfl (exec_loadA 23 rfl (w.heap.size + 1) rfl 23 _ 32 5 hd Tryd.underlying23 (by rw [info_dig, HL.out])) ?_)
        | (refine wp_storeA 23 (.tmp 2) (.tmp 12) rfl rfl w.heap.size rfl 23 (u8s z32) _ rfl hr (by rw [info_dig, HL.out]) (by rw [HL.out]; rfl) (u8s_one _) rfl ?_; intro w6 hr6 hk6))
      have b6 : Below w.heap.size w w6 := hb.trans (hk6.below (n := w.heap.size) (fun q hq => by omega) hb.size)
      refine ret_arr Tryd.results27 rfl w.heap.size 23 _ 32 5 rfl hr6 Tryd.underlying23 (by rw [info_dig, HL.out]) ?_
      rw [HD.out]
      exact ⟨rfl, b6⟩

theorem z32_fil : z32 = fil 0 := rfl
theorem ns_zero : Wt.ns z32 = [0, 0, 0, 0, 0, 0, 0, 0, 0, 0, 0, 0, 0, 0, 0, 0, 15, 0] := by decide +kernel
theorem ns_full : Wt.ns (fil 255) = [15, 15, 15, 15, 15, 15, 15, 15, 15, 15, 15, 15, 15, 15, 15, 15, 0, 0] := by decide +kernel

set_option maxRecDepth 100000 in
set_option maxHeartbeats 2000000 in
theorem sane_any (w : World) (hk : KIs 0 w) : Calls Tryd.prog 11 #[] w fun e w' => e = .returned (.bool true) ∧ Below w.heap.size w w' := by
  have hz := zero_dig
  have hn1 := nibbles_any z32 w (by decide)
  rw [ns_zero] at hn1
  have HN1 := Lib.hid hn1
  clear hn1
  go_enter Tryd.func11, Tryd.ntmps11
  go_upto_region 1 with (fail)
  go_wp2_with fail
  refine HN1.out.mono ?_
  rintro e w1 ⟨g1, rfl, hn1, hg1, b1⟩
  have k1 := hk.past b1
  go_wp2_with fail
  refine (filled_any 255 w1).mono ?_
  rintro e w2 ⟨rfl, b2⟩
  have b02 := b1.trans (b2.mono b1.size)
  have hn12 := hn1.past b2 hn1.lt
  have k2 := k1.past b2
  have hn2 := nibbles_any (fil 255) w2 (fil_len _)
  rw [ns_full] at hn2
  have HN2 := Lib.hid hn2
  clear hn2 hn1 k1 HN1
  go_wp2_with fail
  refine HN2.out.mono ?_
  rintro e w3 ⟨g2, rfl, hn3, hg2, b3⟩
  have b03 := b02.trans (b3.mono b02.size)
  have hn13 := hn12.past b3 hn12.lt
  have k3 := k2.past b3
  have c0 : w3.cell? ⟨g1, 0, none⟩ = some (.int .i64 0) := hn13.cell rfl
  have c15 : w3.cell? ⟨g1, 15, none⟩ = some (.int .i64 0) := hn13.cell rfl
  have c16 : w3.cell? ⟨g1, 16, none⟩ = some (.int .i64 15) := hn13.cell rfl
  have c17 : w3.cell? ⟨g1, 17, none⟩ = some (.int .i64 0) := hn13.cell rfl
  have d0 : w3.cell? ⟨g2, 0, none⟩ = some (.int .i64 15) := hn3.cell rfl
  have d15 : w3.cell? ⟨g2, 15, none⟩ = some (.int .i64 15) := hn3.cell rfl
  have d16 : w3.cell? ⟨g2, 16, none⟩ = some (.int .i64 0) := hn3.cell rfl
  have d17 : w3.cell? ⟨g2, 17, none⟩ = some (.int .i64 0) := hn3.cell rfl
  clear HN2 hn12 hn13 hn3 b02 b2 b3 k2
  go_upto_region 5 with (fail)
  clear c0 c15 c16 c17 d0 d15 d16 d17
  have a4 : Below w3.heap.size w3 (w3.alloc (.cells (u8s [1]).toArray 5)) := (Below.refl _ _).alloc (Nat.le_refl _) _
  have hp := public_yes (.slice (some ⟨w3.heap.size, 0, none⟩) 1 1) [1] 2 (w3.alloc (.cells (u8s [1]).toArray 5)) (own_lit_n w3 [1] (by decide)).bs (by decide) (by decide) (by omega) (k3.past a4)
  have HP := Lib.hid hp
  have b04 := b03.trans (a4.mono b03.size)
  have k4 := k3.past a4
  clear hp a4 k3
  go_wp2_with fail
  refine HP.out.mono ?_
  rintro e w5 ⟨rfl, b5⟩
  have b05 := b04.trans (b5.mono b04.size)
  have k5 := k4.past b5
  have HPL := Lib.hid (Wt.pub_len [1] 2)
  obtain ⟨P, hP⟩ : ∃ P, P = Wt.pub [1] 2 := ⟨_, rfl⟩
  rw [← hP] at HPL ⊢
  have HPP := Lib.hid hP
  have HUP := Lib.hid (show (u8s P).length = 32 by rw [u8s_length, HPL.out])
  have hq5 := Blk.new w5 23 (u8s z32)
  have b56 : Below w5.heap.size w5 (w5.alloc (.cells (u8s z32).toArray 23)) := (Below.refl _ _).alloc (Nat.le_refl _) _
  clear hP HP b5 k4 b04 b03
  go_upto_region 6 with (refine wp_storeA 23 (.tmp 3) (.tmp 72) rfl rfl w5.heap.size rfl 23 (u8s z32) _ rfl hq5 (by rw [info_dig, HUP.out]) (by rw [HUP.out]; rfl) (u8s_one _) rfl ?_; intro w6 hq6 hk6)
  have b56' : Below w5.heap.size w5 w6 := ((Keep.of_below b56).trans (hk6.mono (O' := fun q => q < w5.heap.size) (fun q hq => by omega))).below (fun q hq => hq) (Nat.le_refl _)
  have b06 := b05.trans (b56'.mono b05.size)
  have k6 := k5.past b56'
  obtain ⟨gp, hgp⟩ : ∃ gp, gp = w5.heap.size := ⟨_, rfl⟩
  rw [← hgp] at hq6 ⊢
  clear hgp hq5 b56 hk6 b56' b05 k5
  have a7 : Below w6.heap.size w6 (w6.alloc (.cells (u8s [1]).toArray 5)) := (Below.refl _ _).alloc (Nat.le_refl _) _
  have o7 : Bs (w6.alloc (.cells (u8s [1]).toArray 5)) (w6.alloc (.cells (u8s [1]).toArray 5)).heap.size (.slice (some ⟨w6.heap.size, 0, none⟩) 1 1) [1] := (own_lit_n w6 [1] (by decide)).bs
  have hf := filled_any 7 (w6.alloc (.cells (u8s [1]).toArray 5))
  have HF := Lib.hid hf
  have b07 := b06.trans (a7.mono b06.size)
  have hq7 := hq6.past a7 hq6.lt
  have k7 := k6.past a7
  clear hf a7 hq6 k6 b06
  go_wp2_with fail
  refine HF.out.mono ?_
  rintro e w8 ⟨rfl, b8⟩
  have o8 := o7.past b8
  have b08 := b07.trans (b8.mono b07.size)
  have hq8 := hq7.past b8 hq7.lt
  have k8 := k7.past b8
  have hsg := sign_yes (.slice (some ⟨w6.heap.size, 0, none⟩) 1 1) [1] (fil 7) 2 w8 o8 (by decide) (by decide) (by omega) (fil_len _) k8
  have HSG := Lib.hid hsg
  obtain ⟨g6, hg6⟩ : ∃ g6, g6 = w6.heap.size := ⟨_, rfl⟩
  rw [← hg6] at HSG ⊢
  clear hsg b8 o7 o8 hq7 k7 b07 HF hg6
  go_wp2_with fail
  refine HSG.out.mono ?_
  rintro e w9 ⟨gs, rfl, hs9, hgs, b9⟩
  have b09 := b08.trans (b9.mono b08.size)
  have hq9 := hq8.past b9 hq8.lt
  have k9 := k8.past b9
  have hpn := public_no (.slice none 0 0) [] 0 w9 (Bs.nil_ _ _) (by decide)
  have HPN := Lib.hid hpn
  clear hpn hq8 k8 b08 b9 HSG
  go_wp2_with fail
  refine HPN.out.mono ?_
  rintro e w10 ⟨rfl, b10⟩
  have b010 := b09.trans (b10.mono b09.size)
  have hq10 := hq9.past b10 hq9.lt
  have hs10 := hs9.past b10 hs9.lt
  have k10 := k9.past b10
  have hz10 := Blk.new w10 23 (u8s z32)
  have b11 : Below w10.heap.size w10 (w10.alloc (.cells (u8s z32).toArray 23)) := (Below.refl _ _).alloc (Nat.le_refl _) _
  clear HPN hq9 hs9 k9 b09 b10
  go_upto_region 8 with (refine wp_storeA 23 (.tmp 7) (.tmp 82) rfl rfl w10.heap.size rfl 23 (u8s z32) (u8s z32) rfl hz10 (by rw [info_dig]; rfl) rfl (u8s_one _) rfl ?_; intro w12 hz12 hk12)
  have b12 : Below w10.heap.size w10 w12 := ((Keep.of_below b11).trans (hk12.mono (O' := fun q => q < w10.heap.size) (fun q hq => by omega))).below (fun q hq => hq) (Nat.le_refl _)
  have b012 := b010.trans (b12.mono b010.size)
  have hq12 := hq10.past b12 hq10.lt
  have hs12 := hs10.past b12 hs10.lt
  have k12 := k10.past b12
  obtain ⟨gz, hgz⟩ : ∃ gz, gz = w10.heap.size := ⟨_, rfl⟩
  rw [← hgz] at hz12 ⊢
  clear hgz b11 b12 hz10 hk12 b010 hq10 hs10 k10 hz
  have hqb := hq12.lt
  refine wp_region_pt w12.heap.size (.take 0 (.take 1 (.take 2 (.take 3 (.take 4 (.take 5 (.take 6 (.take 7 (.take 8 (.take 9 (.take 10 (.take 11 (.take 12 (.take 14 (.step 13 (.step 15 (.take 16 (.take 17 (.take 18 (.take 19 (.take 20 (.take 21 .done)))))))))))))))))))))) (by kernel_rfl) (by kernel_rfl) (by kernel_rfl) (fun _ _ h => h) ?_
  obtain ⟨w0, hw0⟩ : ∃ w0, w0 = w12.drew := ⟨_, rfl⟩
  have hq0 : Blk w0 gp 23 (u8s P) := by rw [hw0]; exact hq12.drew
  have hs0 : Blk w0 gs 51 (u8s (Wt.sig [1] 2 (fil 7))) := by rw [hw0]; exact hs12.drew
  have k0 : KIs 0 w0 := by rw [hw0]; exact k12.past (Below.refl _ _).drew
  have b00 : Below w.heap.size w w0 := by rw [hw0]; exact b012.drew
  have z0 : w12.heap.size ≤ w0.heap.size := by rw [hw0]; exact (Below.refl w12.heap.size w12).drew.size
  rw [← hw0]
  clear hw0 hq12 hs12 k12 b012
  first | refine pt_skip rfl rfl rfl rfl ?_ | (refine pt_take rfl rfl rfl rfl ?_; apply Exists.intro; refine ⟨fun w' hw' => ?_, ?_⟩; focus ((repeat (first | go_skip | go_guarded | go_step | go_upon | go_back)); exact ⟨rfl, rfl, rfl⟩))
  first | refine pt_skip rfl rfl rfl rfl ?_ | (refine pt_take rfl rfl rfl rfl ?_; apply Exists.intro; refine ⟨fun w' hw' => ?_, ?_⟩; focus ((repeat (first | go_skip | go_guarded | go_step | go_upon | go_back)); exact ⟨rfl, rfl, rfl⟩))
  first | refine pt_skip rfl rfl rfl rfl ?_ | (refine pt_take rfl rfl rfl rfl ?_; apply Exists.intro; refine ⟨fun w' hw' => ?_, ?_⟩; focus ((repeat (first | go_skip | go_guarded | go_step | go_upon | go_back)); exact ⟨rfl, rfl, rfl⟩))
  first | refine pt_skip rfl rfl rfl rfl ?_ | (refine pt_take rfl rfl rfl rfl ?_; apply Exists.intro; refine ⟨fun w' hw' => ?_, ?_⟩; focus ((repeat (first | go_skip | go_guarded | go_step | go_upon | go_back)); exact ⟨rfl, rfl, rfl⟩))
  first | refine pt_skip rfl rfl rfl rfl ?_ | (refine pt_take rfl rfl rfl rfl ?_; apply Exists.intro; refine ⟨fun w' hw' => ?_, ?_⟩; focus ((repeat (first | go_skip | go_guarded | go_step | go_upon | go_back)); exact ⟨rfl, rfl, rfl⟩))
  first | refine pt_skip rfl rfl rfl rfl ?_ | (refine pt_take rfl rfl rfl rfl ?_; apply Exists.intro; refine ⟨fun w' hw' => ?_, ?_⟩; focus ((repeat (first | go_skip | go_guarded | go_step | go_upon | go_back)); exact ⟨rfl, rfl, rfl⟩))
  first | refine pt_skip rfl rfl rfl rfl ?_ | (refine pt_take rfl rfl rfl rfl ?_; apply Exists.intro; refine ⟨fun w' hw' => ?_, ?_⟩; focus ((repeat (first | go_skip | go_guarded | go_step | go_upon | go_back)); exact ⟨rfl, rfl, rfl⟩))
  first | refine pt_skip rfl rfl rfl rfl ?_ | (refine pt_take rfl rfl rfl rfl ?_; apply Exists.intro; refine ⟨fun w' hw' => ?_, ?_⟩; focus ((repeat (first | go_skip | go_guarded | go_step | go_upon | go_back)); exact ⟨rfl, rfl, rfl⟩))
  first | refine pt_skip rfl rfl rfl rfl ?_ | (refine pt_take rfl rfl rfl rfl ?_; apply Exists.intro; refine ⟨fun w' hw' => ?_, ?_⟩; focus ((repeat (first | go_skip | go_guarded | go_step | go_upon | go_back)); exact ⟨rfl, rfl, rfl⟩))
  first | refine pt_skip rfl rfl rfl rfl ?_ | (refine pt_take rfl rfl rfl rfl ?_; apply Exists.intro; refine ⟨fun w' hw' => ?_, ?_⟩; focus ((repeat (first | go_skip | go_guarded | go_step | go_upon | go_back)); exact ⟨rfl, rfl, rfl⟩))
  first | refine pt_skip rfl rfl rfl rfl ?_ | (refine pt_take rfl rfl rfl rfl ?_; apply Exists.intro; refine ⟨fun w' hw' => ?_, ?_⟩; focus ((repeat (first | go_skip | go_guarded | go_step | go_upon | go_back)); exact ⟨rfl, rfl, rfl⟩))
  first | refine pt_skip rfl rfl rfl rfl ?_ | (refine pt_take rfl rfl rfl rfl ?_; apply Exists.intro; refine ⟨fun w' hw' => ?_, ?_⟩; focus ((repeat (first | go_skip | go_guarded | go_step | go_upon | go_back)); exact ⟨rfl, rfl, rfl⟩))
  refine pt_take rfl rfl rfl rfl ?_
  apply Exists.intro
  refine ⟨fun w' hw' => ?_, ?_⟩
  · refine wp_run rfl (exec_loadA 23 rfl _ rfl 23 _ 32 5 (hq0.past hw' hqb) Tryd.underlying23 (by rw [info_dig, HUP.out])) ?_
    exact ⟨rfl, rfl, rfl⟩
  first | refine pt_skip rfl rfl rfl rfl ?_ | (refine pt_take rfl rfl rfl rfl ?_; apply Exists.intro; refine ⟨fun w' hw' => ?_, ?_⟩; focus ((repeat (first | go_skip | go_guarded | go_step | go_upon | go_back)); exact ⟨rfl, rfl, rfl⟩))
  refine pt_step rfl ?_
  go_wp2_with fail
  refine (filled_any 7 w0).mono ?_
  rintro e w1 ⟨rfl, b1⟩
  go_wp2_with fail
  refine ⟨rfl, b1.mono z0, ?_⟩
  have hs1 := hs0.past b1 hs0.lt
  have k1 := k0.past b1
  have b01 := b00.trans (b1.mono b00.size)
  have z1 := Nat.le_trans z0 b1.size
  clear hq0 hs0 k0 b00 b1 z0
  refine pt_step rfl ?_
  go_wp2_with fail
  refine (verify_yes P (fil 7) (Wt.sig [1] 2 (fil 7)) (.slice (some ⟨gs, 0, none⟩) 18 18) w1 (row_of_blkS hs1 hs1.lt (by rw [u8s_length, Wt.sig_len]) (by decide)) HPL.out (fil_len _) k1).mono ?_
  rintro e w2 ⟨rfl, b2⟩
  have hveq : (Wt.rec_ (fil 7) (Wt.sig [1] 2 (fil 7)) == P) = true := by rw [Wt.rec_sig, HPP.out]; exact beq_iff_eq.2 rfl
  rw [hveq]
  go_wp2_with fail
  refine ⟨rfl, b2.mono z1, ?_⟩
  have b02 := b01.trans (b2.mono b01.size)
  clear hs1 k1 b01 b2 hveq
  first | refine pt_skip rfl rfl rfl rfl ?_ | (refine pt_take rfl rfl rfl rfl ?_; apply Exists.intro; refine ⟨fun w' hw' => ?_, ?_⟩; focus ((repeat (first | go_skip | go_guarded | go_step | go_upon | go_back)); exact ⟨rfl, rfl, rfl⟩))
  first | refine pt_skip rfl rfl rfl rfl ?_ | (refine pt_take rfl rfl rfl rfl ?_; apply Exists.intro; refine ⟨fun w' hw' => ?_, ?_⟩; focus ((repeat (first | go_skip | go_guarded | go_step | go_upon | go_back)); exact ⟨rfl, rfl, rfl⟩))
  first | refine pt_skip rfl rfl rfl rfl ?_ | (refine pt_take rfl rfl rfl rfl ?_; apply Exists.intro; refine ⟨fun w' hw' => ?_, ?_⟩; focus ((repeat (first | go_skip | go_guarded | go_step | go_upon | go_back)); exact ⟨rfl, rfl, rfl⟩))
  first | refine pt_skip rfl rfl rfl rfl ?_ | (refine pt_take rfl rfl rfl rfl ?_; apply Exists.intro; refine ⟨fun w' hw' => ?_, ?_⟩; focus ((repeat (first | go_skip | go_guarded | go_step | go_upon | go_back)); exact ⟨rfl, rfl, rfl⟩))
  first | refine pt_skip rfl rfl rfl rfl ?_ | (refine pt_take rfl rfl rfl rfl ?_; apply Exists.intro; refine ⟨fun w' hw' => ?_, ?_⟩; focus ((repeat (first | go_skip | go_guarded | go_step | go_upon | go_back)); exact ⟨rfl, rfl, rfl⟩))
  first | refine pt_skip rfl rfl rfl rfl ?_ | (refine pt_take rfl rfl rfl rfl ?_; apply Exists.intro; refine ⟨fun w' hw' => ?_, ?_⟩; focus ((repeat (first | go_skip | go_guarded | go_step | go_upon | go_back)); exact ⟨rfl, rfl, rfl⟩))
  change Exit.then _ _ Exit.normal _ _
  go_wp2
  go_ret
  exact ⟨rfl, b02⟩
end Go.Proofs.YtnfhdjmehhapiaaDoor
