/-
  Walks of the reference's package for layer 4: recovery, verification.
  Walks of the reference's package for layer 4: verification.
-/
import Derived.Test.YtccepoeenkpifaaDoorWtS
namespace Go.Proofs.YtccepoeenkpifaaDoor
section
open Go.RowKit
set_option linter.unusedVariables false
set_option linter.unusedSimpArgs false

set_option maxRecDepth 100000 in
set_option maxHeartbeats 1000000 in
theorem rrecover_yes (d F : List UInt8) (v : Value) (w : World) (hv : Row w w.heap.size 32 18 v (u8s F)) (hd : d.length = 32) (hk : KIs 2 w) (hin : InIs 0 w) :
    Calls Tryd.prog 42 #[.agg (u8s d).toArray, v] w fun e w' => e = .returned (.tuple #[.agg (u8s (Wt.rec_ d F)).toArray, .int .i64 0]) ∧ Below w.heap.size w w' := by
  obtain ⟨A, cap, rfl⟩ := row_form hv
  obtain ⟨ad, rfl, had, _⟩ := hv.at_ (by omega)
  have HFL := Lib.hid (show F.length = 576 from row_flen hv)
  have hz := zero_dig
  have HUD := Lib.hid (show (u8s d).length = 32 by rw [u8s_length, hd])
  obtain ⟨W0, hW0⟩ : ∃ W0, W0 = (w.alloc (.cells (u8s d).toArray 25)).alloc (.cells (u8s z32).toArray 25) := ⟨_, rfl⟩
  have b0 : Below w.heap.size w W0 := by rw [hW0]; exact ((Below.refl _ _).alloc (Nat.le_refl _) _).alloc (by simp) _
  have hd0 : Blk W0 w.heap.size 25 (u8s d) := by
    rw [hW0]
    exact (Blk.new w _ _).past ((Below.refl _ _).alloc (Nat.le_refl _) _) (by simp)
  have hr0 : Blk W0 (w.heap.size + 1) 25 (u8s z32) := by
    have h := Blk.new (w.alloc (.cells (u8s d).toArray 25)) 25 (u8s z32)
    rw [World.size_alloc] at h
    rw [hW0]; exact h
  have HW := Lib.hid hW0
  have hc2 := rnibbles_any d W0 hd
  have HC2 := Lib.hid hc2
  clear hW0 hc2 hd
  go_enter Tryd.func42, Tryd.ntmps42
  go_upto_region 1 with (fail)
  rw [← HW.out]
  go_wp2_with (refine wp_run rfl (exec_loadA 25 rfl w.heap.size rfl 25 _ 32 5 hd0 Tryd.underlying25 (by rw [info_dig, HUD.out])) ?_)
  refine HC2.out.mono ?_
  rintro e w2 ⟨vn, rfl, hn2, b2⟩
  have b02 := b0.trans (b2.mono b0.size)
  obtain ⟨An, cn, rfl⟩ := row_form hn2
  obtain ⟨an, rfl, han, _⟩ := hn2.at_ (by omega)
  have hs02 := b02.size
  have hr2 := hr0.past b2 hr0.lt
  clear HC2 b2 hd0 b0 hr0 hz
  have hS3 := hr2.lt
  obtain ⟨S, hS⟩ : ∃ S, S = w2.heap.size := ⟨_, rfl⟩
  have hn2' : Row w2 S 1 18 (.slice (some an) 18 cn) (ins (Wt.ns d)) := by rw [hS]; exact hn2
  rw [← hS] at han hs02 hS3
  have hS2 : S ≤ w2.heap.size := by omega
  clear hS hn2
  go_wp2_with fail
  go_loopw [8, 7] (fun i q wr => ∃ k : Nat, i = .int .i64 k ∧ k ≤ 18 ∧ OwnD wr S q k (Wt.cat (Wt.recE d F) k) ∧ Row wr S 1 18 (.slice (some an) 18 cn) (ins (Wt.ns d)) ∧ Blk wr (w.heap.size + 1) 25 (u8s z32) ∧ S ≤ wr.heap.size ∧ Below w.heap.size w wr) (fun i _ _ => 18 - (intOf i).toNat)
  case atStart => exact ⟨0, rfl, by omega, OwnD.nil_ _ _, hn2', hr2, hS2, b02⟩
  case round =>
    clear hn2' b02 hS2 hr2
    obtain ⟨k, rfl, hkn, hq, hn, hr, hs1, hb⟩ := hrel
    by_cases hlt : k < 18
    · have HEL := Lib.hid (Wt.el_len (F := F) (n := 18) (i := k) HFL.out hlt)
      have HUE := Lib.hid (show (u8s (Wt.el F k)).length = 32 by rw [u8s_length, HEL.out])
      have hnl := Wt.nn_le d k
      have HCT := Lib.hid (show Wt.cat (Wt.recE d F) k ++ Wt.recE d F k = Wt.cat (Wt.recE d F) (k + 1) from rfl)
      obtain ⟨T, hT⟩ : ∃ T, T = Wt.cat (Wt.recE d F) k := ⟨_, rfl⟩
      rw [← hT] at hq HCT
      obtain ⟨D, hD⟩ : ∃ D, D = Wt.recE d F k := ⟨_, rfl⟩
      have HDL := Lib.hid (show D.length = 32 by rw [hD]; exact Wt.recE_len HFL.out hlt)
      rw [← hD] at HCT
      have HD := Lib.hid (show Sha.chain (Wt.el F k) (15 - Wt.nn d k) = D by rw [hD]; rfl)
      have cn0 : ∀ W, Below S wr W → W.cell? (an.add k) = some (.int .i64 ((Wt.nn d k : Nat) : Int)) := fun W hW => (hn.carry hW (Nat.le_refl _)).cells k _ (ins_get (Wt.ns_get d hlt))
      have ce0 : ∀ W, Below S wr W → ∀ j u, (u8s (Wt.el F k))[j]? = some u → W.cell? ((ad.add (k * 32)).add j) = some u := fun W hW => row_elem (((hv.carry hb (Nat.le_refl _)).mono hs02).carry hW (Nat.le_refl _)) hlt
      obtain ⟨n, hnn⟩ : ∃ n, n = Wt.nn d k := ⟨_, rfl⟩
      rw [← hnn] at cn0 HD hnl
      have CN := Lib.hid cn0
      have CE := Lib.hid ce0
      clear hT hD hnn cn0 ce0
      go_upto_region 8 with (fail)
      refine wp_region_pt S (.take 0 (.take 1 (.take 2 (.take 3 (.take 4 (.take 5 (.take 6 (.take 7 (.take 8 (.take 9 (.step 10 (.step 11 (.step 12 (.take 13 .done)))))))))))))) (by kernel_rfl) (by kernel_rfl) (by kernel_rfl) (fun _ _ h => h) ?_
      have bd : Below wr.heap.size wr wr.drew := (Below.refl _ _).drew
      have hq0 := hq.past bd
      have b0 : Below w.heap.size w wr.drew := hb.drew
      have hn0 := hn.carry (bd.mono hs1) (Nat.le_refl _)
      have hr0 := hr.past bd hr.lt
      have z0 : S ≤ wr.drew.heap.size := Nat.le_trans hs1 bd.size
      have bS : Below S wr wr.drew := bd.mono hs1
      obtain ⟨w0, hw0⟩ : ∃ w0, w0 = wr.drew := ⟨_, rfl⟩
      rw [← hw0] at hq0 b0 hn0 z0 bS hr0 ⊢
      clear hw0 bd hq hn hb hr
      first | refine pt_skip rfl rfl rfl rfl ?_ | (refine pt_take rfl rfl rfl rfl ?_; apply Exists.intro; refine ⟨fun w' hw' => ?_, ?_⟩; focus ((repeat (first | go_skip | go_guarded | go_step | go_upon | go_back)); exact ⟨rfl, rfl, rfl⟩))
      first | refine pt_skip rfl rfl rfl rfl ?_ | (refine pt_take rfl rfl rfl rfl ?_; apply Exists.intro; refine ⟨fun w' hw' => ?_, ?_⟩; focus ((repeat (first | go_skip | go_guarded | go_step | go_upon | go_back)); exact ⟨rfl, rfl, rfl⟩))
      first | refine pt_skip rfl rfl rfl rfl ?_ | (refine pt_take rfl rfl rfl rfl ?_; apply Exists.intro; refine ⟨fun w' hw' => ?_, ?_⟩; focus ((repeat (first | go_skip | go_guarded | go_step | go_upon | go_back)); exact ⟨rfl, rfl, rfl⟩))
      refine pt_take rfl rfl rfl rfl ?_
      apply Exists.intro
      refine ⟨fun w' hw' => ?_, ?_⟩
      · refine wp_run rfl (exec_ixS 29 25 32 Tryd.underlying29 info_dig w' rfl rfl _ _ k rfl rfl hlt (q := ad.add (k * 32)) rfl) ?_
        exact ⟨rfl, rfl, rfl⟩
      refine pt_take rfl rfl rfl rfl ?_
      apply Exists.intro
      refine ⟨fun w' hw' => ?_, ?_⟩
      · refine wp_run rfl (exec_loadP 25 rfl (ad.add (k * 32)) rfl (u8s (Wt.el F k)) 32 5 (CE.out w' (bS.trans hw')) Tryd.underlying25 (by rw [info_dig, HUE.out])) ?_
        exact ⟨rfl, rfl, rfl⟩
      first | refine pt_skip rfl rfl rfl rfl ?_ | (refine pt_take rfl rfl rfl rfl ?_; apply Exists.intro; refine ⟨fun w' hw' => ?_, ?_⟩; focus ((repeat (first | go_skip | go_guarded | go_step | go_upon | go_back)); exact ⟨rfl, rfl, rfl⟩))
      first | refine pt_skip rfl rfl rfl rfl ?_ | (refine pt_take rfl rfl rfl rfl ?_; apply Exists.intro; refine ⟨fun w' hw' => ?_, ?_⟩; focus ((repeat (first | go_skip | go_guarded | go_step | go_upon | go_back)); exact ⟨rfl, rfl, rfl⟩))
      refine pt_take rfl rfl rfl rfl ?_
      apply Exists.intro
      refine ⟨fun w' hw' => ?_, ?_⟩
      · refine wp_run rfl (exec_ixS 74 3 1 Tryd.underlying74 size_int w' rfl rfl _ _ k rfl rfl hlt (q := an.add k) (by rw [Nat.mul_one])) ?_
        exact ⟨rfl, rfl, rfl⟩
      refine pt_take rfl rfl rfl rfl ?_
      apply Exists.intro
      refine ⟨fun w' hw' => ?_, ?_⟩
      · have hcell := CN.out w' (bS.trans hw')
        focus ((repeat (first | go_skip | go_guarded | go_step | go_upon | go_back)); exact ⟨rfl, rfl, rfl⟩)
      first | refine pt_skip rfl rfl rfl rfl ?_ | (refine pt_take rfl rfl rfl rfl ?_; apply Exists.intro; refine ⟨fun w' hw' => ?_, ?_⟩; focus ((repeat (first | go_skip | go_guarded | go_step | go_upon | go_back)); exact ⟨rfl, rfl, rfl⟩))
      refine pt_step rfl ?_
      go_wp2_with fail
      refine (rchain_any (Wt.el F k) (15 - (n : Int)) w0 HEL.out (by omega) (by omega) (hk.past b0) (hin.past b0)).mono ?_
      rintro e w3 ⟨rfl, b3⟩
      rw [show (15 - (n : Int)).toNat = 15 - n by omega, HD.out]
      go_wp2_with fail
      refine ⟨rfl, b3.mono z0, ?_⟩
      have hq3 := hq0.past b3
      have hn3 := hn0.carry (b3.mono z0) (Nat.le_refl _)
      have hr3 := hr0.past b3 hr0.lt
      have bb3 := b0.trans (b3.mono b0.size)
      have z3 := Nat.le_trans z0 b3.size
      clear hq0 hn0 b0 z0 b3 bS hr0
      refine pt_step rfl ?_
      refine wp_buildD (.tmp 29) rfl rfl D HDL.out rfl ?_
      go_wp2_with fail
      refine ⟨rfl, (Below.refl _ _).alloc z3 _, ?_⟩
      refine pt_step rfl ?_
      refine wp_appD S (.tmp 19) (.tmp 30) rfl rfl _ k T D HDL.out rfl rfl hq3 z3 (by omega) ?_
      intro v4 w4 o4 b4 b4'
      go_wp2_with fail
      refine ⟨rfl, b4', ?_⟩
      have hn4 := hn3.carry b4 (Nat.le_refl _)
      have hr4 := hr3.past b4 hS3
      have bb4 := bb3.trans (b4.mono hs02)
      have z4 := Nat.le_trans z3 b4.size
      rw [HCT.out] at o4
      clear hq3 hn3 bb3 b4 b4' hr3
      first | refine pt_skip rfl rfl rfl rfl ?_ | (refine pt_take rfl rfl rfl rfl ?_; apply Exists.intro; refine ⟨fun w' hw' => ?_, ?_⟩; focus ((repeat (first | go_skip | go_guarded | go_step | go_upon | go_back)); exact ⟨rfl, rfl, rfl⟩))
      change Exit.inBlock _ _ Exit.normal _ _
      go_wp2
      go_roundw
      case rel => exact ⟨k + 1, by go_num, by omega, o4, hn4, hr4, z4, bb4⟩
      case measure => simp [intOf]; omega
    · have hk18 : k = 18 := by omega
      have hq' := hq
      rw [hk18] at hq'
      have hc := rkey_any _ (Wt.cat (Wt.recE d F) 18) wr hq'.row (hk.past hb) (hin.past hb)
      have HC := Lib.hid hc
      clear hq hq' hc hn
      subst hk18
      go_wp2_with fail
      refine HC.out.mono ?_
      rintro e w5 ⟨rfl, b5⟩
      have b05 := hb.trans (b5.mono hb.size)
      have hr5 := hr.past b5 hr.lt
      have hs5 : w.heap.size + 1 < w5.heap.size := hr5.lt
      clear HC hr b5
      have HKL : Hid ((u8s (Wt.rec_ d F)).length = 32) := Lib.hid (by rw [u8s_length, Wt.rec_len])
      obtain ⟨D, hD⟩ : ∃ D, D = Wt.rec_ d F := ⟨_, rfl⟩
      rw [← hD] at HKL
      have HD := Lib.hid (show Wt.key (Wt.cat (Wt.recE d F) 18) = D by rw [hD]; rfl)
      rw [HD.out]
      have HDD := Lib.hid hD
      clear hD
      go_wp2_with (refine wp_storeA 25 (.tmp 4) (.tmp 33) rfl rfl (w.heap.size + 1) rfl 25 (u8s z32) _ rfl hr5 (by rw [info_dig, HKL.out]) (by rw [HKL.out]; rfl) (u8s_one _) rfl ?_; intro w8 hr8 hk8)
      have b08 : Below w.heap.size w w8 := b05.trans (hk8.below (fun q hq => by omega) b05.size)
      refine ret_arr_tmp Tryd.results42 rfl (w.heap.size + 1) 25 _ 32 5 rfl hr8 Tryd.underlying25 (by rw [info_dig, HKL.out]) _ rfl ?_
      rw [HDD.out]
      exact ⟨rfl, b08⟩

set_option maxRecDepth 100000 in
set_option maxHeartbeats 1000000 in
theorem rrecover_no (d : List UInt8) (n : Nat) (A : Option Addr) (cap : Nat) (w : World) (hn : n ≠ 18) (hm : n ≤ 9223372036854775807) :
    Calls Tryd.prog 42 #[.agg (u8s d).toArray, .slice A n cap] w fun e w' => e = .returned (.tuple #[.agg (u8s z32).toArray, .int .i64 1]) ∧ Below w.heap.size w w' := by
  have hz := zero_dig
  obtain ⟨W0, hW0⟩ : ∃ W0, W0 = (w.alloc (.cells (u8s d).toArray 25)).alloc (.cells (u8s z32).toArray 25) := ⟨_, rfl⟩
  have b0 : Below w.heap.size w W0 := by rw [hW0]; exact ((Below.refl _ _).alloc (Nat.le_refl _) _).alloc (by simp) _
  have hr0 : Blk W0 (w.heap.size + 1) 25 (u8s z32) := by
    have h := Blk.new (w.alloc (.cells (u8s d).toArray 25)) 25 (u8s z32)
    rw [World.size_alloc] at h
    rw [hW0]; exact h
  have HW := Lib.hid hW0
  have hs0 : w.heap.size + 1 < W0.heap.size := hr0.lt
  have hne : ((n : Int) == 18) = false := beq_eq_false_iff_ne.2 (by omega)
  clear hW0
  go_enter Tryd.func42, Tryd.ntmps42
  go_upto_region 1 with (fail)
  rw [← HW.out]
  go_wp2_with (refine wp_storeA 25 (.tmp 4) (.tmp 12) rfl rfl (w.heap.size + 1) rfl 25 (u8s z32) (u8s z32) rfl hr0 (by rw [info_dig]; rfl) rfl (u8s_one _) rfl ?_; intro w8 hr8 hk8)
  have b08 : Below w.heap.size w w8 := b0.trans (hk8.below (fun q hq => by omega) b0.size)
  refine ret_arr_tmp Tryd.results42 rfl (w.heap.size + 1) 25 _ 32 5 rfl hr8 Tryd.underlying25 (by rw [info_dig]; rfl) _ rfl ?_
  exact ⟨rfl, b08⟩
end

end Go.Proofs.YtccepoeenkpifaaDoor
