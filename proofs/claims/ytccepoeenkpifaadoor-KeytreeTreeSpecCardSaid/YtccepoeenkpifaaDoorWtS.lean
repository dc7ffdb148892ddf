/-
  Walks of the reference's package for layer 4: public keys, signatures.
  Walks of the reference's package for layer 4: signatures.
-/
import Derived.Test.YtccepoeenkpifaaDoorWtR
namespace Go.Proofs.YtccepoeenkpifaaDoor
section
open Go.RowKit
set_option linter.unusedVariables false
set_option linter.unusedSimpArgs false

set_option maxRecDepth 100000 in
set_option maxHeartbeats 1000000 in
theorem rpublic_yes (v : Value) (s : List UInt8) (ix : Nat) (w : World) (hv : Bs w w.heap.size v s) (h1 : 1 ≤ s.length) (h2 : s.length ≤ 64) (h4 : ix ≤ 1023) (hk : KIs 2 w) (hin : InIs 0 w) :
    Calls Tryd.prog 55 #[v, .int .i64 ix] w fun e w' => e = .returned (.tuple #[.agg (u8s (Wt.pub s ix)).toArray, .int .i64 0]) ∧ Below w.heap.size w w' := by
  obtain ⟨A, cap, rfl⟩ := hv.form
  have hz := zero_dig
  have b0 : Below w.heap.size w (w.alloc (.cells (u8s z32).toArray 25)) := (Below.refl _ _).alloc (Nat.le_refl _) _
  have hr0 : Blk (w.alloc (.cells (u8s z32).toArray 25)) w.heap.size 25 (u8s z32) := Blk.new w _ _
  obtain ⟨W0, hW0⟩ : ∃ W0, W0 = w.alloc (.cells (u8s z32).toArray 25) := ⟨_, rfl⟩
  rw [← hW0] at b0 hr0
  have HW := Lib.hid hW0
  have hc1 := rvalid_yes (.slice A s.length cap) s ix W0 (hv.past b0) h1 h2 (by omega) (by omega)
  have HC1 := Lib.hid hc1
  have hs2 : s.length ≤ 200 := by omega
  clear hW0 hc1
  go_enter Tryd.func55, Tryd.ntmps55
  go_upto_region 1 with (fail)
  rw [← HW.out]
  clear hz
  go_wp2_with fail
  refine HC1.out.mono ?_
  rintro e w' ⟨rfl, rfl⟩
  clear HC1
  go_wp2_with fail
  go_loopw [7, 6] (fun i q wr => ∃ k : Nat, i = .int .i64 k ∧ k ≤ 18 ∧ OwnD wr (w.heap.size + 1) q k (Wt.cat (Wt.pubE s ix) k) ∧ Blk wr w.heap.size 25 (u8s z32) ∧ Below w.heap.size w wr) (fun i _ _ => 18 - (intOf i).toNat)
  case atStart => exact ⟨0, rfl, by omega, OwnD.nil_ _ _, hr0, b0⟩
  case round =>
    clear hr0 b0
    obtain ⟨k, rfl, hkn, hq, hr, hb⟩ := hrel
    have hs1 : w.heap.size + 1 ≤ wr.heap.size := hr.lt
    by_cases hlt : k < 18
    · have hc2 := rstart_any (.slice A s.length cap) s ix k wr (hv.past hb) hs2 h4 hlt (hk.past hb) (hin.past hb)
      have HC2 := Lib.hid hc2
      have HSL := Lib.hid (Wt.start_len s ix k)
      have HCT := Lib.hid (show Wt.cat (Wt.pubE s ix) k ++ Wt.pubE s ix k = Wt.cat (Wt.pubE s ix) (k + 1) from rfl)
      obtain ⟨T, hT⟩ : ∃ T, T = Wt.cat (Wt.pubE s ix) k := ⟨_, rfl⟩
      rw [← hT] at hq HCT
      obtain ⟨D, hD⟩ : ∃ D, D = Wt.pubE s ix k := ⟨_, rfl⟩
      have HDL := Lib.hid (show D.length = 32 by rw [hD]; exact Wt.pubE_len s ix k)
      rw [← hD] at HCT
      have HD := Lib.hid (show Sha.chain (Wt.start s ix k) (15 : Int).toNat = D by rw [hD]; rfl)
      clear hc2 hT hD
      go_wp2_with fail
      refine HC2.out.mono ?_
      rintro e w2 ⟨rfl, b2⟩
      have hq2 := hq.past b2
      have hr2 := hr.past b2 hr.lt
      have bb2 := hb.trans (b2.mono hb.size)
      have hc3 := rchain_any (Wt.start s ix k) 15 w2 HSL.out (by omega) (by omega) (hk.past bb2) (hin.past bb2)
      rw [HD.out] at hc3
      have HC3 := Lib.hid hc3
      clear hc3 HC2 hq hr hb b2
      go_wp2_with fail
      refine HC3.out.mono ?_
      rintro e w3 ⟨rfl, b3⟩
      have hq3 := hq2.past b3
      have hr3 := hr2.past b3 hr2.lt
      have bb3 := bb2.trans (b3.mono bb2.size)
      have hs3 : w.heap.size + 1 ≤ w3.heap.size := hr3.lt
      clear HC3 hq2 hr2 bb2 b3
      go_wp2_with (first
        | (refine wp_buildD (.tmp 22) rfl rfl D HDL.out rfl ?_)
        | (refine wp_appD (w.heap.size + 1) (.tmp 17) (.tmp 23) rfl rfl _ k T D HDL.out rfl rfl hq3 hs3 (by omega) ?_; intro v4 w4 o4 b4 _))
      have hr4 := hr3.past b4 (by omega)
      have bb4 := bb3.trans (b4.mono (by omega))
      rw [HCT.out] at o4
      clear hq3 hr3 bb3
      go_roundw
      case rel => exact ⟨k + 1, by go_num, by omega, o4, hr4, bb4⟩
      case measure => simp [intOf]; omega
    · have hk18 : k = 18 := by omega
      have hq' := hq
      rw [hk18] at hq'
      have hc := rkey_any _ (Wt.cat (Wt.pubE s ix) 18) wr hq'.row (hk.past hb) (hin.past hb)
      have HC := Lib.hid hc
      clear hq hq' hc
      subst hk18
      go_wp2_with fail
      refine HC.out.mono ?_
      rintro e w5 ⟨rfl, b5⟩
      have b05 := hb.trans (b5.mono hb.size)
      have hr5 := hr.past b5 hr.lt
      have hs5 : w.heap.size < w5.heap.size := hr5.lt
      clear HC hr b5
      have HKL : Hid ((u8s (Wt.pub s ix)).length = 32) := Lib.hid (by rw [u8s_length, Wt.pub_len])
      obtain ⟨D, hD⟩ : ∃ D, D = Wt.pub s ix := ⟨_, rfl⟩
      rw [← hD] at HKL
      have HD := Lib.hid (show Wt.key (Wt.cat (Wt.pubE s ix) 18) = D by rw [hD]; rfl)
      rw [HD.out]
      have HDD := Lib.hid hD
      clear hD
      go_wp2_with (refine wp_storeA 25 (.tmp 4) (.tmp 26) rfl rfl w.heap.size rfl 25 (u8s z32) _ rfl hr5 (by rw [info_dig, HKL.out]) (by rw [HKL.out]; rfl) (u8s_one _) rfl ?_; intro w8 hr8 hk8)
      have b08 : Below w.heap.size w w8 := b05.trans (hk8.below (fun q hq => by omega) b05.size)
      refine ret_arr_tmp Tryd.results55 rfl w.heap.size 25 _ 32 5 rfl hr8 Tryd.underlying25 (by rw [info_dig, HKL.out]) _ rfl ?_
      rw [HDD.out]
      exact ⟨rfl, b08⟩

set_option maxRecDepth 100000 in
set_option maxHeartbeats 1000000 in
theorem rpublic_no (v : Value) (s : List UInt8) (ix : Int) (w : World) (hv : Bs w w.heap.size v s) (h : ¬ (1 ≤ s.length ∧ s.length ≤ 64 ∧ 0 ≤ ix ∧ ix ≤ 1023)) :
    Calls Tryd.prog 55 #[v, .int .i64 ix] w fun e w' => e = .returned (.tuple #[.agg (u8s z32).toArray, .int .i64 1]) ∧ Below w.heap.size w w' := by
  obtain ⟨A, cap, rfl⟩ := hv.form
  have hz := zero_dig
  have b0 : Below w.heap.size w (w.alloc (.cells (u8s z32).toArray 25)) := (Below.refl _ _).alloc (Nat.le_refl _) _
  have hr0 : Blk (w.alloc (.cells (u8s z32).toArray 25)) w.heap.size 25 (u8s z32) := Blk.new w _ _
  obtain ⟨W0, hW0⟩ : ∃ W0, W0 = w.alloc (.cells (u8s z32).toArray 25) := ⟨_, rfl⟩
  rw [← hW0] at b0 hr0
  have HW := Lib.hid hW0
  have hc1 := rvalid_no (.slice A s.length cap) s ix W0 (hv.past b0) h
  have HC1 := Lib.hid hc1
  have hs0 : w.heap.size < W0.heap.size := hr0.lt
  clear hW0 hc1 h hv
  go_enter Tryd.func55, Tryd.ntmps55
  go_upto_region 1 with (fail)
  rw [← HW.out]
  go_wp2_with fail
  refine HC1.out.mono ?_
  rintro e w' ⟨rfl, rfl⟩
  clear HC1
  go_wp2_with (refine wp_storeA 25 (.tmp 4) (.tmp 12) rfl rfl w.heap.size rfl 25 (u8s z32) (u8s z32) rfl hr0 (by rw [info_dig]; rfl) rfl (u8s_one _) rfl ?_; intro w8 hr8 hk8)
  have b08 : Below w.heap.size w w8 := b0.trans (hk8.below (fun q hq => by omega) b0.size)
  refine ret_arr_tmp Tryd.results55 rfl w.heap.size 25 _ 32 5 rfl hr8 Tryd.underlying25 (by rw [info_dig]; rfl) _ rfl ?_
  exact ⟨rfl, b08⟩
end

section
open Go.RowKit
set_option linter.unusedVariables false
set_option linter.unusedSimpArgs false

theorem ownD_from {w : World} {base n : Nat} {v : Value} {F : List UInt8} (h : OwnD w base v n F) : AtT (fun b => base ≤ b) v := by
  obtain ⟨_, h2⟩ := h
  rcases h2 with ⟨rfl, _⟩ | ⟨g, cap, cur, rfl, hg, _⟩
  · intro a n c e; cases e
  · intro a n c e _
    injection e with e1 _ _
    injection e1 with e1
    rw [← e1]; exact hg

set_option maxRecDepth 100000 in
set_option maxHeartbeats 1000000 in
theorem rsign_at (v : Value) (s d : List UInt8) (ix : Nat) (w : World) (hv : Bs w w.heap.size v s) (h1 : 1 ≤ s.length) (h2 : s.length ≤ 64) (h4 : ix ≤ 1023) (hd : d.length = 32) (hk : KIs 2 w) (hin : InIs 0 w) :
    Calls Tryd.prog 36 #[v, .int .i64 ix, .agg (u8s d).toArray] w fun e w' => ∃ u, e = .returned (.tuple #[u, .int .i64 0]) ∧ Row w' w'.heap.size 32 18 u (u8s (Wt.sig s ix d)) ∧ AtT (fun b => w.heap.size ≤ b) u ∧ Below w.heap.size w w' := by
  obtain ⟨A, cap, rfl⟩ := hv.form
  have HUD := Lib.hid (show (u8s d).length = 32 by rw [u8s_length, hd])
  have b0 : Below w.heap.size w (w.alloc (.cells (u8s d).toArray 25)) := (Below.refl _ _).alloc (Nat.le_refl _) _
  have hd0 : Blk (w.alloc (.cells (u8s d).toArray 25)) w.heap.size 25 (u8s d) := Blk.new w _ _
  obtain ⟨W0, hW0⟩ : ∃ W0, W0 = w.alloc (.cells (u8s d).toArray 25) := ⟨_, rfl⟩
  rw [← hW0] at b0 hd0
  have HW := Lib.hid hW0
  have hc1 := rvalid_yes (.slice A s.length cap) s ix W0 (hv.past b0) h1 h2 (by omega) (by omega)
  have HC1 := Lib.hid hc1
  have hc2 := rnibbles_any d W0 hd
  have HC2 := Lib.hid hc2
  have hs2 : s.length ≤ 200 := by omega
  clear hW0 hc1 hc2
  go_enter Tryd.func36, Tryd.ntmps36
  go_upto_region 1 with (fail)
  rw [← HW.out]
  go_wp2_with fail
  refine HC1.out.mono ?_
  rintro e w' ⟨rfl, rfl⟩
  clear HC1
  go_wp2_with (refine wp_run rfl (exec_loadA 25 rfl w.heap.size rfl 25 _ 32 5 hd0 Tryd.underlying25 (by rw [info_dig, HUD.out])) ?_)
  refine HC2.out.mono ?_
  rintro e w2 ⟨vn, rfl, hn2, b2⟩
  have b02 := b0.trans (b2.mono b0.size)
  obtain ⟨An, cn, rfl⟩ := row_form hn2
  obtain ⟨an, rfl, han, _⟩ := hn2.at_ (by omega)
  have hs02 := b02.size
  clear HC2 b2 hd0 b0
  obtain ⟨S, hS⟩ : ∃ S, S = w2.heap.size := ⟨_, rfl⟩
  have hn2' : Row w2 S 1 18 (.slice (some an) 18 cn) (ins (Wt.ns d)) := by rw [hS]; exact hn2
  have b22 : Below S w2 w2 := Below.refl _ _
  rw [← hS] at han hs02
  have hS2 : S ≤ w2.heap.size := by omega
  clear hS hn2
  go_wp2_with fail
  go_loopw [10, 9] (fun i q wr => ∃ k : Nat, i = .int .i64 k ∧ k ≤ 18 ∧ OwnD wr S q k (Wt.cat (Wt.sigE s ix d) k) ∧ Row wr S 1 18 (.slice (some an) 18 cn) (ins (Wt.ns d)) ∧ S ≤ wr.heap.size ∧ Below w.heap.size w wr) (fun i _ _ => 18 - (intOf i).toNat)
  case atStart => exact ⟨0, rfl, by omega, OwnD.nil_ _ _, hn2', hS2, b02⟩
  case round =>
    clear hn2' b02 b22 hS2
    obtain ⟨k, rfl, hkn, hq, hn, hs1, hb⟩ := hrel
    by_cases hlt : k < 18
    · have HSL := Lib.hid (Wt.start_len s ix k)
      have HNL := Lib.hid (Wt.nn_le d k)
      have HCT := Lib.hid (show Wt.cat (Wt.sigE s ix d) k ++ Wt.sigE s ix d k = Wt.cat (Wt.sigE s ix d) (k + 1) from rfl)
      obtain ⟨T, hT⟩ : ∃ T, T = Wt.cat (Wt.sigE s ix d) k := ⟨_, rfl⟩
      rw [← hT] at hq HCT
      obtain ⟨D, hD⟩ : ∃ D, D = Wt.sigE s ix d k := ⟨_, rfl⟩
      have HDL := Lib.hid (show D.length = 32 by rw [hD]; exact Wt.sigE_len s ix d k)
      rw [← hD] at HCT
      have HD := Lib.hid (show Sha.chain (Wt.start s ix k) (Wt.nn d k) = D by rw [hD]; rfl)
      have cn0 : ∀ W, Below S wr W → W.cell? (an.add k) = some (.int .i64 ((Wt.nn d k : Nat) : Int)) := fun W hW => (hn.carry hW (Nat.le_refl _)).cells k _ (ins_get (Wt.ns_get d hlt))
      obtain ⟨n, hnn⟩ : ∃ n, n = Wt.nn d k := ⟨_, rfl⟩
      rw [← hnn] at cn0 HD HNL
      have CN := Lib.hid cn0
      clear hT hD hnn cn0
      go_upto_region 8 with (fail)
      refine wp_region_pt S (.take 0 (.take 1 (.take 2 (.take 3 (.take 5 (.take 6 (.take 7 (.take 8 (.step 4 (.step 9 (.step 10 (.step 11 (.take 12 .done))))))))))))) (by kernel_rfl) (by kernel_rfl) (by kernel_rfl) (fun _ _ h => h) ?_
      have bd : Below wr.heap.size wr wr.drew := (Below.refl _ _).drew
      have hq0 := hq.past bd
      have b0 : Below w.heap.size w wr.drew := hb.drew
      have hn0 := hn.carry (bd.mono hs1) (Nat.le_refl _)
      have z0 : S ≤ wr.drew.heap.size := Nat.le_trans hs1 bd.size
      have bS : Below S wr wr.drew := bd.mono hs1
      obtain ⟨w0, hw0⟩ : ∃ w0, w0 = wr.drew := ⟨_, rfl⟩
      rw [← hw0] at hq0 b0 hn0 z0 bS ⊢
      clear hw0 bd hq hn hb
      first | refine pt_skip rfl rfl rfl rfl ?_ | (refine pt_take rfl rfl rfl rfl ?_; apply Exists.intro; refine ⟨fun w' hw' => ?_, ?_⟩; focus ((repeat (first | go_skip | go_guarded | go_step | go_upon | go_back)); exact ⟨rfl, rfl, rfl⟩))
      first | refine pt_skip rfl rfl rfl rfl ?_ | (refine pt_take rfl rfl rfl rfl ?_; apply Exists.intro; refine ⟨fun w' hw' => ?_, ?_⟩; focus ((repeat (first | go_skip | go_guarded | go_step | go_upon | go_back)); exact ⟨rfl, rfl, rfl⟩))
      first | refine pt_skip rfl rfl rfl rfl ?_ | (refine pt_take rfl rfl rfl rfl ?_; apply Exists.intro; refine ⟨fun w' hw' => ?_, ?_⟩; focus ((repeat (first | go_skip | go_guarded | go_step | go_upon | go_back)); exact ⟨rfl, rfl, rfl⟩))
      first | refine pt_skip rfl rfl rfl rfl ?_ | (refine pt_take rfl rfl rfl rfl ?_; apply Exists.intro; refine ⟨fun w' hw' => ?_, ?_⟩; focus ((repeat (first | go_skip | go_guarded | go_step | go_upon | go_back)); exact ⟨rfl, rfl, rfl⟩))
      first | refine pt_skip rfl rfl rfl rfl ?_ | (refine pt_take rfl rfl rfl rfl ?_; apply Exists.intro; refine ⟨fun w' hw' => ?_, ?_⟩; focus ((repeat (first | go_skip | go_guarded | go_step | go_upon | go_back)); exact ⟨rfl, rfl, rfl⟩))
      first | refine pt_skip rfl rfl rfl rfl ?_ | (refine pt_take rfl rfl rfl rfl ?_; apply Exists.intro; refine ⟨fun w' hw' => ?_, ?_⟩; focus ((repeat (first | go_skip | go_guarded | go_step | go_upon | go_back)); exact ⟨rfl, rfl, rfl⟩))
      refine pt_take rfl rfl rfl rfl ?_
      apply Exists.intro
      refine ⟨fun w' hw' => ?_, ?_⟩
      · refine wp_run rfl (exec_ixS 74 3 1 Tryd.underlying74 size_int w' rfl rfl _ _ k rfl rfl hlt (q := an.add k) (by rw [Nat.mul_one])) ?_
        exact ⟨rfl, rfl, rfl⟩
      refine pt_take rfl rfl rfl rfl ?_
      apply Exists.intro
      refine ⟨fun w' hw' => ?_, ?_⟩
      · have hcell := CN.out w' (bS.trans hw')
        focus ((repeat (first | go_skip | go_guarded | go_step | go_upon | go_back)); exact ⟨rfl, rfl, rfl⟩)
      refine pt_step rfl ?_
      go_wp2_with fail
      refine (rstart_any (.slice A s.length cap) s ix k w0 (hv.past b0) hs2 h4 hlt (hk.past b0) (hin.past b0)).mono ?_
      rintro e w2 ⟨rfl, b2⟩
      go_wp2_with fail
      refine ⟨rfl, b2.mono z0, ?_⟩
      have hq2 := hq0.past b2
      have hn2 := hn0.carry (b2.mono z0) (Nat.le_refl _)
      have bb2 := b0.trans (b2.mono b0.size)
      have z2 := Nat.le_trans z0 b2.size
      clear hq0 hn0 b0 z0 b2 bS
      refine pt_step rfl ?_
      go_wp2_with fail
      refine (rchain_any (Wt.start s ix k) n w2 HSL.out (by have := HNL.out; omega) (by omega) (hk.past bb2) (hin.past bb2)).mono ?_
      rintro e w3 ⟨rfl, b3⟩
      rw [show ((n : Nat) : Int).toNat = n from rfl, HD.out]
      go_wp2_with fail
      refine ⟨rfl, b3.mono z2, ?_⟩
      have hq3 := hq2.past b3
      have hn3 := hn2.carry (b3.mono z2) (Nat.le_refl _)
      have bb3 := bb2.trans (b3.mono bb2.size)
      have z3 := Nat.le_trans z2 b3.size
      clear hq2 hn2 bb2 z2 b3
      refine pt_step rfl ?_
      refine wp_buildD (.tmp 30) rfl rfl D HDL.out rfl ?_
      go_wp2_with fail
      refine ⟨rfl, (Below.refl _ _).alloc z3 _, ?_⟩
      refine pt_step rfl ?_
      refine wp_appD S (.tmp 21) (.tmp 31) rfl rfl _ k T D HDL.out rfl rfl hq3 z3 (by omega) ?_
      intro v4 w4 o4 b4 b4'
      go_wp2_with fail
      refine ⟨rfl, b4', ?_⟩
      have hn4 := hn3.carry b4 (Nat.le_refl _)
      have bb4 := bb3.trans (b4.mono hs02)
      have z4 := Nat.le_trans z3 b4.size
      rw [HCT.out] at o4
      clear hq3 hn3 bb3 b4 b4'
      first | refine pt_skip rfl rfl rfl rfl ?_ | (refine pt_take rfl rfl rfl rfl ?_; apply Exists.intro; refine ⟨fun w' hw' => ?_, ?_⟩; focus ((repeat (first | go_skip | go_guarded | go_step | go_upon | go_back)); exact ⟨rfl, rfl, rfl⟩))
      change Exit.inBlock _ _ Exit.normal _ _
      go_wp2
      go_roundw
      case rel => exact ⟨k + 1, by go_num, by omega, o4, hn4, z4, bb4⟩
      case measure => simp [intOf]; omega
    · have hk18 : k = 18 := by omega
      have hq' := hq
      rw [hk18] at hq'
      have hrow := hq'.row
      have HAT : Hid (AtT (fun b => w.heap.size ≤ b) _) := Lib.hid ((ownD_from hq').mono fun b hb => Nat.le_trans hs02 hb)
      clear hq hq' hn
      subst hk18
      go_wp2
      go_ret2
      exact ⟨_, rfl, hrow, HAT.out, hb⟩

theorem rsign_yes (v : Value) (s d : List UInt8) (ix : Nat) (w : World) (hv : Bs w w.heap.size v s) (h1 : 1 ≤ s.length) (h2 : s.length ≤ 64) (h4 : ix ≤ 1023) (hd : d.length = 32) (hk : KIs 2 w) (hin : InIs 0 w) :
    Calls Tryd.prog 36 #[v, .int .i64 ix, .agg (u8s d).toArray] w fun e w' => ∃ u, e = .returned (.tuple #[u, .int .i64 0]) ∧ Row w' w'.heap.size 32 18 u (u8s (Wt.sig s ix d)) ∧ Below w.heap.size w w' :=
  (rsign_at v s d ix w hv h1 h2 h4 hd hk hin).mono fun e w' ⟨u, h1, h2, _, h4⟩ => ⟨u, h1, h2, h4⟩

set_option maxRecDepth 100000 in
set_option maxHeartbeats 1000000 in
theorem rsign_no (v : Value) (s d : List UInt8) (ix : Int) (w : World) (hv : Bs w w.heap.size v s) (h : ¬ (1 ≤ s.length ∧ s.length ≤ 64 ∧ 0 ≤ ix ∧ ix ≤ 1023)) :
    Calls Tryd.prog 36 #[v, .int .i64 ix, .agg (u8s d).toArray] w fun e w' => e = .returned (.tuple #[.slice none 0 0, .int .i64 1]) ∧ Below w.heap.size w w' := by
  obtain ⟨A, cap, rfl⟩ := hv.form
  have b0 : Below w.heap.size w (w.alloc (.cells (u8s d).toArray 25)) := (Below.refl _ _).alloc (Nat.le_refl _) _
  obtain ⟨W0, hW0⟩ : ∃ W0, W0 = w.alloc (.cells (u8s d).toArray 25) := ⟨_, rfl⟩
  rw [← hW0] at b0
  have HW := Lib.hid hW0
  have hc1 := rvalid_no (.slice A s.length cap) s ix W0 (hv.past b0) h
  have HC1 := Lib.hid hc1
  clear hW0 hc1 h hv
  go_enter Tryd.func36, Tryd.ntmps36
  go_upto_region 1 with (fail)
  rw [← HW.out]
  go_wp2_with fail
  refine HC1.out.mono ?_
  rintro e w' ⟨rfl, rfl⟩
  clear HC1
  go_wp2
  go_ret2
  exact ⟨rfl, b0⟩
end
end Go.Proofs.YtccepoeenkpifaaDoor
