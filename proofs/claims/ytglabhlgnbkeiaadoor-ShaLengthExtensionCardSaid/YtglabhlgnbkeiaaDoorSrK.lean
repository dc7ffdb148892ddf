/-
  Walks of the reference's package for layer 3: the hash of a continuation.
-/
import Derived.Test.YtglabhlgnbkeiaaDoorSrH
namespace Go.Proofs.YtglabhlgnbkeiaaDoor
open Go.RowKit
set_option linter.unusedVariables false
set_option linter.unusedSimpArgs false

set_option maxRecDepth 100000 in
set_option maxHeartbeats 2000000 in
theorem rresume_any (d : List UInt8) (n : Nat) (v : Value) (l : List UInt8) (w : World) (hd : d.length = 32) (hv : Bs w w.heap.size v l) (hk : KIs 2 w) (hn : n ≤ 10000) (hl : l.length ≤ 10000) :
    Calls Tryd.prog 21 #[.agg (u8s d).toArray, .int .i64 n, v] w fun e w' =>
      e = .returned (.agg (u8s (Sha.dgs (Sha.blks ((l.length + (Sha.pad (n + (Sha.pad n).length + l.length)).length) / 64) (Sha.stt d) (l ++ Sha.pad (n + (Sha.pad n).length + l.length))))).toArray) ∧ Below w.heap.size w w' := by
  obtain ⟨A, cap, rfl⟩ := hv.form
  have hpm1 := Sha.pad_mod n
  have hpl1 := Sha.pad_len n
  have hzs1 : Sha.zs n < 64 := by unfold Sha.zs; omega
  obtain ⟨L, hL⟩ : ∃ L, L = l.length := ⟨_, rfl⟩
  have hvL : ∀ W, Below w.heap.size w W → Bs W W.heap.size (.slice A L cap) l := fun W hb => by rw [hL]; exact hv.past hb
  rw [← hL] at hl ⊢
  have hpc1 := rpadding_any n
  obtain ⟨P1, hP1⟩ : ∃ P1, P1 = Sha.pad n := ⟨_, rfl⟩
  rw [← hP1] at hpm1 hpl1 hpc1 ⊢
  obtain ⟨p1, hp1⟩ : ∃ p1, p1 = P1.length := ⟨_, rfl⟩
  rw [← hp1] at hpm1 hpl1 ⊢
  obtain ⟨N, hN⟩ : ∃ N, N = n + p1 + L := ⟨_, rfl⟩
  rw [← hN]
  have hpm := Sha.pad_mod N
  have hpl := Sha.pad_len N
  have hzs : Sha.zs N < 64 := by unfold Sha.zs; omega
  have hpc := rpadding_any N
  obtain ⟨P, hP⟩ : ∃ P, P = Sha.pad N := ⟨_, rfl⟩
  rw [← hP] at hpm hpl hpc ⊢
  have hlen : (l ++ P).length = 64 * ((L + P.length) / 64) := by rw [List.length_append, ← hL]; omega
  obtain ⟨m, hm⟩ : ∃ m, m = (L + P.length) / 64 := ⟨_, rfl⟩
  have hmb : m ≤ 100000 := by omega
  have hPb : P.length ≤ 100 := by omega
  have hp1b : p1 ≤ 100 := by omega
  rw [← hm] at hlen ⊢
  obtain ⟨S, hS⟩ : ∃ S, S = Sha.stt d := ⟨_, rfl⟩
  have hok : S.ok := by rw [hS]; exact stt_ok d
  have hst := fun W => rstate_any d W hd
  rw [← hS] at hst ⊢
  obtain ⟨FS, hFS⟩ : ∃ FS, FS = Sha.blks m S (l ++ P) := ⟨_, rfl⟩
  have hfo : FS.ok := by rw [hFS]; exact Sha.blks_ok _ _ hok
  have hbc := fun v W hv hk => rblocks_any S v (l ++ P) m W hv hlen hmb hok hk
  rw [← hFS] at hbc ⊢
  obtain ⟨D, hD⟩ : ∃ D, D = Sha.dgs FS := ⟨_, rfl⟩
  have HDL : Hid ((u8s D).length = 32) := Lib.hid (by rw [u8s_length, hD, Sha.dgs_len])
  have hdc := fun W => rdigest_any FS W hfo
  rw [← hD] at hdc ⊢
  have HDC := Lib.hid hdc
  have HBC := Lib.hid hbc
  have HST := Lib.hid hst
  have HPC := Lib.hid hpc
  have HPC1 := Lib.hid hpc1
  have HVL := Lib.hid hvL
  have HP1 := Lib.hid hp1.symm
  have HNN := Lib.hid (show (n : Int) + (p1 : Int) + (L : Int) = (N : Int) by omega)
  have HNb : N ≤ 1000000 := by omega
  have HLL : Hid (l.length ≤ 10000) := Lib.hid (by omega)
  have hz := zero_dig
  obtain ⟨W1, hW1⟩ : ∃ W1, W1 = (w.alloc (.cells (u8s d).toArray 25)).alloc (.cells (u8s z32).toArray 25) := ⟨_, rfl⟩
  have hb1 : Below w.heap.size w W1 := by rw [hW1]; exact ((Below.refl _ _).alloc (Nat.le_refl _) _).alloc (by simp) _
  have hx1 : Blk W1 w.heap.size 25 (u8s d) := by
    rw [hW1]
    exact (Blk.new w _ _).past ((Below.refl _ _).alloc (Nat.le_refl _) _) (by simp)
  have hr1 : Blk W1 (w.heap.size + 1) 25 (u8s z32) := by
    have h := Blk.new (w.alloc (.cells (u8s d).toArray 25)) 25 (u8s z32)
    rw [World.size_alloc] at h
    rw [hW1]; exact h
  have HW1 := Lib.hid hW1
  have HUD := Lib.hid (show (u8s d).length = 32 by rw [u8s_length, hd])
  clear hW1 hL hP hm hS hFS hD hdc hbc hst hpc hpc1 hvL hp1 hN hP1 hlen hpm hpl hzs hpm1 hpl1 hzs1 hv hfo hok hd
  go_enter Tryd.func21, Tryd.ntmps21
  go_wp2_with fail
  rw [← HW1.out]
  clear hz
  refine (HPC1.out W1 (by omega)).mono ?_
  rintro e w2 ⟨vp1, rfl, hop1, b2⟩
  obtain ⟨Ap, cp, rfl⟩ := (Own.bs hop1).form
  rw [HP1.out]
  have hx2 := hx1.past b2 hx1.lt
  have hr2 := hr1.past b2 hr1.lt
  have hb2 := hb1.trans (b2.mono hb1.size)
  clear hop1 b2 hx1 hr1 hb1
  go_upto_region 2 with (fail)
  rw [HNN.out]
  have a2 : Below w2.heap.size w2 (w2.alloc (.cells #[] 5)) := (Below.refl _ _).alloc (Nat.le_refl _) _
  have o2 : Own (w2.alloc (.cells #[] 5)) w2.heap.size (.slice (some ⟨w2.heap.size, 0, none⟩) 0 0) [] := own_lit_n w2 [] (by simp [maxLen])
  have v2 := HVL.out (w2.alloc (.cells #[] 5)) (hb2.trans (a2.mono hb2.size))
  have e2 : ([] : List UInt8).length + l.length ≤ 140737488355328 := by have := HLL.out; simp; omega
  go_upto_region 3 with (refine wp_apps w2.heap.size (.tmp 17) (.tmp 18) rfl rfl _ _ [] l rfl rfl o2 a2.size v2 e2 ?_; intro va w3 ho3 b3)
  rw [List.nil_append] at ho3
  have b23 : Below w2.heap.size w2 w3 := a2.trans b3
  have hx3 := hx2.past b23 hx2.lt
  have hr3 := hr2.past b23 hr2.lt
  have hb3 := hb2.trans (b23.mono hb2.size)
  have hs3 : w2.heap.size ≤ w3.heap.size := b23.size
  have hs2 : w.heap.size + 1 < w2.heap.size := hr2.lt
  clear a2 o2 v2 e2 b3 b23 hx2 hr2 hb2
  go_wp2_with fail
  refine (HPC.out w3 HNb).mono ?_
  rintro e w4 ⟨vp, rfl, hop, b4⟩
  have ho4 := ho3.past b4
  have hvp := Own.bs hop
  have hx4 := hx3.past b4 hx3.lt
  have hr4 := hr3.past b4 hr3.lt
  have hb4 := hb3.trans (b4.mono hb3.size)
  have hs4 : w2.heap.size ≤ w4.heap.size := Nat.le_trans hs3 b4.size
  have e4 : l.length + P.length ≤ 140737488355328 := by have := HLL.out; omega
  clear b4 hx3 hr3 hb3 ho3 hs3 hop
  go_upto_region 4 with (refine wp_apps w2.heap.size (.tmp 20) (.tmp 22) rfl rfl _ _ l P rfl rfl ho4 hs4 hvp e4 ?_; intro vb w5 ho5 b5)
  have hx5 := hx4.past b5 (by omega)
  have hr5 := hr4.past b5 hs2
  have hb5 := hb4.trans (b5.mono (by omega))
  have hv5 := Own.bs ho5
  clear hx4 hr4 hb4 ho4 hvp b5 ho5 e4
  go_wp2_with (refine wp_loadA 25 (.tmp 3) rfl rfl w.heap.size rfl 25 (u8s d) 32 5 hx5 Tryd.underlying25 (by rw [info_dig, HUD.out]) ?_)
  refine (HST.out w5).mono ?_
  rintro e w6 ⟨rfl, b6⟩
  have hr6 := hr5.past b6 hr5.lt
  have hb6 := hb5.trans (b6.mono hb5.size)
  have hv6 := hv5.past b6
  clear hx5 hr5 hb5 hv5 b6
  go_wp2_with fail
  refine (HBC.out _ w6 hv6 (hk.past hb6)).mono ?_
  rintro e w7 ⟨rfl, b7⟩
  have hr7 := hr6.past b7 hr6.lt
  have hb7 := hb6.trans (b7.mono hb6.size)
  clear hr6 hb6 hv6 b7
  go_wp2_with fail
  refine (HDC.out w7).mono ?_
  rintro e w8 ⟨rfl, b8⟩
  have hr8 := hr7.past b8 hr7.lt
  have hb8 := hb7.trans (b8.mono hb7.size)
  clear hr7 hb7 b8
  go_wp2_with (refine wp_storeA 25 (.tmp 6) (.tmp 28) rfl rfl (w.heap.size + 1) rfl 25 (u8s z32) (u8s D) rfl hr8 (by rw [info_dig, HDL.out]) (by rw [HDL.out]; rfl) (u8s_one _) rfl ?_; intro w9 hr9 hk9)
  have hb9 : Below w.heap.size w w9 := hb8.trans (hk9.below (n := w.heap.size) (fun q hq => by omega) hb8.size)
  refine ret_arr Tryd.results21 rfl (w.heap.size + 1) 25 _ 32 5 rfl hr9 Tryd.underlying25 (by rw [info_dig, HDL.out]) ?_
  exact ⟨rfl, hb9⟩
end Go.Proofs.YtglabhlgnbkeiaaDoor
