/-
  Walks of the reference's package for layer 3: the hash, its continuation.
-/
import Derived.Test.YtnfhdjmehhapiaaDoorSrG
namespace Go.Proofs.YtnfhdjmehhapiaaDoor
open Go.RowKit
set_option linter.unusedVariables false
set_option linter.unusedSimpArgs false

/-- The table of the first state, as variable b. -/
def InIs (b : Nat) (w : World) : Prop := ∀ i u, (w32s Sha.init.list)[i]? = some u → w.cell? ⟨b, i, none⟩ = some u
theorem ini_of {b : Nat} {w : World} (h : ∀ i u, (w32s Sha.init.list)[i]? = some u → w.cell? ⟨b, i, none⟩ = some u) : InIs b w := h
theorem InIs.past {b : Nat} {w w' : World} (h : InIs b w) (hb : Below w.heap.size w w') : InIs b w' := fun i u hu => cell_past (h i u hu) hb

theorem sum_of (l : List UInt8) : Sha.sum l = Sha.dgs (Sha.blks ((l.length + (Sha.pad l.length).length) / 64) Sha.init (l ++ Sha.pad l.length)) := rfl

set_option maxRecDepth 100000 in
set_option maxHeartbeats 2000000 in
theorem rsum_any (v : Value) (l : List UInt8) (w : World) (hv : Bs w w.heap.size v l) (hk : KIs 2 w) (hi : InIs 1 w) (hl : l.length ≤ 100000) :
    Calls Tryd.prog 52 #[v] w fun e w' => e = .returned (.agg (u8s (Sha.sum l)).toArray) ∧ Below w.heap.size w w' := by
  obtain ⟨A, cap, rfl⟩ := hv.form
  rw [sum_of]
  have hpm := Sha.pad_mod l.length
  have hpl := Sha.pad_len l.length
  have hzs : Sha.zs l.length < 64 := by unfold Sha.zs; omega
  obtain ⟨L, hL⟩ : ∃ L, L = l.length := ⟨_, rfl⟩
  have hvL : ∀ W, Below w.heap.size w W → Bs W W.heap.size (.slice A L cap) l := fun W hb => by rw [hL]; exact hv.past hb
  rw [← hL] at hl hpm hpl hzs ⊢
  obtain ⟨P, hP⟩ : ∃ P, P = Sha.pad L := ⟨_, rfl⟩
  rw [← hP] at hpm hpl ⊢
  have hlen : (l ++ P).length = 64 * ((L + P.length) / 64) := by rw [List.length_append, ← hL]; omega
  obtain ⟨m, hm⟩ : ∃ m, m = (L + P.length) / 64 := ⟨_, rfl⟩
  have hmb : m ≤ 100000 := by omega
  have hPb : P.length ≤ 100 := by omega
  rw [← hm] at hlen ⊢
  obtain ⟨IN, hIN⟩ : ∃ IN, IN = Sha.init := ⟨_, rfl⟩
  have hok : IN.ok := by rw [hIN]; exact Sha.init_ok
  unfold InIs at hi
  rw [← hIN] at hi ⊢
  have HI := Lib.hid hi
  have hpc := rpadding_any L
  rw [← hP] at hpc
  have HPC := Lib.hid hpc
  have HLEN := Lib.hid hlen
  have HVL := Lib.hid hvL
  have HLL : Hid (l.length ≤ 100000) := Lib.hid (by omega)
  have hz := zero_dig
  obtain ⟨W1, hW1⟩ : ∃ W1, W1 = w.alloc (.cells (u8s z32).toArray 23) := ⟨_, rfl⟩
  have hb1 : Below w.heap.size w W1 := by rw [hW1]; exact (Below.refl _ _).alloc (Nat.le_refl _) _
  have hr1 : Blk W1 w.heap.size 23 (u8s z32) := by rw [hW1]; exact Blk.new w _ _
  have HW1 := Lib.hid hW1
  have hs1 : w.heap.size < W1.heap.size := hr1.lt
  clear hW1 hL hP hm hIN hi hpc hlen hvL hpm hpl hzs hv
  have a2 : Below W1.heap.size W1 (W1.alloc (.cells #[] 5)) := (Below.refl _ _).alloc (Nat.le_refl _) _
  have o2 : Own (W1.alloc (.cells #[] 5)) W1.heap.size (.slice (some ⟨W1.heap.size, 0, none⟩) 0 0) [] := own_lit_n W1 [] (by simp [maxLen])
  have v2 := HVL.out (W1.alloc (.cells #[] 5)) (hb1.trans (a2.mono hb1.size))
  have e2 : ([] : List UInt8).length + l.length ≤ 140737488355328 := by have := HLL.out; simp; omega
  go_enter Tryd.func52, Tryd.ntmps52
  go_upto_region 1 with (fail)
  rw [← HW1.out]
  clear hz
  go_upto_region 2 with (refine wp_apps W1.heap.size (.tmp 4) (.tmp 5) rfl rfl _ _ [] l rfl rfl o2 a2.size v2 e2 ?_; intro va w2 ho2 b2)
  rw [List.nil_append] at ho2
  have b12 : Below W1.heap.size W1 w2 := a2.trans b2
  have hr2 := hr1.past b12 hr1.lt
  have hb2 := hb1.trans (b12.mono hb1.size)
  have hs2 : W1.heap.size ≤ w2.heap.size := b12.size
  clear a2 o2 v2 e2 b2 b12 hr1 hb1
  go_wp2_with fail
  refine (HPC.out w2 (by omega)).mono ?_
  rintro e w3 ⟨vp, rfl, hop, b3⟩
  have ho3 := ho2.past b3
  have hvp := Own.bs hop
  have hr3 := hr2.past b3 hr2.lt
  have hb3 := hb2.trans (b3.mono hb2.size)
  have hs3 : W1.heap.size ≤ w3.heap.size := Nat.le_trans hs2 b3.size
  have e3 : l.length + P.length ≤ 140737488355328 := by have := HLL.out; omega
  clear b3 hr2 hb2 ho2 hs2 hop
  go_upto_region 3 with (refine wp_apps W1.heap.size (.tmp 7) (.tmp 10) rfl rfl _ _ l P rfl rfl ho3 hs3 hvp e3 ?_; intro vb w4 ho4 b4)
  have hr4 := hr3.past b4 hs1
  have hb4 := hb3.trans (b4.mono (Nat.le_of_lt hs1))
  have hv4 := Own.bs ho4
  have hk4 := hk.past hb4
  have hc := rblocks_any IN _ (l ++ P) m w4 hv4 HLEN.out hmb hok hk4
  obtain ⟨FS, hFS⟩ : ∃ FS, FS = Sha.blks m IN (l ++ P) := ⟨_, rfl⟩
  have hfo : FS.ok := by rw [hFS]; exact Sha.blks_ok _ _ hok
  rw [← hFS] at hc
  have HFS := Lib.hid hFS.symm
  have HC := Lib.hid hc
  have HFO := Lib.hid hfo
  have hi4 : ∀ i u, (w32s IN.list)[i]? = some u → w4.cell? ⟨1, i, none⟩ = some u := fun i u hu => cell_past (HI.out i u hu) hb4
  obtain ⟨a0, b0, c0, d0, e0, f0, g0, h0⟩ := IN
  have q0 : w4.cell? ⟨1, 0, none⟩ = some (.int .u32 a0) := hi4 0 _ rfl
  have q1 : w4.cell? ⟨1, 1, none⟩ = some (.int .u32 b0) := hi4 1 _ rfl
  have q2 : w4.cell? ⟨1, 2, none⟩ = some (.int .u32 c0) := hi4 2 _ rfl
  have q3 : w4.cell? ⟨1, 3, none⟩ = some (.int .u32 d0) := hi4 3 _ rfl
  have q4 : w4.cell? ⟨1, 4, none⟩ = some (.int .u32 e0) := hi4 4 _ rfl
  have q5 : w4.cell? ⟨1, 5, none⟩ = some (.int .u32 f0) := hi4 5 _ rfl
  have q6 : w4.cell? ⟨1, 6, none⟩ = some (.int .u32 g0) := hi4 6 _ rfl
  have q7 : w4.cell? ⟨1, 7, none⟩ = some (.int .u32 h0) := hi4 7 _ rfl
  clear ho3 hvp e3 hr3 hb3 hs3 b4 ho4 hv4 hk4 hfo hc hi4 hFS
  go_wp2_with fail
  refine HC.out.mono ?_
  rintro e w5 ⟨rfl, b5⟩
  have hr5 := hr4.past b5 hr4.lt
  have hb5 := hb4.trans (b5.mono hb4.size)
  clear q0 q1 q2 q3 q4 q5 q6 q7 hr4 hb4 b5 HC
  go_wp2_with fail
  refine (rdigest_any FS w5 HFO.out).mono ?_
  rintro e w6 ⟨rfl, b6⟩
  have hr6 := hr5.past b6 hr5.lt
  have hb6 := hb5.trans (b6.mono hb5.size)
  obtain ⟨D, hD⟩ : ∃ D, D = Sha.dgs FS := ⟨_, rfl⟩
  have HDL : Hid ((u8s D).length = 32) := Lib.hid (by rw [u8s_length, hD, Sha.dgs_len])
  rw [← hD]
  have HDD := Lib.hid hD.symm
  clear hD hr5 hb5 b6
  go_wp2_with (refine wp_storeA 23 (.tmp 2) (.tmp 15) rfl rfl w.heap.size rfl 23 (u8s z32) (u8s D) rfl hr6 (by rw [info_dig, HDL.out]) (by rw [HDL.out]; rfl) (u8s_one _) rfl ?_; intro w8 hr8 hk8)
  have hb8 : Below w.heap.size w w8 := hb6.trans (hk8.below (fun q hq => by omega) hb6.size)
  refine ret_arr Tryd.results52 rfl w.heap.size 23 _ 32 5 rfl hr8 Tryd.underlying23 (by rw [info_dig, HDL.out]) ?_
  rw [HFS.out, HDD.out]
  exact ⟨rfl, hb8⟩
end Go.Proofs.YtnfhdjmehhapiaaDoor
