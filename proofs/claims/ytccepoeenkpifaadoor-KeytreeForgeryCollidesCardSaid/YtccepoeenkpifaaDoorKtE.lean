/-
  Package keytree: Climb.
  Package keytree: the step of Climb, Climb.
-/
import Derived.Test.YtccepoeenkpifaaDoorKtC
namespace Go.Proofs.YtccepoeenkpifaaDoor
section
open Go.RowKit
set_option linter.unusedVariables false
set_option linter.unusedSimpArgs false

theorem shl_n {n : Nat} (h : n ≤ 6) : wrap64 ((2 : Int) ^ n) = ((2 ^ n : Nat) : Int) := by
  have h2 : n = 0 ∨ n = 1 ∨ n = 2 ∨ n = 3 ∨ n = 4 ∨ n = 5 ∨ n = 6 := by omega
  rcases h2 with rfl | rfl | rfl | rfl | rfl | rfl | rfl <;> decide +kernel

theorem climb_no (v : Value) (x G : List UInt8) (n : Nat) (ix : Int) (w : World) (hv : Row w w.heap.size 32 n v (u8s G)) (hx : x.length = 32) (hm : n ≤ 9223372036854775807) (hx1 : -9223372036854775808 ≤ ix) (hx2 : ix ≤ 9223372036854775807) (h : ¬ (n ≤ 6 ∧ 0 ≤ ix ∧ ix < ((2 ^ n : Nat) : Int))) :
    Calls Tryd.prog 19 #[.agg (u8s x).toArray, .int .i64 ix, v] w fun e w' => e = .returned (.tuple #[.agg (u8s z32).toArray, .int .i64 1]) ∧ Below w.heap.size w w' := by
  obtain ⟨A, cap, rfl⟩ := row_form hv
  have hz := zero_dig
  clear hv
  obtain ⟨W1, hW1⟩ : ∃ W, W = (w.alloc (.cells (u8s x).toArray 25)).alloc (.cells #[.int .i64 ix] 3) := ⟨_, rfl⟩
  obtain ⟨W0, hW0⟩ : ∃ W, W = W1.alloc (.cells (u8s z32).toArray 25) := ⟨_, rfl⟩
  have b1 : Below w.heap.size w W1 := by rw [hW1]; exact ((Below.refl _ _).alloc (Nat.le_refl _) _).alloc (by simp) _
  have b0 : Below w.heap.size w W0 := by rw [hW0]; exact b1.alloc b1.size _
  have s1 : W1.heap.size = w.heap.size + 2 := by rw [hW1]; simp
  have c1 : W0.cell? ⟨w.heap.size + 1, 0, none⟩ = some (.int .i64 ix) := by
    have h := (Blk.new (w.alloc (.cells (u8s x).toArray 25)) 3 [.int .i64 ix]).cell (j := 0) rfl
    rw [World.size_alloc] at h
    rw [hW0]
    refine cell_past ?_ ((Below.refl _ _).alloc (Nat.le_refl _) _)
    rw [hW1]; exact h
  have r0 : Blk W0 (w.heap.size + 2) 25 (u8s z32) := by rw [hW0, ← s1]; exact Blk.new _ _ _
  have HW := Lib.hid (show W0 = ((w.alloc (.cells (u8s x).toArray 25)).alloc (.cells #[.int .i64 ix] 3)).alloc (.cells (u8s z32).toArray 25) by rw [hW0, hW1])
  clear hW1 hW0 b1 s1
  by_cases h6 : n ≤ 6
  · have g1 : decide ((6 : Int) < (n : Int)) = false := by simp; omega
    by_cases h0 : 0 ≤ ix
    · have g2 : decide (ix < 0) = false := by simp; omega
      have g3 : decide (wrap64 ((2 : Int) ^ n) ≤ ix) = true := by
        rw [shl_n h6]
        refine decide_eq_true ?_
        by_cases h2 : ((2 ^ n : Nat) : Int) ≤ ix
        · exact h2
        · exact absurd ⟨h6, h0, by omega⟩ h
      clear h
      go_enter Tryd.func19, Tryd.ntmps19
      go_upto_region 1 with (fail)
      rw [← HW.out]
      refine wp_region_pt W0.heap.size (.take 0 (.take 1 (.take 2 (.take 3 (.take 4 (.take 5 (.take 6 (.take 7 (.take 8 (.take 9 (.take 10 (.take 11 (.take 12 (.take 13 .done)))))))))))))) (by kernel_rfl) (by kernel_rfl) (by kernel_rfl) (fun _ _ h => h) ?_
      have c2 : W0.drew.cell? ⟨w.heap.size + 1, 0, none⟩ = some (.int .i64 ix) := by simpa using c1
      have b2 : Below W0.heap.size W0 W0.drew := (Below.refl _ _).drew
      have hlt : w.heap.size + 1 < W0.heap.size := block_lt_of_cell c1
      first | refine pt_skip rfl rfl rfl rfl ?_ | (refine pt_take rfl rfl rfl rfl ?_; apply Exists.intro; refine ⟨fun w' hw' => ?_, ?_⟩; focus ((repeat (first | go_skip | go_guarded | go_step | go_upon | go_back)); exact ⟨rfl, rfl, rfl⟩))
      first | refine pt_skip rfl rfl rfl rfl ?_ | (refine pt_take rfl rfl rfl rfl ?_; apply Exists.intro; refine ⟨fun w' hw' => ?_, ?_⟩; focus ((repeat (first | go_skip | go_guarded | go_step | go_upon | go_back)); exact ⟨rfl, rfl, rfl⟩))
      first | refine pt_skip rfl rfl rfl rfl ?_ | (refine pt_take rfl rfl rfl rfl ?_; apply Exists.intro; refine ⟨fun w' hw' => ?_, ?_⟩; focus ((repeat (first | go_skip | go_guarded | go_step | go_upon | go_back)); exact ⟨rfl, rfl, rfl⟩))
      first | refine pt_skip rfl rfl rfl rfl ?_ | (refine pt_take rfl rfl rfl rfl ?_; apply Exists.intro; refine ⟨fun w' hw' => ?_, ?_⟩; focus ((repeat (first | go_skip | go_guarded | go_step | go_upon | go_back)); exact ⟨rfl, rfl, rfl⟩))
      refine pt_take rfl rfl rfl rfl ?_
      apply Exists.intro
      refine ⟨fun w' hw' => ?_, ?_⟩
      · have hcell := (hw'.cell (p := ⟨w.heap.size + 1, 0, none⟩) hlt).trans c2
        focus ((repeat (first | go_skip | go_guarded | go_step | go_upon | go_back)); exact ⟨rfl, rfl, rfl⟩)
      first | refine pt_skip rfl rfl rfl rfl ?_ | (refine pt_take rfl rfl rfl rfl ?_; apply Exists.intro; refine ⟨fun w' hw' => ?_, ?_⟩; focus ((repeat (first | go_skip | go_guarded | go_step | go_upon | go_back)); exact ⟨rfl, rfl, rfl⟩))
      first | refine pt_skip rfl rfl rfl rfl ?_ | (refine pt_take rfl rfl rfl rfl ?_; apply Exists.intro; refine ⟨fun w' hw' => ?_, ?_⟩; focus ((repeat (first | go_skip | go_guarded | go_step | go_upon | go_back)); exact ⟨rfl, rfl, rfl⟩))
      first | refine pt_skip rfl rfl rfl rfl ?_ | (refine pt_take rfl rfl rfl rfl ?_; apply Exists.intro; refine ⟨fun w' hw' => ?_, ?_⟩; focus ((repeat (first | go_skip | go_guarded | go_step | go_upon | go_back)); exact ⟨rfl, rfl, rfl⟩))
      refine pt_take rfl rfl rfl rfl ?_
      apply Exists.intro
      refine ⟨fun w' hw' => ?_, ?_⟩
      · have hcell := (hw'.cell (p := ⟨w.heap.size + 1, 0, none⟩) hlt).trans c2
        focus ((repeat (first | go_skip | go_guarded | go_step | go_upon | go_back)); exact ⟨rfl, rfl, rfl⟩)
      first | refine pt_skip rfl rfl rfl rfl ?_ | (refine pt_take rfl rfl rfl rfl ?_; apply Exists.intro; refine ⟨fun w' hw' => ?_, ?_⟩; focus ((repeat (first | go_skip | go_guarded | go_step | go_upon | go_back)); exact ⟨rfl, rfl, rfl⟩))
      first | refine pt_skip rfl rfl rfl rfl ?_ | (refine pt_take rfl rfl rfl rfl ?_; apply Exists.intro; refine ⟨fun w' hw' => ?_, ?_⟩; focus ((repeat (first | go_skip | go_guarded | go_step | go_upon | go_back)); exact ⟨rfl, rfl, rfl⟩))
      first | refine pt_skip rfl rfl rfl rfl ?_ | (refine pt_take rfl rfl rfl rfl ?_; apply Exists.intro; refine ⟨fun w' hw' => ?_, ?_⟩; focus ((repeat (first | go_skip | go_guarded | go_step | go_upon | go_back)); exact ⟨rfl, rfl, rfl⟩))
      first | refine pt_skip rfl rfl rfl rfl ?_ | (refine pt_take rfl rfl rfl rfl ?_; apply Exists.intro; refine ⟨fun w' hw' => ?_, ?_⟩; focus ((repeat (first | go_skip | go_guarded | go_step | go_upon | go_back)); exact ⟨rfl, rfl, rfl⟩))
      first | refine pt_skip rfl rfl rfl rfl ?_ | (refine pt_take rfl rfl rfl rfl ?_; apply Exists.intro; refine ⟨fun w' hw' => ?_, ?_⟩; focus ((repeat (first | go_skip | go_guarded | go_step | go_upon | go_back)); exact ⟨rfl, rfl, rfl⟩))
      change Exit.then _ _ Exit.normal _ _
      have b3 := b0.trans (b2.mono b0.size)
      have r3 := r0.past b2 r0.lt
      obtain ⟨W2, hW2⟩ : ∃ W, W = W0.drew := ⟨_, rfl⟩
      rw [← hW2] at b3 r3 ⊢
      clear hW2 b2 c2 c1 r0 b0 hlt g1 g2 g3
      go_wp2_with (refine wp_storeA 25 (.tmp 6) (.tmp 26) rfl rfl (w.heap.size + 2) rfl 25 (u8s z32) (u8s z32) rfl r3 (by rw [info_dig]; rfl) rfl (u8s_one _) rfl ?_; intro w8 h8 k8)
      have b8 : Below w.heap.size w w8 := b3.trans (k8.below (fun q hq => by omega) b3.size)
      refine ret_arr_tmp Tryd.results19 rfl (w.heap.size + 2) 25 _ 32 5 rfl h8 Tryd.underlying25 (by rw [info_dig]; rfl) _ rfl ?_
      exact ⟨rfl, b8⟩
    · have g2 : decide (ix < 0) = true := by simp; omega
      have g3 : True := trivial
      clear h
      go_enter Tryd.func19, Tryd.ntmps19
      go_upto_region 1 with (fail)
      rw [← HW.out]
      refine wp_region_pt W0.heap.size (.take 0 (.take 1 (.take 2 (.take 3 (.take 4 (.take 5 (.take 6 (.take 7 (.take 8 (.take 9 (.take 10 (.take 11 (.take 12 (.take 13 .done)))))))))))))) (by kernel_rfl) (by kernel_rfl) (by kernel_rfl) (fun _ _ h => h) ?_
      have c2 : W0.drew.cell? ⟨w.heap.size + 1, 0, none⟩ = some (.int .i64 ix) := by simpa using c1
      have b2 : Below W0.heap.size W0 W0.drew := (Below.refl _ _).drew
      have hlt : w.heap.size + 1 < W0.heap.size := block_lt_of_cell c1
      first | refine pt_skip rfl rfl rfl rfl ?_ | (refine pt_take rfl rfl rfl rfl ?_; apply Exists.intro; refine ⟨fun w' hw' => ?_, ?_⟩; focus ((repeat (first | go_skip | go_guarded | go_step | go_upon | go_back)); exact ⟨rfl, rfl, rfl⟩))
      first | refine pt_skip rfl rfl rfl rfl ?_ | (refine pt_take rfl rfl rfl rfl ?_; apply Exists.intro; refine ⟨fun w' hw' => ?_, ?_⟩; focus ((repeat (first | go_skip | go_guarded | go_step | go_upon | go_back)); exact ⟨rfl, rfl, rfl⟩))
      first | refine pt_skip rfl rfl rfl rfl ?_ | (refine pt_take rfl rfl rfl rfl ?_; apply Exists.intro; refine ⟨fun w' hw' => ?_, ?_⟩; focus ((repeat (first | go_skip | go_guarded | go_step | go_upon | go_back)); exact ⟨rfl, rfl, rfl⟩))
      first | refine pt_skip rfl rfl rfl rfl ?_ | (refine pt_take rfl rfl rfl rfl ?_; apply Exists.intro; refine ⟨fun w' hw' => ?_, ?_⟩; focus ((repeat (first | go_skip | go_guarded | go_step | go_upon | go_back)); exact ⟨rfl, rfl, rfl⟩))
      refine pt_take rfl rfl rfl rfl ?_
      apply Exists.intro
      refine ⟨fun w' hw' => ?_, ?_⟩
      · have hcell := (hw'.cell (p := ⟨w.heap.size + 1, 0, none⟩) hlt).trans c2
        focus ((repeat (first | go_skip | go_guarded | go_step | go_upon | go_back)); exact ⟨rfl, rfl, rfl⟩)
      first | refine pt_skip rfl rfl rfl rfl ?_ | (refine pt_take rfl rfl rfl rfl ?_; apply Exists.intro; refine ⟨fun w' hw' => ?_, ?_⟩; focus ((repeat (first | go_skip | go_guarded | go_step | go_upon | go_back)); exact ⟨rfl, rfl, rfl⟩))
      first | refine pt_skip rfl rfl rfl rfl ?_ | (refine pt_take rfl rfl rfl rfl ?_; apply Exists.intro; refine ⟨fun w' hw' => ?_, ?_⟩; focus ((repeat (first | go_skip | go_guarded | go_step | go_upon | go_back)); exact ⟨rfl, rfl, rfl⟩))
      first | refine pt_skip rfl rfl rfl rfl ?_ | (refine pt_take rfl rfl rfl rfl ?_; apply Exists.intro; refine ⟨fun w' hw' => ?_, ?_⟩; focus ((repeat (first | go_skip | go_guarded | go_step | go_upon | go_back)); exact ⟨rfl, rfl, rfl⟩))
      first | refine pt_skip rfl rfl rfl rfl ?_ | (refine pt_take rfl rfl rfl rfl ?_; apply Exists.intro; refine ⟨fun w' hw' => ?_, ?_⟩; focus ((repeat (first | go_skip | go_guarded | go_step | go_upon | go_back)); exact ⟨rfl, rfl, rfl⟩))
      first | refine pt_skip rfl rfl rfl rfl ?_ | (refine pt_take rfl rfl rfl rfl ?_; apply Exists.intro; refine ⟨fun w' hw' => ?_, ?_⟩; focus ((repeat (first | go_skip | go_guarded | go_step | go_upon | go_back)); exact ⟨rfl, rfl, rfl⟩))
      first | refine pt_skip rfl rfl rfl rfl ?_ | (refine pt_take rfl rfl rfl rfl ?_; apply Exists.intro; refine ⟨fun w' hw' => ?_, ?_⟩; focus ((repeat (first | go_skip | go_guarded | go_step | go_upon | go_back)); exact ⟨rfl, rfl, rfl⟩))
      first | refine pt_skip rfl rfl rfl rfl ?_ | (refine pt_take rfl rfl rfl rfl ?_; apply Exists.intro; refine ⟨fun w' hw' => ?_, ?_⟩; focus ((repeat (first | go_skip | go_guarded | go_step | go_upon | go_back)); exact ⟨rfl, rfl, rfl⟩))
      first | refine pt_skip rfl rfl rfl rfl ?_ | (refine pt_take rfl rfl rfl rfl ?_; apply Exists.intro; refine ⟨fun w' hw' => ?_, ?_⟩; focus ((repeat (first | go_skip | go_guarded | go_step | go_upon | go_back)); exact ⟨rfl, rfl, rfl⟩))
      first | refine pt_skip rfl rfl rfl rfl ?_ | (refine pt_take rfl rfl rfl rfl ?_; apply Exists.intro; refine ⟨fun w' hw' => ?_, ?_⟩; focus ((repeat (first | go_skip | go_guarded | go_step | go_upon | go_back)); exact ⟨rfl, rfl, rfl⟩))
      change Exit.then _ _ Exit.normal _ _
      have b3 := b0.trans (b2.mono b0.size)
      have r3 := r0.past b2 r0.lt
      obtain ⟨W2, hW2⟩ : ∃ W, W = W0.drew := ⟨_, rfl⟩
      rw [← hW2] at b3 r3 ⊢
      clear hW2 b2 c2 c1 r0 b0 hlt g1 g2 g3
      go_wp2_with (refine wp_storeA 25 (.tmp 6) (.tmp 26) rfl rfl (w.heap.size + 2) rfl 25 (u8s z32) (u8s z32) rfl r3 (by rw [info_dig]; rfl) rfl (u8s_one _) rfl ?_; intro w8 h8 k8)
      have b8 : Below w.heap.size w w8 := b3.trans (k8.below (fun q hq => by omega) b3.size)
      refine ret_arr_tmp Tryd.results19 rfl (w.heap.size + 2) 25 _ 32 5 rfl h8 Tryd.underlying25 (by rw [info_dig]; rfl) _ rfl ?_
      exact ⟨rfl, b8⟩
  · have g1 : decide ((6 : Int) < (n : Int)) = true := by simp; omega
    have g2 : True := trivial
    have g3 : True := trivial
    clear h
    go_enter Tryd.func19, Tryd.ntmps19
    go_upto_region 1 with (fail)
    rw [← HW.out]
    refine wp_region_pt W0.heap.size (.take 0 (.take 1 (.take 2 (.take 3 (.take 4 (.take 5 (.take 6 (.take 7 (.take 8 (.take 9 (.take 10 (.take 11 (.take 12 (.take 13 .done)))))))))))))) (by kernel_rfl) (by kernel_rfl) (by kernel_rfl) (fun _ _ h => h) ?_
    have c2 : W0.drew.cell? ⟨w.heap.size + 1, 0, none⟩ = some (.int .i64 ix) := by simpa using c1
    have b2 : Below W0.heap.size W0 W0.drew := (Below.refl _ _).drew
    have hlt : w.heap.size + 1 < W0.heap.size := block_lt_of_cell c1
    first | refine pt_skip rfl rfl rfl rfl ?_ | (refine pt_take rfl rfl rfl rfl ?_; apply Exists.intro; refine ⟨fun w' hw' => ?_, ?_⟩; focus ((repeat (first | go_skip | go_guarded | go_step | go_upon | go_back)); exact ⟨rfl, rfl, rfl⟩))
    first | refine pt_skip rfl rfl rfl rfl ?_ | (refine pt_take rfl rfl rfl rfl ?_; apply Exists.intro; refine ⟨fun w' hw' => ?_, ?_⟩; focus ((repeat (first | go_skip | go_guarded | go_step | go_upon | go_back)); exact ⟨rfl, rfl, rfl⟩))
    first | refine pt_skip rfl rfl rfl rfl ?_ | (refine pt_take rfl rfl rfl rfl ?_; apply Exists.intro; refine ⟨fun w' hw' => ?_, ?_⟩; focus ((repeat (first | go_skip | go_guarded | go_step | go_upon | go_back)); exact ⟨rfl, rfl, rfl⟩))
    first | refine pt_skip rfl rfl rfl rfl ?_ | (refine pt_take rfl rfl rfl rfl ?_; apply Exists.intro; refine ⟨fun w' hw' => ?_, ?_⟩; focus ((repeat (first | go_skip | go_guarded | go_step | go_upon | go_back)); exact ⟨rfl, rfl, rfl⟩))
    first | refine pt_skip rfl rfl rfl rfl ?_ | (refine pt_take rfl rfl rfl rfl ?_; apply Exists.intro; refine ⟨fun w' hw' => ?_, ?_⟩; focus ((repeat (first | go_skip | go_guarded | go_step | go_upon | go_back)); exact ⟨rfl, rfl, rfl⟩))
    first | refine pt_skip rfl rfl rfl rfl ?_ | (refine pt_take rfl rfl rfl rfl ?_; apply Exists.intro; refine ⟨fun w' hw' => ?_, ?_⟩; focus ((repeat (first | go_skip | go_guarded | go_step | go_upon | go_back)); exact ⟨rfl, rfl, rfl⟩))
    first | refine pt_skip rfl rfl rfl rfl ?_ | (refine pt_take rfl rfl rfl rfl ?_; apply Exists.intro; refine ⟨fun w' hw' => ?_, ?_⟩; focus ((repeat (first | go_skip | go_guarded | go_step | go_upon | go_back)); exact ⟨rfl, rfl, rfl⟩))
    first | refine pt_skip rfl rfl rfl rfl ?_ | (refine pt_take rfl rfl rfl rfl ?_; apply Exists.intro; refine ⟨fun w' hw' => ?_, ?_⟩; focus ((repeat (first | go_skip | go_guarded | go_step | go_upon | go_back)); exact ⟨rfl, rfl, rfl⟩))
    first | refine pt_skip rfl rfl rfl rfl ?_ | (refine pt_take rfl rfl rfl rfl ?_; apply Exists.intro; refine ⟨fun w' hw' => ?_, ?_⟩; focus ((repeat (first | go_skip | go_guarded | go_step | go_upon | go_back)); exact ⟨rfl, rfl, rfl⟩))
    first | refine pt_skip rfl rfl rfl rfl ?_ | (refine pt_take rfl rfl rfl rfl ?_; apply Exists.intro; refine ⟨fun w' hw' => ?_, ?_⟩; focus ((repeat (first | go_skip | go_guarded | go_step | go_upon | go_back)); exact ⟨rfl, rfl, rfl⟩))
    first | refine pt_skip rfl rfl rfl rfl ?_ | (refine pt_take rfl rfl rfl rfl ?_; apply Exists.intro; refine ⟨fun w' hw' => ?_, ?_⟩; focus ((repeat (first | go_skip | go_guarded | go_step | go_upon | go_back)); exact ⟨rfl, rfl, rfl⟩))
    first | refine pt_skip rfl rfl rfl rfl ?_ | (refine pt_take rfl rfl rfl rfl ?_; apply Exists.intro; refine ⟨fun w' hw' => ?_, ?_⟩; focus ((repeat (first | go_skip | go_guarded | go_step | go_upon | go_back)); exact ⟨rfl, rfl, rfl⟩))
    first | refine pt_skip rfl rfl rfl rfl ?_ | (refine pt_take rfl rfl rfl rfl ?_; apply Exists.intro; refine ⟨fun w' hw' => ?_, ?_⟩; focus ((repeat (first | go_skip | go_guarded | go_step | go_upon | go_back)); exact ⟨rfl, rfl, rfl⟩))
    first | refine pt_skip rfl rfl rfl rfl ?_ | (refine pt_take rfl rfl rfl rfl ?_; apply Exists.intro; refine ⟨fun w' hw' => ?_, ?_⟩; focus ((repeat (first | go_skip | go_guarded | go_step | go_upon | go_back)); exact ⟨rfl, rfl, rfl⟩))
    change Exit.then _ _ Exit.normal _ _
    have b3 := b0.trans (b2.mono b0.size)
    have r3 := r0.past b2 r0.lt
    obtain ⟨W2, hW2⟩ : ∃ W, W = W0.drew := ⟨_, rfl⟩
    rw [← hW2] at b3 r3 ⊢
    clear hW2 b2 c2 c1 r0 b0 hlt g1 g2 g3
    go_wp2_with (refine wp_storeA 25 (.tmp 6) (.tmp 26) rfl rfl (w.heap.size + 2) rfl 25 (u8s z32) (u8s z32) rfl r3 (by rw [info_dig]; rfl) rfl (u8s_one _) rfl ?_; intro w8 h8 k8)
    have b8 : Below w.heap.size w w8 := b3.trans (k8.below (fun q hq => by omega) b3.size)
    refine ret_arr_tmp Tryd.results19 rfl (w.heap.size + 2) 25 _ 32 5 rfl h8 Tryd.underlying25 (by rw [info_dig]; rfl) _ rfl ?_
    exact ⟨rfl, b8⟩
end

section
open Go.RowKit
set_option linter.unusedVariables false
set_option linter.unusedSimpArgs false

set_option maxRecDepth 100000 in
theorem climbC_any (y x : List UInt8) (i ib nb : Nat) (w : World) (hi : Blk w ib 3 [.int .i64 (i : Int)]) (hn : Blk w nb 25 (u8s x)) (hib : ib ≠ nb) (hx : x.length = 32) (hy : y.length = 32) (hib2 : i ≤ 1000000) (hk : KIs 1 w) :
    Calls Tryd.prog 40 #[.agg (u8s y).toArray, .pointer (some ⟨ib, 0, none⟩), .pointer (some ⟨nb, 0, none⟩)] w fun e w' => (∃ v, e = .returned v) ∧ Blk w' ib 3 [.int .i64 ((i / 2 : Nat) : Int)] ∧ Blk w' nb 25 (u8s (Kt.stp x y i)) ∧ Keep (fun b => b ≠ ib ∧ b ≠ nb) w w' := by
  have HX := Lib.hid hx
  have HY := Lib.hid hy
  have HUX := Lib.hid (show (u8s x).length = 32 by rw [u8s_length, hx])
  have HUY := Lib.hid (show (u8s y).length = 32 by rw [u8s_length, hy])
  have hbi := hi.lt
  have hbn := hn.lt
  have hs0 := Blk.new w 25 (u8s y)
  have b0 : Below w.heap.size w (w.alloc (.cells (u8s y).toArray 25)) := (Below.refl _ _).alloc (Nat.le_refl _) _
  obtain ⟨W0, hW0⟩ : ∃ W, W = w.alloc (.cells (u8s y).toArray 25) := ⟨_, rfl⟩
  rw [← hW0] at hs0 b0
  have i0 := hi.past b0 hbi
  have n0 := hn.past b0 hbn
  have k0 := hk.past b0
  have HW := Lib.hid hW0
  have ci := i0.cell (j := 0) rfl
  obtain ⟨gs, hgs⟩ : ∃ gs, gs = w.heap.size := ⟨_, rfl⟩
  have hgi : gs ≠ ib := by omega
  have hgn : gs ≠ nb := by omega
  rw [← hgs] at hs0
  have hsz := b0.size
  clear hW0 hi hn hk hx hy
  by_cases hev : i % 2 = 0
  · have HP := Lib.hid (pair_any x y W0 HX.out HY.out k0)
    have HS := Lib.hid (show Sha.tag Sha.pairT (x ++ y) = Kt.stp x y i by unfold Kt.stp; rw [if_pos hev]; rfl)
    have he : (((i : Int) % 2) == 0) = true := by simp; omega
    clear hev
    go_enter Tryd.func40, Tryd.ntmps40
    go_upto_region 1 with (fail)
    rw [← HW.out, ← hgs]
    go_wp2_with (first
      | (refine wp_run rfl (exec_loadA 25 rfl nb rfl 25 _ 32 5 n0 Tryd.underlying25 (by rw [info_dig, HUX.out])) ?_)
      | (refine wp_run rfl (exec_loadA 25 rfl gs rfl 25 _ 32 5 hs0 Tryd.underlying25 (by rw [info_dig, HUY.out])) ?_))
    refine HP.out.mono ?_
    rintro e w2 ⟨rfl, b2⟩
    have i2 := i0.past b2 i0.lt
    have n2 := n0.past b2 n0.lt
    have b02 := b0.trans (b2.mono b0.size)
    rw [HS.out]
    obtain ⟨D, hD⟩ : ∃ D, D = Kt.stp x y i := ⟨_, rfl⟩
    have HD := Lib.hid hD
    have HUD := Lib.hid (show (u8s D).length = 32 by rw [hD, u8s_length, Kt.stp_len])
    rw [← hD]
    clear hD HS HP b2 i0 n0 hs0 ci b0 hsz k0
    go_upto_region 4 with (refine wp_storeA 25 (.tmp 2) (.tmp 9) rfl rfl nb rfl 25 (u8s x) (u8s D) rfl n2 (by rw [info_dig, HUD.out]) (by rw [HUX.out, HUD.out]) (u8s_one _) rfl ?_; intro w3 n3 k3)
    have i3 := i2.keep k3 hib
    have k03 : Keep (fun b => b ≠ ib ∧ b ≠ nb) w w3 := ((Keep.of_below b02).trans (k3.mono fun q hq => hq.2))
    have c3 := i3.cell (j := 0) rfl
    have f3 := i3.frozen 0
    clear i2 n2 b02 k3
    go_wp2
    go_end0
    refine ⟨⟨_, rfl⟩, ?_, ?_, k03.trans (Keep.setCell _ _ _ (fun h => h.1 rfl))⟩
    · have h := i3.set 0 (.int .i64 ((i : Int) / 2))
      rw [show ((i / 2 : Nat) : Int) = (i : Int) / 2 by omega]
      exact h
    · rw [← HD.out]
      exact n3.keep (Keep.setCell (O := fun b => b = nb) _ _ _ hib) rfl
  · have HP := Lib.hid (pair_any y x W0 HY.out HX.out k0)
    have HS := Lib.hid (show Sha.tag Sha.pairT (y ++ x) = Kt.stp x y i by unfold Kt.stp; rw [if_neg hev]; rfl)
    have he : (((i : Int) % 2) == 0) = false := by simp; omega
    clear hev
    go_enter Tryd.func40, Tryd.ntmps40
    go_upto_region 1 with (fail)
    rw [← HW.out, ← hgs]
    go_wp2_with (first
      | (refine wp_run rfl (exec_loadA 25 rfl nb rfl 25 _ 32 5 n0 Tryd.underlying25 (by rw [info_dig, HUX.out])) ?_)
      | (refine wp_run rfl (exec_loadA 25 rfl gs rfl 25 _ 32 5 hs0 Tryd.underlying25 (by rw [info_dig, HUY.out])) ?_))
    refine HP.out.mono ?_
    rintro e w2 ⟨rfl, b2⟩
    have i2 := i0.past b2 i0.lt
    have n2 := n0.past b2 n0.lt
    have b02 := b0.trans (b2.mono b0.size)
    rw [HS.out]
    obtain ⟨D, hD⟩ : ∃ D, D = Kt.stp x y i := ⟨_, rfl⟩
    have HD := Lib.hid hD
    have HUD := Lib.hid (show (u8s D).length = 32 by rw [hD, u8s_length, Kt.stp_len])
    rw [← hD]
    clear hD HS HP b2 i0 n0 hs0 ci b0 hsz k0
    go_upto_region 4 with (refine wp_storeA 25 (.tmp 2) (.tmp 12) rfl rfl nb rfl 25 (u8s x) (u8s D) rfl n2 (by rw [info_dig, HUD.out]) (by rw [HUX.out, HUD.out]) (u8s_one _) rfl ?_; intro w3 n3 k3)
    have i3 := i2.keep k3 hib
    have k03 : Keep (fun b => b ≠ ib ∧ b ≠ nb) w w3 := ((Keep.of_below b02).trans (k3.mono fun q hq => hq.2))
    have c3 := i3.cell (j := 0) rfl
    have f3 := i3.frozen 0
    clear i2 n2 b02 k3
    go_wp2
    go_end0
    refine ⟨⟨_, rfl⟩, ?_, ?_, k03.trans (Keep.setCell _ _ _ (fun h => h.1 rfl))⟩
    · have h := i3.set 0 (.int .i64 ((i : Int) / 2))
      rw [show ((i / 2 : Nat) : Int) = (i : Int) / 2 by omega]
      exact h
    · rw [← HD.out]
      exact n3.keep (Keep.setCell (O := fun b => b = nb) _ _ _ hib) rfl

set_option maxRecDepth 100000 in
set_option maxHeartbeats 1000000 in
theorem climb_yes (v : Value) (x G : List UInt8) (n ix : Nat) (w : World) (hv : Row w w.heap.size 32 n v (u8s G)) (hx : x.length = 32) (hn : n ≤ 6) (hix : ix < 2 ^ n) (hk : KIs 1 w) :
    Calls Tryd.prog 19 #[.agg (u8s x).toArray, .int .i64 ix, v] w fun e w' => e = .returned (.tuple #[.agg (u8s (Kt.climb x ix G n)).toArray, .int .i64 0]) ∧ Below w.heap.size w w' := by
  obtain ⟨A, cap, rfl⟩ := row_form hv
  have HGL := Lib.hid (row_flen hv)
  have HV0 := Lib.hid hv
  have HK0 := Lib.hid hk
  have hz := zero_dig
  have HX := Lib.hid hx
  have HUX := Lib.hid (show (u8s x).length = 32 by rw [u8s_length, hx])
  have hix64 : ix ≤ 64 := by have := Kt.pow_le hn; omega
  obtain ⟨W1, hW1⟩ : ∃ W, W = (w.alloc (.cells (u8s x).toArray 25)).alloc (.cells #[.int .i64 (ix : Int)] 3) := ⟨_, rfl⟩
  obtain ⟨W0, hW0⟩ : ∃ W, W = W1.alloc (.cells (u8s z32).toArray 25) := ⟨_, rfl⟩
  have b1 : Below w.heap.size w W1 := by rw [hW1]; exact ((Below.refl _ _).alloc (Nat.le_refl _) _).alloc (by simp) _
  have b0 : Below w.heap.size w W0 := by rw [hW0]; exact b1.alloc b1.size _
  have s1 : W1.heap.size = w.heap.size + 2 := by rw [hW1]; simp
  have x0 : Blk W0 w.heap.size 25 (u8s x) := by
    have h := (Blk.new w 25 (u8s x)).past ((Below.refl _ _).alloc (Nat.le_refl _) (.cells #[.int .i64 (ix : Int)] 3)) (by simp)
    rw [← hW1] at h
    rw [hW0]
    exact h.past ((Below.refl _ _).alloc (Nat.le_refl _) _) (by omega)
  have i0 : Blk W0 (w.heap.size + 1) 3 [.int .i64 (ix : Int)] := by
    have h := Blk.new (w.alloc (.cells (u8s x).toArray 25)) 3 [.int .i64 (ix : Int)]
    rw [World.size_alloc] at h
    rw [hW0]
    refine Blk.past ?_ ((Below.refl _ _).alloc (Nat.le_refl _) _) (by omega)
    rw [hW1]; exact h
  have r0 : Blk W0 (w.heap.size + 2) 25 (u8s z32) := by rw [hW0, ← s1]; exact Blk.new _ _ _
  have HW := Lib.hid (show W0 = ((w.alloc (.cells (u8s x).toArray 25)).alloc (.cells #[.int .i64 (ix : Int)] 3)).alloc (.cells (u8s z32).toArray 25) by rw [hW0, hW1])
  have s0 : W0.heap.size = w.heap.size + 3 := by rw [hW0]; simp; omega
  have S0 := Lib.hid s0
  have c1 := i0.cell (j := 0) rfl
  have HV := Lib.hid (hv.carry b0 b0.size)
  have K0 := Lib.hid (hk.past b0)
  have g1 : decide ((6 : Int) < (n : Int)) = false := by simp; omega
  have g2 : decide ((ix : Int) < 0) = false := by simp
  have g3 : decide (wrap64 ((2 : Int) ^ n) ≤ (ix : Int)) = false := by
    rw [shl_n hn]
    refine decide_eq_false ?_
    omega
  have HIX := Lib.hid hix
  clear hW1 hW0 b1 s1 hv hk hix hx s0
  go_enter Tryd.func19, Tryd.ntmps19
  go_upto_region 1 with (fail)
  rw [← HW.out]
  refine wp_region_pt W0.heap.size (.take 0 (.take 1 (.take 2 (.take 3 (.take 4 (.take 5 (.take 6 (.take 7 (.take 8 (.take 9 (.take 10 (.take 11 (.take 12 (.take 13 .done)))))))))))))) (by kernel_rfl) (by kernel_rfl) (by kernel_rfl) (fun _ _ h => h) ?_
  have c2 : W0.drew.cell? ⟨w.heap.size + 1, 0, none⟩ = some (.int .i64 (ix : Int)) := by simpa using c1
  have b2 : Below W0.heap.size W0 W0.drew := (Below.refl _ _).drew
  have hlt : w.heap.size + 1 < W0.heap.size := block_lt_of_cell c1
  first | refine pt_skip rfl rfl rfl rfl ?_ | (refine pt_take rfl rfl rfl rfl ?_; apply Exists.intro; refine ⟨fun w' hw' => ?_, ?_⟩; focus ((repeat (first | go_skip | go_guarded | go_step | go_upon | go_back)); exact ⟨rfl, rfl, rfl⟩))
  first | refine pt_skip rfl rfl rfl rfl ?_ | (refine pt_take rfl rfl rfl rfl ?_; apply Exists.intro; refine ⟨fun w' hw' => ?_, ?_⟩; focus ((repeat (first | go_skip | go_guarded | go_step | go_upon | go_back)); exact ⟨rfl, rfl, rfl⟩))
  first | refine pt_skip rfl rfl rfl rfl ?_ | (refine pt_take rfl rfl rfl rfl ?_; apply Exists.intro; refine ⟨fun w' hw' => ?_, ?_⟩; focus ((repeat (first | go_skip | go_guarded | go_step | go_upon | go_back)); exact ⟨rfl, rfl, rfl⟩))
  first | refine pt_skip rfl rfl rfl rfl ?_ | (refine pt_take rfl rfl rfl rfl ?_; apply Exists.intro; refine ⟨fun w' hw' => ?_, ?_⟩; focus ((repeat (first | go_skip | go_guarded | go_step | go_upon | go_back)); exact ⟨rfl, rfl, rfl⟩))
  refine pt_take rfl rfl rfl rfl ?_
  apply Exists.intro
  refine ⟨fun w' hw' => ?_, ?_⟩
  · have hcell := (hw'.cell (p := ⟨w.heap.size + 1, 0, none⟩) hlt).trans c2
    focus ((repeat (first | go_skip | go_guarded | go_step | go_upon | go_back)); exact ⟨rfl, rfl, rfl⟩)
  first | refine pt_skip rfl rfl rfl rfl ?_ | (refine pt_take rfl rfl rfl rfl ?_; apply Exists.intro; refine ⟨fun w' hw' => ?_, ?_⟩; focus ((repeat (first | go_skip | go_guarded | go_step | go_upon | go_back)); exact ⟨rfl, rfl, rfl⟩))
  first | refine pt_skip rfl rfl rfl rfl ?_ | (refine pt_take rfl rfl rfl rfl ?_; apply Exists.intro; refine ⟨fun w' hw' => ?_, ?_⟩; focus ((repeat (first | go_skip | go_guarded | go_step | go_upon | go_back)); exact ⟨rfl, rfl, rfl⟩))
  first | refine pt_skip rfl rfl rfl rfl ?_ | (refine pt_take rfl rfl rfl rfl ?_; apply Exists.intro; refine ⟨fun w' hw' => ?_, ?_⟩; focus ((repeat (first | go_skip | go_guarded | go_step | go_upon | go_back)); exact ⟨rfl, rfl, rfl⟩))
  refine pt_take rfl rfl rfl rfl ?_
  apply Exists.intro
  refine ⟨fun w' hw' => ?_, ?_⟩
  · have hcell := (hw'.cell (p := ⟨w.heap.size + 1, 0, none⟩) hlt).trans c2
    focus ((repeat (first | go_skip | go_guarded | go_step | go_upon | go_back)); exact ⟨rfl, rfl, rfl⟩)
  first | refine pt_skip rfl rfl rfl rfl ?_ | (refine pt_take rfl rfl rfl rfl ?_; apply Exists.intro; refine ⟨fun w' hw' => ?_, ?_⟩; focus ((repeat (first | go_skip | go_guarded | go_step | go_upon | go_back)); exact ⟨rfl, rfl, rfl⟩))
  first | refine pt_skip rfl rfl rfl rfl ?_ | (refine pt_take rfl rfl rfl rfl ?_; apply Exists.intro; refine ⟨fun w' hw' => ?_, ?_⟩; focus ((repeat (first | go_skip | go_guarded | go_step | go_upon | go_back)); exact ⟨rfl, rfl, rfl⟩))
  first | refine pt_skip rfl rfl rfl rfl ?_ | (refine pt_take rfl rfl rfl rfl ?_; apply Exists.intro; refine ⟨fun w' hw' => ?_, ?_⟩; focus ((repeat (first | go_skip | go_guarded | go_step | go_upon | go_back)); exact ⟨rfl, rfl, rfl⟩))
  first | refine pt_skip rfl rfl rfl rfl ?_ | (refine pt_take rfl rfl rfl rfl ?_; apply Exists.intro; refine ⟨fun w' hw' => ?_, ?_⟩; focus ((repeat (first | go_skip | go_guarded | go_step | go_upon | go_back)); exact ⟨rfl, rfl, rfl⟩))
  first | refine pt_skip rfl rfl rfl rfl ?_ | (refine pt_take rfl rfl rfl rfl ?_; apply Exists.intro; refine ⟨fun w' hw' => ?_, ?_⟩; focus ((repeat (first | go_skip | go_guarded | go_step | go_upon | go_back)); exact ⟨rfl, rfl, rfl⟩))
  change Exit.then _ _ Exit.normal _ _
  have b3 := b0.trans (b2.mono b0.size)
  have x3 := x0.past b2 x0.lt
  have i3 := i0.past b2 i0.lt
  have r3 := r0.past b2 r0.lt
  have s3 : W0.drew.heap.size = w.heap.size + 3 := by rw [World.size_drew, S0.out]
  obtain ⟨W2, hW2⟩ : ∃ W, W = W0.drew := ⟨_, rfl⟩
  rw [← hW2] at b2 b3 x3 i3 r3 s3 ⊢
  have HV2 := Lib.hid (HV.out.past b2)
  have K2 := Lib.hid (K0.out.past b2)
  clear hW2 b2 c2 c1 x0 i0 r0 b0 hlt g1 g2 g3 HV K0 HW S0
  have n3 := Blk.new W2 25 (u8s z32)
  have bn : Below W2.heap.size W2 (W2.alloc (.cells (u8s z32).toArray 25)) := (Below.refl _ _).alloc (Nat.le_refl _) _
  have S3 := Lib.hid s3
  clear s3
  go_upto_region 4 with (first
    | (refine wp_run rfl (exec_loadA 25 rfl w.heap.size rfl 25 _ 32 5 x3 Tryd.underlying25 (by rw [info_dig, HUX.out])) ?_)
    | (refine wp_storeA 25 (.tmp 8) (.tmp 27) rfl rfl W2.heap.size rfl 25 (u8s z32) (u8s x) rfl n3 (by rw [info_dig, HUX.out]) (by rw [HUX.out]; rfl) (u8s_one _) rfl ?_; intro w4 n4 k4))
  have b24 : Below W2.heap.size W2 w4 := ((Keep.of_below bn).trans (k4.mono (O' := fun q => q < W2.heap.size) (fun q hq => by omega))).below (fun q hq => hq) (Nat.le_refl _)
  have i4 := i3.past b24 i3.lt
  have r4 := r3.past b24 r3.lt
  have b4 := b3.trans (b24.mono b3.size)
  have HV4 := Lib.hid (HV2.out.past b24)
  have K4 := Lib.hid (K2.out.past b24)
  obtain ⟨gn, hgn⟩ : ∃ gn, gn = W2.heap.size := ⟨_, rfl⟩
  have hgs : gn = w.heap.size + 3 := by rw [hgn, S3.out]
  have HGN := Lib.hid hgs
  have hgn3 : w.heap.size + 3 ≤ gn := by omega
  rw [← hgn] at n4 ⊢
  clear hgn n3 bn k4 b24 x3 i3 r3 b3 HV2 K2 S3 hgs
  go_wp2_with fail
  go_loopw [31] (fun i wr => ∃ (k j : Nat) (X : List UInt8), i = .int .i64 k ∧ k ≤ n ∧ Hid (j = ix / 2 ^ k) ∧ j ≤ 64 ∧ Hid (X = Kt.climb x ix G k) ∧ Hid (X.length = 32) ∧ Blk wr (w.heap.size + 1) 3 [.int .i64 (j : Int)] ∧ Blk wr gn 25 (u8s X) ∧ Blk wr (w.heap.size + 2) 25 (u8s z32) ∧ Row wr wr.heap.size 32 n (.slice A n cap) (u8s G) ∧ KIs 1 wr ∧ Below w.heap.size w wr) (fun i _ => n - (intOf i).toNat)
  case atStart => exact ⟨0, ix, x, rfl, by omega, Lib.hid (by simp), hix64, Lib.hid rfl, HX, i4, n4, r4, HV4.out, K4.out, b4⟩
  case round =>
    clear i4 n4 r4 b4 HV4 K4
    obtain ⟨k, j, X, rfl, hkn, HJ, hj64, HXE, HXL, hi, hno, hre, hv, hk, hb⟩ := hrel
    have HUX2 := Lib.hid (show (u8s X).length = 32 by rw [u8s_length, HXL.out])
    have hgl := hno.lt
    by_cases hlt : k < n
    · obtain ⟨ad, rfl, _, _⟩ := hv.at_ (by omega)
      obtain ⟨y, hye⟩ : ∃ y, y = Wt.el G k := ⟨_, rfl⟩
      have HYL := Lib.hid (show y.length = 32 by rw [hye]; exact Wt.el_len (n := n) (by have := HGL.out; omega) hlt)
      have HUY := Lib.hid (show (u8s y).length = 32 by rw [u8s_length, HYL.out])
      have cy := row_elem hv hlt
      rw [← hye] at cy
      have HCY := Lib.hid cy
      have HS := Lib.hid (show Kt.stp X y j = Kt.climb x ix G (k + 1) by rw [Kt.climb_succ, ← HXE.out, hye, HJ.out])
      have hs0 := Blk.new wr 25 (u8s z32)
      have bs0 : Below wr.heap.size wr (wr.alloc (.cells (u8s z32).toArray 25)) := (Below.refl _ _).alloc (Nat.le_refl _) _
      have hz := zero_dig
      clear cy hye
      go_upto_region 8 with (first
        | (refine wp_run rfl (exec_ixS 29 25 32 Tryd.underlying29 info_dig wr rfl rfl _ _ k rfl rfl hlt (q := ad.add (k * 32)) rfl) ?_)
        | (refine wp_run rfl (exec_loadP 25 rfl (ad.add (k * 32)) rfl (u8s y) 32 5 HCY.out Tryd.underlying25 (by rw [info_dig, HUY.out])) ?_)
        | (refine wp_storeA 25 (.tmp 11) (.tmp 34) rfl rfl wr.heap.size rfl 25 (u8s z32) (u8s y) rfl hs0 (by rw [info_dig, HUY.out]) (by rw [HUY.out]; rfl) (u8s_one _) rfl ?_; intro w5 s5 k5))
      have b5 : Below wr.heap.size wr w5 := ((Keep.of_below bs0).trans (k5.mono (O' := fun q => q < wr.heap.size) (fun q hq => by omega))).below (fun q hq => hq) (Nat.le_refl _)
      have i5 := hi.past b5 hi.lt
      have n5 := hno.past b5 hno.lt
      have r5 := hre.past b5 hre.lt
      have v5 := hv.past b5
      have kk5 := hk.past b5
      have bb5 := hb.trans (b5.mono hb.size)
      have hne : w.heap.size + 1 ≠ gn := by omega
      have HC := Lib.hid (climbC_any y X j (w.heap.size + 1) gn w5 i5 n5 hne HXL.out HYL.out (by omega) kk5)
      clear hs0 bs0 hz k5 b5 hi hno hre hv hk hb i5 n5
      obtain ⟨gs, hgs⟩ : ∃ gs, gs = wr.heap.size := ⟨_, rfl⟩
      rw [← hgs] at s5 ⊢
      clear hgs
      go_wp2_with (refine wp_run rfl (exec_loadA 25 rfl gs rfl 25 _ 32 5 s5 Tryd.underlying25 (by rw [info_dig, HUY.out])) ?_)
      refine HC.out.mono ?_
      rintro e w6 ⟨⟨ve, rfl⟩, i6, n6, k6⟩
      have r6 := r5.keep k6 ⟨by omega, by omega⟩
      have bb6 := bb5.trans (k6.below (fun q hq => ⟨by omega, by omega⟩) bb5.size)
      have hvb : Row w w.heap.size 32 n (.slice (some ad) n cap) (u8s G) := HV0.out
      have v6 := hvb.past bb6
      have kk6 := HK0.out.past bb6
      rw [HS.out] at n6
      obtain ⟨X2, hX2⟩ : ∃ X2, X2 = Kt.climb x ix G (k + 1) := ⟨_, rfl⟩
      rw [← hX2] at n6
      have HX2 := Lib.hid hX2
      have HXL2 := Lib.hid (show X2.length = 32 by rw [hX2]; exact Kt.climb_len HX.out _ _ _)
      have HJ2 := Lib.hid (show j / 2 = ix / 2 ^ (k + 1) by rw [Kt.half_pow, HJ.out])
      clear hX2 HS HC r5 v5 kk5 bb5 s5 k6 hvb
      go_wp2_with fail
      go_roundw
      case rel => exact ⟨k + 1, j / 2, X2, by go_num, by omega, HJ2, by omega, HX2, HXL2, i6, n6, r6, v6, kk6, bb6⟩
      case measure => simp [intOf]; omega
    · have hkn2 : k = n := by omega
      have HXE2 := Lib.hid (show X = Kt.climb x ix G n by rw [HXE.out, hkn2])
      clear hkn2
      go_wp2_with (first
        | (refine wp_run rfl (exec_loadA 25 rfl gn rfl 25 _ 32 5 hno Tryd.underlying25 (by rw [info_dig, HUX2.out])) ?_)
        | (refine wp_storeA 25 (.tmp 6) (.tmp 39) rfl rfl (w.heap.size + 2) rfl 25 (u8s z32) (u8s X) rfl hre (by rw [info_dig, HUX2.out]) (by rw [HUX2.out]; rfl) (u8s_one _) rfl ?_; intro w8 h8 k8))
      have b8 : Below w.heap.size w w8 := hb.trans (k8.below (fun q hq => by omega) hb.size)
      refine ret_arr_tmp Tryd.results19 rfl (w.heap.size + 2) 25 _ 32 5 rfl h8 Tryd.underlying25 (by rw [info_dig, HUX2.out]) _ rfl ?_
      rw [← HXE2.out]
      exact ⟨rfl, b8⟩
end
end Go.Proofs.YtccepoeenkpifaaDoor
