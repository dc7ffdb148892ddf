/-
  Package keytree: Climb.
-/
import Derived.Test.YtccepoeenkpifaaDoorKtD
namespace Go.Proofs.YtccepoeenkpifaaDoor
open Go.RowKit
set_option linter.unusedVariables false
set_option linter.unusedSimpArgs false

theorem shl_n {n : Nat} (h : n ≤ 6) : wrap64 ((2 : Int) ^ n) = ((2 ^ n : Nat) : Int) := by
  have h2 : n = 0 ∨ n = 1 ∨ n = 2 ∨ n = 3 ∨ n = 4 ∨ n = 5 ∨ n = 6 := by omega
  rcases h2 with rfl | rfl | rfl | rfl | rfl | rfl | rfl <;> decide +kernel

theorem climb_no (v : Value) (x G : List UInt8) (n : Nat) (ix : Int) (w : World) (hv : Row w w.heap.size 32 n v (u8s G)) (hx : x.length = 32) (hm : n ≤ 9223372036854775807) (hx1 : -9223372036854775808 ≤ ix) (hx2 : ix ≤ 9223372036854775807) (h : ¬ (n ≤ 6 ∧ 0 ≤ ix ∧ ix < ((2 ^ n : Nat) : Int))) :
    Calls Tryd.prog 19 #[.agg (u8s x).toArray, .int .i64 ix, v] w fun e w' => e = .returned (.tuple #[.agg (u8s z32).toArray, .int .i64 1]) ∧ Below w.heap.size w w' := by
  obtain ⟨A, cap, rfl⟩ := row_form hv
  have hz := zero_dig
  clear hv
  obtain ⟨W1, hW1⟩ : ∃ W, W = (w.alloc (.cells (u8s x).toArray 25)).alloc (.cells #[.int .i64 ix] 3) := ⟨_, rfl⟩
  obtain ⟨W0, hW0⟩ : ∃ W, W = W1.alloc (.cells (u8s z32).toArray 25) := ⟨_, rfl⟩
  have b1 : Below w.heap.size w W1 := by rw [hW1]; exact ((Below.refl _ _).alloc (Nat.le_refl _) _).alloc (by simp) _
  have b0 : Below w.heap.size w W0 := by rw [hW0]; exact b1.alloc b1.size _
  have s1 : W1.heap.size = w.heap.size + 2 := by rw [hW1]; simp
  have c1 : W0.cell? ⟨w.heap.size + 1, 0, none⟩ = some (.int .i64 ix) := by
    have h := (Blk.new (w.alloc (.cells (u8s x).toArray 25)) 3 [.int .i64 ix]).cell (j := 0) rfl
    rw [World.size_alloc] at h
    rw [hW0]
    refine cell_past ?_ ((Below.refl _ _).alloc (Nat.le_refl _) _)
    rw [hW1]; exact h
  have r0 : Blk W0 (w.heap.size + 2) 25 (u8s z32) := by rw [hW0, ← s1]; exact Blk.new _ _ _
  have HW := Lib.hid (show W0 = ((w.alloc (.cells (u8s x).toArray 25)).alloc (.cells #[.int .i64 ix] 3)).alloc (.cells (u8s z32).toArray 25) by rw [hW0, hW1])
  clear hW1 hW0 b1 s1
  by_cases h6 : n ≤ 6
  · have g1 : decide ((6 : Int) < (n : Int)) = false := by simp; omega
    by_cases h0 : 0 ≤ ix
    · have g2 : decide (ix < 0) = false := by simp; omega
      have g3 : decide (wrap64 ((2 : Int) ^ n) ≤ ix) = true := by
        rw [shl_n h6]
        refine decide_eq_true ?_
        by_cases h2 : ((2 ^ n : Nat) : Int) ≤ ix
        · exact h2
        · exact absurd ⟨h6, h0, by omega⟩ h
      clear h
      go_enter Tryd.func19, Tryd.ntmps19
      go_upto_region 1 with (fail)
      rw [← HW.out]
      refine wp_region_pt W0.heap.size (.take 0 (.take 1 (.take 2 (.take 3 (.take 4 (.take 5 (.take 6 (.take 7 (.take 8 (.take 9 (.take 10 (.take 11 (.take 12 (.take 13 .done)))))))))))))) (by kernel_rfl) (by kernel_rfl) (by kernel_rfl) (fun _ _ h => h) ?_
      have c2 : W0.drew.cell? ⟨w.heap.size + 1, 0, none⟩ = some (.int .i64 ix) := by simpa using c1
      have b2 : Below W0.heap.size W0 W0.drew := (Below.refl _ _).drew
      have hlt : w.heap.size + 1 < W0.heap.size := block_lt_of_cell c1
      first | refine pt_skip rfl rfl rfl rfl ?_ | (refine pt_take rfl rfl rfl rfl ?_; apply Exists.intro; refine ⟨fun w' hw' => ?_, ?_⟩; focus ((repeat (first | go_skip | go_guarded | go_step | go_upon | go_back)); exact ⟨rfl, rfl, rfl⟩))
      first | refine pt_skip rfl rfl rfl rfl ?_ | (refine pt_take rfl rfl rfl rfl ?_; apply Exists.intro; refine ⟨fun w' hw' => ?_, ?_⟩; focus ((repeat (first | go_skip | go_guarded | go_step | go_upon | go_back)); exact ⟨rfl, rfl, rfl⟩))
      first | refine pt_skip rfl rfl rfl rfl ?_ | (refine pt_take rfl rfl rfl rfl ?_; apply Exists.intro; refine ⟨fun w' hw' => ?_, ?_⟩; focus ((repeat (first | go_skip | go_guarded | go_step | go_upon | go_back)); exact ⟨rfl, rfl, rfl⟩))
      first | refine pt_skip rfl rfl rfl rfl ?_ | (refine pt_take rfl rfl rfl rfl ?_; apply Exists.intro; refine ⟨fun w' hw' => ?_, ?_⟩; focus ((repeat (first | go_skip | go_guarded | go_step | go_upon | go_back)); exact ⟨rfl, rfl, rfl⟩))
      refine pt_take rfl rfl rfl rfl ?_
      apply Exists.intro
      refine ⟨fun w' hw' => ?_, ?_⟩
      · have hcell := (hw'.cell (p := ⟨w.heap.size + 1, 0, none⟩) hlt).trans c2
        focus ((repeat (first | go_skip | go_guarded | go_step | go_upon | go_back)); exact ⟨rfl, rfl, rfl⟩)
      first | refine pt_skip rfl rfl rfl rfl ?_ | (refine pt_take rfl rfl rfl rfl ?_; apply Exists.intro; refine ⟨fun w' hw' => ?_, ?_⟩; focus ((repeat (first | go_skip | go_guarded | go_step | go_upon | go_back)); exact ⟨rfl, rfl, rfl⟩))
      first | refine pt_skip rfl rfl rfl rfl ?_ | (refine pt_take rfl rfl rfl rfl ?_; apply Exists.intro; refine ⟨fun w' hw' => ?_, ?_⟩; focus ((repeat (first | go_skip | go_guarded | go_step | go_upon | go_back)); exact ⟨rfl, rfl, rfl⟩))
      first | refine pt_skip rfl rfl rfl rfl ?_ | (refine pt_take rfl rfl rfl rfl ?_; apply Exists.intro; refine ⟨fun w' hw' => ?_, ?_⟩; focus ((repeat (first | go_skip | go_guarded | go_step | go_upon | go_back)); exact ⟨rfl, rfl, rfl⟩))
      refine pt_take rfl rfl rfl rfl ?_
      apply Exists.intro
      refine ⟨fun w' hw' => ?_, ?_⟩
      · have hcell := (hw'.cell (p := ⟨w.heap.size + 1, 0, none⟩) hlt).trans c2
        focus ((repeat (first | go_skip | go_guarded | go_step | go_upon | go_back)); exact ⟨rfl, rfl, rfl⟩)
      first | refine pt_skip rfl rfl rfl rfl ?_ | (refine pt_take rfl rfl rfl rfl ?_; apply Exists.intro; refine ⟨fun w' hw' => ?_, ?_⟩; focus ((repeat (first | go_skip | go_guarded | go_step | go_upon | go_back)); exact ⟨rfl, rfl, rfl⟩))
      first | refine pt_skip rfl rfl rfl rfl ?_ | (refine pt_take rfl rfl rfl rfl ?_; apply Exists.intro; refine ⟨fun w' hw' => ?_, ?_⟩; focus ((repeat (first | go_skip | go_guarded | go_step | go_upon | go_back)); exact ⟨rfl, rfl, rfl⟩))
      first | refine pt_skip rfl rfl rfl rfl ?_ | (refine pt_take rfl rfl rfl rfl ?_; apply Exists.intro; refine ⟨fun w' hw' => ?_, ?_⟩; focus ((repeat (first | go_skip | go_guarded | go_step | go_upon | go_back)); exact ⟨rfl, rfl, rfl⟩))
      first | refine pt_skip rfl rfl rfl rfl ?_ | (refine pt_take rfl rfl rfl rfl ?_; apply Exists.intro; refine ⟨fun w' hw' => ?_, ?_⟩; focus ((repeat (first | go_skip | go_guarded | go_step | go_upon | go_back)); exact ⟨rfl, rfl, rfl⟩))
      first | refine pt_skip rfl rfl rfl rfl ?_ | (refine pt_take rfl rfl rfl rfl ?_; apply Exists.intro; refine ⟨fun w' hw' => ?_, ?_⟩; focus ((repeat (first | go_skip | go_guarded | go_step | go_upon | go_back)); exact ⟨rfl, rfl, rfl⟩))
      change Exit.then _ _ Exit.normal _ _
      have b3 := b0.trans (b2.mono b0.size)
      have r3 := r0.past b2 r0.lt
      obtain ⟨W2, hW2⟩ : ∃ W, W = W0.drew := ⟨_, rfl⟩
      rw [← hW2] at b3 r3 ⊢
      clear hW2 b2 c2 c1 r0 b0 hlt g1 g2 g3
      go_wp2_with (refine wp_storeA 25 (.tmp 6) (.tmp 26) rfl rfl (w.heap.size + 2) rfl 25 (u8s z32) (u8s z32) rfl r3 (by rw [info_dig]; rfl) rfl (u8s_one _) rfl ?_; intro w8 h8 k8)
      have b8 : Below w.heap.size w w8 := b3.trans (k8.below (fun q hq => by omega) b3.size)
      refine ret_arr_tmp Tryd.results19 rfl (w.heap.size + 2) 25 _ 32 5 rfl h8 Tryd.underlying25 (by rw [info_dig]; rfl) _ rfl ?_
      exact ⟨rfl, b8⟩
    · have g2 : decide (ix < 0) = true := by simp; omega
      have g3 : True := trivial
      clear h
      go_enter Tryd.func19, Tryd.ntmps19
      go_upto_region 1 with (fail)
      rw [← HW.out]
      refine wp_region_pt W0.heap.size (.take 0 (.take 1 (.take 2 (.take 3 (.take 4 (.take 5 (.take 6 (.take 7 (.take 8 (.take 9 (.take 10 (.take 11 (.take 12 (.take 13 .done)))))))))))))) (by kernel_rfl) (by kernel_rfl) (by kernel_rfl) (fun _ _ h => h) ?_
      have c2 : W0.drew.cell? ⟨w.heap.size + 1, 0, none⟩ = some (.int .i64 ix) := by simpa using c1
      have b2 : Below W0.heap.size W0 W0.drew := (Below.refl _ _).drew
      have hlt : w.heap.size + 1 < W0.heap.size := block_lt_of_cell c1
      first | refine pt_skip rfl rfl rfl rfl ?_ | (refine pt_take rfl rfl rfl rfl ?_; apply Exists.intro; refine ⟨fun w' hw' => ?_, ?_⟩; focus ((repeat (first | go_skip | go_guarded | go_step | go_upon | go_back)); exact ⟨rfl, rfl, rfl⟩))
      first | refine pt_skip rfl rfl rfl rfl ?_ | (refine pt_take rfl rfl rfl rfl ?_; apply Exists.intro; refine ⟨fun w' hw' => ?_, ?_⟩; focus ((repeat (first | go_skip | go_guarded | go_step | go_upon | go_back)); exact ⟨rfl, rfl, rfl⟩))
      first | refine pt_skip rfl rfl rfl rfl ?_ | (refine pt_take rfl rfl rfl rfl ?_; apply Exists.intro; refine ⟨fun w' hw' => ?_, ?_⟩; focus ((repeat (first | go_skip | go_guarded | go_step | go_upon | go_back)); exact ⟨rfl, rfl, rfl⟩))
      first | refine pt_skip rfl rfl rfl rfl ?_ | (refine pt_take rfl rfl rfl rfl ?_; apply Exists.intro; refine ⟨fun w' hw' => ?_, ?_⟩; focus ((repeat (first | go_skip | go_guarded | go_step | go_upon | go_back)); exact ⟨rfl, rfl, rfl⟩))
      refine pt_take rfl rfl rfl rfl ?_
      apply Exists.intro
      refine ⟨fun w' hw' => ?_, ?_⟩
      · have hcell := (hw'.cell (p := ⟨w.heap.size + 1, 0, none⟩) hlt).trans c2
        focus ((repeat (first | go_skip | go_guarded | go_step | go_upon | go_back)); exact ⟨rfl, rfl, rfl⟩)
      first | refine pt_skip rfl rfl rfl rfl ?_ | (refine pt_take rfl rfl rfl rfl ?_; apply Exists.intro; refine ⟨fun w' hw' => ?_, ?_⟩; focus ((repeat (first | go_skip | go_guarded | go_step | go_upon | go_back)); exact ⟨rfl, rfl, rfl⟩))
      first | refine pt_skip rfl rfl rfl rfl ?_ | (refine pt_take rfl rfl rfl rfl ?_; apply Exists.intro; refine ⟨fun w' hw' => ?_, ?_⟩; focus ((repeat (first | go_skip | go_guarded | go_step | go_upon | go_back)); exact ⟨rfl, rfl, rfl⟩))
      first | refine pt_skip rfl rfl rfl rfl ?_ | (refine pt_take rfl rfl rfl rfl ?_; apply Exists.intro; refine ⟨fun w' hw' => ?_, ?_⟩; focus ((repeat (first | go_skip | go_guarded | go_step | go_upon | go_back)); exact ⟨rfl, rfl, rfl⟩))
      first | refine pt_skip rfl rfl rfl rfl ?_ | (refine pt_take rfl rfl rfl rfl ?_; apply Exists.intro; refine ⟨fun w' hw' => ?_, ?_⟩; focus ((repeat (first | go_skip | go_guarded | go_step | go_upon | go_back)); exact ⟨rfl, rfl, rfl⟩))
      first | refine pt_skip rfl rfl rfl rfl ?_ | (refine pt_take rfl rfl rfl rfl ?_; apply Exists.intro; refine ⟨fun w' hw' => ?_, ?_⟩; focus ((repeat (first | go_skip | go_guarded | go_step | go_upon | go_back)); exact ⟨rfl, rfl, rfl⟩))
      first | refine pt_skip rfl rfl rfl rfl ?_ | (refine pt_take rfl rfl rfl rfl ?_; apply Exists.intro; refine ⟨fun w' hw' => ?_, ?_⟩; focus ((repeat (first | go_skip | go_guarded | go_step | go_upon | go_back)); exact ⟨rfl, rfl, rfl⟩))
      first | refine pt_skip rfl rfl rfl rfl ?_ | (refine pt_take rfl rfl rfl rfl ?_; apply Exists.intro; refine ⟨fun w' hw' => ?_, ?_⟩; focus ((repeat (first | go_skip | go_guarded | go_step | go_upon | go_back)); exact ⟨rfl, rfl, rfl⟩))
      first | refine pt_skip rfl rfl rfl rfl ?_ | (refine pt_take rfl rfl rfl rfl ?_; apply Exists.intro; refine ⟨fun w' hw' => ?_, ?_⟩; focus ((repeat (first | go_skip | go_guarded | go_step | go_upon | go_back)); exact ⟨rfl, rfl, rfl⟩))
      first | refine pt_skip rfl rfl rfl rfl ?_ | (refine pt_take rfl rfl rfl rfl ?_; apply Exists.intro; refine ⟨fun w' hw' => ?_, ?_⟩; focus ((repeat (first | go_skip | go_guarded | go_step | go_upon | go_back)); exact ⟨rfl, rfl, rfl⟩))
      change Exit.then _ _ Exit.normal _ _
      have b3 := b0.trans (b2.mono b0.size)
      have r3 := r0.past b2 r0.lt
      obtain ⟨W2, hW2⟩ : ∃ W, W = W0.drew := ⟨_, rfl⟩
      rw [← hW2] at b3 r3 ⊢
      clear hW2 b2 c2 c1 r0 b0 hlt g1 g2 g3
      go_wp2_with (refine wp_storeA 25 (.tmp 6) (.tmp 26) rfl rfl (w.heap.size + 2) rfl 25 (u8s z32) (u8s z32) rfl r3 (by rw [info_dig]; rfl) rfl (u8s_one _) rfl ?_; intro w8 h8 k8)
      have b8 : Below w.heap.size w w8 := b3.trans (k8.below (fun q hq => by omega) b3.size)
      refine ret_arr_tmp Tryd.results19 rfl (w.heap.size + 2) 25 _ 32 5 rfl h8 Tryd.underlying25 (by rw [info_dig]; rfl) _ rfl ?_
      exact ⟨rfl, b8⟩
  · have g1 : decide ((6 : Int) < (n : Int)) = true := by simp; omega
    have g2 : True := trivial
    have g3 : True := trivial
    clear h
    go_enter Tryd.func19, Tryd.ntmps19
    go_upto_region 1 with (fail)
    rw [← HW.out]
    refine wp_region_pt W0.heap.size (.take 0 (.take 1 (.take 2 (.take 3 (.take 4 (.take 5 (.take 6 (.take 7 (.take 8 (.take 9 (.take 10 (.take 11 (.take 12 (.take 13 .done)))))))))))))) (by kernel_rfl) (by kernel_rfl) (by kernel_rfl) (fun _ _ h => h) ?_
    have c2 : W0.drew.cell? ⟨w.heap.size + 1, 0, none⟩ = some (.int .i64 ix) := by simpa using c1
    have b2 : Below W0.heap.size W0 W0.drew := (Below.refl _ _).drew
    have hlt : w.heap.size + 1 < W0.heap.size := block_lt_of_cell c1
    first | refine pt_skip rfl rfl rfl rfl ?_ | (refine pt_take rfl rfl rfl rfl ?_; apply Exists.intro; refine ⟨fun w' hw' => ?_, ?_⟩; focus ((repeat (first | go_skip | go_guarded | go_step | go_upon | go_back)); exact ⟨rfl, rfl, rfl⟩))
    first | refine pt_skip rfl rfl rfl rfl ?_ | (refine pt_take rfl rfl rfl rfl ?_; apply Exists.intro; refine ⟨fun w' hw' => ?_, ?_⟩; focus ((repeat (first | go_skip | go_guarded | go_step | go_upon | go_back)); exact ⟨rfl, rfl, rfl⟩))
    first | refine pt_skip rfl rfl rfl rfl ?_ | (refine pt_take rfl rfl rfl rfl ?_; apply Exists.intro; refine ⟨fun w' hw' => ?_, ?_⟩; focus ((repeat (first | go_skip | go_guarded | go_step | go_upon | go_back)); exact ⟨rfl, rfl, rfl⟩))
    first | refine pt_skip rfl rfl rfl rfl ?_ | (refine pt_take rfl rfl rfl rfl ?_; apply Exists.intro; refine ⟨fun w' hw' => ?_, ?_⟩; focus ((repeat (first | go_skip | go_guarded | go_step | go_upon | go_back)); exact ⟨rfl, rfl, rfl⟩))
    first | refine pt_skip rfl rfl rfl rfl ?_ | (refine pt_take rfl rfl rfl rfl ?_; apply Exists.intro; refine ⟨fun w' hw' => ?_, ?_⟩; focus ((repeat (first | go_skip | go_guarded | go_step | go_upon | go_back)); exact ⟨rfl, rfl, rfl⟩))
    first | refine pt_skip rfl rfl rfl rfl ?_ | (refine pt_take rfl rfl rfl rfl ?_; apply Exists.intro; refine ⟨fun w' hw' => ?_, ?_⟩; focus ((repeat (first | go_skip | go_guarded | go_step | go_upon | go_back)); exact ⟨rfl, rfl, rfl⟩))
    first | refine pt_skip rfl rfl rfl rfl ?_ | (refine pt_take rfl rfl rfl rfl ?_; apply Exists.intro; refine ⟨fun w' hw' => ?_, ?_⟩; focus ((repeat (first | go_skip | go_guarded | go_step | go_upon | go_back)); exact ⟨rfl, rfl, rfl⟩))
    first | refine pt_skip rfl rfl rfl rfl ?_ | (refine pt_take rfl rfl rfl rfl ?_; apply Exists.intro; refine ⟨fun w' hw' => ?_, ?_⟩; focus ((repeat (first | go_skip | go_guarded | go_step | go_upon | go_back)); exact ⟨rfl, rfl, rfl⟩))
    first | refine pt_skip rfl rfl rfl rfl ?_ | (refine pt_take rfl rfl rfl rfl ?_; apply Exists.intro; refine ⟨fun w' hw' => ?_, ?_⟩; focus ((repeat (first | go_skip | go_guarded | go_step | go_upon | go_back)); exact ⟨rfl, rfl, rfl⟩))
    first | refine pt_skip rfl rfl rfl rfl ?_ | (refine pt_take rfl rfl rfl rfl ?_; apply Exists.intro; refine ⟨fun w' hw' => ?_, ?_⟩; focus ((repeat (first | go_skip | go_guarded | go_step | go_upon | go_back)); exact ⟨rfl, rfl, rfl⟩))
    first | refine pt_skip rfl rfl rfl rfl ?_ | (refine pt_take rfl rfl rfl rfl ?_; apply Exists.intro; refine ⟨fun w' hw' => ?_, ?_⟩; focus ((repeat (first | go_skip | go_guarded | go_step | go_upon | go_back)); exact ⟨rfl, rfl, rfl⟩))
    first | refine pt_skip rfl rfl rfl rfl ?_ | (refine pt_take rfl rfl rfl rfl ?_; apply Exists.intro; refine ⟨fun w' hw' => ?_, ?_⟩; focus ((repeat (first | go_skip | go_guarded | go_step | go_upon | go_back)); exact ⟨rfl, rfl, rfl⟩))
    first | refine pt_skip rfl rfl rfl rfl ?_ | (refine pt_take rfl rfl rfl rfl ?_; apply Exists.intro; refine ⟨fun w' hw' => ?_, ?_⟩; focus ((repeat (first | go_skip | go_guarded | go_step | go_upon | go_back)); exact ⟨rfl, rfl, rfl⟩))
    first | refine pt_skip rfl rfl rfl rfl ?_ | (refine pt_take rfl rfl rfl rfl ?_; apply Exists.intro; refine ⟨fun w' hw' => ?_, ?_⟩; focus ((repeat (first | go_skip | go_guarded | go_step | go_upon | go_back)); exact ⟨rfl, rfl, rfl⟩))
    change Exit.then _ _ Exit.normal _ _
    have b3 := b0.trans (b2.mono b0.size)
    have r3 := r0.past b2 r0.lt
    obtain ⟨W2, hW2⟩ : ∃ W, W = W0.drew := ⟨_, rfl⟩
    rw [← hW2] at b3 r3 ⊢
    clear hW2 b2 c2 c1 r0 b0 hlt g1 g2 g3
    go_wp2_with (refine wp_storeA 25 (.tmp 6) (.tmp 26) rfl rfl (w.heap.size + 2) rfl 25 (u8s z32) (u8s z32) rfl r3 (by rw [info_dig]; rfl) rfl (u8s_one _) rfl ?_; intro w8 h8 k8)
    have b8 : Below w.heap.size w w8 := b3.trans (k8.below (fun q hq => by omega) b3.size)
    refine ret_arr_tmp Tryd.results19 rfl (w.heap.size + 2) 25 _ 32 5 rfl h8 Tryd.underlying25 (by rw [info_dig]; rfl) _ rfl ?_
    exact ⟨rfl, b8⟩
end Go.Proofs.YtccepoeenkpifaaDoor
