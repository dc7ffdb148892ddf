/-
  The walk of ShaPairIsTagged.
-/
import Derived.Test.YtglabhlgnbkeiaaDoorShM
import Derived.Test.YtglabhlgnbkeiaaDoorOpA
namespace Go.Proofs.YtglabhlgnbkeiaaDoor
open Go.RowKit
set_option linter.unusedVariables false
set_option linter.unusedSimpArgs false

theorem pair_tag (l : List UInt8) : Sha.tag Sha.pairT l = Sha.sum ([4, 112, 97, 105, 114] ++ l) := congrArg Sha.sum (by rfl)

attribute [local irreducible] Sha.sum Sha.tag

set_option maxRecDepth 100000 in
set_option maxHeartbeats 2000000 in
theorem shaPairIsTagged_walk (x y : List UInt8) (W : World) (hx : x.length = 32) (hy : y.length = 32) (hk : KIs 1 W) :
    Calls Tryd.prog 8 #[.agg (u8s x).toArray, .agg (u8s y).toArray] W fun e w' => e = .returned (.bool true) ∧ Below W.heap.size W w' := by
  have HX := Lib.hid hx
  have HY := Lib.hid hy
  have ux : (u8s x).length = 32 := by rw [u8s_length, hx]
  have uy : (u8s y).length = 32 := by rw [u8s_length, hy]
  have HUX := Lib.hid ux
  have HUY := Lib.hid uy
  clear ux uy
  obtain ⟨W0, hW0⟩ : ∃ W0, W0 = (W.alloc (.cells (u8s x).toArray 25)).alloc (.cells (u8s y).toArray 25) := ⟨_, rfl⟩
  have bl0 : Below W.heap.size W W0 := by rw [hW0]; exact ((Below.refl _ _).alloc (Nat.le_refl _) _).alloc (by simp) _
  have hx0 : Blk W0 W.heap.size 25 (u8s x) := by
    rw [hW0]
    exact (Blk.new W _ _).past ((Below.refl _ _).alloc (Nat.le_refl _) _) (by simp)
  have hy0 : Blk W0 (W.heap.size + 1) 25 (u8s y) := by
    have h := Blk.new (W.alloc (.cells (u8s x).toArray 25)) 25 (u8s y)
    rw [World.size_alloc] at h
    rw [hW0]; exact h
  have hk0 := hk.past bl0
  have HW0 := Lib.hid hW0
  clear hW0
  clear hx hy
  go_enter Tryd.func8, Tryd.ntmps8
  go_wp2_with fail
  rw [← HW0.out]
  refine (sane_any W0 hk0).mono ?_
  rintro e w1 ⟨rfl, b1⟩
  have hx1 := hx0.past b1 hx0.lt
  have hy1 := hy0.past b1 hy0.lt
  have hk1 := hk0.past b1
  have bl1 := bl0.trans (b1.mono bl0.size)
  clear hx0 hy0 hk0 bl0 b1
  have a1 : Below w1.heap.size w1 (w1.alloc (.cells #[] 5)) := (Below.refl _ _).alloc (Nat.le_refl _) _
  have o1 : Own (w1.alloc (.cells #[] 5)) w1.heap.size (.slice (some ⟨w1.heap.size, 0, none⟩) 0 0) [] := own_lit_n w1 [] (by simp [maxLen])
  have e1 : ([] : List UInt8).length + x.length ≤ 140737488355328 := by simp [HX.out]
  have e2 : ([] ++ x : List UInt8).length + y.length ≤ 140737488355328 := by simp [HX.out, HY.out]
  have d1 := dig_bs (hx1.past a1 hx1.lt) HX.out
  go_upto_region 5 with (first
    | (refine wp_sliceA0 25 5 32 (.tmp 2) rfl rfl Tryd.underlying25 size_u8 W.heap.size rfl ?_)
    | (refine wp_sliceA0 25 5 32 (.tmp 3) rfl rfl Tryd.underlying25 size_u8 (W.heap.size + 1) rfl ?_)
    | (refine wp_apps w1.heap.size (.tmp 9) (.tmp 10) rfl rfl _ _ [] x rfl rfl o1 a1.size d1 e1 ?_; intro v2 w2 ho2 b2)
    | (refine wp_apps w1.heap.size (.tmp 12) (.tmp 13) rfl rfl v2 _ ([] ++ x) y rfl rfl ho2 (a1.trans b2).size (dig_bs (hy1.past (a1.trans b2) hy1.lt) HY.out) e2 ?_; intro v3 w3 ho3 b3))
  have b13 : Below w1.heap.size w1 w3 := a1.trans (b2.trans b3)
  have hx3 := hx1.past b13 hx1.lt
  have hy3 := hy1.past b13 hy1.lt
  have hk3 := hk1.past b13
  have bl3 := bl1.trans (b13.mono bl1.size)
  have hv3 := Own.bs ho3
  have hxy : ([] ++ x ++ y : List UInt8) = x ++ y := by simp
  rw [hxy] at hv3
  have e4 : ([4, 112, 97, 105, 114] : List UInt8).length + (x ++ y).length ≤ 140737488355328 := by simp [HX.out, HY.out]
  have a4 : Below w3.heap.size w3 (w3.alloc (.cells (u8s [4, 112, 97, 105, 114]).toArray 5)) := (Below.refl _ _).alloc (Nat.le_refl _) _
  have o4 : Own (w3.alloc (.cells (u8s [4, 112, 97, 105, 114]).toArray 5)) w3.heap.size (.slice (some ⟨w3.heap.size, 0, none⟩) 5 5) [4, 112, 97, 105, 114] := own_lit_n w3 [4, 112, 97, 105, 114] (by decide)
  have hv4 := hv3.past a4
  clear hxy ho3 hx1 hy1 hk1 bl1 ho2 a1 o1 e1 e2 d1 b13
  go_upto_region 7 with (refine wp_apps w3.heap.size (.tmp 16) (.tmp 17) rfl rfl _ _ [4, 112, 97, 105, 114] (x ++ y) rfl rfl o4 a4.size hv4 e4 ?_; intro v4 w4 ho4 b4)
  have b34 : Below w3.heap.size w3 w4 := a4.trans b4
  have hx4 := hx3.past b34 hx3.lt
  have hy4 := hy3.past b34 hy3.lt
  have hk4 := hk3.past b34
  have hv4' := hv3.past b34
  have bl4 := bl3.trans (b34.mono bl3.size)
  have ho4' := Own.bs ho4
  clear hx3 hy3 hk3 hv3 bl3 e4 a4 o4 hv4 ho4 b4 b34 b2 b3
  go_wp2_with (first
    | (refine wp_run rfl (exec_loadA 25 rfl W.heap.size rfl 25 _ 32 5 hx4 Tryd.underlying25 (by rw [info_dig, HUX.out])) ?_)
    | (refine wp_run rfl (exec_loadA 25 rfl (W.heap.size + 1) rfl 25 _ 32 5 hy4 Tryd.underlying25 (by rw [info_dig, HUY.out])) ?_))
  refine (pair_any x y w4 HX.out HY.out hk4).mono ?_
  rintro e w5 ⟨rfl, b5⟩
  have hx5 := hx4.past b5 hx4.lt
  have hy5 := hy4.past b5 hy4.lt
  have hk5 := hk4.past b5
  have hv5 := hv4'.past b5
  have bl5 := bl4.trans (b5.mono bl4.size)
  have ho5 := ho4'.past b5
  clear hx4 hy4 hk4 hv4' bl4 ho4' b5
  go_wp2_with fail
  refine (tagged_any v3 Sha.pairT (x ++ y) w5 hv5 hk5 (by rw [List.length_append, HX.out, HY.out]; omega) (by decide)).mono ?_
  rintro e w6 ⟨rfl, b6⟩
  have hx6 := hx5.past b6 hx5.lt
  have hy6 := hy5.past b6 hy5.lt
  have hk6 := hk5.past b6
  have bl6 := bl5.trans (b6.mono bl5.size)
  have ho6 := ho5.past b6
  clear hx5 hy5 hk5 hv5 bl5 ho5 b6
  go_wp2_with (first
    | (refine wp_run rfl (exec_eqT rfl (Sha.tag Sha.pairT (x ++ y)) (Sha.tag Sha.pairT (x ++ y)) rfl rfl rfl (Sha.tag_len _ _) (Sha.tag_len _ _) _) ?_)
    | (refine wp_run rfl (exec_loadA 25 rfl W.heap.size rfl 25 _ 32 5 hx6 Tryd.underlying25 (by rw [info_dig, HUX.out])) ?_)
    | (refine wp_run rfl (exec_loadA 25 rfl (W.heap.size + 1) rfl 25 _ 32 5 hy6 Tryd.underlying25 (by rw [info_dig, HUY.out])) ?_))
  refine (pair_any x y w6 HX.out HY.out hk6).mono ?_
  rintro e w7 ⟨rfl, b7⟩
  have hk7 := hk6.past b7
  have bl7 := bl6.trans (b7.mono bl6.size)
  have ho7 := ho6.past b7
  clear hx6 hy6 hk6 bl6 ho6 b7
  go_wp2_with fail
  refine (sum_any v4 _ w7 ho7 hk7 (by simp [HX.out, HY.out])).mono ?_
  rintro e w8 ⟨rfl, b8⟩
  have bl8 := bl7.trans (b8.mono bl7.size)
  clear hk7 bl7 ho7 b8
  go_wp2_with (refine wp_run rfl (exec_eqT rfl (Sha.tag Sha.pairT (x ++ y)) (Sha.sum ([4, 112, 97, 105, 114] ++ (x ++ y))) rfl rfl (pair_tag _) (Sha.tag_len _ _) (Sha.sum_len _) _) ?_)
  go_ret
  exact ⟨rfl, bl8⟩
end Go.Proofs.YtglabhlgnbkeiaaDoor
