/-
  Walks of the reference's package for layer 3: pairs.
-/
import Derived.Test.YtccepoeenkpifaaDoorSrF
namespace Go.Proofs.YtccepoeenkpifaaDoor
open Go.RowKit
set_option linter.unusedVariables false
set_option linter.unusedSimpArgs false

set_option maxRecDepth 100000 in
set_option maxHeartbeats 1000000 in
theorem rpair_any (x y : List UInt8) (w : World) (hx : x.length = 32) (hy : y.length = 32) (hk : KIs 2 w) (hi : InIs 0 w) :
    Calls Tryd.prog 41 #[.agg (u8s x).toArray, .agg (u8s y).toArray] w fun e w' => e = .returned (.agg (u8s (Sha.tag Sha.pairT (x ++ y))).toArray) ∧ Below w.heap.size w w' := by
  have hz := zero_dig
  have HX := Lib.hid hx
  have HY := Lib.hid hy
  obtain ⟨R, hR⟩ : ∃ R, R = Sha.tag Sha.pairT (x ++ y) := ⟨_, rfl⟩
  have HRL : Hid ((u8s R).length = 32) := Lib.hid (by rw [u8s_length, hR, Sha.tag_len])
  have HR := Lib.hid hR
  rw [← hR]
  clear hx hy hR
  obtain ⟨W0, hW0⟩ : ∃ W0, W0 = ((w.alloc (.cells (u8s x).toArray 25)).alloc (.cells (u8s y).toArray 25)).alloc (.cells (u8s z32).toArray 25) := ⟨_, rfl⟩
  have h1 : Below w.heap.size w (w.alloc (.cells (u8s x).toArray 25)) := (Below.refl _ _).alloc (Nat.le_refl _) _
  have bl0 : Below w.heap.size w W0 := by rw [hW0]; exact (h1.alloc (by simp) _).alloc (by simp; omega) _
  have hx0 : Blk W0 w.heap.size 25 (u8s x) := by
    rw [hW0]
    exact ((Blk.new w _ _).past ((Below.refl _ _).alloc (Nat.le_refl _) _) (by simp)).past ((Below.refl _ _).alloc (Nat.le_refl _) _) (by simp; omega)
  have hy0 : Blk W0 (w.heap.size + 1) 25 (u8s y) := by
    have h := Blk.new (w.alloc (.cells (u8s x).toArray 25)) 25 (u8s y)
    rw [World.size_alloc] at h
    rw [hW0]
    exact h.past ((Below.refl _ _).alloc (Nat.le_refl _) _) (by simp)
  have hr0 : Blk W0 (w.heap.size + 2) 25 (u8s z32) := by
    have h := Blk.new ((w.alloc (.cells (u8s x).toArray 25)).alloc (.cells (u8s y).toArray 25)) 25 (u8s z32)
    rw [World.size_alloc, World.size_alloc] at h
    rw [hW0]
    exact h
  have hk0 := hk.past bl0
  have hi0 := hi.past bl0
  have HW0 := Lib.hid hW0
  clear hW0 h1 hk hi
  have a1 : Below W0.heap.size W0 (W0.alloc (.cells #[] 5)) := (Below.refl _ _).alloc (Nat.le_refl _) _
  have o1 : Own (W0.alloc (.cells #[] 5)) W0.heap.size (.slice (some ⟨W0.heap.size, 0, none⟩) 0 0) [] := own_lit_n W0 [] (by simp [maxLen])
  have e1 : ([] : List UInt8).length + x.length ≤ 140737488355328 := by simp [HX.out]
  have e2 : ([] ++ x : List UInt8).length + y.length ≤ 140737488355328 := by simp [HX.out, HY.out]
  have d1 := dig_bs (hx0.past a1 hx0.lt) HX.out
  go_enter Tryd.func41, Tryd.ntmps41
  go_upto_region 1 with (fail)
  rw [← HW0.out]
  go_upto_region 3 with (first
    | (refine wp_sliceA0 25 5 32 (.tmp 2) rfl rfl Tryd.underlying25 size_u8 w.heap.size rfl ?_)
    | (refine wp_sliceA0 25 5 32 (.tmp 3) rfl rfl Tryd.underlying25 size_u8 (w.heap.size + 1) rfl ?_)
    | (refine wp_apps W0.heap.size (.tmp 6) (.tmp 7) rfl rfl _ _ [] x rfl rfl o1 a1.size d1 e1 ?_; intro v2 w2 ho2 b2)
    | (refine wp_apps W0.heap.size (.tmp 9) (.tmp 10) rfl rfl v2 _ ([] ++ x) y rfl rfl ho2 (a1.trans b2).size (dig_bs (hy0.past (a1.trans b2) hy0.lt) HY.out) e2 ?_; intro v3 w3 ho3 b3))
  have b13 : Below W0.heap.size W0 w3 := a1.trans (b2.trans b3)
  have hr3 := hr0.past b13 hr0.lt
  have hk3 := hk0.past b13
  have hi3 := hi0.past b13
  have bl3 := bl0.trans (b13.mono bl0.size)
  have hv3 := Own.bs ho3
  rw [List.nil_append] at hv3
  have hcall := rtagged_any v3 Sha.pairT (x ++ y) w3 hv3 hk3 hi3 (by rw [List.length_append, HX.out, HY.out]; omega) (by decide)
  rw [← HR.out] at hcall
  have HCALL := Lib.hid hcall
  have hs3 : w.heap.size + 2 < w3.heap.size := hr3.lt
  clear hcall ho3 hv3 hx0 hy0 hr0 hk0 hi0 bl0 ho2 a1 o1 e1 e2 d1 b13 hk3 hi3 b2 b3 hz
  go_wp2_with fail
  refine HCALL.out.mono ?_
  rintro e w6 ⟨rfl, hb6⟩
  have hr6 := hr3.past hb6 hr3.lt
  have hb06 := bl3.trans (hb6.mono bl3.size)
  clear HCALL hr3 hb6 bl3
  go_wp2_with (refine wp_storeA 25 (.tmp 4) (.tmp 13) rfl rfl (w.heap.size + 2) rfl 25 (u8s z32) _ rfl hr6 (by rw [info_dig, HRL.out]) (by rw [HRL.out]; rfl) (u8s_one _) rfl ?_; intro w8 hr8 hk8)
  have hb08 : Below w.heap.size w w8 := hb06.trans (hk8.below (fun q hq => by omega) hb06.size)
  refine ret_arr Tryd.results41 rfl (w.heap.size + 2) 25 _ 32 5 rfl hr8 Tryd.underlying25 (by rw [info_dig, HRL.out]) ?_
  exact ⟨rfl, hb08⟩
end Go.Proofs.YtccepoeenkpifaaDoor
