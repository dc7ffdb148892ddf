/-
  Walks of package sha256: pairs.
-/
import Derived.Test.YtccepoeenkpifaaDoorShK
import Derived.Test.YtccepoeenkpifaaDoorShI
namespace Go.Proofs.YtccepoeenkpifaaDoor
open Go.RowKit
set_option linter.unusedVariables false
set_option linter.unusedSimpArgs false

theorem ls_pair {w : World} {g : Nat} {t : TypeId} {u v : Value} {x y : List UInt8} (h : Blk w g t [u, v]) (hu : Bs w w.heap.size u x) (hv : Bs w w.heap.size v y) : Ls w w.heap.size (.slice (some ⟨g, 0, none⟩) 2 2) [x, y] := by
  refine ⟨[u, v], row_of_blk h h.lt rfl (by simp [maxLen]), fun i a b ha hb => ?_⟩
  rcases i with _ | _ | i
  · simp at ha hb; subst ha hb; exact hu
  · simp at ha hb; subst ha hb; exact hv
  · simp at ha

set_option maxRecDepth 100000 in
set_option maxHeartbeats 1000000 in
theorem pair_any (x y : List UInt8) (w : World) (hx : x.length = 32) (hy : y.length = 32) (hk : KIs 1 w) :
    Calls Tryd.prog 29 #[.agg (u8s x).toArray, .agg (u8s y).toArray] w fun e w' => e = .returned (.agg (u8s (Sha.tag Sha.pairT (x ++ y))).toArray) ∧ Below w.heap.size w w' := by
  have hz := zero_dig
  have HX := Lib.hid hx
  have HY := Lib.hid hy
  clear hx hy
  go_enter Tryd.func29, Tryd.ntmps29
  go_wp2_with fail
  obtain ⟨W0, hW0⟩ : ∃ W0, W0 = (((w.alloc (.cells (u8s x).toArray 25)).alloc (.cells (u8s y).toArray 25)).alloc (.cells (u8s z32).toArray 25)).drew := ⟨_, rfl⟩
  have h1 : Below w.heap.size w (w.alloc (.cells (u8s x).toArray 25)) := (Below.refl _ _).alloc (Nat.le_refl _) _
  have hb0 : Below w.heap.size w W0 := by rw [hW0]; exact ((h1.alloc (by simp) _).alloc (by simp; omega) _).drew
  have hx0 : Blk W0 w.heap.size 25 (u8s x) := by
    rw [hW0]
    exact (((Blk.new w _ _).past ((Below.refl _ _).alloc (Nat.le_refl _) _) (by simp)).past ((Below.refl _ _).alloc (Nat.le_refl _) _) (by simp; omega)).drew
  have hy0 : Blk W0 (w.heap.size + 1) 25 (u8s y) := by
    have h := Blk.new (w.alloc (.cells (u8s x).toArray 25)) 25 (u8s y)
    rw [World.size_alloc] at h
    rw [hW0]
    exact (h.past ((Below.refl _ _).alloc (Nat.le_refl _) _) (by simp)).drew
  have hr0 : Blk W0 (w.heap.size + 2) 25 (u8s z32) := by
    have h := Blk.new ((w.alloc (.cells (u8s x).toArray 25)).alloc (.cells (u8s y).toArray 25)) 25 (u8s z32)
    rw [World.size_alloc, World.size_alloc] at h
    rw [hW0]
    exact h.drew
  have hs0 : w.heap.size + 2 < W0.heap.size := hr0.lt
  have HW0 := Lib.hid hW0
  clear hW0 h1 hz
  go_still_tail 2, (by kernel_rfl)
  change wpList _ _ _ _ _ (World.drew _)
  rw [← HW0.out]
  have ha1 : Below W0.heap.size W0 (W0.alloc (.cells #[.slice (some ⟨w.heap.size, 0, none⟩) 32 32, .slice (some ⟨w.heap.size + 1, 0, none⟩) 32 32] 22)) := (Below.refl _ _).alloc (Nat.le_refl _) _
  have hls := ls_pair (Blk.new W0 22 [.slice (some ⟨w.heap.size, 0, none⟩) 32 32, .slice (some ⟨w.heap.size + 1, 0, none⟩) 32 32])
    ((dig_bs hx0 HX.out).past ha1) ((dig_bs hy0 HY.out).past ha1)
  have hfl : [x, y].flatten = x ++ y := by simp
  have hc := concat_any _ [x, y] _ hls (by rw [hfl, List.length_append, HX.out, HY.out]; omega) (by simp)
  rw [hfl] at hc
  have HC := Lib.hid hc
  have hr1 := hr0.past ha1 hr0.lt
  have hb1 : Below w.heap.size w _ := hb0.trans (ha1.mono hb0.size)
  have hk1 := (hk.past hb0).past ha1
  have hs1 := ha1.size
  clear hc hls hfl hx0 hy0 hr0
  go_wp2_with fail
  refine HC.out.mono ?_
  rintro e w2 ⟨v2, rfl, ho2, hb2⟩
  have hr2 := hr1.past hb2 hr1.lt
  have hb02 := hb1.trans (hb2.mono hb1.size)
  have hc2 := tagged_any v2 Sha.pairT (x ++ y) w2 ho2.bs (hk1.past hb2) (by rw [List.length_append, HX.out, HY.out]; omega) (by decide)
  have HC2 := Lib.hid hc2
  have HDL : Hid ((u8s (Sha.tag Sha.pairT (x ++ y))).length = 32) := Lib.hid (by rw [u8s_length, Sha.tag_len])
  clear HC hc2 hr1 hb1 ho2 hk1 hb2
  go_wp2_with fail
  refine HC2.out.mono ?_
  rintro e w3 ⟨rfl, hb3⟩
  have hr3 := hr2.past hb3 hr2.lt
  have hb03 := hb02.trans (hb3.mono hb02.size)
  obtain ⟨D, hD⟩ : ∃ D, D = Sha.tag Sha.pairT (x ++ y) := ⟨_, rfl⟩
  rw [← hD] at HDL ⊢
  have HD := Lib.hid hD
  clear hD HC2 hr2 hb3
  go_wp2_with (refine wp_storeA 25 (.tmp 4) (.tmp 9) rfl rfl (w.heap.size + 2) rfl 25 (u8s z32) _ rfl hr3 (by rw [info_dig, HDL.out]) (by rw [HDL.out]; rfl) (u8s_one _) rfl ?_; intro w8 hr8 hk8)
  have hb08 : Below w.heap.size w w8 := hb03.trans (hk8.below (fun q hq => by omega) hb03.size)
  refine ret_arr Tryd.results29 rfl (w.heap.size + 2) 25 _ 32 5 rfl hr8 Tryd.underlying25 (by rw [info_dig, HDL.out]) ?_
  rw [HD.out]
  exact ⟨rfl, hb08⟩
end Go.Proofs.YtccepoeenkpifaaDoor
