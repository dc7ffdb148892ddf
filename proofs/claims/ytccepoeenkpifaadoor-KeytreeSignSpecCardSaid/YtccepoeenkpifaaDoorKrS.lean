/-
  The reference of layer 5: equal signatures.
-/
import Derived.Test.YtccepoeenkpifaaDoorKtI
import Derived.Test.YtccepoeenkpifaaDoorKtG
namespace Go.Proofs.YtccepoeenkpifaaDoor
open Go.RowKit
set_option linter.unusedVariables false
set_option linter.unusedSimpArgs false

set_option maxRecDepth 100000 in
set_option maxHeartbeats 1000000 in
theorem same_yes (ix : Int) (A B A' B' : Option Addr) (n m c d c' d' : Nat) (F G : List UInt8) (w : World) (h1 : Row w w.heap.size 32 n (.slice A n c) (u8s F)) (h2 : Row w w.heap.size 32 n (.slice A' n c') (u8s F)) (h3 : Row w w.heap.size 32 m (.slice B m d) (u8s G)) (h4 : Row w w.heap.size 32 m (.slice B' m d') (u8s G)) (hn : n ≤ 1000000) (hm : m ≤ 1000000) :
    Calls Tryd.prog 16 #[.agg (sg ix (.slice A n c) (.slice B m d)).toArray, .agg (sg ix (.slice A' n c') (.slice B' m d')).toArray] w fun e w' => e = .returned (.bool true) ∧ Below w.heap.size w w' := by
  have b0 : Below w.heap.size w ((w.alloc (.cells (sg ix (.slice A n c) (.slice B m d)).toArray 31)).alloc (.cells (sg ix (.slice A' n c') (.slice B' m d')).toArray 31)) := ((Below.refl _ _).alloc (Nat.le_refl _) _).alloc (by simp) _
  have q0 : Blk ((w.alloc (.cells (sg ix (.slice A n c) (.slice B m d)).toArray 31)).alloc (.cells (sg ix (.slice A' n c') (.slice B' m d')).toArray 31)) w.heap.size 31 (sg ix (.slice A n c) (.slice B m d)) := (Blk.new w _ _).past ((Below.refl _ _).alloc (Nat.le_refl _) _) (by simp)
  have s0 : Blk ((w.alloc (.cells (sg ix (.slice A n c) (.slice B m d)).toArray 31)).alloc (.cells (sg ix (.slice A' n c') (.slice B' m d')).toArray 31)) (w.heap.size + 1) 31 (sg ix (.slice A' n c') (.slice B' m d')) := by
    have h := Blk.new (w.alloc (.cells (sg ix (.slice A n c) (.slice B m d)).toArray 31)) 31 (sg ix (.slice A' n c') (.slice B' m d'))
    rw [World.size_alloc] at h; exact h
  obtain ⟨W0, hW0⟩ : ∃ W, W = (w.alloc (.cells (sg ix (.slice A n c) (.slice B m d)).toArray 31)).alloc (.cells (sg ix (.slice A' n c') (.slice B' m d')).toArray 31) := ⟨_, rfl⟩
  rw [← hW0] at b0 q0 s0
  have HW := Lib.hid hW0
  have hd1 := digests_any _ _ F F n n W0 (h1.past b0) (h2.past b0) hn hn
  rw [beq_self_eq_true] at hd1
  have HD1 := Lib.hid hd1
  have HR3 := Lib.hid (h3.past b0)
  have HR4 := Lib.hid (h4.past b0)
  have q00 : W0.cell? ⟨w.heap.size, 0, none⟩ = some (.int .i64 ix) := q0.cell (j := 0) rfl
  have q01 : W0.cell? ⟨w.heap.size, 1, none⟩ = some (.slice A n c) := q0.cell (j := 1) rfl
  have q02 : W0.cell? ⟨w.heap.size, 2, none⟩ = some (.slice B m d) := q0.cell (j := 2) rfl
  have s00 : W0.cell? ⟨w.heap.size + 1, 0, none⟩ = some (.int .i64 ix) := s0.cell (j := 0) rfl
  have s01 : W0.cell? ⟨w.heap.size + 1, 1, none⟩ = some (.slice A' n c') := s0.cell (j := 1) rfl
  have s02 : W0.cell? ⟨w.heap.size + 1, 2, none⟩ = some (.slice B' m d') := s0.cell (j := 2) rfl
  clear hW0 h1 h2 h3 h4 hd1 q0 s0
  go_enter Tryd.func16, Tryd.ntmps16
  go_upto_region 1 with (fail)
  rw [← HW.out]
  go_wp2_with fail
  refine HD1.out.mono ?_
  rintro e w2 ⟨rfl, b2⟩
  have q12 := cell_past q02 b2
  have s12 := cell_past s02 b2
  have bb2 := b0.trans (b2.mono b0.size)
  have hd2 := digests_any _ _ G G m m w2 (HR3.out.past b2) (HR4.out.past b2) hm hm
  rw [beq_self_eq_true] at hd2
  have HD2 := Lib.hid hd2
  clear HD1 b2 q00 q01 q02 s00 s01 s02 b0 hd2
  go_wp2_with fail
  refine HD2.out.mono ?_
  rintro e w3 ⟨rfl, b3⟩
  have bb3 := bb2.trans (b3.mono bb2.size)
  clear HD2 b3 q12 s12 bb2
  go_wp2_with fail
  go_ret
  exact ⟨rfl, bb3⟩
end Go.Proofs.YtccepoeenkpifaaDoor
