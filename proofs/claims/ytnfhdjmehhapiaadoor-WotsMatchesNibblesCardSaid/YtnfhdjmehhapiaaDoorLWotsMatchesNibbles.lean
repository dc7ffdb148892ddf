/-
  The walk of WotsMatchesNibbles.
-/
import Derived.Test.YtnfhdjmehhapiaaDoorWtH
import Derived.Test.YtnfhdjmehhapiaaDoorWtI
import Derived.Test.YtnfhdjmehhapiaaDoorWtR
import Derived.Test.YtnfhdjmehhapiaaDoorOpA
namespace Go.Proofs.YtnfhdjmehhapiaaDoor
open Go.RowKit
set_option linter.unusedVariables false
set_option linter.unusedSimpArgs false

theorem ns_small (d : List UInt8) : ∀ x ∈ Wt.ns d, x < 1000000 := by
  intro x hx
  simp only [Wt.ns, List.mem_map] at hx
  obtain ⟨i, _, rfl⟩ := hx
  have := Wt.nn_le d i
  omega

set_option maxRecDepth 100000 in
set_option maxHeartbeats 2000000 in
theorem wotsMatchesNibbles_walk (d : List UInt8) (W : World) (hd : d.length = 32) (hk : KIs 0 W) :
    Calls Tryd.prog 3 #[.agg (u8s d).toArray] W fun e w' => e = .returned (.bool true) ∧ Below W.heap.size W w' := by
  have HUD := Lib.hid (show (u8s d).length = 32 by rw [u8s_length, hd])
  have HD := Lib.hid hd
  have b0 : Below W.heap.size W (W.alloc (.cells (u8s d).toArray 23)) := (Below.refl _ _).alloc (Nat.le_refl _) _
  have hd0 : Blk (W.alloc (.cells (u8s d).toArray 23)) W.heap.size 23 (u8s d) := Blk.new W _ _
  obtain ⟨W0, hW0⟩ : ∃ W0, W0 = W.alloc (.cells (u8s d).toArray 23) := ⟨_, rfl⟩
  rw [← hW0] at b0 hd0
  have HW := Lib.hid hW0
  have hk0 := hk.past b0
  clear hW0 hd
  go_enter Tryd.func3, Tryd.ntmps3
  go_upto_region 1 with (fail)
  rw [← HW.out]
  go_wp2_with fail
  refine (sane_any W0 hk0).mono ?_
  rintro e w1 ⟨rfl, b1⟩
  have hd1 := hd0.past b1 hd0.lt
  have bl1 := b0.trans (b1.mono b0.size)
  clear hd0 hk0 b0 b1
  go_upto_region 3 with (fail)
  have hdb := hd1.lt
  refine wp_region_pt w1.heap.size (.take 0 (.take 2 (.step 1 (.step 3 (.step 4 (.take 5 .done)))))) (by kernel_rfl) (by kernel_rfl) (by kernel_rfl) (fun _ _ h => h) ?_
  obtain ⟨w0, hw0⟩ : ∃ w0, w0 = w1.drew := ⟨_, rfl⟩
  have hd0 : Blk w0 W.heap.size 23 (u8s d) := by rw [hw0]; exact hd1.drew
  have bl0 : Below W.heap.size W w0 := by rw [hw0]; exact bl1.drew
  have z0 : w1.heap.size ≤ w0.heap.size := by rw [hw0]; exact (Below.refl w1.heap.size w1).drew.size
  rw [← hw0]
  clear hw0 hd1 bl1
  refine pt_take rfl rfl rfl rfl ?_
  apply Exists.intro
  refine ⟨fun w' hw' => ?_, ?_⟩
  · refine wp_run rfl (exec_loadA 23 rfl _ rfl 23 _ 32 5 (hd0.past hw' hdb) Tryd.underlying23 (by rw [info_dig, HUD.out])) ?_
    exact ⟨rfl, rfl, rfl⟩
  refine pt_take rfl rfl rfl rfl ?_
  apply Exists.intro
  refine ⟨fun w' hw' => ?_, ?_⟩
  · refine wp_run rfl (exec_loadA 23 rfl _ rfl 23 _ 32 5 (hd0.past hw' hdb) Tryd.underlying23 (by rw [info_dig, HUD.out])) ?_
    exact ⟨rfl, rfl, rfl⟩
  refine pt_step rfl ?_
  go_wp2_with fail
  refine (nibbles_any d w0 HD.out).mono ?_
  rintro e w2 ⟨g, rfl, hn2, hg, b2⟩
  go_wp2_with fail
  refine ⟨rfl, b2.mono z0, ?_⟩
  have bl2 := bl0.trans (b2.mono bl0.size)
  have z2 := Nat.le_trans z0 b2.size
  have hr2 : Row w2 w2.heap.size 1 (Wt.ns d).length (.slice (some ⟨g, 0, none⟩) 18 18) (ins (Wt.ns d)) := by rw [Wt.ns_len]; exact row_of_blkS hn2 hn2.lt (by rw [ins_length, Wt.ns_len]) (by decide)
  clear hd0 bl0 z0 b2 hn2
  refine pt_step rfl ?_
  go_wp2_with fail
  refine (rnibbles_any d w2 HD.out).mono ?_
  rintro e w3 ⟨v3, rfl, hr3, b3⟩
  obtain ⟨A3, c3, rfl⟩ := row_form hr3
  go_wp2_with fail
  refine ⟨rfl, b3.mono z2, ?_⟩
  have bl3 := bl2.trans (b3.mono bl2.size)
  have z3 := Nat.le_trans z2 b3.size
  have hr23 := hr2.past b3
  rw [← Wt.ns_len d] at hr3
  have hcall := ints_any _ _ _ _ w3 hr23 hr3 (by rw [Wt.ns_len]; decide) (by rw [Wt.ns_len]; decide) (ns_small d) (ns_small d)
  rw [beq_self_eq_true, Wt.ns_len] at hcall
  have HC := Lib.hid hcall
  clear hr2 hr3 hr23 bl2 z2 b3 hcall
  refine pt_step rfl ?_
  go_wp2_with fail
  refine HC.out.mono ?_
  rintro e w4 ⟨rfl, b4⟩
  go_wp2_with fail
  refine ⟨rfl, b4.mono z3, ?_⟩
  have bl4 := bl3.trans (b4.mono bl3.size)
  clear HC bl3 z3 b4
  first | refine pt_skip rfl rfl rfl rfl ?_ | (refine pt_take rfl rfl rfl rfl ?_; apply Exists.intro; refine ⟨fun w' hw' => ?_, ?_⟩; focus ((repeat (first | go_skip | go_guarded | go_step | go_upon | go_back)); exact ⟨rfl, rfl, rfl⟩))
  change Exit.then _ _ Exit.normal _ _
  go_wp2
  go_ret
  exact ⟨rfl, bl4⟩
end Go.Proofs.YtnfhdjmehhapiaaDoor
