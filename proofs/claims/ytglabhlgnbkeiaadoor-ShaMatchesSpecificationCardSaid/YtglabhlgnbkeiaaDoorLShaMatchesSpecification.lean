/-
  The walk of ShaMatchesSpecification.
-/
import Derived.Test.YtglabhlgnbkeiaaDoorShM
import Derived.Test.YtglabhlgnbkeiaaDoorOpA
import Derived.Test.YtglabhlgnbkeiaaDoorSrH
namespace Go.Proofs.YtglabhlgnbkeiaaDoor
open Go.RowKit
set_option linter.unusedVariables false
set_option linter.unusedSimpArgs false

attribute [local irreducible] Sha.sum

set_option maxRecDepth 100000 in
set_option maxHeartbeats 2000000 in
theorem shaMatchesSpecification_walk (v : Value) (l : List UInt8) (W : World) (hv : Bs W W.heap.size v l) (hk : KIs 2 W) (hi : InIs 0 W) (hr : KIs 1 W) :
    Calls Tryd.prog 3 #[v] W fun e w' => e = .returned (.bool true) ∧ Below W.heap.size W w' := by
  obtain ⟨A, cap, rfl⟩ := hv.form
  by_cases h1 : (1000 : Int) < (l.length : Int)
  · go_enter Tryd.func3, Tryd.ntmps3
    go_wp2_with fail
    refine (sane_any W hr).mono ?_
    rintro e w1 ⟨rfl, b1⟩
    go_wp2
    go_ret
    exact ⟨rfl, b1⟩
  · go_enter Tryd.func3, Tryd.ntmps3
    go_wp2_with fail
    refine (sane_any W hr).mono ?_
    rintro e w1 ⟨rfl, b1⟩
    have hv1 := hv.past b1
    have hr1 := hr.past b1
    have hk1 := hk.past b1
    have hi1 := hi.past b1
    clear hv hr hk hi
    go_wp2_with fail
    refine (sum_any _ l w1 hv1 hr1 (by omega)).mono ?_
    rintro e w2 ⟨rfl, b2⟩
    have hv2 := hv1.past b2
    have hk2 := hk1.past b2
    have hi2 := hi1.past b2
    have bl2 := b1.trans (b2.mono b1.size)
    clear hv1 hr1 hk1 hi1 b1 b2
    go_wp2_with fail
    refine (rsum_any _ l w2 hv2 hk2 hi2 (by omega)).mono ?_
    rintro e w3 ⟨rfl, b3⟩
    have bl3 := bl2.trans (b3.mono bl2.size)
    clear hv2 hk2 hi2 bl2 b3
    go_wp2_with (refine wp_run rfl (exec_eqT rfl (Sha.sum l) (Sha.sum l) rfl rfl rfl (Sha.sum_len _) (Sha.sum_len _) _) ?_)
    go_ret
    exact ⟨rfl, bl3⟩
end Go.Proofs.YtglabhlgnbkeiaaDoor
