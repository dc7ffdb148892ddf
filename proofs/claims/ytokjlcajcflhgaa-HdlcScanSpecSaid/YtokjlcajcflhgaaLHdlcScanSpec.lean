/-
  The walk of the law HdlcScanSpec.
-/
import Derived.Test.YtokjlcajcflhgaaHdL
namespace Go.Proofs.Ytokjlcajcflhgaa
open Go.RowKit
set_option linter.unusedVariables false
set_option linter.unusedSimpArgs false

theorem scan_count (b : List UInt8) : (scanP b).length ≤ b.length := by
  unfold scanP
  exact Nat.le_trans (List.length_filterMap_le _ _) (cont_count b)

set_option maxRecDepth 100000 in
set_option maxHeartbeats 1600000 in
theorem hdlcScanSpec_walk (v : Value) (l : List UInt8) (w : World) (hv : Bs w w.heap.size v l) :
    Calls Try.prog 3 #[v] w fun e w' => e = .returned (.bool true) ∧ Below w.heap.size w w' := by
  obtain ⟨A, cap, rfl⟩ := hv.form
  by_cases hl : l.length ≤ 3000
  · have hc := scan_count l
    go_enter Try.func3, Try.ntmps3
    go_wp2_with fail
    refine (sane_any _).mono ?_
    rintro e w1 ⟨rfl, b1⟩
    have s1 := hv.past b1
    go_wp2_with fail
    refine (scan_any A cap l _ s1 (by omega)).mono ?_
    rintro e w2 ⟨v2, rfl, o2, b2⟩
    have s2 := s1.past b2
    have hb2 := b1.trans (b2.mono b1.size)
    clear b1 b2 s1
    go_wp2_with fail
    refine (refScan_any A cap l _ s2 (by omega)).mono ?_
    rintro e w3 ⟨v3, rfl, o3, b3⟩
    have o23 := o2.past b3
    have hb3 := hb2.trans (b3.mono hb2.size)
    clear s2 b3 hb2 o2
    go_wp2_with fail
    refine (sameAll_any v2 v3 (scanP l) (scanP l) _ _ _ o23.ls o3.ls (by omega) (by omega)).mono ?_
    rintro e w4 ⟨rfl, n, rfl⟩
    rw [show (scanP l == scanP l) = true by simp]
    go_wp2_with fail
    go_ret
    exact ⟨ret_bool (by simp), below_drewN hb3 n⟩
  · go_enter Try.func3, Try.ntmps3
    go_wp2_with fail
    refine (sane_any _).mono ?_
    rintro e w1 ⟨rfl, b1⟩
    go_wp2_with fail
    go_ret
    exact ⟨rfl, b1⟩

end Go.Proofs.Ytokjlcajcflhgaa
