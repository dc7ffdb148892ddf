/-
  The walk of the law VarintMatchesIntegers.
-/
import Derived.Test.YtgllhelpfjinbaaVarL0
import Derived.Test.YtgllhelpfjinbaaPlan
namespace Go.Proofs.Ytgllhelpfjinbaa
open Go.RowKit
set_option linter.unusedVariables false
set_option linter.unusedSimpArgs false

set_option maxRecDepth 100000 in
set_option maxHeartbeats 1600000 in
theorem varintMatchesIntegers_walk (v : Value) (l : List UInt8) (i : Int) (u : Int) (x : Int) (w : World) (hv : Bs w w.heap.size v l) (hi : -9223372036854775808 ≤ i ∧ i ≤ 9223372036854775807)
    (hu : 0 ≤ u ∧ u ≤ 18446744073709551615) (hx : -9223372036854775808 ≤ x ∧ x ≤ 9223372036854775807) :
    Calls Try.prog 3 #[v, .int .i64 i, .int .u64 u, .int .i64 x] w fun e w' => e = .returned (.bool true) ∧ Below w.heap.size w w' := by
  obtain ⟨U, rfl⟩ := Int.eq_ofNat_of_zero_le hu.1
  have hU : U < M64 := by unfold M64; omega
  have HU := Lib.hid hU
  clear hU
  by_cases hl : l.length ≤ 4000
  · obtain ⟨X, n, er, hX, _, _, _, _⟩ := uS_form l i
    have E1 := Lib.hid hX
    have E2 := Lib.hid (show iS l i = tri3 (unzz X) n er by unfold iS; rw [hX])
    clear hX
    go_enter Try.func3, Try.ntmps3
    go_wp2_with fail
    refine (sane_any _).mono ?_
    rintro e w1 ⟨rfl, b1⟩
    have r1 := hv.past b1
    go_wp2_with fail
    refine (few_yes _ _ l [] _ _ r1 (Bs.nil_ _ _) hl (by simp)).mono ?_
    rintro e w' ⟨rfl, rfl⟩
    go_wp2_with fail
    refine (uint_any v l i _ _ r1 (by omega)).mono ?_
    rintro e w' ⟨rfl, rfl⟩
    rw [E1.out]; unfold tri
    go_wp2_with fail
    refine (refUint_any v l i _ _ r1 (by omega)).mono ?_
    rintro e w' ⟨rfl, rfl⟩
    rw [E1.out]; unfold tri
    go_wp2_with fail
    refine (int_any v l i _ _ r1 (by omega)).mono ?_
    rintro e w' ⟨rfl, rfl⟩
    rw [E2.out]; unfold tri3
    go_wp2_with fail
    refine (refInt_any v l i _ _ r1 (by omega)).mono ?_
    rintro e w' ⟨rfl, rfl⟩
    rw [E2.out]; unfold tri3
    go_wp2_with fail
    have r1d : Bs w1.drew w1.drew.heap.size v l := r1
    clear r1
    refine wp_region_plan [(0, true), (1, true), (2, true), (3, true), (6, true), (7, true), (4, false), (5, true), (8, false), (9, true), (10, true), (11, true), (12, true), (13, true), (14, true), (17, true), (18, true), (15, false), (16, true), (19, false), (20, true), (21, true), (22, true), (23, true)] (by kernel_rfl) (by kernel_rfl) (by kernel_rfl) rfl (fun _ _ h => h) ?_
    iterate 6 (refine plan_take rfl rfl rfl rfl ?_; apply Exists.intro; refine ⟨fun w' hw' => ?_, ?_⟩; focus (go_wp2; exact ⟨rfl, rfl, rfl⟩))
    refine plan_step rfl ?_
    go_wp2_with fail
    refine (appendUint_any v l U _ r1d HU.out (by omega)).mono ?_
    rintro e w2 ⟨v2, rfl, o2, b2⟩
    go_wp2_with fail
    refine ⟨rfl, b2, ?_⟩
    refine plan_take rfl rfl rfl rfl ?_
    apply Exists.intro
    refine ⟨fun w' hw' => ?_, ?_⟩
    · have c := (o2.bs.past hw').str
      unfold str at c
      go_wp2
      exact ⟨rfl, rfl, rfl⟩
    have r2 := r1d.past b2
    refine plan_step rfl ?_
    go_wp2_with fail
    refine (refAppendUint_any v l U _ r2 HU.out (by omega)).mono ?_
    rintro e w3 ⟨v3, rfl, o3, b3⟩
    go_wp2_with fail
    refine ⟨rfl, b3, ?_⟩
    refine plan_take rfl rfl rfl rfl ?_
    apply Exists.intro
    refine ⟨fun w' hw' => ?_, ?_⟩
    · have c := (o3.bs.past hw').str
      unfold str at c
      go_wp2
      exact ⟨rfl, rfl, rfl⟩
    iterate 7 (refine plan_take rfl rfl rfl rfl ?_; apply Exists.intro; refine ⟨fun w' hw' => ?_, ?_⟩; focus (go_wp2; exact ⟨rfl, rfl, rfl⟩))
    have r3 := r2.past b3
    refine plan_step rfl ?_
    go_wp2_with fail
    refine (appendInt_any v l x _ r3 hx.1 hx.2 (by omega)).mono ?_
    rintro e w4 ⟨v4, rfl, o4, b4⟩
    go_wp2_with fail
    refine ⟨rfl, b4, ?_⟩
    refine plan_take rfl rfl rfl rfl ?_
    apply Exists.intro
    refine ⟨fun w' hw' => ?_, ?_⟩
    · have c := (o4.bs.past hw').str
      unfold str at c
      go_wp2
      exact ⟨rfl, rfl, rfl⟩
    have r4 := r3.past b4
    refine plan_step rfl ?_
    go_wp2_with fail
    refine (refAppendInt_any v l x _ r4 hx.1 hx.2 (by omega)).mono ?_
    rintro e w5 ⟨v5, rfl, o5, b5⟩
    go_wp2_with fail
    refine ⟨rfl, b5, ?_⟩
    refine plan_take rfl rfl rfl rfl ?_
    apply Exists.intro
    refine ⟨fun w' hw' => ?_, ?_⟩
    · have c := (o5.bs.past hw').str
      unfold str at c
      go_wp2
      exact ⟨rfl, rfl, rfl⟩
    iterate 3 (refine plan_take rfl rfl rfl rfl ?_; apply Exists.intro; refine ⟨fun w' hw' => ?_, ?_⟩; focus (go_wp2; exact ⟨rfl, rfl, rfl⟩))
    show Exit.then _ _ _ _ _
    go_wp2_with fail
    go_ret
    have hb2 : Below w.heap.size w w2 := b1.trans ((undrew b2).mono b1.size)
    have hb3 := hb2.trans (b3.mono hb2.size)
    have hb4 := hb3.trans (b4.mono hb3.size)
    exact ⟨rfl, hb4.trans (b5.mono hb4.size)⟩
  · go_enter Try.func3, Try.ntmps3
    go_wp2_with fail
    refine (sane_any _).mono ?_
    rintro e w1 ⟨rfl, b1⟩
    go_wp2_with fail
    refine (few_no _ _ l [] _ _ (hv.past b1) (Bs.nil_ _ _) (fun h => hl h.1)).mono ?_
    rintro e w' ⟨rfl, rfl⟩
    go_wp2_with fail
    go_ret
    exact ⟨rfl, b1⟩

end Go.Proofs.Ytgllhelpfjinbaa
