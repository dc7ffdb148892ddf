/-
  The walk of the law DigitsShortenIsShortest.
-/
import Derived.Test.YtblgcefaikoejaaDrS
namespace Go.Proofs.Ytblgcefaikoejaa
open Go.RowKit Dg
set_option linter.unusedVariables false
set_option linter.unusedSimpArgs false

set_option maxRecDepth 100000 in
set_option maxHeartbeats 1600000 in
theorem digitsShortenIsShortest_walk (n c a : List UInt8) (w : World) (hn : n.length ≤ maxLen) (hc : c.length ≤ maxLen) (ha : a.length ≤ maxLen) :
    Calls Try.prog 6 #[str n, str c, str a] w fun e w' => e = .returned (.bool true) ∧ Below w.heap.size w w' := by
  by_cases hsh : n.length ≤ 200 ∧ c.length ≤ 200 ∧ a.length ≤ 200
  · have S1 := fun w => short_yes n c a w hsh
    obtain ⟨l1, l2, l3⟩ := hsh
    have N := fun w => normalize_any n c a w hn hc ha
    cases hr : norm n c a with
    | none =>
      rw [hr, resN_none] at N
      clear hr
      unfold str at S1 N ⊢
      go_enter Try.func6, Try.ntmps6
      go_wp2_with fail
      refine (sane_any _).mono ?_
      rintro e w1 ⟨rfl, b1⟩
      go_wp2_with fail
      refine (S1 _).mono ?_
      rintro e w' ⟨rfl, rfl⟩
      clear S1
      go_wp2_with fail
      refine (N _).mono ?_
      rintro e w2 ⟨rfl, b2⟩
      replace b2 := b1.trans (b2.mono b1.size)
      clear N b1
      go_wp2_with fail
      go_ret
      exact ⟨rfl, b2⟩
    | some m =>
      obtain ⟨h1, h2, h3, h4, h5⟩ := norm_some.1 hr
      have hml := num_len h4
      have H := fun w => shorten_any m c a w (by omega) (by omega) (by omega)
      have V := fun w => valid_any m w (by simp only [maxLen]; omega)
      obtain ⟨s, hs⟩ : ∃ s, shorten m c a = some s := by
        cases hq : shorten m c a with
        | some s => exact ⟨s, rfl⟩
        | none =>
          have := shorten_none.1 hq
          unfold ok at this
          rw [h4, h2, h3] at this
          cases this
      have hle := shorten_least hr hs
      rw [hr, resN_some] at N
      rw [hs, resN_some] at H
      rw [h4] at V
      clear hr hs h1 h2 h3 h4 h5
      unfold str at S1 N H V ⊢
      by_cases hlt : s.length < n.length
      · clear hle
        go_enter Try.func6, Try.ntmps6
        go_wp2_with fail
        refine (sane_any _).mono ?_
        rintro e w1 ⟨rfl, b1⟩
        go_wp2_with fail
        refine (S1 _).mono ?_
        rintro e w' ⟨rfl, rfl⟩
        clear S1
        go_wp2_with fail
        refine (N _).mono ?_
        rintro e w2 ⟨rfl, b2⟩
        replace b2 := b1.trans (b2.mono b1.size)
        clear N b1
        go_wp2_with fail
        refine (H _).mono ?_
        rintro e w3 ⟨rfl, b3⟩
        replace b3 := b2.trans (b3.mono b2.size)
        clear H b2
        go_wp2_with fail
        refine (V _).mono ?_
        rintro e w4 ⟨rfl, b4⟩
        replace b4 := b3.trans (b4.mono b3.size)
        clear V b3
        go_wp2_with fail
        go_ret
        exact ⟨rfl, b4⟩
      · obtain rfl : s = n := hle.resolve_left hlt
        go_enter Try.func6, Try.ntmps6
        go_wp2_with fail
        refine (sane_any _).mono ?_
        rintro e w1 ⟨rfl, b1⟩
        go_wp2_with fail
        refine (S1 _).mono ?_
        rintro e w' ⟨rfl, rfl⟩
        clear S1
        go_wp2_with fail
        refine (N _).mono ?_
        rintro e w2 ⟨rfl, b2⟩
        replace b2 := b1.trans (b2.mono b1.size)
        clear N b1
        go_wp2_with fail
        refine (H _).mono ?_
        rintro e w3 ⟨rfl, b3⟩
        replace b3 := b2.trans (b3.mono b2.size)
        clear H b2
        go_wp2_with fail
        refine (V _).mono ?_
        rintro e w4 ⟨rfl, b4⟩
        replace b4 := b3.trans (b4.mono b3.size)
        clear V b3
        go_wp2_with fail
        go_ret
        exact ⟨ret_bool (by simp), b4⟩
  · have S1 := fun w => short_no n c a w hn hc ha hsh
    unfold str at S1 ⊢
    go_enter Try.func6, Try.ntmps6
    go_wp2_with fail
    refine (sane_any _).mono ?_
    rintro e w1 ⟨rfl, b1⟩
    go_wp2_with fail
    refine (S1 _).mono ?_
    rintro e w' ⟨rfl, rfl⟩
    go_wp2_with fail
    go_ret
    exact ⟨rfl, b1⟩

end Go.Proofs.Ytblgcefaikoejaa
