/-
  The walk of the law DigitsShortenRoundTrip.
-/
import Derived.Test.YtblgcefaikoejaaDrS
namespace Go.Proofs.Ytblgcefaikoejaa
open Go.RowKit Dg
set_option linter.unusedVariables false
set_option linter.unusedSimpArgs false

set_option maxRecDepth 100000 in
set_option maxHeartbeats 1600000 in
theorem digitsShortenRoundTrip_walk (n c a : List UInt8) (w : World) (hn : n.length ≤ maxLen) (hc : c.length ≤ maxLen) (ha : a.length ≤ maxLen) :
    Calls Try.prog 5 #[str n, str c, str a] w fun e w' => e = .returned (.bool true) ∧ Below w.heap.size w w' := by
  by_cases hsh : n.length ≤ 200 ∧ c.length ≤ 200 ∧ a.length ≤ 200
  · have S1 := fun w => short_yes n c a w hsh
    obtain ⟨l1, l2, l3⟩ := hsh
    have H := fun w => shorten_any n c a w (by omega) (by omega) (by omega)
    cases hr : shorten n c a with
    | some s =>
      have hs := shorten_norm hr
      have hsl := num_len (norm_some.1 hs).1
      have N := fun w => normalize_any s c a w (by simp only [maxLen]; omega) hc ha
      rw [hr, resN_some] at H
      rw [hs, resN_some] at N
      clear hr hs
      unfold str at S1 H N ⊢
      go_enter Try.func5, Try.ntmps5
      go_wp2_with fail
      refine (sane_any _).mono ?_
      rintro e w1 ⟨rfl, b1⟩
      go_wp2_with fail
      refine (S1 _).mono ?_
      rintro e w' ⟨rfl, rfl⟩
      clear S1
      go_wp2_with fail
      refine (H _).mono ?_
      rintro e w2 ⟨rfl, b2⟩
      replace b2 := b1.trans (b2.mono b1.size)
      clear H b1
      go_wp2_with fail
      refine (N _).mono ?_
      rintro e w3 ⟨rfl, b3⟩
      clear N
      go_wp2_with fail
      go_ret
      exact ⟨ret_bool (by simp), b2.trans (b3.mono b2.size)⟩
    | none =>
      have hk := shorten_none.1 hr
      have V1 := fun w => valid_any n w hn
      have V2 := fun w => valid_any c w hc
      have V3 := fun w => valid_any a w ha
      have hv : num 1 15 n = false ∨ num 1 15 c = false ∨ num 1 15 a = false := by
        unfold ok at hk
        cases h1 : num 1 15 n
        · exact Or.inl rfl
        · cases h2 : num 1 15 c
          · exact Or.inr (Or.inl rfl)
          · refine Or.inr (Or.inr ?_)
            rw [h1, h2, Bool.true_and, Bool.true_and] at hk
            rw [Bool.eq_false_iff]
            intro h3
            obtain ⟨q1, q2, q3⟩ := num_iff.1 h3
            have : num 0 15 a = true := num_iff.2 ⟨Nat.zero_le _, q2, q3⟩
            rw [hk] at this
            cases this
      rw [hr, resN_none] at H
      have HV := Lib.hid hv
      clear hr hk hv
      unfold str at S1 H V1 V2 V3 ⊢
      cases h1 : num 1 15 n <;> cases h2 : num 1 15 c <;> cases h3 : num 1 15 a <;> rw [h1] at V1 <;> rw [h2] at V2 <;> rw [h3] at V3
      all_goals
        go_enter Try.func5, Try.ntmps5
        go_wp2_with fail
        refine (sane_any _).mono ?_
        rintro e w1 ⟨rfl, b1⟩
        go_wp2_with fail
        refine (S1 _).mono ?_
        rintro e w' ⟨rfl, rfl⟩
        clear S1
        go_wp2_with fail
        refine (H _).mono ?_
        rintro e w2 ⟨rfl, b2⟩
        replace b2 := b1.trans (b2.mono b1.size)
        clear H b1
        go_wp2_with fail
        refine (V1 _).mono ?_
        rintro e w3 ⟨rfl, b3⟩
        replace b3 := b2.trans (b3.mono b2.size)
        clear V1 b2
        go_wp2_with fail
        try (refine (V2 _).mono ?_; rintro e w4 ⟨rfl, b4⟩; replace b3 := b3.trans (b4.mono b3.size); clear V2 b4; go_wp2_with fail)
        try (refine (V3 _).mono ?_; rintro e w5 ⟨rfl, b5⟩; replace b3 := b3.trans (b5.mono b3.size); clear V3 b5; go_wp2_with fail)
        go_ret
        first
          | exact ⟨rfl, b3⟩
          | (exfalso; have := HV.out; rw [h1, h2, h3] at this; simp at this)
  · have S1 := fun w => short_no n c a w hn hc ha hsh
    unfold str at S1 ⊢
    go_enter Try.func5, Try.ntmps5
    go_wp2_with fail
    refine (sane_any _).mono ?_
    rintro e w1 ⟨rfl, b1⟩
    go_wp2_with fail
    refine (S1 _).mono ?_
    rintro e w' ⟨rfl, rfl⟩
    go_wp2_with fail
    go_ret
    exact ⟨rfl, b1⟩

end Go.Proofs.Ytblgcefaikoejaa
