/-
  The walk of the law DigitsConversionsMatchSpecification.
-/
import Derived.Test.YtblgcefaikoejaaDrS
import Derived.Test.YtblgcefaikoejaaDrD
namespace Go.Proofs.Ytblgcefaikoejaa
open Go.RowKit Dg
set_option linter.unusedVariables false
set_option linter.unusedSimpArgs false

theorem resN_form (o : Option Str) : ∃ (x : Str) (k : Int), resN o = .tuple #[.string ⟨x.toArray⟩, .int .i64 k] := ⟨_, _, rfl⟩

set_option maxRecDepth 100000 in
set_option maxHeartbeats 1600000 in
theorem digitsConversionsMatchSpecification_walk (s c a : List UInt8) (w : World) (hs : s.length ≤ maxLen) (hc : c.length ≤ maxLen) (ha : a.length ≤ maxLen) :
    Calls Try.prog 3 #[str s, str c, str a] w fun e w' => e = .returned (.bool true) ∧ Below w.heap.size w w' := by
  by_cases hsh : s.length ≤ 200 ∧ c.length ≤ 200 ∧ a.length ≤ 200
  · have S1 := fun w => short_yes s c a w hsh
    obtain ⟨l1, l2, l3⟩ := hsh
    have N1 := fun w => normalize_any s c a w hs hc ha
    have N2 := fun w => rnormalize_any s c a w hs hc ha
    have H1 := fun w => shorten_any s c a w (by omega) (by omega) (by omega)
    have H2 := fun w => rshorten_any s c a w hs hc ha
    have V1 := fun w => valid_any s w hs
    have V2 := fun w => rvalid_any s w hs
    obtain ⟨x, k, hx⟩ := resN_form (norm s c a)
    obtain ⟨y, j, hy⟩ := resN_form (shorten s c a)
    obtain ⟨q, hq⟩ : ∃ q, num 1 15 s = q := ⟨_, rfl⟩
    rw [hx] at N1 N2
    rw [hy] at H1 H2
    rw [hq] at V1 V2
    clear hx hy hq
    unfold str at S1 N1 N2 H1 H2 V1 V2 ⊢
    go_enter Try.func3, Try.ntmps3
    go_wp2_with fail
    refine (sane_any _).mono ?_
    rintro e w1 ⟨rfl, b1⟩
    go_wp2_with fail
    refine (S1 _).mono ?_
    rintro e w' ⟨rfl, rfl⟩
    clear S1
    go_wp2_with fail
    refine (N1 _).mono ?_
    rintro e w2 ⟨rfl, b2⟩
    replace b2 := b1.trans (b2.mono b1.size)
    clear N1 b1
    go_wp2_with fail
    refine (N2 _).mono ?_
    rintro e w' ⟨rfl, rfl⟩
    clear N2
    go_wp2_with fail
    refine (H1 _).mono ?_
    rintro e w3 ⟨rfl, b3⟩
    replace b3 := b2.trans (b3.mono b2.size)
    clear H1 b2
    go_wp2_with fail
    refine (H2 _).mono ?_
    rintro e w' ⟨rfl, rfl⟩
    clear H2
    go_wp2_with fail
    refine (V1 _).mono ?_
    rintro e w4 ⟨rfl, b4⟩
    replace b4 := b3.trans (b4.mono b3.size)
    clear V1 b3
    go_wp2_with fail
    refine (V2 _).mono ?_
    rintro e w' ⟨rfl, rfl⟩
    clear V2
    go_wp2_with fail
    go_ret
    exact ⟨ret_bool (by simp), b4⟩
  · have S1 := fun w => short_no s c a w hs hc ha hsh
    unfold str at S1 ⊢
    go_enter Try.func3, Try.ntmps3
    go_wp2_with fail
    refine (sane_any _).mono ?_
    rintro e w1 ⟨rfl, b1⟩
    go_wp2_with fail
    refine (S1 _).mono ?_
    rintro e w' ⟨rfl, rfl⟩
    go_wp2_with fail
    go_ret
    exact ⟨rfl, b1⟩

end Go.Proofs.Ytblgcefaikoejaa
