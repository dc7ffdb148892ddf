/-
  The walk of the law DigitsPrefixesMatchSpecification.
-/
import Derived.Test.YtblgcefaikoejaaDrS
import Derived.Test.YtblgcefaikoejaaDrG
import Derived.Test.YtblgcefaikoejaaDrC
namespace Go.Proofs.Ytblgcefaikoejaa
open Go.RowKit Dg
set_option linter.unusedVariables false
set_option linter.unusedSimpArgs false

theorem Sl.nil (w : World) (B m : Nat) : Sl w B m (.slice none 0 0) [] := ⟨Row.nil_ _ _ _, fun x hx => by simp at hx⟩

set_option maxRecDepth 100000 in
set_option maxHeartbeats 4000000 in
theorem digitsPrefixesMatchSpecification_walk (v : Value) (l : List (List UInt8)) (a b : List UInt8) (w : World) (hv : Sl w w.heap.size maxLen v l) (ha : a.length ≤ maxLen) (hb : b.length ≤ maxLen) :
    Calls Try.prog 4 #[v, str a, str b] w fun e w' => e = .returned (.bool true) ∧ Below w.heap.size w w' := by
  cases hf : few l
  · unfold str
    go_enter Try.func4, Try.ntmps4
    go_wp2_with fail
    refine (sane_any _).mono ?_
    rintro e w1 ⟨rfl, b1⟩
    have v1 := hv.past b1
    have F := few_any _ l w1 v1
    rw [hf] at F
    go_wp2_with fail
    refine F.mono ?_
    rintro e w' ⟨rfl, rfl⟩
    clear F
    go_wp2_with fail
    go_ret
    exact ⟨rfl, b1⟩
  · obtain ⟨hl60, hx40⟩ := few_iff.1 hf
    by_cases hsh : a.length ≤ 200 ∧ b.length ≤ 200
    · have S1 := fun w => short_yes a b [] w ⟨hsh.1, hsh.2, by simp⟩
      have X40 : ∀ {w : World} {v : Value} {m : Nat}, 40 ≤ m → Sl w w.heap.size maxLen v l → Sl w w.heap.size m v l := fun hm h => ⟨h.1, fun x hx => Nat.le_trans (hx40 x hx) hm⟩
      have M := fun w v (h : Sl w w.heap.size maxLen v l) => minimal_any v l w (X40 (by omega) h) (by omega)
      have RM := fun w v (h : Sl w w.heap.size maxLen v l) => rminimal_any v l w (X40 (by omega) h) (by omega)
      have MT := fun w v (h : Sl w w.heap.size maxLen v l) => matches_any a v l w (by omega) (X40 (by omega) h) (by omega)
      have RT := fun w v (h : Sl w w.heap.size maxLen v l) => rmatches_any a v l w (by omega) (X40 (by omega) h) (by omega)
      have C1 := fun w => common_any a b w (by omega) (by omega)
      have C2 := fun w => rcommon_any a b w (by omega) (by omega)
      obtain ⟨q, hq⟩ : ∃ q, mat l a = q := ⟨_, rfl⟩
      obtain ⟨c, hc⟩ : ∃ c, com a b = c := ⟨_, rfl⟩
      rw [hq] at MT RT
      rw [hc] at C1 C2
      have hqq : (q == q) = true := by simp
      have hcc : ((c : Int) == (c : Int)) = true := by simp
      clear hq hc X40 hx40 ha hb
      unfold str at S1 MT RT C1 C2 ⊢
      go_enter Try.func4, Try.ntmps4
      go_wp2_with fail
      refine (sane_any _).mono ?_
      rintro e w1 ⟨rfl, b1⟩
      have v1 := hv.past b1
      have F := few_any _ l w1 v1
      rw [hf] at F
      go_wp2_with fail
      refine F.mono ?_
      rintro e w' ⟨rfl, rfl⟩
      clear F
      go_wp2_with fail
      refine (S1 _).mono ?_
      rintro e w' ⟨rfl, rfl⟩
      clear S1
      go_wp2_with fail
      refine (M _ _ v1).mono ?_
      clear M
      rintro e w2 ⟨b2, ⟨hb, rfl⟩ | ⟨hb, u, m, rfl, hr, hu⟩⟩
      · have HB := Lib.hid hb
        have v2 := v1.past b2
        have b12 := b1.trans (b2.mono b1.size)
        clear hb b2 b1 v1 hv
        go_wp2_with fail
        refine (RM _ _ v2).mono ?_
        clear RM
        rintro e w3 ⟨b3, ⟨hb, rfl⟩ | ⟨hb, u2, m2, rfl, hr2, hu2⟩⟩
        · have v3 := v2.past b3
          have b13 := b12.trans (b3.mono b12.size)
          clear hb b3 b12 v2
          have hss := strings_same (.slice none 0 0) (.slice none 0 0) [] w3 (Sl.nil _ _ _) (Sl.nil _ _ _) (by decide)
          go_wp2_with fail
          refine hss.mono ?_
          clear hss
          rintro e w4 ⟨rfl, b4⟩
          have v4 := v3.past b4
          have b14 := b13.trans (b4.mono b13.size)
          clear v3 b13 b4
          go_wp2_with fail
          refine (C1 _).mono ?_
          clear C1
          rintro e w5 ⟨rfl, b5⟩
          have v5 := v4.past b5
          have b15 := b14.trans (b5.mono b14.size)
          clear v4 b14 b5
          go_wp2_with fail
          refine (C2 _).mono ?_
          clear C2
          rintro e w6 ⟨rfl, b6⟩
          have v6 := v5.past b6
          have b16 := b15.trans (b6.mono b15.size)
          clear v5 b15 b6
          go_wp2_with fail
          refine (MT _ _ v6).mono ?_
          clear MT
          rintro e w7 ⟨rfl, b7⟩
          have v7 := v6.past b7
          have b17 := b16.trans (b7.mono b16.size)
          clear v6 b16 b7
          go_wp2_with fail
          refine (RT _ _ v7).mono ?_
          clear RT
          rintro e w8 ⟨rfl, rfl⟩
          go_wp2_with fail
          go_ret
          exact ⟨rfl, b17⟩
        · exfalso
          rw [HB.out] at hb
          cases hb
      · have HB := Lib.hid hb
        have HR := Lib.hid hr
        have v2 := v1.past b2
        have b12 := b1.trans (b2.mono b1.size)
        clear hb hr b2 b1 v1 hv
        go_wp2_with fail
        refine (RM _ _ v2).mono ?_
        clear RM
        rintro e w3 ⟨b3, ⟨hb, rfl⟩ | ⟨hb, u2, m2, rfl, hr2, hu2⟩⟩
        · exfalso
          rw [HB.out] at hb
          cases hb
        · obtain rfl : m2 = m := hr2.unique HR.out (Eqv.refl _)
          have v3 := v2.past b3
          have b13 := b12.trans (b3.mono b12.size)
          have u3 := hu.past b3
          have hss := strings_same u u2 m2 w3 (u3.wide (by omega)) (hu2.wide (by omega)) (by have := HR.out.len; omega)
          clear hb b3 b12 v2 u3 hu hu2 hr2
          go_wp2_with fail
          refine hss.mono ?_
          clear hss
          rintro e w4 ⟨rfl, b4⟩
          have v4 := v3.past b4
          have b14 := b13.trans (b4.mono b13.size)
          clear v3 b13 b4
          go_wp2_with fail
          refine (C1 _).mono ?_
          clear C1
          rintro e w5 ⟨rfl, b5⟩
          have v5 := v4.past b5
          have b15 := b14.trans (b5.mono b14.size)
          clear v4 b14 b5
          go_wp2_with fail
          refine (C2 _).mono ?_
          clear C2
          rintro e w6 ⟨rfl, b6⟩
          have v6 := v5.past b6
          have b16 := b15.trans (b6.mono b15.size)
          clear v5 b15 b6
          go_wp2_with fail
          refine (MT _ _ v6).mono ?_
          clear MT
          rintro e w7 ⟨rfl, b7⟩
          have v7 := v6.past b7
          have b17 := b16.trans (b7.mono b16.size)
          clear v6 b16 b7
          go_wp2_with fail
          refine (RT _ _ v7).mono ?_
          clear RT
          rintro e w8 ⟨rfl, rfl⟩
          go_wp2_with fail
          go_ret
          exact ⟨rfl, b17⟩
    · have S1 := fun w => short_no a b [] w ha hb (by simp) (fun h => hsh ⟨h.1, h.2.1⟩)
      unfold str at S1 ⊢
      go_enter Try.func4, Try.ntmps4
      go_wp2_with fail
      refine (sane_any _).mono ?_
      rintro e w1 ⟨rfl, b1⟩
      have v1 := hv.past b1
      have F := few_any _ l w1 v1
      rw [hf] at F
      go_wp2_with fail
      refine F.mono ?_
      rintro e w' ⟨rfl, rfl⟩
      clear F
      go_wp2_with fail
      refine (S1 _).mono ?_
      rintro e w' ⟨rfl, rfl⟩
      go_wp2_with fail
      go_ret
      exact ⟨rfl, b1⟩

end Go.Proofs.Ytblgcefaikoejaa
