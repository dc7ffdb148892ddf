/-
  The walk of the reference's Shorten.
-/
import Derived.Test.YtblgcefaikoejaaDrB
namespace Go.Proofs.Ytblgcefaikoejaa
open Go.RowKit Dg
set_option linter.unusedVariables false
set_option linter.unusedSimpArgs false

set_option maxRecDepth 100000 in
set_option maxHeartbeats 4000000 in
theorem rshorten_any (n c a : Str) (w : World) (hn : n.length ≤ maxLen) (hc : c.length ≤ maxLen) (ha : a.length ≤ maxLen) :
    Calls Try.prog 17 #[str n, str c, str a] w fun e w' => e = .returned (resN (shorten n c a)) ∧ w' = w := by
  have O1 := fun w => rvalid_any n w hn
  have V2 := fun w => rvalid_any c w hc
  have V3 := fun w => rvalid_any a w ha
  rw [shorten_eq]
  unfold short ok
  cases h1 : num 1 15 n
  · rw [Bool.false_and, if_neg (by simp), resN_none]
    rw [h1] at O1
    unfold str at O1 ⊢
    go_enter Try.func17, Try.ntmps17
    go_wp2_with fail
    refine (O1 _).mono ?_
    rintro e w' ⟨rfl, rfl⟩
    clear O1
    go_wp2_with fail
    go_ret2
    exact ⟨rfl, rfl⟩
  rw [h1] at O1
  cases h2 : num 1 15 c
  · rw [Bool.true_and, Bool.false_and, if_neg (by simp), resN_none]
    rw [h2] at V2
    unfold str at O1 V2 ⊢
    go_enter Try.func17, Try.ntmps17
    go_wp2_with fail
    refine (O1 _).mono ?_
    rintro e w' ⟨rfl, rfl⟩
    clear O1
    go_wp2_with fail
    refine (V2 _).mono ?_
    rintro e w' ⟨rfl, rfl⟩
    clear V2
    go_wp2_with fail
    go_ret2
    exact ⟨rfl, rfl⟩
  rw [h2] at V2
  rw [area_ok]
  cases h3 : num 1 15 a
  · rw [h3] at V3
    cases h4 : (a == ([] : Str))
    · rw [Bool.true_and, Bool.true_and, Bool.or_false, if_neg (by simp), resN_none]
      unfold str at O1 V2 V3 ⊢
      go_enter Try.func17, Try.ntmps17
      go_wp2_with fail
      refine (O1 _).mono ?_
      rintro e w' ⟨rfl, rfl⟩
      clear O1
      go_wp2_with fail
      refine (V2 _).mono ?_
      rintro e w' ⟨rfl, rfl⟩
      clear V2
      go_wp2_with fail
      refine (V3 _).mono ?_
      rintro e w' ⟨rfl, rfl⟩
      clear V3
      go_wp2_with fail
      go_ret2
      exact ⟨rfl, rfl⟩
    · rw [Bool.true_and, Bool.true_and, Bool.or_true, if_pos rfl]
      have la : a.length ≤ 15 := by
        first
          | exact num_len h3
          | (have := eq_of_beq h4; rw [this]; simp)
      have lc := num_len h2
      have ln := num_len h1
      have e1 := str_add c a
      have e2 := str_add c [48]
      have e5 : (⟨#[48, 48]⟩ : ByteArray) ++ ⟨n.toArray⟩ = ⟨(48 :: 48 :: n).toArray⟩ := str_add [48, 48] n
      have lp : (c ++ a).length ≤ 30 := by rw [List.length_append]; omega
      have lc0 : (c ++ [48]).length ≤ 16 := by rw [List.length_append]; simp; omega
      obtain ⟨p, hp⟩ : ∃ p, c ++ a = p := ⟨_, rfl⟩
      obtain ⟨c0, hc0⟩ : ∃ c0, c ++ [48] = c0 := ⟨_, rfl⟩
      rw [hp] at e1 lp ⊢
      rw [hc0] at e2 lc0 ⊢
      have S1 := fun w => starts_any n p w (by simp only [maxLen]; omega) (by simp only [maxLen]; omega)
      have S2 := fun w => starts_any n c w (by simp only [maxLen]; omega) (by simp only [maxLen]; omega)
      have S3 := fun w => starts_any n c0 w (by simp only [maxLen]; omega) (by simp only [maxLen]; omega)
      have c1 := str_cut n p.length n.length
      have c2 := str_cut n c.length n.length
      rw [List.take_of_length_le (Nat.le_refl _)] at c1 c2
      have lm2 : (n.drop c.length).length ≤ 15 := by rw [List.length_drop]; omega
      have lpn : pre p n = true → p.length ≤ n.length := fun h => (pre_iff.1 h).length_le
      have lcn : pre c n = true → c.length ≤ n.length := fun h => (pre_iff.1 h).length_le
      obtain ⟨m1, hm1⟩ : ∃ m1, n.drop p.length = m1 := ⟨_, rfl⟩
      obtain ⟨m2, hm2⟩ : ∃ m2, n.drop c.length = m2 := ⟨_, rfl⟩
      rw [hm1] at c1 ⊢
      rw [hm2] at c2 lm2 ⊢
      have e4 : (⟨#[48]⟩ : ByteArray) ++ ⟨m2.toArray⟩ = ⟨(48 :: m2).toArray⟩ := str_add [48] m2
      clear hp hc0 hm1 hm2
      cases g1 : pre p n
      · rw [Bool.false_and, if_neg (by simp)]
        rw [g1] at S1
        have hcn : pre c n = true → c.length ≤ n.length := lcn
        clear g1 lpn
        cases g2 : pre c n
        · rw [Bool.false_and, if_neg (by simp), resN_some]
          rw [g2] at S2
          clear g2 S3 lcn
          unfold str at O1 V2 V3 S1 S2 ⊢
          go_enter Try.func17, Try.ntmps17
          go_wp2_with fail
          refine (O1 _).mono ?_
          rintro e w' ⟨rfl, rfl⟩
          clear O1
          go_wp2_with fail
          refine (V2 _).mono ?_
          rintro e w' ⟨rfl, rfl⟩
          clear V2
          go_wp2_with fail
          refine (V3 _).mono ?_
          rintro e w' ⟨rfl, rfl⟩
          clear V3
          go_wp2_with fail
          refine (S1 _).mono ?_
          rintro e w' ⟨rfl, rfl⟩
          clear S1
          go_wp2_with fail
          refine (S2 _).mono ?_
          rintro e w' ⟨rfl, rfl⟩
          clear S2
          go_wp2_with fail
          go_ret2
          exact ⟨rfl, rfl⟩
        · rw [Bool.true_and]
          rw [g2] at S2
          have hcl := lcn g2
          clear lcn
          cases g3 : pre c0 n
          · rw [Bool.not_false, if_pos rfl, resN_some]
            rw [g3] at S3
            clear g2 g3
            unfold str at O1 V2 V3 S1 S2 S3 ⊢
            go_enter Try.func17, Try.ntmps17
            go_wp2_with fail
            refine (O1 _).mono ?_
            rintro e w' ⟨rfl, rfl⟩
            clear O1
            go_wp2_with fail
            refine (V2 _).mono ?_
            rintro e w' ⟨rfl, rfl⟩
            clear V2
            go_wp2_with fail
            refine (V3 _).mono ?_
            rintro e w' ⟨rfl, rfl⟩
            clear V3
            go_wp2_with fail
            refine (S1 _).mono ?_
            rintro e w' ⟨rfl, rfl⟩
            clear S1
            go_wp2_with fail
            refine (S2 _).mono ?_
            rintro e w' ⟨rfl, rfl⟩
            clear S2
            go_wp2_with fail
            refine (S3 _).mono ?_
            rintro e w' ⟨rfl, rfl⟩
            clear S3
            go_wp2_with fail
            go_ret2
            exact ⟨rfl, rfl⟩
          · rw [Bool.not_true, if_neg (by simp), resN_some]
            rw [g3] at S3
            clear g2 g3
            unfold str at O1 V2 V3 S1 S2 S3 ⊢
            go_enter Try.func17, Try.ntmps17
            go_wp2_with fail
            refine (O1 _).mono ?_
            rintro e w' ⟨rfl, rfl⟩
            clear O1
            go_wp2_with fail
            refine (V2 _).mono ?_
            rintro e w' ⟨rfl, rfl⟩
            clear V2
            go_wp2_with fail
            refine (V3 _).mono ?_
            rintro e w' ⟨rfl, rfl⟩
            clear V3
            go_wp2_with fail
            refine (S1 _).mono ?_
            rintro e w' ⟨rfl, rfl⟩
            clear S1
            go_wp2_with fail
            refine (S2 _).mono ?_
            rintro e w' ⟨rfl, rfl⟩
            clear S2
            go_wp2_with fail
            refine (S3 _).mono ?_
            rintro e w' ⟨rfl, rfl⟩
            clear S3
            go_wp2_with fail
            go_ret2
            exact ⟨rfl, rfl⟩
      · have hpl := lpn g1
        rw [Bool.true_and]
        rw [g1] at S1
        clear g1 lpn
        by_cases hlt : p.length < n.length
        · rw [decide_eq_true hlt, Bool.true_and]
          obtain ⟨y, hy⟩ : ∃ y, n[p.length]? = some y := ⟨n[p.length], List.getElem?_eq_getElem hlt⟩
          have hga : (⟨n.toArray⟩ : ByteArray)[p.length]'(by rw [str_size]; exact hlt) = y := by
            obtain ⟨h, rfl⟩ := List.getElem?_eq_some_iff.1 hy
            simp [ByteArray.getElem_eq_getElem_data]
          rw [hy]
          by_cases hyz : y = 48
          · have hz : (((y.toNat : Nat) : Int) != 48) = false := by subst hyz; rfl
            have hq : (some y == some (48 : UInt8)) = true := by subst hyz; rfl
            rw [hq, Bool.not_true, if_neg (by simp)]
            clear hy hyz hq
            cases g2 : pre c n
            · rw [Bool.false_and, if_neg (by simp), resN_some]
              rw [g2] at S2
              clear g2 S3 lcn
              unfold str at O1 V2 V3 S1 S2 ⊢
              go_enter Try.func17, Try.ntmps17
              go_wp2_with fail
              refine (O1 _).mono ?_
              rintro e w' ⟨rfl, rfl⟩
              clear O1
              go_wp2_with fail
              refine (V2 _).mono ?_
              rintro e w' ⟨rfl, rfl⟩
              clear V2
              go_wp2_with fail
              refine (V3 _).mono ?_
              rintro e w' ⟨rfl, rfl⟩
              clear V3
              go_wp2_with fail
              refine (S1 _).mono ?_
              rintro e w' ⟨rfl, rfl⟩
              clear S1
              go_wp2_with fail
              refine (S2 _).mono ?_
              rintro e w' ⟨rfl, rfl⟩
              clear S2
              go_wp2_with fail
              go_ret2
              exact ⟨rfl, rfl⟩
            · rw [Bool.true_and]
              rw [g2] at S2
              have hcl := lcn g2
              clear lcn
              cases g3 : pre c0 n
              · rw [Bool.not_false, if_pos rfl, resN_some]
                rw [g3] at S3
                clear g2 g3
                unfold str at O1 V2 V3 S1 S2 S3 ⊢
                go_enter Try.func17, Try.ntmps17
                go_wp2_with fail
                refine (O1 _).mono ?_
                rintro e w' ⟨rfl, rfl⟩
                clear O1
                go_wp2_with fail
                refine (V2 _).mono ?_
                rintro e w' ⟨rfl, rfl⟩
                clear V2
                go_wp2_with fail
                refine (V3 _).mono ?_
                rintro e w' ⟨rfl, rfl⟩
                clear V3
                go_wp2_with fail
                refine (S1 _).mono ?_
                rintro e w' ⟨rfl, rfl⟩
                clear S1
                go_wp2_with fail
                refine (S2 _).mono ?_
                rintro e w' ⟨rfl, rfl⟩
                clear S2
                go_wp2_with fail
                refine (S3 _).mono ?_
                rintro e w' ⟨rfl, rfl⟩
                clear S3
                go_wp2_with fail
                go_ret2
                exact ⟨rfl, rfl⟩
              · rw [Bool.not_true, if_neg (by simp), resN_some]
                rw [g3] at S3
                clear g2 g3
                unfold str at O1 V2 V3 S1 S2 S3 ⊢
                go_enter Try.func17, Try.ntmps17
                go_wp2_with fail
                refine (O1 _).mono ?_
                rintro e w' ⟨rfl, rfl⟩
                clear O1
                go_wp2_with fail
                refine (V2 _).mono ?_
                rintro e w' ⟨rfl, rfl⟩
                clear V2
                go_wp2_with fail
                refine (V3 _).mono ?_
                rintro e w' ⟨rfl, rfl⟩
                clear V3
                go_wp2_with fail
                refine (S1 _).mono ?_
                rintro e w' ⟨rfl, rfl⟩
                clear S1
                go_wp2_with fail
                refine (S2 _).mono ?_
                rintro e w' ⟨rfl, rfl⟩
                clear S2
                go_wp2_with fail
                refine (S3 _).mono ?_
                rintro e w' ⟨rfl, rfl⟩
                clear S3
                go_wp2_with fail
                go_ret2
                exact ⟨rfl, rfl⟩
          · have hq : (some y == some (48 : UInt8)) = false := by simpa using hyz
            have hz : (((y.toNat : Nat) : Int) != 48) = true := by
              rw [bne, Bool.not_eq_true', Bool.eq_false_iff]
              intro e
              have e := eq_of_beq e
              refine hyz (UInt8.toNat_inj.1 ?_)
              show y.toNat = 48
              omega
            rw [hq, Bool.not_false, if_pos rfl, resN_some]
            clear hy hyz hq S2 S3
            unfold str at O1 V2 V3 S1 ⊢
            go_enter Try.func17, Try.ntmps17
            go_wp2_with fail
            refine (O1 _).mono ?_
            rintro e w' ⟨rfl, rfl⟩
            clear O1
            go_wp2_with fail
            refine (V2 _).mono ?_
            rintro e w' ⟨rfl, rfl⟩
            clear V2
            go_wp2_with fail
            refine (V3 _).mono ?_
            rintro e w' ⟨rfl, rfl⟩
            clear V3
            go_wp2_with fail
            refine (S1 _).mono ?_
            rintro e w' ⟨rfl, rfl⟩
            clear S1
            go_wp2_with fail
            go_ret2
            exact ⟨rfl, rfl⟩
        · rw [decide_eq_false hlt, Bool.false_and, if_neg (by simp)]
          cases g2 : pre c n
          · rw [Bool.false_and, if_neg (by simp), resN_some]
            rw [g2] at S2
            clear g2 S3 lcn
            unfold str at O1 V2 V3 S1 S2 ⊢
            go_enter Try.func17, Try.ntmps17
            go_wp2_with fail
            refine (O1 _).mono ?_
            rintro e w' ⟨rfl, rfl⟩
            clear O1
            go_wp2_with fail
            refine (V2 _).mono ?_
            rintro e w' ⟨rfl, rfl⟩
            clear V2
            go_wp2_with fail
            refine (V3 _).mono ?_
            rintro e w' ⟨rfl, rfl⟩
            clear V3
            go_wp2_with fail
            refine (S1 _).mono ?_
            rintro e w' ⟨rfl, rfl⟩
            clear S1
            go_wp2_with fail
            refine (S2 _).mono ?_
            rintro e w' ⟨rfl, rfl⟩
            clear S2
            go_wp2_with fail
            go_ret2
            exact ⟨rfl, rfl⟩
          · rw [Bool.true_and]
            rw [g2] at S2
            have hcl := lcn g2
            clear lcn
            cases g3 : pre c0 n
            · rw [Bool.not_false, if_pos rfl, resN_some]
              rw [g3] at S3
              clear g2 g3
              unfold str at O1 V2 V3 S1 S2 S3 ⊢
              go_enter Try.func17, Try.ntmps17
              go_wp2_with fail
              refine (O1 _).mono ?_
              rintro e w' ⟨rfl, rfl⟩
              clear O1
              go_wp2_with fail
              refine (V2 _).mono ?_
              rintro e w' ⟨rfl, rfl⟩
              clear V2
              go_wp2_with fail
              refine (V3 _).mono ?_
              rintro e w' ⟨rfl, rfl⟩
              clear V3
              go_wp2_with fail
              refine (S1 _).mono ?_
              rintro e w' ⟨rfl, rfl⟩
              clear S1
              go_wp2_with fail
              refine (S2 _).mono ?_
              rintro e w' ⟨rfl, rfl⟩
              clear S2
              go_wp2_with fail
              refine (S3 _).mono ?_
              rintro e w' ⟨rfl, rfl⟩
              clear S3
              go_wp2_with fail
              go_ret2
              exact ⟨rfl, rfl⟩
            · rw [Bool.not_true, if_neg (by simp), resN_some]
              rw [g3] at S3
              clear g2 g3
              unfold str at O1 V2 V3 S1 S2 S3 ⊢
              go_enter Try.func17, Try.ntmps17
              go_wp2_with fail
              refine (O1 _).mono ?_
              rintro e w' ⟨rfl, rfl⟩
              clear O1
              go_wp2_with fail
              refine (V2 _).mono ?_
              rintro e w' ⟨rfl, rfl⟩
              clear V2
              go_wp2_with fail
              refine (V3 _).mono ?_
              rintro e w' ⟨rfl, rfl⟩
              clear V3
              go_wp2_with fail
              refine (S1 _).mono ?_
              rintro e w' ⟨rfl, rfl⟩
              clear S1
              go_wp2_with fail
              refine (S2 _).mono ?_
              rintro e w' ⟨rfl, rfl⟩
              clear S2
              go_wp2_with fail
              refine (S3 _).mono ?_
              rintro e w' ⟨rfl, rfl⟩
              clear S3
              go_wp2_with fail
              go_ret2
              exact ⟨rfl, rfl⟩
  · rw [h3] at V3
    rw [Bool.true_and, Bool.true_and, Bool.true_or, if_pos rfl]
    have la : a.length ≤ 15 := by
      first
        | exact num_len h3
        | (have := eq_of_beq h4; rw [this]; simp)
    have lc := num_len h2
    have ln := num_len h1
    have e1 := str_add c a
    have e2 := str_add c [48]
    have e5 : (⟨#[48, 48]⟩ : ByteArray) ++ ⟨n.toArray⟩ = ⟨(48 :: 48 :: n).toArray⟩ := str_add [48, 48] n
    have lp : (c ++ a).length ≤ 30 := by rw [List.length_append]; omega
    have lc0 : (c ++ [48]).length ≤ 16 := by rw [List.length_append]; simp; omega
    obtain ⟨p, hp⟩ : ∃ p, c ++ a = p := ⟨_, rfl⟩
    obtain ⟨c0, hc0⟩ : ∃ c0, c ++ [48] = c0 := ⟨_, rfl⟩
    rw [hp] at e1 lp ⊢
    rw [hc0] at e2 lc0 ⊢
    have S1 := fun w => starts_any n p w (by simp only [maxLen]; omega) (by simp only [maxLen]; omega)
    have S2 := fun w => starts_any n c w (by simp only [maxLen]; omega) (by simp only [maxLen]; omega)
    have S3 := fun w => starts_any n c0 w (by simp only [maxLen]; omega) (by simp only [maxLen]; omega)
    have c1 := str_cut n p.length n.length
    have c2 := str_cut n c.length n.length
    rw [List.take_of_length_le (Nat.le_refl _)] at c1 c2
    have lm2 : (n.drop c.length).length ≤ 15 := by rw [List.length_drop]; omega
    have lpn : pre p n = true → p.length ≤ n.length := fun h => (pre_iff.1 h).length_le
    have lcn : pre c n = true → c.length ≤ n.length := fun h => (pre_iff.1 h).length_le
    obtain ⟨m1, hm1⟩ : ∃ m1, n.drop p.length = m1 := ⟨_, rfl⟩
    obtain ⟨m2, hm2⟩ : ∃ m2, n.drop c.length = m2 := ⟨_, rfl⟩
    rw [hm1] at c1 ⊢
    rw [hm2] at c2 lm2 ⊢
    have e4 : (⟨#[48]⟩ : ByteArray) ++ ⟨m2.toArray⟩ = ⟨(48 :: m2).toArray⟩ := str_add [48] m2
    clear hp hc0 hm1 hm2
    cases g1 : pre p n
    · rw [Bool.false_and, if_neg (by simp)]
      rw [g1] at S1
      have hcn : pre c n = true → c.length ≤ n.length := lcn
      clear g1 lpn
      cases g2 : pre c n
      · rw [Bool.false_and, if_neg (by simp), resN_some]
        rw [g2] at S2
        clear g2 S3 lcn
        unfold str at O1 V2 V3 S1 S2 ⊢
        go_enter Try.func17, Try.ntmps17
        go_wp2_with fail
        refine (O1 _).mono ?_
        rintro e w' ⟨rfl, rfl⟩
        clear O1
        go_wp2_with fail
        refine (V2 _).mono ?_
        rintro e w' ⟨rfl, rfl⟩
        clear V2
        go_wp2_with fail
        refine (V3 _).mono ?_
        rintro e w' ⟨rfl, rfl⟩
        clear V3
        go_wp2_with fail
        refine (S1 _).mono ?_
        rintro e w' ⟨rfl, rfl⟩
        clear S1
        go_wp2_with fail
        refine (S2 _).mono ?_
        rintro e w' ⟨rfl, rfl⟩
        clear S2
        go_wp2_with fail
        go_ret2
        exact ⟨rfl, rfl⟩
      · rw [Bool.true_and]
        rw [g2] at S2
        have hcl := lcn g2
        clear lcn
        cases g3 : pre c0 n
        · rw [Bool.not_false, if_pos rfl, resN_some]
          rw [g3] at S3
          clear g2 g3
          unfold str at O1 V2 V3 S1 S2 S3 ⊢
          go_enter Try.func17, Try.ntmps17
          go_wp2_with fail
          refine (O1 _).mono ?_
          rintro e w' ⟨rfl, rfl⟩
          clear O1
          go_wp2_with fail
          refine (V2 _).mono ?_
          rintro e w' ⟨rfl, rfl⟩
          clear V2
          go_wp2_with fail
          refine (V3 _).mono ?_
          rintro e w' ⟨rfl, rfl⟩
          clear V3
          go_wp2_with fail
          refine (S1 _).mono ?_
          rintro e w' ⟨rfl, rfl⟩
          clear S1
          go_wp2_with fail
          refine (S2 _).mono ?_
          rintro e w' ⟨rfl, rfl⟩
          clear S2
          go_wp2_with fail
          refine (S3 _).mono ?_
          rintro e w' ⟨rfl, rfl⟩
          clear S3
          go_wp2_with fail
          go_ret2
          exact ⟨rfl, rfl⟩
        · rw [Bool.not_true, if_neg (by simp), resN_some]
          rw [g3] at S3
          clear g2 g3
          unfold str at O1 V2 V3 S1 S2 S3 ⊢
          go_enter Try.func17, Try.ntmps17
          go_wp2_with fail
          refine (O1 _).mono ?_
          rintro e w' ⟨rfl, rfl⟩
          clear O1
          go_wp2_with fail
          refine (V2 _).mono ?_
          rintro e w' ⟨rfl, rfl⟩
          clear V2
          go_wp2_with fail
          refine (V3 _).mono ?_
          rintro e w' ⟨rfl, rfl⟩
          clear V3
          go_wp2_with fail
          refine (S1 _).mono ?_
          rintro e w' ⟨rfl, rfl⟩
          clear S1
          go_wp2_with fail
          refine (S2 _).mono ?_
          rintro e w' ⟨rfl, rfl⟩
          clear S2
          go_wp2_with fail
          refine (S3 _).mono ?_
          rintro e w' ⟨rfl, rfl⟩
          clear S3
          go_wp2_with fail
          go_ret2
          exact ⟨rfl, rfl⟩
    · have hpl := lpn g1
      rw [Bool.true_and]
      rw [g1] at S1
      clear g1 lpn
      by_cases hlt : p.length < n.length
      · rw [decide_eq_true hlt, Bool.true_and]
        obtain ⟨y, hy⟩ : ∃ y, n[p.length]? = some y := ⟨n[p.length], List.getElem?_eq_getElem hlt⟩
        have hga : (⟨n.toArray⟩ : ByteArray)[p.length]'(by rw [str_size]; exact hlt) = y := by
          obtain ⟨h, rfl⟩ := List.getElem?_eq_some_iff.1 hy
          simp [ByteArray.getElem_eq_getElem_data]
        rw [hy]
        by_cases hyz : y = 48
        · have hz : (((y.toNat : Nat) : Int) != 48) = false := by subst hyz; rfl
          have hq : (some y == some (48 : UInt8)) = true := by subst hyz; rfl
          rw [hq, Bool.not_true, if_neg (by simp)]
          clear hy hyz hq
          cases g2 : pre c n
          · rw [Bool.false_and, if_neg (by simp), resN_some]
            rw [g2] at S2
            clear g2 S3 lcn
            unfold str at O1 V2 V3 S1 S2 ⊢
            go_enter Try.func17, Try.ntmps17
            go_wp2_with fail
            refine (O1 _).mono ?_
            rintro e w' ⟨rfl, rfl⟩
            clear O1
            go_wp2_with fail
            refine (V2 _).mono ?_
            rintro e w' ⟨rfl, rfl⟩
            clear V2
            go_wp2_with fail
            refine (V3 _).mono ?_
            rintro e w' ⟨rfl, rfl⟩
            clear V3
            go_wp2_with fail
            refine (S1 _).mono ?_
            rintro e w' ⟨rfl, rfl⟩
            clear S1
            go_wp2_with fail
            refine (S2 _).mono ?_
            rintro e w' ⟨rfl, rfl⟩
            clear S2
            go_wp2_with fail
            go_ret2
            exact ⟨rfl, rfl⟩
          · rw [Bool.true_and]
            rw [g2] at S2
            have hcl := lcn g2
            clear lcn
            cases g3 : pre c0 n
            · rw [Bool.not_false, if_pos rfl, resN_some]
              rw [g3] at S3
              clear g2 g3
              unfold str at O1 V2 V3 S1 S2 S3 ⊢
              go_enter Try.func17, Try.ntmps17
              go_wp2_with fail
              refine (O1 _).mono ?_
              rintro e w' ⟨rfl, rfl⟩
              clear O1
              go_wp2_with fail
              refine (V2 _).mono ?_
              rintro e w' ⟨rfl, rfl⟩
              clear V2
              go_wp2_with fail
              refine (V3 _).mono ?_
              rintro e w' ⟨rfl, rfl⟩
              clear V3
              go_wp2_with fail
              refine (S1 _).mono ?_
              rintro e w' ⟨rfl, rfl⟩
              clear S1
              go_wp2_with fail
              refine (S2 _).mono ?_
              rintro e w' ⟨rfl, rfl⟩
              clear S2
              go_wp2_with fail
              refine (S3 _).mono ?_
              rintro e w' ⟨rfl, rfl⟩
              clear S3
              go_wp2_with fail
              go_ret2
              exact ⟨rfl, rfl⟩
            · rw [Bool.not_true, if_neg (by simp), resN_some]
              rw [g3] at S3
              clear g2 g3
              unfold str at O1 V2 V3 S1 S2 S3 ⊢
              go_enter Try.func17, Try.ntmps17
              go_wp2_with fail
              refine (O1 _).mono ?_
              rintro e w' ⟨rfl, rfl⟩
              clear O1
              go_wp2_with fail
              refine (V2 _).mono ?_
              rintro e w' ⟨rfl, rfl⟩
              clear V2
              go_wp2_with fail
              refine (V3 _).mono ?_
              rintro e w' ⟨rfl, rfl⟩
              clear V3
              go_wp2_with fail
              refine (S1 _).mono ?_
              rintro e w' ⟨rfl, rfl⟩
              clear S1
              go_wp2_with fail
              refine (S2 _).mono ?_
              rintro e w' ⟨rfl, rfl⟩
              clear S2
              go_wp2_with fail
              refine (S3 _).mono ?_
              rintro e w' ⟨rfl, rfl⟩
              clear S3
              go_wp2_with fail
              go_ret2
              exact ⟨rfl, rfl⟩
        · have hq : (some y == some (48 : UInt8)) = false := by simpa using hyz
          have hz : (((y.toNat : Nat) : Int) != 48) = true := by
            rw [bne, Bool.not_eq_true', Bool.eq_false_iff]
            intro e
            have e := eq_of_beq e
            refine hyz (UInt8.toNat_inj.1 ?_)
            show y.toNat = 48
            omega
          rw [hq, Bool.not_false, if_pos rfl, resN_some]
          clear hy hyz hq S2 S3
          unfold str at O1 V2 V3 S1 ⊢
          go_enter Try.func17, Try.ntmps17
          go_wp2_with fail
          refine (O1 _).mono ?_
          rintro e w' ⟨rfl, rfl⟩
          clear O1
          go_wp2_with fail
          refine (V2 _).mono ?_
          rintro e w' ⟨rfl, rfl⟩
          clear V2
          go_wp2_with fail
          refine (V3 _).mono ?_
          rintro e w' ⟨rfl, rfl⟩
          clear V3
          go_wp2_with fail
          refine (S1 _).mono ?_
          rintro e w' ⟨rfl, rfl⟩
          clear S1
          go_wp2_with fail
          go_ret2
          exact ⟨rfl, rfl⟩
      · rw [decide_eq_false hlt, Bool.false_and, if_neg (by simp)]
        cases g2 : pre c n
        · rw [Bool.false_and, if_neg (by simp), resN_some]
          rw [g2] at S2
          clear g2 S3 lcn
          unfold str at O1 V2 V3 S1 S2 ⊢
          go_enter Try.func17, Try.ntmps17
          go_wp2_with fail
          refine (O1 _).mono ?_
          rintro e w' ⟨rfl, rfl⟩
          clear O1
          go_wp2_with fail
          refine (V2 _).mono ?_
          rintro e w' ⟨rfl, rfl⟩
          clear V2
          go_wp2_with fail
          refine (V3 _).mono ?_
          rintro e w' ⟨rfl, rfl⟩
          clear V3
          go_wp2_with fail
          refine (S1 _).mono ?_
          rintro e w' ⟨rfl, rfl⟩
          clear S1
          go_wp2_with fail
          refine (S2 _).mono ?_
          rintro e w' ⟨rfl, rfl⟩
          clear S2
          go_wp2_with fail
          go_ret2
          exact ⟨rfl, rfl⟩
        · rw [Bool.true_and]
          rw [g2] at S2
          have hcl := lcn g2
          clear lcn
          cases g3 : pre c0 n
          · rw [Bool.not_false, if_pos rfl, resN_some]
            rw [g3] at S3
            clear g2 g3
            unfold str at O1 V2 V3 S1 S2 S3 ⊢
            go_enter Try.func17, Try.ntmps17
            go_wp2_with fail
            refine (O1 _).mono ?_
            rintro e w' ⟨rfl, rfl⟩
            clear O1
            go_wp2_with fail
            refine (V2 _).mono ?_
            rintro e w' ⟨rfl, rfl⟩
            clear V2
            go_wp2_with fail
            refine (V3 _).mono ?_
            rintro e w' ⟨rfl, rfl⟩
            clear V3
            go_wp2_with fail
            refine (S1 _).mono ?_
            rintro e w' ⟨rfl, rfl⟩
            clear S1
            go_wp2_with fail
            refine (S2 _).mono ?_
            rintro e w' ⟨rfl, rfl⟩
            clear S2
            go_wp2_with fail
            refine (S3 _).mono ?_
            rintro e w' ⟨rfl, rfl⟩
            clear S3
            go_wp2_with fail
            go_ret2
            exact ⟨rfl, rfl⟩
          · rw [Bool.not_true, if_neg (by simp), resN_some]
            rw [g3] at S3
            clear g2 g3
            unfold str at O1 V2 V3 S1 S2 S3 ⊢
            go_enter Try.func17, Try.ntmps17
            go_wp2_with fail
            refine (O1 _).mono ?_
            rintro e w' ⟨rfl, rfl⟩
            clear O1
            go_wp2_with fail
            refine (V2 _).mono ?_
            rintro e w' ⟨rfl, rfl⟩
            clear V2
            go_wp2_with fail
            refine (V3 _).mono ?_
            rintro e w' ⟨rfl, rfl⟩
            clear V3
            go_wp2_with fail
            refine (S1 _).mono ?_
            rintro e w' ⟨rfl, rfl⟩
            clear S1
            go_wp2_with fail
            refine (S2 _).mono ?_
            rintro e w' ⟨rfl, rfl⟩
            clear S2
            go_wp2_with fail
            refine (S3 _).mono ?_
            rintro e w' ⟨rfl, rfl⟩
            clear S3
            go_wp2_with fail
            go_ret2
            exact ⟨rfl, rfl⟩

end Go.Proofs.Ytblgcefaikoejaa
