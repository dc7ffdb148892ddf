/-
  The walk of the law DigitsFormsAgree.
-/
import Derived.Test.YtblgcefaikoejaaDrS
namespace Go.Proofs.Ytblgcefaikoejaa
open Go.RowKit Dg
set_option linter.unusedVariables false
set_option linter.unusedSimpArgs false

theorem first_at {l : Str} {x : UInt8} {t : Str} (h : l = x :: t) (hl : 0 < (⟨l.toArray⟩ : ByteArray).size) : (⟨l.toArray⟩ : ByteArray)[0]'hl = x := by
  subst h
  simp [ByteArray.getElem_eq_getElem_data]
theorem byte_eq {x y : UInt8} (h : x = y) : ((x.toNat : Int) == (y.toNat : Int)) = true := by subst h; simp
theorem is_zero : ((48 : UInt8).toNat : Int) = 48 := rfl
theorem byte_48 {x : UInt8} : (((x.toNat : Nat) : Int) == 48) = decide (x = 48) := by
  rw [Bool.eq_iff_iff]
  simp only [beq_iff_eq, decide_eq_true_eq]
  constructor
  · intro h
    have : x.toNat = 48 := by omega
    apply UInt8.toNat_inj.1
    rw [this]; rfl
  · rintro rfl; rfl
theorem not_zero {x : UInt8} {t : Str} (h : x ≠ 48) : ∀ r, x :: t ≠ 48 :: r := by
  intro r e
  injection e with e _
  exact h e
theorem digs_of {lo hi : Nat} {l : Str} (h : num lo hi l = true) : ∀ b ∈ l, isD b = true := (num_iff.1 h).2.2

set_option maxRecDepth 100000 in
set_option maxHeartbeats 1600000 in
theorem digitsFormsAgree_walk (n c a : List UInt8) (w : World) (hn : n.length ≤ maxLen) (hc : c.length ≤ maxLen) (ha : a.length ≤ maxLen) :
    Calls Try.prog 7 #[str n, str c, str a] w fun e w' => e = .returned (.bool true) ∧ Below w.heap.size w w' := by
  by_cases hsh : n.length ≤ 200 ∧ c.length ≤ 200 ∧ a.length ≤ 200
  · have S1 := fun w => short_yes n c a w hsh
    obtain ⟨l1, l2, l3⟩ := hsh
    have N := fun w => normalize_any n c a w hn hc ha
    have B1 := fun w => normalize_any (48 :: 48 :: (c ++ (a ++ n))) c a w (by simp only [List.length_cons, List.length_append, maxLen]; omega) hc ha
    have B2 := fun w => normalize_any (48 :: (a ++ n)) c a w (by simp only [List.length_cons, List.length_append, maxLen]; omega) hc ha
    have e1 : (⟨#[48, 48]⟩ : ByteArray) ++ ⟨c.toArray⟩ = ⟨(48 :: 48 :: c).toArray⟩ := str_add [48, 48] c
    have e2 : (⟨(48 :: 48 :: c).toArray⟩ : ByteArray) ++ ⟨a.toArray⟩ = ⟨(48 :: 48 :: (c ++ a)).toArray⟩ := str_add (48 :: 48 :: c) a
    have e3 : (⟨(48 :: 48 :: (c ++ a)).toArray⟩ : ByteArray) ++ ⟨n.toArray⟩ = ⟨(48 :: 48 :: (c ++ a ++ n)).toArray⟩ := str_add (48 :: 48 :: (c ++ a)) n
    have e4 : (⟨#[48]⟩ : ByteArray) ++ ⟨a.toArray⟩ = ⟨(48 :: a).toArray⟩ := str_add [48] a
    have e5 : (⟨(48 :: a).toArray⟩ : ByteArray) ++ ⟨n.toArray⟩ = ⟨(48 :: (a ++ n)).toArray⟩ := str_add (48 :: a) n
    have e6 := str_add c a
    have e7 := str_add (c ++ a) n
    cases hr : norm n c a with
    | none =>
      rw [hr, resN_none] at N
      clear hr B1 B2 e1 e2 e3 e4 e5 e6 e7
      unfold str at S1 N ⊢
      go_enter Try.func7, Try.ntmps7
      go_wp2_with fail
      refine (sane_any _).mono ?_
      rintro e w1 ⟨rfl, b1⟩
      go_wp2_with fail
      refine (S1 _).mono ?_
      rintro e w' ⟨rfl, rfl⟩
      clear S1
      go_wp2_with fail
      refine (N _).mono ?_
      rintro e w2 ⟨rfl, b2⟩
      replace b2 := b1.trans (b2.mono b1.size)
      clear N b1
      go_wp2_with fail
      go_ret
      exact ⟨rfl, b2⟩
    | some m =>
      obtain ⟨h1, h2, h3, h4, h5⟩ := norm_some.1 hr
      rw [hr, resN_some] at N
      obtain ⟨x, t, hnx⟩ : ∃ x t, n = x :: t := by
        cases n with
        | nil => cases h1
        | cons x t => exact ⟨x, t, rfl⟩
      have hn0 : 0 < n.length := by rw [hnx]; simp
      have hlb : ((n.length : Int) == 0) = false := beq_eq_false_iff_ne.2 (by omega)
      have hx0 := fun hl => first_at hnx hl
      have hm0 : 0 < m.length := (num_iff.1 h4).1
      by_cases hx : x = 48
      · have hz : ((x.toNat : Int) == 48) = true := by rw [byte_48]; simpa using hx
        clear hr B1 B2 e1 e2 e3 e4 e5 e6 e7 h1 h2 h3 h4 h5 hnx hx
        unfold str at S1 N ⊢
        go_enter Try.func7, Try.ntmps7
        go_wp2_with fail
        refine (sane_any _).mono ?_
        rintro e w1 ⟨rfl, b1⟩
        go_wp2_with fail
        refine (S1 _).mono ?_
        rintro e w' ⟨rfl, rfl⟩
        clear S1
        go_wp2_with fail
        refine (N _).mono ?_
        rintro e w2 ⟨rfl, b2⟩
        replace b2 := b1.trans (b2.mono b1.size)
        clear N b1
        go_wp2_with fail
        go_ret
        exact ⟨rfl, b2⟩
      · have hz : (((x.toNat : Nat) : Int) == 48) = false := by rw [byte_48]; simpa using hx
        have hn48 : ∀ r, n ≠ 48 :: r := by rw [hnx]; exact not_zero hx
        rw [reached_local c a hn48, List.append_assoc] at h5
        subst h5
        have hok : ok (c ++ (a ++ n)) c a = true := by unfold ok; rw [h4, h2, h3]; rfl
        rw [norm_intl hok, resN_some] at B1
        have hl15 := num_len h4
        have HL15 := Lib.hid hl15
        cases haa : a with
        | nil =>
          have hae : (a == ([] : Str)) = true := by rw [haa]; rfl
          obtain ⟨o2, ho2⟩ : ∃ o2, norm (48 :: (a ++ n)) c a = o2 := ⟨_, rfl⟩
          rw [ho2] at B2
          rw [← haa]
          clear hr hok ho2 h1 h2 h3 h4 haa hl15 hnx hx hn48
          unfold resN at B2
          unfold str at S1 N B1 B2 ⊢
          go_enter Try.func7, Try.ntmps7
          go_wp2_with fail
          refine (sane_any _).mono ?_
          rintro e w1 ⟨rfl, b1⟩
          go_wp2_with fail
          refine (S1 _).mono ?_
          rintro e w' ⟨rfl, rfl⟩
          clear S1
          go_wp2_with fail
          refine (N _).mono ?_
          rintro e w2 ⟨rfl, b2⟩
          replace b2 := b1.trans (b2.mono b1.size)
          clear N b1
          go_wp2_with fail
          refine (B1 _).mono ?_
          rintro e w3 ⟨rfl, b3⟩
          replace b3 := b2.trans (b3.mono b2.size)
          clear B1 b2
          go_wp2_with fail
          refine (B2 _).mono ?_
          rintro e w4 ⟨rfl, b4⟩
          replace b4 := b3.trans (b4.mono b3.size)
          clear B2 b3
          go_wp2_with fail
          all_goals
            go_ret
            exact ⟨ret_bool (by simp), b4⟩
        | cons y u =>
          have hae : (a == ([] : Str)) = false := by rw [haa]; rfl
          have ha0 : 0 < a.length := by rw [haa]; simp
          have hy0 := fun hl => first_at haa hl
          by_cases hy : y = 48
          · have hz2 : ((y.toNat : Int) == 48) = true := by rw [byte_48]; simpa using hy
            obtain ⟨o2, ho2⟩ : ∃ o2, norm (48 :: (a ++ n)) c a = o2 := ⟨_, rfl⟩
            rw [ho2] at B2
            rw [← haa]
            clear hr hok ho2 h1 h2 h3 h4 haa hl15 hnx hx hn48 hy
            unfold resN at B2
            unfold str at S1 N B1 B2 ⊢
            go_enter Try.func7, Try.ntmps7
            go_wp2_with fail
            refine (sane_any _).mono ?_
            rintro e w1 ⟨rfl, b1⟩
            go_wp2_with fail
            refine (S1 _).mono ?_
            rintro e w' ⟨rfl, rfl⟩
            clear S1
            go_wp2_with fail
            refine (N _).mono ?_
            rintro e w2 ⟨rfl, b2⟩
            replace b2 := b1.trans (b2.mono b1.size)
            clear N b1
            go_wp2_with fail
            refine (B1 _).mono ?_
            rintro e w3 ⟨rfl, b3⟩
            replace b3 := b2.trans (b3.mono b2.size)
            clear B1 b2
            go_wp2_with fail
            refine (B2 _).mono ?_
            rintro e w4 ⟨rfl, b4⟩
            replace b4 := b3.trans (b4.mono b3.size)
            clear B2 b3
            go_wp2_with fail
            all_goals
              go_ret
              exact ⟨ret_bool (by simp), b4⟩
          · have hz2 : (((y.toNat : Nat) : Int) == 48) = false := by rw [byte_48]; simpa using hy
            have hn2 : norm (48 :: (a ++ n)) c a = some (c ++ (a ++ n)) := by
              refine norm_some.2 ⟨num_iff.2 ⟨by simp, ?_, fun b hb => ?_⟩, h2, h3, h4, ?_⟩
              · simp only [List.length_cons, List.length_append] at hl15 ⊢
                omega
              · rcases List.mem_cons.1 hb with e | hb
                · rw [e]; decide
                · rcases List.mem_append.1 hb with hb | hb
                  · exact digs_of h3 b hb
                  · exact digs_of h1 b hb
              · have hr : ∀ r, a ++ n ≠ 48 :: r := by rw [haa]; exact not_zero hy
                rw [reached_nat c a hr]
            rw [hn2, resN_some] at B2
            rw [← haa]
            clear hr hok hn2 h1 h2 h3 h4 haa hl15 hnx hx hn48 hy
            unfold str at S1 N B1 B2 ⊢
            go_enter Try.func7, Try.ntmps7
            go_wp2_with fail
            refine (sane_any _).mono ?_
            rintro e w1 ⟨rfl, b1⟩
            go_wp2_with fail
            refine (S1 _).mono ?_
            rintro e w' ⟨rfl, rfl⟩
            clear S1
            go_wp2_with fail
            refine (N _).mono ?_
            rintro e w2 ⟨rfl, b2⟩
            replace b2 := b1.trans (b2.mono b1.size)
            clear N b1
            go_wp2_with fail
            refine (B1 _).mono ?_
            rintro e w3 ⟨rfl, b3⟩
            replace b3 := b2.trans (b3.mono b2.size)
            clear B1 b2
            go_wp2_with fail
            refine (B2 _).mono ?_
            rintro e w4 ⟨rfl, b4⟩
            replace b4 := b3.trans (b4.mono b3.size)
            clear B2 b3
            go_wp2_with fail
            go_ret
            exact ⟨ret_bool (by simp), b4⟩
  · have S1 := fun w => short_no n c a w hn hc ha hsh
    unfold str at S1 ⊢
    go_enter Try.func7, Try.ntmps7
    go_wp2_with fail
    refine (sane_any _).mono ?_
    rintro e w1 ⟨rfl, b1⟩
    go_wp2_with fail
    refine (S1 _).mono ?_
    rintro e w' ⟨rfl, rfl⟩
    go_wp2_with fail
    go_ret
    exact ⟨rfl, b1⟩

end Go.Proofs.Ytblgcefaikoejaa
