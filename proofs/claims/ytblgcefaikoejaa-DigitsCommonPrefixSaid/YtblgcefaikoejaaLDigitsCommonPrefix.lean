/-
  The walk of the law DigitsCommonPrefix.
-/
import Derived.Test.YtblgcefaikoejaaDrS
namespace Go.Proofs.Ytblgcefaikoejaa
open Go.RowKit Dg
set_option linter.unusedVariables false
set_option linter.unusedSimpArgs false

set_option maxRecDepth 100000 in
set_option maxHeartbeats 1600000 in
theorem digitsCommonPrefix_walk (a b c : List UInt8) (w : World) (ha : a.length ≤ maxLen) (hb : b.length ≤ maxLen) (hc : c.length ≤ maxLen) :
    Calls Try.prog 11 #[str a, str b, str c] w fun e w' => e = .returned (.bool true) ∧ Below w.heap.size w w' := by
  by_cases hsh : a.length ≤ 200 ∧ b.length ≤ 200 ∧ c.length ≤ 200
  · have S1 := fun w => short_yes a b c w hsh
    obtain ⟨l1, l2, l3⟩ := hsh
    have C1 := fun w => common_any a b w (by omega) (by omega)
    have C2 := fun w => common_any b a w (by omega) (by omega)
    have C3 := fun w => common_any a a w (by omega) (by omega)
    have C4 := fun w => common_any a c w (by omega) (by omega)
    have C5 := fun w => common_any b c w (by omega) (by omega)
    have M := fun w v (hv : Sl w w.heap.size 1000 v [a]) => matches_any b v [a] w (by omega) hv (by simp)
    have hle1 := com_le_left a b
    have hle2 := com_le_right a b
    have htk := com_take a b
    have hend := com_end a b
    have hult := com_ultra a b c
    have hpre := com_pre a b
    rw [com_self] at C3
    rw [com_comm b a] at C2
    have hal : a.length ≤ 1000 := by omega
    obtain ⟨n, hn⟩ : ∃ n, com a b = n := ⟨_, rfl⟩
    obtain ⟨k, hk⟩ : ∃ k, com a c = k := ⟨_, rfl⟩
    obtain ⟨j, hj⟩ : ∃ j, com b c = j := ⟨_, rfl⟩
    rw [hn] at C1 C2 hle1 hle2 htk hend hult hpre
    rw [hk] at C4 hult
    rw [hj] at C5 hult
    have hc1 := str_cut a 0 n
    have hc2 := str_cut b 0 n
    rw [List.drop_zero] at hc1 hc2
    rw [← htk] at hc2
    have hmat : mat [a] b = decide (n = a.length) := by
      rw [Bool.eq_iff_iff, mat_iff, decide_eq_true_eq, hpre]
      simp
    obtain ⟨p, hp⟩ : ∃ p, a.take n = p := ⟨_, rfl⟩
    rw [hp] at hc1 hc2
    have hpp : (p == p) = true := by simp
    have hmin1 : n ≤ k ∨ j ≤ k := by omega
    have q0 : decide ((n : Int) < 0) = false := decide_eq_false (by omega)
    have q1 : decide (a.length < n) = false := decide_eq_false (by omega)
    have q2 : decide (b.length < n) = false := decide_eq_false (by omega)
    clear hn hk hj htk hpre hp hult
    by_cases h1 : n = a.length
    · have e1 : ((n : Int) == (a.length : Int)) = true := by rw [beq_iff_eq]; omega
      rw [decide_eq_true h1] at hmat
      simp only [hmat] at M
      clear hend hmat h1
      unfold str at S1 C1 C2 C3 C4 C5 M ⊢
      go_enter Try.func11, Try.ntmps11
      go_wp2_with fail
      refine (sane_any _).mono ?_
      rintro e w1 ⟨rfl, b1⟩
      go_wp2_with fail
      refine (S1 _).mono ?_
      rintro e w' ⟨rfl, rfl⟩
      clear S1
      go_wp2_with fail
      refine (C1 _).mono ?_
      rintro e w2 ⟨rfl, b2⟩
      replace b2 := b1.trans (b2.mono b1.size)
      clear C1 b1
      go_wp2_with fail
      go_region
      all_goals go_wp2_with fail
      go_region
      all_goals go_wp2_with fail
      refine (M _ _ ((lit_sl w2 [a] 1000 (by simpa using hal) (by simp [maxLen])).past (((Below.refl _ _).drew).drew))).mono ?_
      rintro e w3 ⟨rfl, b3⟩
      replace b3 := b2.trans ((((((Below.refl _ w2).alloc (Nat.le_refl _) (.cells (([a] : List Str).map str).toArray 9)).drew).drew).trans (b3.mono (by simp [World.drew]))).mono b2.size)
      clear M b2
      go_wp2_with fail
      refine (C2 _).mono ?_
      rintro e w4 ⟨rfl, b4⟩
      replace b4 := b3.trans (b4.mono b3.size)
      clear C2 b3
      go_wp2_with fail
      refine (C3 _).mono ?_
      rintro e w5 ⟨rfl, b5⟩
      replace b5 := b4.trans (b5.mono b4.size)
      clear C3 b4
      go_wp2_with fail
      refine (C4 _).mono ?_
      rintro e w6 ⟨rfl, b6⟩
      replace b6 := b5.trans (b6.mono b5.size)
      clear C4 b5
      go_wp2_with fail
      refine (C5 _).mono ?_
      rintro e w7 ⟨rfl, b7⟩
      replace b7 := b6.trans (b7.mono b6.size)
      clear C5 b6
      go_wp2_with fail
      all_goals
        go_ret
        exact ⟨ret_bool (by simp; try omega), b7⟩
    · have e1 : ((n : Int) == (a.length : Int)) = false := beq_eq_false_iff_ne.2 (by omega)
      rw [decide_eq_false h1] at hmat
      simp only [hmat] at M
      by_cases h2 : n = b.length
      · have e2 : ((n : Int) == (b.length : Int)) = true := by rw [beq_iff_eq]; omega
        clear hend hmat h1 h2
        unfold str at S1 C1 C2 C3 C4 C5 M ⊢
        go_enter Try.func11, Try.ntmps11
        go_wp2_with fail
        refine (sane_any _).mono ?_
        rintro e w1 ⟨rfl, b1⟩
        go_wp2_with fail
        refine (S1 _).mono ?_
        rintro e w' ⟨rfl, rfl⟩
        clear S1
        go_wp2_with fail
        refine (C1 _).mono ?_
        rintro e w2 ⟨rfl, b2⟩
        replace b2 := b1.trans (b2.mono b1.size)
        clear C1 b1
        go_wp2_with fail
        go_region
        all_goals go_wp2_with fail
        go_region
        all_goals go_wp2_with fail
        refine (M _ _ ((lit_sl w2 [a] 1000 (by simpa using hal) (by simp [maxLen])).past (((Below.refl _ _).drew).drew))).mono ?_
        rintro e w3 ⟨rfl, b3⟩
        replace b3 := b2.trans ((((((Below.refl _ w2).alloc (Nat.le_refl _) (.cells (([a] : List Str).map str).toArray 9)).drew).drew).trans (b3.mono (by simp [World.drew]))).mono b2.size)
        clear M b2
        go_wp2_with fail
        refine (C2 _).mono ?_
        rintro e w4 ⟨rfl, b4⟩
        replace b4 := b3.trans (b4.mono b3.size)
        clear C2 b3
        go_wp2_with fail
        refine (C3 _).mono ?_
        rintro e w5 ⟨rfl, b5⟩
        replace b5 := b4.trans (b5.mono b4.size)
        clear C3 b4
        go_wp2_with fail
        refine (C4 _).mono ?_
        rintro e w6 ⟨rfl, b6⟩
        replace b6 := b5.trans (b6.mono b5.size)
        clear C4 b5
        go_wp2_with fail
        refine (C5 _).mono ?_
        rintro e w7 ⟨rfl, b7⟩
        replace b7 := b6.trans (b7.mono b6.size)
        clear C5 b6
        go_wp2_with fail
        all_goals
          go_ret
          exact ⟨ret_bool (by simp; try omega), b7⟩
      · have e2 : ((n : Int) == (b.length : Int)) = false := beq_eq_false_iff_ne.2 (by omega)
        have hne : a[n]? ≠ b[n]? := (hend.resolve_left h1).resolve_left h2
        have g1 : n < a.length := by omega
        have g2 : n < b.length := by omega
        obtain ⟨x, hx⟩ : ∃ x, a[n]? = some x := ⟨a[n], List.getElem?_eq_getElem g1⟩
        obtain ⟨y, hy⟩ : ∃ y, b[n]? = some y := ⟨b[n], List.getElem?_eq_getElem g2⟩
        have hga : (⟨a.toArray⟩ : ByteArray)[n]'(by rw [str_size]; exact g1) = x := by
          obtain ⟨h, rfl⟩ := List.getElem?_eq_some_iff.1 hx
          simp [ByteArray.getElem_eq_getElem_data]
        have hgb : (⟨b.toArray⟩ : ByteArray)[n]'(by rw [str_size]; exact g2) = y := by
          obtain ⟨h, rfl⟩ := List.getElem?_eq_some_iff.1 hy
          simp [ByteArray.getElem_eq_getElem_data]
        have hxy : x ≠ y := fun e => hne (by rw [hx, hy, e])
        have hbe : ((x.toNat : Int) == (y.toNat : Int)) = false := by
          rw [Bool.eq_false_iff]
          intro e
          have e := eq_of_beq e
          exact hxy (by apply UInt8.toNat_inj.1; omega)
        have hbn : ((x.toNat : Int) != (y.toNat : Int)) = true := by rw [bne, hbe]; rfl
        clear hend hmat h1 h2 hne hx hy hxy
        unfold str at S1 C1 C2 C3 C4 C5 M ⊢
        go_enter Try.func11, Try.ntmps11
        go_wp2_with fail
        refine (sane_any _).mono ?_
        rintro e w1 ⟨rfl, b1⟩
        go_wp2_with fail
        refine (S1 _).mono ?_
        rintro e w' ⟨rfl, rfl⟩
        clear S1
        go_wp2_with fail
        refine (C1 _).mono ?_
        rintro e w2 ⟨rfl, b2⟩
        replace b2 := b1.trans (b2.mono b1.size)
        clear C1 b1
        go_wp2_with fail
        go_region
        all_goals go_wp2_with fail
        go_region
        all_goals go_wp2_with fail
        refine (M _ _ ((lit_sl w2 [a] 1000 (by simpa using hal) (by simp [maxLen])).past (((Below.refl _ _).drew).drew))).mono ?_
        rintro e w3 ⟨rfl, b3⟩
        replace b3 := b2.trans ((((((Below.refl _ w2).alloc (Nat.le_refl _) (.cells (([a] : List Str).map str).toArray 9)).drew).drew).trans (b3.mono (by simp [World.drew]))).mono b2.size)
        clear M b2
        go_wp2_with fail
        refine (C2 _).mono ?_
        rintro e w4 ⟨rfl, b4⟩
        replace b4 := b3.trans (b4.mono b3.size)
        clear C2 b3
        go_wp2_with fail
        refine (C3 _).mono ?_
        rintro e w5 ⟨rfl, b5⟩
        replace b5 := b4.trans (b5.mono b4.size)
        clear C3 b4
        go_wp2_with fail
        refine (C4 _).mono ?_
        rintro e w6 ⟨rfl, b6⟩
        replace b6 := b5.trans (b6.mono b5.size)
        clear C4 b5
        go_wp2_with fail
        refine (C5 _).mono ?_
        rintro e w7 ⟨rfl, b7⟩
        replace b7 := b6.trans (b7.mono b6.size)
        clear C5 b6
        go_wp2_with fail
        all_goals
          go_ret
          exact ⟨ret_bool (by simp; try omega), b7⟩
  · have S1 := fun w => short_no a b c w ha hb hc hsh
    unfold str at S1 ⊢
    go_enter Try.func11, Try.ntmps11
    go_wp2_with fail
    refine (sane_any _).mono ?_
    rintro e w1 ⟨rfl, b1⟩
    go_wp2_with fail
    refine (S1 _).mono ?_
    rintro e w' ⟨rfl, rfl⟩
    go_wp2_with fail
    go_ret
    exact ⟨rfl, b1⟩

end Go.Proofs.Ytblgcefaikoejaa
