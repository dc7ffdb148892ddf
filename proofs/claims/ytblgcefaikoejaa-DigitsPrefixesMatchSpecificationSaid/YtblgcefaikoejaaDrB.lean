/-
  Walks of the reference's functions on strings of digits.
-/
import Derived.Test.YtblgcefaikoejaaDgM
import Derived.Test.YtblgcefaikoejaaDgB
namespace Go.Proofs.Ytblgcefaikoejaa
open Go.RowKit Dg
set_option linter.unusedVariables false
set_option linter.unusedSimpArgs false

theorem isD_cases (x : UInt8) : ((x.toNat < 48) ∧ isD x = false) ∨ (¬ x.toNat < 48 ∧ 57 < x.toNat ∧ isD x = false) ∨ (¬ x.toNat < 48 ∧ ¬ 57 < x.toNat ∧ isD x = true) := by
  unfold isD
  by_cases h1 : x.toNat < 48
  · left; exact ⟨h1, by rw [decide_eq_false (by omega)]; rfl⟩
  · by_cases h2 : 57 < x.toNat
    · right; left; exact ⟨h1, h2, by rw [decide_eq_false (p := x.toNat ≤ 57) (by omega)]; simp⟩
    · right; right; exact ⟨h1, h2, by rw [decide_eq_true (by omega), decide_eq_true (by omega)]; rfl⟩

set_option maxRecDepth 100000 in
set_option maxHeartbeats 1000000 in
theorem only_any (s : Str) (lo hi : Nat) (w : World) (hlo : lo ≤ 100) (hhi : hi ≤ 100) (hs : s.length ≤ maxLen) :
    Calls Try.prog 31 #[str s, .int .i64 (lo : Int), .int .i64 (hi : Int)] w fun e w' => e = .returned (.bool (num lo hi s)) ∧ w' = w := by
  obtain ⟨q, hq⟩ : ∃ q, num lo hi s = q := ⟨_, rfl⟩
  rw [hq]
  have HQ := Lib.hid hq
  clear hq
  unfold str
  by_cases h1 : s.length < lo
  · have hn : num lo hi s = false := by unfold num; rw [decide_eq_false (by omega)]; rfl
    have HN := Lib.hid (HQ.out.symm.trans hn)
    clear hn
    go_enter Try.func31, Try.ntmps31
    go_wp2_with fail
    go_ret
    exact ⟨ret_bool HN.out.symm, rfl⟩
  · by_cases h2 : hi < s.length
    · have hn : num lo hi s = false := by unfold num; rw [decide_eq_false (p := s.length ≤ hi) (by omega)]; simp
      have HN := Lib.hid (HQ.out.symm.trans hn)
      clear hn
      go_enter Try.func31, Try.ntmps31
      go_wp2_with fail
      go_ret
      exact ⟨ret_bool HN.out.symm, rfl⟩
    · have hl : s.length ≤ 100 := by omega
      go_enter Try.func31, Try.ntmps31
      go_wp2_with fail
      go_loopw [7] (fun vi wr => ∃ i : Nat, vi = .int .i64 (i : Int) ∧ i ≤ s.length ∧ (∀ b ∈ s.take i, isD b = true) ∧ wr = w)
        (fun vi wr => ixn s.length vi)
      case atStart => exact ⟨0, rfl, Nat.zero_le _, fun b hb => by simp at hb, rfl⟩
      case round =>
        obtain ⟨i, rfl, hi', ht, rfl⟩ := hrel
        have HT := Lib.hid ht
        clear ht
        by_cases hlt : i < s.length
        · obtain ⟨x, hx⟩ : ∃ x, s[i]? = some x := ⟨s[i], List.getElem?_eq_getElem hlt⟩
          have hga : (⟨s.toArray⟩ : ByteArray)[i]'(by rw [str_size]; exact hlt) = x := by
            obtain ⟨h, rfl⟩ := List.getElem?_eq_some_iff.1 hx
            simp [ByteArray.getElem_eq_getElem_data]
          have HX := Lib.hid hx
          clear hx
          rcases isD_cases x with ⟨d1, d2⟩ | ⟨d1, d3, d2⟩ | ⟨d1, d3, d2⟩
          · have HN : Hid (q = false) := Lib.hid (HQ.out.symm.trans (by
              rw [Bool.eq_false_iff]
              intro h
              have := (num_iff.1 h).2.2 x (List.mem_of_getElem? HX.out)
              rw [d2] at this; cases this))
            have g1 : decide ((x.toNat : Int) < 48) = true := decide_eq_true (by omega)
            go_wp2_with fail
            go_ret
            exact ⟨ret_bool HN.out.symm, rfl⟩
          · have HN : Hid (q = false) := Lib.hid (HQ.out.symm.trans (by
              rw [Bool.eq_false_iff]
              intro h
              have := (num_iff.1 h).2.2 x (List.mem_of_getElem? HX.out)
              rw [d2] at this; cases this))
            have g1 : decide ((x.toNat : Int) < 48) = false := decide_eq_false (by omega)
            have g2 : decide ((57 : Int) < (x.toNat : Int)) = true := decide_eq_true (by omega)
            go_wp2_with fail
            go_ret
            exact ⟨ret_bool HN.out.symm, rfl⟩
          · have HN : Hid (∀ b ∈ s.take (i + 1), isD b = true) := Lib.hid fun b hb => by
              rw [List.take_add_one, HX.out] at hb
              rcases List.mem_append.1 hb with hb | hb
              · exact HT.out b hb
              · simp at hb; subst hb; exact d2
            have g1 : decide ((x.toNat : Int) < 48) = false := decide_eq_false (by omega)
            have g2 : decide ((57 : Int) < (x.toNat : Int)) = false := decide_eq_false (by omega)
            go_wp2_with fail
            go_roundw
            case measure => show s.length - ((i : Int) + 1).toNat < s.length - ((i : Int)).toNat; omega
            case rel => exact ⟨i + 1, by simp, by omega, HN.out, by first | trivial | rfl⟩
        · have HN : Hid (q = true) := Lib.hid (HQ.out.symm.trans (by
            have := HT.out
            rw [List.take_of_length_le (by omega)] at this
            exact num_iff.2 ⟨by omega, by omega, this⟩))
          go_wp2_with fail
          go_ret
          exact ⟨ret_bool HN.out.symm, rfl⟩

set_option maxRecDepth 100000 in
theorem rvalid_any (s : Str) (w : World) (hs : s.length ≤ maxLen) :
    Calls Try.prog 19 #[str s] w fun e w' => e = .returned (.bool (num 1 15 s)) ∧ w' = w := by
  have hh := only_any s 1 15 w (by omega) (by omega) hs
  unfold str at hh ⊢
  go_enter Try.func19, Try.ntmps19
  go_wp2_with fail
  refine hh.mono ?_
  rintro e w' ⟨rfl, rfl⟩
  go_wp2_with fail
  go_ret
  exact ⟨rfl, rfl⟩

set_option maxRecDepth 100000 in
theorem starts_any (s p : Str) (w : World) (hs : s.length ≤ maxLen) (hp : p.length ≤ maxLen) :
    Calls Try.prog 32 #[str s, str p] w fun e w' => e = .returned (.bool (pre p s)) ∧ w' = w := by
  unfold str
  by_cases h : p.length ≤ s.length
  · go_enter Try.func32, Try.ntmps32
    go_wp2_with fail
    rw [str_cut]
    go_ret
    refine ⟨?_, rfl⟩
    unfold pre
    simp [h]
  · go_enter Try.func32, Try.ntmps32
    go_wp2_with fail
    go_ret
    refine ⟨?_, rfl⟩
    unfold pre
    simp [h]

theorem area_ok {a : Str} : num 0 15 a = (num 1 15 a || (a == ([] : Str))) := by
  cases a with
  | nil => rfl
  | cons x t =>
    have : ((x :: t : Str) == []) = false := rfl
    rw [this, Bool.or_false]
    unfold num
    simp

set_option maxRecDepth 100000 in
set_option maxHeartbeats 4000000 in
theorem rnormalize_any (d c a : Str) (w : World) (hd : d.length ≤ maxLen) (hc : c.length ≤ maxLen) (ha : a.length ≤ maxLen) :
    Calls Try.prog 15 #[str d, str c, str a] w fun e w' => e = .returned (resN (norm d c a)) ∧ w' = w := by
  have O1 := fun w => only_any d 1 20 w (by omega) (by omega) hd
  have V2 := fun w => rvalid_any c w hc
  have V3 := fun w => rvalid_any a w ha
  unfold norm
  cases h1 : num 1 20 d
  · rw [Bool.false_and, if_neg (by simp), resN_none]
    rw [h1] at O1
    unfold str at O1 ⊢
    go_enter Try.func15, Try.ntmps15
    go_wp2_with fail
    refine (O1 _).mono ?_
    rintro e w' ⟨rfl, rfl⟩
    clear O1
    go_wp2_with fail
    go_ret2
    exact ⟨rfl, rfl⟩
  rw [h1] at O1
  cases h2 : num 1 15 c
  · rw [Bool.true_and, Bool.false_and, if_neg (by simp), resN_none]
    rw [h2] at V2
    unfold str at O1 V2 ⊢
    go_enter Try.func15, Try.ntmps15
    go_wp2_with fail
    refine (O1 _).mono ?_
    rintro e w' ⟨rfl, rfl⟩
    clear O1
    go_wp2_with fail
    refine (V2 _).mono ?_
    rintro e w' ⟨rfl, rfl⟩
    clear V2
    go_wp2_with fail
    go_ret2
    exact ⟨rfl, rfl⟩
  rw [h2] at V2
  rw [area_ok]
  cases h3 : num 1 15 a
  · rw [h3] at V3
    cases h4 : (a == ([] : Str))
    · rw [Bool.true_and, Bool.true_and, Bool.or_false, if_neg (by simp), resN_none]
      unfold str at O1 V2 V3 ⊢
      go_enter Try.func15, Try.ntmps15
      go_wp2_with fail
      refine (O1 _).mono ?_
      rintro e w' ⟨rfl, rfl⟩
      clear O1
      go_wp2_with fail
      refine (V2 _).mono ?_
      rintro e w' ⟨rfl, rfl⟩
      clear V2
      go_wp2_with fail
      refine (V3 _).mono ?_
      rintro e w' ⟨rfl, rfl⟩
      clear V3
      go_wp2_with fail
      go_ret2
      exact ⟨rfl, rfl⟩
    · rw [Bool.true_and, Bool.true_and, Bool.or_true, if_pos rfl]
      have la : a.length ≤ 15 := by
        first
          | exact num_len h3
          | (have := eq_of_beq h4; rw [this]; simp)
      have lc := num_len h2
      have ld := num_len h1
      have R1 := fun w => starts_any d [48] w (by simp only [maxLen]; omega) (by simp [maxLen])
      have R2 := fun w => starts_any d [48, 48] w (by simp only [maxLen]; omega) (by simp [maxLen])
      have e1 := str_add c a
      have e2 := str_add (c ++ a) d
      unfold reached
      by_cases p2 : pre [48, 48] d = true
      · rw [if_pos p2]
        have p1 : pre [48] d = true := by
          obtain ⟨r, rfl⟩ := pre_cons p2
          exact pre_one _
        rw [p1] at R1
        rw [p2] at R2
        have hd2 : 2 ≤ d.length := (pre_iff.1 p2).length_le
        have V4 := fun w => rvalid_any (d.drop 2) w (by rw [List.length_drop]; simp only [maxLen]; omega)
        have e3 : True := trivial
        have c1 := str_cut d 1 d.length
        have c2 := str_cut d 2 d.length
        rw [List.take_of_length_le (Nat.le_refl _)] at c1 c2
        have e4 := str_add c (d.drop 1)
        have hl4 : (d.drop 1).length ≤ 20 := by rw [List.length_drop]; omega
        obtain ⟨n2, hn2⟩ : ∃ n2, d.drop 2 = n2 := ⟨_, rfl⟩
        obtain ⟨n1, hn1⟩ : ∃ n1, d.drop 1 = n1 := ⟨_, rfl⟩
        rw [hn2] at V4 c2 ⊢
        rw [hn1] at c1 e4 hl4
        clear hn1 hn2 p1 p2
        cases hv : num 1 15 n2
        · rw [hv] at V4
          rw [if_neg (by simp), resN_none]
          clear e3 hv
          unfold str at O1 V2 V3 R1 R2 V4 ⊢
          go_enter Try.func15, Try.ntmps15
          go_wp2_with fail
          refine (O1 _).mono ?_
          rintro e w' ⟨rfl, rfl⟩
          clear O1
          go_wp2_with fail
          refine (V2 _).mono ?_
          rintro e w' ⟨rfl, rfl⟩
          clear V2
          go_wp2_with fail
          refine (V3 _).mono ?_
          rintro e w' ⟨rfl, rfl⟩
          clear V3
          go_wp2_with fail
          refine (R1 _).mono ?_
          rintro e w' ⟨rfl, rfl⟩
          clear R1
          go_wp2_with fail
          refine (R2 _).mono ?_
          rintro e w' ⟨rfl, rfl⟩
          clear R2
          go_wp2_with fail
          refine (V4 _).mono ?_
          rintro e w' ⟨rfl, rfl⟩
          clear V4
          go_wp2_with fail
          go_ret2
          exact ⟨rfl, rfl⟩
        · rw [hv] at V4
          rw [if_pos rfl, resN_some]
          clear e3 hv
          unfold str at O1 V2 V3 R1 R2 V4 ⊢
          go_enter Try.func15, Try.ntmps15
          go_wp2_with fail
          refine (O1 _).mono ?_
          rintro e w' ⟨rfl, rfl⟩
          clear O1
          go_wp2_with fail
          refine (V2 _).mono ?_
          rintro e w' ⟨rfl, rfl⟩
          clear V2
          go_wp2_with fail
          refine (V3 _).mono ?_
          rintro e w' ⟨rfl, rfl⟩
          clear V3
          go_wp2_with fail
          refine (R1 _).mono ?_
          rintro e w' ⟨rfl, rfl⟩
          clear R1
          go_wp2_with fail
          refine (R2 _).mono ?_
          rintro e w' ⟨rfl, rfl⟩
          clear R2
          go_wp2_with fail
          refine (V4 _).mono ?_
          rintro e w' ⟨rfl, rfl⟩
          clear V4
          go_wp2_with fail
          go_ret2
          exact ⟨rfl, rfl⟩
      · have p2' : pre [48, 48] d = false := by simpa using p2
        rw [if_neg p2]
        rw [p2'] at R2
        by_cases p1 : pre [48] d = true
        · rw [if_pos p1]
          rw [p1] at R1
          have hd1 : 1 ≤ d.length := (pre_iff.1 p1).length_le
          have V4 := fun w => rvalid_any (c ++ d.drop 1) w (by rw [List.length_append, List.length_drop]; simp only [maxLen]; omega)
          have c1 := str_cut d 1 d.length
          rw [List.take_of_length_le (Nat.le_refl _)] at c1
          have e3 : True := trivial
          have e4 := str_add c (d.drop 1)
          have hl4 : (d.drop 1).length ≤ 20 := by rw [List.length_drop]; omega
          obtain ⟨n1, hn1⟩ : ∃ n1, d.drop 1 = n1 := ⟨_, rfl⟩
          rw [hn1] at c1 e4 hl4 V4 ⊢
          clear hn1 p1 p2
          cases hv : num 1 15 (c ++ n1)
          · rw [hv] at V4
            rw [if_neg (by simp), resN_none]
            clear e3 hv
            unfold str at O1 V2 V3 R1 R2 V4 ⊢
            go_enter Try.func15, Try.ntmps15
            go_wp2_with fail
            refine (O1 _).mono ?_
            rintro e w' ⟨rfl, rfl⟩
            clear O1
            go_wp2_with fail
            refine (V2 _).mono ?_
            rintro e w' ⟨rfl, rfl⟩
            clear V2
            go_wp2_with fail
            refine (V3 _).mono ?_
            rintro e w' ⟨rfl, rfl⟩
            clear V3
            go_wp2_with fail
            refine (R1 _).mono ?_
            rintro e w' ⟨rfl, rfl⟩
            clear R1
            go_wp2_with fail
            refine (R2 _).mono ?_
            rintro e w' ⟨rfl, rfl⟩
            clear R2
            go_wp2_with fail
            refine (V4 _).mono ?_
            rintro e w' ⟨rfl, rfl⟩
            clear V4
            go_wp2_with fail
            go_ret2
            exact ⟨rfl, rfl⟩
          · rw [hv] at V4
            rw [if_pos rfl, resN_some]
            clear e3 hv
            unfold str at O1 V2 V3 R1 R2 V4 ⊢
            go_enter Try.func15, Try.ntmps15
            go_wp2_with fail
            refine (O1 _).mono ?_
            rintro e w' ⟨rfl, rfl⟩
            clear O1
            go_wp2_with fail
            refine (V2 _).mono ?_
            rintro e w' ⟨rfl, rfl⟩
            clear V2
            go_wp2_with fail
            refine (V3 _).mono ?_
            rintro e w' ⟨rfl, rfl⟩
            clear V3
            go_wp2_with fail
            refine (R1 _).mono ?_
            rintro e w' ⟨rfl, rfl⟩
            clear R1
            go_wp2_with fail
            refine (R2 _).mono ?_
            rintro e w' ⟨rfl, rfl⟩
            clear R2
            go_wp2_with fail
            refine (V4 _).mono ?_
            rintro e w' ⟨rfl, rfl⟩
            clear V4
            go_wp2_with fail
            go_ret2
            exact ⟨rfl, rfl⟩
        · have p1' : pre [48] d = false := by simpa using p1
          rw [if_neg p1, List.append_assoc]
          rw [p1'] at R1
          have V4 := fun w => rvalid_any (c ++ (a ++ d)) w (by simp only [List.length_append, maxLen]; omega)
          have e3 : True := trivial
          clear p1 p2
          cases hv : num 1 15 (c ++ (a ++ d))
          · rw [hv] at V4
            rw [if_neg (by simp), resN_none]
            clear e3 hv
            unfold str at O1 V2 V3 R1 R2 V4 ⊢
            go_enter Try.func15, Try.ntmps15
            go_wp2_with fail
            refine (O1 _).mono ?_
            rintro e w' ⟨rfl, rfl⟩
            clear O1
            go_wp2_with fail
            refine (V2 _).mono ?_
            rintro e w' ⟨rfl, rfl⟩
            clear V2
            go_wp2_with fail
            refine (V3 _).mono ?_
            rintro e w' ⟨rfl, rfl⟩
            clear V3
            go_wp2_with fail
            refine (R1 _).mono ?_
            rintro e w' ⟨rfl, rfl⟩
            clear R1
            go_wp2_with fail
            refine (R2 _).mono ?_
            rintro e w' ⟨rfl, rfl⟩
            clear R2
            go_wp2_with fail
            refine (V4 _).mono ?_
            rintro e w' ⟨rfl, rfl⟩
            clear V4
            go_wp2_with fail
            go_ret2
            exact ⟨rfl, rfl⟩
          · rw [hv] at V4
            rw [if_pos rfl, resN_some]
            clear e3 hv
            unfold str at O1 V2 V3 R1 R2 V4 ⊢
            go_enter Try.func15, Try.ntmps15
            go_wp2_with fail
            refine (O1 _).mono ?_
            rintro e w' ⟨rfl, rfl⟩
            clear O1
            go_wp2_with fail
            refine (V2 _).mono ?_
            rintro e w' ⟨rfl, rfl⟩
            clear V2
            go_wp2_with fail
            refine (V3 _).mono ?_
            rintro e w' ⟨rfl, rfl⟩
            clear V3
            go_wp2_with fail
            refine (R1 _).mono ?_
            rintro e w' ⟨rfl, rfl⟩
            clear R1
            go_wp2_with fail
            refine (R2 _).mono ?_
            rintro e w' ⟨rfl, rfl⟩
            clear R2
            go_wp2_with fail
            refine (V4 _).mono ?_
            rintro e w' ⟨rfl, rfl⟩
            clear V4
            go_wp2_with fail
            go_ret2
            exact ⟨rfl, rfl⟩
  · rw [h3] at V3
    rw [Bool.true_and, Bool.true_and, Bool.true_or, if_pos rfl]
    have la : a.length ≤ 15 := by
      first
        | exact num_len h3
        | (have := eq_of_beq h4; rw [this]; simp)
    have lc := num_len h2
    have ld := num_len h1
    have R1 := fun w => starts_any d [48] w (by simp only [maxLen]; omega) (by simp [maxLen])
    have R2 := fun w => starts_any d [48, 48] w (by simp only [maxLen]; omega) (by simp [maxLen])
    have e1 := str_add c a
    have e2 := str_add (c ++ a) d
    unfold reached
    by_cases p2 : pre [48, 48] d = true
    · rw [if_pos p2]
      have p1 : pre [48] d = true := by
        obtain ⟨r, rfl⟩ := pre_cons p2
        exact pre_one _
      rw [p1] at R1
      rw [p2] at R2
      have hd2 : 2 ≤ d.length := (pre_iff.1 p2).length_le
      have V4 := fun w => rvalid_any (d.drop 2) w (by rw [List.length_drop]; simp only [maxLen]; omega)
      have e3 : True := trivial
      have c1 := str_cut d 1 d.length
      have c2 := str_cut d 2 d.length
      rw [List.take_of_length_le (Nat.le_refl _)] at c1 c2
      have e4 := str_add c (d.drop 1)
      have hl4 : (d.drop 1).length ≤ 20 := by rw [List.length_drop]; omega
      obtain ⟨n2, hn2⟩ : ∃ n2, d.drop 2 = n2 := ⟨_, rfl⟩
      obtain ⟨n1, hn1⟩ : ∃ n1, d.drop 1 = n1 := ⟨_, rfl⟩
      rw [hn2] at V4 c2 ⊢
      rw [hn1] at c1 e4 hl4
      clear hn1 hn2 p1 p2
      cases hv : num 1 15 n2
      · rw [hv] at V4
        rw [if_neg (by simp), resN_none]
        clear e3 hv
        unfold str at O1 V2 V3 R1 R2 V4 ⊢
        go_enter Try.func15, Try.ntmps15
        go_wp2_with fail
        refine (O1 _).mono ?_
        rintro e w' ⟨rfl, rfl⟩
        clear O1
        go_wp2_with fail
        refine (V2 _).mono ?_
        rintro e w' ⟨rfl, rfl⟩
        clear V2
        go_wp2_with fail
        refine (V3 _).mono ?_
        rintro e w' ⟨rfl, rfl⟩
        clear V3
        go_wp2_with fail
        refine (R1 _).mono ?_
        rintro e w' ⟨rfl, rfl⟩
        clear R1
        go_wp2_with fail
        refine (R2 _).mono ?_
        rintro e w' ⟨rfl, rfl⟩
        clear R2
        go_wp2_with fail
        refine (V4 _).mono ?_
        rintro e w' ⟨rfl, rfl⟩
        clear V4
        go_wp2_with fail
        go_ret2
        exact ⟨rfl, rfl⟩
      · rw [hv] at V4
        rw [if_pos rfl, resN_some]
        clear e3 hv
        unfold str at O1 V2 V3 R1 R2 V4 ⊢
        go_enter Try.func15, Try.ntmps15
        go_wp2_with fail
        refine (O1 _).mono ?_
        rintro e w' ⟨rfl, rfl⟩
        clear O1
        go_wp2_with fail
        refine (V2 _).mono ?_
        rintro e w' ⟨rfl, rfl⟩
        clear V2
        go_wp2_with fail
        refine (V3 _).mono ?_
        rintro e w' ⟨rfl, rfl⟩
        clear V3
        go_wp2_with fail
        refine (R1 _).mono ?_
        rintro e w' ⟨rfl, rfl⟩
        clear R1
        go_wp2_with fail
        refine (R2 _).mono ?_
        rintro e w' ⟨rfl, rfl⟩
        clear R2
        go_wp2_with fail
        refine (V4 _).mono ?_
        rintro e w' ⟨rfl, rfl⟩
        clear V4
        go_wp2_with fail
        go_ret2
        exact ⟨rfl, rfl⟩
    · have p2' : pre [48, 48] d = false := by simpa using p2
      rw [if_neg p2]
      rw [p2'] at R2
      by_cases p1 : pre [48] d = true
      · rw [if_pos p1]
        rw [p1] at R1
        have hd1 : 1 ≤ d.length := (pre_iff.1 p1).length_le
        have V4 := fun w => rvalid_any (c ++ d.drop 1) w (by rw [List.length_append, List.length_drop]; simp only [maxLen]; omega)
        have c1 := str_cut d 1 d.length
        rw [List.take_of_length_le (Nat.le_refl _)] at c1
        have e3 : True := trivial
        have e4 := str_add c (d.drop 1)
        have hl4 : (d.drop 1).length ≤ 20 := by rw [List.length_drop]; omega
        obtain ⟨n1, hn1⟩ : ∃ n1, d.drop 1 = n1 := ⟨_, rfl⟩
        rw [hn1] at c1 e4 hl4 V4 ⊢
        clear hn1 p1 p2
        cases hv : num 1 15 (c ++ n1)
        · rw [hv] at V4
          rw [if_neg (by simp), resN_none]
          clear e3 hv
          unfold str at O1 V2 V3 R1 R2 V4 ⊢
          go_enter Try.func15, Try.ntmps15
          go_wp2_with fail
          refine (O1 _).mono ?_
          rintro e w' ⟨rfl, rfl⟩
          clear O1
          go_wp2_with fail
          refine (V2 _).mono ?_
          rintro e w' ⟨rfl, rfl⟩
          clear V2
          go_wp2_with fail
          refine (V3 _).mono ?_
          rintro e w' ⟨rfl, rfl⟩
          clear V3
          go_wp2_with fail
          refine (R1 _).mono ?_
          rintro e w' ⟨rfl, rfl⟩
          clear R1
          go_wp2_with fail
          refine (R2 _).mono ?_
          rintro e w' ⟨rfl, rfl⟩
          clear R2
          go_wp2_with fail
          refine (V4 _).mono ?_
          rintro e w' ⟨rfl, rfl⟩
          clear V4
          go_wp2_with fail
          go_ret2
          exact ⟨rfl, rfl⟩
        · rw [hv] at V4
          rw [if_pos rfl, resN_some]
          clear e3 hv
          unfold str at O1 V2 V3 R1 R2 V4 ⊢
          go_enter Try.func15, Try.ntmps15
          go_wp2_with fail
          refine (O1 _).mono ?_
          rintro e w' ⟨rfl, rfl⟩
          clear O1
          go_wp2_with fail
          refine (V2 _).mono ?_
          rintro e w' ⟨rfl, rfl⟩
          clear V2
          go_wp2_with fail
          refine (V3 _).mono ?_
          rintro e w' ⟨rfl, rfl⟩
          clear V3
          go_wp2_with fail
          refine (R1 _).mono ?_
          rintro e w' ⟨rfl, rfl⟩
          clear R1
          go_wp2_with fail
          refine (R2 _).mono ?_
          rintro e w' ⟨rfl, rfl⟩
          clear R2
          go_wp2_with fail
          refine (V4 _).mono ?_
          rintro e w' ⟨rfl, rfl⟩
          clear V4
          go_wp2_with fail
          go_ret2
          exact ⟨rfl, rfl⟩
      · have p1' : pre [48] d = false := by simpa using p1
        rw [if_neg p1, List.append_assoc]
        rw [p1'] at R1
        have V4 := fun w => rvalid_any (c ++ (a ++ d)) w (by simp only [List.length_append, maxLen]; omega)
        have e3 : True := trivial
        clear p1 p2
        cases hv : num 1 15 (c ++ (a ++ d))
        · rw [hv] at V4
          rw [if_neg (by simp), resN_none]
          clear e3 hv
          unfold str at O1 V2 V3 R1 R2 V4 ⊢
          go_enter Try.func15, Try.ntmps15
          go_wp2_with fail
          refine (O1 _).mono ?_
          rintro e w' ⟨rfl, rfl⟩
          clear O1
          go_wp2_with fail
          refine (V2 _).mono ?_
          rintro e w' ⟨rfl, rfl⟩
          clear V2
          go_wp2_with fail
          refine (V3 _).mono ?_
          rintro e w' ⟨rfl, rfl⟩
          clear V3
          go_wp2_with fail
          refine (R1 _).mono ?_
          rintro e w' ⟨rfl, rfl⟩
          clear R1
          go_wp2_with fail
          refine (R2 _).mono ?_
          rintro e w' ⟨rfl, rfl⟩
          clear R2
          go_wp2_with fail
          refine (V4 _).mono ?_
          rintro e w' ⟨rfl, rfl⟩
          clear V4
          go_wp2_with fail
          go_ret2
          exact ⟨rfl, rfl⟩
        · rw [hv] at V4
          rw [if_pos rfl, resN_some]
          clear e3 hv
          unfold str at O1 V2 V3 R1 R2 V4 ⊢
          go_enter Try.func15, Try.ntmps15
          go_wp2_with fail
          refine (O1 _).mono ?_
          rintro e w' ⟨rfl, rfl⟩
          clear O1
          go_wp2_with fail
          refine (V2 _).mono ?_
          rintro e w' ⟨rfl, rfl⟩
          clear V2
          go_wp2_with fail
          refine (V3 _).mono ?_
          rintro e w' ⟨rfl, rfl⟩
          clear V3
          go_wp2_with fail
          refine (R1 _).mono ?_
          rintro e w' ⟨rfl, rfl⟩
          clear R1
          go_wp2_with fail
          refine (R2 _).mono ?_
          rintro e w' ⟨rfl, rfl⟩
          clear R2
          go_wp2_with fail
          refine (V4 _).mono ?_
          rintro e w' ⟨rfl, rfl⟩
          clear V4
          go_wp2_with fail
          go_ret2
          exact ⟨rfl, rfl⟩

end Go.Proofs.Ytblgcefaikoejaa
