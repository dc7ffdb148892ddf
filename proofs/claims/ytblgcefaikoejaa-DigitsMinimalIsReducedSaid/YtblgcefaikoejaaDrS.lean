/-
  Helpers of the laws: short, Few, fifteen.
-/
import Derived.Test.YtblgcefaikoejaaDgO
namespace Go.Proofs.Ytblgcefaikoejaa
open Go.RowKit Dg
set_option linter.unusedVariables false
set_option linter.unusedSimpArgs false

theorem short_yes (a b c : Str) (w : World) (h : a.length ≤ 200 ∧ b.length ≤ 200 ∧ c.length ≤ 200) :
    Calls Try.prog 13 #[str a, str b, str c] w fun e w' => e = .returned (.bool true) ∧ w' = w := by
  refine (short_any a b c w (by simp only [maxLen]; omega) (by simp only [maxLen]; omega) (by simp only [maxLen]; omega)).mono ?_
  rintro e w' ⟨rfl, rfl⟩
  exact ⟨ret_bool (by simp [h.1, h.2.1, h.2.2]), rfl⟩
theorem short_no (a b c : Str) (w : World) (ha : a.length ≤ maxLen) (hb : b.length ≤ maxLen) (hc : c.length ≤ maxLen) (h : ¬ (a.length ≤ 200 ∧ b.length ≤ 200 ∧ c.length ≤ 200)) :
    Calls Try.prog 13 #[str a, str b, str c] w fun e w' => e = .returned (.bool false) ∧ w' = w := by
  refine (short_any a b c w ha hb hc).mono ?_
  rintro e w' ⟨rfl, rfl⟩
  refine ⟨ret_bool ?_, rfl⟩
  rw [Bool.eq_false_iff]
  intro h2
  simp only [Bool.and_eq_true, decide_eq_true_eq] at h2
  exact h h2

set_option maxRecDepth 100000 in
set_option maxHeartbeats 1000000 in
theorem few_any (v : Value) (l : List Str) (w : World) (hv : Sl w w.heap.size maxLen v l) :
    Calls Try.prog 20 #[v] w fun e w' => e = .returned (.bool (few l)) ∧ w' = w := by
  obtain ⟨A, cap, rfl⟩ := hv.form
  have hlm : l.length ≤ maxLen := by
    obtain ⟨⟨A', cap', h, h1, h2, _⟩, _⟩ := hv
    injection h with _ e1 e2
    omega
  obtain ⟨q, hq⟩ : ∃ q, few l = q := ⟨_, rfl⟩
  rw [hq]
  have HQ := Lib.hid hq
  clear hq
  have hmx : maxLen = 9223372036854775807 ∨ maxLen ≤ 9223372036854775807 := Or.inr (by simp [maxLen])
  go_enter Try.func20, Try.ntmps20
  go_wp2_with fail
  go_loopw [3] (fun vi wr => ∃ i : Nat, vi = .int .i64 (i : Int) ∧ i ≤ l.length ∧ i ≤ 60 ∧ wr = w ∧ (∀ x ∈ l.take i, x.length ≤ 40))
    (fun vi wr => ixn l.length vi)
  case atStart => exact ⟨0, rfl, Nat.zero_le _, Nat.zero_le _, rfl, fun x hx => by simp at hx⟩
  case round =>
    obtain ⟨i, rfl, hi, hi60, rfl, ht⟩ := hrel
    by_cases hlt : i < l.length
    · by_cases h60 : i < 60
      · obtain ⟨x, hx, hxs, hxl⟩ := hv.at_ hlt
        have HX := Lib.hid hx
        have HT := Lib.hid ht
        clear hx ht
        by_cases h40 : x.length ≤ 40
        · have HN : Hid (∀ y ∈ l.take (i + 1), y.length ≤ 40) := Lib.hid fun y hy => by
            rw [List.take_add_one, HX.out] at hy
            rcases List.mem_append.1 hy with hy | hy
            · exact HT.out y hy
            · simp at hy; subst hy; exact h40
          go_wp2_with (refine wp_atg 28 9 Try.underlying28 size_strM (.tmp 14) (.tmp 15) rfl rfl rfl hv.1 .i64 _ i (str x) rfl rfl hxs ?_; intro ad had hcad; unfold str at hcad; go_frame)
          go_roundw
          case measure => show l.length - ((i : Int) + 1).toNat < l.length - ((i : Int)).toNat; omega
          case rel => exact ⟨i + 1, by simp, by omega, by omega, by first | trivial | rfl, HN.out⟩
        · have HN : Hid (few l = false) := Lib.hid (by
            rw [Bool.eq_false_iff]
            intro h
            exact h40 ((few_iff.1 h).2 x (List.mem_of_getElem? HX.out)))
          go_wp2_with (refine wp_atg 28 9 Try.underlying28 size_strM (.tmp 14) (.tmp 15) rfl rfl rfl hv.1 .i64 _ i (str x) rfl rfl hxs ?_; intro ad had hcad; unfold str at hcad; go_frame)
          go_ret
          exact ⟨ret_bool (HN.out.symm.trans HQ.out), rfl⟩
      · have HN : Hid (few l = false) := Lib.hid (by
          rw [Bool.eq_false_iff]
          intro h
          have := (few_iff.1 h).1
          omega)
        clear ht
        have h61 : ¬ l.length ≤ 60 := by omega
        go_wp2_with fail
        go_ret
        exact ⟨ret_bool (by rw [← HQ.out, HN.out]; simp; omega), rfl⟩
    · have HN : Hid (few l = decide (l.length ≤ 60)) := Lib.hid (by
        rw [List.take_of_length_le (by omega)] at ht
        rw [decide_eq_true (by omega)]
        exact few_iff.2 ⟨by omega, ht⟩)
      clear ht
      have h60 : l.length ≤ 60 := by omega
      go_wp2_with fail
      go_ret
      refine ⟨ret_bool ?_, rfl⟩
      rw [← HQ.out, HN.out]
      rw [Bool.eq_iff_iff]
      simp
      omega

end Go.Proofs.Ytblgcefaikoejaa
