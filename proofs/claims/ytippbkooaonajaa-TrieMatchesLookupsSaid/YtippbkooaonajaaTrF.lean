/-
  The reference's digit test.
-/
import Derived.Test.YtippbkooaonajaaTrE
namespace Go.Proofs.Ytippbkooaonajaa
open Go.RowKit Dg Tr
set_option linter.unusedVariables false
set_option linter.unusedSimpArgs false

theorem all_snoc {s : Str} {i : Nat} {x : UInt8} (hx : s[i]? = some x) (h : ∀ b ∈ s.take i, isD b = true) (hd : isD x = true) : ∀ b ∈ s.take (i + 1), isD b = true := by
  intro b hb
  rw [List.take_add_one, hx] at hb
  simp only [Option.toList, List.mem_append, List.mem_singleton] at hb
  rcases hb with hb | rfl
  · exact h b hb
  · exact hd

set_option maxRecDepth 100000 in
set_option maxHeartbeats 2000000 in
theorem rdig_any (s : Str) (w : World) (hs : s.length ≤ maxLen) :
    Calls Try.prog 30 #[str s] w fun e w' => e = .returned (.bool (s.all isD)) ∧ Below w.heap.size w w' := by
  have hz := str_size s
  have hml : maxLen = 9223372036854775807 := rfl
  obtain ⟨r, hr⟩ : ∃ r, s.all isD = r := ⟨_, rfl⟩
  have HR := Lib.hid hr
  rw [hr]
  clear hr
  unfold str
  go_enter Try.func30, Try.ntmps30
  go_wp2_with fail
  go_loopw [3] (fun vi wr => ∃ i : Nat, vi = .int .i64 (i : Int) ∧ i ≤ s.length ∧ (∀ b ∈ s.take i, isD b = true) ∧ Below w.heap.size w wr) (fun vi wr => ixn s.length vi)
  case atStart => exact ⟨0, rfl, Nat.zero_le _, fun x hx => by simp at hx, Below.refl _ _⟩
  case round =>
    obtain ⟨i, rfl, hi', hd, hbw⟩ := hrel
    have HD := Lib.hid hd
    clear hd
    by_cases hlt : i < s.length
    · obtain ⟨x, hx⟩ : ∃ x, s[i]? = some x := ⟨s[i], List.getElem?_eq_getElem hlt⟩
      have hga : (⟨s.toArray⟩ : ByteArray)[i]'(by rw [str_size]; exact hlt) = x := by
        obtain ⟨h, rfl⟩ := List.getElem?_eq_some_iff.1 hx
        simp [ByteArray.getElem_eq_getElem_data]
      have HX := Lib.hid hx
      have hno : (¬ isD x = true) → r = false := fun hn => by
        rw [← HR.out, Bool.eq_false_iff]
        intro hall
        rw [List.all_eq_true] at hall
        exact hn (hall x (List.mem_of_getElem? hx))
      have HNO := Lib.hid hno
      clear hx hno
      by_cases h48 : x.toNat < 48
      · have hrf := HNO.out (by rw [isD_iff]; omega)
        subst hrf
        go_wp2_with fail
        go_ret
        exact ⟨rfl, hbw⟩
      · by_cases h57 : 57 < x.toNat
        · have hrf := HNO.out (by rw [isD_iff]; omega)
          subst hrf
          go_wp2_with fail
          go_ret
          exact ⟨rfl, hbw⟩
        · go_wp2_with fail
          go_roundw
          case measure => show s.length - ((i : Int) + 1).toNat < s.length - ((i : Int)).toNat; omega
          case rel => exact ⟨i + 1, by simp, by omega, all_snoc HX.out HD.out (by rw [isD_iff]; omega), hbw⟩
    · obtain rfl : i = s.length := by omega
      have hrt : r = true := by
        rw [← HR.out, List.all_eq_true]
        have := HD.out
        rwa [List.take_length] at this
      subst hrt
      go_wp2_with fail
      go_ret
      exact ⟨rfl, hbw⟩

theorem rprefix_any (s : Str) (w : World) (hs : s.length ≤ 1000) :
    Calls Try.prog 36 #[str s] w fun e w' => e = .returned (.bool (decide (s.length ≤ 15) && s.all isD)) ∧ Below w.heap.size w w' := by
  have hC := rdig_any s w (by simp only [maxLen]; omega)
  obtain ⟨r, hr⟩ : ∃ r, s.all isD = r := ⟨_, rfl⟩
  rw [hr] at hC ⊢
  have hz := str_size s
  clear hr
  unfold str at hC ⊢
  go_enter Try.func36, Try.ntmps36
  by_cases h15 : s.length ≤ 15
  · go_wp2_with fail
    refine hC.mono ?_
    rintro e w1 ⟨rfl, b1⟩
    go_wp2_with fail
    go_ret
    exact ⟨by simp [h15], b1⟩
  · go_wp2_with fail
    go_ret
    exact ⟨by simp [h15], Below.refl _ _⟩
end Go.Proofs.Ytippbkooaonajaa
