/-
  The walk of the law VarintZigzag.
-/
import Derived.Test.YtgllhelpfjinbaaVarL0
namespace Go.Proofs.Ytgllhelpfjinbaa
open Go.RowKit
set_option linter.unusedVariables false
set_option linter.unusedSimpArgs false

theorem leb_mono (a : Nat) : ∀ b, a ≤ b → (leb a).length ≤ (leb b).length := by
  induction a using Nat.strongRecOn with
  | _ a ih =>
    intro b hab
    by_cases ha : a < 128
    · rw [leb_small ha]; have := leb_pos b; simp; omega
    · rw [leb_big ha, leb_big (show ¬ b < 128 by omega)]
      have := ih (a / 128) (by omega) (b / 128) (Nat.div_le_div_right hab)
      simpa using this

theorem zz_flip (v : Int) (h : 0 ≤ v) : zz (-v - 1) = zz v + 1 ∧ zz v % 2 = 0 := by
  unfold zz; rw [if_pos h, if_neg (by omega)]; omega

theorem xor_even (n : Nat) (h : n % 2 = 0) : n ^^^ (n + 1) = 1 := by
  obtain ⟨k, rfl⟩ : ∃ k, n = 2 * k := ⟨n / 2, by omega⟩
  apply Nat.eq_of_testBit_eq
  intro j
  rw [Nat.testBit_xor]
  cases j with
  | zero => simp [Nat.testBit_zero]
  | succ j =>
    rw [Nat.testBit_succ, Nat.testBit_succ, Nat.testBit_succ, show 2 * k / 2 = k by omega, show (2 * k + 1) / 2 = k by omega]
    simp

/-- What the two encodings say of each other. -/
theorem zz_pair (v : Int) (h1 : -9223372036854775808 ≤ v) (h2 : v ≤ 9223372036854775807) : bits BinOp.xor IntKind.u64 (zz v : Int) (zz (-v - 1) : Int) = 1 ∧ ((zz v : Int) % 2 == 0) = decide (0 ≤ v) := by
  have l1 := zz_lt h1 h2
  have l2 := zz_lt (v := -v - 1) (by omega) (by omega)
  unfold M64 at l1 l2
  rw [u64_xor_nat _ _ (by omega) (by omega)]
  by_cases h : 0 ≤ v
  · obtain ⟨e1, e2⟩ := zz_flip v h
    refine ⟨by rw [e1, xor_even _ e2]; rfl, ?_⟩
    rw [decide_eq_true h]; simp; omega
  · obtain ⟨e1, e2⟩ := zz_flip (-v - 1) (by omega)
    rw [show -(-v - 1) - 1 = v by omega] at e1
    refine ⟨by rw [e1, Nat.xor_comm, xor_even _ e2]; rfl, ?_⟩
    rw [decide_eq_false h]; simp; omega

set_option maxRecDepth 100000 in
set_option maxHeartbeats 3200000 in
theorem varintZigzag_walk (v u : Int) (w : World) (hv : -9223372036854775808 ≤ v ∧ v ≤ 9223372036854775807) (hu : -9223372036854775808 ≤ u ∧ u ≤ 9223372036854775807) :
    Calls Try.prog 9 #[.int .i64 v, .int .i64 u] w fun e w' => e = .returned (.bool true) ∧ Below w.heap.size w w' := by
  have hneg : wrap64 (wrap64 (-v) - 1) = -v - 1 := by unfold wrap64; omega
  have l1 := zz_lt hv.1 hv.2
  have l2 := zz_lt (v := -v - 1) (by omega) (by omega)
  have b0 : (zz v : Int) ≤ 18446744073709551615 := by unfold M64 at l1; omega
  obtain ⟨hx, hp⟩ := zz_pair v hv.1 hv.2
  have q1 := uS_leb [] [] (zz v) l1
  have q2 := uS_leb [] [] (zz (-v - 1)) l2
  simp only [List.nil_append, List.append_nil, List.length_nil, Nat.zero_add] at q1 q2
  have Q1 := Lib.hid q1
  have Q2 := Lib.hid q2
  have hmono : zz v ≤ zz u → ((leb (zz v)).length : Int) ≤ ((leb (zz u)).length : Int) := fun h => by have := leb_mono _ _ h; omega
  have HM := Lib.hid hmono
  clear q1 q2 hmono
  have t1 := leb_ten l1
  have t2 := leb_ten l2
  have hcase : (0 ≤ v ∧ 0 ≤ u ∧ v ≤ u ∧ zz v ≤ zz u) ∨ (0 ≤ v ∧ 0 ≤ u ∧ ¬ v ≤ u) ∨ (0 ≤ v ∧ u < 0) ∨ (v < 0 ∧ 0 ≤ u) ∨ (v < 0 ∧ u < 0 ∧ u ≤ v ∧ zz v ≤ zz u) ∨ (v < 0 ∧ u < 0 ∧ ¬ u ≤ v) := by
    unfold zz; split <;> split <;> omega
  rcases hcase with ⟨g1, g2, g3, g4⟩ | ⟨g1, g2, g3⟩ | ⟨g1, g2⟩ | ⟨g1, g2⟩ | ⟨g1, g2, g3, g4⟩ | ⟨g1, g2, g3⟩
  all_goals
    first
      | rw [decide_eq_true g1] at hp
      | rw [decide_eq_false (show ¬ 0 ≤ v by omega)] at hp
    first
      | have hle := HM.out g4
      | skip
    go_enter Try.func9, Try.ntmps9
    go_wp2_with fail
    refine (sane_any _).mono ?_
    rintro e w1 ⟨rfl, b1⟩
    go_wp2_with fail
    refine (appendInt_any _ [] v _ (Bs.nil_ _ _) hv.1 hv.2 (by simp)).mono ?_
    rintro e w2 ⟨v2, rfl, o2, b2⟩
    rw [List.nil_append] at o2
    go_wp2_with fail
    refine (appendInt_any _ [] _ _ (Bs.nil_ _ _) (by omega) (by omega) (by simp)).mono ?_
    rintro e w3 ⟨v3, rfl, o3, b3⟩
    rw [List.nil_append] at o3
    go_wp2_with fail
    refine (uint_any v2 (leb (zz v)) 0 _ _ (o2.bs.past b3) (by omega)).mono ?_
    rintro e w' ⟨rfl, rfl⟩
    rw [show (0 : Int) = ((0 : Nat) : Int) from rfl, Q1.out]
    unfold tri
    go_wp2_with fail
    refine (uint_any v3 (leb (zz (-v - 1))) 0 _ _ o3.bs (by omega)).mono ?_
    rintro e w' ⟨rfl, rfl⟩
    rw [show (0 : Int) = ((0 : Nat) : Int) from rfl, Q2.out]
    unfold tri
    obtain ⟨A2, c2, hv2⟩ := o2.bs.form
    rw [hv2]
    clear hv2
    go_wp2_with fail
    refine (appendInt_any _ [] u _ (Bs.nil_ _ _) hu.1 hu.2 (by simp)).mono ?_
    rintro e w4 ⟨v4, rfl, o4, b4⟩
    rw [List.nil_append] at o4
    obtain ⟨A4, c4, hv4⟩ := o4.bs.form
    rw [hv4]
    clear hv4
    go_wp2_with fail
    go_ret
    have hb2 := b1.trans (b2.mono b1.size)
    have hb3 := hb2.trans (b3.mono hb2.size)
    exact ⟨rfl, hb3.trans (b4.mono hb3.size)⟩

end Go.Proofs.Ytgllhelpfjinbaa
