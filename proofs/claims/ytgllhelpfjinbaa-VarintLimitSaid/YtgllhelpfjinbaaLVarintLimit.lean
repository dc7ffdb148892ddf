/-
  The walk of the law VarintLimit.
-/
import Derived.Test.YtgllhelpfjinbaaVarL0
namespace Go.Proofs.Ytgllhelpfjinbaa
open Go.RowKit
set_option linter.unusedVariables false
set_option linter.unusedSimpArgs false

theorem i64_and_low (c : Int) (h1 : -9223372036854775808 ≤ c) (h2 : c ≤ 9223372036854775807) : bits BinOp.and IntKind.i64 c 65535 = c % 65536 := by
  show IntKind.i64.wrap ((BitVec.ofInt 64 c &&& BitVec.ofInt 64 65535).toNat : Int) = _
  have e1 : (BitVec.ofInt 64 65535).toNat = 2 ^ 16 - 1 := by decide
  rw [BitVec.toNat_and, e1, Nat.and_two_pow_sub_one_eq_mod, IntKind.wrap_i64]
  have e2 : (BitVec.ofInt 64 c).toNat = (c % 18446744073709551616).toNat := by rw [BitVec.toNat_ofInt]; rfl
  rw [e2]
  omega

/-- The encoding of a byte string, read back: by limit and by how much of it is there. -/
theorem bS_whole (p : List UInt8) (m : Int) (hp : p.length ≤ 1000000000) (hm : 0 ≤ m) : bS (leb p.length ++ p) 0 m = if m < p.length then ([], 0, 2) else (p, (((leb p.length).length + p.length : Nat) : Int), 0) := by
  have q := uS_leb [] p p.length (by unfold M64; omega)
  simp only [List.nil_append, List.length_nil, Nat.zero_add] at q
  have q' : uS (leb p.length ++ p) 0 = (p.length, ((leb p.length).length : Int), 0) := q
  unfold bS
  rw [if_neg (by omega), q']
  simp only [ne_eq, not_true_eq_false, if_false]
  by_cases h : m < (p.length : Int)
  · rw [if_pos h, if_pos h]
  · rw [if_neg h, if_neg h, if_neg (by simp; omega)]
    simp

theorem bS_cut (p : List UInt8) (m : Int) (k : Nat) (hp : p.length ≤ 1000000000) (hm : 0 ≤ m) (hk : k < p.length) : bS ((leb p.length ++ p).take ((leb p.length).length + k)) 0 m = if m < p.length then ([], 0, 2) else ([], 0, 10) := by
  have e : (leb p.length ++ p).take ((leb p.length).length + k) = leb p.length ++ p.take k := by rw [List.take_length_add_append]
  have q := uS_leb [] (p.take k) p.length (by unfold M64; omega)
  simp only [List.nil_append, List.length_nil, Nat.zero_add] at q
  have q' : uS (leb p.length ++ p.take k) 0 = (p.length, ((leb p.length).length : Int), 0) := q
  unfold bS
  rw [e, if_neg (by omega), q']
  simp only [ne_eq, not_true_eq_false, if_false]
  by_cases h : m < (p.length : Int)
  · rw [if_pos h, if_pos h]
  · rw [if_neg h, if_neg h, if_pos (by simp; omega)]

theorem bS_neg (l : List UInt8) (i m : Int) (h : m < 0) : bS l i m = ([], 0, 1) := by unfold bS; rw [if_pos h]

set_option maxRecDepth 100000 in
set_option maxHeartbeats 1600000 in
theorem varintLimit_main (v : Value) (p : List UInt8) (m cut : Int) (w : World) (hv : Bs w w.heap.size v p) (hm : -9223372036854775808 ≤ m ∧ m ≤ 9223372036854775807) (hc : -9223372036854775808 ≤ cut ∧ cut ≤ 9223372036854775807)
    (hp : p.length ≤ 4000) (hp0 : 0 < p.length) (e1 e2 : Int) (x1 : Int) (P1 b : List UInt8) (HB : Hid (leb p.length ++ p = b))
    (E1 : Hid (bS b 0 m = (P1, x1, e1))) (E2 : Hid (∀ k, k < p.length → bS (b.take ((leb p.length).length + k)) 0 m = ([], 0, e2)))
    (hcase : (m < 0 ∧ e1 = 1 ∧ e2 = 1) ∨ (0 ≤ m ∧ m < p.length ∧ e1 = 2 ∧ e2 = 2) ∨ (0 ≤ m ∧ ¬ m < p.length ∧ e1 = 0 ∧ e2 = 10)) :
    Calls Try.prog 10 #[v, .int .i64 m, .int .i64 cut] w fun e w' => e = .returned (.bool true) ∧ Below w.heap.size w w' := by
  have hand := i64_and_low cut hc.1 hc.2
  have hmod0 : 0 ≤ cut % 65536 % (p.length : Int) := Int.emod_nonneg _ (by omega)
  have hmod1 : cut % 65536 % (p.length : Int) < (p.length : Int) := Int.emod_lt_of_pos _ (by omega)
  obtain ⟨r, hr⟩ := Int.eq_ofNat_of_zero_le hmod0
  rw [hr] at hmod1
  have hrl : r < p.length := by omega
  have hne : ((p.length : Int) == 0) = false := beq_eq_false_iff_ne.2 (by omega)
  have h10 := leb_ten (x := p.length) (by unfold M64; omega)
  have hlp := leb_pos p.length
  have hlb : b.length = (leb p.length).length + p.length := by rw [← HB.out]; simp
  have HB2 := Lib.hid (show (b.length : Int) = ((leb p.length).length : Int) + (p.length : Int) by omega)
  have hb3 : b.length ≤ 5000 := by omega
  have hb4 : p.length < b.length := by omega
  clear hmod0 hmod1 hlb
  obtain ⟨A, c, hvf⟩ := hv.form
  rw [hvf] at hv ⊢
  clear hvf
  rcases hcase with ⟨g1, rfl, rfl⟩ | ⟨g0, g1, rfl, rfl⟩ | ⟨g0, g1, rfl, rfl⟩
  all_goals
    go_enter Try.func10, Try.ntmps10
    go_wp2_with fail
    refine (sane_any _).mono ?_
    rintro e w1 ⟨rfl, b1⟩
    go_wp2_with fail
    refine (few_yes _ _ [] p _ _ (Bs.nil_ _ w1.heap.size) (hv.past b1) (by simp) hp).mono ?_
    rintro e w' ⟨rfl, rfl⟩
    go_wp2_with fail
    refine (appendBytes_any _ _ [] p _ (Bs.nil_ _ _) (hv.past b1) (by simp) (by omega)).mono ?_
    rintro e w2 ⟨v2, rfl, o2, b2⟩
    rw [List.nil_append, HB.out] at o2
    have r2 := o2.bs
    obtain ⟨A2, c2, hv2⟩ := o2.bs.form
    rw [hv2] at r2 ⊢
    clear hv2 o2
    go_wp2_with fail
    refine (bytes_any _ b 0 m _ r2 (by omega) hm.2).mono ?_
    rintro e w3 ⟨v3, rfl, _, b3⟩
    rw [E1.out]
    have r3 := r2.past b3
    have R3 := Lib.hid r3
    go_wp2_with (refine wp_cut 22 5 Try.underlying22 size_u8 (.tmp 39) none (some (.tmp 48)) rfl rfl rfl r3 0 ((leb p.length).length + (p.length - 1 - r)) (Or.inl ⟨rfl, rfl⟩) (Or.inr ⟨_, _, rfl, ?_⟩) ?_ ?_; exact (by have := HB2.out; omega); exact (by have := HB2.out; omega); intro A4 c4 hr4)
    have r4 := cut_bs hr4 (by have := HB2.out; omega)
    rw [List.drop_zero] at r4
    refine (bytes_any _ _ 0 m _ r4 (by rw [List.length_take]; omega) hm.2).mono ?_
    rintro e w5 ⟨v5, rfl, _, b5⟩
    rw [E2.out _ (by omega)]
    go_wp2_with fail
    go_ret
    have hb2 := b1.trans (b2.mono b1.size)
    have hb3 := hb2.trans (b3.mono hb2.size)
    exact ⟨rfl, hb3.trans (b5.mono hb3.size)⟩

theorem varintLimit_walk (v : Value) (p : List UInt8) (m cut : Int) (w : World) (hv : Bs w w.heap.size v p) (hm : -9223372036854775808 ≤ m ∧ m ≤ 9223372036854775807) (hc : -9223372036854775808 ≤ cut ∧ cut ≤ 9223372036854775807) :
    Calls Try.prog 10 #[v, .int .i64 m, .int .i64 cut] w fun e w' => e = .returned (.bool true) ∧ Below w.heap.size w w' := by
  by_cases hp : p.length ≤ 4000
  · by_cases hp0 : p.length = 0
    · have hnil : p = [] := List.eq_nil_of_length_eq_zero hp0
      subst hnil
      obtain ⟨A, c, hvf⟩ := hv.form
      rw [hvf] at hv ⊢
      clear hvf hp0
      go_enter Try.func10, Try.ntmps10
      go_wp2_with fail
      refine (sane_any _).mono ?_
      rintro e w1 ⟨rfl, b1⟩
      go_wp2_with fail
      refine (few_yes _ _ [] [] _ _ (Bs.nil_ _ w1.heap.size) (hv.past b1) (by simp) hp).mono ?_
      rintro e w' ⟨rfl, rfl⟩
      go_wp2_with fail
      go_ret
      exact ⟨rfl, b1⟩
    · by_cases h0 : m < 0
      · exact varintLimit_main v p m cut w hv hm hc hp (by omega) 1 1 0 [] _ rfl (bS_neg _ _ _ h0) (fun k _ => bS_neg _ _ _ h0) (Or.inl ⟨h0, rfl, rfl⟩)
      · have q1 := bS_whole p m (by omega) (by omega)
        have q2 : ∀ k, k < p.length → _ := fun k hk => bS_cut p m k (by omega) (by omega) hk
        by_cases h1 : m < p.length
        · rw [if_pos h1] at q1
          simp only [if_pos h1] at q2
          exact varintLimit_main v p m cut w hv hm hc hp (by omega) 2 2 0 [] _ rfl q1 q2 (Or.inr (Or.inl ⟨by omega, h1, rfl, rfl⟩))
        · rw [if_neg h1] at q1
          simp only [if_neg h1] at q2
          exact varintLimit_main v p m cut w hv hm hc hp (by omega) 0 10 _ p _ rfl q1 q2 (Or.inr (Or.inr ⟨by omega, h1, rfl, rfl⟩))
  · obtain ⟨A, c, hvf⟩ := hv.form
    rw [hvf] at hv ⊢
    clear hvf
    go_enter Try.func10, Try.ntmps10
    go_wp2_with fail
    refine (sane_any _).mono ?_
    rintro e w1 ⟨rfl, b1⟩
    go_wp2_with fail
    refine (few_no _ _ [] p _ _ (Bs.nil_ _ w1.heap.size) (hv.past b1) (fun h => hp h.2)).mono ?_
    rintro e w' ⟨rfl, rfl⟩
    go_wp2_with fail
    go_ret
    exact ⟨rfl, b1⟩

end Go.Proofs.Ytgllhelpfjinbaa
