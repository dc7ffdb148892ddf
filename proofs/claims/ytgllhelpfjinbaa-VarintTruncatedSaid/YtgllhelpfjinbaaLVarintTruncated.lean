/-
  The walk of the law VarintTruncated.
-/
import Derived.Test.YtgllhelpfjinbaaLVarintLimit
namespace Go.Proofs.Ytgllhelpfjinbaa
open Go.RowKit
set_option linter.unusedVariables false
set_option linter.unusedSimpArgs false

theorem bS_trunc (p : List UInt8) (k : Nat) (hp : p.length ≤ 1000000000) (hk : k < (leb p.length ++ p).length) : bS ((leb p.length ++ p).take k) 0 (p.length : Int) = ([], 0, 10) := by
  by_cases h : k < (leb p.length).length
  · have e : (leb p.length ++ p).take k = (leb p.length).take k := by rw [List.take_append_of_le_length (by omega)]
    have q := uS_trunc p.length k (by unfold M64; omega) h
    unfold bS
    rw [e, if_neg (by omega), q]
    simp
  · obtain ⟨j, rfl⟩ : ∃ j, k = (leb p.length).length + j := ⟨k - (leb p.length).length, by omega⟩
    rw [List.length_append] at hk
    rw [bS_cut p p.length j hp (by omega) (by omega), if_neg (by omega)]

theorem rem_small (c : Int) (n : Nat) (hn : 0 < n) (h1 : -9223372036854775808 ≤ c) (h2 : c ≤ 9223372036854775807) : ∃ r : Nat, c % 65536 % (n : Int) = (r : Int) ∧ r < n := by
  have a := Int.emod_nonneg (c % 65536) (show (n : Int) ≠ 0 by omega)
  have b := Int.emod_lt_of_pos (c % 65536) (show (0 : Int) < (n : Int) by omega)
  obtain ⟨r, hr⟩ := Int.eq_ofNat_of_zero_le a
  exact ⟨r, hr, by rw [hr] at b; omega⟩

set_option maxRecDepth 100000 in
set_option maxHeartbeats 1600000 in
theorem varintTruncated_walk (u : Int) (v : Value) (p : List UInt8) (cut : Int) (w : World) (hu : 0 ≤ u ∧ u ≤ 18446744073709551615) (hv : Bs w w.heap.size v p) (hc : -9223372036854775808 ≤ cut ∧ cut ≤ 9223372036854775807) :
    Calls Try.prog 7 #[.int .u64 u, v, .int .i64 cut] w fun e w' => e = .returned (.bool true) ∧ Below w.heap.size w w' := by
  obtain ⟨U, rfl⟩ := Int.eq_ofNat_of_zero_le hu.1
  have hU : U < M64 := by unfold M64; omega
  have h10 := leb_ten hU
  have hp0 := leb_pos U
  by_cases hp : p.length ≤ 4000
  · have hand := i64_and_low cut hc.1 hc.2
    obtain ⟨a, ha, hal⟩ := rem_small cut (leb U).length hp0 hc.1 hc.2
    have q1 := uS_trunc U a hU hal
    obtain ⟨b, HB⟩ : ∃ b, b = leb p.length ++ p := ⟨_, rfl⟩
    have hbl : 0 < b.length := by rw [HB]; have := leb_pos p.length; simp; omega
    have hbs : b.length ≤ 5000 := by rw [HB]; have := leb_ten (x := p.length) (by unfold M64; omega); simp; omega
    obtain ⟨d, hd, hdl⟩ := rem_small cut b.length hbl hc.1 hc.2
    have q2 := bS_trunc p d (by omega) (by rw [← HB]; exact hdl)
    rw [← HB] at q2
    have Q1 := Lib.hid q1
    have Q2 := Lib.hid q2
    have HB' := Lib.hid HB
    have HU := Lib.hid hU
    have hne1 : (((leb U).length : Int) == 0) = false := beq_eq_false_iff_ne.2 (by omega)
    have hne2 : ((b.length : Int) == 0) = false := beq_eq_false_iff_ne.2 (by omega)
    clear q1 q2 HB hU
    obtain ⟨A, c, hvf⟩ := hv.form
    rw [hvf] at hv ⊢
    clear hvf
    go_enter Try.func7, Try.ntmps7
    go_wp2_with fail
    refine (sane_any _).mono ?_
    rintro e w1 ⟨rfl, b1⟩
    have s1 := hv.past b1
    go_wp2_with fail
    refine (few_yes _ _ [] p _ _ (Bs.nil_ _ w1.heap.size) s1 (by simp) hp).mono ?_
    rintro e w' ⟨rfl, rfl⟩
    go_wp2_with fail
    refine (appendUint_any _ [] U _ (Bs.nil_ _ _) HU.out (by simp)).mono ?_
    rintro e w2 ⟨v2, rfl, o2, b2⟩
    rw [List.nil_append] at o2
    have r2 := o2.bs
    obtain ⟨A2, c2, hv2⟩ := o2.bs.form
    rw [hv2] at r2 ⊢
    clear hv2 o2
    have s2 := s1.past b2
    go_wp2_with fail
    refine (appendBytes_any _ _ [] p _ (Bs.nil_ _ _) s2 (by simp) (by omega)).mono ?_
    rintro e w3 ⟨v3, rfl, o3, b3⟩
    rw [List.nil_append, ← HB'.out] at o3
    have r3 := o3.bs
    obtain ⟨A3, c3, hv3⟩ := o3.bs.form
    rw [hv3] at r3 ⊢
    clear hv3 o3
    have r23 := r2.past b3
    go_wp2_with (refine wp_cut 22 5 Try.underlying22 size_u8 (.tmp 45) none (some (.tmp 46)) rfl rfl rfl r23 0 a (Or.inl ⟨rfl, rfl⟩) (Or.inr ⟨_, _, rfl, ?_⟩) ?_ ?_; exact (by simp [ha]); exact (by omega); intro A4 c4 hr4)
    have r4 := cut_bs hr4 (by omega)
    rw [List.drop_zero] at r4
    refine (uint_any _ _ 0 _ _ r4 (by rw [List.length_take]; omega)).mono ?_
    rintro e w' ⟨rfl, rfl⟩
    rw [Q1.out]
    unfold tri
    clear hr4 r4
    go_wp2_with (refine wp_cut 22 5 Try.underlying22 size_u8 (.tmp 53) none (some (.tmp 54)) rfl rfl rfl r3 0 d (Or.inl ⟨rfl, rfl⟩) (Or.inr ⟨_, _, rfl, ?_⟩) ?_ ?_; exact (by simp); exact (by omega); intro A5 c5 hr5)
    have r5 := cut_bs hr5 (by omega)
    rw [List.drop_zero] at r5
    refine (bytes_any _ _ 0 _ _ r5 (by rw [List.length_take]; omega) (by omega)).mono ?_
    rintro e w5 ⟨v5, rfl, _, b5⟩
    rw [Q2.out]
    go_wp2_with fail
    go_ret
    have hb2 := b1.trans (b2.mono b1.size)
    have hb3 := hb2.trans (b3.mono hb2.size)
    exact ⟨rfl, hb3.trans (b5.mono hb3.size)⟩
  · go_enter Try.func7, Try.ntmps7
    go_wp2_with fail
    refine (sane_any _).mono ?_
    rintro e w1 ⟨rfl, b1⟩
    go_wp2_with fail
    refine (few_no _ _ [] p _ _ (Bs.nil_ _ w1.heap.size) (hv.past b1) (fun h => hp h.2)).mono ?_
    rintro e w' ⟨rfl, rfl⟩
    go_wp2_with fail
    go_ret
    exact ⟨rfl, b1⟩

end Go.Proofs.Ytgllhelpfjinbaa
