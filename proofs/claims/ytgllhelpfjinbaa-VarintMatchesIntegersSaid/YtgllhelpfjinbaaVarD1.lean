/-
  Walks of package varint and of its reference: reading unsigned integers.
-/
import Derived.Test.YtgllhelpfjinbaaByt
import Derived.Test.YtgllhelpfjinbaaLeb
import Derived.Outline
namespace Go.Proofs.Ytgllhelpfjinbaa
open Go.RowKit
set_option linter.unusedVariables false
set_option linter.unusedSimpArgs false

theorem checkLast_any (c : UInt8) (k : Nat) (w : World) (hk : k ≤ 9) (e0 : Int) (he : e0 = if k = 9 ∧ 1 < c.toNat then 11 else if 0 < k ∧ c.toNat = 0 then 12 else 0) :
    Calls Try.prog 27 #[u8 c, .int .i64 k] w fun e w' => e = .returned (.int .i64 e0) ∧ w = w' := by
  unfold u8
  have hc := c.toNat_lt
  by_cases h9 : k = 9
  · subst h9
    by_cases h1 : 1 < c.toNat
    · rw [if_pos ⟨rfl, h1⟩] at he
      subst he
      go_enter Try.func27, Try.ntmps27
      go_wp2
      go_ret
      exact ⟨rfl, rfl⟩
    · rw [if_neg (by omega)] at he
      by_cases h0 : c.toNat = 0
      · rw [if_pos ⟨by omega, h0⟩] at he
        subst he
        have h0' : ((c.toNat : Int) == 0) = true := by simp [h0]
        go_enter Try.func27, Try.ntmps27
        go_wp2
        go_ret
        exact ⟨rfl, rfl⟩
      · rw [if_neg (by omega)] at he
        subst he
        have h0' : ((c.toNat : Int) == 0) = false := by simp; omega
        go_enter Try.func27, Try.ntmps27
        go_wp2
        go_ret
        exact ⟨rfl, rfl⟩
  · rw [if_neg (by omega)] at he
    have h9' : ((k : Int) == 9) = false := by simp; omega
    by_cases hk0 : 0 < k
    · by_cases h0 : c.toNat = 0
      · rw [if_pos ⟨by omega, h0⟩] at he
        subst he
        have h0' : ((c.toNat : Int) == 0) = true := by simp [h0]
        go_enter Try.func27, Try.ntmps27
        go_wp2
        go_ret
        exact ⟨rfl, rfl⟩
      · rw [if_neg (by omega)] at he
        subst he
        have h0' : ((c.toNat : Int) == 0) = false := by simp; omega
        go_enter Try.func27, Try.ntmps27
        go_wp2
        go_ret
        exact ⟨rfl, rfl⟩
    · rw [if_neg (by omega)] at he
      subst he
      obtain rfl : k = 0 := by omega
      go_enter Try.func27, Try.ntmps27
      go_wp2
      go_ret
      exact ⟨rfl, rfl⟩

theorem and128_hi : ∀ c : Fin 256, 128 ≤ c.val → c.val &&& 128 = 128 := by decide +kernel
theorem and128_lo : ∀ c : Fin 256, c.val < 128 → c.val &&& 128 = 0 := by decide +kernel
theorem not128 : ∀ c : Fin 256, c.val &&& 127 = c.val % 128 := by decide +kernel

theorem u8_and128_hi (c : UInt8) (h : 128 ≤ c.toNat) : bits BinOp.and IntKind.u8 (c.toNat : Int) 128 = 128 := by
  have h1 := u8_and_nat c.toNat 128 c.toNat_lt (by omega)
  rw [and128_hi ⟨c.toNat, c.toNat_lt⟩ h] at h1
  exact h1
theorem u8_and128_lo (c : UInt8) (h : c.toNat < 128) : bits BinOp.and IntKind.u8 (c.toNat : Int) 128 = 0 := by
  have h1 := u8_and_nat c.toNat 128 c.toNat_lt (by omega)
  rw [and128_lo ⟨c.toNat, c.toNat_lt⟩ h] at h1
  exact h1
theorem u8_andNot128 (c : UInt8) : bits BinOp.andNot IntKind.u8 (c.toNat : Int) 128 = ((c.toNat % 128 : Nat) : Int) := by
  have h1 := u8_andNot_nat c.toNat 128 c.toNat_lt (by omega)
  have h2 := not128 ⟨c.toNat, c.toNat_lt⟩
  simp only at h2
  rw [show 255 - 128 = 127 from rfl, h2] at h1
  exact h1

theorem pow7 (k : Nat) : (2 : Nat) ^ (7 * k) = 128 ^ k := by rw [Nat.pow_mul]

theorem wrap_shift (m k : Nat) (h : m * 128 ^ k < 18446744073709551616) : IntKind.u64.wrap ((m : Int) * 2 ^ (7 * k)) = ((m * 128 ^ k : Nat) : Int) := by
  have e : (m : Int) * 2 ^ (7 * k) = ((m * 128 ^ k : Nat) : Int) := by rw [← pow7]; push_cast; rfl
  rw [e, IntKind.wrap_u64]; omega

theorem pow128_le {k j : Nat} (h : k ≤ j) : 128 ^ k ≤ 128 ^ j := Nat.pow_le_pow_right (by omega) h

theorem shift_fits (m k : Nat) (hm : m < 128) (hk : k ≤ 8 ∨ (k = 9 ∧ m ≤ 1)) : m * 128 ^ k < 18446744073709551616 := by
  rcases hk with h | ⟨rfl, h⟩
  · have h1 := pow128_le h
    have h2 : m * 128 ^ k ≤ 127 * 128 ^ 8 := Nat.mul_le_mul (by omega) h1
    exact Nat.lt_of_le_of_lt h2 (by decide)
  · exact Nat.lt_of_le_of_lt (Nat.mul_le_mul_right _ h) (by decide)

theorem or_shift (V m k : Nat) (hV : V < 128 ^ k) (hm : m < 128) (hk : k ≤ 8 ∨ (k = 9 ∧ m ≤ 1)) :
    bits BinOp.or IntKind.u64 (V : Int) (IntKind.u64.wrap ((m : Int) * 2 ^ (7 * k))) = ((V + m * 128 ^ k : Nat) : Int) := by
  have hf := shift_fits m k hm hk
  have hV' : V < 18446744073709551616 := Nat.lt_of_lt_of_le hV (Nat.le_trans (pow128_le (show k ≤ 9 by omega)) (by decide))
  rw [wrap_shift m k hf, u64_or_nat _ _ hV' hf, Nat.or_comm, nat_join (7 * k) _ _ (by rw [pow7]; exact Nat.mul_mod_left _ _) (by rw [pow7]; exact hV), Nat.add_comm]

theorem or_some (V : Nat) (n : Int) (hV : V < 18446744073709551616) : ∃ U : Nat, bits BinOp.or IntKind.u64 (V : Int) (IntKind.u64.wrap n) = (U : Int) := by
  have e : IntKind.u64.wrap n = ((IntKind.u64.wrap n).toNat : Int) := by rw [IntKind.wrap_u64]; omega
  have hl : (IntKind.u64.wrap n).toNat < 18446744073709551616 := by rw [IntKind.wrap_u64]; omega
  rw [e]
  exact ⟨_, u64_or_nat _ _ hV hl⟩

/-- A triple as the function hands it back. -/
def tri (r : Nat × Int × Int) : Value := .tuple #[.int .u64 r.1, .int .i64 r.2.1, .int .i64 r.2.2]

theorem tri_eq {a b c : Int} (r : Nat × Int × Int) (ha : a = r.1) (hb : b = r.2.1) (hc : c = r.2.2) :
    Ending.returned (.tuple #[.int .u64 a, .int .i64 b, .int .i64 c]) = .returned (tri r) := by subst ha hb hc; rfl

set_option maxRecDepth 100000 in
set_option maxHeartbeats 400000 in
theorem uint_any (v : Value) (l : List UInt8) (i : Int) (w : World) (B : Nat) (hv : Bs w B v l) (hl : l.length ≤ 1000000000) :
    Calls Try.prog 13 #[v, .int .i64 i] w fun e w' => e = .returned (tri (uS l i)) ∧ w = w' := by
  have HV := Lib.hid hv
  obtain ⟨A, cap, rfl⟩ := hv.form
  clear hv
  by_cases h0 : i < 0
  · have E := Lib.hid (uS_bad (l := l) (Or.inl h0))
    go_enter Try.func13, Try.ntmps13
    go_wp2
    go_ret3
    exact ⟨by rw [E.out]; rfl, rfl⟩
  by_cases h1 : (l.length : Int) < i
  · have E := Lib.hid (uS_bad (l := l) (Or.inr h1))
    go_enter Try.func13, Try.ntmps13
    go_wp2
    go_ret3
    exact ⟨by rw [E.out]; rfl, rfl⟩
  obtain ⟨j, rfl⟩ := Int.eq_ofNat_of_zero_le (show 0 ≤ i by omega)
  have hj : j ≤ l.length := by omega
  go_enter Try.func13, Try.ntmps13
  go_wp2_with (refine wp_cut 22 5 Try.underlying22 size_u8 (.tmp 19) (some (.tmp 20)) none rfl rfl rfl HV.out j (l.length - j) (Or.inr ⟨_, _, rfl, rfl⟩) (Or.inl ⟨rfl, (by omega)⟩) (by omega) ?_; intro A1 c1 hr1)
  have hr2 : Bs w B (.slice A1 (l.length - j) c1) (l.drop j) := by
    unfold Bs
    have : ((u8s l).drop (j * 1)).take ((l.length - j) * 1) = u8s (l.drop j) := by
      rw [Nat.mul_one, Nat.mul_one, List.take_of_length_le (by rw [List.length_drop, u8s_length]; exact Nat.le_refl _)]
      simp [u8s]
    rw [this] at hr1
    rw [List.length_drop]; exact hr1
  clear hr1
  go_loop [4, 22] (fun x n => ∃ (k V : Nat) (acc : Nat), k ≤ 10 ∧ n = .int .i64 k ∧ x = .int .u64 V ∧ (k ≤ 9 → V = acc ∧ acc < 128 ^ k) ∧ Hid (dgo (10 - k) k acc (l.drop (j + k)) = dgo 10 0 0 (l.drop j)) ∧ j + k ≤ l.length) (fun _ n => 10 - (intOf n).toNat)
  case atStart => exact ⟨0, 0, 0, by omega, rfl, rfl, fun _ => ⟨rfl, by simp⟩, rfl, by omega⟩
  case round =>
    obtain ⟨k, V, acc, hk, rfl, rfl, hacc, HD, hjk⟩ := hrel
    by_cases hk10 : k = 10
    · subst hk10
      have E := Lib.hid (uS_err hj (HD.out.symm) (by decide))
      go_wp2
      go_ret3
      exact ⟨by rw [E.out]; rfl, rfl⟩
    by_cases hend : j + k = l.length
    · have hd : l.drop (j + k) = [] := by rw [hend]; simp
      rw [hd, show 10 - k = (9 - k) + 1 by omega] at HD
      have E := Lib.hid (uS_err hj (HD.out.symm) (by decide))
      have ht : ((k : Int) == (l.length : Int) - (j : Int)) = true := by simp; omega
      clear hd
      go_wp2
      go_ret3
      exact ⟨by rw [E.out]; rfl, rfl⟩
    have hlt : j + k < l.length := by omega
    obtain ⟨c, hc⟩ : ∃ c, (l.drop j)[k]? = some c := ⟨l[j + k], by rw [List.getElem?_drop, List.getElem?_eq_getElem hlt]⟩
    have hcu : (u8s (l.drop j))[k]? = some (.int .u8 (c.toNat : Int)) := by simp only [u8s, List.getElem?_map, hc]; rfl
    have hcl := c.toNat_lt
    have hdr : l.drop (j + k) = c :: l.drop (j + (k + 1)) := by
      have h2 : l[j + k] = c := by rw [List.getElem?_drop, List.getElem?_eq_getElem hlt] at hc; exact Option.some.inj hc
      rw [List.drop_eq_getElem_cons hlt, h2]; rfl
    rw [hdr, show 10 - k = (9 - k) + 1 by omega] at HD
    have HCU := Lib.hid hcu
    clear hdr hc hcu
    have hne : ((k : Int) == (l.length : Int) - (j : Int)) = false := by simp; omega
    have hnot := u8_andNot128 c
    by_cases hbig : 128 ≤ c.toNat
    · have hand := u8_and128_hi c hbig
      go_wp2_with (refine wp_at 22 5 Try.underlying22 size_u8 (.tmp 29) (.tmp 30) rfl rfl rfl hr2 _ _ k _ rfl rfl HCU.out ?_; intro p hpb hpc)
      go_roundw
      case rel =>
        obtain ⟨rfl, hV⟩ := hacc (by omega)
        by_cases hk9 : k = 9
        · subst hk9
          obtain ⟨U, hU⟩ := or_some V ((c.toNat : Int) % 128 * 2 ^ (7 * 9)) (Nat.lt_of_lt_of_le hV (by decide))
          refine ⟨10, U, V + (c.toNat - 128) * 128 ^ 9, by omega, by go_num, by rw [hU], fun h => absurd h (by omega), ?_, by omega⟩
          have h := HD.out
          rw [dgo, if_pos hbig] at h
          exact h
        · refine ⟨k + 1, V + (c.toNat % 128) * 128 ^ k, V + (c.toNat % 128) * 128 ^ k, by omega, by go_num, ?_, fun _ => ⟨rfl, ?_⟩, ?_, by omega⟩
          · have := or_shift V (c.toNat % 128) k hV (by omega) (Or.inl (by omega))
            rw [← this]; rfl
          · rw [Nat.pow_succ]
            have : c.toNat % 128 * 128 ^ k ≤ 127 * 128 ^ k := Nat.mul_le_mul_right _ (by omega)
            omega
          · have h := HD.out
            rw [dgo, if_pos hbig, show c.toNat - 128 = c.toNat % 128 by omega] at h
            rw [show 10 - (k + 1) = 9 - k by omega]
            exact h
      case measure => simp [intOf]; omega
    · have hand := u8_and128_lo c (by omega)
      obtain ⟨rfl, hV⟩ := hacc (by omega)
      have hD := HD.out
      rw [dgo, if_neg hbig] at hD
      generalize hE : (if k = 9 ∧ 1 < c.toNat then (11 : Int) else if 0 < k ∧ c.toNat = 0 then 12 else 0) = E0
      have HE := Lib.hid hE
      clear hE HD
      have HD := Lib.hid hD
      clear hD
      by_cases he : E0 = 0
      · subst he
        have h1 : ¬ (k = 9 ∧ 1 < c.toNat) := fun h => by have := HE.out; rw [if_pos h] at this; cases this
        have h2 : ¬ (0 < k ∧ c.toNat = 0) := fun h => by have := HE.out; rw [if_neg h1, if_pos h] at this; cases this
        have h3 := HD.out
        rw [if_neg h1, if_neg h2] at h3
        have hor := or_shift V (c.toNat % 128) k hV (by omega) (by omega)
        have hcm : c.toNat % 128 = c.toNat := by omega
        have HU := Lib.hid (uS_good hj h3.symm)
        have HO := Lib.hid (hor.trans (by rw [hcm]) : _ = ((V + c.toNat * 128 ^ k : Nat) : Int))
        clear h3 hor hcm
        go_wp2_with (first
          | (go_at_call 27; refine (checkLast_any c k _ (by omega) 0 HE.out.symm).mono ?_; rintro e w' ⟨rfl, rfl⟩)
          | (refine wp_at 22 5 Try.underlying22 size_u8 (.tmp 29) (.tmp 30) rfl rfl rfl hr2 _ _ k _ rfl rfl HCU.out ?_; intro p hpb hpc))
        go_ret3
        refine ⟨?_, rfl⟩
        rw [HU.out]
        exact tri_eq _ HO.out (by simp only; omega) rfl
      · obtain ⟨N, hN, hN0, hd⟩ : ∃ N : Nat, E0 = (N : Int) ∧ N ≠ 0 ∧ dgo 10 0 0 (l.drop j) = (0, 0, N) := by
          have h1 := HE.out
          have h2 := HD.out
          by_cases c1 : k = 9 ∧ 1 < c.toNat
          · rw [if_pos c1] at h1 h2; exact ⟨11, h1.symm, by decide, h2.symm⟩
          · rw [if_neg c1] at h1 h2
            by_cases c2 : 0 < k ∧ c.toNat = 0
            · rw [if_pos c2] at h1 h2; exact ⟨12, h1.symm, by decide, h2.symm⟩
            · rw [if_neg c2] at h1; exact absurd h1.symm he
        have HU := Lib.hid (uS_err hj hd hN0)
        have HN := Lib.hid hN
        have hb : (E0 != 0) = true := by simp [he]
        clear hd hN
        go_wp2_with (first
          | (go_at_call 27; refine (checkLast_any c k _ (by omega) E0 HE.out.symm).mono ?_; rintro e w' ⟨rfl, rfl⟩)
          | (refine wp_at 22 5 Try.underlying22 size_u8 (.tmp 29) (.tmp 30) rfl rfl rfl hr2 _ _ k _ rfl rfl HCU.out ?_; intro p hpb hpc))
        go_ret3
        refine ⟨?_, rfl⟩
        rw [HU.out]
        exact tri_eq _ rfl rfl HN.out
theorem add_shift (V m k : Nat) (hV : V < 128 ^ k) (hm : m < 128) (hk : k ≤ 8 ∨ (k = 9 ∧ m ≤ 1)) :
    IntKind.u64.wrap ((V : Int) + IntKind.u64.wrap ((m : Int) * 2 ^ (7 * k))) = ((V + m * 128 ^ k : Nat) : Int) := by
  have hf := shift_fits m k hm hk
  have hb : V + m * 128 ^ k < 18446744073709551616 := by
    rcases hk with h | ⟨rfl, h⟩
    · have h1 : V + m * 128 ^ k < 128 ^ (k + 1) := by
        rw [Nat.pow_succ]
        have : m * 128 ^ k ≤ 127 * 128 ^ k := Nat.mul_le_mul_right _ (by omega)
        omega
      exact Nat.lt_of_lt_of_le h1 (Nat.le_trans (pow128_le (show k + 1 ≤ 9 by omega)) (by decide))
    · have : m * 128 ^ 9 ≤ 1 * 128 ^ 9 := Nat.mul_le_mul_right _ h
      have h9 : (128 : Nat) ^ 9 = 9223372036854775808 := by decide
      omega
  rw [wrap_shift m k hf, IntKind.wrap_u64]; omega

theorem wrap_some (n : Int) : ∃ U : Nat, IntKind.u64.wrap n = (U : Int) := ⟨(IntKind.u64.wrap n).toNat, by rw [IntKind.wrap_u64]; omega⟩

set_option maxRecDepth 100000 in
set_option maxHeartbeats 400000 in
theorem refUint_any (v : Value) (l : List UInt8) (i : Int) (w : World) (B : Nat) (hv : Bs w B v l) (hl : l.length ≤ 1000000000) :
    Calls Try.prog 14 #[v, .int .i64 i] w fun e w' => e = .returned (tri (uS l i)) ∧ w = w' := by
  have HV := Lib.hid hv
  obtain ⟨A, cap, rfl⟩ := hv.form
  clear hv
  by_cases h0 : i < 0
  · have E := Lib.hid (uS_bad (l := l) (Or.inl h0))
    go_enter Try.func14, Try.ntmps14
    go_wp2
    go_ret3
    exact ⟨by rw [E.out]; rfl, rfl⟩
  by_cases h1 : (l.length : Int) < i
  · have E := Lib.hid (uS_bad (l := l) (Or.inr h1))
    go_enter Try.func14, Try.ntmps14
    go_wp2
    go_ret3
    exact ⟨by rw [E.out]; rfl, rfl⟩
  obtain ⟨j, rfl⟩ := Int.eq_ofNat_of_zero_le (show 0 ≤ i by omega)
  have hj : j ≤ l.length := by omega
  go_enter Try.func14, Try.ntmps14
  go_wp2
  go_loop [7, 8] (fun x n => ∃ (k V : Nat) (acc : Nat), k ≤ 10 ∧ n = .int .i64 k ∧ x = .int .u64 V ∧ (k ≤ 9 → V = acc ∧ acc < 128 ^ k) ∧ Hid (dgo (10 - k) k acc (l.drop (j + k)) = dgo 10 0 0 (l.drop j)) ∧ j + k ≤ l.length) (fun _ n => 10 - (intOf n).toNat)
  case atStart => exact ⟨0, 0, 0, by omega, rfl, rfl, fun _ => ⟨rfl, by simp⟩, rfl, by omega⟩
  case round =>
    obtain ⟨k, V, acc, hk, rfl, rfl, hacc, HD, hjk⟩ := hrel
    by_cases hk10 : k = 10
    · subst hk10
      have E := Lib.hid (uS_err hj (HD.out.symm) (by decide))
      go_wp2
      go_ret3
      exact ⟨by rw [E.out]; rfl, rfl⟩
    by_cases hend : j + k = l.length
    · have hd : l.drop (j + k) = [] := by rw [hend]; simp
      rw [hd, show 10 - k = (9 - k) + 1 by omega] at HD
      have E := Lib.hid (uS_err hj (HD.out.symm) (by decide))
      clear hd
      go_wp2
      go_ret3
      exact ⟨by rw [E.out]; rfl, rfl⟩
    have hlt : j + k < l.length := by omega
    obtain ⟨c, hc⟩ : ∃ c, l[j + k]? = some c := ⟨l[j + k], by rw [List.getElem?_eq_getElem hlt]⟩
    have hcu : (u8s l)[j + k]? = some (.int .u8 (c.toNat : Int)) := by simp only [u8s, List.getElem?_map, hc]; rfl
    have hcl := c.toNat_lt
    have hdr : l.drop (j + k) = c :: l.drop (j + (k + 1)) := by
      have h2 : l[j + k] = c := by rw [List.getElem?_eq_getElem hlt] at hc; exact Option.some.inj hc
      rw [List.drop_eq_getElem_cons hlt, h2]; rfl
    rw [hdr, show 10 - k = (9 - k) + 1 by omega] at HD
    have HCU := Lib.hid hcu
    clear hdr hc hcu
    by_cases hbig : 128 ≤ c.toNat
    · go_wp2_with (refine wp_at 22 5 Try.underlying22 size_u8 (.tmp 28) (.tmp 31) rfl rfl rfl HV.out _ _ (j + k) _ rfl ?_ HCU.out ?_; exact (by push_cast; rfl); intro p hpb hpc)
      go_roundw
      case rel =>
        obtain ⟨rfl, hV⟩ := hacc (by omega)
        by_cases hk9 : k = 9
        · subst hk9
          obtain ⟨U, hU⟩ := wrap_some ((V : Int) + IntKind.u64.wrap (((c.toNat : Int) - 128) * 2 ^ (7 * 9)))
          refine ⟨10, U, V + (c.toNat - 128) * 128 ^ 9, by omega, by go_num, by rw [← hU], fun h => absurd h (by omega), ?_, by omega⟩
          have h := HD.out
          rw [dgo, if_pos hbig] at h
          exact h
        · refine ⟨k + 1, V + (c.toNat - 128) * 128 ^ k, V + (c.toNat - 128) * 128 ^ k, by omega, by go_num, ?_, fun _ => ⟨rfl, ?_⟩, ?_, by omega⟩
          · have := add_shift V (c.toNat - 128) k hV (by omega) (Or.inl (by omega))
            rw [← this, show ((c.toNat - 128 : Nat) : Int) = (c.toNat : Int) - 128 by omega]
          · rw [Nat.pow_succ]
            have : (c.toNat - 128) * 128 ^ k ≤ 127 * 128 ^ k := Nat.mul_le_mul_right _ (by omega)
            omega
          · have h := HD.out
            rw [dgo, if_pos hbig] at h
            rw [show 10 - (k + 1) = 9 - k by omega]
            exact h
      case measure => simp [intOf]; omega
    · obtain ⟨rfl, hV⟩ := hacc (by omega)
      have hD := HD.out
      rw [dgo, if_neg hbig] at hD
      clear HD
      have HD := Lib.hid hD
      clear hD
      by_cases c1 : k = 9 ∧ 1 < c.toNat
      · have h2 := HD.out
        rw [if_pos c1] at h2
        have E := Lib.hid (uS_err hj h2.symm (by decide))
        obtain ⟨rfl, c1⟩ := c1
        clear h2
        go_wp2_with (refine wp_at 22 5 Try.underlying22 size_u8 (.tmp 28) (.tmp 31) rfl rfl rfl HV.out _ _ (j + 9) _ rfl ?_ HCU.out ?_; exact (by push_cast; rfl); intro p hpb hpc)
        go_ret3
        exact ⟨by rw [E.out]; rfl, rfl⟩
      by_cases c2 : 0 < k ∧ c.toNat = 0
      · have h2 := HD.out
        rw [if_neg c1, if_pos c2] at h2
        have E := Lib.hid (uS_err hj h2.symm (by decide))
        obtain ⟨c2, c3⟩ := c2
        have h0' : ((c.toNat : Int) == 0) = true := by simp [c3]
        clear h2
        by_cases h9 : k = 9
        · subst h9
          go_wp2_with (refine wp_at 22 5 Try.underlying22 size_u8 (.tmp 28) (.tmp 31) rfl rfl rfl HV.out _ _ (j + 9) _ rfl ?_ HCU.out ?_; exact (by push_cast; rfl); intro p hpb hpc)
          go_ret3
          exact ⟨by rw [E.out]; rfl, rfl⟩
        · have h9' : ((k : Int) == 9) = false := by simp; omega
          go_wp2_with (refine wp_at 22 5 Try.underlying22 size_u8 (.tmp 28) (.tmp 31) rfl rfl rfl HV.out _ _ (j + k) _ rfl ?_ HCU.out ?_; exact (by push_cast; rfl); intro p hpb hpc)
          go_ret3
          exact ⟨by rw [E.out]; rfl, rfl⟩
      · have h3 := HD.out
        rw [if_neg c1, if_neg c2] at h3
        have hadd := add_shift V c.toNat k hV (by omega) (by omega)
        have HU := Lib.hid (uS_good hj h3.symm)
        have HO := Lib.hid hadd
        clear h3 hadd
        by_cases h9 : k = 9
        · subst h9
          have hc0 : ((c.toNat : Int) == 0) = false := by simp; omega
          have hc1 : ¬ (1 < c.toNat) := fun h => c1 ⟨rfl, h⟩
          go_wp2_with (refine wp_at 22 5 Try.underlying22 size_u8 (.tmp 28) (.tmp 31) rfl rfl rfl HV.out _ _ (j + 9) _ rfl ?_ HCU.out ?_; exact (by push_cast; rfl); intro p hpb hpc)
          go_ret3
          refine ⟨?_, rfl⟩
          rw [HU.out]
          exact tri_eq _ (by simp only [show (128 : Nat) ^ 9 = 9223372036854775808 from by decide]; omega) (by simp only; omega) rfl
        · have h9' : ((k : Int) == 9) = false := by simp; omega
          by_cases hk0 : 0 < k
          · have hc0 : ((c.toNat : Int) == 0) = false := by simp; omega
            go_wp2_with (refine wp_at 22 5 Try.underlying22 size_u8 (.tmp 28) (.tmp 31) rfl rfl rfl HV.out _ _ (j + k) _ rfl ?_ HCU.out ?_; exact (by push_cast; rfl); intro p hpb hpc)
            go_ret3
            refine ⟨?_, rfl⟩
            rw [HU.out]
            exact tri_eq _ HO.out (by simp only; omega) rfl
          · go_wp2_with (refine wp_at 22 5 Try.underlying22 size_u8 (.tmp 28) (.tmp 31) rfl rfl rfl HV.out _ _ (j + k) _ rfl ?_ HCU.out ?_; exact (by push_cast; rfl); intro p hpb hpc)
            go_ret3
            refine ⟨?_, rfl⟩
            rw [HU.out]
            exact tri_eq _ HO.out (by simp only; omega) rfl

end Go.Proofs.Ytgllhelpfjinbaa
