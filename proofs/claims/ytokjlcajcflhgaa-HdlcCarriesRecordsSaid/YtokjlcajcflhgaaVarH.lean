/-
  Walks of package varint that layer 2's laws reach: AppendUint, AppendBytes, Uint, Bytes.
-/
import Derived.Test.YtokjlcajcflhgaaByt
import Derived.Test.YtokjlcajcflhgaaLeb
import Derived.Outline
namespace Go.Proofs.Ytokjlcajcflhgaa
open Go.RowKit
set_option linter.unusedVariables false
set_option linter.unusedSimpArgs false

theorem or_128' : ∀ y : Fin 256, (y.val ||| 128) = y.val % 128 + 128 := by decide +kernel
theorem or_128 (y : Nat) : bits BinOp.or IntKind.u8 ((y : Int) % 256) 128 = ((b8 (y % 128 + 128)).toNat : Int) := by
  have h := u8_or_nat (y % 256) 128 (by omega) (by omega)
  have h2 := or_128' ⟨y % 256, by omega⟩
  simp only at h2
  rw [b8_toNat (by omega)]
  have e : (y : Int) % 256 = ((y % 256 : Nat) : Int) := by omega
  rw [e]
  refine h.trans ?_
  rw [h2]; omega

set_option maxRecDepth 100000 in
set_option maxHeartbeats 400000 in
theorem groups_any (base : Nat) (v : Value) (out : List UInt8) (x : Nat) (w : World) (hx : x < M64) (hT : (out ++ leb x).length ≤ 140737488355328)
    (hown : Own w base v out) (hbase : base ≤ w.heap.size) :
    Calls Try.prog 40 #[v, .int .u64 x] w fun e w' => ∃ v', e = .returned v' ∧ Own w' base v' (out ++ leb x) ∧ Below base w w' := by
  have HT := Lib.hid hT
  clear hT
  go_enter Try.func40, Try.ntmps40
  go_wp2
  go_loopw [0, 1] (fun b n wr => ∃ (y : Nat) (o : List UInt8), n = .int .u64 y ∧ y < M64 ∧ o ++ leb y = out ++ leb x ∧ Own wr base b o ∧ Below base w wr) (fun _ n _ => (intOf n).toNat)
  case atStart => exact ⟨x, out, rfl, hx, rfl, hown, Below.refl _ _⟩
  case round =>
    obtain ⟨y, o, rfl, hy, hl, ho, hb⟩ := hrel
    have HL := Lib.hid hl
    clear hl
    have hlen : o.length + 1 ≤ 140737488355328 := by
      have h1 := HT.out; have h2 := leb_pos y
      rw [← HL.out, List.length_append] at h1; omega
    have hbw : base ≤ wr.heap.size := Nat.le_trans hbase hb.size
    by_cases hlt : y < 128
    · go_wp2_with (at_builtin; refine wp_app1 base (.tmp 15) (.tmp 18) rfl rfl _ o _ (b8 y) rfl rfl ho hbw hlen ?_ ?_; exact (by rw [b8_toNat (by omega)]); intro v1 w1 hown1 hb1)
      go_ret
      refine ⟨v1, rfl, ?_, hb.trans hb1⟩
      rw [← HL.out, leb_small hlt]
      exact hown1
    · go_wp2_with (at_builtin; refine wp_app1 base (.tmp 7) (.tmp 11) rfl rfl _ o _ (b8 (y % 128 + 128)) rfl rfl ho hbw hlen (or_128 y) ?_; intro v1 w1 hown1 hb1)
      go_roundw
      case rel =>
        refine ⟨y / 128, _, by go_num, Nat.lt_of_le_of_lt (Nat.div_le_self _ _) hy, ?_, hown1, hb.trans hb1⟩
        rw [← HL.out, leb_big hlt]; simp
      case measure => simp [intOf]; omega

theorem copyOf_any (v : Value) (l : List UInt8) (m : Int) (w : World) (hv : Bs w w.heap.size v l) (h0 : 0 ≤ m) (h1 : (l.length : Int) + m ≤ 140737488355328) :
    Calls Try.prog 41 #[v, .int .i64 m] w fun e w' => ∃ v', e = .returned v' ∧ Own w' w.heap.size v' l ∧ Below w.heap.size w w' := by
  obtain ⟨M, rfl⟩ := Int.eq_ofNat_of_zero_le h0
  have HV := Lib.hid hv
  obtain ⟨A, cap, rfl, _, _, _, _, _⟩ := hv
  go_enter Try.func41, Try.ntmps41
  go_wp2_with (first
    | (at_make; refine wp_make0 w.heap.size _ _ rfl rfl _ (l.length + M) rfl rfl ?_ ?_ (Nat.le_refl _) ?_; exact (by push_cast; rfl); exact (by omega); intro v1 w1 ho1 hb1)
    | (at_builtin; refine wp_apps w.heap.size (.tmp 9) (.tmp 10) rfl rfl _ _ [] l rfl rfl ho1 hb1.size (Bs.past HV.out hb1) ?_ ?_; exact (by simp; omega); intro v2 w2 ho2 hb2))
  go_ret
  exact ⟨v2, rfl, by simpa using ho2, hb1.trans hb2⟩

theorem appendUint_any (v : Value) (l : List UInt8) (x : Nat) (w : World) (hv : Bs w w.heap.size v l) (hx : x < M64) (hl : l.length ≤ 1000000000) :
    Calls Try.prog 24 #[v, .int .u64 x] w fun e w' => ∃ v', e = .returned v' ∧ Own w' w.heap.size v' (l ++ leb x) ∧ Below w.heap.size w w' := by
  have h10 := leb_ten hx
  go_enter Try.func24, Try.ntmps24
  go_wp2_with (first
    | (go_at_call 41; refine (copyOf_any v l 10 _ hv (by omega) (by omega)).mono ?_; rintro e w1 ⟨v1, rfl, ho1, hb1⟩)
    | (go_at_call 40; refine (groups_any w.heap.size v1 l x _ hx (by simp; omega) ho1 hb1.size).mono ?_; rintro e w2 ⟨v2, rfl, ho2, hb2⟩))
  go_ret
  exact ⟨v2, rfl, ho2, hb1.trans hb2⟩
/-- A literal slice without elements. -/
theorem countedB_any (v u : Value) (l p : List UInt8) (w : World) (hv : Bs w w.heap.size v l) (hu : Bs w w.heap.size u p) (hl : l.length ≤ 1000000000) (hp : p.length ≤ 1000000000) :
    Calls Try.prog 39 #[v, u] w fun e w' => ∃ v', e = .returned v' ∧ Own w' w.heap.size v' (l ++ leb p.length ++ p) ∧ Below w.heap.size w w' := by
  have hx : p.length < M64 := by unfold M64; omega
  have h10 := leb_ten hx
  have HU := Lib.hid hu
  have HX := Lib.hid hx
  clear hx
  obtain ⟨A, cap, rfl⟩ := hu.form
  go_enter Try.func39, Try.ntmps39
  go_wp2_with (first
    | (go_at_call 41; refine (copyOf_any v l _ _ hv ?_ ?_).mono ?_; exact (by omega); exact (by omega); rintro e w1 ⟨v1, rfl, ho1, hb1⟩)
    | (go_at_call 40; refine (groups_any w.heap.size v1 l p.length _ HX.out ?_ ho1 hb1.size).mono ?_; exact (by simp; omega); rintro e w2 ⟨v2, rfl, ho2, hb2⟩)
    | (at_builtin; refine wp_apps w.heap.size (.tmp 14) (.tmp 15) rfl rfl _ _ (l ++ leb p.length) p rfl rfl ho2 (Nat.le_trans hb1.size hb2.size) (Bs.past HU.out (hb1.trans hb2)) ?_ ?_; exact (by simp; omega); intro v3 w3 ho3 hb3))
  go_ret
  exact ⟨v3, rfl, ho3, (hb1.trans hb2).trans hb3⟩

theorem appendBytes_any (v u : Value) (l p : List UInt8) (w : World) (hv : Bs w w.heap.size v l) (hu : Bs w w.heap.size u p) (hl : l.length ≤ 1000000000) (hp : p.length ≤ 1000000000) :
    Calls Try.prog 23 #[v, u] w fun e w' => ∃ v', e = .returned v' ∧ Own w' w.heap.size v' (l ++ leb p.length ++ p) ∧ Below w.heap.size w w' := by
  go_enter Try.func23, Try.ntmps23
  go_wp2_with (go_at_call 39; refine (countedB_any v u l p _ hv hu hl hp).mono ?_; rintro e w1 ⟨v1, rfl, ho1, hb1⟩)
  go_ret
  exact ⟨v1, rfl, ho1, hb1⟩

theorem checkLast_any (c : UInt8) (k : Nat) (w : World) (hk : k ≤ 9) (e0 : Int) (he : e0 = if k = 9 ∧ 1 < c.toNat then 11 else if 0 < k ∧ c.toNat = 0 then 12 else 0) :
    Calls Try.prog 42 #[u8 c, .int .i64 k] w fun e w' => e = .returned (.int .i64 e0) ∧ w = w' := by
  unfold u8
  have hc := c.toNat_lt
  by_cases h9 : k = 9
  · subst h9
    by_cases h1 : 1 < c.toNat
    · rw [if_pos ⟨rfl, h1⟩] at he
      subst he
      go_enter Try.func42, Try.ntmps42
      go_wp2
      go_ret
      exact ⟨rfl, rfl⟩
    · rw [if_neg (by omega)] at he
      by_cases h0 : c.toNat = 0
      · rw [if_pos ⟨by omega, h0⟩] at he
        subst he
        have h0' : ((c.toNat : Int) == 0) = true := by simp [h0]
        go_enter Try.func42, Try.ntmps42
        go_wp2
        go_ret
        exact ⟨rfl, rfl⟩
      · rw [if_neg (by omega)] at he
        subst he
        have h0' : ((c.toNat : Int) == 0) = false := by simp; omega
        go_enter Try.func42, Try.ntmps42
        go_wp2
        go_ret
        exact ⟨rfl, rfl⟩
  · rw [if_neg (by omega)] at he
    have h9' : ((k : Int) == 9) = false := by simp; omega
    by_cases hk0 : 0 < k
    · by_cases h0 : c.toNat = 0
      · rw [if_pos ⟨by omega, h0⟩] at he
        subst he
        have h0' : ((c.toNat : Int) == 0) = true := by simp [h0]
        go_enter Try.func42, Try.ntmps42
        go_wp2
        go_ret
        exact ⟨rfl, rfl⟩
      · rw [if_neg (by omega)] at he
        subst he
        have h0' : ((c.toNat : Int) == 0) = false := by simp; omega
        go_enter Try.func42, Try.ntmps42
        go_wp2
        go_ret
        exact ⟨rfl, rfl⟩
    · rw [if_neg (by omega)] at he
      subst he
      obtain rfl : k = 0 := by omega
      go_enter Try.func42, Try.ntmps42
      go_wp2
      go_ret
      exact ⟨rfl, rfl⟩

theorem and128_hi : ∀ c : Fin 256, 128 ≤ c.val → c.val &&& 128 = 128 := by decide +kernel
theorem and128_lo : ∀ c : Fin 256, c.val < 128 → c.val &&& 128 = 0 := by decide +kernel
theorem not128 : ∀ c : Fin 256, c.val &&& 127 = c.val % 128 := by decide +kernel

theorem u8_and128_hi (c : UInt8) (h : 128 ≤ c.toNat) : bits BinOp.and IntKind.u8 (c.toNat : Int) 128 = 128 := by
  have h1 := u8_and_nat c.toNat 128 c.toNat_lt (by omega)
  rw [and128_hi ⟨c.toNat, c.toNat_lt⟩ h] at h1
  exact h1
theorem u8_and128_lo (c : UInt8) (h : c.toNat < 128) : bits BinOp.and IntKind.u8 (c.toNat : Int) 128 = 0 := by
  have h1 := u8_and_nat c.toNat 128 c.toNat_lt (by omega)
  rw [and128_lo ⟨c.toNat, c.toNat_lt⟩ h] at h1
  exact h1
theorem u8_andNot128 (c : UInt8) : bits BinOp.andNot IntKind.u8 (c.toNat : Int) 128 = ((c.toNat % 128 : Nat) : Int) := by
  have h1 := u8_andNot_nat c.toNat 128 c.toNat_lt (by omega)
  have h2 := not128 ⟨c.toNat, c.toNat_lt⟩
  simp only at h2
  rw [show 255 - 128 = 127 from rfl, h2] at h1
  exact h1

theorem pow7 (k : Nat) : (2 : Nat) ^ (7 * k) = 128 ^ k := by rw [Nat.pow_mul]

theorem wrap_shift (m k : Nat) (h : m * 128 ^ k < 18446744073709551616) : IntKind.u64.wrap ((m : Int) * 2 ^ (7 * k)) = ((m * 128 ^ k : Nat) : Int) := by
  have e : (m : Int) * 2 ^ (7 * k) = ((m * 128 ^ k : Nat) : Int) := by rw [← pow7]; push_cast; rfl
  rw [e, IntKind.wrap_u64]; omega

theorem pow128_le {k j : Nat} (h : k ≤ j) : 128 ^ k ≤ 128 ^ j := Nat.pow_le_pow_right (by omega) h

theorem shift_fits (m k : Nat) (hm : m < 128) (hk : k ≤ 8 ∨ (k = 9 ∧ m ≤ 1)) : m * 128 ^ k < 18446744073709551616 := by
  rcases hk with h | ⟨rfl, h⟩
  · have h1 := pow128_le h
    have h2 : m * 128 ^ k ≤ 127 * 128 ^ 8 := Nat.mul_le_mul (by omega) h1
    exact Nat.lt_of_le_of_lt h2 (by decide)
  · exact Nat.lt_of_le_of_lt (Nat.mul_le_mul_right _ h) (by decide)

theorem or_shift (V m k : Nat) (hV : V < 128 ^ k) (hm : m < 128) (hk : k ≤ 8 ∨ (k = 9 ∧ m ≤ 1)) :
    bits BinOp.or IntKind.u64 (V : Int) (IntKind.u64.wrap ((m : Int) * 2 ^ (7 * k))) = ((V + m * 128 ^ k : Nat) : Int) := by
  have hf := shift_fits m k hm hk
  have hV' : V < 18446744073709551616 := Nat.lt_of_lt_of_le hV (Nat.le_trans (pow128_le (show k ≤ 9 by omega)) (by decide))
  rw [wrap_shift m k hf, u64_or_nat _ _ hV' hf, Nat.or_comm, nat_join (7 * k) _ _ (by rw [pow7]; exact Nat.mul_mod_left _ _) (by rw [pow7]; exact hV), Nat.add_comm]

theorem or_some (V : Nat) (n : Int) (hV : V < 18446744073709551616) : ∃ U : Nat, bits BinOp.or IntKind.u64 (V : Int) (IntKind.u64.wrap n) = (U : Int) := by
  have e : IntKind.u64.wrap n = ((IntKind.u64.wrap n).toNat : Int) := by rw [IntKind.wrap_u64]; omega
  have hl : (IntKind.u64.wrap n).toNat < 18446744073709551616 := by rw [IntKind.wrap_u64]; omega
  rw [e]
  exact ⟨_, u64_or_nat _ _ hV hl⟩

/-- A triple as the function hands it back. -/
def tri (r : Nat × Int × Int) : Value := .tuple #[.int .u64 r.1, .int .i64 r.2.1, .int .i64 r.2.2]

theorem tri_eq {a b c : Int} (r : Nat × Int × Int) (ha : a = r.1) (hb : b = r.2.1) (hc : c = r.2.2) :
    Ending.returned (.tuple #[.int .u64 a, .int .i64 b, .int .i64 c]) = .returned (tri r) := by subst ha hb hc; rfl

set_option maxRecDepth 100000 in
set_option maxHeartbeats 400000 in
theorem uint_any (v : Value) (l : List UInt8) (i : Int) (w : World) (B : Nat) (hv : Bs w B v l) (hl : l.length ≤ 1000000000) :
    Calls Try.prog 25 #[v, .int .i64 i] w fun e w' => e = .returned (tri (uS l i)) ∧ w = w' := by
  have HV := Lib.hid hv
  obtain ⟨A, cap, rfl⟩ := hv.form
  clear hv
  by_cases h0 : i < 0
  · have E := Lib.hid (uS_bad (l := l) (Or.inl h0))
    go_enter Try.func25, Try.ntmps25
    go_wp2
    go_ret3
    exact ⟨by rw [E.out]; rfl, rfl⟩
  by_cases h1 : (l.length : Int) < i
  · have E := Lib.hid (uS_bad (l := l) (Or.inr h1))
    go_enter Try.func25, Try.ntmps25
    go_wp2
    go_ret3
    exact ⟨by rw [E.out]; rfl, rfl⟩
  obtain ⟨j, rfl⟩ := Int.eq_ofNat_of_zero_le (show 0 ≤ i by omega)
  have hj : j ≤ l.length := by omega
  go_enter Try.func25, Try.ntmps25
  go_wp2_with (refine wp_cut 22 5 Try.underlying22 size_u8 (.tmp 19) (some (.tmp 20)) none rfl rfl rfl HV.out j (l.length - j) (Or.inr ⟨_, _, rfl, rfl⟩) (Or.inl ⟨rfl, (by omega)⟩) (by omega) ?_; intro A1 c1 hr1)
  have hr2 : Bs w B (.slice A1 (l.length - j) c1) (l.drop j) := by
    unfold Bs
    have : ((u8s l).drop (j * 1)).take ((l.length - j) * 1) = u8s (l.drop j) := by
      rw [Nat.mul_one, Nat.mul_one, List.take_of_length_le (by rw [List.length_drop, u8s_length]; exact Nat.le_refl _)]
      simp [u8s]
    rw [this] at hr1
    rw [List.length_drop]; exact hr1
  clear hr1
  go_loop [4, 22] (fun x n => ∃ (k V : Nat) (acc : Nat), k ≤ 10 ∧ n = .int .i64 k ∧ x = .int .u64 V ∧ (k ≤ 9 → V = acc ∧ acc < 128 ^ k) ∧ Hid (dgo (10 - k) k acc (l.drop (j + k)) = dgo 10 0 0 (l.drop j)) ∧ j + k ≤ l.length) (fun _ n => 10 - (intOf n).toNat)
  case atStart => exact ⟨0, 0, 0, by omega, rfl, rfl, fun _ => ⟨rfl, by simp⟩, rfl, by omega⟩
  case round =>
    obtain ⟨k, V, acc, hk, rfl, rfl, hacc, HD, hjk⟩ := hrel
    by_cases hk10 : k = 10
    · subst hk10
      have E := Lib.hid (uS_err hj (HD.out.symm) (by decide))
      go_wp2
      go_ret3
      exact ⟨by rw [E.out]; rfl, rfl⟩
    by_cases hend : j + k = l.length
    · have hd : l.drop (j + k) = [] := by rw [hend]; simp
      rw [hd, show 10 - k = (9 - k) + 1 by omega] at HD
      have E := Lib.hid (uS_err hj (HD.out.symm) (by decide))
      have ht : ((k : Int) == (l.length : Int) - (j : Int)) = true := by simp; omega
      clear hd
      go_wp2
      go_ret3
      exact ⟨by rw [E.out]; rfl, rfl⟩
    have hlt : j + k < l.length := by omega
    obtain ⟨c, hc⟩ : ∃ c, (l.drop j)[k]? = some c := ⟨l[j + k], by rw [List.getElem?_drop, List.getElem?_eq_getElem hlt]⟩
    have hcu : (u8s (l.drop j))[k]? = some (.int .u8 (c.toNat : Int)) := by simp only [u8s, List.getElem?_map, hc]; rfl
    have hcl := c.toNat_lt
    have hdr : l.drop (j + k) = c :: l.drop (j + (k + 1)) := by
      have h2 : l[j + k] = c := by rw [List.getElem?_drop, List.getElem?_eq_getElem hlt] at hc; exact Option.some.inj hc
      rw [List.drop_eq_getElem_cons hlt, h2]; rfl
    rw [hdr, show 10 - k = (9 - k) + 1 by omega] at HD
    have HCU := Lib.hid hcu
    clear hdr hc hcu
    have hne : ((k : Int) == (l.length : Int) - (j : Int)) = false := by simp; omega
    have hnot := u8_andNot128 c
    by_cases hbig : 128 ≤ c.toNat
    · have hand := u8_and128_hi c hbig
      go_wp2_with (refine wp_at 22 5 Try.underlying22 size_u8 (.tmp 29) (.tmp 30) rfl rfl rfl hr2 _ _ k _ rfl rfl HCU.out ?_; intro p hpb hpc)
      go_roundw
      case rel =>
        obtain ⟨rfl, hV⟩ := hacc (by omega)
        by_cases hk9 : k = 9
        · subst hk9
          obtain ⟨U, hU⟩ := or_some V ((c.toNat : Int) % 128 * 2 ^ (7 * 9)) (Nat.lt_of_lt_of_le hV (by decide))
          refine ⟨10, U, V + (c.toNat - 128) * 128 ^ 9, by omega, by go_num, by rw [hU], fun h => absurd h (by omega), ?_, by omega⟩
          have h := HD.out
          rw [dgo, if_pos hbig] at h
          exact h
        · refine ⟨k + 1, V + (c.toNat % 128) * 128 ^ k, V + (c.toNat % 128) * 128 ^ k, by omega, by go_num, ?_, fun _ => ⟨rfl, ?_⟩, ?_, by omega⟩
          · have := or_shift V (c.toNat % 128) k hV (by omega) (Or.inl (by omega))
            rw [← this]; rfl
          · rw [Nat.pow_succ]
            have : c.toNat % 128 * 128 ^ k ≤ 127 * 128 ^ k := Nat.mul_le_mul_right _ (by omega)
            omega
          · have h := HD.out
            rw [dgo, if_pos hbig, show c.toNat - 128 = c.toNat % 128 by omega] at h
            rw [show 10 - (k + 1) = 9 - k by omega]
            exact h
      case measure => simp [intOf]; omega
    · have hand := u8_and128_lo c (by omega)
      obtain ⟨rfl, hV⟩ := hacc (by omega)
      have hD := HD.out
      rw [dgo, if_neg hbig] at hD
      generalize hE : (if k = 9 ∧ 1 < c.toNat then (11 : Int) else if 0 < k ∧ c.toNat = 0 then 12 else 0) = E0
      have HE := Lib.hid hE
      clear hE HD
      have HD := Lib.hid hD
      clear hD
      by_cases he : E0 = 0
      · subst he
        have h1 : ¬ (k = 9 ∧ 1 < c.toNat) := fun h => by have := HE.out; rw [if_pos h] at this; cases this
        have h2 : ¬ (0 < k ∧ c.toNat = 0) := fun h => by have := HE.out; rw [if_neg h1, if_pos h] at this; cases this
        have h3 := HD.out
        rw [if_neg h1, if_neg h2] at h3
        have hor := or_shift V (c.toNat % 128) k hV (by omega) (by omega)
        have hcm : c.toNat % 128 = c.toNat := by omega
        have HU := Lib.hid (uS_good hj h3.symm)
        have HO := Lib.hid (hor.trans (by rw [hcm]) : _ = ((V + c.toNat * 128 ^ k : Nat) : Int))
        clear h3 hor hcm
        go_wp2_with (first
          | (go_at_call 42; refine (checkLast_any c k _ (by omega) 0 HE.out.symm).mono ?_; rintro e w' ⟨rfl, rfl⟩)
          | (refine wp_at 22 5 Try.underlying22 size_u8 (.tmp 29) (.tmp 30) rfl rfl rfl hr2 _ _ k _ rfl rfl HCU.out ?_; intro p hpb hpc))
        go_ret3
        refine ⟨?_, rfl⟩
        rw [HU.out]
        exact tri_eq _ HO.out (by simp only; omega) rfl
      · obtain ⟨N, hN, hN0, hd⟩ : ∃ N : Nat, E0 = (N : Int) ∧ N ≠ 0 ∧ dgo 10 0 0 (l.drop j) = (0, 0, N) := by
          have h1 := HE.out
          have h2 := HD.out
          by_cases c1 : k = 9 ∧ 1 < c.toNat
          · rw [if_pos c1] at h1 h2; exact ⟨11, h1.symm, by decide, h2.symm⟩
          · rw [if_neg c1] at h1 h2
            by_cases c2 : 0 < k ∧ c.toNat = 0
            · rw [if_pos c2] at h1 h2; exact ⟨12, h1.symm, by decide, h2.symm⟩
            · rw [if_neg c2] at h1; exact absurd h1.symm he
        have HU := Lib.hid (uS_err hj hd hN0)
        have HN := Lib.hid hN
        have hb : (E0 != 0) = true := by simp [he]
        clear hd hN
        go_wp2_with (first
          | (go_at_call 42; refine (checkLast_any c k _ (by omega) E0 HE.out.symm).mono ?_; rintro e w' ⟨rfl, rfl⟩)
          | (refine wp_at 22 5 Try.underlying22 size_u8 (.tmp 29) (.tmp 30) rfl rfl rfl hr2 _ _ k _ rfl rfl HCU.out ?_; intro p hpb hpc))
        go_ret3
        refine ⟨?_, rfl⟩
        rw [HU.out]
        exact tri_eq _ rfl rfl HN.out

theorem uS_form (l : List UInt8) (i : Int) : ∃ (v : Nat) (n e : Int), uS l i = (v, n, e) ∧ v < M64 ∧ (e = 0 ∨ (v = 0 ∧ n = 0)) ∧ 0 ≤ n ∧ n ≤ l.length := by
  by_cases h : (uS l i).2.2 = 0
  · obtain ⟨j, v, n, rfl, h1, h2, h3, h4, h5, _⟩ := uS_ok h
    exact ⟨v, _, 0, h2, h3, Or.inl rfl, by omega, by omega⟩
  · unfold uS at h ⊢
    by_cases h0 : i < 0 ∨ (l.length : Int) < i
    · rw [if_pos h0]; exact ⟨0, 0, 1, rfl, by decide, Or.inr ⟨rfl, rfl⟩, by omega, by omega⟩
    · rw [if_neg h0] at h ⊢
      by_cases h1 : (dgo 10 0 0 (l.drop i.toNat)).2.2 = 0
      · rw [if_pos h1] at h; simp at h
      · rw [if_neg h1]; exact ⟨0, 0, _, rfl, by decide, Or.inr ⟨rfl, rfl⟩, by omega, by omega⟩

theorem uS_fine {l : List UInt8} {i : Int} (h : (uS l i).2.2 = 0) : ∃ v s : Nat, uS l i = (v, (s : Int), 0) ∧ v < M64 ∧ s ≤ l.length := by
  obtain ⟨j, v, n, rfl, h1, h2, h3, h4, h5, _⟩ := uS_ok h
  exact ⟨v, j + n, by rw [h2]; simp, h3, h5⟩

theorem cut_bs {w : World} {B j k : Nat} {v : Value} {l : List UInt8} (h : Row w B 1 k v (((u8s l).drop (j * 1)).take (k * 1))) (hn : j + k ≤ l.length) :
    Bs w B v ((l.drop j).take k) := by
  unfold Bs
  have e : ((u8s l).drop (j * 1)).take (k * 1) = u8s ((l.drop j).take k) := by simp [u8s]
  have e2 : ((l.drop j).take k).length = k := by rw [List.length_take, List.length_drop]; omega
  rw [e2, ← e]; exact h

/-- The answer of a decoder of byte strings: a slice that reads p, or the string p. -/
def BRes (w : World) (r : List UInt8 × Int × Int) (e : Ending) (w' : World) : Prop :=
  ∃ v', e = .returned (.tuple #[v', .int .i64 r.2.1, .int .i64 r.2.2]) ∧ Bs w' w'.heap.size v' r.1 ∧ Below w.heap.size w w'
def SRes (r : List UInt8 × Int × Int) : Value := .tuple #[str r.1, .int .i64 r.2.1, .int .i64 r.2.2]

set_option maxRecDepth 100000 in
set_option maxHeartbeats 400000 in
theorem countedB_read (v : Value) (l : List UInt8) (i m : Int) (w : World) (hv : Bs w w.heap.size v l) (hl : l.length ≤ 1000000000) (hm : m ≤ 9223372036854775807) :
    Calls Try.prog 43 #[v, .int .i64 i, .int .i64 m] w (BRes w (bS l i m)) := by
  have HV := Lib.hid hv
  obtain ⟨A, cap, rfl⟩ := hv.form
  clear hv
  by_cases h0 : m < 0
  · have E := Lib.hid (show bS l i m = ([], 0, 1) by unfold bS; rw [if_pos h0])
    go_enter Try.func43, Try.ntmps43
    go_wp2
    go_ret3
    exact ⟨_, by rw [E.out]; rfl, by rw [E.out]; exact Bs.nil_ _ _, Below.refl _ _⟩
  by_cases he : (uS l i).2.2 = 0
  · obtain ⟨x, s, hx, hb, hs⟩ := uS_fine he
    have hx' : x ≤ 18446744073709551615 := by unfold M64 at hb; omega
    have HX := Lib.hid hx
    by_cases h2 : m < (x : Int)
    · have E := Lib.hid (show bS l i m = ([], 0, 2) by unfold bS; rw [if_neg h0, if_neg (by simpa using he), hx, if_pos h2])
      clear hx he
      go_enter Try.func43, Try.ntmps43
      go_wp2_with (go_at_call 25; refine (uint_any _ l i _ _ HV.out hl).mono ?_; rintro e w' ⟨rfl, rfl⟩; rw [HX.out]; unfold tri)
      go_ret3
      exact ⟨_, by rw [E.out]; rfl, by rw [E.out]; exact Bs.nil_ _ _, Below.refl _ _⟩
    by_cases h3 : (l.length : Int) - s < (x : Int)
    · have E := Lib.hid (show bS l i m = ([], 0, 10) by unfold bS; rw [if_neg h0, if_neg (by simpa using he), hx, if_neg h2, if_pos h3])
      clear hx he
      go_enter Try.func43, Try.ntmps43
      go_wp2_with (go_at_call 25; refine (uint_any _ l i _ _ HV.out hl).mono ?_; rintro e w' ⟨rfl, rfl⟩; rw [HX.out]; unfold tri)
      go_ret3
      exact ⟨_, by rw [E.out]; rfl, by rw [E.out]; exact Bs.nil_ _ _, Below.refl _ _⟩
    have E := Lib.hid (show bS l i m = ((l.drop s).take x, (s : Int) + x, 0) by unfold bS; rw [if_neg h0, if_neg (by simpa using he), hx, if_neg h2, if_neg h3]; rfl)
    clear hx he
    have hsx : s + x ≤ l.length := by omega
    have hlen : ((l.drop s).take x).length ≤ maxLen := by rw [List.length_take, List.length_drop]; simp only [maxLen]; omega
    go_enter Try.func43, Try.ntmps43
    go_wp2_with (first
      | (go_at_call 25; refine (uint_any _ l i _ _ HV.out hl).mono ?_; rintro e w' ⟨rfl, rfl⟩; rw [HX.out]; unfold tri)
      | (refine wp_cut 22 5 Try.underlying22 size_u8 (.tmp 45) (some (.tmp 46)) (some (.tmp 47)) rfl rfl rfl HV.out s x (Or.inr ⟨_, _, rfl, rfl⟩) (Or.inr ⟨_, _, rfl, (by push_cast; rfl)⟩) hsx ?_; intro A1 c1 hr1; have hcv := (cut_bs hr1 hsx).str)
      | (refine wp_ofstr (.tmp 49) rfl rfl _ rfl hlen ?_; intro v2 w2 hr2 hb2))
    go_ret3
    refine ⟨v2, by rw [E.out]; rfl, ?_, hb2⟩
    rw [E.out]
    exact hr2
  · obtain ⟨x, n, er, hx, hb, hz, _, _⟩ := uS_form l i
    have her : er ≠ 0 := by rw [hx] at he; exact he
    obtain ⟨rfl, rfl⟩ := hz.resolve_left her
    have HX := Lib.hid hx
    have ht : (er != 0) = true := by simp [her]
    have E := Lib.hid (show bS l i m = ([], 0, er) by unfold bS; rw [if_neg h0, if_pos he, hx])
    clear hx he
    go_enter Try.func43, Try.ntmps43
    go_wp2_with (go_at_call 25; refine (uint_any _ l i _ _ HV.out hl).mono ?_; rintro e w' ⟨rfl, rfl⟩; rw [HX.out]; unfold tri)
    go_ret3
    exact ⟨_, by rw [E.out]; rfl, by rw [E.out]; exact Bs.nil_ _ _, Below.refl _ _⟩

theorem bytes_any (v : Value) (l : List UInt8) (i m : Int) (w : World) (hv : Bs w w.heap.size v l) (hl : l.length ≤ 1000000000) (hm : m ≤ 9223372036854775807) :
    Calls Try.prog 26 #[v, .int .i64 i, .int .i64 m] w (BRes w (bS l i m)) := by
  go_enter Try.func26, Try.ntmps26
  go_wp2_with (go_at_call 43; refine (countedB_read v l i m _ hv hl hm).mono ?_; rintro e w1 ⟨v1, rfl, h1, h2⟩)
  go_ret3
  exact ⟨v1, rfl, h1, h2⟩

end Go.Proofs.Ytokjlcajcflhgaa
