/-
  Walks of package varint: the functions that append.
-/
import Derived.Test.YtgllhelpfjinbaaByt
import Derived.Test.YtgllhelpfjinbaaLeb
import Derived.Outline
namespace Go.Proofs.Ytgllhelpfjinbaa
open Go.RowKit
set_option linter.unusedVariables false
set_option linter.unusedSimpArgs false

theorem or_128' : ∀ y : Fin 256, (y.val ||| 128) = y.val % 128 + 128 := by decide +kernel
theorem or_128 (y : Nat) : bits BinOp.or IntKind.u8 ((y : Int) % 256) 128 = ((b8 (y % 128 + 128)).toNat : Int) := by
  have h := u8_or_nat (y % 256) 128 (by omega) (by omega)
  have h2 := or_128' ⟨y % 256, by omega⟩
  simp only at h2
  rw [b8_toNat (by omega)]
  have e : (y : Int) % 256 = ((y % 256 : Nat) : Int) := by omega
  rw [e]
  refine h.trans ?_
  rw [h2]; omega

set_option maxRecDepth 100000 in
set_option maxHeartbeats 400000 in
theorem groups_any (base : Nat) (v : Value) (out : List UInt8) (x : Nat) (w : World) (hx : x < M64) (hT : (out ++ leb x).length ≤ 140737488355328)
    (hown : Own w base v out) (hbase : base ≤ w.heap.size) :
    Calls Try.prog 29 #[v, .int .u64 x] w fun e w' => ∃ v', e = .returned v' ∧ Own w' base v' (out ++ leb x) ∧ Below base w w' := by
  have HT := Lib.hid hT
  clear hT
  go_enter Try.func29, Try.ntmps29
  go_wp2
  go_loopw [0, 1] (fun b n wr => ∃ (y : Nat) (o : List UInt8), n = .int .u64 y ∧ y < M64 ∧ o ++ leb y = out ++ leb x ∧ Own wr base b o ∧ Below base w wr) (fun _ n _ => (intOf n).toNat)
  case atStart => exact ⟨x, out, rfl, hx, rfl, hown, Below.refl _ _⟩
  case round =>
    obtain ⟨y, o, rfl, hy, hl, ho, hb⟩ := hrel
    have HL := Lib.hid hl
    clear hl
    have hlen : o.length + 1 ≤ 140737488355328 := by
      have h1 := HT.out; have h2 := leb_pos y
      rw [← HL.out, List.length_append] at h1; omega
    have hbw : base ≤ wr.heap.size := Nat.le_trans hbase hb.size
    by_cases hlt : y < 128
    · go_wp2_with (at_builtin; refine wp_app1 base (.tmp 15) (.tmp 18) rfl rfl _ o _ (b8 y) rfl rfl ho hbw hlen ?_ ?_; exact (by rw [b8_toNat (by omega)]); intro v1 w1 hown1 hb1)
      go_ret
      refine ⟨v1, rfl, ?_, hb.trans hb1⟩
      rw [← HL.out, leb_small hlt]
      exact hown1
    · go_wp2_with (at_builtin; refine wp_app1 base (.tmp 7) (.tmp 11) rfl rfl _ o _ (b8 (y % 128 + 128)) rfl rfl ho hbw hlen (or_128 y) ?_; intro v1 w1 hown1 hb1)
      go_roundw
      case rel =>
        refine ⟨y / 128, _, by go_num, Nat.lt_of_le_of_lt (Nat.div_le_self _ _) hy, ?_, hown1, hb.trans hb1⟩
        rw [← HL.out, leb_big hlt]; simp
      case measure => simp [intOf]; omega

theorem copyOf_any (v : Value) (l : List UInt8) (m : Int) (w : World) (hv : Bs w w.heap.size v l) (h0 : 0 ≤ m) (h1 : (l.length : Int) + m ≤ 140737488355328) :
    Calls Try.prog 30 #[v, .int .i64 m] w fun e w' => ∃ v', e = .returned v' ∧ Own w' w.heap.size v' l ∧ Below w.heap.size w w' := by
  obtain ⟨M, rfl⟩ := Int.eq_ofNat_of_zero_le h0
  have HV := Lib.hid hv
  obtain ⟨A, cap, rfl, _, _, _, _, _⟩ := hv
  go_enter Try.func30, Try.ntmps30
  go_wp2_with (first
    | (at_make; refine wp_make0 w.heap.size _ _ rfl rfl _ (l.length + M) rfl rfl ?_ ?_ (Nat.le_refl _) ?_; exact (by push_cast; rfl); exact (by omega); intro v1 w1 ho1 hb1)
    | (at_builtin; refine wp_apps w.heap.size (.tmp 9) (.tmp 10) rfl rfl _ _ [] l rfl rfl ho1 hb1.size (Bs.past HV.out hb1) ?_ ?_; exact (by simp; omega); intro v2 w2 ho2 hb2))
  go_ret
  exact ⟨v2, rfl, by simpa using ho2, hb1.trans hb2⟩

theorem appendUint_any (v : Value) (l : List UInt8) (x : Nat) (w : World) (hv : Bs w w.heap.size v l) (hx : x < M64) (hl : l.length ≤ 1000000000) :
    Calls Try.prog 17 #[v, .int .u64 x] w fun e w' => ∃ v', e = .returned v' ∧ Own w' w.heap.size v' (l ++ leb x) ∧ Below w.heap.size w w' := by
  have h10 := leb_ten hx
  go_enter Try.func17, Try.ntmps17
  go_wp2_with (first
    | (go_at_call 30; refine (copyOf_any v l 10 _ hv (by omega) (by omega)).mono ?_; rintro e w1 ⟨v1, rfl, ho1, hb1⟩)
    | (go_at_call 29; refine (groups_any w.heap.size v1 l x _ hx (by simp; omega) ho1 hb1.size).mono ?_; rintro e w2 ⟨v2, rfl, ho2, hb2⟩))
  go_ret
  exact ⟨v2, rfl, ho2, hb1.trans hb2⟩
/-- A literal slice without elements. -/
theorem own_lit0 (w : World) : Own (w.alloc (.cells #[] 5)) w.heap.size (.slice (some ⟨w.heap.size, 0, none⟩) 0 0) [] :=
  World.ownsRow_lit w #[] 0 (Nat.le_refl _) (by simp [maxLen]) rfl

set_option maxRecDepth 100000 in
set_option maxHeartbeats 400000 in
theorem refAppendUint_any (v : Value) (l : List UInt8) (x : Nat) (w : World) (hv : Bs w w.heap.size v l) (hx : x < M64) (hl0 : l.length ≤ 1000000000) :
    Calls Try.prog 18 #[v, .int .u64 x] w fun e w' => ∃ v', e = .returned v' ∧ Own w' w.heap.size v' (l ++ leb x) ∧ Below w.heap.size w w' := by
  have h10 := leb_ten hx
  have HT := Lib.hid (show (l ++ leb x).length ≤ 140737488355328 by simp; omega)
  have HV := Lib.hid hv
  clear h10
  go_enter Try.func18, Try.ntmps18
  go_wp2_with (at_builtin; refine wp_apps w.heap.size (.tmp 6) (.tmp 7) rfl rfl _ _ [] l rfl rfl (own_lit0 w) (by simp) (Bs.past HV.out ((Below.refl _ _).alloc (Nat.le_refl _) _)) ?_ ?_; exact (by simp; omega); intro v1 w1 ho1 hb1)
  have hbw1 : Below w.heap.size w w1 := ((Below.refl _ _).alloc (Nat.le_refl _) _).trans hb1
  rw [List.nil_append] at ho1
  go_loopw [5, 1] (fun b n wr => ∃ (y : Nat) (o : List UInt8), n = .int .u64 y ∧ y < M64 ∧ o ++ leb y = l ++ leb x ∧ Own wr w.heap.size b o ∧ Below w.heap.size w wr) (fun _ n _ => (intOf n).toNat)
  case atStart => exact ⟨x, l, rfl, hx, rfl, ho1, hbw1⟩
  case round =>
    obtain ⟨y, o, rfl, hy, hl, ho, hb⟩ := hrel
    have HL := Lib.hid hl
    clear hl
    have hlen : o.length + 1 ≤ 140737488355328 := by
      have h1 := HT.out; have h2 := leb_pos y
      rw [← HL.out, List.length_append] at h1; omega
    have hbw : w.heap.size ≤ wr.heap.size := hb.size
    have hy' : y ≤ 18446744073709551615 := by unfold M64 at hy; omega
    by_cases hlt : y < 128
    · go_wp2_with (at_builtin; refine wp_app1 w.heap.size (.tmp 20) (.tmp 23) rfl rfl _ o _ (b8 y) rfl rfl ho hbw hlen ?_ ?_; exact (by rw [b8_toNat (by omega)]); intro v1 w1 hown1 hb1)
      go_ret
      refine ⟨v1, rfl, ?_, hb.trans hb1⟩
      rw [← HL.out, leb_small hlt]
      exact hown1
    · go_wp2_with (at_builtin; refine wp_app1 w.heap.size (.tmp 11) (.tmp 16) rfl rfl _ o _ (b8 (y % 128 + 128)) rfl rfl ho hbw hlen ?_ ?_; exact (by rw [b8_toNat (by omega)]; omega); intro v1 w1 hown1 hb1)
      go_roundw
      case rel =>
        refine ⟨y / 128, _, by go_num, Nat.lt_of_le_of_lt (Nat.div_le_self _ _) hy, ?_, hown1, hb.trans hb1⟩
        rw [← HL.out, leb_big hlt]; simp
      case measure => simp [intOf]; omega

theorem xor_ones (a b : Nat) (h : a = 18446744073709551615 - b) (hb : b ≤ 18446744073709551615) : (b ^^^ 18446744073709551615 : Nat) = a := by
  subst h
  have h1 := BitVec.toNat_not (x := BitVec.ofNat 64 b)
  have h2 : (BitVec.ofNat 64 b ^^^ BitVec.allOnes 64) = ~~~ (BitVec.ofNat 64 b) := BitVec.xor_allOnes
  have h3 := congrArg BitVec.toNat h2
  rw [h1, BitVec.toNat_xor, BitVec.toNat_ofNat, BitVec.toNat_allOnes] at h3
  have e : b % 2 ^ 64 = b := Nat.mod_eq_of_lt (by omega)
  rw [e] at h3
  simpa using h3

theorem xor_neg (v : Int) (h1 : -9223372036854775808 ≤ v) (h : v < 0) :
    bits BinOp.xor IntKind.u64 (IntKind.u64.wrap (IntKind.u64.wrap v * 2)) (IntKind.u64.wrap (v / 9223372036854775808)) = (zz v : Int) := by
  have e1 : IntKind.u64.wrap (IntKind.u64.wrap v * 2) = ((18446744073709551615 - zz v : Nat) : Int) := by
    rw [IntKind.wrap_u64, IntKind.wrap_u64]; unfold zz; rw [if_neg (by omega)]; omega
  have e2 : IntKind.u64.wrap (v / 9223372036854775808) = ((18446744073709551615 : Nat) : Int) := by
    rw [IntKind.wrap_u64]; omega
  have hz : zz v < 18446744073709551616 := by unfold zz; rw [if_neg (by omega)]; omega
  rw [e1, e2, u64_xor_nat _ _ (by omega) (by omega), xor_ones (zz v) _ (by omega) (by omega)]

theorem xor_pos (v : Int) (h : 0 ≤ v) (h2 : v ≤ 9223372036854775807) : bits BinOp.xor IntKind.u64 (v * 2) (v / 9223372036854775808) = (zz v : Int) := by
  have e1 : v * 2 = ((zz v : Nat) : Int) := by unfold zz; rw [if_pos h]; omega
  have e2 : v / 9223372036854775808 = ((0 : Nat) : Int) := by omega
  have hz : zz v < 18446744073709551616 := by unfold zz; rw [if_pos h]; omega
  rw [e1, e2, u64_xor_nat _ _ hz (by omega)]; simp

theorem zigzag_any (v : Int) (w : World) (h1 : -9223372036854775808 ≤ v) (h2 : v ≤ 9223372036854775807) :
    Calls Try.prog 31 #[.int .i64 v] w fun e w' => e = .returned (.int .u64 (zz v)) ∧ w = w' := by
  by_cases h : 0 ≤ v
  · go_enter Try.func31, Try.ntmps31
    go_wp2
    go_ret
    exact ⟨by rw [← xor_pos v h h2]; rfl, rfl⟩
  · go_enter Try.func31, Try.ntmps31
    go_wp2
    go_ret
    exact ⟨by rw [← xor_neg v h1 h]; rfl, rfl⟩

theorem refZigzag_any (v : Int) (w : World) (h1 : -9223372036854775808 ≤ v) (h2 : v ≤ 9223372036854775807) :
    Calls Try.prog 32 #[.int .i64 v] w fun e w' => e = .returned (.int .u64 (zz v)) ∧ w = w' := by
  by_cases h : 0 ≤ v
  · have e : (zz v : Int) = 2 * v := by unfold zz; rw [if_pos h]; omega
    have E := Lib.hid e
    clear e
    go_enter Try.func32, Try.ntmps32
    go_wp2
    go_ret
    exact ⟨by rw [E.out]; rfl, rfl⟩
  · have e : (zz v : Int) = 2 * (-(v + 1)) + 1 := by unfold zz; rw [if_neg h]; omega
    have E := Lib.hid e
    clear e
    go_enter Try.func32, Try.ntmps32
    go_wp2
    go_ret
    exact ⟨by rw [E.out]; rfl, rfl⟩

theorem appendInt_any (v : Value) (l : List UInt8) (x : Int) (w : World) (hv : Bs w w.heap.size v l) (h1 : -9223372036854775808 ≤ x) (h2 : x ≤ 9223372036854775807) (hl : l.length ≤ 1000000000) :
    Calls Try.prog 19 #[v, .int .i64 x] w fun e w' => ∃ v', e = .returned v' ∧ Own w' w.heap.size v' (l ++ leb (zz x)) ∧ Below w.heap.size w w' := by
  have hz := zz_lt h1 h2
  go_enter Try.func19, Try.ntmps19
  go_wp2_with (first
    | (go_at_call 31; refine (zigzag_any x _ h1 h2).mono ?_; rintro e w' ⟨rfl, rfl⟩)
    | (go_at_call 17; refine (appendUint_any v l (zz x) _ hv hz hl).mono ?_; rintro e w2 ⟨v2, rfl, ho2, hb2⟩))
  go_ret
  exact ⟨v2, rfl, ho2, hb2⟩

theorem refAppendInt_any (v : Value) (l : List UInt8) (x : Int) (w : World) (hv : Bs w w.heap.size v l) (h1 : -9223372036854775808 ≤ x) (h2 : x ≤ 9223372036854775807) (hl : l.length ≤ 1000000000) :
    Calls Try.prog 20 #[v, .int .i64 x] w fun e w' => ∃ v', e = .returned v' ∧ Own w' w.heap.size v' (l ++ leb (zz x)) ∧ Below w.heap.size w w' := by
  have hz := zz_lt h1 h2
  go_enter Try.func20, Try.ntmps20
  go_wp2_with (first
    | (go_at_call 32; refine (refZigzag_any x _ h1 h2).mono ?_; rintro e w' ⟨rfl, rfl⟩)
    | (go_at_call 18; refine (refAppendUint_any v l (zz x) _ hv hz hl).mono ?_; rintro e w2 ⟨v2, rfl, ho2, hb2⟩))
  go_ret
  exact ⟨v2, rfl, ho2, hb2⟩

end Go.Proofs.Ytgllhelpfjinbaa
