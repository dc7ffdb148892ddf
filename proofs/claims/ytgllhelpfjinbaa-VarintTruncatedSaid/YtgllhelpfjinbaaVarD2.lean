/-
  Walks of package varint and of its reference: reading integers, byte strings and strings.
-/
import Derived.Test.YtgllhelpfjinbaaVarD1
namespace Go.Proofs.Ytgllhelpfjinbaa
open Go.RowKit
set_option linter.unusedVariables false
set_option linter.unusedSimpArgs false

theorem i64_xor0 (a : Nat) (ha : a < 9223372036854775808) : bits BinOp.xor IntKind.i64 (a : Int) 0 = (a : Int) := by
  show IntKind.i64.wrap ((BitVec.ofInt 64 (a : Int) ^^^ BitVec.ofInt 64 0).toNat : Int) = _
  have h1 : BitVec.ofInt 64 0 = 0#64 := by decide
  rw [h1, BitVec.xor_zero, ofInt_u64 a (by omega), IntKind.wrap_i64]
  omega
theorem i64_xorm1 (a : Nat) (ha : a < 9223372036854775808) : bits BinOp.xor IntKind.i64 (a : Int) (-1) = -(a : Int) - 1 := by
  show IntKind.i64.wrap ((BitVec.ofInt 64 (a : Int) ^^^ BitVec.ofInt 64 (-1)).toNat : Int) = _
  have h1 : BitVec.ofInt 64 (-1) = BitVec.allOnes 64 := by decide
  rw [h1, BitVec.xor_allOnes, BitVec.toNat_not, ofInt_u64 a (by omega), IntKind.wrap_i64]
  omega
theorem u64_and1 (u : Nat) (hu : u < 18446744073709551616) : bits BinOp.and IntKind.u64 (u : Int) 1 = ((u % 2 : Nat) : Int) := by
  have h := u64_and_nat u 1 hu (by omega)
  rw [Nat.and_one_is_mod] at h
  exact h

theorem unzigzag_any (u : Nat) (w : World) (hu : u < M64) :
    Calls Try.prog 28 #[.int .u64 u] w fun e w' => e = .returned (.int .i64 (unzz u)) ∧ w = w' := by
  have hu' : u ≤ 18446744073709551615 := by unfold M64 at hu; omega
  have h1 := u64_and1 u (by omega)
  by_cases h : u % 2 = 0
  · rw [h] at h1
    have h2 := i64_xor0 (u / 2) (by omega)
    have E := Lib.hid (show unzz u = ((u / 2 : Nat) : Int) by unfold unzz; rw [if_pos h])
    have H2 := Lib.hid h2
    clear h h2
    go_enter Try.func28, Try.ntmps28
    go_wp2
    go_ret
    exact ⟨by rw [E.out, ← H2.out]; rfl, rfl⟩
  · rw [show u % 2 = 1 by omega] at h1
    have h2 := i64_xorm1 (u / 2) (by omega)
    have E := Lib.hid (show unzz u = -((u / 2 : Nat) : Int) - 1 by unfold unzz; rw [if_neg h])
    have H2 := Lib.hid h2
    clear h h2
    go_enter Try.func28, Try.ntmps28
    go_wp2
    go_ret
    exact ⟨by rw [E.out, ← H2.out]; rfl, rfl⟩

/-- A triple of three ints. -/
def tri3 (a b c : Int) : Value := .tuple #[.int .i64 a, .int .i64 b, .int .i64 c]

/-- What decoding a signed integer answers. -/
def iS (l : List UInt8) (i : Int) : Value := tri3 (unzz (uS l i).1) (uS l i).2.1 (uS l i).2.2

theorem uS_form (l : List UInt8) (i : Int) : ∃ (v : Nat) (n e : Int), uS l i = (v, n, e) ∧ v < M64 ∧ (e = 0 ∨ (v = 0 ∧ n = 0)) ∧ 0 ≤ n ∧ n ≤ l.length := by
  by_cases h : (uS l i).2.2 = 0
  · obtain ⟨j, v, n, rfl, h1, h2, h3, h4, h5, _⟩ := uS_ok h
    exact ⟨v, _, 0, h2, h3, Or.inl rfl, by omega, by omega⟩
  · unfold uS at h ⊢
    by_cases h0 : i < 0 ∨ (l.length : Int) < i
    · rw [if_pos h0]; exact ⟨0, 0, 1, rfl, by decide, Or.inr ⟨rfl, rfl⟩, by omega, by omega⟩
    · rw [if_neg h0] at h ⊢
      by_cases h1 : (dgo 10 0 0 (l.drop i.toNat)).2.2 = 0
      · rw [if_pos h1] at h; simp at h
      · rw [if_neg h1]; exact ⟨0, 0, _, rfl, by decide, Or.inr ⟨rfl, rfl⟩, by omega, by omega⟩

theorem int_any (v : Value) (l : List UInt8) (i : Int) (w : World) (B : Nat) (hv : Bs w B v l) (hl : l.length ≤ 1000000000) :
    Calls Try.prog 15 #[v, .int .i64 i] w fun e w' => e = .returned (iS l i) ∧ w = w' := by
  obtain ⟨x, n, er, hx, hb, _, _, _⟩ := uS_form l i
  have E := Lib.hid (show iS l i = tri3 (unzz x) n er by unfold iS; rw [hx])
  have HX := Lib.hid hx
  clear hx
  go_enter Try.func15, Try.ntmps15
  go_wp2_with (first
    | (go_at_call 13; refine (uint_any v l i _ B hv hl).mono ?_; rintro e w' ⟨rfl, rfl⟩; rw [HX.out]; unfold tri)
    | (go_at_call 28; refine (unzigzag_any x _ hb).mono ?_; rintro e w' ⟨rfl, rfl⟩))
  go_ret3
  exact ⟨by rw [E.out]; rfl, rfl⟩

theorem refInt_any (v : Value) (l : List UInt8) (i : Int) (w : World) (B : Nat) (hv : Bs w B v l) (hl : l.length ≤ 1000000000) :
    Calls Try.prog 16 #[v, .int .i64 i] w fun e w' => e = .returned (iS l i) ∧ w = w' := by
  obtain ⟨x, n, er, hx, hb, hz, _, _⟩ := uS_form l i
  have E := Lib.hid (show iS l i = tri3 (unzz x) n er by unfold iS; rw [hx])
  have HX := Lib.hid hx
  clear hx
  have hx' : x ≤ 18446744073709551615 := by unfold M64 at hb; omega
  by_cases he : er = 0
  · subst he
    by_cases h2 : x % 2 = 0
    · have hu : unzz x = ((x / 2 : Nat) : Int) := by unfold unzz; rw [if_pos h2]
      have HU := Lib.hid hu
      have ht : ((x : Int) % 2 == 1) = false := by simp; omega
      clear hu h2
      go_enter Try.func16, Try.ntmps16
      go_wp2_with (go_at_call 14; refine (refUint_any v l i _ B hv hl).mono ?_; rintro e w' ⟨rfl, rfl⟩; rw [HX.out]; unfold tri)
      go_ret3
      exact ⟨by rw [E.out, HU.out]; rfl, rfl⟩
    · have hu : unzz x = -((x / 2 : Nat) : Int) - 1 := by unfold unzz; rw [if_neg h2]
      have HU := Lib.hid hu
      have ht : ((x : Int) % 2 == 1) = true := by simp; omega
      clear hu h2
      go_enter Try.func16, Try.ntmps16
      go_wp2_with (go_at_call 14; refine (refUint_any v l i _ B hv hl).mono ?_; rintro e w' ⟨rfl, rfl⟩; rw [HX.out]; unfold tri)
      go_ret3
      exact ⟨by rw [E.out, HU.out]; rfl, rfl⟩
  · obtain ⟨rfl, rfl⟩ := hz.resolve_left he
    have ht : (er != 0) = true := by simp [he]
    go_enter Try.func16, Try.ntmps16
    go_wp2_with (go_at_call 14; refine (refUint_any v l i _ B hv hl).mono ?_; rintro e w' ⟨rfl, rfl⟩; rw [HX.out]; unfold tri)
    go_ret3
    exact ⟨by rw [E.out]; rfl, rfl⟩

end Go.Proofs.Ytgllhelpfjinbaa
