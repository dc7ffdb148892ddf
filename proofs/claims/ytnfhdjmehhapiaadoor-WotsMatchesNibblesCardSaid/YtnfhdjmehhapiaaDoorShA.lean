/-
  Walks of package sha256: rotations, the functions of words.
-/
import Derived.Test.YtnfhdjmehhapiaaDoorAgg
import Derived.Test.YtnfhdjmehhapiaaDoorSha
import Derived.Outline
import Derived.Deep.QuietTactic
import Derived.BigQuiet
import Derived.IntWalk
namespace Go.Proofs.YtnfhdjmehhapiaaDoor
open Go.RowKit
set_option linter.unusedVariables false
set_option linter.unusedSimpArgs false

theorem ret_u32 {a b : Int} (h : a = b) : Ending.returned (.int .u32 a) = .returned (.int .u32 b) := by rw [h]
theorem or_rot (n x : Nat) (h : x < 4294967296) : bits .or .u32 (((x * 2 ^ (32 - n) % 4294967296 : Nat)) : Int) ((x / 2 ^ n : Nat) : Int) = (Sha.rr n x : Int) := by
  rw [u32_or_nat _ _ (Nat.mod_lt _ (by omega)) (Sha.div_lt _ h), Nat.or_comm]
  rfl
theorem or_rot' (n x : Nat) (h : x < 4294967296) : bits .or .u32 ((x / 2 ^ n : Nat) : Int) (((x * 2 ^ (32 - n) % 4294967296 : Nat)) : Int) = (Sha.rr n x : Int) := by
  rw [u32_or_nat _ _ (Sha.div_lt _ h) (Nat.mod_lt _ (by omega))]
  rfl
theorem xor_n {a b : Nat} (ha : a < 4294967296) (hb : b < 4294967296) : bits .xor .u32 (a : Int) (b : Int) = ((a ^^^ b : Nat) : Int) := u32_xor_nat a b ha hb
theorem and_n {a b : Nat} (ha : a < 4294967296) (hb : b < 4294967296) : bits .and .u32 (a : Int) (b : Int) = ((a &&& b : Nat) : Int) := u32_and_nat a b ha hb
theorem or_n {a b : Nat} (ha : a < 4294967296) (hb : b < 4294967296) : bits .or .u32 (a : Int) (b : Int) = ((a ||| b : Nat) : Int) := u32_or_nat a b ha hb
theorem ad_n (a b : Nat) : IntKind.u32.wrap ((a : Int) + (b : Int)) = (Sha.ad a b : Int) := by rw [IntKind.wrap_u32]; unfold Sha.ad; omega

theorem rot2 (x : Nat) (w : World) (h : x < 4294967296) :
    Calls Tryd.prog 67 #[.int .u32 x, .int .i64 2] w fun e w' => e = .returned (.int .u32 (Sha.rr 2 x)) ∧ w = w' := by
  have r := or_rot 2 x h
  have R := Lib.hid r
  clear r
  have e : bits BinOp.and IntKind.u64 (IntKind.u64.wrap (-2)) 31 = 30 := by decide
  go_enter Tryd.func67, Tryd.ntmps67
  go_wp2
  go_ret
  exact ⟨ret_u32 (by have := R.out; simpa using this), rfl⟩

theorem rot6 (x : Nat) (w : World) (h : x < 4294967296) :
    Calls Tryd.prog 67 #[.int .u32 x, .int .i64 6] w fun e w' => e = .returned (.int .u32 (Sha.rr 6 x)) ∧ w = w' := by
  have r := or_rot 6 x h
  have R := Lib.hid r
  clear r
  have e : bits BinOp.and IntKind.u64 (IntKind.u64.wrap (-6)) 31 = 26 := by decide
  go_enter Tryd.func67, Tryd.ntmps67
  go_wp2
  go_ret
  exact ⟨ret_u32 (by have := R.out; simpa using this), rfl⟩

theorem rot7 (x : Nat) (w : World) (h : x < 4294967296) :
    Calls Tryd.prog 67 #[.int .u32 x, .int .i64 7] w fun e w' => e = .returned (.int .u32 (Sha.rr 7 x)) ∧ w = w' := by
  have r := or_rot 7 x h
  have R := Lib.hid r
  clear r
  have e : bits BinOp.and IntKind.u64 (IntKind.u64.wrap (-7)) 31 = 25 := by decide
  go_enter Tryd.func67, Tryd.ntmps67
  go_wp2
  go_ret
  exact ⟨ret_u32 (by have := R.out; simpa using this), rfl⟩

theorem rot11 (x : Nat) (w : World) (h : x < 4294967296) :
    Calls Tryd.prog 67 #[.int .u32 x, .int .i64 11] w fun e w' => e = .returned (.int .u32 (Sha.rr 11 x)) ∧ w = w' := by
  have r := or_rot 11 x h
  have R := Lib.hid r
  clear r
  have e : bits BinOp.and IntKind.u64 (IntKind.u64.wrap (-11)) 31 = 21 := by decide
  go_enter Tryd.func67, Tryd.ntmps67
  go_wp2
  go_ret
  exact ⟨ret_u32 (by have := R.out; simpa using this), rfl⟩

theorem rot13 (x : Nat) (w : World) (h : x < 4294967296) :
    Calls Tryd.prog 67 #[.int .u32 x, .int .i64 13] w fun e w' => e = .returned (.int .u32 (Sha.rr 13 x)) ∧ w = w' := by
  have r := or_rot 13 x h
  have R := Lib.hid r
  clear r
  have e : bits BinOp.and IntKind.u64 (IntKind.u64.wrap (-13)) 31 = 19 := by decide
  go_enter Tryd.func67, Tryd.ntmps67
  go_wp2
  go_ret
  exact ⟨ret_u32 (by have := R.out; simpa using this), rfl⟩

theorem rot17 (x : Nat) (w : World) (h : x < 4294967296) :
    Calls Tryd.prog 67 #[.int .u32 x, .int .i64 17] w fun e w' => e = .returned (.int .u32 (Sha.rr 17 x)) ∧ w = w' := by
  have r := or_rot 17 x h
  have R := Lib.hid r
  clear r
  have e : bits BinOp.and IntKind.u64 (IntKind.u64.wrap (-17)) 31 = 15 := by decide
  go_enter Tryd.func67, Tryd.ntmps67
  go_wp2
  go_ret
  exact ⟨ret_u32 (by have := R.out; simpa using this), rfl⟩

theorem rot18 (x : Nat) (w : World) (h : x < 4294967296) :
    Calls Tryd.prog 67 #[.int .u32 x, .int .i64 18] w fun e w' => e = .returned (.int .u32 (Sha.rr 18 x)) ∧ w = w' := by
  have r := or_rot 18 x h
  have R := Lib.hid r
  clear r
  have e : bits BinOp.and IntKind.u64 (IntKind.u64.wrap (-18)) 31 = 14 := by decide
  go_enter Tryd.func67, Tryd.ntmps67
  go_wp2
  go_ret
  exact ⟨ret_u32 (by have := R.out; simpa using this), rfl⟩

theorem rot19 (x : Nat) (w : World) (h : x < 4294967296) :
    Calls Tryd.prog 67 #[.int .u32 x, .int .i64 19] w fun e w' => e = .returned (.int .u32 (Sha.rr 19 x)) ∧ w = w' := by
  have r := or_rot 19 x h
  have R := Lib.hid r
  clear r
  have e : bits BinOp.and IntKind.u64 (IntKind.u64.wrap (-19)) 31 = 13 := by decide
  go_enter Tryd.func67, Tryd.ntmps67
  go_wp2
  go_ret
  exact ⟨ret_u32 (by have := R.out; simpa using this), rfl⟩

theorem rot22 (x : Nat) (w : World) (h : x < 4294967296) :
    Calls Tryd.prog 67 #[.int .u32 x, .int .i64 22] w fun e w' => e = .returned (.int .u32 (Sha.rr 22 x)) ∧ w = w' := by
  have r := or_rot 22 x h
  have R := Lib.hid r
  clear r
  have e : bits BinOp.and IntKind.u64 (IntKind.u64.wrap (-22)) 31 = 10 := by decide
  go_enter Tryd.func67, Tryd.ntmps67
  go_wp2
  go_ret
  exact ⟨ret_u32 (by have := R.out; simpa using this), rfl⟩

theorem rot25 (x : Nat) (w : World) (h : x < 4294967296) :
    Calls Tryd.prog 67 #[.int .u32 x, .int .i64 25] w fun e w' => e = .returned (.int .u32 (Sha.rr 25 x)) ∧ w = w' := by
  have r := or_rot 25 x h
  have R := Lib.hid r
  clear r
  have e : bits BinOp.and IntKind.u64 (IntKind.u64.wrap (-25)) 31 = 7 := by decide
  go_enter Tryd.func67, Tryd.ntmps67
  go_wp2
  go_ret
  exact ⟨ret_u32 (by have := R.out; simpa using this), rfl⟩
end Go.Proofs.YtnfhdjmehhapiaaDoor
