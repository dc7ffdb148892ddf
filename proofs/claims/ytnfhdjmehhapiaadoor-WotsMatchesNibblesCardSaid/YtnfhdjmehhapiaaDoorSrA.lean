/-
  Walks of the reference's package for layer 3: rotations, words.
-/
import Derived.Test.YtnfhdjmehhapiaaDoorShE
namespace Go.Proofs.YtnfhdjmehhapiaaDoor
open Go.RowKit
set_option linter.unusedVariables false
set_option linter.unusedSimpArgs false

theorem rrot2 (x : Nat) (w : World) (h : x < 4294967296) :
    Calls Tryd.prog 71 #[.int .u32 x, .int .u64 2] w fun e w' => e = .returned (.int .u32 (Sha.rr 2 x)) ∧ w = w' := by
  have r := or_rot' 2 x h
  have R := Lib.hid r
  clear r
  go_enter Tryd.func71, Tryd.ntmps71
  go_wp2
  go_ret
  exact ⟨ret_u32 (by have := R.out; simpa using this), rfl⟩

theorem rrot6 (x : Nat) (w : World) (h : x < 4294967296) :
    Calls Tryd.prog 71 #[.int .u32 x, .int .u64 6] w fun e w' => e = .returned (.int .u32 (Sha.rr 6 x)) ∧ w = w' := by
  have r := or_rot' 6 x h
  have R := Lib.hid r
  clear r
  go_enter Tryd.func71, Tryd.ntmps71
  go_wp2
  go_ret
  exact ⟨ret_u32 (by have := R.out; simpa using this), rfl⟩

theorem rrot7 (x : Nat) (w : World) (h : x < 4294967296) :
    Calls Tryd.prog 71 #[.int .u32 x, .int .u64 7] w fun e w' => e = .returned (.int .u32 (Sha.rr 7 x)) ∧ w = w' := by
  have r := or_rot' 7 x h
  have R := Lib.hid r
  clear r
  go_enter Tryd.func71, Tryd.ntmps71
  go_wp2
  go_ret
  exact ⟨ret_u32 (by have := R.out; simpa using this), rfl⟩

theorem rrot11 (x : Nat) (w : World) (h : x < 4294967296) :
    Calls Tryd.prog 71 #[.int .u32 x, .int .u64 11] w fun e w' => e = .returned (.int .u32 (Sha.rr 11 x)) ∧ w = w' := by
  have r := or_rot' 11 x h
  have R := Lib.hid r
  clear r
  go_enter Tryd.func71, Tryd.ntmps71
  go_wp2
  go_ret
  exact ⟨ret_u32 (by have := R.out; simpa using this), rfl⟩

theorem rrot13 (x : Nat) (w : World) (h : x < 4294967296) :
    Calls Tryd.prog 71 #[.int .u32 x, .int .u64 13] w fun e w' => e = .returned (.int .u32 (Sha.rr 13 x)) ∧ w = w' := by
  have r := or_rot' 13 x h
  have R := Lib.hid r
  clear r
  go_enter Tryd.func71, Tryd.ntmps71
  go_wp2
  go_ret
  exact ⟨ret_u32 (by have := R.out; simpa using this), rfl⟩

theorem rrot17 (x : Nat) (w : World) (h : x < 4294967296) :
    Calls Tryd.prog 71 #[.int .u32 x, .int .u64 17] w fun e w' => e = .returned (.int .u32 (Sha.rr 17 x)) ∧ w = w' := by
  have r := or_rot' 17 x h
  have R := Lib.hid r
  clear r
  go_enter Tryd.func71, Tryd.ntmps71
  go_wp2
  go_ret
  exact ⟨ret_u32 (by have := R.out; simpa using this), rfl⟩

theorem rrot18 (x : Nat) (w : World) (h : x < 4294967296) :
    Calls Tryd.prog 71 #[.int .u32 x, .int .u64 18] w fun e w' => e = .returned (.int .u32 (Sha.rr 18 x)) ∧ w = w' := by
  have r := or_rot' 18 x h
  have R := Lib.hid r
  clear r
  go_enter Tryd.func71, Tryd.ntmps71
  go_wp2
  go_ret
  exact ⟨ret_u32 (by have := R.out; simpa using this), rfl⟩

theorem rrot19 (x : Nat) (w : World) (h : x < 4294967296) :
    Calls Tryd.prog 71 #[.int .u32 x, .int .u64 19] w fun e w' => e = .returned (.int .u32 (Sha.rr 19 x)) ∧ w = w' := by
  have r := or_rot' 19 x h
  have R := Lib.hid r
  clear r
  go_enter Tryd.func71, Tryd.ntmps71
  go_wp2
  go_ret
  exact ⟨ret_u32 (by have := R.out; simpa using this), rfl⟩

theorem rrot22 (x : Nat) (w : World) (h : x < 4294967296) :
    Calls Tryd.prog 71 #[.int .u32 x, .int .u64 22] w fun e w' => e = .returned (.int .u32 (Sha.rr 22 x)) ∧ w = w' := by
  have r := or_rot' 22 x h
  have R := Lib.hid r
  clear r
  go_enter Tryd.func71, Tryd.ntmps71
  go_wp2
  go_ret
  exact ⟨ret_u32 (by have := R.out; simpa using this), rfl⟩

theorem rrot25 (x : Nat) (w : World) (h : x < 4294967296) :
    Calls Tryd.prog 71 #[.int .u32 x, .int .u64 25] w fun e w' => e = .returned (.int .u32 (Sha.rr 25 x)) ∧ w = w' := by
  have r := or_rot' 25 x h
  have R := Lib.hid r
  clear r
  go_enter Tryd.func71, Tryd.ntmps71
  go_wp2
  go_ret
  exact ⟨ret_u32 (by have := R.out; simpa using this), rfl⟩

theorem rword_any (v : Value) (a b c d : UInt8) (l : List UInt8) (w : World) (B : Nat) (hv : Bs w B v (a :: b :: c :: d :: l)) :
    Calls Tryd.prog 72 #[v] w fun e w' => e = .returned (.int .u32 (Sha.wd a.toNat b.toNat c.toNat d.toNat)) ∧ ∃ n, w' = w.drewN n := by
  obtain ⟨g, o, cap, rfl, hg, hcap, hc⟩ := hv.addr (by simp)
  have c0 : w.cell? ⟨g, o, none⟩ = some (.int .u8 (a.toNat : Int)) := hc 0 a rfl
  have c1 := hc 1 b rfl
  have c2 := hc 2 c rfl
  have c3 := hc 3 d rfl
  have ha := a.toNat_lt
  have hb := b.toNat_lt
  have hc' := c.toNat_lt
  have hd := d.toNat_lt
  have R := Lib.hid (wd_val ha hb hc' hd)
  obtain ⟨n, hn⟩ : ∃ n, n = (a :: b :: c :: d :: l).length := ⟨_, rfl⟩
  have hn4 : 4 ≤ n := by rw [hn]; simp
  rw [← hn]
  clear hn hc hv hcap
  have q0 : 0 < n := by omega
  have q1 : (1 : Int) < (n : Int) := by omega
  have q2 : (2 : Int) < (n : Int) := by omega
  have q3 : (3 : Int) < (n : Int) := by omega
  go_enter Tryd.func72, Tryd.ntmps72
  go_wp2
  go_quiet (fail)
  go_wp2
  go_ret
  exact ⟨ret_u32 R.out, _, rfl⟩


theorem rword_b (v : Value) (l : List UInt8) (k : Nat) (w : World) (B : Nat) (hv : Bs w B v (l.drop (4 * k))) (h : 4 * k + 4 ≤ l.length) :
    Calls Tryd.prog 72 #[v] w fun e w' => e = .returned (.int .u32 (Sha.word l k)) ∧ Below w.heap.size w w' := by
  obtain ⟨a, b, c, d, r, h1, h2⟩ := drop4 h
  rw [h1] at hv
  rw [h2]
  exact (rword_any v a b c d r w B hv).mono fun e w' ⟨h1, n, h2⟩ => ⟨h1, by rw [h2]; exact below_drewN (Below.refl _ _) n⟩


end Go.Proofs.YtnfhdjmehhapiaaDoor
