/-
  Walks of package sha256: the functions of words.
-/
import Derived.Test.YtnfhdjmehhapiaaDoorShA
namespace Go.Proofs.YtnfhdjmehhapiaaDoor
open Go.RowKit
set_option linter.unusedVariables false
set_option linter.unusedSimpArgs false

theorem smallSigma0_any (x : Nat) (w : World) (h : x < 4294967296) :
    Calls Tryd.prog 66 #[.int .u32 x] w fun e w' => e = .returned (.int .u32 (Sha.ss0 x)) ∧ w = w' := by
  obtain ⟨p, hp⟩ : ∃ p, p = Sha.rr 7 x := ⟨_, rfl⟩
  obtain ⟨q, hq⟩ : ∃ q, q = Sha.rr 18 x := ⟨_, rfl⟩
  have c1 := rot7 x w h
  rw [← hp] at c1
  have c2 := rot18 x w h
  rw [← hq] at c2
  have R := Lib.hid (show bits .xor .u32 (bits .xor .u32 (p : Int) (q : Int)) ((x / 8 : Nat) : Int) = (Sha.ss0 x : Int) by
    rw [hp, hq, xor_n (Sha.rr_lt _ h) (Sha.rr_lt _ h), xor_n (Sha.xor_lt (Sha.rr_lt _ h) (Sha.rr_lt _ h)) (Sha.div_lt _ h)]; rfl)
  have C1 := Lib.hid c1
  have C2 := Lib.hid c2
  clear c1 c2 hp hq
  go_enter Tryd.func66, Tryd.ntmps66
  go_wp2_with fail
  refine C1.out.mono ?_
  rintro e w' ⟨rfl, rfl⟩
  go_wp2_with fail
  refine C2.out.mono ?_
  rintro e w' ⟨rfl, rfl⟩
  go_wp2_with fail
  go_ret
  exact ⟨ret_u32 (by have := R.out; simpa using this), rfl⟩

theorem smallSigma1_any (x : Nat) (w : World) (h : x < 4294967296) :
    Calls Tryd.prog 65 #[.int .u32 x] w fun e w' => e = .returned (.int .u32 (Sha.ss1 x)) ∧ w = w' := by
  obtain ⟨p, hp⟩ : ∃ p, p = Sha.rr 17 x := ⟨_, rfl⟩
  obtain ⟨q, hq⟩ : ∃ q, q = Sha.rr 19 x := ⟨_, rfl⟩
  have c1 := rot17 x w h
  rw [← hp] at c1
  have c2 := rot19 x w h
  rw [← hq] at c2
  have R := Lib.hid (show bits .xor .u32 (bits .xor .u32 (p : Int) (q : Int)) ((x / 1024 : Nat) : Int) = (Sha.ss1 x : Int) by
    rw [hp, hq, xor_n (Sha.rr_lt _ h) (Sha.rr_lt _ h), xor_n (Sha.xor_lt (Sha.rr_lt _ h) (Sha.rr_lt _ h)) (Sha.div_lt _ h)]; rfl)
  have C1 := Lib.hid c1
  have C2 := Lib.hid c2
  clear c1 c2 hp hq
  go_enter Tryd.func65, Tryd.ntmps65
  go_wp2_with fail
  refine C1.out.mono ?_
  rintro e w' ⟨rfl, rfl⟩
  go_wp2_with fail
  refine C2.out.mono ?_
  rintro e w' ⟨rfl, rfl⟩
  go_wp2_with fail
  go_ret
  exact ⟨ret_u32 (by have := R.out; simpa using this), rfl⟩

theorem bigSigma0_any (x : Nat) (w : World) (h : x < 4294967296) :
    Calls Tryd.prog 57 #[.int .u32 x] w fun e w' => e = .returned (.int .u32 (Sha.bs0 x)) ∧ w = w' := by
  obtain ⟨p, hp⟩ : ∃ p, p = Sha.rr 2 x := ⟨_, rfl⟩
  obtain ⟨q, hq⟩ : ∃ q, q = Sha.rr 13 x := ⟨_, rfl⟩
  obtain ⟨r, hr⟩ : ∃ r, r = Sha.rr 22 x := ⟨_, rfl⟩
  have c1 := rot2 x w h
  rw [← hp] at c1
  have c2 := rot13 x w h
  rw [← hq] at c2
  have c3 := rot22 x w h
  rw [← hr] at c3
  have R := Lib.hid (show bits .xor .u32 (bits .xor .u32 (p : Int) (q : Int)) (r : Int) = (Sha.bs0 x : Int) by
    rw [hp, hq, hr, xor_n (Sha.rr_lt _ h) (Sha.rr_lt _ h), xor_n (Sha.xor_lt (Sha.rr_lt _ h) (Sha.rr_lt _ h)) (Sha.rr_lt _ h)]; rfl)
  have C1 := Lib.hid c1
  have C2 := Lib.hid c2
  have C3 := Lib.hid c3
  clear c1 c2 hp hq c3 hr
  go_enter Tryd.func57, Tryd.ntmps57
  go_wp2_with fail
  refine C1.out.mono ?_
  rintro e w' ⟨rfl, rfl⟩
  go_wp2_with fail
  refine C2.out.mono ?_
  rintro e w' ⟨rfl, rfl⟩
  go_wp2_with fail
  refine C3.out.mono ?_
  rintro e w' ⟨rfl, rfl⟩
  go_wp2_with fail
  go_ret
  exact ⟨ret_u32 (by have := R.out; simpa using this), rfl⟩

theorem bigSigma1_any (x : Nat) (w : World) (h : x < 4294967296) :
    Calls Tryd.prog 55 #[.int .u32 x] w fun e w' => e = .returned (.int .u32 (Sha.bs1 x)) ∧ w = w' := by
  obtain ⟨p, hp⟩ : ∃ p, p = Sha.rr 6 x := ⟨_, rfl⟩
  obtain ⟨q, hq⟩ : ∃ q, q = Sha.rr 11 x := ⟨_, rfl⟩
  obtain ⟨r, hr⟩ : ∃ r, r = Sha.rr 25 x := ⟨_, rfl⟩
  have c1 := rot6 x w h
  rw [← hp] at c1
  have c2 := rot11 x w h
  rw [← hq] at c2
  have c3 := rot25 x w h
  rw [← hr] at c3
  have R := Lib.hid (show bits .xor .u32 (bits .xor .u32 (p : Int) (q : Int)) (r : Int) = (Sha.bs1 x : Int) by
    rw [hp, hq, hr, xor_n (Sha.rr_lt _ h) (Sha.rr_lt _ h), xor_n (Sha.xor_lt (Sha.rr_lt _ h) (Sha.rr_lt _ h)) (Sha.rr_lt _ h)]; rfl)
  have C1 := Lib.hid c1
  have C2 := Lib.hid c2
  have C3 := Lib.hid c3
  clear c1 c2 hp hq c3 hr
  go_enter Tryd.func55, Tryd.ntmps55
  go_wp2_with fail
  refine C1.out.mono ?_
  rintro e w' ⟨rfl, rfl⟩
  go_wp2_with fail
  refine C2.out.mono ?_
  rintro e w' ⟨rfl, rfl⟩
  go_wp2_with fail
  refine C3.out.mono ?_
  rintro e w' ⟨rfl, rfl⟩
  go_wp2_with fail
  go_ret
  exact ⟨ret_u32 (by have := R.out; simpa using this), rfl⟩

theorem chh_val {x y z : Nat} (hx : x < 4294967296) (hy : y < 4294967296) (hz : z < 4294967296) :
    bits .xor .u32 (bits .and .u32 (x : Int) (y : Int)) (bits .and .u32 (bits .xor .u32 IntKind.u32.max (x : Int)) (z : Int)) = (Sha.chh x y z : Int) := by
  have hm : IntKind.u32.max = ((4294967295 : Nat) : Int) := by decide
  rw [hm, xor_n (by omega) hx, and_n hx hy, and_n (Sha.xor_lt (by omega) hx) hz, xor_n (Sha.and_lt hx) (Sha.and_lt (Sha.xor_lt (by omega) hx))]; rfl
theorem maj_val {x y z : Nat} (hx : x < 4294967296) (hy : y < 4294967296) (hz : z < 4294967296) :
    bits .xor .u32 (bits .xor .u32 (bits .and .u32 (x : Int) (y : Int)) (bits .and .u32 (x : Int) (z : Int))) (bits .and .u32 (y : Int) (z : Int)) = (Sha.maj x y z : Int) := by
  rw [and_n hx hy, and_n hx hz, and_n hy hz, xor_n (Sha.and_lt hx) (Sha.and_lt hx), xor_n (Sha.xor_lt (Sha.and_lt hx) (Sha.and_lt hx)) (Sha.and_lt hy)]; rfl

theorem choice_any (x y z : Nat) (w : World) (hx : x < 4294967296) (hy : y < 4294967296) (hz : z < 4294967296) :
    Calls Tryd.prog 56 #[.int .u32 x, .int .u32 y, .int .u32 z] w fun e w' => e = .returned (.int .u32 (Sha.chh x y z)) ∧ w = w' := by
  have R := Lib.hid (chh_val hx hy hz)
  go_enter Tryd.func56, Tryd.ntmps56
  go_wp2
  go_ret
  all_goals first | exact ⟨ret_u32 R.out, rfl⟩ | (exfalso; revert h; decide)

theorem majority_any (x y z : Nat) (w : World) (hx : x < 4294967296) (hy : y < 4294967296) (hz : z < 4294967296) :
    Calls Tryd.prog 58 #[.int .u32 x, .int .u32 y, .int .u32 z] w fun e w' => e = .returned (.int .u32 (Sha.maj x y z)) ∧ w = w' := by
  have R := Lib.hid (maj_val hx hy hz)
  go_enter Tryd.func58, Tryd.ntmps58
  go_wp2
  go_ret
  exact ⟨ret_u32 R.out, rfl⟩
end Go.Proofs.YtnfhdjmehhapiaaDoor
