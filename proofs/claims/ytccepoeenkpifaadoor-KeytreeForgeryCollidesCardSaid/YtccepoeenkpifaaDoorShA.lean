/-
  Walks of package sha256: rotations, the functions of words.
  Walks of package sha256: the functions of words.
  Walks of package sha256: words of bytes, read and stored.
  Walks of package sha256: the message schedule.
  Walks of package sha256: the compression function.
-/
import Derived.Test.YtccepoeenkpifaaDoorAgg
import Derived.Test.YtccepoeenkpifaaDoorSha
import Derived.Outline
import Derived.Deep.QuietTactic
import Derived.BigQuiet
import Derived.IntWalk
import Derived.RegionTactic
import Derived.BigRegion
import Derived.StillTailTactics
import Derived.LoopTactic
import Derived.Deep.Cut
namespace Go.Proofs.YtccepoeenkpifaaDoor
section
open Go.RowKit
set_option linter.unusedVariables false
set_option linter.unusedSimpArgs false

theorem ret_u32 {a b : Int} (h : a = b) : Ending.returned (.int .u32 a) = .returned (.int .u32 b) := by rw [h]
theorem or_rot (n x : Nat) (h : x < 4294967296) : bits .or .u32 (((x * 2 ^ (32 - n) % 4294967296 : Nat)) : Int) ((x / 2 ^ n : Nat) : Int) = (Sha.rr n x : Int) := by
  rw [u32_or_nat _ _ (Nat.mod_lt _ (by omega)) (Sha.div_lt _ h), Nat.or_comm]
  rfl
theorem or_rot' (n x : Nat) (h : x < 4294967296) : bits .or .u32 ((x / 2 ^ n : Nat) : Int) (((x * 2 ^ (32 - n) % 4294967296 : Nat)) : Int) = (Sha.rr n x : Int) := by
  rw [u32_or_nat _ _ (Sha.div_lt _ h) (Nat.mod_lt _ (by omega))]
  rfl
theorem xor_n {a b : Nat} (ha : a < 4294967296) (hb : b < 4294967296) : bits .xor .u32 (a : Int) (b : Int) = ((a ^^^ b : Nat) : Int) := u32_xor_nat a b ha hb
theorem and_n {a b : Nat} (ha : a < 4294967296) (hb : b < 4294967296) : bits .and .u32 (a : Int) (b : Int) = ((a &&& b : Nat) : Int) := u32_and_nat a b ha hb
theorem or_n {a b : Nat} (ha : a < 4294967296) (hb : b < 4294967296) : bits .or .u32 (a : Int) (b : Int) = ((a ||| b : Nat) : Int) := u32_or_nat a b ha hb
theorem ad_n (a b : Nat) : IntKind.u32.wrap ((a : Int) + (b : Int)) = (Sha.ad a b : Int) := by rw [IntKind.wrap_u32]; unfold Sha.ad; omega

theorem rot2 (x : Nat) (w : World) (h : x < 4294967296) :
    Calls Tryd.prog 92 #[.int .u32 x, .int .i64 2] w fun e w' => e = .returned (.int .u32 (Sha.rr 2 x)) ∧ w = w' := by
  have r := or_rot 2 x h
  have R := Lib.hid r
  clear r
  have e : bits BinOp.and IntKind.u64 (IntKind.u64.wrap (-2)) 31 = 30 := by decide
  go_enter Tryd.func92, Tryd.ntmps92
  go_wp2
  go_ret
  exact ⟨ret_u32 (by have := R.out; simpa using this), rfl⟩

theorem rot6 (x : Nat) (w : World) (h : x < 4294967296) :
    Calls Tryd.prog 92 #[.int .u32 x, .int .i64 6] w fun e w' => e = .returned (.int .u32 (Sha.rr 6 x)) ∧ w = w' := by
  have r := or_rot 6 x h
  have R := Lib.hid r
  clear r
  have e : bits BinOp.and IntKind.u64 (IntKind.u64.wrap (-6)) 31 = 26 := by decide
  go_enter Tryd.func92, Tryd.ntmps92
  go_wp2
  go_ret
  exact ⟨ret_u32 (by have := R.out; simpa using this), rfl⟩

theorem rot7 (x : Nat) (w : World) (h : x < 4294967296) :
    Calls Tryd.prog 92 #[.int .u32 x, .int .i64 7] w fun e w' => e = .returned (.int .u32 (Sha.rr 7 x)) ∧ w = w' := by
  have r := or_rot 7 x h
  have R := Lib.hid r
  clear r
  have e : bits BinOp.and IntKind.u64 (IntKind.u64.wrap (-7)) 31 = 25 := by decide
  go_enter Tryd.func92, Tryd.ntmps92
  go_wp2
  go_ret
  exact ⟨ret_u32 (by have := R.out; simpa using this), rfl⟩

theorem rot11 (x : Nat) (w : World) (h : x < 4294967296) :
    Calls Tryd.prog 92 #[.int .u32 x, .int .i64 11] w fun e w' => e = .returned (.int .u32 (Sha.rr 11 x)) ∧ w = w' := by
  have r := or_rot 11 x h
  have R := Lib.hid r
  clear r
  have e : bits BinOp.and IntKind.u64 (IntKind.u64.wrap (-11)) 31 = 21 := by decide
  go_enter Tryd.func92, Tryd.ntmps92
  go_wp2
  go_ret
  exact ⟨ret_u32 (by have := R.out; simpa using this), rfl⟩

theorem rot13 (x : Nat) (w : World) (h : x < 4294967296) :
    Calls Tryd.prog 92 #[.int .u32 x, .int .i64 13] w fun e w' => e = .returned (.int .u32 (Sha.rr 13 x)) ∧ w = w' := by
  have r := or_rot 13 x h
  have R := Lib.hid r
  clear r
  have e : bits BinOp.and IntKind.u64 (IntKind.u64.wrap (-13)) 31 = 19 := by decide
  go_enter Tryd.func92, Tryd.ntmps92
  go_wp2
  go_ret
  exact ⟨ret_u32 (by have := R.out; simpa using this), rfl⟩

theorem rot17 (x : Nat) (w : World) (h : x < 4294967296) :
    Calls Tryd.prog 92 #[.int .u32 x, .int .i64 17] w fun e w' => e = .returned (.int .u32 (Sha.rr 17 x)) ∧ w = w' := by
  have r := or_rot 17 x h
  have R := Lib.hid r
  clear r
  have e : bits BinOp.and IntKind.u64 (IntKind.u64.wrap (-17)) 31 = 15 := by decide
  go_enter Tryd.func92, Tryd.ntmps92
  go_wp2
  go_ret
  exact ⟨ret_u32 (by have := R.out; simpa using this), rfl⟩

theorem rot18 (x : Nat) (w : World) (h : x < 4294967296) :
    Calls Tryd.prog 92 #[.int .u32 x, .int .i64 18] w fun e w' => e = .returned (.int .u32 (Sha.rr 18 x)) ∧ w = w' := by
  have r := or_rot 18 x h
  have R := Lib.hid r
  clear r
  have e : bits BinOp.and IntKind.u64 (IntKind.u64.wrap (-18)) 31 = 14 := by decide
  go_enter Tryd.func92, Tryd.ntmps92
  go_wp2
  go_ret
  exact ⟨ret_u32 (by have := R.out; simpa using this), rfl⟩

theorem rot19 (x : Nat) (w : World) (h : x < 4294967296) :
    Calls Tryd.prog 92 #[.int .u32 x, .int .i64 19] w fun e w' => e = .returned (.int .u32 (Sha.rr 19 x)) ∧ w = w' := by
  have r := or_rot 19 x h
  have R := Lib.hid r
  clear r
  have e : bits BinOp.and IntKind.u64 (IntKind.u64.wrap (-19)) 31 = 13 := by decide
  go_enter Tryd.func92, Tryd.ntmps92
  go_wp2
  go_ret
  exact ⟨ret_u32 (by have := R.out; simpa using this), rfl⟩

theorem rot22 (x : Nat) (w : World) (h : x < 4294967296) :
    Calls Tryd.prog 92 #[.int .u32 x, .int .i64 22] w fun e w' => e = .returned (.int .u32 (Sha.rr 22 x)) ∧ w = w' := by
  have r := or_rot 22 x h
  have R := Lib.hid r
  clear r
  have e : bits BinOp.and IntKind.u64 (IntKind.u64.wrap (-22)) 31 = 10 := by decide
  go_enter Tryd.func92, Tryd.ntmps92
  go_wp2
  go_ret
  exact ⟨ret_u32 (by have := R.out; simpa using this), rfl⟩

theorem rot25 (x : Nat) (w : World) (h : x < 4294967296) :
    Calls Tryd.prog 92 #[.int .u32 x, .int .i64 25] w fun e w' => e = .returned (.int .u32 (Sha.rr 25 x)) ∧ w = w' := by
  have r := or_rot 25 x h
  have R := Lib.hid r
  clear r
  have e : bits BinOp.and IntKind.u64 (IntKind.u64.wrap (-25)) 31 = 7 := by decide
  go_enter Tryd.func92, Tryd.ntmps92
  go_wp2
  go_ret
  exact ⟨ret_u32 (by have := R.out; simpa using this), rfl⟩
end

section
open Go.RowKit
set_option linter.unusedVariables false
set_option linter.unusedSimpArgs false

theorem smallSigma0_any (x : Nat) (w : World) (h : x < 4294967296) :
    Calls Tryd.prog 91 #[.int .u32 x] w fun e w' => e = .returned (.int .u32 (Sha.ss0 x)) ∧ w = w' := by
  obtain ⟨p, hp⟩ : ∃ p, p = Sha.rr 7 x := ⟨_, rfl⟩
  obtain ⟨q, hq⟩ : ∃ q, q = Sha.rr 18 x := ⟨_, rfl⟩
  have c1 := rot7 x w h
  rw [← hp] at c1
  have c2 := rot18 x w h
  rw [← hq] at c2
  have R := Lib.hid (show bits .xor .u32 (bits .xor .u32 (p : Int) (q : Int)) ((x / 8 : Nat) : Int) = (Sha.ss0 x : Int) by
    rw [hp, hq, xor_n (Sha.rr_lt _ h) (Sha.rr_lt _ h), xor_n (Sha.xor_lt (Sha.rr_lt _ h) (Sha.rr_lt _ h)) (Sha.div_lt _ h)]; rfl)
  have C1 := Lib.hid c1
  have C2 := Lib.hid c2
  clear c1 c2 hp hq
  go_enter Tryd.func91, Tryd.ntmps91
  go_wp2_with fail
  refine C1.out.mono ?_
  rintro e w' ⟨rfl, rfl⟩
  go_wp2_with fail
  refine C2.out.mono ?_
  rintro e w' ⟨rfl, rfl⟩
  go_wp2_with fail
  go_ret
  exact ⟨ret_u32 (by have := R.out; simpa using this), rfl⟩

theorem smallSigma1_any (x : Nat) (w : World) (h : x < 4294967296) :
    Calls Tryd.prog 90 #[.int .u32 x] w fun e w' => e = .returned (.int .u32 (Sha.ss1 x)) ∧ w = w' := by
  obtain ⟨p, hp⟩ : ∃ p, p = Sha.rr 17 x := ⟨_, rfl⟩
  obtain ⟨q, hq⟩ : ∃ q, q = Sha.rr 19 x := ⟨_, rfl⟩
  have c1 := rot17 x w h
  rw [← hp] at c1
  have c2 := rot19 x w h
  rw [← hq] at c2
  have R := Lib.hid (show bits .xor .u32 (bits .xor .u32 (p : Int) (q : Int)) ((x / 1024 : Nat) : Int) = (Sha.ss1 x : Int) by
    rw [hp, hq, xor_n (Sha.rr_lt _ h) (Sha.rr_lt _ h), xor_n (Sha.xor_lt (Sha.rr_lt _ h) (Sha.rr_lt _ h)) (Sha.div_lt _ h)]; rfl)
  have C1 := Lib.hid c1
  have C2 := Lib.hid c2
  clear c1 c2 hp hq
  go_enter Tryd.func90, Tryd.ntmps90
  go_wp2_with fail
  refine C1.out.mono ?_
  rintro e w' ⟨rfl, rfl⟩
  go_wp2_with fail
  refine C2.out.mono ?_
  rintro e w' ⟨rfl, rfl⟩
  go_wp2_with fail
  go_ret
  exact ⟨ret_u32 (by have := R.out; simpa using this), rfl⟩

theorem bigSigma0_any (x : Nat) (w : World) (h : x < 4294967296) :
    Calls Tryd.prog 82 #[.int .u32 x] w fun e w' => e = .returned (.int .u32 (Sha.bs0 x)) ∧ w = w' := by
  obtain ⟨p, hp⟩ : ∃ p, p = Sha.rr 2 x := ⟨_, rfl⟩
  obtain ⟨q, hq⟩ : ∃ q, q = Sha.rr 13 x := ⟨_, rfl⟩
  obtain ⟨r, hr⟩ : ∃ r, r = Sha.rr 22 x := ⟨_, rfl⟩
  have c1 := rot2 x w h
  rw [← hp] at c1
  have c2 := rot13 x w h
  rw [← hq] at c2
  have c3 := rot22 x w h
  rw [← hr] at c3
  have R := Lib.hid (show bits .xor .u32 (bits .xor .u32 (p : Int) (q : Int)) (r : Int) = (Sha.bs0 x : Int) by
    rw [hp, hq, hr, xor_n (Sha.rr_lt _ h) (Sha.rr_lt _ h), xor_n (Sha.xor_lt (Sha.rr_lt _ h) (Sha.rr_lt _ h)) (Sha.rr_lt _ h)]; rfl)
  have C1 := Lib.hid c1
  have C2 := Lib.hid c2
  have C3 := Lib.hid c3
  clear c1 c2 hp hq c3 hr
  go_enter Tryd.func82, Tryd.ntmps82
  go_wp2_with fail
  refine C1.out.mono ?_
  rintro e w' ⟨rfl, rfl⟩
  go_wp2_with fail
  refine C2.out.mono ?_
  rintro e w' ⟨rfl, rfl⟩
  go_wp2_with fail
  refine C3.out.mono ?_
  rintro e w' ⟨rfl, rfl⟩
  go_wp2_with fail
  go_ret
  exact ⟨ret_u32 (by have := R.out; simpa using this), rfl⟩

theorem bigSigma1_any (x : Nat) (w : World) (h : x < 4294967296) :
    Calls Tryd.prog 80 #[.int .u32 x] w fun e w' => e = .returned (.int .u32 (Sha.bs1 x)) ∧ w = w' := by
  obtain ⟨p, hp⟩ : ∃ p, p = Sha.rr 6 x := ⟨_, rfl⟩
  obtain ⟨q, hq⟩ : ∃ q, q = Sha.rr 11 x := ⟨_, rfl⟩
  obtain ⟨r, hr⟩ : ∃ r, r = Sha.rr 25 x := ⟨_, rfl⟩
  have c1 := rot6 x w h
  rw [← hp] at c1
  have c2 := rot11 x w h
  rw [← hq] at c2
  have c3 := rot25 x w h
  rw [← hr] at c3
  have R := Lib.hid (show bits .xor .u32 (bits .xor .u32 (p : Int) (q : Int)) (r : Int) = (Sha.bs1 x : Int) by
    rw [hp, hq, hr, xor_n (Sha.rr_lt _ h) (Sha.rr_lt _ h), xor_n (Sha.xor_lt (Sha.rr_lt _ h) (Sha.rr_lt _ h)) (Sha.rr_lt _ h)]; rfl)
  have C1 := Lib.hid c1
  have C2 := Lib.hid c2
  have C3 := Lib.hid c3
  clear c1 c2 hp hq c3 hr
  go_enter Tryd.func80, Tryd.ntmps80
  go_wp2_with fail
  refine C1.out.mono ?_
  rintro e w' ⟨rfl, rfl⟩
  go_wp2_with fail
  refine C2.out.mono ?_
  rintro e w' ⟨rfl, rfl⟩
  go_wp2_with fail
  refine C3.out.mono ?_
  rintro e w' ⟨rfl, rfl⟩
  go_wp2_with fail
  go_ret
  exact ⟨ret_u32 (by have := R.out; simpa using this), rfl⟩

theorem chh_val {x y z : Nat} (hx : x < 4294967296) (hy : y < 4294967296) (hz : z < 4294967296) :
    bits .xor .u32 (bits .and .u32 (x : Int) (y : Int)) (bits .and .u32 (bits .xor .u32 IntKind.u32.max (x : Int)) (z : Int)) = (Sha.chh x y z : Int) := by
  have hm : IntKind.u32.max = ((4294967295 : Nat) : Int) := by decide
  rw [hm, xor_n (by omega) hx, and_n hx hy, and_n (Sha.xor_lt (by omega) hx) hz, xor_n (Sha.and_lt hx) (Sha.and_lt (Sha.xor_lt (by omega) hx))]; rfl
theorem maj_val {x y z : Nat} (hx : x < 4294967296) (hy : y < 4294967296) (hz : z < 4294967296) :
    bits .xor .u32 (bits .xor .u32 (bits .and .u32 (x : Int) (y : Int)) (bits .and .u32 (x : Int) (z : Int))) (bits .and .u32 (y : Int) (z : Int)) = (Sha.maj x y z : Int) := by
  rw [and_n hx hy, and_n hx hz, and_n hy hz, xor_n (Sha.and_lt hx) (Sha.and_lt hx), xor_n (Sha.xor_lt (Sha.and_lt hx) (Sha.and_lt hx)) (Sha.and_lt hy)]; rfl

theorem choice_any (x y z : Nat) (w : World) (hx : x < 4294967296) (hy : y < 4294967296) (hz : z < 4294967296) :
    Calls Tryd.prog 81 #[.int .u32 x, .int .u32 y, .int .u32 z] w fun e w' => e = .returned (.int .u32 (Sha.chh x y z)) ∧ w = w' := by
  have R := Lib.hid (chh_val hx hy hz)
  go_enter Tryd.func81, Tryd.ntmps81
  go_wp2
  go_ret
  all_goals first | exact ⟨ret_u32 R.out, rfl⟩ | (exfalso; revert h; decide)

theorem majority_any (x y z : Nat) (w : World) (hx : x < 4294967296) (hy : y < 4294967296) (hz : z < 4294967296) :
    Calls Tryd.prog 83 #[.int .u32 x, .int .u32 y, .int .u32 z] w fun e w' => e = .returned (.int .u32 (Sha.maj x y z)) ∧ w = w' := by
  have R := Lib.hid (maj_val hx hy hz)
  go_enter Tryd.func83, Tryd.ntmps83
  go_wp2
  go_ret
  exact ⟨ret_u32 R.out, rfl⟩
end

section
open Go.RowKit
set_option linter.unusedVariables false
set_option linter.unusedSimpArgs false

theorem spot_none {w : World} {a : Addr} {v : Value} (h : w.cell? a = some v) : a.spot = none := by
  unfold World.cell? at h
  split at h
  · split at h
    · cases h
    · rename_i hs; simpa using hs
  · cases h

/-- A slice of at least one byte: its address. -/
theorem Bs.addr {w : World} {B : Nat} {v : Value} {l : List UInt8} (h : Bs w B v l) (hl : 0 < l.length) :
    ∃ b o cap, v = .slice (some ⟨b, o, none⟩) l.length cap ∧ b < B ∧ l.length ≤ cap ∧ ∀ i c, l[i]? = some c → w.cell? ⟨b, o + i, none⟩ = some (.int .u8 (c.toNat : Int)) := by
  obtain ⟨A, cap, rfl⟩ := h.form
  obtain ⟨⟨b, o, s⟩, rfl, hb, hc⟩ := Row.at_ h hl
  obtain ⟨c0, hc0⟩ : ∃ c, l[0]? = some c := ⟨_, List.getElem?_eq_getElem hl⟩
  have h0 := hc 0 _ (h.at_ 0 c0 hc0)
  have hs : s = none := by simpa [Addr.add] using spot_none h0
  subst hs
  refine ⟨b, o, cap, rfl, hb, Row.cap h, fun i c hi => ?_⟩
  have := hc i _ (h.at_ i c hi)
  rwa [add_addr] at this

theorem wd_val {a b c d : Nat} (ha : a < 256) (hb : b < 256) (hc : c < 256) (hd : d < 256) :
    bits .or .u32 (bits .or .u32 (bits .or .u32 ((a : Int) * 16777216) ((b : Int) * 65536)) ((c : Int) * 256)) (d : Int) = (Sha.wd a b c d : Int) := by
  rw [show (a : Int) * 16777216 = ((a * 16777216 : Nat) : Int) by omega, show (b : Int) * 65536 = ((b * 65536 : Nat) : Int) by omega, show (c : Int) * 256 = ((c * 256 : Nat) : Int) by omega]
  rw [or_n (by omega) (by omega), or_n (Sha.or_lt (by omega) (by omega)) (by omega), or_n (Sha.or_lt (Sha.or_lt (by omega) (by omega)) (by omega)) (by omega)]; rfl

theorem word_any (v : Value) (a b c d : UInt8) (l : List UInt8) (w : World) (B : Nat) (hv : Bs w B v (a :: b :: c :: d :: l)) :
    Calls Tryd.prog 89 #[v] w fun e w' => e = .returned (.int .u32 (Sha.wd a.toNat b.toNat c.toNat d.toNat)) ∧ ∃ n, w' = w.drewN n := by
  obtain ⟨g, o, cap, rfl, hg, hcap, hc⟩ := hv.addr (by simp)
  have c0 : w.cell? ⟨g, o, none⟩ = some (.int .u8 (a.toNat : Int)) := hc 0 a rfl
  have c1 := hc 1 b rfl
  have c2 := hc 2 c rfl
  have c3 := hc 3 d rfl
  have ha := a.toNat_lt
  have hb := b.toNat_lt
  have hc' := c.toNat_lt
  have hd := d.toNat_lt
  have R := Lib.hid (wd_val ha hb hc' hd)
  obtain ⟨n, hn⟩ : ∃ n, n = (a :: b :: c :: d :: l).length := ⟨_, rfl⟩
  have hn4 : 4 ≤ n := by rw [hn]; simp
  rw [← hn]
  clear hn hc hv hcap
  have q0 : 0 < n := by omega
  have q1 : (1 : Int) < (n : Int) := by omega
  have q2 : (2 : Int) < (n : Int) := by omega
  have q3 : (3 : Int) < (n : Int) := by omega
  go_enter Tryd.func89, Tryd.ntmps89
  go_wp2
  go_quiet (fail)
  go_wp2
  go_ret
  exact ⟨ret_u32 R.out, _, rfl⟩

theorem u8s_set (l : List UInt8) (i : Nat) (b : UInt8) : u8s (l.set i b) = (u8s l).set i (u8 b) := by simp [u8s, List.map_set]
theorem u8_b8 (n : Nat) : u8 (Sha.b8 n) = .int .u8 ((n % 256 : Nat) : Int) := by unfold u8; rw [Sha.b8_nat]
/-- Four bytes of l, from o on, turned. -/
def put4 (l : List UInt8) (o x : Nat) : List UInt8 := (((l.set o (Sha.b8 (x / 16777216))).set (o + 1) (Sha.b8 (x / 65536))).set (o + 2) (Sha.b8 (x / 256))).set (o + 3) (Sha.b8 x)

set_option maxHeartbeats 1000000 in
theorem putWord_nat (g o n cap x : Nat) (t : TypeId) (l : List UInt8) (w : World) (hg : Blk w g t (u8s l)) (ho : o + 4 ≤ l.length) (hn : 4 ≤ n) (hx : x < 4294967296) :
    Calls Tryd.prog 84 #[.slice (some ⟨g, o, none⟩) n cap, .int .u32 x] w fun e w' => (∃ v, e = .returned v) ∧ Blk w' g t (u8s (put4 l o x)) ∧ Keep (fun k => k ≠ g) w w' := by
  have hc : ∀ j, j < l.length → ∃ u, w.cell? ⟨g, j, none⟩ = some u := fun j hj => ⟨_, hg.cell (List.getElem?_eq_getElem (by rw [u8s_length]; exact hj))⟩
  obtain ⟨u0, c0⟩ := hc o (by omega)
  obtain ⟨u1, c1⟩ := hc (o + 1) (by omega)
  obtain ⟨u2, c2⟩ := hc (o + 2) (by omega)
  obtain ⟨u3, c3⟩ := hc (o + 3) (by omega)
  have f0 := hg.frozen o
  have f1 := hg.frozen (o + 1)
  have f2 := hg.frozen (o + 2)
  have f3 := hg.frozen (o + 3)
  have q0 : 0 < n := by omega
  have q1 : (1 : Int) < (n : Int) := by omega
  have q2 : (2 : Int) < (n : Int) := by omega
  have q3 : (3 : Int) < (n : Int) := by omega
  clear hc
  go_enter Tryd.func84, Tryd.ntmps84
  go_wp2
  go_end0
  refine ⟨⟨_, rfl⟩, ?_, ?_⟩
  · have h4 := (((hg.set o (u8 (Sha.b8 (x / 16777216)))).set (o + 1) (u8 (Sha.b8 (x / 65536)))).set (o + 2) (u8 (Sha.b8 (x / 256)))).set (o + 3) (u8 (Sha.b8 x))
    rw [← u8s_set, ← u8s_set, ← u8s_set, ← u8s_set] at h4
    rw [u8_b8, u8_b8, u8_b8, u8_b8] at h4
    have e0 : ((x / 16777216 % 256 : Nat) : Int) = (x : Int) / 16777216 := by omega
    have e1 : ((x / 65536 % 256 : Nat) : Int) = (x : Int) / 65536 % 256 := by omega
    have e2 : ((x / 256 % 256 : Nat) : Int) = (x : Int) / 256 % 256 := by omega
    have e3 : ((x % 256 : Nat) : Int) = (x : Int) % 256 := by omega
    rw [e0, e1, e2, e3] at h4
    exact h4
  · exact (((Keep.setCell _ _ _ (fun h => h rfl)).trans (Keep.setCell _ _ _ (fun h => h rfl))).trans (Keep.setCell _ _ _ (fun h => h rfl))).trans (Keep.setCell _ _ _ (fun h => h rfl))

theorem putWord_any (g o n cap x : Nat) (I : Int) (t : TypeId) (l : List UInt8) (w : World) (hg : Blk w g t (u8s l)) (ho : o + 4 ≤ l.length) (hn : 4 ≤ n) (hx : x < 4294967296) (hI : I = (x : Int)) :
    Calls Tryd.prog 84 #[.slice (some ⟨g, o, none⟩) n cap, .int .u32 I] w fun e w' => (∃ v, e = .returned v) ∧ Blk w' g t (u8s (put4 l o x)) ∧ Keep (fun k => k ≠ g) w w' := by
  subst hI
  exact putWord_nat g o n cap x t l w hg ho hn hx

theorem put4_mid (p q : List UInt8) (a b c d : UInt8) (x : Nat) : put4 (p ++ a :: b :: c :: d :: q) p.length x = p ++ Sha.be4 x ++ q := by
  unfold put4 Sha.be4
  rw [List.set_append_right (h := Nat.le_refl _), List.set_append_right (h := by omega), List.set_append_right (h := by omega), List.set_append_right (h := by omega)]
  simp
end

section
open Go.RowKit
set_option linter.unusedVariables false
set_option linter.unusedSimpArgs false

def z64 : List Value := List.replicate 64 (.int .u32 0)
theorem zero_64 (w : World) : (zeroValue 100).run Tryd.prog w = .ok (.agg z64.toArray) w := by kernel_rfl
theorem info_64 : (Tryd.prog.info? 100).map (·.size) = some 64 := by kernel_rfl

/-- The first words of the schedule, zeros behind. -/
def arr (L : List Nat) : List Nat := L ++ List.replicate (64 - L.length) 0
theorem arr_len {L : List Nat} (h : L.length ≤ 64) : (arr L).length = 64 := by simp [arr]; omega
theorem arr_put {L : List Nat} (h : L.length < 64) (x : Nat) : (arr L).set L.length x = arr (L ++ [x]) := by
  unfold arr
  obtain ⟨m, hm⟩ : ∃ m, 64 - L.length = m + 1 := ⟨64 - L.length - 1, by omega⟩
  have hm' : 64 - (L ++ [x]).length = m := by simp; omega
  rw [hm, hm', List.replicate_succ, List.set_append_right (h := Nat.le_refl _)]
  simp
theorem arr_get {L : List Nat} {i : Nat} (hi : i < L.length) : (w32s (arr L))[i]? = some (.int .u32 (L.getD i 0)) := by
  have h1 : (arr L)[i]? = some L[i] := by unfold arr; rw [List.getElem?_append_left hi, List.getElem?_eq_getElem hi]
  have h2 : L.getD i 0 = L[i] := by simp [List.getD, List.getElem?_eq_getElem hi]
  rw [h2]
  simp [w32s, w32, h1]
theorem arr_some {L : List Nat} (h : L.length ≤ 64) {i : Nat} (hi : i < 64) : ∃ u, (w32s (arr L))[i]? = some u := ⟨_, List.getElem?_eq_getElem (by rw [w32s_length, arr_len h]; exact hi)⟩
theorem w32s_set (l : List Nat) (i : Nat) (x : Nat) : w32s (l.set i x) = (w32s l).set i (w32 x) := by simp [w32s, List.map_set]

theorem drop4 {l : List UInt8} {k : Nat} (h : 4 * k + 4 ≤ l.length) : ∃ a b c d r, l.drop (4 * k) = a :: b :: c :: d :: r ∧ Sha.word l k = Sha.wd a.toNat b.toNat c.toNat d.toNat := by
  have h1 : l.drop (4 * k) = l[4 * k] :: l[4 * k + 1] :: l[4 * k + 2] :: l[4 * k + 3] :: l.drop (4 * k + 4) := by
    rw [List.drop_eq_getElem_cons (by omega), List.drop_eq_getElem_cons (by omega), List.drop_eq_getElem_cons (by omega), List.drop_eq_getElem_cons (by omega)]
  refine ⟨_, _, _, _, _, h1, ?_⟩
  unfold Sha.word
  simp [List.getD, List.getElem?_eq_getElem (show 4 * k < l.length by omega), List.getElem?_eq_getElem (show 4 * k + 1 < l.length by omega), List.getElem?_eq_getElem (show 4 * k + 2 < l.length by omega), List.getElem?_eq_getElem (show 4 * k + 3 < l.length by omega)]

theorem w16_take {l : List UInt8} {k : Nat} (hk : k < 16) : (Sha.w16 l).take (k + 1) = (Sha.w16 l).take k ++ [Sha.word l k] := by
  rw [List.take_add_one]
  congr 1
  simp [Sha.w16, hk]

theorem word_b (v : Value) (l : List UInt8) (k : Nat) (w : World) (B : Nat) (hv : Bs w B v (l.drop (4 * k))) (h : 4 * k + 4 ≤ l.length) :
    Calls Tryd.prog 89 #[v] w fun e w' => e = .returned (.int .u32 (Sha.word l k)) ∧ Below w.heap.size w w' := by
  obtain ⟨a, b, c, d, r, h1, h2⟩ := drop4 h
  rw [h1] at hv
  rw [h2]
  exact (word_any v a b c d r w B hv).mono fun e w' ⟨h1, n, h2⟩ => ⟨h1, by rw [h2]; exact below_drewN (Below.refl _ _) n⟩

theorem cut_bs {w : World} {B : Nat} {v : Value} {b : List UInt8} {i k : Nat} (h : Row w B 1 k v (((u8s b).drop (i * 1)).take (k * 1))) (hk : i + k = b.length) : Bs w B v (b.drop i) := by
  have e : (b.drop i).length = k := by simp; omega
  unfold Bs
  rw [e]
  have e2 : ((u8s b).drop (i * 1)).take (k * 1) = u8s (b.drop i) := by
    rw [Nat.mul_one, Nat.mul_one, List.take_of_length_le (by simp [u8s_length]; omega)]
    simp [u8s]
  rwa [e2] at h

theorem flip_same {P : Program} {f : FuncId} {args : Array Value} {w : World} {v : Value} (h : Calls P f args w fun e w' => e = .returned v ∧ w = w') : Calls P f args w fun e w' => e = .returned v ∧ w' = w :=
  h.mono fun _ _ ⟨a, b⟩ => ⟨a, b.symm⟩

set_option maxRecDepth 100000 in
set_option maxHeartbeats 1000000 in
theorem schedule_any (v : Value) (l : List UInt8) (w : World) (hv : Bs w w.heap.size v l) (hl : l.length = 64) :
    Calls Tryd.prog 79 #[v] w fun e w' => e = .returned (.agg (w32s (Sha.sch l)).toArray) ∧ Below w.heap.size w w' := by
  obtain ⟨A, cap, rfl⟩ := hv.form
  have hz := zero_64
  have HL := Lib.hid hl
  clear hl
  go_enter Tryd.func79, Tryd.ntmps79
  go_wp2
  obtain ⟨W, hW⟩ : ∃ W, W = (w.alloc (.cells z64.toArray 100)).alloc (.cells z64.toArray 100) := ⟨_, rfl⟩
  rw [← hW]
  have hb0 : Below w.heap.size w W := by rw [hW]; exact ((Below.refl _ _).alloc (Nat.le_refl _) _).alloc (by simp) _
  have hr0 : Blk W w.heap.size 100 z64 := by rw [hW]; exact (Blk.new w _ _).past ((Below.refl _ _).alloc (Nat.le_refl _) _) (by simp)
  have hw0 : Blk W (w.heap.size + 1) 100 (w32s (arr [])) := by
    have h := Blk.new (w.alloc (.cells z64.toArray 100)) 100 z64
    rw [World.size_alloc] at h
    rw [hW]; exact h
  clear hW hz
  go_loopw [6] (fun i wr => ∃ k : Nat, i = .int .i64 k ∧ k ≤ 16 ∧ Blk wr (w.heap.size + 1) 100 (w32s (arr ((Sha.w16 l).take k))) ∧ Blk wr w.heap.size 100 z64 ∧ Below w.heap.size w wr) (fun i _ => (16 - intOf i).toNat)
  case atStart => exact ⟨0, rfl, by omega, hw0, hr0, hb0⟩
  case round =>
    obtain ⟨k, rfl, hk, hbw, hbr, hbl⟩ := hrel
    have hvr := hv.carry hbl hbl.size
    by_cases hlt : k < 16
    · go_wp2_with (refine wp_cut 22 5 Tryd.underlying22 size_u8 (.tmp 10) (some (.tmp 12)) none rfl rfl rfl hvr (4 * k) (64 - 4 * k) (.inr ⟨_, _, rfl, by push_cast; rfl⟩) (.inl ⟨rfl, by have := HL.out; omega⟩) (by have := HL.out; omega) ?_; intro A1 c1 hrow)
      have hlen : ((Sha.w16 l).take k).length = k := by rw [List.length_take, Sha.w16_len]; omega
      refine (word_b _ l k wr wr.heap.size (cut_bs hrow (by have := HL.out; omega)) (by have := HL.out; omega)).mono ?_
      rintro e w2 ⟨rfl, hb2⟩
      have hbw2 := hbw.past hb2 hbw.lt
      have hbr2 := hbr.past hb2 hbr.lt
      obtain ⟨u, hu⟩ := arr_some (L := (Sha.w16 l).take k) (by omega) (show k < 64 by omega)
      have hc := hbw2.cell hu
      have hf := hbw2.frozen k
      have hput := hbw2.set k (w32 (Sha.word l k))
      rw [← w32s_set] at hput
      have e1 : (arr ((Sha.w16 l).take k)).set k (Sha.word l k) = arr ((Sha.w16 l).take (k + 1)) := by
        have h := arr_put (L := (Sha.w16 l).take k) (by omega) (Sha.word l k)
        rw [hlen] at h
        rw [h, w16_take hlt]
      rw [e1] at hput
      have hbl2 := hbl.trans (hb2.mono hbl.size)
      have hs0 : w.heap.size + 1 < w2.heap.size := hbw2.lt
      have hbr3 := hbr2.keep (Keep.setCell w2 ⟨w.heap.size + 1, k, none⟩ (w32 (Sha.word l k)) (O := fun q => q ≠ w.heap.size + 1) (fun h => h rfl)) (by omega)
      have hbl3 : Below w.heap.size w (w2.setCell ⟨w.heap.size + 1, k, none⟩ (w32 (Sha.word l k))) := hbl2.setCell (by simp) _
      clear hlen hu e1 hrow hvr hbw hbr hbw2 hbr2 hbl hb2
      go_wp2
      go_roundw
      case rel => exact ⟨k + 1, by go_num, by omega, hput, hbr3, hbl3⟩
      case measure => simp [intOf]; omega
    · have hbw1 : Blk wr (w.heap.size + 1) 100 (w32s (arr (Sha.ext 0 (Sha.w16 l)))) := by
        have h := hbw
        rw [List.take_of_length_le (by rw [Sha.w16_len]; omega)] at h
        exact h
      clear hbw
      go_wp2
      go_loopw [5] (fun i wr => ∃ (k j : Nat), i = .int .i64 k ∧ k ≤ 64 ∧ Hid (k = 16 + j) ∧ 16 ≤ k ∧ Blk wr (w.heap.size + 1) 100 (w32s (arr (Sha.ext j (Sha.w16 l)))) ∧ Blk wr w.heap.size 100 z64 ∧ Below w.heap.size w wr) (fun i _ => (64 - intOf i).toNat)
      case atStart => exact ⟨16, 0, rfl, by omega, Lib.hid rfl, by omega, hbw1, hbr, hbl⟩
      case round =>
        obtain ⟨k, j, rfl, hk, HKJ, hk16, hbw, hbr, hbl⟩ := hrel
        obtain ⟨L, hL⟩ : ∃ L, L = Sha.ext j (Sha.w16 l) := ⟨_, rfl⟩
        have hlen : L.length = k := by rw [hL, Sha.ext_len, Sha.w16_len]; exact HKJ.out.symm
        have hws : Sha.Ws L := by rw [hL]; exact Sha.ext_ws j (Sha.w16_ws l)
        rw [← hL] at hbw
        by_cases hlt : k < 64
        · have hs1 : Sha.ext (j + 1) (Sha.w16 l) = L ++ [Sha.nxt L] := by rw [hL, Sha.ext_snoc]
          have hnx : Sha.nxt L = Sha.ad (Sha.ad (Sha.ad (Sha.ss1 (L.getD (k - 2) 0)) (L.getD (k - 7) 0)) (Sha.ss0 (L.getD (k - 15) 0))) (L.getD (k - 16) 0) := by unfold Sha.nxt; rw [hlen]
          obtain ⟨x2, hx2⟩ : ∃ x, x = L.getD (k - 2) 0 := ⟨_, rfl⟩
          obtain ⟨x7, hx7⟩ : ∃ x, x = L.getD (k - 7) 0 := ⟨_, rfl⟩
          obtain ⟨x15, hx15⟩ : ∃ x, x = L.getD (k - 15) 0 := ⟨_, rfl⟩
          obtain ⟨x16, hx16⟩ : ∃ x, x = L.getD (k - 16) 0 := ⟨_, rfl⟩
          have c2 := hbw.cell (arr_get (L := L) (i := k - 2) (by omega))
          have c7 := hbw.cell (arr_get (L := L) (i := k - 7) (by omega))
          have c15 := hbw.cell (arr_get (L := L) (i := k - 15) (by omega))
          have c16 := hbw.cell (arr_get (L := L) (i := k - 16) (by omega))
          have l2 := hws.getD (k - 2)
          have l7 := hws.getD (k - 7)
          have l15 := hws.getD (k - 15)
          have l16 := hws.getD (k - 16)
          rw [← hx2] at c2 l2 hnx
          rw [← hx7] at c7 l7 hnx
          rw [← hx15] at c15 l15 hnx
          rw [← hx16] at c16 l16 hnx
          obtain ⟨y2, hy2⟩ : ∃ y, y = Sha.ss1 x2 := ⟨_, rfl⟩
          obtain ⟨y15, hy15⟩ : ∃ y, y = Sha.ss0 x15 := ⟨_, rfl⟩
          have k2 := fun W => flip_same (smallSigma1_any x2 W l2)
          have k15 := fun W => flip_same (smallSigma0_any x15 W l15)
          rw [← hy2] at k2 hnx
          rw [← hy15] at k15 hnx
          have K2 := Lib.hid k2
          have K15 := Lib.hid k15
          have HNX := Lib.hid hnx
          have HS1 := Lib.hid hs1
          clear k2 k15 hnx hs1 hy2 hy15 hx2 hx7 hx15 hx16
          have HLEN := Lib.hid hlen
          have HLL := Lib.hid hL
          clear hlen hL
          have i2 : IntKind.i64.wrap ((k : Int) - 2) = ((k - 2 : Nat) : Int) := by rw [IntKind.wrap_i64]; omega
          have i7 : IntKind.i64.wrap ((k : Int) - 7) = ((k - 7 : Nat) : Int) := by rw [IntKind.wrap_i64]; omega
          have i15 : IntKind.i64.wrap ((k : Int) - 15) = ((k - 15 : Nat) : Int) := by rw [IntKind.wrap_i64]; omega
          have i16 : IntKind.i64.wrap ((k : Int) - 16) = ((k - 16 : Nat) : Int) := by rw [IntKind.wrap_i64]; omega
          have b2 : ((k - 2 : Nat) : Int) < 64 := by omega
          have b7 : ((k - 7 : Nat) : Int) < 64 := by omega
          have b15 : ((k - 15 : Nat) : Int) < 64 := by omega
          have b16 : ((k - 16 : Nat) : Int) < 64 := by omega
          go_wp2
          go_still_tail 22, (by kernel_rfl)
          still_call (K2.out _)
          repeat still_step
          still_call (K15.out _)
          repeat still_step
          refine wpStill_nil ?_
          rw [ad_n, ad_n, ad_n, ← HNX.out]
          obtain ⟨nx, hnx⟩ : ∃ nx, nx = Sha.nxt L := ⟨_, rfl⟩
          rw [← hnx]
          change wpList _ _ _ _ _ wr.drew
          have hbd : Below wr.heap.size wr wr.drew := (Below.refl _ _).drew
          have hbw2 := hbw.past hbd hbw.lt
          have hbr2 := hbr.past hbd hbr.lt
          have hbl2 : Below w.heap.size w wr.drew := hbl.drew
          obtain ⟨w2, hw2⟩ : ∃ w2, w2 = wr.drew := ⟨_, rfl⟩
          rw [← hw2] at hbw2 hbr2 hbl2 ⊢
          obtain ⟨u, hu⟩ := arr_some (L := L) (by have := HLEN.out; omega) (show k < 64 by omega)
          have hc := hbw2.cell hu
          have hf := hbw2.frozen k
          have hput := hbw2.set k (w32 nx)
          rw [← w32s_set] at hput
          have e1 : (arr L).set k nx = arr (Sha.ext (j + 1) (Sha.w16 l)) := by
            have h := arr_put (L := L) (by have := HLEN.out; omega) nx
            rw [HLEN.out] at h
            rw [h, HS1.out, hnx]
          rw [e1] at hput
          have hs0 : w.heap.size + 1 < w2.heap.size := hbw2.lt
          have hbr3 := hbr2.keep (Keep.setCell w2 ⟨w.heap.size + 1, k, none⟩ (w32 nx) (O := fun q => q ≠ w.heap.size + 1) (fun h => h rfl)) (by omega)
          have hbl3 : Below w.heap.size w (w2.setCell ⟨w.heap.size + 1, k, none⟩ (w32 nx)) := hbl2.setCell (by simp) _
          clear hu e1 hbw hbr hbw2 hbr2 hbl hbl2 hbd hw2 hnx i2 i7 i15 i16 c2 c7 c15 c16
          go_wp2
          go_roundw
          case rel => exact ⟨k + 1, j + 1, by go_num, by omega, Lib.hid (by have := HKJ.out; omega), by omega, hput, hbr3, hbl3⟩
          case measure => simp [intOf]; omega
        · have hj : j = 48 := by have := HKJ.out; omega
          have hLs : L = Sha.sch l := by rw [hL, hj]; rfl
          have harr : arr L = L := by unfold arr; rw [hlen, show k = 64 by omega]; simp
          rw [harr] at hbw
          have hlen2 : (w32s L).length = 64 := by rw [w32s_length, hlen]; omega
          have HL2 := Lib.hid hlen2
          have HLS := Lib.hid hLs
          have hs0 : w.heap.size + 1 < wr.heap.size := hbw.lt
          clear hLs hL hj harr hlen hws hlen2
          go_upto_region 11 with (fail)
          refine wp_region_lit ?_
          refine wp_loadA 100 (.tmp 3) rfl rfl (w.heap.size + 1) rfl 100 _ 64 80 hbw Tryd.underlying100 (by rw [info_64, HL2.out]) ?_
          refine wp_storeA 100 (.tmp 2) (.tmp 44) rfl rfl w.heap.size rfl 100 z64 _ rfl hbr (by rw [info_64, HL2.out]) (by rw [HL2.out]; rfl) (w32s_one _) rfl ?_
          intro w2 hbr2 hk2
          have hbl2 := hbl.trans (hk2.below (n := w.heap.size) (fun q hq => by omega) hbl.size)
          clear hbw hbr hbl hk2
          go_wp2
          refine ret_arr Tryd.results79 rfl w.heap.size 100 _ 64 80 rfl hbr2 Tryd.underlying100 (by rw [info_64, HL2.out]) ?_
          rw [HLS.out]
          exact ⟨rfl, hbl2⟩
end

section
open Go.RowKit
set_option linter.unusedVariables false
set_option linter.unusedSimpArgs false

/-- The table of the round constants, as variable b. -/
def KIs (b : Nat) (w : World) : Prop := ∀ t : Nat, t < 64 → w.cell? ⟨b, t, none⟩ = some (.int .u32 (Sha.Kn t))
theorem KIs.keep {b : Nat} {w w' : World} {O : Nat → Prop} (h : KIs b w) (hk : Keep O w w') (hO : O b) : KIs b w' := fun t ht => hk.cell (p := ⟨b, t, none⟩) hO (h t ht)
theorem KIs.past {b : Nat} {w w' : World} (h : KIs b w) (hb : Below w.heap.size w w') : KIs b w' := fun t ht => cell_past (h t ht) hb

theorem kis_of {b : Nat} {w : World} (h : ∀ i u, (w32s Sha.Kl)[i]? = some u → w.cell? ⟨b, i, none⟩ = some u) : KIs b w := fun t ht => by
  refine h t _ ?_
  have hl : t < Sha.Kl.length := by show t < 64; exact ht
  unfold w32s Sha.Kn
  rw [List.getElem?_map, List.getElem?_eq_getElem hl, List.getD_eq_getElem?_getD, List.getElem?_eq_getElem hl]
  rfl

theorem sch_get (l : List UInt8) (t : Nat) (ht : t < 64) : (w32s (Sha.sch l))[t]? = some (.int .u32 ((Sha.sch l).getD t 0)) := by
  have h1 : t < (Sha.sch l).length := by rw [Sha.sch_len]; exact ht
  have h2 : (Sha.sch l).getD t 0 = (Sha.sch l)[t] := by simp [List.getD, List.getElem?_eq_getElem h1]
  rw [h2]
  simp [w32s, w32, List.getElem?_eq_getElem h1]

theorem ad_mod (a b : Nat) : ((a : Int) + (b : Int)) % 4294967296 = (Sha.ad a b : Int) := by unfold Sha.ad; omega
theorem mix_set (P S : Sha.St) {k z : Nat} (hk : k < 8) (hz : P.list[k]? = some z) : (P.list.take k ++ S.list.drop k).set k z = P.list.take (k + 1) ++ S.list.drop (k + 1) := by
  obtain ⟨a, b, c, d, e, f, g, h⟩ := P
  obtain ⟨a', b', c', d', e', f', g', h'⟩ := S
  have hcases : k = 0 ∨ k = 1 ∨ k = 2 ∨ k = 3 ∨ k = 4 ∨ k = 5 ∨ k = 6 ∨ k = 7 := by omega
  rcases hcases with rfl | rfl | rfl | rfl | rfl | rfl | rfl | rfl <;> (simp [Sha.St.list] at hz ⊢; exact hz.symm)
theorem Sha.St.list_len (S : Sha.St) : S.list.length = 8 := rfl
theorem plus_get (P S : Sha.St) {k x y : Nat} (hy : P.list[k]? = some y) (hx : [S.a, S.b, S.c, S.d, S.e, S.f, S.g, S.h][k]? = some x) : (Sha.plus P S).list[k]? = some (Sha.ad y x) := by
  have hk : k < 8 := by have := (List.getElem?_eq_some_iff.1 hy).1; rwa [P.list_len] at this
  have hcases : k = 0 ∨ k = 1 ∨ k = 2 ∨ k = 3 ∨ k = 4 ∨ k = 5 ∨ k = 6 ∨ k = 7 := by omega
  rcases hcases with rfl | rfl | rfl | rfl | rfl | rfl | rfl | rfl <;> (simp [Sha.St.list, Sha.plus] at hx hy ⊢; rw [hx, hy])
theorem size_u32 : (Tryd.prog.info? 80).map (·.size) = some 1 := by kernel_rfl
theorem info_st : (Tryd.prog.info? 82).map (·.size) = some 8 := by kernel_rfl

set_option maxRecDepth 100000 in
set_option maxHeartbeats 1000000 in
theorem compress_any (sb : Nat) (s : Sha.St) (v : Value) (l : List UInt8) (w : World) (hv : Bs w w.heap.size v l) (hl : l.length = 64) (hs : s.ok) (hb : Blk w sb 82 (w32s s.list)) (hk : KIs 1 w) :
    Calls Tryd.prog 67 #[.pointer (some ⟨sb, 0, none⟩), v] w fun e w' => (∃ v, e = .returned v) ∧ Blk w' sb 82 (w32s (Sha.cmp s l).list) ∧ Keep (fun q => q ≠ sb) w w' := by
  have hz := zero_64
  have hc := schedule_any v l w hv hl
  have HC := Lib.hid hc
  have HL := Lib.hid hl
  clear hl hc
  go_enter Tryd.func67, Tryd.ntmps67
  go_wp2_with fail
  refine HC.out.mono ?_
  rintro e w2 ⟨rfl, hb2⟩
  have hbs2 := hb.past hb2 hb.lt
  have hk2 := hk.past hb2
  have hsb : sb < w.heap.size := hb.lt
  obtain ⟨S, hS⟩ : ∃ S, S = Sha.sch l := ⟨_, rfl⟩
  have hSl : S.length = 64 := by rw [hS, Sha.sch_len]
  have hSw : Sha.Ws S := by rw [hS]; exact Sha.sch_ws l
  have hSg : ∀ t, t < 64 → (w32s S)[t]? = some (.int .u32 (S.getD t 0)) := by rw [hS]; exact sch_get l
  rw [← hS]
  have HS := Lib.hid hS
  have HSL := Lib.hid (show (w32s S).length = 64 by rw [w32s_length, hSl])
  have HSG := Lib.hid hSg
  have hs2 := hb2.size
  clear hS hSl hSg hb hk hv
  go_wp2_with (refine wp_storeA 100 (.tmp 4) (.tmp 20) rfl rfl w2.heap.size rfl 100 z64 _ rfl (Blk.new w2 _ _) (by rw [info_64, HSL.out]) (by rw [HSL.out]; rfl) (w32s_one _) rfl ?_; intro w3 hbw3 hk3)
  have hs3 := hk3.size
  rw [World.size_alloc] at hs3
  have ha2 : Keep (fun q => q < w2.heap.size) w2 (w2.alloc (.cells z64.toArray 100)) := Keep.of_below ((Below.refl _ _).alloc (Nat.le_refl _) _)
  have hka : Keep (fun q => q < w2.heap.size) w2 w3 := ha2.trans (hk3.mono (fun q hq => by omega))
  have hb3 : Below w.heap.size w w3 := hb2.trans (hka.below (fun q hq => by omega) hs2)
  have hbs3 := hbs2.keep hka (by omega)
  have hk3' : KIs 1 w3 := fun t ht => hka.cell (p := ⟨_, t, none⟩) (block_lt_of_cell (hk2 t ht)) (hk2 t ht)
  obtain ⟨T, hT⟩ : ∃ T, T = w2.heap.size := ⟨_, rfl⟩
  rw [← hT] at hbw3 hs2 hs3 ⊢
  clear hbs2 hk2 hb2 ha2 hka hk3 hz HC hT
  obtain ⟨a0, b0, c0, d0, e0, f0, g0, h0⟩ := s
  obtain ⟨la, lb, lc, ld, le, lf, lg, lh⟩ := hs
  simp only at la lb lc ld le lf lg lh
  have q0 : w3.cell? ⟨sb, 0, none⟩ = some (.int .u32 a0) := hbs3.cell rfl
  have q1 : w3.cell? ⟨sb, 1, none⟩ = some (.int .u32 b0) := hbs3.cell rfl
  have q2 : w3.cell? ⟨sb, 2, none⟩ = some (.int .u32 c0) := hbs3.cell rfl
  have q3 : w3.cell? ⟨sb, 3, none⟩ = some (.int .u32 d0) := hbs3.cell rfl
  have q4 : w3.cell? ⟨sb, 4, none⟩ = some (.int .u32 e0) := hbs3.cell rfl
  have q5 : w3.cell? ⟨sb, 5, none⟩ = some (.int .u32 f0) := hbs3.cell rfl
  have q6 : w3.cell? ⟨sb, 6, none⟩ = some (.int .u32 g0) := hbs3.cell rfl
  have q7 : w3.cell? ⟨sb, 7, none⟩ = some (.int .u32 h0) := hbs3.cell rfl
  go_quiet (fail)
  obtain ⟨w4, hw4⟩ : ∃ w4, w4 = w3.drewN nq := ⟨_, rfl⟩
  have h34 : Below w3.heap.size w3 w4 := by rw [hw4]; exact below_drewN (Below.refl _ _) nq
  rw [← hw4]
  have hbs4 := hbs3.past h34 hbs3.lt
  have hbw4 := hbw3.past h34 hbw3.lt
  have hk4 := hk3'.past h34
  have hb4 := hb3.trans (h34.mono (by omega))
  have hs4 : T + 1 ≤ w4.heap.size := by have := h34.size; omega
  clear hw4 h34 hbs3 hbw3 hk3' hb3 hs3 q0 q1 q2 q3 q4 q5 q6 q7
  go_wp2_with fail
  go_loopw [5, 6, 7, 8, 9, 10, 11, 12, 53] (fun va vb vc vd ve vf vg vh i wr => ∃ (t : Nat) (r : Sha.St), i = .int .i64 t ∧ t ≤ 64 ∧ Hid (r = Sha.rnds S ⟨a0, b0, c0, d0, e0, f0, g0, h0⟩ t) ∧ r.ok ∧
      va = .int .u32 r.a ∧ vb = .int .u32 r.b ∧ vc = .int .u32 r.c ∧ vd = .int .u32 r.d ∧ ve = .int .u32 r.e ∧ vf = .int .u32 r.f ∧ vg = .int .u32 r.g ∧ vh = .int .u32 r.h ∧ Below w4.heap.size w4 wr) (fun _ _ _ _ _ _ _ _ i _ => (64 - intOf i).toNat)
  case atStart => exact ⟨0, ⟨a0, b0, c0, d0, e0, f0, g0, h0⟩, rfl, by omega, rfl, ⟨la, lb, lc, ld, le, lf, lg, lh⟩, rfl, rfl, rfl, rfl, rfl, rfl, rfl, rfl, Below.refl _ _⟩
  case round =>
    obtain ⟨t, ⟨A, B, C, D, E, F, G, H⟩, rfl, ht, HR, ⟨mA, mB, mC, mD, mE, mF, mG, mH⟩, rfl, rfl, rfl, rfl, rfl, rfl, rfl, rfl, hbl⟩ := hrel
    simp only at mA mB mC mD mE mF mG mH
    by_cases hlt : t < 64
    · obtain ⟨kt, hkt⟩ : ∃ k, k = Sha.Kn t := ⟨_, rfl⟩
      obtain ⟨wt, hwt⟩ : ∃ k, k = S.getD t 0 := ⟨_, rfl⟩
      have ckt : wr.cell? ⟨1, t, none⟩ = some (.int .u32 kt) := by rw [hkt]; exact cell_past (hk4 t hlt) hbl
      have cwt : wr.cell? ⟨T, t, none⟩ = some (.int .u32 wt) := by rw [hwt]; exact cell_past (hbw4.cell (HSG.out t hlt)) hbl
      have lkt : kt < 4294967296 := by rw [hkt]; exact Sha.Kn_lt t
      have lwt : wt < 4294967296 := by rw [hwt]; exact hSw.getD t
      have HN := Lib.hid (show Sha.rnds S ⟨a0, b0, c0, d0, e0, f0, g0, h0⟩ (t + 1) = Sha.rnd kt wt ⟨A, B, C, D, E, F, G, H⟩ by
        rw [hkt, hwt, HR.out]; rfl)
      obtain ⟨y1, hy1⟩ : ∃ y, y = Sha.bs1 E := ⟨_, rfl⟩
      obtain ⟨y2, hy2⟩ : ∃ y, y = Sha.chh E F G := ⟨_, rfl⟩
      obtain ⟨y3, hy3⟩ : ∃ y, y = Sha.bs0 A := ⟨_, rfl⟩
      obtain ⟨y4, hy4⟩ : ∃ y, y = Sha.maj A B C := ⟨_, rfl⟩
      have k1 := fun W => flip_same (bigSigma1_any E W mE)
      have k2 := fun W => flip_same (choice_any E F G W mE mF mG)
      have k3 := fun W => bigSigma0_any A W mA
      have k4 := fun W => majority_any A B C W mA mB mC
      rw [← hy1] at k1
      rw [← hy2] at k2
      rw [← hy3] at k3
      rw [← hy4] at k4
      have K1 := Lib.hid k1
      have K2 := Lib.hid k2
      have K3 := Lib.hid k3
      have K4 := Lib.hid k4
      have HY := Lib.hid (show y1 = Sha.bs1 E ∧ y2 = Sha.chh E F G ∧ y3 = Sha.bs0 A ∧ y4 = Sha.maj A B C from ⟨hy1, hy2, hy3, hy4⟩)
      have ly3 : y3 < 4294967296 := by rw [hy3]; exact Sha.bs0_lt mA
      have ly4 : y4 < 4294967296 := by rw [hy4]; exact Sha.maj_lt mA mB
      clear k1 k2 k3 k4 hy1 hy2 hy3 hy4 hkt hwt
      go_wp2_with fail
      refine wp_region_still_lit (by kernel_rfl) (by kernel_rfl) ?_
      repeat still_step
      still_call (K1.out _)
      repeat still_step
      still_call (K2.out _)
      repeat still_step
      refine wpStill_nil ?_
      change Exit.then _ _ Exit.normal _ wr.drew
      rw [ad_n, ad_n, ad_n, ad_n]
      obtain ⟨t1, ht1⟩ : ∃ t1, t1 = Sha.ad (Sha.ad (Sha.ad (Sha.ad H y1) y2) kt) wt := ⟨_, rfl⟩
      obtain ⟨t2, ht2⟩ : ∃ t2, t2 = Sha.ad y3 y4 := ⟨_, rfl⟩
      have lt1 : t1 < 4294967296 := by rw [ht1]; exact Sha.ad_lt _ _
      have lt2 : t2 < 4294967296 := by rw [ht2]; exact Sha.ad_lt _ _
      have HN2 := Lib.hid (show Sha.rnds S ⟨a0, b0, c0, d0, e0, f0, g0, h0⟩ (t + 1) = ⟨Sha.ad t1 t2, A, B, C, Sha.ad D t1, E, F, G⟩ by
        rw [HN.out, ht1, ht2, HY.out.1, HY.out.2.1, HY.out.2.2.1, HY.out.2.2.2]; rfl)
      have AA := Lib.hid (show ((y3 : Int) + (y4 : Int)) % 4294967296 = (t2 : Int) by rw [ht2]; exact ad_mod y3 y4)
      rw [← ht1]
      have hbl5 : Below w4.heap.size w4 wr.drew := hbl.drew
      obtain ⟨w5, hw5⟩ : ∃ w5, w5 = wr.drew := ⟨_, rfl⟩
      rw [← hw5] at hbl5 ⊢
      clear hw5 ckt cwt ht1 ht2 hbl
      go_wp2_with fail
      refine (K3.out _).mono ?_
      rintro e w6 ⟨rfl, rfl⟩
      go_wp2_with fail
      refine (K4.out _).mono ?_
      rintro e w6 ⟨rfl, rfl⟩
      go_wp2_with fail
      go_roundw
      case rel => exact ⟨t + 1, ⟨Sha.ad t1 t2, A, B, C, Sha.ad D t1, E, F, G⟩, by go_num, by omega, Lib.hid HN2.out.symm, ⟨Sha.ad_lt _ _, mA, mB, mC, Sha.ad_lt _ _, mE, mF, mG⟩, by rw [AA.out, ad_mod], rfl, rfl, rfl, by rw [ad_mod], rfl, rfl, rfl, hbl5⟩
      case measure => simp [intOf]; omega
    · have HP := Lib.hid (show Sha.cmp ⟨a0, b0, c0, d0, e0, f0, g0, h0⟩ l = Sha.plus ⟨a0, b0, c0, d0, e0, f0, g0, h0⟩ ⟨A, B, C, D, E, F, G, H⟩ by
        rw [HR.out, show t = 64 by omega, HS.out]; rfl)
      have hbs5 := hbs4.past hbl (by omega)
      have hb5 := hb4.trans (hbl.mono (by omega))
      have hs5 : w.heap.size ≤ wr.heap.size := hb5.size
      clear hbs4 hb4 hbl hk4 hbw4
      obtain ⟨PL, hPL⟩ : ∃ PL, PL = Sha.plus ⟨a0, b0, c0, d0, e0, f0, g0, h0⟩ ⟨A, B, C, D, E, F, G, H⟩ := ⟨_, rfl⟩
      have HPL := Lib.hid hPL
      clear hPL
      go_upto_region 9 with (fail)
      refine wp_region_lit ?_
      go_wp2_with (first
        | (refine wp_storeA 82 (.tmp 16) (.tmp 101) rfl rfl wr.heap.size rfl 82 (w32s [0, 0, 0, 0, 0, 0, 0, 0]) [.int .u32 A, .int .u32 B, .int .u32 C, .int .u32 D, .int .u32 E, .int .u32 F, .int .u32 G, .int .u32 H] rfl (Blk.new wr _ _) (by rw [info_st]; rfl) rfl (w32s_one [A, B, C, D, E, F, G, H]) rfl ?_; intro w6 hbw6 hk6)
        | (refine wp_loadA 82 (.tmp 16) rfl rfl wr.heap.size rfl 82 _ 8 80 hbw6 Tryd.underlying82 (by rw [info_st]; rfl) ?_))
      have hs6 := hk6.size
      rw [World.size_alloc] at hs6
      have ha6 : Keep (fun q => q < wr.heap.size) wr (wr.alloc (.cells (w32s [0, 0, 0, 0, 0, 0, 0, 0]).toArray 82)) := Keep.of_below ((Below.refl _ _).alloc (Nat.le_refl _) _)
      have hka : Keep (fun q => q < wr.heap.size) wr w6 := ha6.trans (hk6.mono (fun q hq => by omega))
      have hbs6 := hbs5.keep hka (by omega)
      have hb6 : Below w.heap.size w w6 := hb5.trans (hka.below (fun q hq => by omega) hs5)
      clear hbs5 hb5 ha6 hka hk6
      go_loopw [103] (fun i wq => ∃ k : Nat, i = .int .i64 k ∧ k ≤ 8 ∧ Blk wq sb 82 (w32s (PL.list.take k ++ (Sha.St.mk a0 b0 c0 d0 e0 f0 g0 h0).list.drop k)) ∧ Keep (fun q => q ≠ sb) w6 wq) (fun i _ => (8 - intOf i).toNat)
      case atStart => exact ⟨0, rfl, by omega, hbs6, Keep.refl _ _⟩
      case round =>
        obtain ⟨k, rfl, hk8, hbq, hkq⟩ := hrel
        by_cases hlt8 : k < 8
        · have hkq2 := hkq
          have hput : ∀ W, Blk W sb 82 (w32s (PL.list.take k ++ (Sha.St.mk a0 b0 c0 d0 e0 f0 g0 h0).list.drop k)) → Keep (fun q => q ≠ sb) w6 W → ∀ z : Nat, PL.list[k]? = some z →
              Blk (W.setCell ⟨sb, k, none⟩ (.int .u32 z)) sb 82 (w32s (PL.list.take (k + 1) ++ (Sha.St.mk a0 b0 c0 d0 e0 f0 g0 h0).list.drop (k + 1))) ∧ Keep (fun q => q ≠ sb) w6 (W.setCell ⟨sb, k, none⟩ (.int .u32 z)) := by
            intro W hB hK z hz
            refine ⟨?_, hK.trans (Keep.setCell _ _ _ (fun h => h rfl))⟩
            have h := hB.set k (w32 z)
            rw [← w32s_set, mix_set PL _ hlt8 hz] at h
            exact h
          have HPUT := Lib.hid hput
          clear hput
          obtain ⟨x, hx⟩ : ∃ x, [A, B, C, D, E, F, G, H][k]? = some x := ⟨_, List.getElem?_eq_getElem (by simpa using hlt8)⟩
          obtain ⟨y, hy⟩ : ∃ y, (Sha.St.mk a0 b0 c0 d0 e0 f0 g0 h0).list[k]? = some y := ⟨_, List.getElem?_eq_getElem (by simpa [Sha.St.list] using hlt8)⟩
          have hpz : PL.list[k]? = some (Sha.ad y x) := by rw [HPL.out]; exact plus_get ⟨a0, b0, c0, d0, e0, f0, g0, h0⟩ ⟨A, B, C, D, E, F, G, H⟩ hy hx
          have hidx : ∀ W, (Instr.index 82 (.agg #[.int .u32 A, .int .u32 B, .int .u32 C, .int .u32 D, .int .u32 E, .int .u32 F, .int .u32 G, .int .u32 H]) (.int .i64 (k : Int))).run Tryd.prog W = .ok (.int .u32 x) W := fun W =>
            run_indexA 82 80 8 .u32 Tryd.underlying82 Tryd.underlying80 size_u32 _ .i64 k hlt8 _ (by
              have h : (w32s [A, B, C, D, E, F, G, H])[k]? = some (.int .u32 x) := by unfold w32s; rw [List.getElem?_map, hx]; rfl
              simpa [w32s, w32] using h) W
          have cq : wr.cell? ⟨sb, k, none⟩ = some (.int .u32 y) := by
            refine hbq.cell ?_
            unfold w32s
            rw [List.getElem?_map, List.getElem?_append_right (by rw [List.length_take, PL.list_len]; omega)]
            rw [List.length_take, PL.list_len, show k - min k 8 = 0 by omega, List.getElem?_drop, Nat.add_zero, hy]
            rfl
          have HPZ := Lib.hid hpz
          clear hx hy hpz
          go_wp2_with fail
          go_still_tail 9, (by kernel_rfl)
          change wpList _ _ _ _ _ wr.drew
          rw [ad_n]
          have hbd := hbq.past (Below.refl wr.heap.size wr).drew hbq.lt
          have hkd : Keep (fun q => q ≠ sb) w6 wr.drew := hkq2.trans (Keep.of_below (Below.refl wr.heap.size wr).drew)
          have HE := Lib.hid (HPUT.out wr.drew hbd hkd (Sha.ad y x) HPZ.out)
          have fq := hbd.frozen k
          have cd : wr.drew.cell? ⟨sb, k, none⟩ = some (.int .u32 y) := cq
          obtain ⟨z, hz⟩ : ∃ z, z = Sha.ad y x := ⟨_, rfl⟩
          obtain ⟨wd, hwd⟩ : ∃ wd, wd = wr.drew := ⟨_, rfl⟩
          rw [← hz, ← hwd] at HE
          rw [← hwd] at fq cd ⊢
          rw [← hz]
          clear hz hwd hbd hkd hbq hkq hkq2 cq hidx
          go_wp2
          go_roundw
          case rel => exact ⟨k + 1, by go_num, by omega, HE.out.1, HE.out.2⟩
          case measure => simp [intOf]; omega
        · have hbf : Blk wr sb 82 (w32s PL.list) := by
            have h := hbq
            rw [show k = 8 by omega] at h
            exact h
          clear hbq
          go_wp2
          go_end0
          refine ⟨⟨_, rfl⟩, by rw [HP.out, ← HPL.out]; exact hbf, (Keep.of_below hb6).trans hkq⟩
end
end Go.Proofs.YtccepoeenkpifaaDoor
