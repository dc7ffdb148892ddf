/-
  Walks of package varint and of its reference: reading byte strings and strings.
-/
import Derived.Test.YtgllhelpfjinbaaVarD2
import Derived.Test.YtgllhelpfjinbaaVarW1
namespace Go.Proofs.Ytgllhelpfjinbaa
open Go.RowKit
set_option linter.unusedVariables false
set_option linter.unusedSimpArgs false

theorem uS_fine {l : List UInt8} {i : Int} (h : (uS l i).2.2 = 0) : ∃ v s : Nat, uS l i = (v, (s : Int), 0) ∧ v < M64 ∧ s ≤ l.length := by
  obtain ⟨j, v, n, rfl, h1, h2, h3, h4, h5, _⟩ := uS_ok h
  exact ⟨v, j + n, by rw [h2]; simp, h3, h5⟩

theorem cut_bs {w : World} {B j k : Nat} {v : Value} {l : List UInt8} (h : Row w B 1 k v (((u8s l).drop (j * 1)).take (k * 1))) (hn : j + k ≤ l.length) :
    Bs w B v ((l.drop j).take k) := by
  unfold Bs
  have e : ((u8s l).drop (j * 1)).take (k * 1) = u8s ((l.drop j).take k) := by simp [u8s]
  have e2 : ((l.drop j).take k).length = k := by rw [List.length_take, List.length_drop]; omega
  rw [e2, ← e]; exact h

/-- The answer of a decoder of byte strings: a slice that reads p, or the string p. -/
def BRes (w : World) (r : List UInt8 × Int × Int) (e : Ending) (w' : World) : Prop :=
  ∃ v', e = .returned (.tuple #[v', .int .i64 r.2.1, .int .i64 r.2.2]) ∧ Bs w' w'.heap.size v' r.1 ∧ Below w.heap.size w w'
def SRes (r : List UInt8 × Int × Int) : Value := .tuple #[str r.1, .int .i64 r.2.1, .int .i64 r.2.2]

set_option maxRecDepth 100000 in
set_option maxHeartbeats 400000 in
theorem countedB_read (v : Value) (l : List UInt8) (i m : Int) (w : World) (hv : Bs w w.heap.size v l) (hl : l.length ≤ 1000000000) (hm : m ≤ 9223372036854775807) :
    Calls Try.prog 33 #[v, .int .i64 i, .int .i64 m] w (BRes w (bS l i m)) := by
  have HV := Lib.hid hv
  obtain ⟨A, cap, rfl⟩ := hv.form
  clear hv
  by_cases h0 : m < 0
  · have E := Lib.hid (show bS l i m = ([], 0, 1) by unfold bS; rw [if_pos h0])
    go_enter Try.func33, Try.ntmps33
    go_wp2
    go_ret3
    exact ⟨_, by rw [E.out]; rfl, by rw [E.out]; exact Bs.nil_ _ _, Below.refl _ _⟩
  by_cases he : (uS l i).2.2 = 0
  · obtain ⟨x, s, hx, hb, hs⟩ := uS_fine he
    have hx' : x ≤ 18446744073709551615 := by unfold M64 at hb; omega
    have HX := Lib.hid hx
    by_cases h2 : m < (x : Int)
    · have E := Lib.hid (show bS l i m = ([], 0, 2) by unfold bS; rw [if_neg h0, if_neg (by simpa using he), hx, if_pos h2])
      clear hx he
      go_enter Try.func33, Try.ntmps33
      go_wp2_with (go_at_call 13; refine (uint_any _ l i _ _ HV.out hl).mono ?_; rintro e w' ⟨rfl, rfl⟩; rw [HX.out]; unfold tri)
      go_ret3
      exact ⟨_, by rw [E.out]; rfl, by rw [E.out]; exact Bs.nil_ _ _, Below.refl _ _⟩
    by_cases h3 : (l.length : Int) - s < (x : Int)
    · have E := Lib.hid (show bS l i m = ([], 0, 10) by unfold bS; rw [if_neg h0, if_neg (by simpa using he), hx, if_neg h2, if_pos h3])
      clear hx he
      go_enter Try.func33, Try.ntmps33
      go_wp2_with (go_at_call 13; refine (uint_any _ l i _ _ HV.out hl).mono ?_; rintro e w' ⟨rfl, rfl⟩; rw [HX.out]; unfold tri)
      go_ret3
      exact ⟨_, by rw [E.out]; rfl, by rw [E.out]; exact Bs.nil_ _ _, Below.refl _ _⟩
    have E := Lib.hid (show bS l i m = ((l.drop s).take x, (s : Int) + x, 0) by unfold bS; rw [if_neg h0, if_neg (by simpa using he), hx, if_neg h2, if_neg h3]; rfl)
    clear hx he
    have hsx : s + x ≤ l.length := by omega
    have hlen : ((l.drop s).take x).length ≤ maxLen := by rw [List.length_take, List.length_drop]; simp only [maxLen]; omega
    go_enter Try.func33, Try.ntmps33
    go_wp2_with (first
      | (go_at_call 13; refine (uint_any _ l i _ _ HV.out hl).mono ?_; rintro e w' ⟨rfl, rfl⟩; rw [HX.out]; unfold tri)
      | (refine wp_cut 22 5 Try.underlying22 size_u8 (.tmp 45) (some (.tmp 46)) (some (.tmp 47)) rfl rfl rfl HV.out s x (Or.inr ⟨_, _, rfl, rfl⟩) (Or.inr ⟨_, _, rfl, (by push_cast; rfl)⟩) hsx ?_; intro A1 c1 hr1; have hcv := (cut_bs hr1 hsx).str)
      | (refine wp_ofstr (.tmp 49) rfl rfl _ rfl hlen ?_; intro v2 w2 hr2 hb2))
    go_ret3
    refine ⟨v2, by rw [E.out]; rfl, ?_, hb2⟩
    rw [E.out]
    exact hr2
  · obtain ⟨x, n, er, hx, hb, hz, _, _⟩ := uS_form l i
    have her : er ≠ 0 := by rw [hx] at he; exact he
    obtain ⟨rfl, rfl⟩ := hz.resolve_left her
    have HX := Lib.hid hx
    have ht : (er != 0) = true := by simp [her]
    have E := Lib.hid (show bS l i m = ([], 0, er) by unfold bS; rw [if_neg h0, if_pos he, hx])
    clear hx he
    go_enter Try.func33, Try.ntmps33
    go_wp2_with (go_at_call 13; refine (uint_any _ l i _ _ HV.out hl).mono ?_; rintro e w' ⟨rfl, rfl⟩; rw [HX.out]; unfold tri)
    go_ret3
    exact ⟨_, by rw [E.out]; rfl, by rw [E.out]; exact Bs.nil_ _ _, Below.refl _ _⟩

set_option maxRecDepth 100000 in
set_option maxHeartbeats 400000 in
theorem countedS_read (v : Value) (l : List UInt8) (i m : Int) (w : World) (hv : Bs w w.heap.size v l) (hl : l.length ≤ 1000000000) (hm : m ≤ 9223372036854775807) :
    Calls Try.prog 34 #[v, .int .i64 i, .int .i64 m] w fun e w' => e = .returned (SRes (bS l i m)) ∧ w = w' := by
  have HV := Lib.hid hv
  obtain ⟨A, cap, rfl⟩ := hv.form
  clear hv
  by_cases h0 : m < 0
  · have E := Lib.hid (show bS l i m = ([], 0, 1) by unfold bS; rw [if_pos h0])
    go_enter Try.func34, Try.ntmps34
    go_wp2
    go_ret3
    exact ⟨by rw [E.out]; rfl, rfl⟩
  by_cases he : (uS l i).2.2 = 0
  · obtain ⟨x, s, hx, hb, hs⟩ := uS_fine he
    have hx' : x ≤ 18446744073709551615 := by unfold M64 at hb; omega
    have HX := Lib.hid hx
    by_cases h2 : m < (x : Int)
    · have E := Lib.hid (show bS l i m = ([], 0, 2) by unfold bS; rw [if_neg h0, if_neg (by simpa using he), hx, if_pos h2])
      clear hx he
      go_enter Try.func34, Try.ntmps34
      go_wp2_with (go_at_call 13; refine (uint_any _ l i _ _ HV.out hl).mono ?_; rintro e w' ⟨rfl, rfl⟩; rw [HX.out]; unfold tri)
      go_ret3
      exact ⟨by rw [E.out]; rfl, rfl⟩
    by_cases h3 : (l.length : Int) - s < (x : Int)
    · have E := Lib.hid (show bS l i m = ([], 0, 10) by unfold bS; rw [if_neg h0, if_neg (by simpa using he), hx, if_neg h2, if_pos h3])
      clear hx he
      go_enter Try.func34, Try.ntmps34
      go_wp2_with (go_at_call 13; refine (uint_any _ l i _ _ HV.out hl).mono ?_; rintro e w' ⟨rfl, rfl⟩; rw [HX.out]; unfold tri)
      go_ret3
      exact ⟨by rw [E.out]; rfl, rfl⟩
    have E := Lib.hid (show bS l i m = ((l.drop s).take x, (s : Int) + x, 0) by unfold bS; rw [if_neg h0, if_neg (by simpa using he), hx, if_neg h2, if_neg h3]; rfl)
    clear hx he
    have hsx : s + x ≤ l.length := by omega
    go_enter Try.func34, Try.ntmps34
    go_wp2_with (first
      | (go_at_call 13; refine (uint_any _ l i _ _ HV.out hl).mono ?_; rintro e w' ⟨rfl, rfl⟩; rw [HX.out]; unfold tri)
      | (refine wp_cut 22 5 Try.underlying22 size_u8 (.tmp 45) (some (.tmp 46)) (some (.tmp 47)) rfl rfl rfl HV.out s x (Or.inr ⟨_, _, rfl, rfl⟩) (Or.inr ⟨_, _, rfl, (by push_cast; rfl)⟩) hsx ?_; intro A1 c1 hr1; have hcv := (cut_bs hr1 hsx).str))
    go_ret3
    exact ⟨by rw [E.out]; rfl, rfl⟩
  · obtain ⟨x, n, er, hx, hb, hz, _, _⟩ := uS_form l i
    have her : er ≠ 0 := by rw [hx] at he; exact he
    obtain ⟨rfl, rfl⟩ := hz.resolve_left her
    have HX := Lib.hid hx
    have ht : (er != 0) = true := by simp [her]
    have E := Lib.hid (show bS l i m = ([], 0, er) by unfold bS; rw [if_neg h0, if_pos he, hx])
    clear hx he
    go_enter Try.func34, Try.ntmps34
    go_wp2_with (go_at_call 13; refine (uint_any _ l i _ _ HV.out hl).mono ?_; rintro e w' ⟨rfl, rfl⟩; rw [HX.out]; unfold tri)
    go_ret3
    exact ⟨by rw [E.out]; rfl, rfl⟩

set_option maxRecDepth 100000 in
set_option maxHeartbeats 400000 in
theorem refBytes_any (v : Value) (l : List UInt8) (i m : Int) (w : World) (hv : Bs w w.heap.size v l) (hl : l.length ≤ 1000000000) (hm : m ≤ 9223372036854775807) :
    Calls Try.prog 23 #[v, .int .i64 i, .int .i64 m] w (BRes w (bS l i m)) := by
  have HV := Lib.hid hv
  obtain ⟨A, cap, rfl⟩ := hv.form
  clear hv
  by_cases h0 : m < 0
  · have E := Lib.hid (show bS l i m = ([], 0, 1) by unfold bS; rw [if_pos h0])
    go_enter Try.func23, Try.ntmps23
    go_wp2
    go_ret3
    exact ⟨_, by rw [E.out]; rfl, by rw [E.out]; exact Bs.nil_ _ _, Below.refl _ _⟩
  by_cases he : (uS l i).2.2 = 0
  · obtain ⟨x, s, hx, hb, hs⟩ := uS_fine he
    have hx' : x ≤ 18446744073709551615 := by unfold M64 at hb; omega
    have HX := Lib.hid hx
    by_cases h2 : m < (x : Int)
    · have E := Lib.hid (show bS l i m = ([], 0, 2) by unfold bS; rw [if_neg h0, if_neg (by simpa using he), hx, if_pos h2])
      clear hx he
      go_enter Try.func23, Try.ntmps23
      go_wp2_with (go_at_call 14; refine (refUint_any _ l i _ _ HV.out hl).mono ?_; rintro e w' ⟨rfl, rfl⟩; rw [HX.out]; unfold tri)
      go_ret3
      exact ⟨_, by rw [E.out]; rfl, by rw [E.out]; exact Bs.nil_ _ _, Below.refl _ _⟩
    by_cases h3 : (l.length : Int) - s < (x : Int)
    · have E := Lib.hid (show bS l i m = ([], 0, 10) by unfold bS; rw [if_neg h0, if_neg (by simpa using he), hx, if_neg h2, if_pos h3])
      clear hx he
      go_enter Try.func23, Try.ntmps23
      go_wp2_with (go_at_call 14; refine (refUint_any _ l i _ _ HV.out hl).mono ?_; rintro e w' ⟨rfl, rfl⟩; rw [HX.out]; unfold tri)
      go_ret3
      exact ⟨_, by rw [E.out]; rfl, by rw [E.out]; exact Bs.nil_ _ _, Below.refl _ _⟩
    have E := Lib.hid (show bS l i m = ((l.drop s).take x, (s : Int) + x, 0) by unfold bS; rw [if_neg h0, if_neg (by simpa using he), hx, if_neg h2, if_neg h3]; rfl)
    clear hx he
    have hsx : s + x ≤ l.length := by omega
    have hb0 : Below w.heap.size w (w.alloc (.cells #[] 5)) := (Below.refl _ _).alloc (Nat.le_refl _) _
    have hlen : ((l.drop s).take x).length ≤ 1000000000 := by rw [List.length_take, List.length_drop]; omega
    go_enter Try.func23, Try.ntmps23
    go_wp2_with (first
      | (go_at_call 14; refine (refUint_any _ l i _ _ HV.out hl).mono ?_; rintro e w' ⟨rfl, rfl⟩; rw [HX.out]; unfold tri)
      | (refine wp_cut 22 5 Try.underlying22 size_u8 (.tmp 41) (some (.tmp 42)) (some (.tmp 43)) rfl rfl rfl (Bs.past HV.out hb0) s x (Or.inr ⟨_, _, rfl, rfl⟩) (Or.inr ⟨_, _, rfl, (by push_cast; rfl)⟩) hsx ?_; intro A1 c1 hr1)
      | (at_builtin; refine wp_apps w.heap.size (.tmp 40) (.tmp 44) rfl rfl _ _ [] ((l.drop s).take x) rfl rfl (own_lit0 w) (by simp) (cut_bs hr1 hsx) ?_ ?_; exact (by simp; omega); intro v2 w2 hr2 hb2))
    go_ret3
    refine ⟨v2, by rw [E.out]; rfl, ?_, hb0.trans hb2⟩
    rw [E.out]
    rw [List.nil_append] at hr2
    exact hr2.bs
  · obtain ⟨x, n, er, hx, hb, hz, _, _⟩ := uS_form l i
    have her : er ≠ 0 := by rw [hx] at he; exact he
    obtain ⟨rfl, rfl⟩ := hz.resolve_left her
    have HX := Lib.hid hx
    have ht : (er != 0) = true := by simp [her]
    have E := Lib.hid (show bS l i m = ([], 0, er) by unfold bS; rw [if_neg h0, if_pos he, hx])
    clear hx he
    go_enter Try.func23, Try.ntmps23
    go_wp2_with (go_at_call 14; refine (refUint_any _ l i _ _ HV.out hl).mono ?_; rintro e w' ⟨rfl, rfl⟩; rw [HX.out]; unfold tri)
    go_ret3
    exact ⟨_, by rw [E.out]; rfl, by rw [E.out]; exact Bs.nil_ _ _, Below.refl _ _⟩


theorem bytes_any (v : Value) (l : List UInt8) (i m : Int) (w : World) (hv : Bs w w.heap.size v l) (hl : l.length ≤ 1000000000) (hm : m ≤ 9223372036854775807) :
    Calls Try.prog 21 #[v, .int .i64 i, .int .i64 m] w (BRes w (bS l i m)) := by
  go_enter Try.func21, Try.ntmps21
  go_wp2_with (go_at_call 33; refine (countedB_read v l i m _ hv hl hm).mono ?_; rintro e w1 ⟨v1, rfl, h1, h2⟩)
  go_ret3
  exact ⟨v1, rfl, h1, h2⟩

theorem string_any (v : Value) (l : List UInt8) (i m : Int) (w : World) (hv : Bs w w.heap.size v l) (hl : l.length ≤ 1000000000) (hm : m ≤ 9223372036854775807) :
    Calls Try.prog 22 #[v, .int .i64 i, .int .i64 m] w fun e w' => e = .returned (SRes (bS l i m)) ∧ w = w' := by
  go_enter Try.func22, Try.ntmps22
  go_wp2_with (go_at_call 34; refine (countedS_read v l i m _ hv hl hm).mono ?_; rintro e w1 ⟨rfl, rfl⟩; unfold SRes)
  go_ret3
  exact ⟨rfl, rfl⟩

end Go.Proofs.Ytgllhelpfjinbaa
