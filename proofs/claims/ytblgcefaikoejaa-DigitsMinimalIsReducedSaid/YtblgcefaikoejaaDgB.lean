/-
  Walks of the program's Normalize.
-/
import Derived.Test.YtblgcefaikoejaaDgA
namespace Go.Proofs.Ytblgcefaikoejaa
open Go.RowKit Dg
set_option linter.unusedVariables false
set_option linter.unusedSimpArgs false

/-- What Normalize and Shorten answer. -/
def resN (o : Option Str) : Value := .tuple #[str (o.getD []), .int .i64 (if o.isSome then 0 else 60)]
theorem resN_none : resN none = .tuple #[.string ⟨#[]⟩, .int .i64 60] := rfl
theorem resN_some (n : Str) : resN (some n) = .tuple #[str n, .int .i64 0] := rfl
theorem num_len {lo hi : Nat} {l : Str} (h : num lo hi l = true) : l.length ≤ hi := (num_iff.1 h).2.1

set_option maxRecDepth 100000 in
set_option maxHeartbeats 1600000 in
theorem normalize_any (d c a : Str) (w : World) (hd : d.length ≤ maxLen) (hc : c.length ≤ maxLen) (ha : a.length ≤ maxLen) :
    Calls Try.prog 14 #[str d, str c, str a] w fun e w' => e = .returned (resN (norm d c a)) ∧ Below w.heap.size w w' := by
  unfold norm
  cases h1 : num 1 20 d
  · rw [Bool.false_and, if_neg (by simp), resN_none]
    unfold str
    go_enter Try.func14, Try.ntmps14
    go_wp2_with fail
    refine (digitString_any 1 20 w (by omega) (by omega)).mono ?_
    rintro e w1 ⟨p1, p2, p3, rfl, x1, x2, x3, b1⟩
    go_wp2_with fail
    refine (digitString_any 0 15 w1 (by omega) (by omega)).mono ?_
    rintro e w2 ⟨q1, q2, q3, rfl, y1, y2, y3, b2⟩
    have g1 := ds_any d p1 p2 p3 1 20 w2 hd (by omega) (by omega) (cell_past x1 b2) (cell_past x2 b2) (cell_past x3 b2)
    have z2 := b1.trans (b2.mono b1.size)
    clear x1 x2 x3 b1 b2
    rw [h1] at g1
    unfold str at g1
    go_wp2_with fail
    refine g1.mono ?_
    rintro e w3 ⟨rfl, b3⟩
    clear g1
    have z3 := z2.trans (b3.mono z2.size)
    replace y1 := cell_past y1 b3
    replace y2 := cell_past y2 b3
    replace y3 := cell_past y3 b3
    clear z2 b3
    go_wp2_with fail
    go_ret2
    exact ⟨rfl, z3⟩
  cases h2 : num 1 15 c
  · rw [Bool.true_and, Bool.false_and, if_neg (by simp), resN_none]
    unfold str
    go_enter Try.func14, Try.ntmps14
    go_wp2_with fail
    refine (digitString_any 1 20 w (by omega) (by omega)).mono ?_
    rintro e w1 ⟨p1, p2, p3, rfl, x1, x2, x3, b1⟩
    go_wp2_with fail
    refine (digitString_any 0 15 w1 (by omega) (by omega)).mono ?_
    rintro e w2 ⟨q1, q2, q3, rfl, y1, y2, y3, b2⟩
    have g1 := ds_any d p1 p2 p3 1 20 w2 hd (by omega) (by omega) (cell_past x1 b2) (cell_past x2 b2) (cell_past x3 b2)
    have z2 := b1.trans (b2.mono b1.size)
    clear x1 x2 x3 b1 b2
    rw [h1] at g1
    unfold str at g1
    go_wp2_with fail
    refine g1.mono ?_
    rintro e w3 ⟨rfl, b3⟩
    clear g1
    have z3 := z2.trans (b3.mono z2.size)
    replace y1 := cell_past y1 b3
    replace y2 := cell_past y2 b3
    replace y3 := cell_past y3 b3
    clear z2 b3
    have g2 := valid_any c w3 hc
    rw [h2] at g2
    unfold str at g2
    go_wp2_with fail
    refine g2.mono ?_
    rintro e w4 ⟨rfl, b4⟩
    clear g2
    have z4 := z3.trans (b4.mono z3.size)
    replace y1 := cell_past y1 b4
    replace y2 := cell_past y2 b4
    replace y3 := cell_past y3 b4
    clear z3 b4
    go_wp2_with fail
    go_ret2
    exact ⟨rfl, z4⟩
  cases h3 : num 0 15 a
  · rw [Bool.true_and, Bool.true_and, if_neg (by simp), resN_none]
    unfold str
    go_enter Try.func14, Try.ntmps14
    go_wp2_with fail
    refine (digitString_any 1 20 w (by omega) (by omega)).mono ?_
    rintro e w1 ⟨p1, p2, p3, rfl, x1, x2, x3, b1⟩
    go_wp2_with fail
    refine (digitString_any 0 15 w1 (by omega) (by omega)).mono ?_
    rintro e w2 ⟨q1, q2, q3, rfl, y1, y2, y3, b2⟩
    have g1 := ds_any d p1 p2 p3 1 20 w2 hd (by omega) (by omega) (cell_past x1 b2) (cell_past x2 b2) (cell_past x3 b2)
    have z2 := b1.trans (b2.mono b1.size)
    clear x1 x2 x3 b1 b2
    rw [h1] at g1
    unfold str at g1
    go_wp2_with fail
    refine g1.mono ?_
    rintro e w3 ⟨rfl, b3⟩
    clear g1
    have z3 := z2.trans (b3.mono z2.size)
    replace y1 := cell_past y1 b3
    replace y2 := cell_past y2 b3
    replace y3 := cell_past y3 b3
    clear z2 b3
    have g2 := valid_any c w3 hc
    rw [h2] at g2
    unfold str at g2
    go_wp2_with fail
    refine g2.mono ?_
    rintro e w4 ⟨rfl, b4⟩
    clear g2
    have z4 := z3.trans (b4.mono z3.size)
    replace y1 := cell_past y1 b4
    replace y2 := cell_past y2 b4
    replace y3 := cell_past y3 b4
    clear z3 b4
    have g3 := ds_any a q1 q2 q3 0 15 w4 ha (by omega) (by omega) y1 y2 y3
    clear y1 y2 y3
    rw [h3] at g3
    unfold str at g3
    go_wp2_with fail
    refine g3.mono ?_
    rintro e w5 ⟨rfl, b5⟩
    clear g3
    have z5 := z4.trans (b5.mono z4.size)
    clear z4 b5
    go_wp2_with fail
    go_ret2
    exact ⟨rfl, z5⟩
  rw [Bool.true_and, Bool.true_and, if_pos rfl]
  have G4 := fun w5 => reached_any d c a w5 (by have := num_len h1; omega) (by have := num_len h2; omega) (by have := num_len h3; omega)
  have hR : (reached d c a).length ≤ maxLen := by
    have l1 := num_len h1; have l2 := num_len h2; have l3 := num_len h3
    unfold reached; split
    · simp only [List.length_drop, maxLen]; omega
    · split <;> simp only [List.length_append, List.length_drop, maxLen] <;> omega
  obtain ⟨R, hRR⟩ : ∃ R, reached d c a = R := ⟨_, rfl⟩
  rw [hRR] at G4 hR ⊢
  clear hRR
  cases h4 : num 1 15 R
  · rw [if_neg (by simp), resN_none]
    unfold str
    go_enter Try.func14, Try.ntmps14
    go_wp2_with fail
    refine (digitString_any 1 20 w (by omega) (by omega)).mono ?_
    rintro e w1 ⟨p1, p2, p3, rfl, x1, x2, x3, b1⟩
    go_wp2_with fail
    refine (digitString_any 0 15 w1 (by omega) (by omega)).mono ?_
    rintro e w2 ⟨q1, q2, q3, rfl, y1, y2, y3, b2⟩
    have g1 := ds_any d p1 p2 p3 1 20 w2 hd (by omega) (by omega) (cell_past x1 b2) (cell_past x2 b2) (cell_past x3 b2)
    have z2 := b1.trans (b2.mono b1.size)
    clear x1 x2 x3 b1 b2
    rw [h1] at g1
    unfold str at g1
    go_wp2_with fail
    refine g1.mono ?_
    rintro e w3 ⟨rfl, b3⟩
    clear g1
    have z3 := z2.trans (b3.mono z2.size)
    replace y1 := cell_past y1 b3
    replace y2 := cell_past y2 b3
    replace y3 := cell_past y3 b3
    clear z2 b3
    have g2 := valid_any c w3 hc
    rw [h2] at g2
    unfold str at g2
    go_wp2_with fail
    refine g2.mono ?_
    rintro e w4 ⟨rfl, b4⟩
    clear g2
    have z4 := z3.trans (b4.mono z3.size)
    replace y1 := cell_past y1 b4
    replace y2 := cell_past y2 b4
    replace y3 := cell_past y3 b4
    clear z3 b4
    have g3 := ds_any a q1 q2 q3 0 15 w4 ha (by omega) (by omega) y1 y2 y3
    clear y1 y2 y3
    rw [h3] at g3
    unfold str at g3
    go_wp2_with fail
    refine g3.mono ?_
    rintro e w5 ⟨rfl, b5⟩
    clear g3
    have z5 := z4.trans (b5.mono z4.size)
    clear z4 b5
    have g4 := G4 w5
    clear G4
    unfold str at g4
    go_wp2_with fail
    refine g4.mono ?_
    rintro e w6 ⟨rfl, rfl⟩
    clear g4
    have g5 := valid_any R w6 hR
    rw [h4] at g5
    unfold str at g5
    go_wp2_with fail
    refine g5.mono ?_
    rintro e w7 ⟨rfl, b7⟩
    clear g5
    have z7 := z5.trans (b7.mono z5.size)
    clear z5 b7
    go_wp2_with fail
    go_ret2
    exact ⟨rfl, z7⟩
  · rw [if_pos rfl, resN_some]
    unfold str
    go_enter Try.func14, Try.ntmps14
    go_wp2_with fail
    refine (digitString_any 1 20 w (by omega) (by omega)).mono ?_
    rintro e w1 ⟨p1, p2, p3, rfl, x1, x2, x3, b1⟩
    go_wp2_with fail
    refine (digitString_any 0 15 w1 (by omega) (by omega)).mono ?_
    rintro e w2 ⟨q1, q2, q3, rfl, y1, y2, y3, b2⟩
    have g1 := ds_any d p1 p2 p3 1 20 w2 hd (by omega) (by omega) (cell_past x1 b2) (cell_past x2 b2) (cell_past x3 b2)
    have z2 := b1.trans (b2.mono b1.size)
    clear x1 x2 x3 b1 b2
    rw [h1] at g1
    unfold str at g1
    go_wp2_with fail
    refine g1.mono ?_
    rintro e w3 ⟨rfl, b3⟩
    clear g1
    have z3 := z2.trans (b3.mono z2.size)
    replace y1 := cell_past y1 b3
    replace y2 := cell_past y2 b3
    replace y3 := cell_past y3 b3
    clear z2 b3
    have g2 := valid_any c w3 hc
    rw [h2] at g2
    unfold str at g2
    go_wp2_with fail
    refine g2.mono ?_
    rintro e w4 ⟨rfl, b4⟩
    clear g2
    have z4 := z3.trans (b4.mono z3.size)
    replace y1 := cell_past y1 b4
    replace y2 := cell_past y2 b4
    replace y3 := cell_past y3 b4
    clear z3 b4
    have g3 := ds_any a q1 q2 q3 0 15 w4 ha (by omega) (by omega) y1 y2 y3
    clear y1 y2 y3
    rw [h3] at g3
    unfold str at g3
    go_wp2_with fail
    refine g3.mono ?_
    rintro e w5 ⟨rfl, b5⟩
    clear g3
    have z5 := z4.trans (b5.mono z4.size)
    clear z4 b5
    have g4 := G4 w5
    clear G4
    unfold str at g4
    go_wp2_with fail
    refine g4.mono ?_
    rintro e w6 ⟨rfl, rfl⟩
    clear g4
    have g5 := valid_any R w6 hR
    rw [h4] at g5
    unfold str at g5
    go_wp2_with fail
    refine g5.mono ?_
    rintro e w7 ⟨rfl, b7⟩
    clear g5
    have z7 := z5.trans (b7.mono z5.size)
    clear z5 b7
    go_wp2_with fail
    go_ret2
    exact ⟨rfl, z7⟩

end Go.Proofs.Ytblgcefaikoejaa
