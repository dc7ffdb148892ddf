/-
  The walk of the law VarintMatchesStrings.
-/
import Derived.Test.YtgllhelpfjinbaaVarL0
namespace Go.Proofs.Ytgllhelpfjinbaa
open Go.RowKit
set_option linter.unusedVariables false
set_option linter.unusedSimpArgs false

set_option maxRecDepth 100000 in
set_option maxHeartbeats 1600000 in
theorem varintMatchesStrings_walk (v : Value) (l : List UInt8) (u : Value) (p : List UInt8) (i m : Int) (w : World) (hv : Bs w w.heap.size v l) (hu : Bs w w.heap.size u p)
    (hi : -9223372036854775808 ≤ i ∧ i ≤ 9223372036854775807) (hm : -9223372036854775808 ≤ m ∧ m ≤ 9223372036854775807) :
    Calls Try.prog 4 #[v, u, .int .i64 i, .int .i64 m] w fun e w' => e = .returned (.bool true) ∧ Below w.heap.size w w' := by
  by_cases hl : l.length ≤ 4000 ∧ p.length ≤ 4000
  · obtain ⟨hl, hp⟩ := hl
    go_enter Try.func4, Try.ntmps4
    go_wp2_with fail
    refine (sane_any _).mono ?_
    rintro e w1 ⟨rfl, b1⟩
    have r1 := hv.past b1
    have s1 := hu.past b1
    go_wp2_with fail
    refine (few_yes _ _ l p _ _ r1 s1 hl hp).mono ?_
    rintro e w' ⟨rfl, rfl⟩
    go_wp2_with fail
    refine (bytes_any v l i m _ r1 (by omega) hm.2).mono ?_
    rintro e w2 ⟨v2, rfl, x2, b2⟩
    have r2 := r1.past b2
    have s2 := s1.past b2
    go_wp2_with fail
    refine (string_any v l i m _ r2 (by omega) hm.2).mono ?_
    rintro e w' ⟨rfl, rfl⟩
    unfold SRes
    go_wp2_with fail
    refine (refBytes_any v l i m _ r2 (by omega) hm.2).mono ?_
    rintro e w3 ⟨v3, rfl, x3, b3⟩
    have r3 := r2.past b3
    have s3 := s2.past b3
    go_wp2_with fail
    refine (refAppendBytes_any v u l p _ r3 s3 (by omega) (by omega)).mono ?_
    rintro e w4 ⟨v4, rfl, o4, b4⟩
    have r4 := r3.past b4
    have s4 := s3.past b4
    have c4 := o4.bs.str
    have cx := ((x2.past b3).past b4).str
    have cy := (x3.past b4).str
    unfold str at c4 cx cy
    unfold str
    go_wp2_with fail
    refine (appendBytes_any v u l p _ r4 s4 (by omega) (by omega)).mono ?_
    rintro e w5 ⟨v5, rfl, o5, b5⟩
    have r5 := r4.past b5
    have s5 := s4.past b5
    have c5 := o5.bs.str
    have cp := s5.str
    unfold str at c5 cp
    go_wp2_with fail
    refine (appendString_any v l p _ r5 (by omega) (by omega)).mono ?_
    rintro e w6 ⟨v6, rfl, o6, b6⟩
    have c6 := o6.bs.str
    unfold str at c6
    go_wp2_with fail
    go_ret
    have hb2 := b1.trans (b2.mono b1.size)
    have hb3 := hb2.trans (b3.mono hb2.size)
    have hb4 := hb3.trans (b4.mono hb3.size)
    have hb5 := hb4.trans (b5.mono hb4.size)
    exact ⟨rfl, hb5.trans (b6.mono hb5.size)⟩
  · go_enter Try.func4, Try.ntmps4
    go_wp2_with fail
    refine (sane_any _).mono ?_
    rintro e w1 ⟨rfl, b1⟩
    go_wp2_with fail
    refine (few_no _ _ l p _ _ (hv.past b1) (hu.past b1) hl).mono ?_
    rintro e w' ⟨rfl, rfl⟩
    go_wp2_with fail
    go_ret
    exact ⟨rfl, b1⟩

end Go.Proofs.Ytgllhelpfjinbaa
