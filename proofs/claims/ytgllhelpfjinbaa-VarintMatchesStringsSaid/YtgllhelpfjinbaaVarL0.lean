/-
  The helpers of the laws of layer 1: few, sane.
-/
import Derived.Test.YtgllhelpfjinbaaVarW2
import Derived.Test.YtgllhelpfjinbaaVarD3
namespace Go.Proofs.Ytgllhelpfjinbaa
open Go.RowKit
set_option linter.unusedVariables false
set_option linter.unusedSimpArgs false

theorem ret_bool {a b : Bool} (h : a = b) : Ending.returned (.bool a) = .returned (.bool b) := by rw [h]

theorem few_yes (v u : Value) (l p : List UInt8) (w : World) (B : Nat) (hv : Bs w B v l) (hu : Bs w B u p) (h1 : l.length ≤ 4000) (h2 : p.length ≤ 4000) :
    Calls Try.prog 12 #[v, u] w fun e w' => e = .returned (.bool true) ∧ w = w' := by
  obtain ⟨A, c, rfl⟩ := hv.form
  obtain ⟨A', c', rfl⟩ := hu.form
  go_enter Try.func12, Try.ntmps12
  go_wp2
  go_ret
  exact ⟨ret_bool (by simp; omega), rfl⟩

theorem few_no (v u : Value) (l p : List UInt8) (w : World) (B : Nat) (hv : Bs w B v l) (hu : Bs w B u p) (h : ¬ (l.length ≤ 4000 ∧ p.length ≤ 4000)) :
    Calls Try.prog 12 #[v, u] w fun e w' => e = .returned (.bool false) ∧ w = w' := by
  obtain ⟨A, c, rfl⟩ := hv.form
  obtain ⟨A', c', rfl⟩ := hu.form
  by_cases h1 : l.length ≤ 4000
  · have h2 : ¬ p.length ≤ 4000 := fun h2 => h ⟨h1, h2⟩
    clear h
    go_enter Try.func12, Try.ntmps12
    go_wp2
    go_ret
    exact ⟨ret_bool (by simp; omega), rfl⟩
  · clear h
    go_enter Try.func12, Try.ntmps12
    go_wp2
    go_ret
    exact ⟨rfl, rfl⟩

theorem own_lit (w : World) (l : List UInt8) (hl : l.length ≤ maxLen) : Own (w.alloc (.cells (u8s l).toArray 5)) w.heap.size (.slice (some ⟨w.heap.size, 0, none⟩) l.length l.length) l := by
  have h := World.ownsRow_lit (e := 5) (size := 1) w (u8s l).toArray l.length (Nat.le_refl _) hl (by simp [u8s_length])
  simpa [Own] using h

theorem own_lit_at (w : World) (l : List UInt8) (n : Nat) (hl : l.length ≤ maxLen) (hn : n = w.heap.size) : Own (w.alloc (.cells (u8s l).toArray 5)) w.heap.size (.slice (some ⟨n, 0, none⟩) l.length l.length) l := by
  subst hn; exact own_lit w l hl

theorem leb300 : leb 300 = [172, 2] := by rw [leb_big (by omega), leb_small (by omega)]; rfl
theorem leb1 : leb 1 = [1] := by rw [leb_small (by omega)]; rfl
theorem zzm1 : zz (-1) = 1 := rfl

theorem sane_any (w : World) : Calls Try.prog 11 #[] w fun e w' => e = .returned (.bool true) ∧ Below w.heap.size w w' := by
  have m300 : 300 < M64 := by decide
  have u1 : uS [172, 2] 0 = (300, 2, 0) := by decide
  have u2 : uS [172, 2] 1 = (2, 2, 0) := by decide
  have u3 : uS [128, 0] 0 = (0, 0, 12) := by decide
  have U1 := Lib.hid u1
  have U2 := Lib.hid u2
  have U3 := Lib.hid u3
  clear u1 u2 u3
  go_enter Try.func11, Try.ntmps11
  go_wp2_with fail
  refine (appendUint_any _ [] 300 _ (Bs.nil_ _ _) m300 (by simp)).mono ?_
  rintro e w1 ⟨v1, rfl, o1, b1⟩
  rw [List.nil_append, leb300] at o1
  have r1 := o1.bs
  go_wp2_with fail
  refine (uint_any v1 [172, 2] 0 _ _ r1 (by simp)).mono ?_
  rintro e w' ⟨rfl, rfl⟩
  rw [U1.out]
  unfold tri
  go_wp2_with fail
  refine (uint_any v1 [172, 2] 1 _ _ r1 (by simp)).mono ?_
  rintro e w' ⟨rfl, rfl⟩
  rw [U2.out]
  unfold tri
  go_wp2_with fail
  refine (uint_any _ [128, 0] 0 _ _ (own_lit w1 [128, 0] (by simp [maxLen])).bs (by simp)).mono ?_
  rintro e w' ⟨rfl, rfl⟩
  rw [U3.out]
  unfold tri
  go_wp2_with fail
  refine (appendInt_any _ [9] (-1) _ (own_lit_at (w1.alloc (.cells (u8s [128, 0]).toArray 5)) [9] _ (by simp [maxLen]) (by simp)).bs (by omega) (by omega) (by simp)).mono ?_
  rintro e w2 ⟨v2, rfl, o2, b2⟩
  have hb1 : Below w1.heap.size w1 ((w1.alloc (.cells (u8s [128, 0]).toArray 5)).alloc (.cells (u8s [9]).toArray 5)) := ((Below.refl _ _).alloc (Nat.le_refl _) _).alloc (by simp) _
  have hb2 : Below w1.heap.size w1 w2 := hb1.trans (b2.mono (by simp; omega))
  have c1 := (r1.past hb2).str
  have c2 := o2.bs.str
  rw [zzm1, leb1] at c2
  unfold str at c1 c2
  go_wp2_with fail
  go_ret
  exact ⟨rfl, (b1.trans (hb2.mono b1.size))⟩

end Go.Proofs.Ytgllhelpfjinbaa
