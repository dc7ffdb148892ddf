/-
  Walks of package varint: byte strings and strings, the side that appends.
-/
import Derived.Test.YtgllhelpfjinbaaVarW1
namespace Go.Proofs.Ytgllhelpfjinbaa
open Go.RowKit
set_option linter.unusedVariables false
set_option linter.unusedSimpArgs false

theorem countedB_any (v u : Value) (l p : List UInt8) (w : World) (hv : Bs w w.heap.size v l) (hu : Bs w w.heap.size u p) (hl : l.length ≤ 1000000000) (hp : p.length ≤ 1000000000) :
    Calls Try.prog 35 #[v, u] w fun e w' => ∃ v', e = .returned v' ∧ Own w' w.heap.size v' (l ++ leb p.length ++ p) ∧ Below w.heap.size w w' := by
  have hx : p.length < M64 := by unfold M64; omega
  have h10 := leb_ten hx
  have HU := Lib.hid hu
  have HX := Lib.hid hx
  clear hx
  obtain ⟨A, cap, rfl⟩ := hu.form
  go_enter Try.func35, Try.ntmps35
  go_wp2_with (first
    | (go_at_call 30; refine (copyOf_any v l _ _ hv ?_ ?_).mono ?_; exact (by omega); exact (by omega); rintro e w1 ⟨v1, rfl, ho1, hb1⟩)
    | (go_at_call 29; refine (groups_any w.heap.size v1 l p.length _ HX.out ?_ ho1 hb1.size).mono ?_; exact (by simp; omega); rintro e w2 ⟨v2, rfl, ho2, hb2⟩)
    | (at_builtin; refine wp_apps w.heap.size (.tmp 14) (.tmp 15) rfl rfl _ _ (l ++ leb p.length) p rfl rfl ho2 (Nat.le_trans hb1.size hb2.size) (Bs.past HU.out (hb1.trans hb2)) ?_ ?_; exact (by simp; omega); intro v3 w3 ho3 hb3))
  go_ret
  exact ⟨v3, rfl, ho3, (hb1.trans hb2).trans hb3⟩

theorem countedS_any (v : Value) (l p : List UInt8) (w : World) (hv : Bs w w.heap.size v l) (hl : l.length ≤ 1000000000) (hp : p.length ≤ 1000000000) :
    Calls Try.prog 36 #[v, str p] w fun e w' => ∃ v', e = .returned v' ∧ Own w' w.heap.size v' (l ++ leb p.length ++ p) ∧ Below w.heap.size w w' := by
  have hx : p.length < M64 := by unfold M64; omega
  have h10 := leb_ten hx
  have HX := Lib.hid hx
  clear hx
  unfold str
  go_enter Try.func36, Try.ntmps36
  go_wp2_with (first
    | (go_at_call 30; refine (copyOf_any v l _ _ hv ?_ ?_).mono ?_; exact (by omega); exact (by omega); rintro e w1 ⟨v1, rfl, ho1, hb1⟩)
    | (go_at_call 29; refine (groups_any w.heap.size v1 l p.length _ HX.out ?_ ho1 hb1.size).mono ?_; exact (by simp; omega); rintro e w2 ⟨v2, rfl, ho2, hb2⟩)
    | (at_builtin; refine wp_appstr w.heap.size (.tmp 14) (.tmp 15) rfl rfl _ (l ++ leb p.length) p rfl rfl ho2 (Nat.le_trans hb1.size hb2.size) ?_ ?_; exact (by simp; omega); intro v3 w3 ho3 hb3))
  go_ret
  exact ⟨v3, rfl, ho3, (hb1.trans hb2).trans hb3⟩

theorem appendBytes_any (v u : Value) (l p : List UInt8) (w : World) (hv : Bs w w.heap.size v l) (hu : Bs w w.heap.size u p) (hl : l.length ≤ 1000000000) (hp : p.length ≤ 1000000000) :
    Calls Try.prog 25 #[v, u] w fun e w' => ∃ v', e = .returned v' ∧ Own w' w.heap.size v' (l ++ leb p.length ++ p) ∧ Below w.heap.size w w' := by
  go_enter Try.func25, Try.ntmps25
  go_wp2_with (go_at_call 35; refine (countedB_any v u l p _ hv hu hl hp).mono ?_; rintro e w1 ⟨v1, rfl, ho1, hb1⟩)
  go_ret
  exact ⟨v1, rfl, ho1, hb1⟩

theorem appendString_any (v : Value) (l p : List UInt8) (w : World) (hv : Bs w w.heap.size v l) (hl : l.length ≤ 1000000000) (hp : p.length ≤ 1000000000) :
    Calls Try.prog 26 #[v, str p] w fun e w' => ∃ v', e = .returned v' ∧ Own w' w.heap.size v' (l ++ leb p.length ++ p) ∧ Below w.heap.size w w' := by
  go_enter Try.func26, Try.ntmps26
  go_wp2_with (go_at_call 36; refine (countedS_any v l p _ hv hl hp).mono ?_; rintro e w1 ⟨v1, rfl, ho1, hb1⟩)
  go_ret
  exact ⟨v1, rfl, ho1, hb1⟩

theorem refAppendBytes_any (v u : Value) (l p : List UInt8) (w : World) (hv : Bs w w.heap.size v l) (hu : Bs w w.heap.size u p) (hl : l.length ≤ 1000000000) (hp : p.length ≤ 1000000000) :
    Calls Try.prog 24 #[v, u] w fun e w' => ∃ v', e = .returned v' ∧ Own w' w.heap.size v' (l ++ leb p.length ++ p) ∧ Below w.heap.size w w' := by
  have hx : p.length < M64 := by unfold M64; omega
  have h10 := leb_ten hx
  have HU := Lib.hid hu
  have HX := Lib.hid hx
  clear hx
  obtain ⟨A, cap, rfl⟩ := hu.form
  go_enter Try.func24, Try.ntmps24
  go_wp2_with (first
    | (go_at_call 18; refine (refAppendUint_any v l p.length _ hv HX.out hl).mono ?_; rintro e w2 ⟨v2, rfl, ho2, hb2⟩)
    | (at_builtin; refine wp_apps w.heap.size (.tmp 11) (.tmp 12) rfl rfl _ _ (l ++ leb p.length) p rfl rfl ho2 hb2.size (Bs.past HU.out hb2) ?_ ?_; exact (by simp; omega); intro v3 w3 ho3 hb3))
  go_ret
  exact ⟨v3, rfl, ho3, hb2.trans hb3⟩

end Go.Proofs.Ytgllhelpfjinbaa
