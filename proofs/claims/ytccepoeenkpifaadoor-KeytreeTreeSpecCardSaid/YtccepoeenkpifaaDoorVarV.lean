/-
  Walks of the reference's package for layer 1: AppendUint.
-/
import Derived.Test.YtccepoeenkpifaaDoorVarU
import Derived.Test.YtccepoeenkpifaaDoorGen
namespace Go.Proofs.YtccepoeenkpifaaDoor
open Go.RowKit
set_option linter.unusedVariables false
set_option linter.unusedSimpArgs false

theorem own_lit0 (w : World) : Own (w.alloc (.cells #[] 5)) w.heap.size (.slice (some ⟨w.heap.size, 0, none⟩) 0 0) [] :=
  World.ownsRow_lit w #[] 0 (Nat.le_refl _) (by simp [maxLen]) rfl

set_option maxRecDepth 100000 in
set_option maxHeartbeats 400000 in
theorem refAppendUint_any (v : Value) (l : List UInt8) (x : Nat) (w : World) (hv : Bs w w.heap.size v l) (hx : x < M64) (hl0 : l.length ≤ 1000000000) :
    Calls Tryd.prog 72 #[v, .int .u64 x] w fun e w' => ∃ v', e = .returned v' ∧ Own w' w.heap.size v' (l ++ leb x) ∧ Below w.heap.size w w' := by
  have h10 := leb_ten hx
  have HT := Lib.hid (show (l ++ leb x).length ≤ 140737488355328 by simp; omega)
  have HV := Lib.hid hv
  clear h10
  go_enter Tryd.func72, Tryd.ntmps72
  go_wp2_with (at_builtin; refine wp_apps w.heap.size (.tmp 6) (.tmp 7) rfl rfl _ _ [] l rfl rfl (own_lit0 w) (by simp) (Bs.past HV.out ((Below.refl _ _).alloc (Nat.le_refl _) _)) ?_ ?_; exact (by simp; omega); intro v1 w1 ho1 hb1)
  have hbw1 : Below w.heap.size w w1 := ((Below.refl _ _).alloc (Nat.le_refl _) _).trans hb1
  rw [List.nil_append] at ho1
  go_loopw [5, 1] (fun b n wr => ∃ (y : Nat) (o : List UInt8), n = .int .u64 y ∧ y < M64 ∧ o ++ leb y = l ++ leb x ∧ Own wr w.heap.size b o ∧ Below w.heap.size w wr) (fun _ n _ => (intOf n).toNat)
  case atStart => exact ⟨x, l, rfl, hx, rfl, ho1, hbw1⟩
  case round =>
    obtain ⟨y, o, rfl, hy, hl, ho, hb⟩ := hrel
    have HL := Lib.hid hl
    clear hl
    have hlen : o.length + 1 ≤ 140737488355328 := by
      have h1 := HT.out; have h2 := leb_pos y
      rw [← HL.out, List.length_append] at h1; omega
    have hbw : w.heap.size ≤ wr.heap.size := hb.size
    have hy' : y ≤ 18446744073709551615 := by unfold M64 at hy; omega
    by_cases hlt : y < 128
    · go_wp2_with (at_builtin; refine wp_app1 w.heap.size (.tmp 20) (.tmp 23) rfl rfl _ o _ (b8 y) rfl rfl ho hbw hlen ?_ ?_; exact (by rw [b8_toNat (by omega)]); intro v1 w1 hown1 hb1)
      go_ret
      refine ⟨v1, rfl, ?_, hb.trans hb1⟩
      rw [← HL.out, leb_small hlt]
      exact hown1
    · go_wp2_with (at_builtin; refine wp_app1 w.heap.size (.tmp 11) (.tmp 16) rfl rfl _ o _ (b8 (y % 128 + 128)) rfl rfl ho hbw hlen ?_ ?_; exact (by rw [b8_toNat (by omega)]; omega); intro v1 w1 hown1 hb1)
      go_roundw
      case rel =>
        refine ⟨y / 128, _, by go_num, Nat.lt_of_le_of_lt (Nat.div_le_self _ _) hy, ?_, hown1, hb.trans hb1⟩
        rw [← HL.out, leb_big hlt]; simp
      case measure => simp [intOf]; omega

end Go.Proofs.YtccepoeenkpifaaDoor
