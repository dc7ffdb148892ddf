/-
  Walks of package varint: AppendUint.
-/
import Derived.Test.YtccepoeenkpifaaDoorByt
import Derived.Test.YtccepoeenkpifaaDoorLeb
import Derived.Outline
namespace Go.Proofs.YtccepoeenkpifaaDoor
open Go.RowKit
set_option linter.unusedVariables false
set_option linter.unusedSimpArgs false

theorem or_128' : ∀ y : Fin 256, (y.val ||| 128) = y.val % 128 + 128 := by decide +kernel
theorem or_128 (y : Nat) : bits BinOp.or IntKind.u8 ((y : Int) % 256) 128 = ((b8 (y % 128 + 128)).toNat : Int) := by
  have h := u8_or_nat (y % 256) 128 (by omega) (by omega)
  have h2 := or_128' ⟨y % 256, by omega⟩
  simp only at h2
  rw [b8_toNat (by omega)]
  have e : (y : Int) % 256 = ((y % 256 : Nat) : Int) := by omega
  rw [e]
  refine h.trans ?_
  rw [h2]; omega

set_option maxRecDepth 100000 in
set_option maxHeartbeats 400000 in
theorem groups_any (base : Nat) (v : Value) (out : List UInt8) (x : Nat) (w : World) (hx : x < M64) (hT : (out ++ leb x).length ≤ 140737488355328)
    (hown : Own w base v out) (hbase : base ≤ w.heap.size) :
    Calls Tryd.prog 85 #[v, .int .u64 x] w fun e w' => ∃ v', e = .returned v' ∧ Own w' base v' (out ++ leb x) ∧ Below base w w' := by
  have HT := Lib.hid hT
  clear hT
  go_enter Tryd.func85, Tryd.ntmps85
  go_wp2
  go_loopw [0, 1] (fun b n wr => ∃ (y : Nat) (o : List UInt8), n = .int .u64 y ∧ y < M64 ∧ o ++ leb y = out ++ leb x ∧ Own wr base b o ∧ Below base w wr) (fun _ n _ => (intOf n).toNat)
  case atStart => exact ⟨x, out, rfl, hx, rfl, hown, Below.refl _ _⟩
  case round =>
    obtain ⟨y, o, rfl, hy, hl, ho, hb⟩ := hrel
    have HL := Lib.hid hl
    clear hl
    have hlen : o.length + 1 ≤ 140737488355328 := by
      have h1 := HT.out; have h2 := leb_pos y
      rw [← HL.out, List.length_append] at h1; omega
    have hbw : base ≤ wr.heap.size := Nat.le_trans hbase hb.size
    by_cases hlt : y < 128
    · go_wp2_with (at_builtin; refine wp_app1 base (.tmp 15) (.tmp 18) rfl rfl _ o _ (b8 y) rfl rfl ho hbw hlen ?_ ?_; exact (by rw [b8_toNat (by omega)]); intro v1 w1 hown1 hb1)
      go_ret
      refine ⟨v1, rfl, ?_, hb.trans hb1⟩
      rw [← HL.out, leb_small hlt]
      exact hown1
    · go_wp2_with (at_builtin; refine wp_app1 base (.tmp 7) (.tmp 11) rfl rfl _ o _ (b8 (y % 128 + 128)) rfl rfl ho hbw hlen (or_128 y) ?_; intro v1 w1 hown1 hb1)
      go_roundw
      case rel =>
        refine ⟨y / 128, _, by go_num, Nat.lt_of_le_of_lt (Nat.div_le_self _ _) hy, ?_, hown1, hb.trans hb1⟩
        rw [← HL.out, leb_big hlt]; simp
      case measure => simp [intOf]; omega

theorem copyOf_any (v : Value) (l : List UInt8) (m : Int) (w : World) (hv : Bs w w.heap.size v l) (h0 : 0 ≤ m) (h1 : (l.length : Int) + m ≤ 140737488355328) :
    Calls Tryd.prog 86 #[v, .int .i64 m] w fun e w' => ∃ v', e = .returned v' ∧ Own w' w.heap.size v' l ∧ Below w.heap.size w w' := by
  obtain ⟨M, rfl⟩ := Int.eq_ofNat_of_zero_le h0
  have HV := Lib.hid hv
  obtain ⟨A, cap, rfl, _, _, _, _, _⟩ := hv
  go_enter Tryd.func86, Tryd.ntmps86
  go_wp2_with (first
    | (at_make; refine wp_make0 w.heap.size _ _ rfl rfl _ (l.length + M) rfl rfl ?_ ?_ (Nat.le_refl _) ?_; exact (by push_cast; rfl); exact (by omega); intro v1 w1 ho1 hb1)
    | (at_builtin; refine wp_apps w.heap.size (.tmp 9) (.tmp 10) rfl rfl _ _ [] l rfl rfl ho1 hb1.size (Bs.past HV.out hb1) ?_ ?_; exact (by simp; omega); intro v2 w2 ho2 hb2))
  go_ret
  exact ⟨v2, rfl, by simpa using ho2, hb1.trans hb2⟩

theorem appendUint_any (v : Value) (l : List UInt8) (x : Nat) (w : World) (hv : Bs w w.heap.size v l) (hx : x < M64) (hl : l.length ≤ 1000000000) :
    Calls Tryd.prog 70 #[v, .int .u64 x] w fun e w' => ∃ v', e = .returned v' ∧ Own w' w.heap.size v' (l ++ leb x) ∧ Below w.heap.size w w' := by
  have h10 := leb_ten hx
  go_enter Tryd.func70, Tryd.ntmps70
  go_wp2_with (first
    | (go_at_call 86; refine (copyOf_any v l 10 _ hv (by omega) (by omega)).mono ?_; rintro e w1 ⟨v1, rfl, ho1, hb1⟩)
    | (go_at_call 85; refine (groups_any w.heap.size v1 l x _ hx (by simp; omega) ho1 hb1.size).mono ?_; rintro e w2 ⟨v2, rfl, ho2, hb2⟩))
  go_ret
  exact ⟨v2, rfl, ho2, hb1.trans hb2⟩
end Go.Proofs.YtccepoeenkpifaaDoor
