/-
  Walks of package sha256: Grow, Concat (package slices), pairs, chains.
-/
import Derived.Test.YtccepoeenkpifaaDoorShI
import Derived.Test.YtccepoeenkpifaaDoorLst
import Derived.Lib.AppendZeros
namespace Go.Proofs.YtccepoeenkpifaaDoor
open Go.RowKit
set_option linter.unusedVariables false
set_option linter.unusedSimpArgs false

theorem grow_zero (w : World) : Calls Tryd.prog 71 #[.slice none 0 0, .int .i64 0] w fun e w' => ∃ v, e = .returned v ∧ Own w' w.heap.size v [] ∧ Below w.heap.size w w' := by
  go_enter Tryd.func71, Tryd.ntmps71
  go_wp2
  go_ret
  exact ⟨_, rfl, Own.nil_ _ _, Below.refl _ _⟩

set_option maxRecDepth 100000 in
set_option maxHeartbeats 1000000 in
theorem grow_pos (n : Nat) (w : World) (h0 : 0 < n) (hn : n ≤ 10000000) : Calls Tryd.prog 71 #[.slice none 0 0, .int .i64 n] w fun e w' => ∃ v, e = .returned v ∧ Own w' w.heap.size v [] ∧ Below w.heap.size w w' := by
  obtain ⟨i0, hi, hz0, hz1, hz2⟩ := info_parts info_u8
  have hrun := Lib.run_append_nil_zeros (P := Tryd.prog) w 22 3 22 5 i0 (.int .u8 0) .i64 .i64 Tryd.underlying22 Tryd.underlying3 hi hz0 n h0 (by omega) (by omega) (by rw [hz2]; omega)
  have HRUN := Lib.hid hrun
  clear hrun
  have hge := grownCap_ge w n 0 5
  have hle := grownCap_le_maxLen w n 0 5 (by simp only [maxLen]; omega)
  obtain ⟨C, hC⟩ : ∃ C, C = grownCap w n 0 5 := ⟨_, rfl⟩
  rw [← hC] at hge hle HRUN
  clear hC
  go_enter Tryd.func71, Tryd.ntmps71
  go_wp2_with (refine Lib.wpList_append_run _ rfl _ _ _ _ rfl _ _ rfl rfl _ _ HRUN.out ?_)
  go_ret
  refine ⟨_, rfl, ?_, (Below.refl w.heap.size w).drew.alloc (Nat.le_refl _) _⟩
  have hsz : (Builtin.zeroCells (Value.int IntKind.u8 0).cells n ++ Builtin.zeroCells (Value.int IntKind.u8 0).cells (C - n)).size = C * 1 := by
    simp [size_zeroCells, Value.cells]; omega
  exact World.ownsRow_made (e := 5) (size := 1) w.drew _ C (Nat.le_refl _) hle hsz

theorem grow_any (n : Nat) (w : World) (hn : n ≤ 10000000) : Calls Tryd.prog 71 #[.slice none 0 0, .int .i64 n] w fun e w' => ∃ v, e = .returned v ∧ Own w' w.heap.size v [] ∧ Below w.heap.size w w' := by
  by_cases h0 : n = 0
  · subst h0; exact grow_zero w
  · exact grow_pos n w (by omega) hn

theorem flat_take {ls : List (List UInt8)} {k : Nat} {x : List UInt8} (hx : ls[k]? = some x) : (ls.take (k + 1)).flatten = (ls.take k).flatten ++ x := by
  rw [List.take_add_one, hx, List.flatten_append]; simp
theorem flat_le (ls : List (List UInt8)) (k : Nat) : (ls.take k).flatten.length ≤ ls.flatten.length := by
  conv => rhs; rw [← List.take_append_drop k ls]
  rw [List.flatten_append, List.length_append]; omega

set_option maxRecDepth 100000 in
set_option maxHeartbeats 1000000 in
theorem concat_any (v : Value) (ls : List (List UInt8)) (w : World) (hv : Ls w w.heap.size v ls) (hl : ls.flatten.length ≤ 1000000) (hn : ls.length ≤ 1000000) :
    Calls Tryd.prog 52 #[v] w fun e w' => ∃ v', e = .returned v' ∧ Own w' w.heap.size v' ls.flatten ∧ Below w.heap.size w w' := by
  obtain ⟨A, cap, rfl⟩ := hv.form
  go_enter Tryd.func52, Tryd.ntmps52
  go_wp2_with fail
  go_loop [3, 11] (fun z i => ∃ (k n : Nat), i = .int .i64 k ∧ k ≤ ls.length ∧ z = .int .i64 n ∧ n ≤ 1000000 ∧ Hid (n = (ls.take k).flatten.length)) (fun _ i => (ls.length - intOf i).toNat)
  case atStart => exact ⟨0, 0, rfl, by omega, rfl, by omega, Lib.hid rfl⟩
  case round =>
    obtain ⟨k, n, rfl, hk, rfl, hn1, HN⟩ := hrel
    by_cases hlt : k < ls.length
    · obtain ⟨x, hx⟩ : ∃ x, ls[k]? = some x := ⟨_, List.getElem?_eq_getElem hlt⟩
      obtain ⟨vs, A1, c1, hrow, hu, hbx⟩ := hv.at_ hx
      have hn2 : n + x.length ≤ 1000000 := by
        have h := flat_le ls (k + 1)
        rw [flat_take hx, List.length_append, ← HN.out] at h
        omega
      have HX := Lib.hid hx
      clear hx
      go_wp2_with (refine wp_at 90 22 Tryd.underlying90 size_bs (.tmp 9) (.tmp 11) rfl rfl rfl hrow _ _ k _ rfl rfl hu ?_; intro p hp hcell)
      go_round
      case rel => exact ⟨k + 1, n + x.length, by go_num, by omega, by go_num, hn2, Lib.hid (by rw [flat_take HX.out, List.length_append, HN.out])⟩
      case measure => simp [intOf]; omega
    · have hnf : n = ls.flatten.length := by rw [HN.out, List.take_of_length_le (by omega)]
      have hcall := grow_any n w (by omega)
      have HC := Lib.hid hcall
      clear hcall hnf
      go_wp2_with fail
      refine HC.out.mono ?_
      rintro e w2 ⟨v2, rfl, ho2, hb2⟩
      go_wp2_with fail
      go_loopw [6, 27] (fun z i wr => ∃ (k : Nat), i = .int .i64 k ∧ k ≤ ls.length ∧ Own wr w.heap.size z (ls.take k).flatten ∧ Below w.heap.size w wr) (fun _ i _ => (ls.length - intOf i).toNat)
      case atStart => exact ⟨0, rfl, by omega, by simpa using ho2, hb2⟩
      case round =>
        obtain ⟨j, rfl, hj, ho, hb⟩ := hrel
        by_cases hlt2 : j < ls.length
        · obtain ⟨x, hx⟩ : ∃ x, ls[j]? = some x := ⟨_, List.getElem?_eq_getElem hlt2⟩
          have hvr := hv.carry hb hb.size
          obtain ⟨vs, A1, c1, hrow, hu, hbx⟩ := hvr.at_ hx
          have hlen : (ls.take j).flatten.length + x.length ≤ 140737488355328 := by
            have h := flat_le ls (j + 1)
            rw [flat_take hx, List.length_append] at h
            omega
          have HX := Lib.hid hx
          have hbs := hb.size
          obtain ⟨F, hF⟩ : ∃ F, F = (ls.take j).flatten := ⟨_, rfl⟩
          rw [← hF] at ho hlen
          have HF := Lib.hid hF
          clear hx hF
          go_wp2_with (first
            | (refine wp_at 90 22 Tryd.underlying90 size_bs (.tmp 25) (.tmp 27) rfl rfl rfl hrow _ _ j _ rfl rfl hu ?_; intro p hp hcell)
            | (refine wp_apps w.heap.size (.tmp 31) (.tmp 32) rfl rfl _ _ F x rfl rfl ho hbs hbx hlen ?_; intro v3 w3 ho3 hb3))
          go_roundw
          case rel => exact ⟨j + 1, by go_num, by omega, by rw [flat_take HX.out, ← HF.out]; exact ho3, hb.trans hb3⟩
          case measure => simp [intOf]; omega
        · have hfin : (ls.take j).flatten = ls.flatten := by rw [List.take_of_length_le (by omega)]
          rw [hfin] at ho
          clear hfin
          go_wp2_with fail
          go_ret
          exact ⟨_, rfl, ho, hb⟩
end Go.Proofs.YtccepoeenkpifaaDoor
