/-
  The walk of the law VarintLength.
-/
import Derived.Test.YtgllhelpfjinbaaVarL0
namespace Go.Proofs.Ytgllhelpfjinbaa
open Go.RowKit
set_option linter.unusedVariables false
set_option linter.unusedSimpArgs false

/-- All groups but the last one are at least 128. -/
theorem leb_flags (x : Nat) : ∀ i, i < (leb x).length → (128 ≤ ((leb x).getD i 0).toNat ↔ i + 1 < (leb x).length) := by
  induction x using Nat.strongRecOn with
  | _ x ih =>
    intro i hi
    by_cases h : x < 128
    · rw [leb_small h] at hi ⊢
      simp only [List.length_singleton] at hi ⊢
      obtain rfl : i = 0 := by omega
      simp only [List.getD_cons_zero, b8_toNat (show x < 256 by omega)]; omega
    · have h2 := ih (x / 128) (by omega)
      have hp := leb_pos (x / 128)
      rw [leb_big h] at hi ⊢
      simp only [List.length_cons] at hi ⊢
      cases i with
      | zero => simp only [List.getD_cons_zero, b8_toNat (show x % 128 + 128 < 256 by omega)]; omega
      | succ i =>
        rw [List.getD_cons_succ, h2 i (by omega)]; omega

set_option maxRecDepth 100000 in
set_option maxHeartbeats 800000 in
theorem varintLength_walk (x : Int) (w : World) (hx : 0 ≤ x ∧ x ≤ 18446744073709551615) :
    Calls Try.prog 8 #[.int .u64 x] w fun e w' => e = .returned (.bool true) ∧ Below w.heap.size w w' := by
  obtain ⟨X, rfl⟩ := Int.eq_ofNat_of_zero_le hx.1
  obtain ⟨_, hx2⟩ := hx
  have hX : X < M64 := by unfold M64; omega
  have h10 := leb_ten hX
  have hp := leb_pos X
  go_enter Try.func8, Try.ntmps8
  go_wp2_with fail
  refine (sane_any _).mono ?_
  rintro e w1 ⟨rfl, b1⟩
  go_wp2_with fail
  refine (appendUint_any _ [] X _ (Bs.nil_ _ _) hX (by simp)).mono ?_
  rintro e w2 ⟨v2, rfl, o2, b2⟩
  rw [List.nil_append] at o2
  have r2 := o2.bs
  have hb := b1.trans (b2.mono b1.size)
  obtain ⟨A, c, hv⟩ := r2.form
  rw [hv]
  rw [hv] at r2
  clear hv o2
  have HR := Lib.hid r2
  clear r2 b1 b2
  go_wp2_with fail
  go_loop [4, 5] (fun n y => ∃ (k Y : Nat), n = .int .i64 (k : Int) ∧ y = .int .u64 Y ∧ 1 ≤ k ∧ k ≤ 10 ∧ Y ≤ X ∧ Hid ((leb Y).length + k = (leb X).length + 1)) (fun _ y => (intOf y).toNat)
  case atStart => exact ⟨1, X, rfl, rfl, by omega, by omega, by omega, rfl⟩
  case round =>
    obtain ⟨k, Y, rfl, rfl, hk1, hk2, hY, HL⟩ := hrel
    have hpy := leb_pos Y
    by_cases hlt : Y < 128
    · have hl := HL.out
      rw [leb_small hlt] at hl
      simp only [List.length_singleton] at hl
      obtain rfl : k = (leb X).length := by omega
      have hne : (((leb X).length : Int) != ((leb X).length : Int)) = false := by simp
      clear hl
      go_wp2_with fail
      go_loop [6] (fun i => ∃ j : Nat, i = .int .i64 (j : Int) ∧ j ≤ (leb X).length) (fun i => (leb X).length - (intOf i).toNat)
      case atStart => exact ⟨0, rfl, by omega⟩
      case round =>
        obtain ⟨j, rfl, hj⟩ := hrel
        by_cases hend : j = (leb X).length
        · subst hend
          go_wp2_with fail
          go_ret
          exact ⟨rfl, hb⟩
        · have hjl : j < (leb X).length := by omega
          have hf := leb_flags X j hjl
          obtain ⟨q, hq⟩ : ∃ q, (leb X)[j]? = some q := ⟨_, List.getElem?_eq_getElem hjl⟩
          have hqd : (leb X).getD j 0 = q := by simp [List.getD, hq]
          rw [hqd] at hf
          have hqu : (u8s (leb X))[j]? = some (.int .u8 (q.toNat : Int)) := by simp only [u8s, List.getElem?_map, hq]; rfl
          have HQ := Lib.hid hqu
          have HF := Lib.hid hf
          clear hq hqd hqu hf
          by_cases hlast : j + 1 < (leb X).length
          · have hbig : 128 ≤ q.toNat := HF.out.2 hlast
            have hd1 : decide ((128 : Int) ≤ (q.toNat : Int)) = true := by simp; omega
            have hd2 : decide ((j : Int) < ((leb X).length : Int) - 1) = true := by simp; omega
            go_wp2_with (refine wp_at 22 5 Try.underlying22 size_u8 (.tmp 31) (.tmp 32) rfl rfl rfl HR.out _ _ j _ rfl rfl HQ.out ?_; intro p hpb hpc)
            go_round
            case rel => exact ⟨j + 1, by go_num, by omega⟩
            case measure => simp [intOf]; omega
          · have hsm : ¬ 128 ≤ q.toNat := fun h => hlast (HF.out.1 h)
            have hd1 : decide ((128 : Int) ≤ (q.toNat : Int)) = false := by simp; omega
            have hd2 : decide ((j : Int) < ((leb X).length : Int) - 1) = false := by simp; omega
            go_wp2_with (refine wp_at 22 5 Try.underlying22 size_u8 (.tmp 31) (.tmp 32) rfl rfl rfl HR.out _ _ j _ rfl rfl HQ.out ?_; intro p hpb hpc)
            go_round
            case rel => exact ⟨j + 1, by go_num, by omega⟩
            case measure => simp [intOf]; omega
    · go_wp2
      go_round
      case rel =>
        refine ⟨k + 1, Y / 128, by go_num, by go_num, by omega, ?_, by omega, ?_⟩
        · have h1 := HL.out; have h2 := leb_pos (Y / 128); rw [leb_big hlt] at h1; simp only [List.length_cons] at h1; omega
        · have h1 := HL.out; rw [leb_big hlt] at h1; simp only [List.length_cons] at h1
          show _ = _
          omega
      case measure => simp [intOf]; omega

end Go.Proofs.Ytgllhelpfjinbaa
