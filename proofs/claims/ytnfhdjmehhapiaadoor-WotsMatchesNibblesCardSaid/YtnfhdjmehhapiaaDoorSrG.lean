/-
  Walks of the reference's package for layer 3: the padding.
-/
import Derived.Test.YtnfhdjmehhapiaaDoorSrF
namespace Go.Proofs.YtnfhdjmehhapiaaDoor
open Go.RowKit
set_option linter.unusedVariables false
set_option linter.unusedSimpArgs false

theorem be8_get (x : Nat) {k : Nat} (hk : k < 8) : (Sha.be8 x)[k]? = some (Sha.b8 (x / 2 ^ (8 * (7 - k)))) := by
  have h : k = 0 ∨ k = 1 ∨ k = 2 ∨ k = 3 ∨ k = 4 ∨ k = 5 ∨ k = 6 ∨ k = 7 := by omega
  have hb : ∀ a b : Nat, a % 256 = b % 256 → Sha.b8 a = Sha.b8 b := fun a b h => UInt8.toNat_inj.1 (by rw [Sha.b8_nat, Sha.b8_nat, h])
  rcases h with rfl | rfl | rfl | rfl | rfl | rfl | rfl | rfl <;> (simp only [Sha.be8, Sha.be4, List.cons_append, List.nil_append, List.getElem?_cons_succ, List.getElem?_cons_zero, Option.some.injEq]; try exact hb _ _ (by omega))

def lenSl : Value → Nat
  | .slice _ n _ => n
  | _ => 0

set_option maxRecDepth 100000 in
set_option maxHeartbeats 2000000 in
theorem rpadding_any (n : Nat) (w : World) (hn : n ≤ 1000000) :
    Calls Tryd.prog 60 #[.int .i64 n] w fun e w' => ∃ v, e = .returned v ∧ Own w' w.heap.size v (Sha.pad n) ∧ Below w.heap.size w w' := by
  have hzs : Sha.zs n < 64 := by unfold Sha.zs; omega
  have HZ := Lib.hid (show Sha.zs n = (119 - n % 64) % 64 from rfl)
  obtain ⟨Z, hZ⟩ : ∃ Z, Z = Sha.zs n := ⟨_, rfl⟩
  rw [← hZ] at hzs HZ
  have HPD := Lib.hid (show Sha.pad n = 128 :: List.replicate Z 0 ++ Sha.be8 (n * 8) by rw [hZ]; rfl)
  clear hZ
  have o0 : Own (w.alloc (.cells (u8s [128]).toArray 5)) w.heap.size (.slice (some ⟨w.heap.size, 0, none⟩) 1 1) [128] := own_lit_n w [128] (by decide)
  have b0 : Below w.heap.size w (w.alloc (.cells (u8s [128]).toArray 5)) := (Below.refl _ _).alloc (Nat.le_refl _) _
  go_enter Tryd.func60, Tryd.ntmps60
  go_wp2_with fail
  go_loopw [3] (fun s wr => ∃ k : Nat, k ≤ Z ∧ Own wr w.heap.size s (128 :: List.replicate k 0) ∧ Below w.heap.size w wr) (fun s _ => 66 - lenSl s)
  case atStart => exact ⟨0, by omega, o0, b0⟩
  case round =>
    obtain ⟨k, hkZ, ho, hb⟩ := hrel
    obtain ⟨A, cap, rfl⟩ := (Own.bs ho).form
    obtain ⟨F, hF⟩ : ∃ F : List UInt8, F = 128 :: List.replicate k 0 := ⟨_, rfl⟩
    have hFl : F.length = k + 1 := by rw [hF]; simp
    rw [← hF] at ho ⊢
    rw [hFl] at ho ⊢
    by_cases hlt : k < Z
    · have hne : (((n : Int) + ((k : Int) + 1)) % 64 != 56) = true := bne_iff_ne.2 (by have := HZ.out; omega)
      have o1 := ho.alloc (.cells #[.int .u8 0] 5)
      have b1 : Below wr.heap.size wr (wr.alloc (.cells #[.int .u8 0] 5)) := (Below.refl _ _).alloc (Nat.le_refl _) _
      have hz1 : Bs (wr.alloc (.cells #[.int .u8 0] 5)) (wr.alloc (.cells #[.int .u8 0] 5)).heap.size (.slice (some ⟨wr.heap.size, 0, none⟩) 1 1) [0] := Own.bs (own_lit_n wr [0] (by decide))
      have hbw : w.heap.size ≤ (wr.alloc (.cells #[.int .u8 0] 5)).heap.size := by have := hb.size; simp; omega
      have hln : F.length + [(0 : UInt8)].length ≤ 140737488355328 := by rw [hFl]; simp; omega
      have HF := Lib.hid hF
      have HFL := Lib.hid hFl
      clear hF hFl
      go_wp2_with (refine wp_apps w.heap.size (.tmp 13) (.tmp 14) rfl rfl _ _ F [0] rfl rfl o1 hbw hz1 hln ?_; intro v2 w2 ho2 b2)
      have e2 : F ++ [0] = 128 :: List.replicate (k + 1) 0 := by rw [HF.out, List.replicate_succ']; simp
      rw [e2] at ho2
      obtain ⟨A2, cap2, rfl⟩ := (Own.bs ho2).form
      go_roundw
      case rel => exact ⟨k + 1, by omega, ho2, (hb.trans (b1.mono hb.size)).trans b2⟩
      case measure => simp [lenSl]; omega
    · have hkk : k = Z := by omega
      have heq : (((n : Int) + ((k : Int) + 1)) % 64 != 56) = false := by
        rw [bne_eq_false_iff_eq]; have := HZ.out; omega
      have HFP := Lib.hid (show Sha.pad n = F ++ Sha.be8 (n * 8) by rw [HPD.out, hF, hkk])
      have HFL := Lib.hid hFl
      have hFb : F.length ≤ 64 := by rw [hFl]; omega
      obtain ⟨X, hX⟩ : ∃ X, X = n * 8 := ⟨_, rfl⟩
      have hXl : X ≤ 8000000 := by omega
      have HX : Hid ((n : Int) * 8 = (X : Int)) := Lib.hid (by omega)
      rw [← hX] at HFP
      clear hX hF
      have hv0 : Own wr w.heap.size (.slice A (k + 1) cap) (F ++ (Sha.be8 X).take 0) := by simpa using ho
      clear ho o0 b0 HPD HZ hFl hkk
      go_wp2_with fail
      clear heq
      rw [HX.out]
      go_loopw [3, 5] (fun s i wq => ∃ (m : Nat) (I : Int), i = .int .i64 I ∧ I = 7 - (m : Int) ∧ m ≤ 8 ∧ Own wq w.heap.size s (F ++ (Sha.be8 X).take m) ∧ Below w.heap.size w wq) (fun _ i _ => (intOf i + 1).toNat)
      case atStart => exact ⟨0, 7, rfl, by omega, by omega, hv0, hb⟩
      case round =>
        clear hv0 hb
        obtain ⟨m, I, rfl, hI, hm, ho, hb⟩ := hrel
        by_cases hlt2 : m < 8
        · obtain ⟨j, hj⟩ : ∃ j : Nat, j = 7 - m := ⟨_, rfl⟩
          obtain rfl : I = (j : Int) := by omega
          have hj7 : j ≤ 7 := by omega
          obtain ⟨G, hG⟩ : ∃ G, G = F ++ (Sha.be8 X).take m := ⟨_, rfl⟩
          have hGl : G.length ≤ 72 := by rw [hG, List.length_append, List.length_take]; omega
          rw [← hG] at ho
          obtain ⟨b, hb8⟩ : ∃ b, b = Sha.b8 (X / 2 ^ (8 * j)) := ⟨_, rfl⟩
          have hget : (Sha.be8 X)[m]? = some b := by rw [be8_get X hlt2, hb8, hj]
          have hnext : G ++ [b] = F ++ (Sha.be8 X).take (m + 1) := by rw [hG, List.take_add_one, hget]; simp
          have hval : Value.int .u8 ((X : Int) / 2 ^ (8 * j) % 256) = Go.Proofs.YtnfhdjmehhapiaaDoor.u8 b := by
            unfold Go.Proofs.YtnfhdjmehhapiaaDoor.u8
            rw [hb8, Sha.b8_nat]
            congr 1
          have o1 := ho.alloc (.cells #[.int .u8 ((X : Int) / 2 ^ (8 * j) % 256)] 5)
          have b1 : Below wr.heap.size wr (wr.alloc (.cells #[.int .u8 ((X : Int) / 2 ^ (8 * j) % 256)] 5)) := (Below.refl _ _).alloc (Nat.le_refl _) _
          have hz1 : Bs (wr.alloc (.cells #[.int .u8 ((X : Int) / 2 ^ (8 * j) % 256)] 5)) (wr.alloc (.cells #[.int .u8 ((X : Int) / 2 ^ (8 * j) % 256)] 5)).heap.size (.slice (some ⟨wr.heap.size, 0, none⟩) 1 1) [b] := by
            rw [hval]; exact Own.bs (own_lit_n wr [b] (by simp [maxLen]))
          have hbw : w.heap.size ≤ (wr.alloc (.cells #[.int .u8 ((X : Int) / 2 ^ (8 * j) % 256)] 5)).heap.size := by have := hb.size; simp; omega
          have hln : G.length + [b].length ≤ 140737488355328 := by simp; omega
          have HN := Lib.hid hnext
          have HJ := Lib.hid hj
          clear hG hget hnext hb8 hval hj hI
          go_wp2_with (refine wp_apps w.heap.size (.tmp 23) (.tmp 30) rfl rfl _ _ G [b] rfl rfl o1 hbw hz1 hln ?_; intro v2 w2 ho2 b2)
          rw [HN.out] at ho2
          go_roundw
          case rel => exact ⟨m + 1, (j : Int) - 1, by go_num, by have := HJ.out; omega, by omega, ho2, (hb.trans (b1.mono hb.size)).trans b2⟩
          case measure => simp [intOf]
        · obtain rfl : I = -1 := by omega
          rw [List.take_of_length_le (by rw [Sha.be8_len]; omega), ← HFP.out] at ho
          clear hI
          go_wp2_with fail
          go_ret
          exact ⟨_, rfl, ho, hb⟩
end Go.Proofs.YtnfhdjmehhapiaaDoor
