/-
  The statements' example of tries: sane.
-/
import Derived.Test.YtippbkooaonajaaTlA
namespace Go.Proofs.Ytippbkooaonajaa
open Go.RowKit Dg Tr
set_option linter.unusedVariables false
set_option linter.unusedSimpArgs false

/-- Results in the walk's own spelling. -/
theorem put_at {G : List Int} {k : Nat} (A : Option Addr) (n cap : Nat) (F : List Int) (s : Str) (v : Int) (w : World) (hv : Nds w w.heap.size n (.slice A n cap) F) (hn : n ≤ 10000) (hl : s.length ≤ 1000) (h : putE F n s v = 0 ∧ putF F n s v = G ∧ putN F n s v = k) (hk : 0 < k) :
    Calls Try.prog 13 #[.agg #[.slice A n cap], .string ⟨s.toArray⟩, .int .i64 v] w fun e w' => ∃ g c, e = .returned (.tuple #[.agg #[.slice (some ⟨g, 0, none⟩) k c], .int .i64 0]) ∧ OwnN w' w.heap.size k (.slice (some ⟨g, 0, none⟩) k c) G ∧ Below w.heap.size w w' := by
  refine (put_any A n cap F s v w hv hn hl).mono ?_
  rintro e w' ⟨⟨u, rfl, ho⟩, hb⟩
  rw [h.1, h.2.1, h.2.2] at *
  obtain ⟨g, c, rfl⟩ := ho.form hk
  exact ⟨g, c, rfl, ho, hb⟩

set_option maxRecDepth 100000 in
set_option maxHeartbeats 4000000 in
theorem sane_any (w : World) : Calls Try.prog 11 #[] w fun e w' => e = .returned (.bool true) ∧ Below w.heap.size w w' := by
  have hN := new_any w
  go_enter Try.func11, Try.ntmps11
  go_wp2_with fail
  refine hN.mono ?_
  rintro e w1 ⟨⟨u, rfl, o1⟩, b1⟩
  obtain ⟨q1, c1, rfl⟩ := o1.form (by decide)
  have hP := put_at (some ⟨q1, 0, none⟩) 1 c1 T0 s49 1 w1 o1.nds (by decide) (by decide) put_A (by decide)
  have hs1 := b1.size
  have h1 : w.heap.size ≤ w1.heap.size := hs1
  clear hN o1 hs1
  go_wp2_with fail
  refine hP.mono ?_
  rintro e w2 ⟨q2, c2, rfl, o2, b2⟩
  have b12 := b1.trans (b2.mono h1)
  clear hP b1 b2 h1
  go_wp2_with (first | (refine wp_storeA 24 (.tmp 1) (.tmp 18) rfl rfl w2.heap.size rfl 24 [.slice none 0 0] [.slice (some ⟨q2, 0, none⟩) 3 c2] rfl (Blk.new _ _ _) (by rw [info_trie]; rfl) rfl (by intro v hv; simp at hv; subst hv; rfl) rfl ?_; intro w3 k3 kk3; have bb : Below w2.heap.size w2 w3 := ((Below.refl _ _).alloc (Nat.le_refl _) _).trans (kk3.below (fun q hq => by omega) (by simp)); have ct3 := k3.cell (j := 0) rfl; have b13 := b12.trans (bb.mono b12.size); have o3 := o2.go bb; clear kk3 bb))
  have hP := put_at (some ⟨q2, 0, none⟩) 3 c2 exA s4989 2 w3 o3.nds (by decide) (by decide) put_B (by decide)
  have h3 := b13.size
  refine hP.mono ?_
  rintro e w4 ⟨q4, c4, rfl, o4, b34⟩
  have b14 := b13.trans (b34.mono h3)
  clear hP b13 b34 h3 o3 ct3 o2 b12 k3
  go_wp2_with (first | (refine wp_storeA 24 (.tmp 3) (.tmp 23) rfl rfl w4.heap.size rfl 24 [.slice none 0 0] [.slice (some ⟨q4, 0, none⟩) 5 c4] rfl (Blk.new _ _ _) (by rw [info_trie]; rfl) rfl (by intro v hv; simp at hv; subst hv; rfl) rfl ?_; intro w5 k5 kk5; have bb : Below w4.heap.size w4 w5 := ((Below.refl _ _).alloc (Nat.le_refl _) _).trans (kk5.below (fun q hq => by omega) (by simp)); have ct5 := k5.cell (j := 0) rfl; have b15 := b14.trans (bb.mono b14.size); have o5 := o4.go bb; clear kk5 bb))
  have hP := put_at (some ⟨q4, 0, none⟩) 5 c4 exB s4 3 w5 o5.nds (by decide) (by decide) put_T (by decide)
  have h5 := b15.size
  refine hP.mono ?_
  rintro e w6 ⟨q6, c6, rfl, o6, b56⟩
  have b16 := b15.trans (b56.mono h5)
  clear hP b15 b56 h5 o5 ct5 o4 b14 k5
  go_wp2_with (first | (refine wp_storeA 24 (.tmp 5) (.tmp 28) rfl rfl w6.heap.size rfl 24 [.slice none 0 0] [.slice (some ⟨q6, 0, none⟩) 5 c6] rfl (Blk.new _ _ _) (by rw [info_trie]; rfl) rfl (by intro v hv; simp at hv; subst hv; rfl) rfl ?_; intro w7 k7 kk7; have bb : Below w6.heap.size w6 w7 := ((Below.refl _ _).alloc (Nat.le_refl _) _).trans (kk7.below (fun q hq => by omega) (by simp)); have ct7 := k7.cell (j := 0) rfl; have b17 := b16.trans (bb.mono b16.size); have o7 := o6.go bb; clear kk7 bb))
  obtain ⟨gt, hgt⟩ : ∃ gt, gt = w6.heap.size := ⟨_, rfl⟩
  rw [← hgt] at ct7 k7 ⊢
  clear hgt o6 b16
  have hL := longest_any (some ⟨q6, 0, none⟩) 5 c6 exT [52, 57, 56, 57, 49] w7 o7.nds (by decide) (by decide)
  rw [lon_1] at hL
  have h7 := b17.size
  refine hL.mono ?_
  rintro e w8 ⟨rfl, b78⟩
  have b18 := b17.trans (b78.mono h7)
  have ct8 := cell_past ct7 b78
  have o8 := o7.go b78
  have k8 := k7.past b78 k7.lt
  clear hL b17 b78 h7 ct7 o7 k7
  unfold lonV
  go_wp2_with fail
  have hL := longest_any (some ⟨q6, 0, none⟩) 5 c6 exT [52, 55, 49, 49] w8 o8.nds (by decide) (by decide)
  rw [lon_2] at hL
  have h8 := b18.size
  refine hL.mono ?_
  rintro e w9 ⟨rfl, b89⟩
  have b19 := b18.trans (b89.mono h8)
  have ct9 := cell_past ct8 b89
  have o9 := o8.go b89
  have k9 := k8.past b89 k8.lt
  clear hL b18 b89 h8 ct8 o8 k8
  unfold lonV
  go_wp2_with fail
  have hP := put_any (some ⟨q6, 0, none⟩) 5 c6 exT [52, 120] 1 w9 o9.nds (by decide) (by decide)
  rw [put_bad] at hP
  have h9 := b19.size
  refine hP.mono ?_
  rintro e w10 ⟨⟨u, rfl, ou⟩, b910⟩
  obtain ⟨Au, cu, rfl⟩ := row_form ou.nds
  have b110 := b19.trans (b910.mono h9)
  have ct10 := cell_past ct9 b910
  have o10 := o9.go b910
  have k10 := k9.past b910 k9.lt
  obtain ⟨un, hun⟩ : ∃ un, putN exT 5 [52, 120] 1 = un := ⟨_, rfl⟩
  rw [hun]
  clear hP b19 b910 h9 ct9 o9 k9 ou hun
  go_wp2_with (first | (refine wp_storeA 24 (.tmp 13) (.tmp 45) rfl rfl w10.heap.size rfl 24 [.slice none 0 0] [.slice Au un cu] rfl (Blk.new _ _ _) (by rw [info_trie]; rfl) rfl (by intro v hv; simp at hv; subst hv; rfl) rfl ?_; intro w11 k11 kk11; have bb : Below w10.heap.size w10 w11 := ((Below.refl _ _).alloc (Nat.le_refl _) _).trans (kk11.below (fun q hq => by omega) (by simp)); have ct11 := cell_past ct10 bb; have b111 := b110.trans (bb.mono b110.size); have o11 := o10.go bb; clear kk11 bb k11 k10 ct10 o10 b110))
  have hX := extends_any (some ⟨q6, 0, none⟩) 5 c6 exT [52, 57, 56] w11 o11.nds (by decide) (by decide)
  have h11 := b111.size
  refine hX.mono ?_
  rintro e w12 ⟨⟨r, rfl, hr⟩, bx⟩
  have hr1 := hr.2 ext_1
  subst hr1
  have b112 := b111.trans (bx.mono h11)
  have ct12 := cell_past ct11 bx
  have o12 := o11.go bx
  clear hX b111 bx h11 ct11 o11 hr
  go_wp2_with fail
  have hX := extends_any (some ⟨q6, 0, none⟩) 5 c6 exT s4989 w12 o12.nds (by decide) (by decide)
  have h12 := b112.size
  refine hX.mono ?_
  rintro e w13 ⟨⟨r, rfl, hr⟩, bx⟩
  have hr1 : r = false := by
    cases r with
    | false => rfl
    | true => exact absurd (hr.1 rfl) ext_2
  subst hr1
  have b113 := b112.trans (bx.mono h12)
  have ct13 := cell_past ct12 bx
  have o13 := o12.go bx
  clear hX b112 bx h12 ct12 o12 hr
  go_wp2_with fail
  have hX := entries_any (some ⟨q6, 0, none⟩) 5 c6 exT w13 o13.nds (by decide)
  have h13 := b113.size
  refine hX.mono ?_
  rintro e w14 ⟨⟨v, rfl, ov⟩, bx⟩
  obtain ⟨Av, cv, rfl⟩ := own_form ov
  rw [ents_3]
  have b114 := b113.trans (bx.mono h13)
  clear hX b113 bx h13 ct13 o13 ov
  go_wp2_with fail
  go_ret
  exact ⟨rfl, b114⟩
end Go.Proofs.Ytippbkooaonajaa
