/-
  TrieMatchesLookups: the walk of the law.
-/
import Derived.Test.YtippbkooaonajaaTlF
import Derived.Test.YtippbkooaonajaaTfG
import Derived.Test.YtippbkooaonajaaOpR
namespace Go.Proofs.Ytippbkooaonajaa
open Go.RowKit Dg Tr
set_option linter.unusedVariables false
set_option linter.unusedSimpArgs false

set_option maxRecDepth 100000 in
set_option maxHeartbeats 4000000 in
theorem trieMatchesLookups_walk (A : Option Addr) (n cap : Nat) (F : List Int) (s : Str) (w : World) (hv : Nds w w.heap.size n (.slice A n cap) F) (hp : s.length ≤ maxLen) :
    Calls Try.prog 4 #[.agg #[.slice A n cap], str s] w fun e w' => e = .returned (.bool true) ∧ Below w.heap.size w w' := by
  obtain ⟨w0, hW0⟩ : ∃ W, W = w.alloc (.cells #[.slice A n cap] 24) := ⟨_, rfl⟩
  have b0 : Below w.heap.size w w0 := by rw [hW0]; exact (Below.refl _ _).alloc (Nat.le_refl _) _
  have t0 : TrV w0 w.heap.size A n cap F := ⟨by rw [hW0]; exact Blk.newAt _ _ [_] _ rfl, Row.past hv b0⟩
  have ct0 := t0.cell
  have HW := Lib.hid hW0
  have hsz := str_size s
  have hml : maxLen = 9223372036854775807 := rfl
  clear hv hW0
  unfold str
  go_enter Try.func4, Try.ntmps4
  go_upto_region 1 with (fail)
  rw [← HW.out]
  go_wp2_with fail
  have hC := sane_any w0
  refine hC.mono ?_
  rintro e w1 ⟨rfl, bx⟩
  have t1 := t0.go bx
  have ct1 := t1.cell
  have b1 := b0.trans (bx.mono b0.size)
  clear bx t0 ct0 b0 hC
  have hnm : n ≤ 9223372036854775807 := by
    obtain ⟨_, _, e, h1, h2, _⟩ := t1.nds
    injection e with _ _ e3
    simp only [maxLen] at h2; omega
  by_cases hbig : n ≤ 5000
  rotate_left
  · go_wp2_with fail
    have hC := rfew_any A n cap w1 (by omega)
    rw [decide_eq_false hbig] at hC
    refine hC.mono ?_
    rintro e w2 ⟨rfl, bx⟩
    have b2 := b1.trans (bx.mono b1.size)
    clear hC bx
    go_wp2_with fail
    go_ret
    exact ⟨rfl, b2⟩
  go_wp2_with fail
  have hC := rfew_any A n cap w1 (by omega)
  rw [decide_eq_true hbig] at hC
  refine hC.mono ?_
  rintro e w2 ⟨rfl, bx⟩
  have t2 := t1.go bx
  have ct2 := t2.cell
  have b2 := b1.trans (bx.mono b1.size)
  clear bx t1 ct1 b1 hC
  by_cases hbs : 100 < s.length
  · go_wp2_with fail
    go_ret
    exact ⟨rfl, b2⟩
  obtain ⟨⟨rv, rn, ro⟩, hR⟩ : ∃ R, lonR F n s = R := ⟨_, rfl⟩
  obtain ⟨L, hL⟩ : ∃ L, entR F n = L := ⟨_, rfl⟩
  have hLl : L.length ≤ 4096 := by rw [← hL]; exact entR_len F n
  have HR := Lib.hid hR
  have HL := Lib.hid hL
  have HSL : Hid (s.length ≤ 100) := Lib.hid (by omega)
  clear hR hL
  go_wp2_with fail
  have hC := longest_any A n cap F s w2 t2.nds (by omega) (by have := HSL.out; omega)
  rw [HR.out] at hC
  unfold lonV str at hC
  refine hC.mono ?_
  rintro e w3 ⟨rfl, bx⟩
  have t3 := t2.go bx
  have ct3 := t3.cell
  have b3 := b2.trans (bx.mono b2.size)
  clear bx t2 ct2 b2 hC
  go_wp2_with fail
  have hC := rlongest_any A n cap F s w3 t3.nds (by omega) (by have := HSL.out; omega)
  rw [HR.out] at hC
  unfold lonV str at hC
  refine hC.mono ?_
  rintro e w4 ⟨rfl, bx⟩
  have t4 := t3.go bx
  have ct4 := t4.cell
  have b4 := b3.trans (bx.mono b3.size)
  clear bx t3 ct3 b3 hC
  go_upto_region 7 with (fail)
  refine wp_region_pt w4.heap.size (.take 0 (.take 1 (.take 2 (.take 3 (.take 4 (.take 5 (.take 6 (.take 7 (.take 8 (.take 9 (.take 10 (.take 11 (.take 12 (.take 13 (.take 14 (.take 15 (.take 17 (.take 18 (.step 16 (.step 19 (.take 20 (.take 21 (.take 22 (.take 23 (.take 25 (.step 24 (.step 26 (.step 27 (.take 28 (.take 29 .done)))))))))))))))))))))))))))))) (by kernel_rfl) (by kernel_rfl) (by kernel_rfl) (fun _ _ h => h) ?_
  obtain ⟨w5, hdr⟩ : ∃ x, x = w4.drew := ⟨_, rfl⟩
  have bx : Below w4.heap.size w4 w5 := by rw [hdr]; exact (Below.refl _ _).drew
  have ltt : Hid ((⟨w.heap.size, 0, none⟩ : Addr).block < w4.heap.size) := Lib.hid t4.blk.lt
  have hz : w4.heap.size ≤ w5.heap.size := bx.size
  rw [← hdr]
  clear hdr
  have t5 := t4.go bx
  have ct5 := t5.cell
  have b5 := b4.trans (bx.mono b4.size)
  clear bx t4 ct4 b4
  first | refine pt_skip rfl rfl rfl rfl ?_ | (refine pt_take rfl rfl rfl rfl ?_; apply Exists.intro; refine ⟨fun w' hw' => ?_, ?_⟩; focus ((repeat (first | go_skip | go_guarded | go_step | go_upon | go_back)); exact ⟨rfl, rfl, rfl⟩))
  first | refine pt_skip rfl rfl rfl rfl ?_ | (refine pt_take rfl rfl rfl rfl ?_; apply Exists.intro; refine ⟨fun w' hw' => ?_, ?_⟩; focus ((repeat (first | go_skip | go_guarded | go_step | go_upon | go_back)); exact ⟨rfl, rfl, rfl⟩))
  first | refine pt_skip rfl rfl rfl rfl ?_ | (refine pt_take rfl rfl rfl rfl ?_; apply Exists.intro; refine ⟨fun w' hw' => ?_, ?_⟩; focus ((repeat (first | go_skip | go_guarded | go_step | go_upon | go_back)); exact ⟨rfl, rfl, rfl⟩))
  first | refine pt_skip rfl rfl rfl rfl ?_ | (refine pt_take rfl rfl rfl rfl ?_; apply Exists.intro; refine ⟨fun w' hw' => ?_, ?_⟩; focus ((repeat (first | go_skip | go_guarded | go_step | go_upon | go_back)); exact ⟨rfl, rfl, rfl⟩))
  first | refine pt_skip rfl rfl rfl rfl ?_ | (refine pt_take rfl rfl rfl rfl ?_; apply Exists.intro; refine ⟨fun w' hw' => ?_, ?_⟩; focus ((repeat (first | go_skip | go_guarded | go_step | go_upon | go_back)); exact ⟨rfl, rfl, rfl⟩))
  first | refine pt_skip rfl rfl rfl rfl ?_ | (refine pt_take rfl rfl rfl rfl ?_; apply Exists.intro; refine ⟨fun w' hw' => ?_, ?_⟩; focus ((repeat (first | go_skip | go_guarded | go_step | go_upon | go_back)); exact ⟨rfl, rfl, rfl⟩))
  first | refine pt_skip rfl rfl rfl rfl ?_ | (refine pt_take rfl rfl rfl rfl ?_; apply Exists.intro; refine ⟨fun w' hw' => ?_, ?_⟩; focus ((repeat (first | go_skip | go_guarded | go_step | go_upon | go_back)); exact ⟨rfl, rfl, rfl⟩))
  first | refine pt_skip rfl rfl rfl rfl ?_ | (refine pt_take rfl rfl rfl rfl ?_; apply Exists.intro; refine ⟨fun w' hw' => ?_, ?_⟩; focus ((repeat (first | go_skip | go_guarded | go_step | go_upon | go_back)); exact ⟨rfl, rfl, rfl⟩))
  first | refine pt_skip rfl rfl rfl rfl ?_ | (refine pt_take rfl rfl rfl rfl ?_; apply Exists.intro; refine ⟨fun w' hw' => ?_, ?_⟩; focus ((repeat (first | go_skip | go_guarded | go_step | go_upon | go_back)); exact ⟨rfl, rfl, rfl⟩))
  first | refine pt_skip rfl rfl rfl rfl ?_ | (refine pt_take rfl rfl rfl rfl ?_; apply Exists.intro; refine ⟨fun w' hw' => ?_, ?_⟩; focus ((repeat (first | go_skip | go_guarded | go_step | go_upon | go_back)); exact ⟨rfl, rfl, rfl⟩))
  first | refine pt_skip rfl rfl rfl rfl ?_ | (refine pt_take rfl rfl rfl rfl ?_; apply Exists.intro; refine ⟨fun w' hw' => ?_, ?_⟩; focus ((repeat (first | go_skip | go_guarded | go_step | go_upon | go_back)); exact ⟨rfl, rfl, rfl⟩))
  first | refine pt_skip rfl rfl rfl rfl ?_ | (refine pt_take rfl rfl rfl rfl ?_; apply Exists.intro; refine ⟨fun w' hw' => ?_, ?_⟩; focus ((repeat (first | go_skip | go_guarded | go_step | go_upon | go_back)); exact ⟨rfl, rfl, rfl⟩))
  first | refine pt_skip rfl rfl rfl rfl ?_ | (refine pt_take rfl rfl rfl rfl ?_; apply Exists.intro; refine ⟨fun w' hw' => ?_, ?_⟩; focus ((repeat (first | go_skip | go_guarded | go_step | go_upon | go_back)); exact ⟨rfl, rfl, rfl⟩))
  first | refine pt_skip rfl rfl rfl rfl ?_ | (refine pt_take rfl rfl rfl rfl ?_; apply Exists.intro; refine ⟨fun w' hw' => ?_, ?_⟩; focus ((repeat (first | go_skip | go_guarded | go_step | go_upon | go_back)); exact ⟨rfl, rfl, rfl⟩))
  refine pt_take rfl rfl rfl rfl ?_
  apply Exists.intro
  refine ⟨fun w' hw' => ?_, ?_⟩
  · have hcell := (hw'.cell (p := ⟨w.heap.size, 0, none⟩) ltt.out).trans ct5
    focus ((repeat (first | go_skip | go_guarded | go_step | go_upon | go_back)); exact ⟨rfl, rfl, rfl⟩)
  first | refine pt_skip rfl rfl rfl rfl ?_ | (refine pt_take rfl rfl rfl rfl ?_; apply Exists.intro; refine ⟨fun w' hw' => ?_, ?_⟩; focus ((repeat (first | go_skip | go_guarded | go_step | go_upon | go_back)); exact ⟨rfl, rfl, rfl⟩))
  refine pt_take rfl rfl rfl rfl ?_
  apply Exists.intro
  refine ⟨fun w' hw' => ?_, ?_⟩
  · have hcell := (hw'.cell (p := ⟨w.heap.size, 0, none⟩) ltt.out).trans ct5
    focus ((repeat (first | go_skip | go_guarded | go_step | go_upon | go_back)); exact ⟨rfl, rfl, rfl⟩)
  first | refine pt_skip rfl rfl rfl rfl ?_ | (refine pt_take rfl rfl rfl rfl ?_; apply Exists.intro; refine ⟨fun w' hw' => ?_, ?_⟩; focus ((repeat (first | go_skip | go_guarded | go_step | go_upon | go_back)); exact ⟨rfl, rfl, rfl⟩))
  refine pt_step rfl ?_
  go_wp2_with fail
  have hC := extends_any A n cap F s w5 t5.nds (by omega) (by have := HSL.out; omega)
  unfold str at hC
  refine hC.mono ?_
  rintro e w6 ⟨⟨r1, rfl, hr1⟩, bx⟩
  have HR1 := Lib.hid hr1
  clear hr1
  have hstep := bx.mono hz
  have hz6 : w4.heap.size ≤ w6.heap.size := Nat.le_trans hz bx.size
  have t6 := t5.go bx
  have ct6 := t6.cell
  have b6 := b5.trans (bx.mono b5.size)
  clear bx t5 ct5 b5 hC hz
  have hz := hz6
  clear hz6
  go_wp2_with fail
  refine ⟨rfl, hstep, ?_⟩
  clear hstep
  refine pt_step rfl ?_
  go_wp2_with fail
  have hC := rextends_any A n cap F s w6 t6.nds (by omega) (by have := HSL.out; omega)
  unfold str at hC
  refine hC.mono ?_
  rintro e w7 ⟨⟨r2, rfl, hr2⟩, bx⟩
  obtain rfl : r2 = r1 := by rw [Bool.eq_iff_iff, hr2, HR1.out]
  clear hr2
  have hstep := bx.mono hz
  have hz7 : w4.heap.size ≤ w7.heap.size := Nat.le_trans hz bx.size
  have t7 := t6.go bx
  have ct7 := t7.cell
  have b7 := b6.trans (bx.mono b6.size)
  clear bx t6 ct6 b6 hC hz
  have hz := hz7
  clear hz7
  go_wp2_with fail
  refine ⟨rfl, hstep, ?_⟩
  clear hstep
  first | refine pt_skip rfl rfl rfl rfl ?_ | (refine pt_take rfl rfl rfl rfl ?_; apply Exists.intro; refine ⟨fun w' hw' => ?_, ?_⟩; focus ((repeat (first | go_skip | go_guarded | go_step | go_upon | go_back)); exact ⟨rfl, rfl, rfl⟩))
  first | refine pt_skip rfl rfl rfl rfl ?_ | (refine pt_take rfl rfl rfl rfl ?_; apply Exists.intro; refine ⟨fun w' hw' => ?_, ?_⟩; focus ((repeat (first | go_skip | go_guarded | go_step | go_upon | go_back)); exact ⟨rfl, rfl, rfl⟩))
  first | refine pt_skip rfl rfl rfl rfl ?_ | (refine pt_take rfl rfl rfl rfl ?_; apply Exists.intro; refine ⟨fun w' hw' => ?_, ?_⟩; focus ((repeat (first | go_skip | go_guarded | go_step | go_upon | go_back)); exact ⟨rfl, rfl, rfl⟩))
  refine pt_take rfl rfl rfl rfl ?_
  apply Exists.intro
  refine ⟨fun w' hw' => ?_, ?_⟩
  · have hcell := (hw'.cell (p := ⟨w.heap.size, 0, none⟩) ltt.out).trans ct7
    focus ((repeat (first | go_skip | go_guarded | go_step | go_upon | go_back)); exact ⟨rfl, rfl, rfl⟩)
  refine pt_take rfl rfl rfl rfl ?_
  apply Exists.intro
  refine ⟨fun w' hw' => ?_, ?_⟩
  · have hcell := (hw'.cell (p := ⟨w.heap.size, 0, none⟩) ltt.out).trans ct7
    focus ((repeat (first | go_skip | go_guarded | go_step | go_upon | go_back)); exact ⟨rfl, rfl, rfl⟩)
  refine pt_step rfl ?_
  go_wp2_with fail
  have hC := entries_any A n cap F w7 t7.nds (by omega)
  rw [HL.out] at hC
  refine hC.mono ?_
  rintro e w8 ⟨⟨u7, rfl, o7⟩, bx⟩
  obtain ⟨A7, k7, rfl⟩ := own_form o7
  have pc8 := o7.pl
  have hstep := bx.mono hz
  have hz8 : w4.heap.size ≤ w8.heap.size := Nat.le_trans hz bx.size
  have t8 := t7.go bx
  have ct8 := t8.cell
  have b8 := b7.trans (bx.mono b7.size)
  clear bx t7 ct7 b7 hC hz
  have hz := hz8
  clear hz8
  clear o7
  go_wp2_with fail
  refine ⟨rfl, hstep, ?_⟩
  clear hstep
  refine pt_step rfl ?_
  go_wp2_with fail
  have hC := rentries_any A n cap F w8 t8.nds (by omega)
  rw [HL.out] at hC
  refine hC.mono ?_
  rintro e w9 ⟨⟨u8, rfl, o8⟩, bx⟩
  obtain ⟨A8, k8, rfl⟩ := own_form o8
  have pd9 := o8.pl
  have hstep := bx.mono hz
  have hz9 : w4.heap.size ≤ w9.heap.size := Nat.le_trans hz bx.size
  have t9 := t8.go bx
  have ct9 := t9.cell
  have pc9 := Row.past pc8 bx
  have b9 := b8.trans (bx.mono b8.size)
  clear bx t8 ct8 pc8 b8 hC hz
  have hz := hz9
  clear hz9
  clear o8
  go_wp2_with fail
  refine ⟨rfl, hstep, ?_⟩
  clear hstep
  refine pt_step rfl ?_
  go_wp2_with fail
  have hC := sameEntries_any (.slice A7 L.length k7) (.slice A8 L.length k8) L L w9 pc9 pd9 (by omega) (by omega)
  rw [decide_eq_true (rfl : L = L)] at hC
  refine hC.mono ?_
  rintro e w10 ⟨rfl, bx⟩
  have hstep := bx.mono hz
  have hz10 : w4.heap.size ≤ w10.heap.size := Nat.le_trans hz bx.size
  have t10 := t9.go bx
  have ct10 := t10.cell
  have pc10 := Row.past pc9 bx
  have pd10 := Row.past pd9 bx
  have b10 := b9.trans (bx.mono b9.size)
  clear bx t9 ct9 pc9 pd9 b9 hC hz
  have hz := hz10
  clear hz10
  go_wp2_with fail
  refine ⟨rfl, hstep, ?_⟩
  clear hstep
  first | refine pt_skip rfl rfl rfl rfl ?_ | (refine pt_take rfl rfl rfl rfl ?_; apply Exists.intro; refine ⟨fun w' hw' => ?_, ?_⟩; focus ((repeat (first | go_skip | go_guarded | go_step | go_upon | go_back)); exact ⟨rfl, rfl, rfl⟩))
  first | refine pt_skip rfl rfl rfl rfl ?_ | (refine pt_take rfl rfl rfl rfl ?_; apply Exists.intro; refine ⟨fun w' hw' => ?_, ?_⟩; focus ((repeat (first | go_skip | go_guarded | go_step | go_upon | go_back)); exact ⟨rfl, rfl, rfl⟩))
  change Exit.then _ _ Exit.normal _ _
  go_wp2_with fail
  go_ret
  exact ⟨rfl, b10⟩
end Go.Proofs.Ytippbkooaonajaa
