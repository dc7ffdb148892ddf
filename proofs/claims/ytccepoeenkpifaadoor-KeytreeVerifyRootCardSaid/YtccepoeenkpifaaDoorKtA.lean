/-
  Package keytree: the message digest, widths of trees.
-/
import Derived.Test.YtccepoeenkpifaaDoorWtJ
import Derived.Test.YtccepoeenkpifaaDoorKtm
import Derived.Test.YtccepoeenkpifaaDoorShL
import Derived.Test.YtccepoeenkpifaaDoorWtK
namespace Go.Proofs.YtccepoeenkpifaaDoor
open Go.RowKit
set_option linter.unusedVariables false
set_option linter.unusedSimpArgs false

set_option maxRecDepth 100000 in
set_option maxHeartbeats 1000000 in
theorem ones_any (n : Nat) (w : World) (hn : n ≤ 64) :
    Calls Tryd.prog 77 #[.int .u64 n] w fun e w' => (∃ c : Int, e = .returned (.int .i64 c) ∧ (c == 1) = Kt.isw n) ∧ w = w' := by
  have hb : (n : Int) < 18446744073709551616 := by omega
  go_enter Tryd.func77, Tryd.ntmps77
  go_wp2
  go_ret
  refine ⟨⟨_, rfl, ?_⟩, rfl⟩
  clear hb
  revert n
  decide +kernel

theorem onesCount_any (n : Nat) (w : World) (hn : n ≤ 64) :
    Calls Tryd.prog 62 #[.int .u64 n] w fun e w' => (∃ c : Int, e = .returned (.int .i64 c) ∧ (c == 1) = Kt.isw n) ∧ w = w' := by
  have HC := Lib.hid (ones_any n w hn)
  go_enter Tryd.func62, Tryd.ntmps62
  go_wp2_with fail
  refine HC.out.mono ?_
  rintro e w2 ⟨⟨c, rfl, h⟩, rfl⟩
  have H := Lib.hid h
  clear h HC
  go_wp2_with fail
  go_ret
  exact ⟨⟨c, rfl, H.out⟩, rfl⟩

theorem isw_big {n : Nat} (h : ¬ n ≤ 64) : Kt.isw n = false := by
  unfold Kt.isw
  simp only [Bool.or_eq_false_iff, beq_eq_false_iff_ne]
  omega

theorem isWidth_any (n : Nat) (w : World) (hm : n ≤ 9223372036854775807) :
    Calls Tryd.prog 38 #[.int .i64 n] w fun e w' => e = .returned (.bool (Kt.isw n)) ∧ w = w' := by
  by_cases hn : n ≤ 64
  · have HC := Lib.hid (onesCount_any n w hn)
    go_enter Tryd.func38, Tryd.ntmps38
    go_wp2_with fail
    refine HC.out.mono ?_
    rintro e w2 ⟨⟨c, rfl, h⟩, rfl⟩
    have H := Lib.hid h
    clear h HC
    go_wp2_with fail
    go_ret
    rw [← H.out]
    exact ⟨rfl, rfl⟩
  · have H := Lib.hid (isw_big hn)
    go_enter Tryd.func38, Tryd.ntmps38
    go_wp2
    go_ret
    rw [H.out]
    exact ⟨rfl, rfl⟩

set_option maxRecDepth 100000 in
theorem msg_any (v : Value) (l : List UInt8) (w : World) (hv : Bs w w.heap.size v l) (hk : KIs 1 w) (hl : l.length ≤ 90000) :
    Calls Tryd.prog 35 #[v] w fun e w' => e = .returned (.agg (u8s (Sha.tag [109, 115, 103] l)).toArray) ∧ Below w.heap.size w w' := by
  have hz := zero_dig
  obtain ⟨A, cap, rfl⟩ := hv.form
  have b0 : Below w.heap.size w (w.alloc (.cells (u8s z32).toArray 25)) := (Below.refl _ _).alloc (Nat.le_refl _) _
  have hr0 := Blk.new w 25 (u8s z32)
  obtain ⟨W0, hW0⟩ : ∃ W0, W0 = w.alloc (.cells (u8s z32).toArray 25) := ⟨_, rfl⟩
  rw [← hW0] at b0 hr0
  have HC := Lib.hid (tagged_any (.slice A l.length cap) [109, 115, 103] l W0 (hv.past b0) (hk.past b0) (by omega) (by decide))
  have HDL := Lib.hid (show (u8s (Sha.tag [109, 115, 103] l)).length = 32 by rw [u8s_length, Sha.tag_len])
  have HW := Lib.hid hW0
  clear hW0 hv hk
  go_enter Tryd.func35, Tryd.ntmps35
  go_upto_region 1 with (fail)
  rw [← HW.out]
  clear hz
  go_wp2_with fail
  refine HC.out.mono ?_
  rintro e w2 ⟨rfl, b2⟩
  have hr2 := hr0.past b2 hr0.lt
  have b02 := b0.trans (b2.mono b0.size)
  obtain ⟨D, hD⟩ : ∃ D, D = Sha.tag [109, 115, 103] l := ⟨_, rfl⟩
  rw [← hD] at HDL ⊢
  have HD := Lib.hid hD
  clear hD HC hr0 b0 b2
  go_wp2_with (refine wp_storeA 25 (.tmp 2) (.tmp 4) rfl rfl w.heap.size rfl 25 (u8s z32) _ rfl hr2 (by rw [info_dig, HDL.out]) (by rw [HDL.out]; rfl) (u8s_one _) rfl ?_; intro w8 hr8 hk8)
  have hb08 : Below w.heap.size w w8 := b02.trans (hk8.below (fun q hq => by omega) b02.size)
  refine ret_arr Tryd.results35 rfl w.heap.size 25 _ 32 5 rfl hr8 Tryd.underlying25 (by rw [info_dig, HDL.out]) ?_
  rw [HD.out]
  exact ⟨rfl, hb08⟩
end Go.Proofs.YtccepoeenkpifaaDoor
