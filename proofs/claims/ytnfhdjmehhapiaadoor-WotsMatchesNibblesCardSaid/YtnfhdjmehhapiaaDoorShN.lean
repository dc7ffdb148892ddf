/-
  Walks of package sha256: chains.
-/
import Derived.Test.YtnfhdjmehhapiaaDoorShJ
namespace Go.Proofs.YtnfhdjmehhapiaaDoor
open Go.RowKit
set_option linter.unusedVariables false
set_option linter.unusedSimpArgs false

theorem row_of_blk {w : World} {g B n : Nat} {t : TypeId} {vs : List Value} (h : Blk w g t vs) (hg : g < B) (hn : vs.length = n) (hm : n ≤ maxLen) : Row w B 1 n (.slice (some ⟨g, 0, none⟩) n n) vs := by
  refine ⟨some ⟨g, 0, none⟩, n, rfl, Nat.le_refl _, hm, (fun h => by cases h), by omega, fun a ha _ => ?_⟩
  obtain rfl : (⟨g, 0, none⟩ : Addr) = a := by injection ha
  exact ⟨hg, fun i u hu => by rw [add_zero_addr]; exact h.cell hu⟩

/-- A digest in a block of its own, as a slice. -/
theorem dig_bs {w : World} {g : Nat} {t : TypeId} {x : List UInt8} (h : Blk w g t (u8s x)) (hx : x.length = 32) : Bs w w.heap.size (.slice (some ⟨g, 0, none⟩) 32 32) x := by
  have := h.bs0 h.lt (by rw [hx]; simp [maxLen])
  rwa [hx] at this

set_option maxRecDepth 100000 in
set_option maxHeartbeats 1000000 in
theorem chain_any (x : List UInt8) (n : Int) (w : World) (hx : x.length = 32) (hn : n ≤ 1000) (hn0 : -9223372036854775808 ≤ n) (hk : KIs 0 w) :
    Calls Tryd.prog 24 #[.agg (u8s x).toArray, .int .i64 n] w fun e w' => e = .returned (.agg (u8s (Sha.chain x n.toNat)).toArray) ∧ Below w.heap.size w w' := by
  have hz := zero_dig
  have HX := Lib.hid hx
  clear hx
  obtain ⟨W0, hW0⟩ : ∃ W0, W0 = (w.alloc (.cells (u8s x).toArray 23)).alloc (.cells (u8s z32).toArray 23) := ⟨_, rfl⟩
  have hb0 : Below w.heap.size w W0 := by rw [hW0]; exact ((Below.refl _ _).alloc (Nat.le_refl _) _).alloc (by simp) _
  have hx0 : Blk W0 w.heap.size 23 (u8s (Sha.chain x 0)) := by
    rw [hW0]
    exact (Blk.new w _ _).past ((Below.refl _ _).alloc (Nat.le_refl _) _) (by simp)
  have hr0 : Blk W0 (w.heap.size + 1) 23 (u8s z32) := by
    have h := Blk.new (w.alloc (.cells (u8s x).toArray 23)) 23 (u8s z32)
    rw [World.size_alloc] at h
    rw [hW0]; exact h
  have hs0 : w.heap.size + 1 < W0.heap.size := hr0.lt
  have HW0 := Lib.hid hW0
  clear hW0
  go_enter Tryd.func24, Tryd.ntmps24
  go_wp2_with fail
  rw [← HW0.out]
  clear hz
  go_loopw [6] (fun i wr => ∃ k : Nat, i = .int .i64 k ∧ k ≤ n.toNat ∧ Blk wr w.heap.size 23 (u8s (Sha.chain x k)) ∧ Blk wr (w.heap.size + 1) 23 (u8s z32) ∧ Below w.heap.size w wr) (fun i _ => n.toNat - (intOf i).toNat)
  case atStart => exact ⟨0, rfl, by omega, hx0, hr0, hb0⟩
  case round =>
    obtain ⟨k, rfl, hkn, hxk, hr, hb⟩ := hrel
    by_cases hlt : (k : Int) < n
    · have hcl := Sha.chain_len HX.out k
      have hc := tagged_any (.slice (some ⟨w.heap.size, 0, none⟩) 32 32) Sha.stepT (Sha.chain x k) wr (dig_bs hxk hcl) (hk.past hb) (by rw [hcl]; omega) (by decide)
      have HC := Lib.hid (show _ from hc)
      have HCL := Lib.hid (show (u8s (Sha.chain x k)).length = 32 by rw [u8s_length, hcl])
      have HNL : Hid ((u8s (Sha.chain x (k + 1))).length = 32) := Lib.hid (by rw [u8s_length, Sha.chain_len HX.out])
      clear hc hcl
      go_wp2_with (refine wp_sliceA0 23 5 32 (.tmp 2) rfl rfl Tryd.underlying23 size_u8 w.heap.size rfl ?_)
      refine HC.out.mono ?_
      rintro e w2 ⟨rfl, hb2⟩
      have hx2 := hxk.past hb2 hxk.lt
      have hr2 := hr.past hb2 hr.lt
      have hb02 := hb.trans (hb2.mono hb.size)
      have hs2 : w.heap.size + 1 < w2.heap.size := hr2.lt
      obtain ⟨D, hD⟩ : ∃ D, D = Sha.chain x (k + 1) := ⟨_, rfl⟩
      rw [← hD] at HNL
      have hcd : Sha.tag Sha.stepT (Sha.chain x k) = D := by rw [hD]; rfl
      rw [hcd]
      have HD := Lib.hid hD
      clear hD hcd HC hxk hr hb hb2
      go_wp2_with (refine wp_storeA 23 (.tmp 2) (.tmp 9) rfl rfl w.heap.size rfl 23 (u8s (Sha.chain x k)) _ rfl hx2 (by rw [info_dig, HNL.out]) (by rw [HCL.out, HNL.out]) (u8s_one _) rfl ?_; intro w3 hx3 hk3)
      have hr3 := hr2.keep hk3 (by omega)
      have hb03 := hb02.trans (hk3.below (n := w.heap.size) (fun q hq => by omega) hb02.size)
      go_roundw
      case rel => exact ⟨k + 1, by go_num, by omega, by rw [← HD.out]; exact hx3, hr3, hb03⟩
      case measure => simp [intOf]; omega
    · obtain ⟨D, hD⟩ : ∃ D, D = Sha.chain x n.toNat := ⟨_, rfl⟩
      have hkk : k = n.toNat := by omega
      rw [hkk, ← hD] at hxk
      have HDL : Hid ((u8s D).length = 32) := Lib.hid (by rw [u8s_length, hD, Sha.chain_len HX.out])
      have HD := Lib.hid hD
      have hs1 : w.heap.size + 1 < wr.heap.size := hr.lt
      clear hD hkk
      go_upto_region 5 with (fail)
      refine wp_region_lit ?_
      refine wp_loadA 23 (.tmp 2) rfl rfl w.heap.size rfl 23 _ 32 5 hxk Tryd.underlying23 (by rw [info_dig, HDL.out]) ?_
      refine wp_storeA 23 (.tmp 4) (.tmp 11) rfl rfl (w.heap.size + 1) rfl 23 (u8s z32) _ rfl hr (by rw [info_dig, HDL.out]) (by rw [HDL.out]; rfl) (u8s_one _) rfl ?_
      intro w2 hr2 hk2
      have hbl2 := hb.trans (hk2.below (n := w.heap.size) (fun q hq => by omega) hb.size)
      clear hxk hr hb hk2
      go_wp2
      refine ret_arr Tryd.results24 rfl (w.heap.size + 1) 23 _ 32 5 rfl hr2 Tryd.underlying23 (by rw [info_dig, HDL.out]) ?_
      rw [HD.out]
      exact ⟨rfl, hbl2⟩
end Go.Proofs.YtnfhdjmehhapiaaDoor
