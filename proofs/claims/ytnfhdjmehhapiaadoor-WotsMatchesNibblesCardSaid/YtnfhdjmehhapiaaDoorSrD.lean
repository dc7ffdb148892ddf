/-
  Walks of the reference's package for layer 3: blocks.
-/
import Derived.Test.YtnfhdjmehhapiaaDoorSrC
import Derived.Test.YtnfhdjmehhapiaaDoorStl
namespace Go.Proofs.YtnfhdjmehhapiaaDoor
open Go.RowKit
set_option linter.unusedVariables false
set_option linter.unusedSimpArgs false

theorem cut_part {w : World} {B : Nat} {v : Value} {b : List UInt8} {i k : Nat} (h : Row w B 1 k v (((u8s b).drop (i * 1)).take (k * 1))) (hk : i + k ≤ b.length) : Bs w B v ((b.drop i).take k) := by
  have e : ((b.drop i).take k).length = k := by simp; omega
  unfold Bs
  rw [e]
  have e2 : ((u8s b).drop (i * 1)).take (k * 1) = u8s ((b.drop i).take k) := by
    rw [Nat.mul_one, Nat.mul_one]
    simp [u8s, List.map_take, List.map_drop]
  rwa [e2] at h

set_option maxRecDepth 100000 in
set_option maxHeartbeats 2000000 in
theorem rblocks_any (s : Sha.St) (v : Value) (l : List UInt8) (m : Nat) (w : World) (hv : Bs w w.heap.size v l) (hl : l.length = 64 * m) (hm : m ≤ 100000) (hs : s.ok) (hk : KIs 2 w) :
    Calls Tryd.prog 62 #[.agg (w32s s.list).toArray, v] w fun e w' => e = .returned (.agg (w32s (Sha.blks m s l).list).toArray) ∧ Below w.heap.size w w' := by
  obtain ⟨A, cap, rfl⟩ := hv.form
  obtain ⟨bl, hbl⟩ : ∃ bl : Nat → Sha.St, ∀ k, bl k = Sha.blks k s l := ⟨fun k => Sha.blks k s l, fun _ => rfl⟩
  have hbl0 : bl 0 = s := hbl 0
  have HBLS := Lib.hid (show ∀ k, Sha.cmp (bl k) ((l.drop (64 * k)).take 64) = bl (k + 1) from fun k => by rw [hbl k, hbl (k + 1), Sha.blks_snoc])
  have HBLO := Lib.hid (show ∀ k, (bl k).ok from fun k => by rw [hbl k]; exact Sha.blks_ok k l hs)
  rw [← hbl m]
  clear hbl hs
  have hz := zero_8
  obtain ⟨W0, hW0⟩ : ∃ W0, W0 = (w.alloc (.cells (w32s s.list).toArray 63)).alloc (.cells (w32s z8).toArray 63) := ⟨_, rfl⟩
  have hb0 : Below w.heap.size w W0 := by rw [hW0]; exact ((Below.refl _ _).alloc (Nat.le_refl _) _).alloc (by simp) _
  have hx0 : Blk W0 w.heap.size 63 (w32s (bl 0).list) := by
    rw [hW0, hbl0]
    exact (Blk.new w _ _).past ((Below.refl _ _).alloc (Nat.le_refl _) _) (by simp)
  have hr0 : Blk W0 (w.heap.size + 1) 63 (w32s z8) := by
    have h := Blk.new (w.alloc (.cells (w32s s.list).toArray 63)) 63 (w32s z8)
    rw [World.size_alloc] at h
    rw [hW0]; exact h
  have HW0 := Lib.hid hW0
  have HL := Lib.hid hl
  have HV := Lib.hid hv
  obtain ⟨n, hn⟩ : ∃ n, n = l.length := ⟨_, rfl⟩
  have HNM : Hid (n = 64 * m) := Lib.hid (by omega)
  have hnb : n ≤ 6400000 := by omega
  have hv' : ∀ W, Below w.heap.size w W → Bs W W.heap.size (.slice A n cap) l := fun W hb => by rw [hn]; exact HV.out.past hb
  have HV2 := Lib.hid hv'
  have hcap : n ≤ cap := by rw [hn]; exact Row.cap (show Row w w.heap.size 1 l.length (.slice A l.length cap) (u8s l) from hv)
  rw [← hn]
  clear hW0 hl hv hn hv' HV
  go_enter Tryd.func62, Tryd.ntmps62
  go_wp2_with fail
  rw [← HW0.out]
  clear hz
  go_loopw [5] (fun i wr => ∃ (k j : Nat), i = .int .i64 j ∧ Hid (j = 64 * k) ∧ j ≤ n ∧ k ≤ m ∧ Blk wr w.heap.size 63 (w32s (bl k).list) ∧ Blk wr (w.heap.size + 1) 63 (w32s z8) ∧ Below w.heap.size w wr) (fun i _ => n - (intOf i).toNat)
  case atStart => exact ⟨0, 0, rfl, Lib.hid rfl, by omega, by omega, hx0, hr0, hb0⟩
  case round =>
    clear hx0 hr0 hb0
    obtain ⟨k, j, rfl, HJ, hj, hkm, hx, hr, hb⟩ := hrel
    by_cases hlt : (j : Int) + 64 ≤ (n : Int)
    · have hvr := HV2.out wr hb
      have hrow : Row wr wr.heap.size 1 n (.slice A n cap) (u8s l) := by
        have e : l.length = n := by have := HL.out; have := HNM.out; omega
        have h := hvr
        unfold Bs at h
        rwa [e] at h
      have hso : (bl k).ok := HBLO.out k
      have hnx : Sha.cmp (bl k) ((l.drop j).take 64) = bl (k + 1) := by rw [HJ.out]; exact HBLS.out k
      go_wp2_with fail
      refine wp_region_still_tail 6 (by kernel_rfl) (by kernel_rfl) ?_
      simp only [List.take_succ_cons, List.take_zero, List.drop_succ_cons, List.drop_zero]
      refine still_run rfl (exec_loadB 63 rfl w.heap.size rfl 63 _ 8 62 hx Tryd.underlying63 (by rw [info_8, st_len])) ?_
      still_step
      still_step
      still_step
      still_step
      refine still_cut (B := wr.heap.size) 29 5 Tryd.underlying29 size_u8 (.tmp 14) (some (.tmp 15)) (some (.tmp 17)) rfl rfl rfl (hrow.carry (Below.refl wr.heap.size wr).drew (Nat.le_refl _)) j 64 (.inr ⟨_, _, rfl, rfl⟩) (.inr ⟨_, _, rfl, by rw [IntKind.wrap_i64]; omega⟩) (by omega) ?_
      intro A1 c1 hrow1
      refine wpStill_nil ?_
      change wpList _ _ _ _ _ wr.drew
      have hvb := cut_part hrow1 (by have := HL.out; have := HNM.out; omega)
      have hbd : Below wr.heap.size wr wr.drew := (Below.refl _ _).drew
      have hxd := hx.past hbd hx.lt
      have hrd := hr.past hbd hr.lt
      have hbb : Below w.heap.size w wr.drew := hb.drew
      have hkd := hk.past hbb
      have hvb' : Bs wr.drew wr.drew.heap.size (.slice A1 64 c1) ((l.drop j).take 64) := hvb
      have hl64 : ((l.drop j).take 64).length = 64 := by have := HL.out; have := HNM.out; simp; omega
      obtain ⟨w5, hw5⟩ : ∃ w5, w5 = wr.drew := ⟨_, rfl⟩
      rw [← hw5] at hxd hrd hbb hkd hvb' ⊢
      clear hrow1 hvb hbd hx hr hb hvr hrow hw5
      have hc := rcompress_any (bl k) _ _ w5 hvb' hl64 hso hkd
      rw [hnx] at hc
      have HC := Lib.hid hc
      have HK1 : Hid (j + 64 = 64 * (k + 1)) := Lib.hid (by have := HJ.out; omega)
      clear hc hvb' hl64 hkd hnx hso
      go_wp2_with fail
      refine HC.out.mono ?_
      rintro e w6 ⟨rfl, b6⟩
      have hx6 := hxd.past b6 hxd.lt
      have hr6 := hrd.past b6 hrd.lt
      have hb6 := hbb.trans (b6.mono hbb.size)
      have hs6 : w.heap.size + 1 < w6.heap.size := hr6.lt
      clear hxd hrd hbb b6
      go_wp2_with (refine wp_storeA 63 (.tmp 2) (.tmp 19) rfl rfl w.heap.size rfl 63 (w32s (bl k).list) (w32s (bl (k + 1)).list) rfl hx6 (by rw [info_8, st_len]) rfl (w32s_one _) rfl ?_; intro w7 hx7 hk7)
      have hr7 := hr6.keep hk7 (by omega)
      have hb7 : Below w.heap.size w w7 := hb6.trans (hk7.below (n := w.heap.size) (fun q hq => by omega) hb6.size)
      go_roundw
      case rel => exact ⟨k + 1, j + 64, by go_num, HK1, by omega, by have := HK1.out; have := HNM.out; omega, hx7, hr7, hb7⟩
      case measure => simp [intOf]; omega
    · have hkk : k = m := by have := HJ.out; have := HNM.out; omega
      have HP := Lib.hid (show bl m = bl k by rw [hkk])
      have hsr : w.heap.size + 1 < wr.heap.size := hr.lt
      clear hkk
      go_upto_region 5 with (fail)
      refine wp_region_lit ?_
      refine wp_loadA 63 (.tmp 2) rfl rfl w.heap.size rfl 63 _ 8 62 hx Tryd.underlying63 (by rw [info_8, st_len]) ?_
      refine wp_storeA 63 (.tmp 4) (.tmp 20) rfl rfl (w.heap.size + 1) rfl 63 (w32s z8) (w32s (bl k).list) rfl hr (by rw [info_8, st_len]) rfl (w32s_one _) rfl ?_
      intro w9 hr9 hk9
      have hbl9 := hb.trans (hk9.below (n := w.heap.size) (fun q hq => by omega) hb.size)
      clear hx hr hb hk9
      go_wp2
      refine ret_arr Tryd.results62 rfl (w.heap.size + 1) 63 _ 8 62 rfl hr9 Tryd.underlying63 (by rw [info_8, st_len]) ?_
      rw [HP.out]
      exact ⟨rfl, hbl9⟩
end Go.Proofs.YtnfhdjmehhapiaaDoor
