/-
  Walks of package wots: halves, chain lengths, valid keys.
-/
import Derived.Test.YtnfhdjmehhapiaaDoorWtM
namespace Go.Proofs.YtnfhdjmehhapiaaDoor
open Go.RowKit
set_option linter.unusedVariables false
set_option linter.unusedSimpArgs false

def z18 : List Nat := List.replicate 18 0
theorem zero_18 (w : World) : (zeroValue 48).run Tryd.prog w = .ok (.agg (ins z18).toArray) w := by kernel_rfl
theorem info_18 : (Tryd.prog.info? 48).map (·.size) = some 18 := by kernel_rfl
theorem size_int : (Tryd.prog.info? 3).map (·.size) = some 1 := by kernel_rfl
theorem ins_set (l : List Nat) (k n : Nat) : ins (l.set k n) = (ins l).set k (.int .i64 (n : Int)) := by unfold ins; rw [List.map_set]; rfl

theorem and_15' : ∀ y : Fin 256, bits BinOp.and IntKind.i64 (y.val : Int) 15 = ((y.val % 16 : Nat) : Int) := by decide +kernel
theorem and_15 (y : Nat) (h : y < 256) : bits BinOp.and IntKind.i64 (y : Int) 15 = (y : Int) % 16 := and_15' ⟨y, h⟩

theorem split_any (v : Nat) (w : World) (hv : v < 256) :
    Calls Tryd.prog 41 #[.int .i64 v] w fun e w' => e = .returned (.tuple #[.int .i64 ((v : Int) / 16), .int .i64 ((v : Int) % 16)]) ∧ w = w' := by
  have h15 := and_15 v hv
  go_enter Tryd.func41, Tryd.ntmps41
  go_wp2
  go_ret2
  exact ⟨rfl, rfl⟩

set_option maxRecDepth 100000 in
set_option maxHeartbeats 1000000 in
theorem chainLengths_any (d : List UInt8) (w : World) (hd : d.length = 32) :
    Calls Tryd.prog 28 #[.agg (u8s d).toArray] w fun e w' => e = .returned (.agg (ins (Wt.ns d)).toArray) ∧ Below w.heap.size w w' := by
  have hz := zero_18
  have HDL := Lib.hid hd
  clear hd
  obtain ⟨W0, hW0⟩ : ∃ W0, W0 = ((w.alloc (.cells (u8s d).toArray 23)).alloc (.cells (ins z18).toArray 48)).alloc (.cells (ins z18).toArray 48) := ⟨_, rfl⟩
  have h1 : Below w.heap.size w (w.alloc (.cells (u8s d).toArray 23)) := (Below.refl _ _).alloc (Nat.le_refl _) _
  have hb0 : Below w.heap.size w W0 := by rw [hW0]; exact (h1.alloc (by simp) _).alloc (by simp; omega) _
  have hd0 : Blk W0 w.heap.size 23 (u8s d) := by
    rw [hW0]
    exact ((Blk.new w _ _).past ((Below.refl _ _).alloc (Nat.le_refl _) _) (by simp)).past ((Below.refl _ _).alloc (Nat.le_refl _) _) (by simp; omega)
  have hr0 : Blk W0 (w.heap.size + 1) 48 (ins z18) := by
    have h := Blk.new (w.alloc (.cells (u8s d).toArray 23)) 48 (ins z18)
    rw [World.size_alloc] at h
    rw [hW0]
    exact h.past ((Below.refl _ _).alloc (Nat.le_refl _) _) (by simp)
  have hn0 : Blk W0 (w.heap.size + 1 + 1) 48 (ins (Wt.part d 0)) := by
    have h := Blk.new ((w.alloc (.cells (u8s d).toArray 23)).alloc (.cells (ins z18).toArray 48)) 48 (ins z18)
    rw [World.size_alloc, World.size_alloc] at h
    rw [hW0]
    exact h
  have HW0 := Lib.hid hW0
  clear hW0 h1
  go_enter Tryd.func28, Tryd.ntmps28
  go_wp2_with fail
  rw [← HW0.out]
  clear hz
  go_loopw [11, 4] (fun i c wr => ∃ k : Nat, i = .int .i64 k ∧ k ≤ 8 ∧ c = .int .i64 (Wt.cs d k) ∧ Blk wr w.heap.size 23 (u8s d) ∧ Blk wr (w.heap.size + 1) 48 (ins z18) ∧ Blk wr (w.heap.size + 1 + 1) 48 (ins (Wt.part d k)) ∧ Below w.heap.size w wr) (fun i _ _ => 8 - (intOf i).toNat)
  case atStart => exact ⟨0, rfl, by omega, rfl, hd0, hr0, hn0, hb0⟩
  case round =>
    clear hd0 hr0 hn0 hb0
    obtain ⟨k, rfl, hk, rfl, hdr, hrr, hnr, hb⟩ := hrel
    by_cases hlt : k < 8
    · have hcb : wr.cell? ⟨w.heap.size, k, none⟩ = some (.int .u8 ((Wt.byt d k : Nat) : Int)) := by
        refine hdr.cell ?_
        have e : d[k]? = some (d[k]'(by have := HDL.out; omega)) := List.getElem?_eq_getElem _
        unfold Wt.byt
        rw [List.getD_eq_getElem?_getD, e]
        simp [u8s, e, Go.Proofs.YtnfhdjmehhapiaaDoor.u8]
      have hbl := Wt.byt_lt d k
      obtain ⟨b, hbe⟩ : ∃ b, b = Wt.byt d k := ⟨_, rfl⟩
      rw [← hbe] at hcb hbl
      have hcs := Wt.cs_le d k
      have hcs2 : Wt.cs d (k + 1) = Wt.cs d k + (15 - b / 16) + (15 - b % 16) := by rw [hbe]; rfl
      have HP := Lib.hid (show ((Wt.part d k).set (2 * k) (b / 16)).set (2 * k + 1) (b % 16) = Wt.part d (k + 1) by rw [hbe]; exact Wt.part_succ d k hlt)
      obtain ⟨c, hc⟩ : ∃ c, c = Wt.cs d k := ⟨_, rfl⟩
      rw [← hc] at hcs hcs2 ⊢
      have HCS := Lib.hid hcs2
      clear hbe hcs2 hc
      have HLN : Hid ((ins (Wt.part d k)).length = 18) := Lib.hid (by rw [ins_length, Wt.part_len])
      go_wp2_with fail
      refine (split_any b wr hbl).mono ?_
      rintro e w' ⟨rfl, rfl⟩
      have hs3 : w.heap.size + 1 + 1 < wr.heap.size := hnr.lt
      go_wp2_with (refine wp_run rfl (exec_ixA 48 3 18 1 Tryd.underlying48 size_int wr rfl (w.heap.size + 1 + 1) rfl _ _ (2 * k) rfl (by push_cast; rfl) (by omega) (q := 2 * k) (by omega)) ?_; refine wp_store1 3 .i64 (.tmp 29) (.tmp 27) rfl rfl (w.heap.size + 1 + 1) (2 * k) rfl 48 (ins (Wt.part d k)) _ rfl hnr (by rw [HLN.out]; omega) size_int rfl ?_; intro w4 hn4 hk4; refine wp_run rfl (exec_ixA 48 3 18 1 Tryd.underlying48 size_int w4 rfl (w.heap.size + 1 + 1) rfl _ _ (2 * k + 1) rfl (by push_cast; rfl) (by omega) (q := 2 * k + 1) (by omega)) ?_; refine wp_store1 3 .i64 (.tmp 30) (.tmp 28) rfl rfl (w.heap.size + 1 + 1) (2 * k + 1) rfl 48 _ _ rfl hn4 (by rw [List.length_set, HLN.out]; omega) size_int rfl ?_; intro w5 hn5 hk5)
      have hkk := hk4.trans hk5
      have hd5 := hdr.keep hkk (by omega)
      have hr5 := hrr.keep hkk (by omega)
      have hb5 : Below w.heap.size w w5 := hb.trans (hkk.below (n := w.heap.size) (fun q hq => by omega) hb.size)
      have hn5' : Blk w5 (w.heap.size + 1 + 1) 48 (ins (Wt.part d (k + 1))) := by
        rw [← HP.out, ins_set, ins_set]
        push_cast
        exact hn5
      clear hn4 hk4 hn5 hk5 hkk hdr hrr hnr hb hcb
      go_roundw
      case rel => exact ⟨k + 1, by go_num, by omega, by rw [HCS.out]; congr 1; omega, hd5, hr5, hn5', hb5⟩
      case measure => simp [intOf]; omega
    · have hk8 : k = 8 := by omega
      subst hk8
      have hcs := Wt.cs_le d 8
      have HN := Lib.hid (Wt.part_done d)
      obtain ⟨c, hc⟩ : ∃ c, c = Wt.cs d 8 := ⟨_, rfl⟩
      rw [← hc] at hcs HN ⊢
      obtain ⟨N, hN⟩ : ∃ N, N = Wt.ns d := ⟨_, rfl⟩
      have HNL : Hid ((ins N).length = 18) := Lib.hid (by rw [ins_length, hN, Wt.ns_len])
      have HNN := Lib.hid hN
      rw [← hN] at HN
      have HLN : Hid ((ins (Wt.part d 8)).length = 18) := Lib.hid (by rw [ins_length, Wt.part_len])
      have hs3 : w.heap.size + 1 + 1 < wr.heap.size := hnr.lt
      clear hc hN hlt hk
      go_wp2_with fail
      refine (split_any c wr (by omega)).mono ?_
      rintro e w' ⟨rfl, rfl⟩
      go_wp2_with (first
        | (refine wp_run rfl (exec_ixA 48 3 18 1 Tryd.underlying48 size_int wr rfl (w.heap.size + 1 + 1) rfl _ _ 16 rfl rfl (by omega) (q := 16) (by omega)) ?_; refine wp_store1 3 .i64 (.tmp 44) (.tmp 42) rfl rfl (w.heap.size + 1 + 1) 16 rfl 48 _ _ rfl hnr (by rw [HLN.out]; omega) size_int rfl ?_; intro w4 hn4 hk4; refine wp_run rfl (exec_ixA 48 3 18 1 Tryd.underlying48 size_int w4 rfl (w.heap.size + 1 + 1) rfl _ _ 17 rfl rfl (by omega) (q := 17) (by omega)) ?_; refine wp_store1 3 .i64 (.tmp 45) (.tmp 43) rfl rfl (w.heap.size + 1 + 1) 17 rfl 48 _ _ rfl hn4 (by rw [List.length_set, HLN.out]; omega) size_int rfl ?_; intro w5 hn5 hk5
           have hkk := hk4.trans hk5
           have hr5 := hrr.keep hkk (by omega)
           have hb5 : Below w.heap.size w w5 := hb.trans (hkk.below (n := w.heap.size) (fun q hq => by omega) hb.size)
           have hn5' : Blk w5 (w.heap.size + 1 + 1) 48 (ins N) := by
             rw [← HN.out, ins_set, ins_set]
             push_cast
             exact hn5
           clear hn4 hk4 hn5 hk5 hkk hdr hrr hnr hb)
        | (refine wp_run rfl (exec_loadA 48 rfl (w.heap.size + 1 + 1) rfl 48 _ 18 3 hn5' Tryd.underlying48 (by rw [info_18, HNL.out])) ?_; refine wp_storeA 48 (.tmp 2) (.tmp 46) rfl rfl (w.heap.size + 1) rfl 48 (ins z18) _ rfl hr5 (by rw [info_18, HNL.out]) (by rw [HNL.out]; rfl) (ins_one _) rfl ?_; intro w6 hr6 hk6))
      have hb6 : Below w.heap.size w w6 := hb5.trans (hk6.below (n := w.heap.size) (fun q hq => by omega) hb5.size)
      refine ret_arr Tryd.results28 rfl (w.heap.size + 1) 48 _ 18 3 rfl hr6 Tryd.underlying48 (by rw [info_18, HNL.out]) ?_
      rw [HNN.out]
      exact ⟨rfl, hb6⟩
end Go.Proofs.YtnfhdjmehhapiaaDoor
