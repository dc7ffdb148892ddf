/-
  Walks of package wots: halves, chain lengths, valid keys.
  Walks of package wots: Nibbles, valid keys, starts of chains, the key out of the ends.
  Walks of package wots: the digests of all chains, by a function value.
-/
import Derived.Test.YtccepoeenkpifaaDoorWts
import Derived.Test.YtccepoeenkpifaaDoorVarU
namespace Go.Proofs.YtccepoeenkpifaaDoor
section
open Go.RowKit
set_option linter.unusedVariables false
set_option linter.unusedSimpArgs false

def z18 : List Nat := List.replicate 18 0
theorem zero_18 (w : World) : (zeroValue 63).run Tryd.prog w = .ok (.agg (ins z18).toArray) w := by kernel_rfl
theorem info_18 : (Tryd.prog.info? 63).map (·.size) = some 18 := by kernel_rfl
theorem size_int : (Tryd.prog.info? 3).map (·.size) = some 1 := by kernel_rfl
theorem ins_set (l : List Nat) (k n : Nat) : ins (l.set k n) = (ins l).set k (.int .i64 (n : Int)) := by unfold ins; rw [List.map_set]; rfl

theorem and_15' : ∀ y : Fin 256, bits BinOp.and IntKind.i64 (y.val : Int) 15 = ((y.val % 16 : Nat) : Int) := by decide +kernel
theorem and_15 (y : Nat) (h : y < 256) : bits BinOp.and IntKind.i64 (y : Int) 15 = (y : Int) % 16 := and_15' ⟨y, h⟩

theorem split_any (v : Nat) (w : World) (hv : v < 256) :
    Calls Tryd.prog 64 #[.int .i64 v] w fun e w' => e = .returned (.tuple #[.int .i64 ((v : Int) / 16), .int .i64 ((v : Int) % 16)]) ∧ w = w' := by
  have h15 := and_15 v hv
  go_enter Tryd.func64, Tryd.ntmps64
  go_wp2
  go_ret2
  exact ⟨rfl, rfl⟩

set_option maxRecDepth 100000 in
set_option maxHeartbeats 1000000 in
theorem chainLengths_any (d : List UInt8) (w : World) (hd : d.length = 32) :
    Calls Tryd.prog 43 #[.agg (u8s d).toArray] w fun e w' => e = .returned (.agg (ins (Wt.ns d)).toArray) ∧ Below w.heap.size w w' := by
  have hz := zero_18
  have HDL := Lib.hid hd
  clear hd
  obtain ⟨W0, hW0⟩ : ∃ W0, W0 = ((w.alloc (.cells (u8s d).toArray 25)).alloc (.cells (ins z18).toArray 63)).alloc (.cells (ins z18).toArray 63) := ⟨_, rfl⟩
  have h1 : Below w.heap.size w (w.alloc (.cells (u8s d).toArray 25)) := (Below.refl _ _).alloc (Nat.le_refl _) _
  have hb0 : Below w.heap.size w W0 := by rw [hW0]; exact (h1.alloc (by simp) _).alloc (by simp; omega) _
  have hd0 : Blk W0 w.heap.size 25 (u8s d) := by
    rw [hW0]
    exact ((Blk.new w _ _).past ((Below.refl _ _).alloc (Nat.le_refl _) _) (by simp)).past ((Below.refl _ _).alloc (Nat.le_refl _) _) (by simp; omega)
  have hr0 : Blk W0 (w.heap.size + 1) 63 (ins z18) := by
    have h := Blk.new (w.alloc (.cells (u8s d).toArray 25)) 63 (ins z18)
    rw [World.size_alloc] at h
    rw [hW0]
    exact h.past ((Below.refl _ _).alloc (Nat.le_refl _) _) (by simp)
  have hn0 : Blk W0 (w.heap.size + 1 + 1) 63 (ins (Wt.part d 0)) := by
    have h := Blk.new ((w.alloc (.cells (u8s d).toArray 25)).alloc (.cells (ins z18).toArray 63)) 63 (ins z18)
    rw [World.size_alloc, World.size_alloc] at h
    rw [hW0]
    exact h
  have HW0 := Lib.hid hW0
  clear hW0 h1
  go_enter Tryd.func43, Tryd.ntmps43
  go_wp2_with fail
  rw [← HW0.out]
  clear hz
  go_loopw [11, 4] (fun i c wr => ∃ k : Nat, i = .int .i64 k ∧ k ≤ 8 ∧ c = .int .i64 (Wt.cs d k) ∧ Blk wr w.heap.size 25 (u8s d) ∧ Blk wr (w.heap.size + 1) 63 (ins z18) ∧ Blk wr (w.heap.size + 1 + 1) 63 (ins (Wt.part d k)) ∧ Below w.heap.size w wr) (fun i _ _ => 8 - (intOf i).toNat)
  case atStart => exact ⟨0, rfl, by omega, rfl, hd0, hr0, hn0, hb0⟩
  case round =>
    clear hd0 hr0 hn0 hb0
    obtain ⟨k, rfl, hk, rfl, hdr, hrr, hnr, hb⟩ := hrel
    by_cases hlt : k < 8
    · have hcb : wr.cell? ⟨w.heap.size, k, none⟩ = some (.int .u8 ((Wt.byt d k : Nat) : Int)) := by
        refine hdr.cell ?_
        have e : d[k]? = some (d[k]'(by have := HDL.out; omega)) := List.getElem?_eq_getElem _
        unfold Wt.byt
        rw [List.getD_eq_getElem?_getD, e]
        simp [u8s, e, Go.Proofs.YtccepoeenkpifaaDoor.u8]
      have hbl := Wt.byt_lt d k
      obtain ⟨b, hbe⟩ : ∃ b, b = Wt.byt d k := ⟨_, rfl⟩
      rw [← hbe] at hcb hbl
      have hcs := Wt.cs_le d k
      have hcs2 : Wt.cs d (k + 1) = Wt.cs d k + (15 - b / 16) + (15 - b % 16) := by rw [hbe]; rfl
      have HP := Lib.hid (show ((Wt.part d k).set (2 * k) (b / 16)).set (2 * k + 1) (b % 16) = Wt.part d (k + 1) by rw [hbe]; exact Wt.part_succ d k hlt)
      obtain ⟨c, hc⟩ : ∃ c, c = Wt.cs d k := ⟨_, rfl⟩
      rw [← hc] at hcs hcs2 ⊢
      have HCS := Lib.hid hcs2
      clear hbe hcs2 hc
      have HLN : Hid ((ins (Wt.part d k)).length = 18) := Lib.hid (by rw [ins_length, Wt.part_len])
      go_wp2_with fail
      refine (split_any b wr hbl).mono ?_
      rintro e w' ⟨rfl, rfl⟩
      have hs3 : w.heap.size + 1 + 1 < wr.heap.size := hnr.lt
      go_wp2_with (refine wp_run rfl (exec_ixA 63 3 18 1 Tryd.underlying63 size_int wr rfl (w.heap.size + 1 + 1) rfl _ _ (2 * k) rfl (by push_cast; rfl) (by omega) (q := 2 * k) (by omega)) ?_; refine wp_store1 3 .i64 (.tmp 29) (.tmp 27) rfl rfl (w.heap.size + 1 + 1) (2 * k) rfl 63 (ins (Wt.part d k)) _ rfl hnr (by rw [HLN.out]; omega) size_int rfl ?_; intro w4 hn4 hk4; refine wp_run rfl (exec_ixA 63 3 18 1 Tryd.underlying63 size_int w4 rfl (w.heap.size + 1 + 1) rfl _ _ (2 * k + 1) rfl (by push_cast; rfl) (by omega) (q := 2 * k + 1) (by omega)) ?_; refine wp_store1 3 .i64 (.tmp 30) (.tmp 28) rfl rfl (w.heap.size + 1 + 1) (2 * k + 1) rfl 63 _ _ rfl hn4 (by rw [List.length_set, HLN.out]; omega) size_int rfl ?_; intro w5 hn5 hk5)
      have hkk := hk4.trans hk5
      have hd5 := hdr.keep hkk (by omega)
      have hr5 := hrr.keep hkk (by omega)
      have hb5 : Below w.heap.size w w5 := hb.trans (hkk.below (n := w.heap.size) (fun q hq => by omega) hb.size)
      have hn5' : Blk w5 (w.heap.size + 1 + 1) 63 (ins (Wt.part d (k + 1))) := by
        rw [← HP.out, ins_set, ins_set]
        push_cast
        exact hn5
      clear hn4 hk4 hn5 hk5 hkk hdr hrr hnr hb hcb
      go_roundw
      case rel => exact ⟨k + 1, by go_num, by omega, by rw [HCS.out]; congr 1; omega, hd5, hr5, hn5', hb5⟩
      case measure => simp [intOf]; omega
    · have hk8 : k = 8 := by omega
      subst hk8
      have hcs := Wt.cs_le d 8
      have HN := Lib.hid (Wt.part_done d)
      obtain ⟨c, hc⟩ : ∃ c, c = Wt.cs d 8 := ⟨_, rfl⟩
      rw [← hc] at hcs HN ⊢
      obtain ⟨N, hN⟩ : ∃ N, N = Wt.ns d := ⟨_, rfl⟩
      have HNL : Hid ((ins N).length = 18) := Lib.hid (by rw [ins_length, hN, Wt.ns_len])
      have HNN := Lib.hid hN
      rw [← hN] at HN
      have HLN : Hid ((ins (Wt.part d 8)).length = 18) := Lib.hid (by rw [ins_length, Wt.part_len])
      have hs3 : w.heap.size + 1 + 1 < wr.heap.size := hnr.lt
      clear hc hN hlt hk
      go_wp2_with fail
      refine (split_any c wr (by omega)).mono ?_
      rintro e w' ⟨rfl, rfl⟩
      go_wp2_with (first
        | (refine wp_run rfl (exec_ixA 63 3 18 1 Tryd.underlying63 size_int wr rfl (w.heap.size + 1 + 1) rfl _ _ 16 rfl rfl (by omega) (q := 16) (by omega)) ?_; refine wp_store1 3 .i64 (.tmp 44) (.tmp 42) rfl rfl (w.heap.size + 1 + 1) 16 rfl 63 _ _ rfl hnr (by rw [HLN.out]; omega) size_int rfl ?_; intro w4 hn4 hk4; refine wp_run rfl (exec_ixA 63 3 18 1 Tryd.underlying63 size_int w4 rfl (w.heap.size + 1 + 1) rfl _ _ 17 rfl rfl (by omega) (q := 17) (by omega)) ?_; refine wp_store1 3 .i64 (.tmp 45) (.tmp 43) rfl rfl (w.heap.size + 1 + 1) 17 rfl 63 _ _ rfl hn4 (by rw [List.length_set, HLN.out]; omega) size_int rfl ?_; intro w5 hn5 hk5
           have hkk := hk4.trans hk5
           have hr5 := hrr.keep hkk (by omega)
           have hb5 : Below w.heap.size w w5 := hb.trans (hkk.below (n := w.heap.size) (fun q hq => by omega) hb.size)
           have hn5' : Blk w5 (w.heap.size + 1 + 1) 63 (ins N) := by
             rw [← HN.out, ins_set, ins_set]
             push_cast
             exact hn5
           clear hn4 hk4 hn5 hk5 hkk hdr hrr hnr hb)
        | (refine wp_run rfl (exec_loadA 63 rfl (w.heap.size + 1 + 1) rfl 63 _ 18 3 hn5' Tryd.underlying63 (by rw [info_18, HNL.out])) ?_; refine wp_storeA 63 (.tmp 2) (.tmp 46) rfl rfl (w.heap.size + 1) rfl 63 (ins z18) _ rfl hr5 (by rw [info_18, HNL.out]) (by rw [HNL.out]; rfl) (ins_one _) rfl ?_; intro w6 hr6 hk6))
      have hb6 : Below w.heap.size w w6 := hb5.trans (hk6.below (n := w.heap.size) (fun q hq => by omega) hb5.size)
      refine ret_arr Tryd.results43 rfl (w.heap.size + 1) 63 _ 18 3 rfl hr6 Tryd.underlying63 (by rw [info_18, HNL.out]) ?_
      rw [HNN.out]
      exact ⟨rfl, hb6⟩
end

section
open Go.RowKit
set_option linter.unusedVariables false
set_option linter.unusedSimpArgs false

def z576 : List UInt8 := List.replicate 576 0
theorem zero_ends (w : World) : (zeroValue 65).run Tryd.prog w = .ok (.agg (u8s z576).toArray) w := by kernel_rfl
theorem info_ends : (Tryd.prog.info? 65).map (·.size) = some 576 := by kernel_rfl

theorem isKey_yes (v : Value) (s : List UInt8) (ix : Int) (w : World) (hv : Bs w w.heap.size v s) (h1 : 1 ≤ s.length) (h2 : s.length ≤ 64) (h3 : 0 ≤ ix) (h4 : ix ≤ 1023) :
    Calls Tryd.prog 49 #[v, .int .i64 ix] w fun e w' => e = .returned (.bool true) ∧ w = w' := by
  obtain ⟨A, cap, rfl⟩ := hv.form
  go_enter Tryd.func49, Tryd.ntmps49
  go_wp2
  go_ret
  exact ⟨rfl, rfl⟩

theorem isKey_no (v : Value) (s : List UInt8) (ix : Int) (w : World) (hv : Bs w w.heap.size v s) (h : ¬ (1 ≤ s.length ∧ s.length ≤ 64 ∧ 0 ≤ ix ∧ ix ≤ 1023)) :
    Calls Tryd.prog 49 #[v, .int .i64 ix] w fun e w' => e = .returned (.bool false) ∧ w = w' := by
  obtain ⟨A, cap, rfl⟩ := hv.form
  by_cases h1 : 1 ≤ s.length
  · by_cases h2 : s.length ≤ 64
    · by_cases h3 : 0 ≤ ix
      · have h4 : ¬ ix ≤ 1023 := fun h4 => h ⟨h1, h2, h3, h4⟩
        clear h
        go_enter Tryd.func49, Tryd.ntmps49
        go_wp2
        go_ret
        exact ⟨rfl, rfl⟩
      · clear h
        go_enter Tryd.func49, Tryd.ntmps49
        go_wp2
        go_ret
        exact ⟨rfl, rfl⟩
    · clear h
      go_enter Tryd.func49, Tryd.ntmps49
      go_wp2
      go_ret
      exact ⟨rfl, rfl⟩
  · clear h
    go_enter Tryd.func49, Tryd.ntmps49
    go_wp2
    go_ret
    exact ⟨rfl, rfl⟩

set_option maxRecDepth 100000 in
set_option maxHeartbeats 1000000 in
theorem start_any (v : Value) (s : List UInt8) (ix i : Nat) (w : World) (hv : Bs w w.heap.size v s) (hs : s.length ≤ 200) (hx : ix ≤ 1023) (hi : i < 18) (hk : KIs 1 w) :
    Calls Tryd.prog 51 #[v, .int .i64 ix, .int .i64 i] w fun e w' => e = .returned (.agg (u8s (Wt.start s ix i)).toArray) ∧ Below w.heap.size w w' := by
  obtain ⟨A, cap, rfl⟩ := hv.form
  have hz := zero_dig
  have hmx : ix < M64 := by unfold M64; omega
  have hmi : i < M64 := by unfold M64; omega
  have hlx := leb_ten hmx
  have hli := leb_ten hmi
  have HV := Lib.hid hv
  have h1 : Below w.heap.size w (w.alloc (.cells (u8s z32).toArray 25)) := (Below.refl _ _).alloc (Nat.le_refl _) _
  have hr1 : Blk (w.alloc (.cells (u8s z32).toArray 25)) w.heap.size 25 (u8s z32) := Blk.new w _ _
  obtain ⟨W1, hW1⟩ : ∃ W1, W1 = w.alloc (.cells (u8s z32).toArray 25) := ⟨_, rfl⟩
  rw [← hW1] at h1 hr1
  have HW := Lib.hid hW1
  have hc1 := appendUint_any (.slice none 0 0) [] ix W1 (Bs.nil_ _ _) hmx (by simp)
  rw [List.nil_append] at hc1
  have HC1 := Lib.hid hc1
  have HMI := Lib.hid hmi
  clear hW1 hv hc1 hmx hmi
  go_enter Tryd.func51, Tryd.ntmps51
  go_upto_region 1 with (fail)
  rw [← HW.out]
  clear hz
  go_wp2_with fail
  refine HC1.out.mono ?_
  rintro e w2 ⟨v2, rfl, o2, b2⟩
  have b02 := h1.trans (b2.mono h1.size)
  have hr2 := hr1.past b2 hr1.lt
  have o2b := o2.bs
  clear HC1 hr1 o2 b2
  go_wp2_with fail
  refine (appendUint_any v2 (leb ix) i w2 o2b HMI.out (by omega)).mono ?_
  rintro e w3 ⟨v3, rfl, o3, b3⟩
  have b03 := b02.trans (b3.mono b02.size)
  have hr3 := hr2.past b3 hr2.lt
  have hv3 := (HV.out).past b03
  have ho3 := b3.size
  have hel : (leb ix ++ leb i).length + s.length ≤ 140737488355328 := by rw [List.length_append]; omega
  have hrl := hr2.lt
  clear hr2 o2b b3
  go_upto_region 4 with (refine wp_apps w2.heap.size (.tmp 15) (.tmp 16) rfl rfl v3 _ (leb ix ++ leb i) s rfl rfl o3 ho3 hv3 hel ?_; intro v4 w4 o4 b4)
  have b04 := b03.trans (b4.mono (Nat.le_of_lt hrl))
  have hr4 := hr3.past b4 hrl
  have hk4 := hk.past b04
  have o4b := o4.bs
  have hc4 := tagged_any v4 Wt.startT (leb ix ++ leb i ++ s) w4 o4b hk4 (by rw [List.length_append, List.length_append]; omega) (by decide)
  have HC4 := Lib.hid hc4
  have HRL : Hid ((u8s (Wt.start s ix i)).length = 32) := Lib.hid (by rw [u8s_length, Wt.start_len])
  have hrw4 := hr4.lt
  clear hr3 hc4 o4b hk4 o3 o4 b4 hv3 hel b03
  go_wp2_with fail
  refine HC4.out.mono ?_
  rintro e w5 ⟨rfl, b5⟩
  have b05 := b04.trans (b5.mono b04.size)
  have hr5 := hr4.past b5 hr4.lt
  clear HC4 hr4 b5
  obtain ⟨D, hD⟩ : ∃ D, D = Wt.start s ix i := ⟨_, rfl⟩
  rw [← hD] at HRL
  have HD := Lib.hid (show Sha.tag Wt.startT (leb ix ++ leb i ++ s) = D by rw [hD]; rfl)
  rw [HD.out]
  have HDD := Lib.hid hD
  clear hD
  go_wp2_with (refine wp_storeA 25 (.tmp 6) (.tmp 18) rfl rfl w.heap.size rfl 25 (u8s z32) _ rfl hr5 (by rw [info_dig, HRL.out]) (by rw [HRL.out]; rfl) (u8s_one _) rfl ?_; intro w8 hr8 hk8)
  have b08 : Below w.heap.size w w8 := b05.trans (hk8.below (fun q hq => by omega) b05.size)
  refine ret_arr Tryd.results51 rfl w.heap.size 25 _ 32 5 rfl hr8 Tryd.underlying25 (by rw [info_dig, HRL.out]) ?_
  rw [HDD.out]
  exact ⟨rfl, b08⟩

set_option maxRecDepth 100000 in
set_option maxHeartbeats 1000000 in
theorem publicKey_any (F : List UInt8) (w : World) (hF : F.length = 576) (hk : KIs 1 w) :
    Calls Tryd.prog 47 #[.agg (u8s F).toArray] w fun e w' => e = .returned (.agg (u8s (Wt.key F)).toArray) ∧ Below w.heap.size w w' := by
  have hz := zero_dig
  have HF := Lib.hid hF
  have HUF := Lib.hid (show (u8s F).length = 576 by rw [u8s_length, hF])
  obtain ⟨W0, hW0⟩ : ∃ W0, W0 = (w.alloc (.cells (u8s F).toArray 65)).alloc (.cells (u8s z32).toArray 25) := ⟨_, rfl⟩
  have hb0 : Below w.heap.size w W0 := by rw [hW0]; exact ((Below.refl _ _).alloc (Nat.le_refl _) _).alloc (by simp) _
  have hx0 : Blk W0 w.heap.size 65 (u8s F) := by
    rw [hW0]
    exact (Blk.new w _ _).past ((Below.refl _ _).alloc (Nat.le_refl _) _) (by simp)
  have hr0 : Blk W0 (w.heap.size + 1) 25 (u8s z32) := by
    have h := Blk.new (w.alloc (.cells (u8s F).toArray 65)) 25 (u8s z32)
    rw [World.size_alloc] at h
    rw [hW0]; exact h
  have HW0 := Lib.hid hW0
  clear hW0 hF
  go_enter Tryd.func47, Tryd.ntmps47
  go_upto_region 1 with (fail)
  rw [← HW0.out]
  go_wp2_with (refine wp_run rfl (exec_loadA 65 rfl w.heap.size rfl 65 _ 18 25 hx0 Tryd.underlying65 (by rw [info_ends, HUF.out])) ?_)
  have hs0 : w.heap.size + 1 < W0.heap.size := hr0.lt
  clear hx0
  go_loopw [7, 3] (fun i q wr => ∃ k : Nat, i = .int .i64 k ∧ k ≤ 18 ∧ Own wr (w.heap.size + 2) q (F.take (32 * k)) ∧ Blk wr (w.heap.size + 1) 25 (u8s z32) ∧ Below w.heap.size w wr) (fun i _ _ => 18 - (intOf i).toNat)
  case atStart => exact ⟨0, rfl, by omega, Own.nil_ _ _, hr0, hb0⟩
  case round =>
    clear hr0 hb0
    obtain ⟨k, rfl, hkn, hq, hr, hb⟩ := hrel
    have hs1 : w.heap.size + 1 < wr.heap.size := hr.lt
    by_cases hlt : k < 18
    · have HE := Lib.hid (show ((u8s F).drop (k * 32)).take 32 = u8s (Wt.el F k) by unfold Wt.el; rw [Nat.mul_comm]; simp [u8s, List.map_take, List.map_drop])
      have HEL := Lib.hid (show (Wt.el F k).length = 32 from Wt.el_len (n := 18) HF.out hlt)
      have HUL := Lib.hid (show (u8s (Wt.el F k)).length = 32 by rw [u8s_length, HEL.out])
      have HT := Lib.hid (show F.take (32 * k) ++ Wt.el F k = F.take (32 * (k + 1)) by rw [show 32 * (k + 1) = 32 * k + 32 by omega, List.take_add]; rfl)
      have hln : (F.take (32 * k)).length + (Wt.el F k).length ≤ 140737488355328 := by rw [List.length_take, HEL.out, HF.out]; omega
      obtain ⟨E, hE⟩ : ∃ E, E = Wt.el F k := ⟨_, rfl⟩
      rw [← hE] at HE HEL HUL HT hln
      obtain ⟨T, hT⟩ : ∃ T, T = F.take (32 * k) := ⟨_, rfl⟩
      rw [← hT] at HT hln hq
      clear hE hT
      have hv1 := Blk.new wr 25 (u8s z32)
      have ha : Below wr.heap.size wr (wr.alloc (.cells (u8s z32).toArray 25)) := (Below.refl _ _).alloc (Nat.le_refl _) _
      go_upto_region 5 with (first
        | (refine wp_run rfl (exec_indexAA 65 25 18 32 32 5 Tryd.underlying65 Tryd.underlying25 info_dig rfl (u8s F) (u8s E) rfl _ _ k rfl rfl hlt HUF.out HE.out wr) ?_)
        | (refine wp_storeA 25 (.tmp 5) (.tmp 9) rfl rfl wr.heap.size rfl 25 (u8s z32) _ rfl hv1 (by rw [info_dig, HUL.out]) (by rw [HUL.out]; rfl) (u8s_one _) rfl ?_; intro w3 hv3 hk3))
      have g3 : Below wr.heap.size wr w3 := ((Keep.of_below ha).trans (hk3.mono (O' := fun q => q < wr.heap.size) (fun q hq => by omega))).below (fun q hq => hq) (Nat.le_refl _)
      have hq3 := Own.past hq g3
      have hr3 := hr.past g3 hs1
      have b3 := hb.trans (g3.mono hb.size)
      have hz3 : w.heap.size + 2 ≤ w3.heap.size := by have := g3.size; omega
      have hd3 := dig_bs hv3 HEL.out
      clear hq hr hb hv1 ha hk3 g3
      go_wp2_with (first
        | (refine wp_sliceA0 25 5 32 (.tmp 5) rfl rfl Tryd.underlying25 size_u8 wr.heap.size rfl ?_)
        | (refine wp_apps (w.heap.size + 2) (.tmp 10) (.tmp 11) rfl rfl _ _ T E rfl rfl hq3 hz3 hd3 hln ?_; intro v4 w4 o4 b4))
      have hr4 := hr3.past b4 (by omega)
      have bb4 := b3.trans (b4.mono (by omega))
      rw [HT.out] at o4
      clear hq3 hr3 hd3 hln
      go_roundw
      case rel => exact ⟨k + 1, by go_num, by omega, o4, hr4, bb4⟩
      case measure => simp [intOf]; omega
    · have hk18 : k = 18 := by omega
      have hq' := hq
      rw [hk18, List.take_of_length_le (by rw [HF.out]; omega)] at hq'
      have hqb := hq'.bs
      have hc := tagged_any _ Wt.pubT F wr hqb (hk.past hb) (by rw [HF.out]; omega) (by decide)
      have HC := Lib.hid hc
      clear hq hq' hqb hc hk18
      go_wp2_with fail
      refine HC.out.mono ?_
      rintro e w5 ⟨rfl, b5⟩
      have b05 := hb.trans (b5.mono hb.size)
      have hr5 := hr.past b5 hr.lt
      have hs5 : w.heap.size + 1 < w5.heap.size := hr5.lt
      clear HC hr b5
      have HKL : Hid ((u8s (Wt.key F)).length = 32) := Lib.hid (by rw [u8s_length, Wt.key_len])
      obtain ⟨D, hD⟩ : ∃ D, D = Wt.key F := ⟨_, rfl⟩
      rw [← hD] at HKL
      have HD := Lib.hid (show Sha.tag Wt.pubT F = D by rw [hD]; rfl)
      rw [HD.out]
      have HDD := Lib.hid hD
      clear hD
      go_wp2_with (refine wp_storeA 25 (.tmp 2) (.tmp 15) rfl rfl (w.heap.size + 1) rfl 25 (u8s z32) _ rfl hr5 (by rw [info_dig, HKL.out]) (by rw [HKL.out]; rfl) (u8s_one _) rfl ?_; intro w8 hr8 hk8)
      have b08 : Below w.heap.size w w8 := b05.trans (hk8.below (fun q hq => by omega) b05.size)
      refine ret_arr Tryd.results47 rfl (w.heap.size + 1) 25 _ 32 5 rfl hr8 Tryd.underlying25 (by rw [info_dig, HKL.out]) ?_
      rw [HDD.out]
      exact ⟨rfl, b08⟩
end

section
open Go.RowKit
set_option linter.unusedVariables false
set_option linter.unusedSimpArgs false

/-- The ends so far; zeros behind. -/
def endsTo (f : Nat → List UInt8) (k : Nat) : List UInt8 := Wt.cat f k ++ List.replicate (576 - 32 * k) 0
theorem endsTo_len {f : Nat → List UInt8} {k : Nat} (hf : ∀ i, i < 18 → (f i).length = 32) (hk : k ≤ 18) : (endsTo f k).length = 576 := by
  unfold endsTo
  rw [List.length_append, Wt.cat_len k (fun i hi => hf i (by omega)), List.length_replicate]; omega
theorem endsTo_zero (f : Nat → List UInt8) : endsTo f 0 = z576 := rfl
theorem endsTo_done (f : Nat → List UInt8) : endsTo f 18 = Wt.cat f 18 := by unfold endsTo; simp
theorem endsTo_put {f : Nat → List UInt8} {k : Nat} (hf : ∀ i, i < 18 → (f i).length = 32) (hk : k < 18) :
    (u8s (endsTo f k)).take (k * 32) ++ u8s (f k) ++ (u8s (endsTo f k)).drop (k * 32 + (u8s (f k)).length) = u8s (endsTo f (k + 1)) := by
  have hl := Wt.cat_len (f := f) k (fun i hi => hf i (by omega))
  rw [u8s_length, hf k hk]
  unfold endsTo
  rw [u8s_append, List.take_left' (by rw [u8s_length, hl]; omega), List.drop_append, u8s_length, hl, List.drop_of_length_le (by rw [u8s_length, hl]; omega), List.nil_append, Wt.cat, u8s_append, u8s_append, List.append_assoc]
  have e : (u8s (List.replicate (576 - 32 * k) 0)).drop (k * 32 + 32 - 32 * k) = u8s (List.replicate (576 - 32 * (k + 1)) 0) := by
    unfold u8s
    rw [← List.map_drop, List.drop_replicate]
    congr 2; omega
  rw [e]
  simp

theorem enters_any {P : Program} {f : FuncId} {fn : Func} {c : Code} (hf : P.funcs[f]? = some fn) (hn : (fn.name == "runtime.NumGoroutine") = false) (hb : fn.body = some c) (args : Array Value) (w : World) : (callFunc f args).run P w = .ok (.enter f args) w := by
  have h1 : fn.name ≠ "runtime.NumGoroutine" := by simpa using hn
  unfold callFunc
  simp [Sem.run_bind, hf, h1, hb]

set_option maxRecDepth 100000 in
set_option maxHeartbeats 1000000 in
theorem eachChain_any (fid : FuncId) (caps : Array Value) (f : Nat → List UInt8) (w : World) (hent : ∀ args w', (callFunc fid args).run Tryd.prog w' = .ok (.enter fid args) w') (hf : ∀ i, i < 18 → (f i).length = 32)
    (hcall : ∀ (i : Nat) (w' : World), i < 18 → Below w.heap.size w w' → Calls Tryd.prog fid (#[.int .i64 i] ++ caps) w' fun e w'' => e = .returned (.agg (u8s (f i)).toArray) ∧ Below w'.heap.size w' w'') :
    Calls Tryd.prog 44 #[.func (.func fid) #[] caps] w fun e w' => e = .returned (.agg (u8s (Wt.cat f 18)).toArray) ∧ Below w.heap.size w w' := by
  have hz := zero_ends
  have HF := Lib.hid hf
  have HC := Lib.hid hcall
  have HEN := Lib.hid hent
  clear hf hcall hent
  obtain ⟨W0, hW0⟩ : ∃ W0, W0 = (w.alloc (.cells (u8s z576).toArray 65)).alloc (.cells (u8s z576).toArray 65) := ⟨_, rfl⟩
  have hb0 : Below w.heap.size w W0 := by rw [hW0]; exact ((Below.refl _ _).alloc (Nat.le_refl _) _).alloc (by simp) _
  have hr0 : Blk W0 w.heap.size 65 (u8s z576) := by
    rw [hW0]
    exact (Blk.new w _ _).past ((Below.refl _ _).alloc (Nat.le_refl _) _) (by simp)
  have hl0 : Blk W0 (w.heap.size + 1) 65 (u8s (endsTo f 0)) := by
    have h := Blk.new (w.alloc (.cells (u8s z576).toArray 65)) 65 (u8s z576)
    rw [World.size_alloc] at h
    rw [hW0]; exact h
  have HW0 := Lib.hid hW0
  clear hW0
  go_enter Tryd.func44, Tryd.ntmps44
  go_upto_region 2 with (fail)
  rw [← HW0.out]
  clear hz
  go_wp2_with fail
  go_loopw [5] (fun i wr => ∃ k : Nat, i = .int .i64 k ∧ k ≤ 18 ∧ Blk wr w.heap.size 65 (u8s z576) ∧ Blk wr (w.heap.size + 1) 65 (u8s (endsTo f k)) ∧ Below w.heap.size w wr) (fun i _ => 18 - (intOf i).toNat)
  case atStart => exact ⟨0, rfl, by omega, hr0, hl0, hb0⟩
  case round =>
    clear hr0 hl0 hb0
    obtain ⟨k, rfl, hkn, hr, hl, hb⟩ := hrel
    have hs1 : w.heap.size + 1 < wr.heap.size := hl.lt
    by_cases hlt : k < 18
    · have HCK := Lib.hid (HC.out k wr hlt hb)
      have HP := Lib.hid (endsTo_put HF.out hlt)
      have HLK : Hid ((u8s (f k)).length = 32) := Lib.hid (by rw [u8s_length, HF.out k hlt])
      have HLE : Hid ((u8s (endsTo f k)).length = 576) := Lib.hid (by rw [u8s_length, endsTo_len HF.out (by omega)])
      go_wp2_with fail
      rw [HEN.out]
      refine HCK.out.mono ?_
      rintro e w2 ⟨rfl, b2⟩
      have hr2 := hr.past b2 hr.lt
      have hl2 := hl.past b2 hl.lt
      have bb2 := hb.trans (b2.mono hb.size)
      clear hr hl hb b2 HCK
      go_wp2_with (first
        | (refine wp_run rfl (exec_ixA 65 25 18 32 Tryd.underlying65 info_dig _ rfl (w.heap.size + 1) rfl _ _ k rfl rfl hlt (q := k * 32) rfl) ?_)
        | (refine wp_storeM 25 (.tmp 12) (.tmp 11) rfl rfl (w.heap.size + 1) (k * 32) rfl 65 _ (u8s (f k)) rfl hl2 (by rw [info_dig, HLK.out]) (by rw [HLK.out, HLE.out]; omega) (u8s_one _) rfl ?_; intro w3 hl3 hk3))
      rw [HP.out] at hl3
      have hr3 := hr2.keep hk3 (by omega)
      have bb3 : Below w.heap.size w w3 := bb2.trans (hk3.below (fun q hq => by omega) bb2.size)
      clear hr2 hl2 bb2 hk3
      go_roundw
      case rel => exact ⟨k + 1, by go_num, by omega, hr3, hl3, bb3⟩
      case measure => simp [intOf]; omega
    · have hk18 : k = 18 := by omega
      rw [hk18, endsTo_done] at hl
      obtain ⟨D, hD⟩ : ∃ D, D = Wt.cat f 18 := ⟨_, rfl⟩
      rw [← hD] at hl
      have HDL : Hid ((u8s D).length = 576) := Lib.hid (by rw [u8s_length, hD, Wt.cat_len 18 HF.out])
      have HD := Lib.hid hD
      clear hD hk18
      go_wp2_with (first
        | (refine wp_run rfl (exec_loadA 65 rfl (w.heap.size + 1) rfl 65 _ 18 25 hl Tryd.underlying65 (by rw [info_ends, HDL.out])) ?_)
        | (refine wp_storeA 65 (.tmp 2) (.tmp 14) rfl rfl w.heap.size rfl 65 (u8s z576) _ rfl hr (by rw [info_ends, HDL.out]) (by rw [HDL.out]; rfl) (u8s_one _) rfl ?_; intro w6 hr6 hk6))
      have hb6 : Below w.heap.size w w6 := hb.trans (hk6.below (n := w.heap.size) (fun q hq => by omega) hb.size)
      refine ret_arr Tryd.results44 rfl w.heap.size 65 _ 18 25 rfl hr6 Tryd.underlying65 (by rw [info_ends, HDL.out]) ?_
      rw [HD.out]
      exact ⟨rfl, hb6⟩
end
end Go.Proofs.YtccepoeenkpifaaDoor
