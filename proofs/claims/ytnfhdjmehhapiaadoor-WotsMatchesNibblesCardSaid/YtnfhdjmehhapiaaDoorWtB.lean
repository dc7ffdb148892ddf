/-
  Walks of package wots: Nibbles, valid keys, starts of chains, the key out of the ends.
-/
import Derived.Test.YtnfhdjmehhapiaaDoorWtA
import Derived.Test.YtnfhdjmehhapiaaDoorVarU
namespace Go.Proofs.YtnfhdjmehhapiaaDoor
open Go.RowKit
set_option linter.unusedVariables false
set_option linter.unusedSimpArgs false

def z576 : List UInt8 := List.replicate 576 0
theorem zero_ends (w : World) : (zeroValue 51).run Tryd.prog w = .ok (.agg (u8s z576).toArray) w := by kernel_rfl
theorem info_ends : (Tryd.prog.info? 51).map (·.size) = some 576 := by kernel_rfl

set_option maxRecDepth 100000 in
set_option maxHeartbeats 1000000 in
theorem nibbles_any (d : List UInt8) (w : World) (hd : d.length = 32) :
    Calls Tryd.prog 13 #[.agg (u8s d).toArray] w fun e w' => ∃ g, e = .returned (.slice (some ⟨g, 0, none⟩) 18 18) ∧ Blk w' g 48 (ins (Wt.ns d)) ∧ w.heap.size ≤ g ∧ Below w.heap.size w w' := by
  have hz := zero_18
  have HDL := Lib.hid (show (u8s d).length = 32 by rw [u8s_length, hd])
  have HNL : Hid ((ins (Wt.ns d)).length = 18) := Lib.hid (by rw [ins_length, Wt.ns_len])
  have h1 : Below w.heap.size w (w.alloc (.cells (u8s d).toArray 23)) := (Below.refl _ _).alloc (Nat.le_refl _) _
  have hd1 : Blk (w.alloc (.cells (u8s d).toArray 23)) w.heap.size 23 (u8s d) := Blk.new w _ _
  have hc := chainLengths_any d (w.alloc (.cells (u8s d).toArray 23)) hd
  obtain ⟨W1, hW1⟩ : ∃ W1, W1 = w.alloc (.cells (u8s d).toArray 23) := ⟨_, rfl⟩
  rw [← hW1] at h1 hd1 hc
  have HC := Lib.hid hc
  have HW := Lib.hid hW1
  clear hW1 hc hd
  go_enter Tryd.func13, Tryd.ntmps13
  go_upto_region 1 with (fail)
  rw [← HW.out]
  go_wp2_with (refine wp_run rfl (exec_loadA 23 rfl w.heap.size rfl 23 _ 32 5 hd1 Tryd.underlying23 (by rw [info_dig, HDL.out])) ?_)
  refine HC.out.mono ?_
  rintro e w2 ⟨rfl, b2⟩
  have b02 := h1.trans (b2.mono h1.size)
  obtain ⟨N, hN⟩ : ∃ N, N = Wt.ns d := ⟨_, rfl⟩
  rw [← hN] at HNL ⊢
  have HN := Lib.hid hN
  have hn2 := Blk.new w2 48 (ins z18)
  have b23 : Below w.heap.size w (w2.alloc (.cells (ins z18).toArray 48)) := b02.alloc b02.size _
  clear hN HC hd1
  go_wp2_with (first
    | (refine wp_storeA 48 (.tmp 3) (.tmp 5) rfl rfl w2.heap.size rfl 48 (ins z18) _ rfl hn2 (by rw [info_18, HNL.out]) (by rw [HNL.out]; rfl) (ins_one _) rfl ?_; intro w4 hn4 hk4)
    | (refine wp_sliceA0 48 3 18 (.tmp 3) rfl rfl Tryd.underlying48 size_int w2.heap.size rfl ?_))
  have b4 : Below w.heap.size w w4 := b23.trans (hk4.below (fun q hq => by have := b02.size; omega) b23.size)
  go_ret
  rw [HN.out] at hn4
  exact ⟨_, rfl, hn4, b02.size, b4⟩

theorem isKey_yes (v : Value) (s : List UInt8) (ix : Int) (w : World) (hv : Bs w w.heap.size v s) (h1 : 1 ≤ s.length) (h2 : s.length ≤ 64) (h3 : 0 ≤ ix) (h4 : ix ≤ 1023) :
    Calls Tryd.prog 29 #[v, .int .i64 ix] w fun e w' => e = .returned (.bool true) ∧ w = w' := by
  obtain ⟨A, cap, rfl⟩ := hv.form
  go_enter Tryd.func29, Tryd.ntmps29
  go_wp2
  go_ret
  exact ⟨rfl, rfl⟩

theorem isKey_no (v : Value) (s : List UInt8) (ix : Int) (w : World) (hv : Bs w w.heap.size v s) (h : ¬ (1 ≤ s.length ∧ s.length ≤ 64 ∧ 0 ≤ ix ∧ ix ≤ 1023)) :
    Calls Tryd.prog 29 #[v, .int .i64 ix] w fun e w' => e = .returned (.bool false) ∧ w = w' := by
  obtain ⟨A, cap, rfl⟩ := hv.form
  by_cases h1 : 1 ≤ s.length
  · by_cases h2 : s.length ≤ 64
    · by_cases h3 : 0 ≤ ix
      · have h4 : ¬ ix ≤ 1023 := fun h4 => h ⟨h1, h2, h3, h4⟩
        clear h
        go_enter Tryd.func29, Tryd.ntmps29
        go_wp2
        go_ret
        exact ⟨rfl, rfl⟩
      · clear h
        go_enter Tryd.func29, Tryd.ntmps29
        go_wp2
        go_ret
        exact ⟨rfl, rfl⟩
    · clear h
      go_enter Tryd.func29, Tryd.ntmps29
      go_wp2
      go_ret
      exact ⟨rfl, rfl⟩
  · clear h
    go_enter Tryd.func29, Tryd.ntmps29
    go_wp2
    go_ret
    exact ⟨rfl, rfl⟩

set_option maxRecDepth 100000 in
set_option maxHeartbeats 1000000 in
theorem start_any (v : Value) (s : List UInt8) (ix i : Nat) (w : World) (hv : Bs w w.heap.size v s) (hs : s.length ≤ 200) (hx : ix ≤ 1023) (hi : i < 18) (hk : KIs 0 w) :
    Calls Tryd.prog 32 #[v, .int .i64 ix, .int .i64 i] w fun e w' => e = .returned (.agg (u8s (Wt.start s ix i)).toArray) ∧ Below w.heap.size w w' := by
  obtain ⟨A, cap, rfl⟩ := hv.form
  have hz := zero_dig
  have hmx : ix < M64 := by unfold M64; omega
  have hmi : i < M64 := by unfold M64; omega
  have hlx := leb_ten hmx
  have hli := leb_ten hmi
  have HV := Lib.hid hv
  have h1 : Below w.heap.size w (w.alloc (.cells (u8s z32).toArray 23)) := (Below.refl _ _).alloc (Nat.le_refl _) _
  have hr1 : Blk (w.alloc (.cells (u8s z32).toArray 23)) w.heap.size 23 (u8s z32) := Blk.new w _ _
  obtain ⟨W1, hW1⟩ : ∃ W1, W1 = w.alloc (.cells (u8s z32).toArray 23) := ⟨_, rfl⟩
  rw [← hW1] at h1 hr1
  have HW := Lib.hid hW1
  have hc1 := appendUint_any (.slice none 0 0) [] ix W1 (Bs.nil_ _ _) hmx (by simp)
  rw [List.nil_append] at hc1
  have HC1 := Lib.hid hc1
  have HMI := Lib.hid hmi
  clear hW1 hv hc1 hmx hmi
  go_enter Tryd.func32, Tryd.ntmps32
  go_upto_region 1 with (fail)
  rw [← HW.out]
  clear hz
  go_wp2_with fail
  refine HC1.out.mono ?_
  rintro e w2 ⟨v2, rfl, o2, b2⟩
  have b02 := h1.trans (b2.mono h1.size)
  have hr2 := hr1.past b2 hr1.lt
  have o2b := o2.bs
  clear HC1 hr1 o2 b2
  go_wp2_with fail
  refine (appendUint_any v2 (leb ix) i w2 o2b HMI.out (by omega)).mono ?_
  rintro e w3 ⟨v3, rfl, o3, b3⟩
  have b03 := b02.trans (b3.mono b02.size)
  have hr3 := hr2.past b3 hr2.lt
  have hv3 := (HV.out).past b03
  have ho3 := b3.size
  have hel : (leb ix ++ leb i).length + s.length ≤ 140737488355328 := by rw [List.length_append]; omega
  have hrl := hr2.lt
  clear hr2 o2b b3
  go_upto_region 4 with (refine wp_apps w2.heap.size (.tmp 15) (.tmp 16) rfl rfl v3 _ (leb ix ++ leb i) s rfl rfl o3 ho3 hv3 hel ?_; intro v4 w4 o4 b4)
  have b04 := b03.trans (b4.mono (Nat.le_of_lt hrl))
  have hr4 := hr3.past b4 hrl
  have hk4 := hk.past b04
  have o4b := o4.bs
  have hc4 := tagged_any v4 Wt.startT (leb ix ++ leb i ++ s) w4 o4b hk4 (by rw [List.length_append, List.length_append]; omega) (by decide)
  have HC4 := Lib.hid hc4
  have HRL : Hid ((u8s (Wt.start s ix i)).length = 32) := Lib.hid (by rw [u8s_length, Wt.start_len])
  have hrw4 := hr4.lt
  clear hr3 hc4 o4b hk4 o3 o4 b4 hv3 hel b03
  go_wp2_with fail
  refine HC4.out.mono ?_
  rintro e w5 ⟨rfl, b5⟩
  have b05 := b04.trans (b5.mono b04.size)
  have hr5 := hr4.past b5 hr4.lt
  clear HC4 hr4 b5
  obtain ⟨D, hD⟩ : ∃ D, D = Wt.start s ix i := ⟨_, rfl⟩
  rw [← hD] at HRL
  have HD := Lib.hid (show Sha.tag Wt.startT (leb ix ++ leb i ++ s) = D by rw [hD]; rfl)
  rw [HD.out]
  have HDD := Lib.hid hD
  clear hD
  go_wp2_with (refine wp_storeA 23 (.tmp 6) (.tmp 18) rfl rfl w.heap.size rfl 23 (u8s z32) _ rfl hr5 (by rw [info_dig, HRL.out]) (by rw [HRL.out]; rfl) (u8s_one _) rfl ?_; intro w8 hr8 hk8)
  have b08 : Below w.heap.size w w8 := b05.trans (hk8.below (fun q hq => by omega) b05.size)
  refine ret_arr Tryd.results32 rfl w.heap.size 23 _ 32 5 rfl hr8 Tryd.underlying23 (by rw [info_dig, HRL.out]) ?_
  rw [HDD.out]
  exact ⟨rfl, b08⟩

set_option maxRecDepth 100000 in
set_option maxHeartbeats 1000000 in
theorem publicKey_any (F : List UInt8) (w : World) (hF : F.length = 576) (hk : KIs 0 w) :
    Calls Tryd.prog 33 #[.agg (u8s F).toArray] w fun e w' => e = .returned (.agg (u8s (Wt.key F)).toArray) ∧ Below w.heap.size w w' := by
  have hz := zero_dig
  have HF := Lib.hid hF
  have HUF := Lib.hid (show (u8s F).length = 576 by rw [u8s_length, hF])
  obtain ⟨W0, hW0⟩ : ∃ W0, W0 = (w.alloc (.cells (u8s F).toArray 51)).alloc (.cells (u8s z32).toArray 23) := ⟨_, rfl⟩
  have hb0 : Below w.heap.size w W0 := by rw [hW0]; exact ((Below.refl _ _).alloc (Nat.le_refl _) _).alloc (by simp) _
  have hx0 : Blk W0 w.heap.size 51 (u8s F) := by
    rw [hW0]
    exact (Blk.new w _ _).past ((Below.refl _ _).alloc (Nat.le_refl _) _) (by simp)
  have hr0 : Blk W0 (w.heap.size + 1) 23 (u8s z32) := by
    have h := Blk.new (w.alloc (.cells (u8s F).toArray 51)) 23 (u8s z32)
    rw [World.size_alloc] at h
    rw [hW0]; exact h
  have HW0 := Lib.hid hW0
  clear hW0 hF
  go_enter Tryd.func33, Tryd.ntmps33
  go_upto_region 1 with (fail)
  rw [← HW0.out]
  go_wp2_with (refine wp_run rfl (exec_loadA 51 rfl w.heap.size rfl 51 _ 18 23 hx0 Tryd.underlying51 (by rw [info_ends, HUF.out])) ?_)
  have hs0 : w.heap.size + 1 < W0.heap.size := hr0.lt
  clear hx0
  go_loopw [7, 3] (fun i q wr => ∃ k : Nat, i = .int .i64 k ∧ k ≤ 18 ∧ Own wr (w.heap.size + 2) q (F.take (32 * k)) ∧ Blk wr (w.heap.size + 1) 23 (u8s z32) ∧ Below w.heap.size w wr) (fun i _ _ => 18 - (intOf i).toNat)
  case atStart => exact ⟨0, rfl, by omega, Own.nil_ _ _, hr0, hb0⟩
  case round =>
    clear hr0 hb0
    obtain ⟨k, rfl, hkn, hq, hr, hb⟩ := hrel
    have hs1 : w.heap.size + 1 < wr.heap.size := hr.lt
    by_cases hlt : k < 18
    · have HE := Lib.hid (show ((u8s F).drop (k * 32)).take 32 = u8s (Wt.el F k) by unfold Wt.el; rw [Nat.mul_comm]; simp [u8s, List.map_take, List.map_drop])
      have HEL := Lib.hid (show (Wt.el F k).length = 32 from Wt.el_len (n := 18) HF.out hlt)
      have HUL := Lib.hid (show (u8s (Wt.el F k)).length = 32 by rw [u8s_length, HEL.out])
      have HT := Lib.hid (show F.take (32 * k) ++ Wt.el F k = F.take (32 * (k + 1)) by rw [show 32 * (k + 1) = 32 * k + 32 by omega, List.take_add]; rfl)
      have hln : (F.take (32 * k)).length + (Wt.el F k).length ≤ 140737488355328 := by rw [List.length_take, HEL.out, HF.out]; omega
      obtain ⟨E, hE⟩ : ∃ E, E = Wt.el F k := ⟨_, rfl⟩
      rw [← hE] at HE HEL HUL HT hln
      obtain ⟨T, hT⟩ : ∃ T, T = F.take (32 * k) := ⟨_, rfl⟩
      rw [← hT] at HT hln hq
      clear hE hT
      have hv1 := Blk.new wr 23 (u8s z32)
      have ha : Below wr.heap.size wr (wr.alloc (.cells (u8s z32).toArray 23)) := (Below.refl _ _).alloc (Nat.le_refl _) _
      go_upto_region 5 with (first
        | (refine wp_run rfl (exec_indexAA 51 23 18 32 32 5 Tryd.underlying51 Tryd.underlying23 info_dig rfl (u8s F) (u8s E) rfl _ _ k rfl rfl hlt HUF.out HE.out wr) ?_)
        | (refine wp_storeA 23 (.tmp 5) (.tmp 9) rfl rfl wr.heap.size rfl 23 (u8s z32) _ rfl hv1 (by rw [info_dig, HUL.out]) (by rw [HUL.out]; rfl) (u8s_one _) rfl ?_; intro w3 hv3 hk3))
      have g3 : Below wr.heap.size wr w3 := ((Keep.of_below ha).trans (hk3.mono (O' := fun q => q < wr.heap.size) (fun q hq => by omega))).below (fun q hq => hq) (Nat.le_refl _)
      have hq3 := Own.past hq g3
      have hr3 := hr.past g3 hs1
      have b3 := hb.trans (g3.mono hb.size)
      have hz3 : w.heap.size + 2 ≤ w3.heap.size := by have := g3.size; omega
      have hd3 := dig_bs hv3 HEL.out
      clear hq hr hb hv1 ha hk3 g3
      go_wp2_with (first
        | (refine wp_sliceA0 23 5 32 (.tmp 5) rfl rfl Tryd.underlying23 size_u8 wr.heap.size rfl ?_)
        | (refine wp_apps (w.heap.size + 2) (.tmp 10) (.tmp 11) rfl rfl _ _ T E rfl rfl hq3 hz3 hd3 hln ?_; intro v4 w4 o4 b4))
      have hr4 := hr3.past b4 (by omega)
      have bb4 := b3.trans (b4.mono (by omega))
      rw [HT.out] at o4
      clear hq3 hr3 hd3 hln
      go_roundw
      case rel => exact ⟨k + 1, by go_num, by omega, o4, hr4, bb4⟩
      case measure => simp [intOf]; omega
    · have hk18 : k = 18 := by omega
      have hq' := hq
      rw [hk18, List.take_of_length_le (by rw [HF.out]; omega)] at hq'
      have hqb := hq'.bs
      have hc := tagged_any _ Wt.pubT F wr hqb (hk.past hb) (by rw [HF.out]; omega) (by decide)
      have HC := Lib.hid hc
      clear hq hq' hqb hc hk18
      go_wp2_with fail
      refine HC.out.mono ?_
      rintro e w5 ⟨rfl, b5⟩
      have b05 := hb.trans (b5.mono hb.size)
      have hr5 := hr.past b5 hr.lt
      have hs5 : w.heap.size + 1 < w5.heap.size := hr5.lt
      clear HC hr b5
      have HKL : Hid ((u8s (Wt.key F)).length = 32) := Lib.hid (by rw [u8s_length, Wt.key_len])
      obtain ⟨D, hD⟩ : ∃ D, D = Wt.key F := ⟨_, rfl⟩
      rw [← hD] at HKL
      have HD := Lib.hid (show Sha.tag Wt.pubT F = D by rw [hD]; rfl)
      rw [HD.out]
      have HDD := Lib.hid hD
      clear hD
      go_wp2_with (refine wp_storeA 23 (.tmp 2) (.tmp 15) rfl rfl (w.heap.size + 1) rfl 23 (u8s z32) _ rfl hr5 (by rw [info_dig, HKL.out]) (by rw [HKL.out]; rfl) (u8s_one _) rfl ?_; intro w8 hr8 hk8)
      have b08 : Below w.heap.size w w8 := b05.trans (hk8.below (fun q hq => by omega) b05.size)
      refine ret_arr Tryd.results33 rfl (w.heap.size + 1) 23 _ 32 5 rfl hr8 Tryd.underlying23 (by rw [info_dig, HKL.out]) ?_
      rw [HDD.out]
      exact ⟨rfl, b08⟩
end Go.Proofs.YtnfhdjmehhapiaaDoor
