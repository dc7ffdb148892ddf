/-
  Walks of the reference's package for layer 4: chain lengths, starts of chains, the key out of the ends.
-/
import Derived.Test.YtccepoeenkpifaaDoorWtK
import Derived.Test.YtccepoeenkpifaaDoorVarV
import Derived.Test.YtccepoeenkpifaaDoorSrF
namespace Go.Proofs.YtccepoeenkpifaaDoor
open Go.RowKit
set_option linter.unusedVariables false
set_option linter.unusedSimpArgs false

set_option maxRecDepth 100000 in
set_option maxHeartbeats 1000000 in
theorem rnibbles_any (d : List UInt8) (w : World) (hd : d.length = 32) :
    Calls Tryd.prog 58 #[.agg (u8s d).toArray] w fun e w' => ∃ v, e = .returned v ∧ Row w' w'.heap.size 1 18 v (ins (Wt.ns d)) ∧ Below w.heap.size w w' := by
  have HDL := Lib.hid hd
  have b0 : Below w.heap.size w (w.alloc (.cells (u8s d).toArray 25)) := (Below.refl _ _).alloc (Nat.le_refl _) _
  have hd0 : Blk (w.alloc (.cells (u8s d).toArray 25)) w.heap.size 25 (u8s d) := Blk.new w _ _
  obtain ⟨W0, hW0⟩ : ∃ W0, W0 = w.alloc (.cells (u8s d).toArray 25) := ⟨_, rfl⟩
  rw [← hW0] at b0 hd0
  have HW := Lib.hid hW0
  clear hW0 hd
  go_enter Tryd.func58, Tryd.ntmps58
  go_upto_region 1 with (fail)
  rw [← HW.out]
  go_wp2_with fail
  go_loopw [5, 3, 4] (fun i o c wr => ∃ k : Nat, i = .int .i64 k ∧ k ≤ 8 ∧ c = .int .i64 (Wt.cs d k) ∧ OwnI wr (w.heap.size + 1) o (Wt.grow d k) ∧ Blk wr w.heap.size 25 (u8s d) ∧ Below w.heap.size w wr) (fun i _ _ _ => 8 - (intOf i).toNat)
  case atStart => exact ⟨0, rfl, by omega, rfl, OwnI.nil_ _ _, hd0, b0⟩
  case round =>
    clear hd0 b0
    obtain ⟨k, rfl, hk, rfl, ho, hdr, hb⟩ := hrel
    have hs1 : w.heap.size + 1 ≤ wr.heap.size := hdr.lt
    have hgl := Wt.grow_len d k
    by_cases hlt : k < 8
    · have hcb : wr.cell? ⟨w.heap.size, k, none⟩ = some (.int .u8 ((Wt.byt d k : Nat) : Int)) := by
        refine hdr.cell ?_
        have e : d[k]? = some (d[k]'(by have := HDL.out; omega)) := List.getElem?_eq_getElem _
        unfold Wt.byt
        rw [List.getD_eq_getElem?_getD, e]
        simp [u8s, e, Go.Proofs.YtccepoeenkpifaaDoor.u8]
      have hbl := Wt.byt_lt d k
      have HG := Lib.hid (show Wt.grow d (k + 1) = Wt.grow d k ++ [Wt.byt d k / 16] ++ [Wt.byt d k % 16] from rfl)
      have HCS := Lib.hid (show Wt.cs d (k + 1) = Wt.cs d k + (15 - Wt.byt d k / 16) + (15 - Wt.byt d k % 16) from rfl)
      have hcs := Wt.cs_le d k
      obtain ⟨b, hbe⟩ : ∃ b, b = Wt.byt d k := ⟨_, rfl⟩
      rw [← hbe] at hcb hbl HG HCS
      obtain ⟨c, hc⟩ : ∃ c, c = Wt.cs d k := ⟨_, rfl⟩
      rw [← hc] at hcs HCS ⊢
      obtain ⟨L, hL⟩ : ∃ L, L = Wt.grow d k := ⟨_, rfl⟩
      rw [← hL] at ho HG hgl
      have hgl1 : (L ++ [b / 16]).length + 1 ≤ 1000000 := by rw [List.length_append, hgl]; simp; omega
      have hgl0 : L.length + 1 ≤ 1000000 := by omega
      clear hbe hc hL hgl
      go_wp2_with (first
        | (refine wp_appI (w.heap.size + 1) (.tmp 22) (.tmp 24) rfl rfl _ L _ (b / 16) rfl rfl ho hs1 hgl0 (by push_cast; rfl) ?_; intro v1 w1 o1 b1; have hs2 := Nat.le_trans hs1 b1.size)
        | (refine wp_appI (w.heap.size + 1) (.tmp 26) (.tmp 28) rfl rfl _ (L ++ [b / 16]) _ (b % 16) rfl rfl o1 hs2 hgl1 (by push_cast; rfl) ?_; intro v2 w2 o2 b2))
      have b12 := b1.trans b2
      have hd2 := hdr.past b12 (by omega)
      have bb2 := hb.trans (b12.mono (by omega))
      rw [← HG.out] at o2
      clear ho hdr hb o1 b1 b2 b12 hcb
      go_roundw
      case rel => exact ⟨k + 1, by go_num, by omega, by rw [HCS.out]; congr 1; omega, o2, hd2, bb2⟩
      case measure => simp [intOf]; omega
    · have hk8 : k = 8 := by omega
      subst hk8
      have hcs := Wt.cs_le d 8
      have HN := Lib.hid (Wt.grow_done d)
      obtain ⟨c, hc⟩ : ∃ c, c = Wt.cs d 8 := ⟨_, rfl⟩
      rw [← hc] at hcs HN ⊢
      obtain ⟨L, hL⟩ : ∃ L, L = Wt.grow d 8 := ⟨_, rfl⟩
      rw [← hL] at ho HN hgl
      have hgl1 : (L ++ [c / 16]).length + 1 ≤ 1000000 := by rw [List.length_append, hgl]; simp
      have hgl0 : L.length + 1 ≤ 1000000 := by omega
      clear hc hL hgl hlt hk
      go_wp2_with (first
        | (refine wp_appI (w.heap.size + 1) (.tmp 37) (.tmp 40) rfl rfl _ L _ (c / 16) rfl rfl ho hs1 hgl0 (by push_cast; rfl) ?_; intro v1 w1 o1 b1; have hs2 := Nat.le_trans hs1 b1.size)
        | (refine wp_appI (w.heap.size + 1) (.tmp 42) (.tmp 45) rfl rfl _ (L ++ [c / 16]) _ (c % 16) rfl rfl o1 hs2 hgl1 (by push_cast; rfl) ?_; intro v2 w2 o2 b2))
      have bb2 := hb.trans ((b1.trans b2).mono (by omega))
      rw [HN.out] at o2
      have hr := o2.row
      rw [Wt.ns_len] at hr
      go_ret
      exact ⟨v2, rfl, hr, bb2⟩

theorem rvalid_yes (v : Value) (s : List UInt8) (ix : Int) (w : World) (hv : Bs w w.heap.size v s) (h1 : 1 ≤ s.length) (h2 : s.length ≤ 64) (h3 : 0 ≤ ix) (h4 : ix ≤ 1023) :
    Calls Tryd.prog 57 #[v, .int .i64 ix] w fun e w' => e = .returned (.bool true) ∧ w = w' := by
  obtain ⟨A, cap, rfl⟩ := hv.form
  go_enter Tryd.func57, Tryd.ntmps57
  go_wp2
  go_ret
  exact ⟨rfl, rfl⟩

theorem rvalid_no (v : Value) (s : List UInt8) (ix : Int) (w : World) (hv : Bs w w.heap.size v s) (h : ¬ (1 ≤ s.length ∧ s.length ≤ 64 ∧ 0 ≤ ix ∧ ix ≤ 1023)) :
    Calls Tryd.prog 57 #[v, .int .i64 ix] w fun e w' => e = .returned (.bool false) ∧ w = w' := by
  obtain ⟨A, cap, rfl⟩ := hv.form
  by_cases h1 : 1 ≤ s.length
  · by_cases h2 : s.length ≤ 64
    · by_cases h3 : 0 ≤ ix
      · have h4 : ¬ ix ≤ 1023 := fun h4 => h ⟨h1, h2, h3, h4⟩
        clear h
        go_enter Tryd.func57, Tryd.ntmps57
        go_wp2
        go_ret
        exact ⟨rfl, rfl⟩
      · clear h
        go_enter Tryd.func57, Tryd.ntmps57
        go_wp2
        go_ret
        exact ⟨rfl, rfl⟩
    · clear h
      go_enter Tryd.func57, Tryd.ntmps57
      go_wp2
      go_ret
      exact ⟨rfl, rfl⟩
  · clear h
    go_enter Tryd.func57, Tryd.ntmps57
    go_wp2
    go_ret
    exact ⟨rfl, rfl⟩

set_option maxRecDepth 100000 in
set_option maxHeartbeats 1000000 in
theorem rstart_any (v : Value) (s : List UInt8) (ix i : Nat) (w : World) (hv : Bs w w.heap.size v s) (hs : s.length ≤ 200) (hx : ix ≤ 1023) (hi : i < 18) (hk : KIs 2 w) (hin : InIs 0 w) :
    Calls Tryd.prog 60 #[v, .int .i64 ix, .int .i64 i] w fun e w' => e = .returned (.agg (u8s (Wt.start s ix i)).toArray) ∧ Below w.heap.size w w' := by
  obtain ⟨A, cap, rfl⟩ := hv.form
  have hz := zero_dig
  have hmx : ix < M64 := by unfold M64; omega
  have hmi : i < M64 := by unfold M64; omega
  have hlx := leb_ten hmx
  have hli := leb_ten hmi
  have HV := Lib.hid hv
  have h1 : Below w.heap.size w (w.alloc (.cells (u8s z32).toArray 25)) := (Below.refl _ _).alloc (Nat.le_refl _) _
  have hr1 : Blk (w.alloc (.cells (u8s z32).toArray 25)) w.heap.size 25 (u8s z32) := Blk.new w _ _
  obtain ⟨W1, hW1⟩ : ∃ W1, W1 = w.alloc (.cells (u8s z32).toArray 25) := ⟨_, rfl⟩
  rw [← hW1] at h1 hr1
  have HW := Lib.hid hW1
  have hc1 := refAppendUint_any (.slice none 0 0) [] ix W1 (Bs.nil_ _ _) hmx (by simp)
  rw [List.nil_append] at hc1
  have HC1 := Lib.hid hc1
  have HMI := Lib.hid hmi
  clear hW1 hv hc1 hmx hmi
  go_enter Tryd.func60, Tryd.ntmps60
  go_upto_region 1 with (fail)
  rw [← HW.out]
  clear hz
  go_wp2_with fail
  refine HC1.out.mono ?_
  rintro e w2 ⟨v2, rfl, o2, b2⟩
  have b02 := h1.trans (b2.mono h1.size)
  have hr2 := hr1.past b2 hr1.lt
  have o2b := o2.bs
  clear HC1 hr1 o2 b2
  go_wp2_with fail
  refine (refAppendUint_any v2 (leb ix) i w2 o2b HMI.out (by omega)).mono ?_
  rintro e w3 ⟨v3, rfl, o3, b3⟩
  have b03 := b02.trans (b3.mono b02.size)
  have hr3 := hr2.past b3 hr2.lt
  have hv3 := (HV.out).past b03
  have ho3 := b3.size
  have hel : (leb ix ++ leb i).length + s.length ≤ 140737488355328 := by rw [List.length_append]; omega
  have hrl := hr2.lt
  clear hr2 o2b b3
  go_upto_region 4 with (refine wp_apps w2.heap.size (.tmp 15) (.tmp 16) rfl rfl v3 _ (leb ix ++ leb i) s rfl rfl o3 ho3 hv3 hel ?_; intro v4 w4 o4 b4)
  have b04 := b03.trans (b4.mono (Nat.le_of_lt hrl))
  have hr4 := hr3.past b4 hrl
  have hk4 := hk.past b04
  have hi4 := hin.past b04
  have o4b := o4.bs
  have hc4 := rtagged_any v4 Wt.startT (leb ix ++ leb i ++ s) w4 o4b hk4 hi4 (by rw [List.length_append, List.length_append]; omega) (by decide)
  have HC4 := Lib.hid hc4
  have HRL : Hid ((u8s (Wt.start s ix i)).length = 32) := Lib.hid (by rw [u8s_length, Wt.start_len])
  have hrw4 := hr4.lt
  clear hr3 hc4 o4b hk4 hi4 o3 o4 b4 hv3 hel b03
  go_wp2_with fail
  refine HC4.out.mono ?_
  rintro e w5 ⟨rfl, b5⟩
  have b05 := b04.trans (b5.mono b04.size)
  have hr5 := hr4.past b5 hr4.lt
  clear HC4 hr4 b5
  obtain ⟨D, hD⟩ : ∃ D, D = Wt.start s ix i := ⟨_, rfl⟩
  rw [← hD] at HRL
  have HD := Lib.hid (show Sha.tag Wt.startT (leb ix ++ leb i ++ s) = D by rw [hD]; rfl)
  rw [HD.out]
  have HDD := Lib.hid hD
  clear hD
  go_wp2_with (refine wp_storeA 25 (.tmp 6) (.tmp 19) rfl rfl w.heap.size rfl 25 (u8s z32) _ rfl hr5 (by rw [info_dig, HRL.out]) (by rw [HRL.out]; rfl) (u8s_one _) rfl ?_; intro w8 hr8 hk8)
  have b08 : Below w.heap.size w w8 := b05.trans (hk8.below (fun q hq => by omega) b05.size)
  refine ret_arr Tryd.results60 rfl w.heap.size 25 _ 32 5 rfl hr8 Tryd.underlying25 (by rw [info_dig, HRL.out]) ?_
  rw [HDD.out]
  exact ⟨rfl, b08⟩

/-- 'x[i][:]', an element of a row of digests as a slice of bytes. -/
theorem bs_elem {w : World} {B n cap i : Nat} {ad : Addr} {F : List UInt8} (h : Row w B 32 n (.slice (some ad) n cap) (u8s F)) (hi : i < n) : Bs w B (.slice (some (ad.add (i * 32))) 32 32) (Wt.el F i) := by
  have hl := Wt.el_len (F := F) (n := n) (i := i) (by have := row_flen h; omega) hi
  obtain ⟨a, ha, hab, _⟩ := h.at_ (by omega)
  obtain rfl : ad = a := by injection ha
  unfold Bs
  rw [hl]
  refine ⟨some (ad.add (i * 32)), 32, rfl, Nat.le_refl _, by decide, (fun h => by cases h), by rw [u8s_length, hl], fun a ha _ => ?_⟩
  obtain rfl : ad.add (i * 32) = a := by injection ha
  exact ⟨by rw [add_block]; exact hab, row_elem h hi⟩

theorem exec_sliceP {P : Program} (t e : TypeId) (n s : Nat) (ht : P.underlying t = some (.array n e)) (hz : (P.info? e).map (·.size) = some s) {o : Oper} {a : Act} (x : Operand) (ho : o.op = .slice t x none none none) (p : Addr) (hx : a.eval x = .pointer (some p)) (w : World) :
    (execOp a.eval o).run P w = .ok (.value (.slice (some p) n n)) w := by
  have hel : P.elem t = e := by simp [Program.elem, ht]
  have hal : P.arrayLen t = n := by simp [Program.arrayLen, ht]
  have ht' : P.underlying t = some (.array (P.arrayLen t) (P.elem t)) := by rw [hel, hal]; exact ht
  obtain ⟨info, hin, hsz⟩ := Option.map_eq_some_iff.1 hz
  have hrun : (Instr.sliceAt t (.pointer (some p)) none none none).run P w = .ok (.slice (some p) n n) w := by
    rw [run_sliceAt_array_all (ht := ht')]
    simp [hel, hal, sizeOf, typeInfo, hin, hsz, Result.andThen, slicedAt, Addr.add]
  exact exec_slice ho (by rw [hx]; exact hrun)

set_option maxRecDepth 100000 in
set_option maxHeartbeats 1000000 in
theorem rkey_any (v : Value) (F : List UInt8) (w : World) (hv : Row w w.heap.size 32 18 v (u8s F)) (hk : KIs 2 w) (hin : InIs 0 w) :
    Calls Tryd.prog 63 #[v] w fun e w' => e = .returned (.agg (u8s (Wt.key F)).toArray) ∧ Below w.heap.size w w' := by
  obtain ⟨A, cap, rfl⟩ := row_form hv
  obtain ⟨ad, rfl, _, _⟩ := hv.at_ (by omega)
  have HF := Lib.hid (row_flen hv)
  have hz := zero_dig
  have b0 : Below w.heap.size w (w.alloc (.cells (u8s z32).toArray 25)) := (Below.refl _ _).alloc (Nat.le_refl _) _
  have hr0 : Blk (w.alloc (.cells (u8s z32).toArray 25)) w.heap.size 25 (u8s z32) := Blk.new w _ _
  obtain ⟨W0, hW0⟩ : ∃ W0, W0 = w.alloc (.cells (u8s z32).toArray 25) := ⟨_, rfl⟩
  rw [← hW0] at b0 hr0
  have HW := Lib.hid hW0
  clear hW0
  go_enter Tryd.func63, Tryd.ntmps63
  go_upto_region 1 with (fail)
  rw [← HW.out]
  clear hz
  go_wp2_with fail
  go_loopw [4, 3] (fun i q wr => ∃ k : Nat, i = .int .i64 k ∧ k ≤ 18 ∧ Own wr (w.heap.size + 1) q (F.take (32 * k)) ∧ Blk wr w.heap.size 25 (u8s z32) ∧ Below w.heap.size w wr) (fun i _ _ => 18 - (intOf i).toNat)
  case atStart => exact ⟨0, rfl, by omega, Own.nil_ _ _, hr0, b0⟩
  case round =>
    clear hr0 b0
    obtain ⟨k, rfl, hkn, hq, hr, hb⟩ := hrel
    have hs1 : w.heap.size + 1 ≤ wr.heap.size := hr.lt
    by_cases hlt : k < 18
    · have hel := bs_elem (hv.past hb) hlt
      have HT := Lib.hid (show F.take (32 * k) ++ Wt.el F k = F.take (32 * (k + 1)) by rw [show 32 * (k + 1) = 32 * k + 32 by omega, List.take_add]; rfl)
      have hln : (F.take (32 * k)).length + (Wt.el F k).length ≤ 140737488355328 := by rw [List.length_take, Wt.el_len (n := 18) (by have := HF.out; omega) hlt, HF.out]; omega
      obtain ⟨E, hE⟩ : ∃ E, E = Wt.el F k := ⟨_, rfl⟩
      obtain ⟨T, hT⟩ : ∃ T, T = F.take (32 * k) := ⟨_, rfl⟩
      rw [← hE] at hel HT hln
      rw [← hT] at hq HT hln
      clear hE hT
      go_wp2_with (first
        | (refine wp_run rfl (exec_ixS 29 25 32 Tryd.underlying29 info_dig _ rfl rfl _ _ k rfl rfl hlt (q := ad.add (k * 32)) rfl) ?_)
        | (refine wp_run rfl (exec_sliceP 25 5 32 1 Tryd.underlying25 size_u8 (.tmp 14) rfl (ad.add (k * 32)) rfl _) ?_)
        | (refine wp_apps (w.heap.size + 1) (.tmp 11) (.tmp 15) rfl rfl _ _ T E rfl rfl hq hs1 hel hln ?_; intro v4 w4 o4 b4))
      have hr4 := hr.past b4 (by omega)
      have bb4 := hb.trans (b4.mono (by omega))
      rw [HT.out] at o4
      clear hq hr hel hln hb
      go_roundw
      case rel => exact ⟨k + 1, by go_num, by omega, o4, hr4, bb4⟩
      case measure => simp [intOf]; omega
    · have hk18 : k = 18 := by omega
      have hq' := hq
      rw [hk18, List.take_of_length_le (by have := HF.out; omega)] at hq'
      have hqb := hq'.bs
      have hc := rtagged_any _ Wt.pubT F wr hqb (hk.past hb) (hin.past hb) (by have := HF.out; omega) (by decide)
      have HC := Lib.hid hc
      clear hq hq' hqb hc hk18
      go_wp2_with fail
      refine HC.out.mono ?_
      rintro e w5 ⟨rfl, b5⟩
      have b05 := hb.trans (b5.mono hb.size)
      have hr5 := hr.past b5 hr.lt
      have hs5 : w.heap.size < w5.heap.size := hr5.lt
      clear HC hr b5
      have HKL : Hid ((u8s (Wt.key F)).length = 32) := Lib.hid (by rw [u8s_length, Wt.key_len])
      obtain ⟨D, hD⟩ : ∃ D, D = Wt.key F := ⟨_, rfl⟩
      rw [← hD] at HKL
      have HD := Lib.hid (show Sha.tag Wt.pubT F = D by rw [hD]; rfl)
      rw [HD.out]
      have HDD := Lib.hid hD
      clear hD
      go_wp2_with (refine wp_storeA 25 (.tmp 2) (.tmp 18) rfl rfl w.heap.size rfl 25 (u8s z32) _ rfl hr5 (by rw [info_dig, HKL.out]) (by rw [HKL.out]; rfl) (u8s_one _) rfl ?_; intro w8 hr8 hk8)
      have b08 : Below w.heap.size w w8 := b05.trans (hk8.below (fun q hq => by omega) b05.size)
      refine ret_arr Tryd.results63 rfl w.heap.size 25 _ 32 5 rfl hr8 Tryd.underlying25 (by rw [info_dig, HKL.out]) ?_
      rw [HDD.out]
      exact ⟨rfl, b08⟩
end Go.Proofs.YtccepoeenkpifaaDoor
