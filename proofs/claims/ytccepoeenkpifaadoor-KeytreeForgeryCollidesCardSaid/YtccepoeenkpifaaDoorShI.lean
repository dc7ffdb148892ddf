/-
  Walks of package sha256: the hash.
  Walks of package sha256: the hash in a domain; pairs; chains.
  Walks of package sha256: chains.
-/
import Derived.Test.YtccepoeenkpifaaDoorShF
namespace Go.Proofs.YtccepoeenkpifaaDoor
section
open Go.RowKit
set_option linter.unusedVariables false
set_option linter.unusedSimpArgs false

set_option maxRecDepth 100000 in
set_option maxHeartbeats 1000000 in
theorem sum_any (v : Value) (l : List UInt8) (w : World) (hv : Bs w w.heap.size v l) (hk : KIs 1 w) (hl : l.length ≤ 1000000) :
    Calls Tryd.prog 48 #[v] w fun e w' => e = .returned (.agg (u8s (Sha.sum l)).toArray) ∧ Below w.heap.size w w' := by
  obtain ⟨A, cap, rfl⟩ := hv.form
  have hcap0 : l.length ≤ cap := Row.cap (show Row w w.heap.size 1 l.length (.slice A l.length cap) (u8s l) from hv)
  obtain ⟨L, hL⟩ : ∃ L, L = l.length := ⟨_, rfl⟩
  have HL := Lib.hid hL
  have hv' : Row w w.heap.size 1 L (.slice A L cap) (u8s l) := by rw [hL]; exact hv
  rw [← hL] at hl hcap0 ⊢
  have hz := zero_dig
  have hg1 : 1 < w.heap.size := block_lt_of_cell (hk 0 (by omega))
  clear hL
  go_enter Tryd.func48, Tryd.ntmps48
  go_wp2_with fail
  refine (newState_any _).mono ?_
  rintro e w2 ⟨rfl, hb2⟩
  have hr1 : Blk (w.alloc (.cells (u8s z32).toArray 25)) w.heap.size 25 (u8s z32) := Blk.new w _ _
  have hr2 := hr1.past hb2 hr1.lt
  have hs2 : w.heap.size + 1 ≤ w2.heap.size := by have := hb2.size; simpa using this
  have hb02 : Below w.heap.size w w2 := ((Below.refl _ _).alloc (Nat.le_refl _) _).trans (hb2.mono (by simp))
  clear hr1 hb2
  go_wp2_with (first
    | (refine wp_storeA 82 (.tmp 3) (.tmp 5) rfl rfl w2.heap.size rfl 82 (w32s [0, 0, 0, 0, 0, 0, 0, 0]) (w32s Sha.init.list) rfl (Blk.new w2 _ _) (by rw [info_st]; rfl) rfl (w32s_one _) rfl ?_; intro w3 hb3 hk3)
    | (refine wp_to (.tmp 12) (.tmp 13) rfl rfl rfl (L - L % 64) _ _ rfl (by omega) (by omega) hcap0 ?_))
  have hs3 : w2.heap.size + 1 ≤ w3.heap.size := by have := hk3.size; rwa [World.size_alloc] at this
  have h23 : Below w2.heap.size w2 w3 := by
    have ha : Keep (fun q => q < w2.heap.size) w2 (w2.alloc (.cells (w32s [0, 0, 0, 0, 0, 0, 0, 0]).toArray 82)) := Keep.of_below ((Below.refl _ _).alloc (Nat.le_refl _) _)
    exact (ha.trans (hk3.mono (fun q hq => by omega))).below (fun q hq => hq) (Nat.le_refl _)
  have hr3 := hr2.past h23 (by omega)
  have hb03 : Below w.heap.size w w3 := hb02.trans (h23.mono (by omega))
  have hk3' : KIs 1 w3 := hk.past hb03
  obtain ⟨S, hS⟩ : ∃ S, S = w2.heap.size := ⟨_, rfl⟩
  rw [← hS] at hb3 hs3 ⊢
  have hS0 : w.heap.size < S := by omega
  have hdl : (l.take (L - L % 64)).length = 64 * (L / 64) := by rw [List.length_take, ← HL.out]; omega
  have hd0 : Bs w w.heap.size (.slice A (L - L % 64) cap) (l.take (L - L % 64)) := hv.take_ (L - L % 64) (by have := HL.out; omega)
  have hc1 := each_any S Sha.init _ _ (L / 64) w3 hb3 Sha.init_ok hk3' (by omega) (hd0.carry hb03 (by omega)) ((AtT.of_bs hd0).mono fun b hb => by omega) hdl (by omega)
  have HC1 := Lib.hid hc1
  clear hc1 hd0 hdl hk3 h23 hr2 hb02 hS hz hb3
  refine HC1.out.mono ?_
  rintro e w4 ⟨⟨ve, rfl⟩, hb4, hk4⟩
  have hb04 : Below w.heap.size w w4 := hb03.trans (hk4.below (fun q hq => by omega) hb03.size)
  have hr4 := hr3.keep hk4 (by omega)
  have hs4 := hk4.size
  have hk4' : KIs 1 w4 := hk.past hb04
  have hv4 : Row w4 w4.heap.size 1 L (.slice A L cap) (u8s l) := hv'.carry hb04 hb04.size
  obtain ⟨s1, hs1⟩ : ∃ s1, s1 = Sha.blks (L / 64) Sha.init (l.take (L - L % 64)) := ⟨_, rfl⟩
  have hok1 : s1.ok := by rw [hs1]; exact Sha.blks_ok _ _ Sha.init_ok
  rw [← hs1] at hb4
  have HS1 := Lib.hid hs1
  clear HC1 hs1 hr3 hb03 hk3' hk4
  go_wp2_with (refine wp_cut 22 5 Tryd.underlying22 size_u8 (.tmp 17) (some (.tmp 18)) none rfl rfl rfl hv4 (L - L % 64) (L % 64) (.inr ⟨_, _, rfl, by omega⟩) (.inl ⟨rfl, by omega⟩) (by omega) ?_; intro A1 c1 hrow)
  have hrl : (l.drop (L - L % 64)).length = L % 64 := by rw [List.length_drop, ← HL.out]; omega
  have hcut : Bs w4 w4.heap.size (.slice A1 (L % 64) c1) (l.drop (L - L % 64)) := cut_bs hrow (by have := HL.out; omega)
  have hc2 := padded_any _ _ L w4 hcut (by omega) hrl (by omega)
  have HC2 := Lib.hid hc2
  clear hc2 hcut hrow
  refine HC2.out.mono ?_
  rintro e w5 ⟨v5, rfl, hv5, hT5, hb5⟩
  have hb05 : Below w.heap.size w w5 := hb04.trans (hb5.mono hb04.size)
  have hr5 := hr4.past hb5 hr4.lt
  have hS5 := hb4.past hb5 hb4.lt
  have hs5 := hb5.size
  have hk5' : KIs 1 w5 := hk.past hb05
  have hSlt : S < w4.heap.size := hb4.lt
  have hpm := Sha.pad_mod L
  have hpl : (l.drop (L - L % 64) ++ Sha.pad L).length = 64 * ((L % 64 + (Sha.pad L).length) / 64) := by rw [List.length_append, hrl]; omega
  have hzs : Sha.zs L < 64 := Nat.mod_lt _ (by omega)
  have hpl9 := Sha.pad_len L
  have hc3 := each_any S s1 v5 _ ((L % 64 + (Sha.pad L).length) / 64) w5 hS5 hok1 hk5' (by omega) hv5 (hT5.mono fun b hb => by omega) hpl (by omega)
  have HC3 := Lib.hid hc3
  clear hc3 hpl hpm hzs hpl9 HC2 hT5 hv5 hS5 hb4 hv4 hr4 hb5 hrl
  go_wp2_with fail
  refine HC3.out.mono ?_
  rintro e w6 ⟨⟨ve3, rfl⟩, hb6, hk6⟩
  have hb06 : Below w.heap.size w w6 := hb05.trans (hk6.below (fun q hq => by omega) hb05.size)
  have hr6 := hr5.keep hk6 (by omega)
  have hs6 := hk6.size
  have hfin : Sha.blks ((L % 64 + (Sha.pad L).length) / 64) s1 (l.drop (L - L % 64) ++ Sha.pad L) = Sha.fin l := by
    rw [HS1.out, HL.out]; exact (Sha.fin_parts l).symm
  rw [hfin] at hb6
  have hc4 := digest_any S (Sha.fin l) w6 (Sha.fin_ok l) hb6
  have HC4 := Lib.hid hc4
  clear HC3 hfin hc4 hr5 hk6 hb6
  go_wp2_with fail
  refine HC4.out.mono ?_
  rintro e w7 ⟨rfl, hb7⟩
  have hb07 : Below w.heap.size w w7 := hb06.trans (hb7.mono hb06.size)
  have hr7 := hr6.past hb7 hr6.lt
  have HD : Hid ((u8s (Sha.dgs (Sha.fin l))).length = 32) := Lib.hid (by rw [u8s_length]; rfl)
  obtain ⟨D, hD⟩ : ∃ D, D = Sha.dgs (Sha.fin l) := ⟨_, rfl⟩
  rw [← hD] at HD ⊢
  have HDE := Lib.hid (show D = Sha.sum l from hD)
  clear hD HC4 hr6 hb7
  go_wp2_with (refine wp_storeA 25 (.tmp 2) (.tmp 25) rfl rfl w.heap.size rfl 25 (u8s z32) _ rfl hr7 (by rw [info_dig, HD.out]) (by rw [HD.out]; rfl) (u8s_one _) rfl ?_; intro w8 hr8 hk8)
  have hb08 : Below w.heap.size w w8 := hb07.trans (hk8.below (fun q hq => by omega) hb07.size)
  refine ret_arr Tryd.results48 rfl w.heap.size 25 _ 32 5 rfl hr8 Tryd.underlying25 (by rw [info_dig, HD.out]) ?_
  rw [HDE.out]
  exact ⟨rfl, hb08⟩
end

section
open Go.RowKit
set_option linter.unusedVariables false
set_option linter.unusedSimpArgs false

theorem extract_str (t : List UInt8) (k : Nat) : (ByteArray.mk t.toArray).extract 0 k = ⟨(t.take k).toArray⟩ := by
  apply ByteArray.ext
  simp [ByteArray.data_extract]

set_option maxRecDepth 100000 in
set_option maxHeartbeats 2000000 in
theorem tagged_any (v : Value) (t l : List UInt8) (w : World) (hv : Bs w w.heap.size v l) (hk : KIs 1 w) (hl : l.length ≤ 100000) (ht : t.length ≤ 100000) :
    Calls Tryd.prog 25 #[str t, v] w fun e w' => e = .returned (.agg (u8s (Sha.tag t l)).toArray) ∧ Below w.heap.size w w' := by
  obtain ⟨A, cap, rfl⟩ := hv.form
  obtain ⟨T, hT⟩ : ∃ T, T = t.take 255 := ⟨_, rfl⟩
  have HTG := Lib.hid (show Sha.tag t l = Sha.sum (Sha.b8 T.length :: (T ++ l)) by rw [hT]; rfl)
  have hTl : T.length ≤ 255 := by rw [hT, List.length_take]; omega
  have HT := Lib.hid hT
  have hz := zero_dig
  have hb1 : Below w.heap.size w (w.alloc (.cells (u8s z32).toArray 25)) := (Below.refl _ _).alloc (Nat.le_refl _) _
  have hv1 := hv.carry hb1 hb1.size
  have hr1 : Blk (w.alloc (.cells (u8s z32).toArray 25)) w.heap.size 25 (u8s z32) := Blk.new w _ _
  unfold str
  have hor : (t.length ≤ 255 ∧ (ByteArray.mk t.toArray).extract 0 t.length = ⟨T.toArray⟩) ∨ (255 < t.length ∧ (ByteArray.mk t.toArray).extract 0 255 = ⟨T.toArray⟩) := by
    by_cases h : t.length ≤ 255
    · exact Or.inl ⟨h, by rw [extract_str, hT, List.take_of_length_le (Nat.le_refl _), List.take_of_length_le h]⟩
    · exact Or.inr ⟨by omega, by rw [extract_str, hT]⟩
  clear hT
  obtain ⟨W1, hW1⟩ : ∃ W1, W1 = w.alloc (.cells (u8s z32).toArray 25) := ⟨_, rfl⟩
  rw [← hW1] at hb1 hv1 hr1
  have hs1 : w.heap.size < W1.heap.size := hr1.lt
  have HW1 := Lib.hid hW1
  clear hW1 hv
  have hcT : ((T.length : Nat) : Int) = ((Sha.b8 T.length).toNat : Int) := by rw [Sha.b8_nat]; omega
  have HCT := Lib.hid hcT
  have hkW : KIs 1 W1 := hk.past hb1
  clear hcT hk
  rcases hor with ⟨h255, hx⟩ | ⟨h255, hx⟩
  all_goals
    go_enter Tryd.func25, Tryd.ntmps25
    go_wp2_with (first
      | (rw [← HW1.out])
      | (refine wp_make0 W1.heap.size _ _ rfl rfl _ (1 + T.length + l.length) rfl rfl (by push_cast; omega) (by omega) (Nat.le_refl _) ?_; intro v2 w2 ho2 hb2)
      | (refine wp_app1 W1.heap.size (.tmp 17) (.tmp 21) rfl rfl v2 [] _ (Sha.b8 T.length) rfl rfl ho2 hb2.size (by simp) HCT.out ?_; intro v3 w3 ho3 hb3)
      | (refine wp_appstr W1.heap.size (.tmp 23) (.tmp 24) rfl rfl v3 _ T rfl rfl ho3 (by have := hb2.size; have := hb3.size; omega) (by simp; omega) ?_; intro v4 w4 ho4 hb4)
      | (refine wp_apps W1.heap.size (.tmp 26) (.tmp 27) rfl rfl v4 _ _ l rfl rfl ho4 (by have := hb2.size; have := hb3.size; have := hb4.size; omega) (hv1.carry (hb2.trans (hb3.trans hb4)) (hb2.trans (hb3.trans hb4)).size) (by simp; omega) ?_; intro v5 w5 ho5 hb5))
    have hb15 : Below W1.heap.size W1 w5 := hb2.trans (hb3.trans (hb4.trans hb5))
    have hlist : ([] ++ [Sha.b8 T.length]) ++ T ++ l = Sha.b8 T.length :: (T ++ l) := by simp
    rw [hlist] at ho5
    have hr5 := hr1.past hb15 hs1
    have hb05 : Below w.heap.size w w5 := hb1.trans (hb15.mono hb1.size)
    have hcall := sum_any v5 (Sha.b8 T.length :: (T ++ l)) w5 ho5.bs (hkW.past hb15) (by simp; omega)
    rw [← HTG.out] at hcall
    have HCALL := Lib.hid hcall
    have HDL : Hid ((u8s (Sha.tag t l)).length = 32) := Lib.hid (by rw [u8s_length, Sha.tag_len])
    clear hcall ho2 ho3 ho4 ho5 hb2 hb3 hb4 hb5 hb15 hlist hx hz
    refine HCALL.out.mono ?_
    rintro e w6 ⟨rfl, hb6⟩
    have hr6 := hr5.past hb6 hr5.lt
    have hb06 := hb05.trans (hb6.mono hb05.size)
    obtain ⟨D, hD⟩ : ∃ D, D = Sha.tag t l := ⟨_, rfl⟩
    rw [← hD] at HDL ⊢
    have HD := Lib.hid hD
    clear hD HCALL hr5 hb6
    go_wp2_with (refine wp_storeA 25 (.tmp 4) (.tmp 29) rfl rfl w.heap.size rfl 25 (u8s z32) _ rfl hr6 (by rw [info_dig, HDL.out]) (by rw [HDL.out]; rfl) (u8s_one _) rfl ?_; intro w8 hr8 hk8)
    have hb08 : Below w.heap.size w w8 := hb06.trans (hk8.below (fun q hq => by omega) hb06.size)
    refine ret_arr Tryd.results25 rfl w.heap.size 25 _ 32 5 rfl hr8 Tryd.underlying25 (by rw [info_dig, HDL.out]) ?_
    rw [HD.out]
    exact ⟨rfl, hb08⟩
end

section
open Go.RowKit
set_option linter.unusedVariables false
set_option linter.unusedSimpArgs false

theorem row_of_blk {w : World} {g B n : Nat} {t : TypeId} {vs : List Value} (h : Blk w g t vs) (hg : g < B) (hn : vs.length = n) (hm : n ≤ maxLen) : Row w B 1 n (.slice (some ⟨g, 0, none⟩) n n) vs := by
  refine ⟨some ⟨g, 0, none⟩, n, rfl, Nat.le_refl _, hm, (fun h => by cases h), by omega, fun a ha _ => ?_⟩
  obtain rfl : (⟨g, 0, none⟩ : Addr) = a := by injection ha
  exact ⟨hg, fun i u hu => by rw [add_zero_addr]; exact h.cell hu⟩

/-- A digest in a block of its own, as a slice. -/
theorem dig_bs {w : World} {g : Nat} {t : TypeId} {x : List UInt8} (h : Blk w g t (u8s x)) (hx : x.length = 32) : Bs w w.heap.size (.slice (some ⟨g, 0, none⟩) 32 32) x := by
  have := h.bs0 h.lt (by rw [hx]; simp [maxLen])
  rwa [hx] at this

set_option maxRecDepth 100000 in
set_option maxHeartbeats 1000000 in
theorem chain_any (x : List UInt8) (n : Int) (w : World) (hx : x.length = 32) (hn : n ≤ 1000) (hn0 : -9223372036854775808 ≤ n) (hk : KIs 1 w) :
    Calls Tryd.prog 46 #[.agg (u8s x).toArray, .int .i64 n] w fun e w' => e = .returned (.agg (u8s (Sha.chain x n.toNat)).toArray) ∧ Below w.heap.size w w' := by
  have hz := zero_dig
  have HX := Lib.hid hx
  clear hx
  obtain ⟨W0, hW0⟩ : ∃ W0, W0 = (w.alloc (.cells (u8s x).toArray 25)).alloc (.cells (u8s z32).toArray 25) := ⟨_, rfl⟩
  have hb0 : Below w.heap.size w W0 := by rw [hW0]; exact ((Below.refl _ _).alloc (Nat.le_refl _) _).alloc (by simp) _
  have hx0 : Blk W0 w.heap.size 25 (u8s (Sha.chain x 0)) := by
    rw [hW0]
    exact (Blk.new w _ _).past ((Below.refl _ _).alloc (Nat.le_refl _) _) (by simp)
  have hr0 : Blk W0 (w.heap.size + 1) 25 (u8s z32) := by
    have h := Blk.new (w.alloc (.cells (u8s x).toArray 25)) 25 (u8s z32)
    rw [World.size_alloc] at h
    rw [hW0]; exact h
  have hs0 : w.heap.size + 1 < W0.heap.size := hr0.lt
  have HW0 := Lib.hid hW0
  clear hW0
  go_enter Tryd.func46, Tryd.ntmps46
  go_wp2_with fail
  rw [← HW0.out]
  clear hz
  go_loopw [6] (fun i wr => ∃ k : Nat, i = .int .i64 k ∧ k ≤ n.toNat ∧ Blk wr w.heap.size 25 (u8s (Sha.chain x k)) ∧ Blk wr (w.heap.size + 1) 25 (u8s z32) ∧ Below w.heap.size w wr) (fun i _ => n.toNat - (intOf i).toNat)
  case atStart => exact ⟨0, rfl, by omega, hx0, hr0, hb0⟩
  case round =>
    obtain ⟨k, rfl, hkn, hxk, hr, hb⟩ := hrel
    by_cases hlt : (k : Int) < n
    · have hcl := Sha.chain_len HX.out k
      have hc := tagged_any (.slice (some ⟨w.heap.size, 0, none⟩) 32 32) Sha.stepT (Sha.chain x k) wr (dig_bs hxk hcl) (hk.past hb) (by rw [hcl]; omega) (by decide)
      have HC := Lib.hid (show _ from hc)
      have HCL := Lib.hid (show (u8s (Sha.chain x k)).length = 32 by rw [u8s_length, hcl])
      have HNL : Hid ((u8s (Sha.chain x (k + 1))).length = 32) := Lib.hid (by rw [u8s_length, Sha.chain_len HX.out])
      clear hc hcl
      go_wp2_with (refine wp_sliceA0 25 5 32 (.tmp 2) rfl rfl Tryd.underlying25 size_u8 w.heap.size rfl ?_)
      refine HC.out.mono ?_
      rintro e w2 ⟨rfl, hb2⟩
      have hx2 := hxk.past hb2 hxk.lt
      have hr2 := hr.past hb2 hr.lt
      have hb02 := hb.trans (hb2.mono hb.size)
      have hs2 : w.heap.size + 1 < w2.heap.size := hr2.lt
      obtain ⟨D, hD⟩ : ∃ D, D = Sha.chain x (k + 1) := ⟨_, rfl⟩
      rw [← hD] at HNL
      have hcd : Sha.tag Sha.stepT (Sha.chain x k) = D := by rw [hD]; rfl
      rw [hcd]
      have HD := Lib.hid hD
      clear hD hcd HC hxk hr hb hb2
      go_wp2_with (refine wp_storeA 25 (.tmp 2) (.tmp 9) rfl rfl w.heap.size rfl 25 (u8s (Sha.chain x k)) _ rfl hx2 (by rw [info_dig, HNL.out]) (by rw [HCL.out, HNL.out]) (u8s_one _) rfl ?_; intro w3 hx3 hk3)
      have hr3 := hr2.keep hk3 (by omega)
      have hb03 := hb02.trans (hk3.below (n := w.heap.size) (fun q hq => by omega) hb02.size)
      go_roundw
      case rel => exact ⟨k + 1, by go_num, by omega, by rw [← HD.out]; exact hx3, hr3, hb03⟩
      case measure => simp [intOf]; omega
    · obtain ⟨D, hD⟩ : ∃ D, D = Sha.chain x n.toNat := ⟨_, rfl⟩
      have hkk : k = n.toNat := by omega
      rw [hkk, ← hD] at hxk
      have HDL : Hid ((u8s D).length = 32) := Lib.hid (by rw [u8s_length, hD, Sha.chain_len HX.out])
      have HD := Lib.hid hD
      have hs1 : w.heap.size + 1 < wr.heap.size := hr.lt
      clear hD hkk
      go_upto_region 5 with (fail)
      refine wp_region_lit ?_
      refine wp_loadA 25 (.tmp 2) rfl rfl w.heap.size rfl 25 _ 32 5 hxk Tryd.underlying25 (by rw [info_dig, HDL.out]) ?_
      refine wp_storeA 25 (.tmp 4) (.tmp 11) rfl rfl (w.heap.size + 1) rfl 25 (u8s z32) _ rfl hr (by rw [info_dig, HDL.out]) (by rw [HDL.out]; rfl) (u8s_one _) rfl ?_
      intro w2 hr2 hk2
      have hbl2 := hb.trans (hk2.below (n := w.heap.size) (fun q hq => by omega) hb.size)
      clear hxk hr hb hk2
      go_wp2
      refine ret_arr Tryd.results46 rfl (w.heap.size + 1) 25 _ 32 5 rfl hr2 Tryd.underlying25 (by rw [info_dig, HDL.out]) ?_
      rw [HD.out]
      exact ⟨rfl, hbl2⟩
end
end Go.Proofs.YtccepoeenkpifaaDoor
