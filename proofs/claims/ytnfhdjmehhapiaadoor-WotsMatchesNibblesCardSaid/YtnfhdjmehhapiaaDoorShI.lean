/-
  Walks of package sha256: the hash.
-/
import Derived.Test.YtnfhdjmehhapiaaDoorShH
namespace Go.Proofs.YtnfhdjmehhapiaaDoor
open Go.RowKit
set_option linter.unusedVariables false
set_option linter.unusedSimpArgs false

set_option maxRecDepth 100000 in
set_option maxHeartbeats 1000000 in
theorem sum_any (v : Value) (l : List UInt8) (w : World) (hv : Bs w w.heap.size v l) (hk : KIs 0 w) (hl : l.length ≤ 1000000) :
    Calls Tryd.prog 40 #[v] w fun e w' => e = .returned (.agg (u8s (Sha.sum l)).toArray) ∧ Below w.heap.size w w' := by
  obtain ⟨A, cap, rfl⟩ := hv.form
  have hcap0 : l.length ≤ cap := Row.cap (show Row w w.heap.size 1 l.length (.slice A l.length cap) (u8s l) from hv)
  obtain ⟨L, hL⟩ : ∃ L, L = l.length := ⟨_, rfl⟩
  have HL := Lib.hid hL
  have hv' : Row w w.heap.size 1 L (.slice A L cap) (u8s l) := by rw [hL]; exact hv
  rw [← hL] at hl hcap0 ⊢
  have hz := zero_dig
  have hg1 : 0 < w.heap.size := block_lt_of_cell (hk 0 (by omega))
  clear hL
  go_enter Tryd.func40, Tryd.ntmps40
  go_wp2_with fail
  refine (newState_any _).mono ?_
  rintro e w2 ⟨rfl, hb2⟩
  have hr1 : Blk (w.alloc (.cells (u8s z32).toArray 23)) w.heap.size 23 (u8s z32) := Blk.new w _ _
  have hr2 := hr1.past hb2 hr1.lt
  have hs2 : w.heap.size + 1 ≤ w2.heap.size := by have := hb2.size; simpa using this
  have hb02 : Below w.heap.size w w2 := ((Below.refl _ _).alloc (Nat.le_refl _) _).trans (hb2.mono (by simp))
  clear hr1 hb2
  go_wp2_with (first
    | (refine wp_storeA 64 (.tmp 3) (.tmp 5) rfl rfl w2.heap.size rfl 64 (w32s [0, 0, 0, 0, 0, 0, 0, 0]) (w32s Sha.init.list) rfl (Blk.new w2 _ _) (by rw [info_st]; rfl) rfl (w32s_one _) rfl ?_; intro w3 hb3 hk3)
    | (refine wp_to (.tmp 12) (.tmp 13) rfl rfl rfl (L - L % 64) _ _ rfl (by omega) (by omega) hcap0 ?_))
  have hs3 : w2.heap.size + 1 ≤ w3.heap.size := by have := hk3.size; rwa [World.size_alloc] at this
  have h23 : Below w2.heap.size w2 w3 := by
    have ha : Keep (fun q => q < w2.heap.size) w2 (w2.alloc (.cells (w32s [0, 0, 0, 0, 0, 0, 0, 0]).toArray 64)) := Keep.of_below ((Below.refl _ _).alloc (Nat.le_refl _) _)
    exact (ha.trans (hk3.mono (fun q hq => by omega))).below (fun q hq => hq) (Nat.le_refl _)
  have hr3 := hr2.past h23 (by omega)
  have hb03 : Below w.heap.size w w3 := hb02.trans (h23.mono (by omega))
  have hk3' : KIs 0 w3 := hk.past hb03
  obtain ⟨S, hS⟩ : ∃ S, S = w2.heap.size := ⟨_, rfl⟩
  rw [← hS] at hb3 hs3 ⊢
  have hS0 : w.heap.size < S := by omega
  have hdl : (l.take (L - L % 64)).length = 64 * (L / 64) := by rw [List.length_take, ← HL.out]; omega
  have hd0 : Bs w w.heap.size (.slice A (L - L % 64) cap) (l.take (L - L % 64)) := hv.take_ (L - L % 64) (by have := HL.out; omega)
  have hc1 := each_any S Sha.init _ _ (L / 64) w3 hb3 Sha.init_ok hk3' (by omega) (hd0.carry hb03 (by omega)) ((AtT.of_bs hd0).mono fun b hb => by omega) hdl (by omega)
  have HC1 := Lib.hid hc1
  clear hc1 hd0 hdl hk3 h23 hr2 hb02 hS hz hb3
  refine HC1.out.mono ?_
  rintro e w4 ⟨⟨ve, rfl⟩, hb4, hk4⟩
  have hb04 : Below w.heap.size w w4 := hb03.trans (hk4.below (fun q hq => by omega) hb03.size)
  have hr4 := hr3.keep hk4 (by omega)
  have hs4 := hk4.size
  have hk4' : KIs 0 w4 := hk.past hb04
  have hv4 : Row w4 w4.heap.size 1 L (.slice A L cap) (u8s l) := hv'.carry hb04 hb04.size
  obtain ⟨s1, hs1⟩ : ∃ s1, s1 = Sha.blks (L / 64) Sha.init (l.take (L - L % 64)) := ⟨_, rfl⟩
  have hok1 : s1.ok := by rw [hs1]; exact Sha.blks_ok _ _ Sha.init_ok
  rw [← hs1] at hb4
  have HS1 := Lib.hid hs1
  clear HC1 hs1 hr3 hb03 hk3' hk4
  go_wp2_with (refine wp_cut 29 5 Tryd.underlying29 size_u8 (.tmp 17) (some (.tmp 18)) none rfl rfl rfl hv4 (L - L % 64) (L % 64) (.inr ⟨_, _, rfl, by omega⟩) (.inl ⟨rfl, by omega⟩) (by omega) ?_; intro A1 c1 hrow)
  have hrl : (l.drop (L - L % 64)).length = L % 64 := by rw [List.length_drop, ← HL.out]; omega
  have hcut : Bs w4 w4.heap.size (.slice A1 (L % 64) c1) (l.drop (L - L % 64)) := cut_bs hrow (by have := HL.out; omega)
  have hc2 := padded_any _ _ L w4 hcut (by omega) hrl (by omega)
  have HC2 := Lib.hid hc2
  clear hc2 hcut hrow
  refine HC2.out.mono ?_
  rintro e w5 ⟨v5, rfl, hv5, hT5, hb5⟩
  have hb05 : Below w.heap.size w w5 := hb04.trans (hb5.mono hb04.size)
  have hr5 := hr4.past hb5 hr4.lt
  have hS5 := hb4.past hb5 hb4.lt
  have hs5 := hb5.size
  have hk5' : KIs 0 w5 := hk.past hb05
  have hSlt : S < w4.heap.size := hb4.lt
  have hpm := Sha.pad_mod L
  have hpl : (l.drop (L - L % 64) ++ Sha.pad L).length = 64 * ((L % 64 + (Sha.pad L).length) / 64) := by rw [List.length_append, hrl]; omega
  have hzs : Sha.zs L < 64 := Nat.mod_lt _ (by omega)
  have hpl9 := Sha.pad_len L
  have hc3 := each_any S s1 v5 _ ((L % 64 + (Sha.pad L).length) / 64) w5 hS5 hok1 hk5' (by omega) hv5 (hT5.mono fun b hb => by omega) hpl (by omega)
  have HC3 := Lib.hid hc3
  clear hc3 hpl hpm hzs hpl9 HC2 hT5 hv5 hS5 hb4 hv4 hr4 hb5 hrl
  go_wp2_with fail
  refine HC3.out.mono ?_
  rintro e w6 ⟨⟨ve3, rfl⟩, hb6, hk6⟩
  have hb06 : Below w.heap.size w w6 := hb05.trans (hk6.below (fun q hq => by omega) hb05.size)
  have hr6 := hr5.keep hk6 (by omega)
  have hs6 := hk6.size
  have hfin : Sha.blks ((L % 64 + (Sha.pad L).length) / 64) s1 (l.drop (L - L % 64) ++ Sha.pad L) = Sha.fin l := by
    rw [HS1.out, HL.out]; exact (Sha.fin_parts l).symm
  rw [hfin] at hb6
  have hc4 := digest_any S (Sha.fin l) w6 (Sha.fin_ok l) hb6
  have HC4 := Lib.hid hc4
  clear HC3 hfin hc4 hr5 hk6 hb6
  go_wp2_with fail
  refine HC4.out.mono ?_
  rintro e w7 ⟨rfl, hb7⟩
  have hb07 : Below w.heap.size w w7 := hb06.trans (hb7.mono hb06.size)
  have hr7 := hr6.past hb7 hr6.lt
  have HD : Hid ((u8s (Sha.dgs (Sha.fin l))).length = 32) := Lib.hid (by rw [u8s_length]; rfl)
  obtain ⟨D, hD⟩ : ∃ D, D = Sha.dgs (Sha.fin l) := ⟨_, rfl⟩
  rw [← hD] at HD ⊢
  have HDE := Lib.hid (show D = Sha.sum l from hD)
  clear hD HC4 hr6 hb7
  go_wp2_with (refine wp_storeA 23 (.tmp 2) (.tmp 25) rfl rfl w.heap.size rfl 23 (u8s z32) _ rfl hr7 (by rw [info_dig, HD.out]) (by rw [HD.out]; rfl) (u8s_one _) rfl ?_; intro w8 hr8 hk8)
  have hb08 : Below w.heap.size w w8 := hb07.trans (hk8.below (fun q hq => by omega) hb07.size)
  refine ret_arr Tryd.results40 rfl w.heap.size 23 _ 32 5 rfl hr8 Tryd.underlying23 (by rw [info_dig, HD.out]) ?_
  rw [HDE.out]
  exact ⟨rfl, hb08⟩
end Go.Proofs.YtnfhdjmehhapiaaDoor
