/-
  Package keytree: the message digest, widths of trees.
  Package keytree: the level above a level.
-/
import Derived.Test.YtccepoeenkpifaaDoorWtJ
import Derived.Test.YtccepoeenkpifaaDoorKtm
import Derived.Test.YtccepoeenkpifaaDoorShL
import Derived.Test.YtccepoeenkpifaaDoorWtK
namespace Go.Proofs.YtccepoeenkpifaaDoor
section
open Go.RowKit
set_option linter.unusedVariables false
set_option linter.unusedSimpArgs false

set_option maxRecDepth 100000 in
set_option maxHeartbeats 1000000 in
theorem ones_any (n : Nat) (w : World) (hn : n ≤ 64) :
    Calls Tryd.prog 77 #[.int .u64 n] w fun e w' => (∃ c : Int, e = .returned (.int .i64 c) ∧ (c == 1) = Kt.isw n) ∧ w = w' := by
  have hb : (n : Int) < 18446744073709551616 := by omega
  go_enter Tryd.func77, Tryd.ntmps77
  go_wp2
  go_ret
  refine ⟨⟨_, rfl, ?_⟩, rfl⟩
  clear hb
  revert n
  decide +kernel

theorem onesCount_any (n : Nat) (w : World) (hn : n ≤ 64) :
    Calls Tryd.prog 62 #[.int .u64 n] w fun e w' => (∃ c : Int, e = .returned (.int .i64 c) ∧ (c == 1) = Kt.isw n) ∧ w = w' := by
  have HC := Lib.hid (ones_any n w hn)
  go_enter Tryd.func62, Tryd.ntmps62
  go_wp2_with fail
  refine HC.out.mono ?_
  rintro e w2 ⟨⟨c, rfl, h⟩, rfl⟩
  have H := Lib.hid h
  clear h HC
  go_wp2_with fail
  go_ret
  exact ⟨⟨c, rfl, H.out⟩, rfl⟩

theorem isw_big {n : Nat} (h : ¬ n ≤ 64) : Kt.isw n = false := by
  unfold Kt.isw
  simp only [Bool.or_eq_false_iff, beq_eq_false_iff_ne]
  omega

theorem isWidth_any (n : Nat) (w : World) (hm : n ≤ 9223372036854775807) :
    Calls Tryd.prog 38 #[.int .i64 n] w fun e w' => e = .returned (.bool (Kt.isw n)) ∧ w = w' := by
  by_cases hn : n ≤ 64
  · have HC := Lib.hid (onesCount_any n w hn)
    go_enter Tryd.func38, Tryd.ntmps38
    go_wp2_with fail
    refine HC.out.mono ?_
    rintro e w2 ⟨⟨c, rfl, h⟩, rfl⟩
    have H := Lib.hid h
    clear h HC
    go_wp2_with fail
    go_ret
    rw [← H.out]
    exact ⟨rfl, rfl⟩
  · have H := Lib.hid (isw_big hn)
    go_enter Tryd.func38, Tryd.ntmps38
    go_wp2
    go_ret
    rw [H.out]
    exact ⟨rfl, rfl⟩

set_option maxRecDepth 100000 in
theorem msg_any (v : Value) (l : List UInt8) (w : World) (hv : Bs w w.heap.size v l) (hk : KIs 1 w) (hl : l.length ≤ 90000) :
    Calls Tryd.prog 35 #[v] w fun e w' => e = .returned (.agg (u8s (Sha.tag [109, 115, 103] l)).toArray) ∧ Below w.heap.size w w' := by
  have hz := zero_dig
  obtain ⟨A, cap, rfl⟩ := hv.form
  have b0 : Below w.heap.size w (w.alloc (.cells (u8s z32).toArray 25)) := (Below.refl _ _).alloc (Nat.le_refl _) _
  have hr0 := Blk.new w 25 (u8s z32)
  obtain ⟨W0, hW0⟩ : ∃ W0, W0 = w.alloc (.cells (u8s z32).toArray 25) := ⟨_, rfl⟩
  rw [← hW0] at b0 hr0
  have HC := Lib.hid (tagged_any (.slice A l.length cap) [109, 115, 103] l W0 (hv.past b0) (hk.past b0) (by omega) (by decide))
  have HDL := Lib.hid (show (u8s (Sha.tag [109, 115, 103] l)).length = 32 by rw [u8s_length, Sha.tag_len])
  have HW := Lib.hid hW0
  clear hW0 hv hk
  go_enter Tryd.func35, Tryd.ntmps35
  go_upto_region 1 with (fail)
  rw [← HW.out]
  clear hz
  go_wp2_with fail
  refine HC.out.mono ?_
  rintro e w2 ⟨rfl, b2⟩
  have hr2 := hr0.past b2 hr0.lt
  have b02 := b0.trans (b2.mono b0.size)
  obtain ⟨D, hD⟩ : ∃ D, D = Sha.tag [109, 115, 103] l := ⟨_, rfl⟩
  rw [← hD] at HDL ⊢
  have HD := Lib.hid hD
  clear hD HC hr0 b0 b2
  go_wp2_with (refine wp_storeA 25 (.tmp 2) (.tmp 4) rfl rfl w.heap.size rfl 25 (u8s z32) _ rfl hr2 (by rw [info_dig, HDL.out]) (by rw [HDL.out]; rfl) (u8s_one _) rfl ?_; intro w8 hr8 hk8)
  have hb08 : Below w.heap.size w w8 := b02.trans (hk8.below (fun q hq => by omega) b02.size)
  refine ret_arr Tryd.results35 rfl w.heap.size 25 _ 32 5 rfl hr8 Tryd.underlying25 (by rw [info_dig, HDL.out]) ?_
  rw [HD.out]
  exact ⟨rfl, hb08⟩
end

section
open Go.RowKit
set_option linter.unusedVariables false
set_option linter.unusedSimpArgs false

/-- 'make([]Digest, n)' -/
theorem wp_makeD {ops : Array Oper} {rest : List Oper} {o : Oper} {a : Act} {Q : Exit → Act → World → Prop} {w : World} (c d : Operand)
    (ho : o.op = Op.makeSlice 29 c d) (hgd : o.guard = none) (I J : Int) (n : Nat) (hc : a.eval c = .int .i64 I) (hd : a.eval d = .int .i64 J) (hI : I = (n : Int)) (hJ : J = (n : Int)) (hn : n ≤ 1000000)
    (h : ∀ w', Blk w' w.heap.size 25 (u8s (List.replicate (32 * n) 0)) → Below w.heap.size w w' → wpList Tryd.prog ops Q rest (a.put o.dst (.slice (some ⟨w.heap.size, 0, none⟩) n n)) w') :
    wpList Tryd.prog ops Q (o :: rest) a w := by
  subst hI hJ
  obtain ⟨i0, hi, hz0, hz1, hz2⟩ := info_parts info_dg
  refine wpList_plain hgd fun K hK => ?_
  have hr := run_make (P := Tryd.prog) w 29 25 i0 (.agg (u8s z32).toArray) Tryd.underlying29 hi hz0 .i64 .i64 n n (by omega) (Int.le_refl _) (by rw [hz2]; omega) (by omega)
  unfold Oper.wp execOp
  simp only [ho, hc, hd, Sem.run_bind, Sem.run_pure, Result.andThen_ok, hr, Int.toNat_natCast, hz1]
  have hcell : madeCells (Value.agg (u8s z32).toArray).cells (n * 32) = (u8s (List.replicate (32 * n) 0)).toArray := by
    apply Array.ext
    · simp [madeCells, u8s]; omega
    · intro i h1 h2
      have h3 : i % 32 < 32 := Nat.mod_lt _ (by decide)
      simp [-List.reduceReplicate, madeCells, u8s, z32, Value.cells, u8, h3]
  rw [hcell]
  exact hK _ _ (h _ (Blk.new w _ _) ((Below.refl _ _).alloc (Nat.le_refl _) _))

theorem fill_put {f : Nat → List UInt8} {n k : Nat} (hf : ∀ i, (f i).length = 32) (hk : k < n) :
    (u8s (Kt.fillTo f n k)).take (k * 32) ++ u8s (f k) ++ (u8s (Kt.fillTo f n k)).drop (k * 32 + (u8s (f k)).length) = u8s (Kt.fillTo f n (k + 1)) := by
  have h := Kt.fillTo_put (n := n) hf hk
  rw [u8s_length, hf k, ← h, u8s_append, u8s_append, Nat.mul_comm k 32]
  unfold u8s
  rw [List.map_take, List.map_drop]

set_option maxRecDepth 100000 in
set_option maxHeartbeats 1000000 in
theorem parents_any (v : Value) (F : List UInt8) (n m : Nat) (w : World) (hv : Row w w.heap.size 32 n v (u8s F)) (hn : n = 2 * m) (hm : m ≤ 1000) (hk : KIs 1 w) :
    Calls Tryd.prog 54 #[v] w fun e w' => e = .returned (.slice (some ⟨w.heap.size, 0, none⟩) m m) ∧ Blk w' w.heap.size 25 (u8s (Kt.par F m)) ∧ Below w.heap.size w w' := by
  obtain ⟨A, cap, rfl⟩ := row_form hv
  have HFL := Lib.hid (row_flen hv)
  have HN := Lib.hid hn
  have HF := Lib.hid (Kt.parE_len F)
  have hnb : n ≤ 2000 := by omega
  clear hn
  go_enter Tryd.func54, Tryd.ntmps54
  go_wp2_with (refine wp_makeD (.tmp 7) (.tmp 7) rfl rfl _ _ m rfl rfl (by have := HN.out; omega) (by have := HN.out; omega) (by omega) ?_; intro w1 h1 b1)
  rw [← Kt.fillTo_zero (Kt.parE F) m] at h1
  obtain ⟨X0, hX0⟩ : ∃ X, X = Kt.fillTo (Kt.parE F) m 0 := ⟨_, rfl⟩
  rw [← hX0] at h1
  have HX0 := Lib.hid hX0
  clear hX0
  go_loopw [11] (fun i wr => ∃ (k : Nat) (X : List UInt8), i = .int .i64 k ∧ k ≤ m ∧ Hid (X = Kt.fillTo (Kt.parE F) m k) ∧ Blk wr w.heap.size 25 (u8s X) ∧ Below w.heap.size w wr) (fun i _ => m - (intOf i).toNat)
  case atStart => exact ⟨0, X0, rfl, by omega, HX0, h1, b1⟩
  case round =>
    clear h1 b1 HX0
    obtain ⟨k, X, rfl, hkm, HX, hx, hb⟩ := hrel
    by_cases hlt : k < m
    · have HXL := Lib.hid (show (u8s X).length = 32 * m by rw [u8s_length, HX.out, Kt.fillTo_len HF.out hkm])
      have HPUT := Lib.hid (show (u8s X).take (k * 32) ++ u8s (Kt.parE F k) ++ (u8s X).drop (k * 32 + (u8s (Kt.parE F k)).length) = u8s (Kt.fillTo (Kt.parE F) m (k + 1)) by rw [HX.out]; exact fill_put HF.out hlt)
      have h2a : 2 * k < n := by have := HN.out; omega
      have h2b : 2 * k + 1 < n := by have := HN.out; omega
      have rv := hv.carry hb hb.size
      obtain ⟨ad, rfl, _, _⟩ := hv.at_ (by omega)
      obtain ⟨x, hxe⟩ : ∃ x, x = Wt.el F (2 * k) := ⟨_, rfl⟩
      obtain ⟨y, hye⟩ : ∃ y, y = Wt.el F (2 * k + 1) := ⟨_, rfl⟩
      have HXE := Lib.hid (show x.length = 32 by rw [hxe]; exact Wt.el_len (n := n) (by have := HFL.out; omega) h2a)
      have HYE := Lib.hid (show y.length = 32 by rw [hye]; exact Wt.el_len (n := n) (by have := HFL.out; omega) h2b)
      have HUX := Lib.hid (show (u8s x).length = 32 by rw [u8s_length, HXE.out])
      have HUY := Lib.hid (show (u8s y).length = 32 by rw [u8s_length, HYE.out])
      have cx := fun (W : World) (hW : Below w.heap.size w W) => row_elem (hv.carry hW hW.size) h2a
      have cy := fun (W : World) (hW : Below w.heap.size w W) => row_elem (hv.carry hW hW.size) h2b
      rw [← hxe] at cx
      rw [← hye] at cy
      have HD := Lib.hid (show Kt.parE F k = Sha.tag Sha.pairT (x ++ y) by rw [hxe, hye]; rfl)
      have CX := Lib.hid cx
      have CY := Lib.hid cy
      clear cx cy hxe hye rv
      go_upto_region 5 with (fail)
      refine wp_region_pt w.heap.size (.take 0 (.take 1 (.take 2 (.take 3 (.take 4 (.take 5 (.take 6 (.take 7 (.take 8 (.take 9 (.take 10 (.take 11 (.take 12 (.step 13 (.take 14 (.step 15 .done)))))))))))))))) (by kernel_rfl) (by kernel_rfl) (by kernel_rfl) (fun _ _ h => h) ?_
      have b1 : Below w.heap.size w wr.drew := hb.drew
      have x1 := hx.drew
      obtain ⟨w1, hw1⟩ : ∃ w1, w1 = wr.drew := ⟨_, rfl⟩
      rw [← hw1] at b1 x1 ⊢
      clear hw1 hx hb
      first | refine pt_skip rfl rfl rfl rfl ?_ | (refine pt_take rfl rfl rfl rfl ?_; apply Exists.intro; refine ⟨fun w' hw' => ?_, ?_⟩; focus ((repeat (first | go_skip | go_guarded | go_step | go_upon | go_back)); exact ⟨rfl, rfl, rfl⟩))
      first | refine pt_skip rfl rfl rfl rfl ?_ | (refine pt_take rfl rfl rfl rfl ?_; apply Exists.intro; refine ⟨fun w' hw' => ?_, ?_⟩; focus ((repeat (first | go_skip | go_guarded | go_step | go_upon | go_back)); exact ⟨rfl, rfl, rfl⟩))
      first | refine pt_skip rfl rfl rfl rfl ?_ | (refine pt_take rfl rfl rfl rfl ?_; apply Exists.intro; refine ⟨fun w' hw' => ?_, ?_⟩; focus ((repeat (first | go_skip | go_guarded | go_step | go_upon | go_back)); exact ⟨rfl, rfl, rfl⟩))
      first | refine pt_skip rfl rfl rfl rfl ?_ | (refine pt_take rfl rfl rfl rfl ?_; apply Exists.intro; refine ⟨fun w' hw' => ?_, ?_⟩; focus ((repeat (first | go_skip | go_guarded | go_step | go_upon | go_back)); exact ⟨rfl, rfl, rfl⟩))
      first | refine pt_skip rfl rfl rfl rfl ?_ | (refine pt_take rfl rfl rfl rfl ?_; apply Exists.intro; refine ⟨fun w' hw' => ?_, ?_⟩; focus ((repeat (first | go_skip | go_guarded | go_step | go_upon | go_back)); exact ⟨rfl, rfl, rfl⟩))
      refine pt_take rfl rfl rfl rfl ?_
      apply Exists.intro
      refine ⟨fun w' hw' => ?_, ?_⟩
      · refine wp_run rfl (exec_ixS 29 25 32 Tryd.underlying29 info_dig w' rfl rfl _ _ (2 * k) rfl (by push_cast; rfl) h2a (q := ad.add (2 * k * 32)) rfl) ?_
        exact ⟨rfl, rfl, rfl⟩
      refine pt_take rfl rfl rfl rfl ?_
      apply Exists.intro
      refine ⟨fun w' hw' => ?_, ?_⟩
      · refine wp_run rfl (exec_loadP 25 rfl (ad.add (2 * k * 32)) rfl (u8s x) 32 5 (CX.out w' (b1.trans hw')) Tryd.underlying25 (by rw [info_dig, HUX.out])) ?_
        exact ⟨rfl, rfl, rfl⟩
      first | refine pt_skip rfl rfl rfl rfl ?_ | (refine pt_take rfl rfl rfl rfl ?_; apply Exists.intro; refine ⟨fun w' hw' => ?_, ?_⟩; focus ((repeat (first | go_skip | go_guarded | go_step | go_upon | go_back)); exact ⟨rfl, rfl, rfl⟩))
      first | refine pt_skip rfl rfl rfl rfl ?_ | (refine pt_take rfl rfl rfl rfl ?_; apply Exists.intro; refine ⟨fun w' hw' => ?_, ?_⟩; focus ((repeat (first | go_skip | go_guarded | go_step | go_upon | go_back)); exact ⟨rfl, rfl, rfl⟩))
      first | refine pt_skip rfl rfl rfl rfl ?_ | (refine pt_take rfl rfl rfl rfl ?_; apply Exists.intro; refine ⟨fun w' hw' => ?_, ?_⟩; focus ((repeat (first | go_skip | go_guarded | go_step | go_upon | go_back)); exact ⟨rfl, rfl, rfl⟩))
      first | refine pt_skip rfl rfl rfl rfl ?_ | (refine pt_take rfl rfl rfl rfl ?_; apply Exists.intro; refine ⟨fun w' hw' => ?_, ?_⟩; focus ((repeat (first | go_skip | go_guarded | go_step | go_upon | go_back)); exact ⟨rfl, rfl, rfl⟩))
      refine pt_take rfl rfl rfl rfl ?_
      apply Exists.intro
      refine ⟨fun w' hw' => ?_, ?_⟩
      · refine wp_run rfl (exec_ixS 29 25 32 Tryd.underlying29 info_dig w' rfl rfl _ _ (2 * k + 1) rfl (by push_cast; rfl) h2b (q := ad.add ((2 * k + 1) * 32)) rfl) ?_
        exact ⟨rfl, rfl, rfl⟩
      refine pt_take rfl rfl rfl rfl ?_
      apply Exists.intro
      refine ⟨fun w' hw' => ?_, ?_⟩
      · refine wp_run rfl (exec_loadP 25 rfl (ad.add ((2 * k + 1) * 32)) rfl (u8s y) 32 5 (CY.out w' (b1.trans hw')) Tryd.underlying25 (by rw [info_dig, HUY.out])) ?_
        exact ⟨rfl, rfl, rfl⟩
      refine pt_step rfl ?_
      go_wp2_with fail
      refine (pair_any x y w1 HXE.out HYE.out (hk.past b1)).mono ?_
      rintro e w2 ⟨rfl, b2⟩
      go_wp2_with fail
      refine ⟨rfl, b2.mono b1.size, ?_⟩
      have x2 := x1.past b2 x1.lt
      have b3 := b1.trans (b2.mono b1.size)
      rw [← HD.out]
      obtain ⟨D, hD⟩ : ∃ D, D = Kt.parE F k := ⟨_, rfl⟩
      rw [← hD] at HPUT ⊢
      have HDL := Lib.hid (show (u8s D).length = 32 by rw [hD, u8s_length, HF.out])
      clear hD HD b2 x1 b1
      refine pt_take rfl rfl rfl rfl ?_
      apply Exists.intro
      refine ⟨fun w' hw' => ?_, ?_⟩
      · refine wp_run rfl (exec_ixS 29 25 32 Tryd.underlying29 info_dig w' rfl rfl _ _ k rfl rfl hlt (q := ⟨w.heap.size, k * 32, none⟩) (add_zero_addr _ _).symm) ?_
        exact ⟨rfl, rfl, rfl⟩
      refine pt_step rfl ?_
      go_wp2_with (refine wp_storeM 25 (.tmp 28) (.tmp 27) rfl rfl w.heap.size (k * 32) rfl 25 _ (u8s D) rfl x2 (by rw [info_dig, HDL.out]) (by rw [HDL.out, HXL.out]; omega) (u8s_one _) rfl ?_; intro w4 x4 k4)
      rw [HPUT.out] at x4
      have b4 : Below w.heap.size w2 w4 := k4.below (fun q hq => by omega) b3.size
      refine ⟨rfl, b4, ?_⟩
      change Exit.inBlock _ _ Exit.normal _ _
      have bb4 := b3.trans b4
      obtain ⟨X2, hX2⟩ : ∃ X, X = Kt.fillTo (Kt.parE F) m (k + 1) := ⟨_, rfl⟩
      rw [← hX2] at x4
      have HX2 := Lib.hid hX2
      clear hX2 x2 b3 k4 b4 HPUT HX
      go_wp2
      go_roundw
      case rel => exact ⟨k + 1, X2, by go_num, by omega, HX2, x4, bb4⟩
      case measure => simp [intOf]; omega
    · have hkm2 : k = m := by omega
      subst hkm2
      have HX2 := Lib.hid (show X = Kt.par F k by rw [HX.out, Kt.fillTo_done]; rfl)
      clear HX
      go_wp2
      go_ret
      rw [← HX2.out]
      exact ⟨rfl, hx, hb⟩
end
end Go.Proofs.YtccepoeenkpifaaDoor
