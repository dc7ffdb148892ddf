/-
  Package keytree: Root.
-/
import Derived.Test.YtccepoeenkpifaaDoorKtG
namespace Go.Proofs.YtccepoeenkpifaaDoor
open Go.RowKit Go.Shelf
attribute [local go_sem] Oper.semAt_some
set_option linter.unusedVariables false
set_option linter.unusedSimpArgs false

set_option maxRecDepth 100000 in
set_option maxHeartbeats 1000000 in
theorem root_no (v : Value) (s : List UInt8) (w : World) (hv : Bs w w.heap.size v s) (h : ¬ (1 ≤ s.length ∧ s.length ≤ 64)) :
    Calls Tryd.prog 12 #[v] w fun e w' => e = .returned (.tuple #[.agg (u8s z32).toArray, .int .i64 1]) ∧ Below w.heap.size w w' := by
  obtain ⟨A, cap, rfl⟩ := hv.form
  have hz := zero_dig
  have hz4 := zero_4
  have r0 := Blk.new w 25 (u8s z32)
  have b0 : Below w.heap.size w (w.alloc (.cells (u8s z32).toArray 25)) := (Below.refl _ _).alloc (Nat.le_refl _) _
  obtain ⟨W0, hW0⟩ : ∃ W, W = w.alloc (.cells (u8s z32).toArray 25) := ⟨_, rfl⟩
  rw [← hW0] at r0 b0
  have HW := Lib.hid hW0
  have HC := Lib.hid (leavesOf_no (.slice A s.length cap) s W0 (hv.past b0) h)
  have HLZ : Hid ((u8s z128).length = 128) := Lib.hid rfl
  have HGW : Hid (w.heap.size = w.heap.size) := Lib.hid rfl
  clear hW0 hv h
  go_enter Tryd.func12, Tryd.ntmps12
  go_upto_region 1 with (fail)
  rw [← HW.out]
  clear hz
  go_wp2_with fail
  refine HC.out.mono ?_
  rintro e w2 ⟨rfl, b2⟩
  have r2 := r0.past b2 r0.lt
  have bb2 := b0.trans (b2.mono b0.size)
  have x2 := Blk.new w2 51 (u8s z128)
  have bx : Below w2.heap.size w2 (w2.alloc (.cells (u8s z128).toArray 51)) := (Below.refl _ _).alloc (Nat.le_refl _) _
  clear HC b2 r0 b0
  go_upto_region 2 with (refine wp_storeA 51 (.tmp 4) (.tmp 11) rfl rfl w2.heap.size rfl 51 (u8s z128) (u8s z128) rfl x2 (by rw [info_4, HLZ.out]) rfl (u8s_one _) rfl ?_; intro w3 x3 k3)
  have b3 : Below w2.heap.size w2 w3 := ((Keep.of_below bx).trans (k3.mono (O' := fun q => q < w2.heap.size) (fun q hq => by omega))).below (fun q hq => hq) (Nat.le_refl _)
  have r3 := r2.past b3 r2.lt
  have bb3 := bb2.trans (b3.mono bb2.size)
  have hz := zero_dig
  clear x2 bx k3 b3 r2 bb2 x3 hz4
  go_wp2_with (refine wp_storeA 25 (.tmp 2) (.tmp 15) rfl rfl w.heap.size rfl 25 (u8s z32) (u8s z32) rfl r3 (by rw [info_dig]; rfl) rfl (u8s_one _) rfl ?_; intro w8 h8 k8)
  have b8 : Below w.heap.size w w8 := bb3.trans (k8.below (fun q hq => by omega) bb3.size)
  refine ret_arr_tmp Tryd.results12 rfl w.heap.size 25 _ 32 5 rfl h8 Tryd.underlying25 (by rw [info_dig]; rfl) _ rfl ?_
  exact ⟨rfl, b8⟩

theorem lvs_flen (s : List UInt8) : (lvs s).length = 32 * 2 ^ 2 := lvs_len s

/-- What the rounds of Root's loop keep. -/
def RootI (S g : Nat) (w : World) (F : List UInt8) (M : Nat → Prop) (k : Nat) (W : World) : Prop :=
  ∃ X : List UInt8, (∀ b, M b ↔ b = g) ∧ Hid (X.length = 32) ∧ Hid (k = 3 → X = Kt.mrk F 2) ∧ Blk W g 25 (u8s X) ∧ Blk W S 25 (u8s z32) ∧ Below S w W

set_option maxRecDepth 100000 in
set_option maxHeartbeats 1000000 in
theorem root_yes (v : Value) (s : List UInt8) (w : World) (hv : Bs w w.heap.size v s) (h1 : 1 ≤ s.length) (h2 : s.length ≤ 64) (hk : KIs 1 w) :
    Calls Tryd.prog 12 #[v] w fun e w' => e = .returned (.tuple #[.agg (u8s (Kt.mrk (lvs s) 2)).toArray, .int .i64 0]) ∧ Below w.heap.size w w' := by
  obtain ⟨A, cap, rfl⟩ := hv.form
  have hz := zero_dig
  have hz4 := zero_4
  have r0 := Blk.new w 25 (u8s z32)
  have b0 : Below w.heap.size w (w.alloc (.cells (u8s z32).toArray 25)) := (Below.refl _ _).alloc (Nat.le_refl _) _
  obtain ⟨W0, hW0⟩ : ∃ W, W = w.alloc (.cells (u8s z32).toArray 25) := ⟨_, rfl⟩
  rw [← hW0] at r0 b0
  have HW := Lib.hid hW0
  have HC := Lib.hid (leavesOf_yes (.slice A s.length cap) s W0 (hv.past b0) h1 h2 (hk.past b0))
  have hglt : 1 < w.heap.size := block_lt_of_cell (hk 0 (by decide))
  obtain ⟨F, hF⟩ : ∃ F, F = lvs s := ⟨_, rfl⟩
  have HFL := Lib.hid (show F.length = 32 * 2 ^ 2 by rw [hF, lvs_flen])
  have HUF := Lib.hid (show (u8s F).length = 128 by rw [u8s_length, hF, lvs_len])
  rw [← hF] at HC ⊢
  have HK := Lib.hid hk
  clear hW0 hv hF hk
  refine (callsIn_wide (n := 0)).1 ?_
  refine callsIn_of_wp_marks Tryd.func12 rfl trivial ?_ rfl
  simp only [Tryd.ntmps12, List.size_toArray, List.length_cons, List.length_nil, Nat.reduceAdd, Nat.reduceSub, Array.replicate_succ, Array.replicate_zero, List.push_toArray, List.append_toArray, List.nil_append, List.cons_append]
  gi_wp2_with fail
  rw [← HW.out]
  refine ⟨trivial, rfl, (callsIn_wide.2 HC.out).mono ?_⟩
  rintro e w2 ⟨rfl, b2⟩
  have r2 := r0.past b2 r0.lt
  have bb2 := b0.trans (b2.mono b0.size)
  have x2 := Blk.new w2 51 (u8s z128)
  have bx : Below w2.heap.size w2 (w2.alloc (.cells (u8s z128).toArray 51)) := (Below.refl _ _).alloc (Nat.le_refl _) _
  clear HC b2 r0 b0
  gi_wp2_with (refine wpi_storeA 51 (.tmp 4) (.tmp 11) rfl rfl w2.heap.size rfl 51 (u8s z128) (u8s F) rfl x2 (by rw [info_4, HUF.out]) (by rw [HUF.out]; rfl) (u8s_one _) rfl ?_; intro w3 x3 k3)
  have b3 : Below w2.heap.size w2 w3 := ((Keep.of_below bx).trans (k3.mono (O' := fun q => q < w2.heap.size) (fun q hq => by omega))).below (fun q hq => hq) (Nat.le_refl _)
  have r3 := r2.past b3 r2.lt
  have bb3 := bb2.trans (b3.mono bb2.size)
  obtain ⟨g4, hg4⟩ : ∃ g, g = w2.heap.size := ⟨_, rfl⟩
  rw [← hg4] at x3 ⊢
  clear hg4 x2 bx k3 b3 r2 bb2 hz4
  refine ⟨trivial, rfl, (callsIn_wide.2 (levels_any (some ⟨g4, 0, none⟩) 4 4 _)).mono ?_⟩
  rintro e w4 ⟨rfl, rfl⟩
  obtain ⟨W3, hW3⟩ : ∃ W, W = (w3.alloc (.cells (u8s z32).toArray 25)).alloc (.cells #[.slice (some ⟨g4, 0, none⟩) 4 4] 29) := ⟨_, rfl⟩
  have c3 : Below w3.heap.size w3 W3 := by rw [hW3]; exact ((Below.refl _ _).alloc (Nat.le_refl _) _).alloc (by simp) _
  have hs3 : W3.heap.size = w3.heap.size + 2 := by rw [hW3]; simp
  have q3 : Blk W3 w3.heap.size 25 (u8s z32) := by
    rw [hW3]; exact (Blk.new w3 25 (u8s z32)).past ((Below.refl _ _).alloc (Nat.le_refl _) _) (by simp)
  have c2 : W3.cell? ⟨w3.heap.size + 1, 0, none⟩ = some (.slice (some ⟨g4, 0, none⟩) 4 4) := by
    have h := Blk.new (w3.alloc (.cells (u8s z32).toArray 25)) 29 [.slice (some ⟨g4, 0, none⟩) 4 4]
    rw [World.size_alloc] at h
    rw [hW3]; exact h.cell (j := 0) rfl
  have x4 := x3.past c3 x3.lt
  have hx3 := x3.lt
  have hr3 := r3.lt
  have r4 := r3.past c3 r3.lt
  have bb4 := bb3.trans (c3.mono bb3.size)
  have HROW := Lib.hid (row_of_blkS (s := 32) (n := 4) x4 x4.lt (by rw [HUF.out]) (by decide))
  have HC := Lib.hid (And.intro q3 (And.intro c2 r4))
  have HW3 := Lib.hid hW3
  have hgr : w.heap.size ≤ w3.heap.size := bb3.size
  obtain ⟨gr, hgrr⟩ : ∃ g, g = w3.heap.size := ⟨_, rfl⟩
  rw [← hgrr] at hs3 hx3 hr3 hgr HC
  have HGR := Lib.hid hgrr
  have hs3' : gr + 2 ≤ W3.heap.size := by omega
  have hgw : 1 < gr := by omega
  clear c3 q3 c2 x3 x4 r3 r4 hs3
  gi_wp2_with fail
  rw [← hW3]
  simp only [← hgrr]
  clear hW3 hgrr
  refine wp_rangeM (gf := 53) (lb := #[.pointer (some ⟨gr + 1, 0, none⟩)]) (T := fun b => b < gr) (Item := ItemD) (items := lvls F 2) rfl (enters_of Tryd.func53 (by kernel_rfl) rfl) (fun b h => by omega)
    ?hItem ?hseq (RootI w.heap.size gr w F) (fun b => b = gr) (fun b hb h => by omega) ?h0 ?hlt ?hI
    (fun v => { tmps := #[.slice A s.length cap, undef, .pointer (some ⟨w.heap.size, 0, none⟩), .int .i64 0, .pointer (some ⟨g4, 0, none⟩), .int .i64 0, .pointer (some ⟨gr, 0, none⟩), v, .tuple #[.agg (u8s F).toArray, .int .i64 0], .slice A s.length cap, .tuple #[.agg (u8s F).toArray, .int .i64 0], .agg (u8s F).toArray, .int .i64 0, .int .i64 0, .bool false, undef, undef, .slice (some ⟨g4, 0, none⟩) 4 4, .func (.func 53) #[] #[.pointer (some ⟨gr + 1, 0, none⟩)], v, undef, undef, undef, undef], defers := [] }) ?hassign ?hbody ?hdone
  case hItem =>
    rintro M v x W4 W5 ⟨h1, h2⟩ hk
    exact ⟨Row.keepT h1 h2 hk (fun b hb => hb) hk.size, h2⟩
  case hseq =>
    intro W4 hb4
    exact levels_gives (fun b => b < gr) (gr + 1) _ F 2 W4 (cell_past HC.out.2.1 hb4) hgw (HROW.out.past hb4) (fun a n c e h0 => by injection e with e1 _ _; injection e1 with e1; rw [← e1]; exact hx3) (by decide) (HK.out.past (bb4.trans (hb4.mono (by omega))))
  case h0 =>
    intro W4 hb4 hs4
    exact ⟨z32, fun b => Iff.rfl, Lib.hid rfl, Lib.hid (fun h => by cases h), HC.out.1.past hb4 (by omega), HC.out.2.2.past hb4 (by omega), bb4.trans (hb4.mono (by omega))⟩
  case hlt =>
    rintro M k W4 ⟨X, hM, _, _, h1, _, _⟩ b hb
    rw [(hM b).1 hb]; exact h1.lt
  case hI =>
    rintro M k W4 W5 ⟨X, hM, HXL, HX, h1, h2, h3⟩ hk
    exact ⟨X, hM, HXL, HX, h1.keep hk (Or.inl (by omega)), h2.keep hk (Or.inl (by omega)), h3.trans (hk.below (fun q hq => Or.inl (by omega)) h3.size)⟩
  case hassign =>
    intro l' v W4 K hK
    gi_wp2
    exact hK
  case hdone =>
    rintro M W4 hs4 ⟨X, hM, HXL, HX, h1, h2, h3⟩ hd
    have HXE := Lib.hid (HX.out (by rw [lvls_len]))
    have HUX := Lib.hid (show (u8s X).length = 32 by rw [u8s_length, HXL.out])
    have hd0 := hd
    clear hM HX
    gi_wp2_with (first
      | (refine wpi_val rfl (fun c hc => by cases hc) rfl (exec_loadA 25 rfl gr rfl 25 _ 32 5 h1 Tryd.underlying25 (by rw [info_dig, HUX.out])) ?_)
      | (refine wpi_storeA 25 (.tmp 2) (.tmp 23) rfl rfl w.heap.size rfl 25 (u8s z32) (u8s X) rfl h2 (by rw [info_dig, HUX.out]) (by rw [HUX.out]; rfl) (u8s_one _) rfl ?_; intro w8 h8 k8))
    have b8 : Below w.heap.size w w8 := h3.trans (k8.below (fun q hq => by omega) h3.size)
    have hd8 : w8.heap[W3.heap.size]? = some (.deferred (some [])) := k8.heap (show W3.heap.size ≠ w.heap.size by omega) hd
    have hp : ∀ O : Nat → Prop, ¬ O W3.heap.size → Keep O w8 (w8.putObj W3.heap.size (.deferred none)) := fun O hO => Keep.putObj _ _ _ hO
    have h9 := h8.keep (hp (fun q => q < W3.heap.size) (by omega)) (by omega)
    have b9 : Below w.heap.size w (w8.putObj W3.heap.size (.deferred none)) := b8.trans ((hp (fun q => q < w.heap.size) (by omega)).below (fun q hq => hq) b8.size)
    show LeavesInM _ _ _ _ _ _ _ _ _
    refine ⟨by simp, .inl ⟨_, _, rfl, run_takeDeferred hd8, ?_⟩⟩
    refine ⟨.tuple #[.agg (u8s X).toArray, .int .i64 0], ?_, ?_⟩
    · have hl := run_loadVar_row (P := Tryd.prog) _ w.heap.size 25 25 (u8s X).toArray (0, 0) _ h9 Tryd.underlying25 rfl (by rw [info_dig]; simp [HUX.out])
      simp [results, Tryd.results12, asAddr, hl]
    · rw [← HXE.out]
      exact ⟨rfl, b9⟩
  case hbody =>
    rintro l' M k ⟨nk, G⟩ v W4 hs4 ⟨X, hM, HXL, HX, h1, h2, h3⟩ hx ⟨hr, hrT⟩
    have HM := Lib.hid hM
    have hkK : k ≤ 2 := by
      have h := (List.getElem?_eq_some_iff.1 hx).1
      rw [lvls_len] at h; omega
    rw [lvls_get F hkK] at hx
    injection hx with hx
    injection hx with hx1 hx2
    have hn1 : 0 < nk := by rw [← hx1]; exact Nat.two_pow_pos _
    obtain ⟨A4, cap4, rfl⟩ := row_form hr
    obtain ⟨ad, rfl, _, _⟩ := hr.at_ hn1
    obtain ⟨D, hD⟩ : ∃ D, D = Wt.el G 0 := ⟨_, rfl⟩
    have HDL := Lib.hid (show D.length = 32 by rw [hD]; exact Wt.el_len (n := nk) (by have := row_flen hr; dsimp only at this; omega) hn1)
    have HUD := Lib.hid (show (u8s D).length = 32 by rw [u8s_length, HDL.out])
    have HUX := Lib.hid (show (u8s X).length = 32 by rw [u8s_length, HXL.out])
    have HDX : Hid (k + 1 = 3 → D = Kt.mrk F 2) := Lib.hid fun h => by
      obtain rfl : k = 2 := by omega
      rw [hD, ← hx2, Kt.el_lv HFL.out (by decide)]; rfl
    have hcx := row_elem hr hn1
    rw [← hD] at hcx
    have HCX := Lib.hid hcx
    clear hD hcx hM HX hx1 hx2 hr hrT
    gi_wp2_with (first
      | (refine wpi_val rfl (fun c hc => by cases hc) rfl (exec_ixS 29 25 32 Tryd.underlying29 info_dig _ rfl rfl _ _ 0 rfl rfl hn1 (q := ad.add (0 * 32)) rfl) ?_)
      | (refine wpi_val rfl (fun c hc => by cases hc) rfl (exec_loadP 25 rfl (ad.add (0 * 32)) rfl (u8s D) 32 5 HCX.out Tryd.underlying25 (by rw [info_dig, HUD.out])) ?_)
      | (refine wpi_storeA 25 (.tmp 6) (.tmp 22) rfl rfl gr rfl 25 (u8s X) (u8s D) rfl h1 (by rw [info_dig, HUD.out]) (by rw [HUX.out, HUD.out]) (u8s_one _) rfl ?_; intro w8 h8 k8))
    refine ⟨rfl, M, ⟨D, HM.out, HDL, HDX, h8, h2.keep k8 (by omega), h3.trans (k8.below (fun q hq => by omega) h3.size)⟩, fun b hb => Or.inl hb, k8.mono ?_⟩
    rintro b (hb | hb | hb)
    · exact fun h => hb ((HM.out b).2 h)
    · omega
    · omega
end Go.Proofs.YtccepoeenkpifaaDoor
