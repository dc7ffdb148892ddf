/-
  Package keytree: Sign.
-/
import Derived.Test.YtccepoeenkpifaaDoorKtH
namespace Go.Proofs.YtccepoeenkpifaaDoor
open Go.RowKit
set_option linter.unusedVariables false
set_option linter.unusedSimpArgs false

def nilS : Value := .slice none 0 0
/-- A signature's cells. -/
def sg (ix : Int) (c p : Value) : List Value := [.int .i64 ix, c, p]
theorem sg_len (ix : Int) (c p : Value) : (sg ix c p).length = 3 := rfl
theorem zero_sig (w : World) : (zeroValue 31).run Tryd.prog w = .ok (.agg (sg 0 nilS nilS).toArray) w := by kernel_rfl
theorem info_sig : (Tryd.prog.info? 31).map (·.size) = some 3 := by kernel_rfl
def msgD (l : List UInt8) : List UInt8 := Sha.tag [109, 115, 103] l
theorem msgD_len (l : List UInt8) : (msgD l).length = 32 := Sha.tag_len _ _
theorem sg_one {ix : Int} {A B : Option Addr} {n m c d : Nat} : ∀ v ∈ sg ix (.slice A n c) (.slice B m d), v.oneCell' = true := by
  intro v hv
  simp [sg] at hv
  rcases hv with rfl | rfl | rfl <;> rfl

theorem build_sig (ix : Int) (A B : Option Addr) (n m c d : Nat) (w : World) : (Instr.build 31 #[(0, .int .i64 ix), (1, .slice A n c), (2, .slice B m d)]).run Tryd.prog w = .ok (.agg (sg ix (.slice A n c) (.slice B m d)).toArray) w := by kernel_rfl
theorem exec_sig {o : Oper} {a : Act} (x y z : Operand) (ho : o.op = .build 31 #[(0, x), (1, y), (2, z)]) (ix : Int) (A B : Option Addr) (n m c d : Nat) (hx : a.eval x = .int .i64 ix) (hy : a.eval y = .slice A n c) (hz : a.eval z = .slice B m d) (w : World) :
    (execOp a.eval o).run Tryd.prog w = .ok (.value (.agg (sg ix (.slice A n c) (.slice B m d)).toArray)) w := by
  unfold execOp
  have e : (#[(0, x), (1, y), (2, z)] : Array (Nat × Operand)).map (fun (i, x) => (i, a.eval x)) = #[(0, .int .i64 ix), (1, .slice A n c), (2, .slice B m d)] := by simp [hx, hy, hz]
  simp only [ho, e, Sem.run_bind, build_sig, Result.andThen_ok, Sem.run_pure]

set_option maxRecDepth 100000 in
set_option maxHeartbeats 1000000 in
theorem ktsign_no (v u : Value) (s m : List UInt8) (ix : Int) (w : World) (hv : Bs w w.heap.size v s) (hu : Bs w w.heap.size u m) (h : ¬ (1 ≤ s.length ∧ s.length ≤ 64 ∧ 0 ≤ ix ∧ ix ≤ 3)) :
    Calls Tryd.prog 14 #[v, .int .i64 ix, u] w fun e w' => e = .returned (.tuple #[.agg (sg 0 nilS nilS).toArray, .int .i64 1]) ∧ Below w.heap.size w w' := by
  obtain ⟨A, cap, rfl⟩ := hv.form
  obtain ⟨A2, cap2, rfl⟩ := hu.form
  have hzs := zero_sig
  have r0 := Blk.new w 31 (sg 0 nilS nilS)
  have b0 : Below w.heap.size w (w.alloc (.cells (sg 0 nilS nilS).toArray 31)) := (Below.refl _ _).alloc (Nat.le_refl _) _
  obtain ⟨W0, hW0⟩ : ∃ W, W = w.alloc (.cells (sg 0 nilS nilS).toArray 31) := ⟨_, rfl⟩
  rw [← hW0] at r0 b0
  have HW := Lib.hid hW0
  obtain ⟨Z, hZ⟩ : ∃ Z, Z = sg 0 nilS nilS := ⟨_, rfl⟩
  rw [← hZ] at r0 hzs HW ⊢
  have HZL := Lib.hid (show Z.length = 3 by rw [hZ]; rfl)
  have HZ1 := Lib.hid (show ∀ v ∈ Z, v.oneCell' = true by rw [hZ]; exact sg_one)
  clear hZ
  by_cases hx : 0 ≤ ix ∧ ix ≤ 3
  · obtain ⟨hx0, hx3⟩ := hx
    have hz4 := zero_4
    have HC := Lib.hid (leavesOf_no (.slice A s.length cap) s W0 (hv.past b0) (fun h2 => h ⟨h2.1, h2.2, hx0, hx3⟩))
    have HLZ : Hid ((u8s z128).length = 128) := Lib.hid rfl
    clear hW0 hv hu h
    go_enter Tryd.func14, Tryd.ntmps14
    go_upto_region 1 with (fail)
    rw [← HW.out]
    go_wp2_with fail
    refine HC.out.mono ?_
    rintro e w2 ⟨rfl, b2⟩
    have r2 := r0.past b2 r0.lt
    have bb2 := b0.trans (b2.mono b0.size)
    have x2 := Blk.new w2 51 (u8s z128)
    have bx : Below w2.heap.size w2 (w2.alloc (.cells (u8s z128).toArray 51)) := (Below.refl _ _).alloc (Nat.le_refl _) _
    clear HC b2 r0 b0
    go_upto_region 4 with (refine wp_storeA 51 (.tmp 8) (.tmp 22) rfl rfl w2.heap.size rfl 51 (u8s z128) (u8s z128) rfl x2 (by rw [info_4, HLZ.out]) rfl (u8s_one _) rfl ?_; intro w3 x3 k3)
    have b3 : Below w2.heap.size w2 w3 := ((Keep.of_below bx).trans (k3.mono (O' := fun q => q < w2.heap.size) (fun q hq => by omega))).below (fun q hq => hq) (Nat.le_refl _)
    have r3 := r2.past b3 r2.lt
    have bb3 := bb2.trans (b3.mono bb2.size)
    clear x2 bx k3 b3 r2 bb2 x3 hz4
    go_wp2_with (refine wp_storeA 31 (.tmp 6) (.tmp 26) rfl rfl w.heap.size rfl 31 Z Z rfl r3 (by rw [info_sig, HZL.out]) rfl HZ1.out rfl ?_; intro w8 h8 k8)
    have b8 : Below w.heap.size w w8 := bb3.trans (k8.below (fun q hq => by omega) bb3.size)
    refine ret_row_tmp Tryd.results14 rfl w.heap.size 31 _ _ rfl h8 Tryd.underlying31 rfl (by rw [info_sig, HZL.out]) _ rfl ?_
    exact ⟨rfl, b8⟩
  · have hor : ix < 0 ∨ ¬ ix < 0 ∧ 4 ≤ ix := by omega
    clear hW0 hv hu h hx
    rcases hor with h1 | ⟨h1, h2⟩
    · go_enter Tryd.func14, Tryd.ntmps14
      go_upto_region 1 with (fail)
      rw [← HW.out]
      go_wp2_with (refine wp_storeA 31 (.tmp 6) (.tmp 18) rfl rfl w.heap.size rfl 31 Z Z rfl r0 (by rw [info_sig, HZL.out]) rfl HZ1.out rfl ?_; intro w8 h8 k8)
      have b8 : Below w.heap.size w w8 := b0.trans (k8.below (fun q hq => by omega) b0.size)
      refine ret_row_tmp Tryd.results14 rfl w.heap.size 31 _ _ rfl h8 Tryd.underlying31 rfl (by rw [info_sig, HZL.out]) _ rfl ?_
      exact ⟨rfl, b8⟩
    · go_enter Tryd.func14, Tryd.ntmps14
      go_upto_region 1 with (fail)
      rw [← HW.out]
      go_wp2_with (refine wp_storeA 31 (.tmp 6) (.tmp 18) rfl rfl w.heap.size rfl 31 Z Z rfl r0 (by rw [info_sig, HZL.out]) rfl HZ1.out rfl ?_; intro w8 h8 k8)
      have b8 : Below w.heap.size w w8 := b0.trans (k8.below (fun q hq => by omega) b0.size)
      refine ret_row_tmp Tryd.results14 rfl w.heap.size 31 _ _ rfl h8 Tryd.underlying31 rfl (by rw [info_sig, HZL.out]) _ rfl ?_
      exact ⟨rfl, b8⟩

set_option maxRecDepth 100000 in
set_option maxHeartbeats 1000000 in
theorem ktsign_yes (v u : Value) (s m : List UInt8) (ix : Nat) (w : World) (hv : Bs w w.heap.size v s) (hu : Bs w w.heap.size u m) (h1 : 1 ≤ s.length) (h2 : s.length ≤ 64) (hm : m.length ≤ 90000) (h3 : ix ≤ 3) (hk : KIs 1 w) :
    Calls Tryd.prog 14 #[v, .int .i64 ix, u] w fun e w' => ∃ (A B : Option Addr) (c d : Nat), e = .returned (.tuple #[.agg (sg ix (.slice A 18 c) (.slice B 2 d)).toArray, .int .i64 0]) ∧ Row w' w'.heap.size 32 18 (.slice A 18 c) (u8s (Wt.sig s ix (msgD m))) ∧ Row w' w'.heap.size 32 2 (.slice B 2 d) (u8s (Kt.pth (lvs s) ix 2)) ∧ Below w.heap.size w w' := by
  obtain ⟨A, cap, rfl⟩ := hv.form
  obtain ⟨A2, cap2, rfl⟩ := hu.form
  have hzs := zero_sig
  have hz4 := zero_4
  have r0 := Blk.new w 31 (sg 0 nilS nilS)
  have b0 : Below w.heap.size w (w.alloc (.cells (sg 0 nilS nilS).toArray 31)) := (Below.refl _ _).alloc (Nat.le_refl _) _
  obtain ⟨W0, hW0⟩ : ∃ W, W = w.alloc (.cells (sg 0 nilS nilS).toArray 31) := ⟨_, rfl⟩
  rw [← hW0] at r0 b0
  have HW := Lib.hid hW0
  obtain ⟨Z, hZ⟩ : ∃ Z, Z = sg 0 nilS nilS := ⟨_, rfl⟩
  rw [← hZ] at r0 hzs HW
  have HZL := Lib.hid (show Z.length = 3 by rw [hZ]; rfl)
  have HC := Lib.hid (leavesOf_yes (.slice A s.length cap) s W0 (hv.past b0) h1 h2 (hk.past b0))
  obtain ⟨F, hF⟩ : ∃ F, F = lvs s := ⟨_, rfl⟩
  have HFL := Lib.hid (show F.length = 32 * 2 ^ 2 by rw [hF, lvs_flen])
  have HUF := Lib.hid (show (u8s F).length = 128 by rw [u8s_length, hF, lvs_len])
  rw [← hF] at HC ⊢
  have HV := Lib.hid hv
  have HU := Lib.hid hu
  have HK := Lib.hid hk
  clear hW0 hv hu hF hZ hk
  go_enter Tryd.func14, Tryd.ntmps14
  go_upto_region 1 with (fail)
  rw [← HW.out]
  go_wp2_with fail
  refine HC.out.mono ?_
  rintro e w2 ⟨rfl, b2⟩
  have r2 := r0.past b2 r0.lt
  have bb2 := b0.trans (b2.mono b0.size)
  have x2 := Blk.new w2 51 (u8s z128)
  have bx : Below w2.heap.size w2 (w2.alloc (.cells (u8s z128).toArray 51)) := (Below.refl _ _).alloc (Nat.le_refl _) _
  clear HC b2 r0 b0
  go_upto_region 4 with (refine wp_storeA 51 (.tmp 8) (.tmp 22) rfl rfl w2.heap.size rfl 51 (u8s z128) (u8s F) rfl x2 (by rw [info_4, HUF.out]) (by rw [HUF.out]; rfl) (u8s_one _) rfl ?_; intro w3 x3 k3)
  have b3 : Below w2.heap.size w2 w3 := ((Keep.of_below bx).trans (k3.mono (O' := fun q => q < w2.heap.size) (fun q hq => by omega))).below (fun q hq => hq) (Nat.le_refl _)
  have r3 := r2.past b3 r2.lt
  have bb3 := bb2.trans (b3.mono bb2.size)
  obtain ⟨g4, hg4⟩ : ∃ g, g = w2.heap.size := ⟨_, rfl⟩
  rw [← hg4] at x3 ⊢
  clear hg4 x2 bx k3 b3 r2 bb2 hz4
  have HC3 := Lib.hid (msg_any (.slice A2 m.length cap2) m w3 (HU.out.past bb3) (HK.out.past bb3) hm)
  go_wp2_with fail
  refine HC3.out.mono ?_
  rintro e w4 ⟨rfl, b4⟩
  have r4 := r3.past b4 r3.lt
  have x4 := x3.past b4 x3.lt
  have bb4 := bb3.trans (b4.mono bb3.size)
  have hw4 : w.heap.size < w4.heap.size := r4.lt
  have HC4 := Lib.hid (sign_yes (.slice A s.length cap) s (msgD m) ix w4 (HV.out.past bb4) h1 h2 (by omega) (msgD_len m) (HK.out.past bb4))
  clear HC3 b4 r3 x3 bb3
  go_wp2_with fail
  refine HC4.out.mono ?_
  rintro e w5 ⟨gs, rfl, s5, hgs, b5⟩
  have r5 := r4.past b5 r4.lt
  have x5 := x4.past b5 x4.lt
  have bb5 := bb4.trans (b5.mono bb4.size)
  obtain ⟨SG, hSG⟩ : ∃ SG, SG = Wt.sig s ix (msgD m) := ⟨_, rfl⟩
  have HSL := Lib.hid (show (u8s SG).length = 18 * 32 by rw [hSG, u8s_length, Wt.sig_len])
  rw [← hSG] at s5
  have HSG := Lib.hid hSG
  have HC5 := Lib.hid (path_at (.slice (some ⟨g4, 0, none⟩) 4 4) F 2 ix w5 (row_of_blkS (s := 32) (n := 4) x5 x5.lt (by rw [HUF.out]) (by decide)) (by decide) (by omega) (HK.out.past bb5))
  have hlt5 : w.heap.size < w5.heap.size := r5.lt
  have hgs' : w.heap.size < gs := by omega
  clear HC4 b5 r4 x4 bb4 hSG hgs
  go_wp2_with fail
  refine HC5.out.mono ?_
  rintro e w6 ⟨pv, rfl, p6, pT, b6⟩
  have r6 := r5.past b6 r5.lt
  have s6 := s5.past b6 s5.lt
  have bb6 := bb5.trans (b6.mono bb5.size)
  obtain ⟨B, d, rfl⟩ := row_form p6
  obtain ⟨PT, hPT⟩ : ∃ PT, PT = Kt.pth F ix 2 := ⟨_, rfl⟩
  rw [← hPT] at p6
  have hb5 := Nat.le_trans bb5.size (Nat.le_refl _)
  have HR : Hid (∀ w8 : World, Keep (fun q => q ≠ w.heap.size) w6 w8 → Row w8 w8.heap.size 32 2 (.slice B 2 d) (u8s PT)) := Lib.hid fun w8 hk => Row.keepT p6 pT hk (fun b hb => by have := hlt5; omega) hk.size
  have HPT := Lib.hid hPT
  clear HC5 b6 r5 x5 s5 bb5 hPT
  go_wp2_with (first
    | (refine wp_run rfl (exec_sig (.tmp 50) (.tmp 51) (.tmp 52) rfl ix (some ⟨gs, 0, none⟩) B 18 2 18 d rfl rfl rfl _) ?_)
    | (refine wp_storeA 31 (.tmp 6) (.tmp 53) rfl rfl w.heap.size rfl 31 Z (sg ix (.slice (some ⟨gs, 0, none⟩) 18 18) (.slice B 2 d)) rfl r6 (by rw [info_sig]; rfl) (by rw [HZL.out]; rfl) sg_one rfl ?_; intro w8 h8 k8))
  have b8 : Below w.heap.size w w8 := bb6.trans (k8.below (fun q hq => by omega) bb6.size)
  have p8 : Row w8 w8.heap.size 32 2 (.slice B 2 d) (u8s PT) := HR.out w8 k8
  have s8 := s6.keep k8 (fun h => by omega)
  refine ret_row_tmp Tryd.results14 rfl w.heap.size 31 _ _ rfl h8 Tryd.underlying31 rfl (by rw [info_sig]; rfl) _ rfl ?_
  refine ⟨_, _, _, _, rfl, ?_, ?_, b8⟩
  · rw [← HSG.out]
    exact row_of_blkS (s := 32) (n := 18) s8 s8.lt HSL.out (by decide)
  · rw [← HPT.out]; exact p8
end Go.Proofs.YtccepoeenkpifaaDoor
