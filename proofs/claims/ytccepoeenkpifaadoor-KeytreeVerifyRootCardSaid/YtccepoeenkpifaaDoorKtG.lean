/-
  Package keytree: the leaves of a seed; memory words for structs.
-/
import Derived.Test.YtccepoeenkpifaaDoorKtF
namespace Go.Proofs.YtccepoeenkpifaaDoor
open Go.RowKit
set_option linter.unusedVariables false
set_option linter.unusedSimpArgs false

def z128 : List UInt8 := List.replicate 128 0
theorem zero_4 (w : World) : (zeroValue 51).run Tryd.prog w = .ok (.agg (u8s z128).toArray) w := by kernel_rfl
theorem info_4 : (Tryd.prog.info? 51).map (·.size) = some 128 := by kernel_rfl
/-- The leaves of a seed. -/
def lvs (s : List UInt8) : List UInt8 := Wt.cat (Wt.pub s) 4
theorem lvs_len (s : List UInt8) : (lvs s).length = 128 := Wt.cat_len 4 fun i _ => Wt.pub_len s i

section
variable {P : Program}
/-- The load of a whole struct or array. -/
theorem exec_loadR {o : Oper} {a : Act} {w : World} (ty : TypeId) {x : Operand} (ho : o.op = .load ty x) (g : Nat) (hx : a.eval x = .pointer (some ⟨g, 0, none⟩)) (t : TypeId) (l : List Value) (d : TypeDesc) (hg : Blk w g t l)
    (hu : P.underlying ty = some d) (hd : d.isRow = true) (hi : (P.info? ty).map (·.size) = some l.length) : (execOp a.eval o).run P w = .ok (.value (.agg l.toArray)) w := by
  have hr : w.rangeAt g 0 l := fun j v hv => by rw [Nat.zero_add]; exact hg.cell hv
  unfold execOp
  simp only [ho, hx, Instr.loadAt, Instr.sureAddr, Sem.run_bind, Sem.run_pure, Result.andThen_ok, run_loadVar_mid w g 0 ty l d hr hu hd hi]
/-- The end of a function whose results are a struct or an array that lies in memory, and a value. -/
theorem ret_row_tmp {fn : Func} {p u : Tmp} {ty : TypeId} {Q : Ending → World → Prop} {a : Act} {w : World} (hr : fn.results = #[.cell p ty, .tmp u]) (hd : a.defers = []) (g : Nat) (t : TypeId) (l : List Value) (d : TypeDesc)
    (hp : a.tmps.getD p undef = .pointer (some ⟨g, 0, none⟩)) (hg : Blk w g t l) (hu : P.underlying ty = some d) (hdd : d.isRow = true) (hi : (P.info? ty).map (·.size) = some l.length)
    (v : Value) (hv : a.tmps.getD u undef = v) (h : Q (.returned (.tuple #[.agg l.toArray, v])) w) : bodyPost P fn Q .ret a w := by
  refine bodyPost_ret (v := .tuple #[.agg l.toArray, v]) ?_ hd h
  subst hv
  have hrr : w.rangeAt g 0 l := fun j v hv => by rw [Nat.zero_add]; exact hg.cell hv
  have hl := run_loadVar_mid (P := P) w g 0 ty l d hrr hu hdd hi
  have hp' : a.tmps[p]?.getD undef = .pointer (some ⟨g, 0, none⟩) := by simpa using hp
  simp [results, hr, hp', asAddr, hl]
end

theorem fill_put4 {f : Nat → List UInt8} {k : Nat} (hf : ∀ i, (f i).length = 32) (hk : k < 4) :
    (u8s (Kt.fillTo f 4 k)).take (k * 32) ++ u8s (f k) ++ (u8s (Kt.fillTo f 4 k)).drop (k * 32 + (u8s (f k)).length) = u8s (Kt.fillTo f 4 (k + 1)) := fill_put hf hk

set_option maxRecDepth 100000 in
set_option maxHeartbeats 1000000 in
theorem leavesOf_yes (v : Value) (s : List UInt8) (w : World) (hv : Bs w w.heap.size v s) (h1 : 1 ≤ s.length) (h2 : s.length ≤ 64) (hk : KIs 1 w) :
    Calls Tryd.prog 30 #[v] w fun e w' => e = .returned (.tuple #[.agg (u8s (lvs s)).toArray, .int .i64 0]) ∧ Below w.heap.size w w' := by
  obtain ⟨A, cap, rfl⟩ := hv.form
  have hz4 := zero_4
  have HV := Lib.hid hv
  have HF := Lib.hid (Wt.pub_len s)
  have r0 := (Blk.new w 51 (u8s z128)).past ((Below.refl _ _).alloc (Nat.le_refl _) (.cells (u8s z128).toArray 51)) (by simp)
  have l0 := Blk.new (w.alloc (.cells (u8s z128).toArray 51)) 51 (u8s z128)
  rw [World.size_alloc] at l0
  have b0 : Below w.heap.size w ((w.alloc (.cells (u8s z128).toArray 51)).alloc (.cells (u8s z128).toArray 51)) := ((Below.refl _ _).alloc (Nat.le_refl _) _).alloc (by simp) _
  obtain ⟨W0, hW0⟩ : ∃ W, W = (w.alloc (.cells (u8s z128).toArray 51)).alloc (.cells (u8s z128).toArray 51) := ⟨_, rfl⟩
  rw [← hW0] at r0 l0 b0
  have HW := Lib.hid hW0
  have HR0 := Lib.hid r0
  clear hW0 hv
  obtain ⟨X0, hX0⟩ : ∃ X, X = Kt.fillTo (Wt.pub s) 4 0 := ⟨_, rfl⟩
  rw [show z128 = X0 by rw [hX0]; rfl] at l0
  have HX0 := Lib.hid hX0
  have r0 := HR0.out
  clear hX0
  go_enter Tryd.func30, Tryd.ntmps30
  go_upto_region 2 with (fail)
  rw [← HW.out]
  clear hz4
  go_wp2_with fail
  go_loopw [8] (fun i wr => ∃ (k : Nat) (X : List UInt8), i = .int .i64 k ∧ k ≤ 4 ∧ Hid (X = Kt.fillTo (Wt.pub s) 4 k) ∧ Blk wr (w.heap.size + 1) 51 (u8s X) ∧ Blk wr w.heap.size 51 (u8s z128) ∧ Below w.heap.size w wr) (fun i _ => 4 - (intOf i).toNat)
  case atStart => exact ⟨0, X0, rfl, by omega, HX0, l0, r0, b0⟩
  case round =>
    clear l0 r0 b0 HR0
    obtain ⟨k, X, rfl, hk4, HX, hl, hr, hb⟩ := hrel
    have hs1 := hl.lt
    have HXL := Lib.hid (show (u8s X).length = 128 by rw [u8s_length, HX.out, Kt.fillTo_len HF.out hk4])
    by_cases hlt : k < 4
    · have hz := zero_dig
      have HC := Lib.hid (public_yes (.slice A s.length cap) s k wr (HV.out.past hb) h1 h2 (by omega) (hk.past hb))
      have HPUT := Lib.hid (show (u8s X).take (k * 32) ++ u8s (Wt.pub s k) ++ (u8s X).drop (k * 32 + (u8s (Wt.pub s k)).length) = u8s (Kt.fillTo (Wt.pub s) 4 (k + 1)) by rw [HX.out]; exact fill_put4 HF.out hlt)
      obtain ⟨D, hD⟩ : ∃ D, D = Wt.pub s k := ⟨_, rfl⟩
      rw [← hD] at HC HPUT
      have HUD := Lib.hid (show (u8s D).length = 32 by rw [u8s_length, hD, HF.out])
      clear hD
      go_wp2_with fail
      refine HC.out.mono ?_
      rintro e w2 ⟨rfl, b2⟩
      have l2 := hl.past b2 hl.lt
      have r2 := hr.past b2 hr.lt
      have bb2 := hb.trans (b2.mono hb.size)
      have x2 := Blk.new w2 25 (u8s z32)
      have bx : Below w2.heap.size w2 (w2.alloc (.cells (u8s z32).toArray 25)) := (Below.refl _ _).alloc (Nat.le_refl _) _
      clear HC hl hr hb b2
      go_upto_region 6 with (refine wp_storeA 25 (.tmp 6) (.tmp 15) rfl rfl w2.heap.size rfl 25 (u8s z32) _ rfl x2 (by rw [info_dig, HUD.out]) (by rw [HUD.out]; rfl) (u8s_one _) rfl ?_; intro w3 x3 k3)
      have b3 : Below w2.heap.size w2 w3 := ((Keep.of_below bx).trans (k3.mono (O' := fun q => q < w2.heap.size) (fun q hq => by omega))).below (fun q hq => hq) (Nat.le_refl _)
      have l3 := l2.past b3 l2.lt
      have r3 := r2.past b3 r2.lt
      have bb3 := bb2.trans (b3.mono bb2.size)
      obtain ⟨gx, hgx⟩ : ∃ g, g = w2.heap.size := ⟨_, rfl⟩
      rw [← hgx] at x3 ⊢
      clear hgx x2 bx k3 b3 l2 r2 bb2 hz
      go_wp2_with (first
        | (refine wp_run rfl (exec_loadA 25 rfl gx rfl 25 _ 32 5 x3 Tryd.underlying25 (by rw [info_dig, HUD.out])) ?_)
        | (refine wp_run rfl (exec_ixA 51 25 4 32 Tryd.underlying51 info_dig _ rfl (w.heap.size + 1) rfl _ _ k rfl rfl hlt (q := k * 32) rfl) ?_)
        | (refine wp_storeM 25 (.tmp 23) (.tmp 22) rfl rfl (w.heap.size + 1) (k * 32) rfl 51 _ (u8s D) rfl l3 (by rw [info_dig, HUD.out]) (by rw [HUD.out, HXL.out]; omega) (u8s_one _) rfl ?_; intro w4 l4 k4))
      rw [HPUT.out] at l4
      have r4 := r3.keep k4 (by omega)
      have bb4 : Below w.heap.size w w4 := bb3.trans (k4.below (fun q hq => by omega) bb3.size)
      obtain ⟨X2, hX2⟩ : ∃ X, X = Kt.fillTo (Wt.pub s) 4 (k + 1) := ⟨_, rfl⟩
      rw [← hX2] at l4
      have HX2 := Lib.hid hX2
      clear hX2 l3 r3 bb3 k4 x3 HPUT
      go_roundw
      case rel => exact ⟨k + 1, X2, by go_num, by omega, HX2, l4, r4, bb4⟩
      case measure => simp [intOf]; omega
    · have hk44 : k = 4 := by omega
      subst hk44
      have HX2 := Lib.hid (show X = lvs s by rw [HX.out, Kt.fillTo_done]; rfl)
      clear HX
      go_wp2_with (first
        | (refine wp_run rfl (exec_loadR 51 rfl (w.heap.size + 1) rfl 51 _ _ hl Tryd.underlying51 rfl (by rw [info_4, HXL.out])) ?_)
        | (refine wp_storeA 51 (.tmp 2) (.tmp 25) rfl rfl w.heap.size rfl 51 (u8s z128) (u8s X) rfl hr (by rw [info_4, HXL.out]) (by rw [HXL.out]; rfl) (u8s_one _) rfl ?_; intro w8 h8 k8))
      have b8 : Below w.heap.size w w8 := hb.trans (k8.below (fun q hq => by omega) hb.size)
      refine ret_row_tmp Tryd.results30 rfl w.heap.size 51 _ _ rfl h8 Tryd.underlying51 rfl (by rw [info_4, HXL.out]) _ rfl ?_
      rw [HX2.out]
      exact ⟨rfl, b8⟩

set_option maxRecDepth 100000 in
set_option maxHeartbeats 1000000 in
theorem leavesOf_no (v : Value) (s : List UInt8) (w : World) (hv : Bs w w.heap.size v s) (h : ¬ (1 ≤ s.length ∧ s.length ≤ 64)) :
    Calls Tryd.prog 30 #[v] w fun e w' => e = .returned (.tuple #[.agg (u8s z128).toArray, .int .i64 1]) ∧ Below w.heap.size w w' := by
  obtain ⟨A, cap, rfl⟩ := hv.form
  have hz4 := zero_4
  have r0 := (Blk.new w 51 (u8s z128)).past ((Below.refl _ _).alloc (Nat.le_refl _) (.cells (u8s z128).toArray 51)) (by simp)
  have b0 : Below w.heap.size w ((w.alloc (.cells (u8s z128).toArray 51)).alloc (.cells (u8s z128).toArray 51)) := ((Below.refl _ _).alloc (Nat.le_refl _) _).alloc (by simp) _
  obtain ⟨W0, hW0⟩ : ∃ W, W = (w.alloc (.cells (u8s z128).toArray 51)).alloc (.cells (u8s z128).toArray 51) := ⟨_, rfl⟩
  rw [← hW0] at r0 b0
  have HW := Lib.hid hW0
  have hc := public_no (.slice A s.length cap) s 0 W0 (hv.past b0) (fun h2 => h ⟨h2.1, h2.2.1⟩)
  have HC := Lib.hid hc
  have HLZ : Hid ((u8s z128).length = 128) := Lib.hid rfl
  have hz := zero_dig
  have HB := Lib.hid b0
  have HR := Lib.hid r0
  clear hW0 hv hc r0 b0 h
  go_enter Tryd.func30, Tryd.ntmps30
  go_upto_region 2 with (fail)
  rw [← HW.out]
  go_wp2_with fail
  go_loopw [8] (fun i wr => i = .int .i64 0 ∧ wr = W0) (fun i _ => 0)
  case atStart => exact ⟨rfl, rfl⟩
  case round =>
    obtain ⟨rfl, rfl⟩ := hrel
    go_wp2_with fail
    refine HC.out.mono ?_
    rintro e w2 ⟨rfl, b2⟩
    have r2 := HR.out.past b2 HR.out.lt
    have bb2 := HB.out.trans (b2.mono HB.out.size)
    have x2 := Blk.new w2 25 (u8s z32)
    have bx : Below w2.heap.size w2 (w2.alloc (.cells (u8s z32).toArray 25)) := (Below.refl _ _).alloc (Nat.le_refl _) _
    clear HC b2
    go_upto_region 6 with (refine wp_storeA 25 (.tmp 6) (.tmp 15) rfl rfl w2.heap.size rfl 25 (u8s z32) (u8s z32) rfl x2 (by rw [info_dig]; rfl) rfl (u8s_one _) rfl ?_; intro w3 x3 k3)
    have b3 : Below w2.heap.size w2 w3 := ((Keep.of_below bx).trans (k3.mono (O' := fun q => q < w2.heap.size) (fun q hq => by omega))).below (fun q hq => hq) (Nat.le_refl _)
    have r3 := r2.past b3 r2.lt
    have bb3 := bb2.trans (b3.mono bb2.size)
    clear x2 bx k3 b3 r2 bb2 hz x3
    go_wp2_with (refine wp_storeA 51 (.tmp 2) (.tmp 19) rfl rfl w.heap.size rfl 51 (u8s z128) (u8s z128) rfl r3 (by rw [info_4, HLZ.out]) rfl (u8s_one _) rfl ?_; intro w8 h8 k8)
    have b8 : Below w.heap.size w w8 := bb3.trans (k8.below (fun q hq => by omega) bb3.size)
    refine ret_row_tmp Tryd.results30 rfl w.heap.size 51 _ _ rfl h8 Tryd.underlying51 rfl (by rw [info_4, HLZ.out]) _ rfl ?_
    exact ⟨rfl, b8⟩
end Go.Proofs.YtccepoeenkpifaaDoor
