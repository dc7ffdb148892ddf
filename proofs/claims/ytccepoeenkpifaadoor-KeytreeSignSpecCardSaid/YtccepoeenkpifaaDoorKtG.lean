/-
  Package keytree: the leaves of a seed; memory words for structs.
  Package keytree: Root.
  Package keytree: Sign.
-/
import Derived.Test.YtccepoeenkpifaaDoorKtE
namespace Go.Proofs.YtccepoeenkpifaaDoor
section
open Go.RowKit
set_option linter.unusedVariables false
set_option linter.unusedSimpArgs false

def z128 : List UInt8 := List.replicate 128 0
theorem zero_4 (w : World) : (zeroValue 51).run Tryd.prog w = .ok (.agg (u8s z128).toArray) w := by kernel_rfl
theorem info_4 : (Tryd.prog.info? 51).map (·.size) = some 128 := by kernel_rfl
/-- The leaves of a seed. -/
def lvs (s : List UInt8) : List UInt8 := Wt.cat (Wt.pub s) 4
theorem lvs_len (s : List UInt8) : (lvs s).length = 128 := Wt.cat_len 4 fun i _ => Wt.pub_len s i

section
variable {P : Program}
/-- The load of a whole struct or array. -/
theorem exec_loadR {o : Oper} {a : Act} {w : World} (ty : TypeId) {x : Operand} (ho : o.op = .load ty x) (g : Nat) (hx : a.eval x = .pointer (some ⟨g, 0, none⟩)) (t : TypeId) (l : List Value) (d : TypeDesc) (hg : Blk w g t l)
    (hu : P.underlying ty = some d) (hd : d.isRow = true) (hi : (P.info? ty).map (·.size) = some l.length) : (execOp a.eval o).run P w = .ok (.value (.agg l.toArray)) w := by
  have hr : w.rangeAt g 0 l := fun j v hv => by rw [Nat.zero_add]; exact hg.cell hv
  unfold execOp
  simp only [ho, hx, Instr.loadAt, Instr.sureAddr, Sem.run_bind, Sem.run_pure, Result.andThen_ok, run_loadVar_mid w g 0 ty l d hr hu hd hi]
/-- The end of a function whose results are a struct or an array that lies in memory, and a value. -/
theorem ret_row_tmp {fn : Func} {p u : Tmp} {ty : TypeId} {Q : Ending → World → Prop} {a : Act} {w : World} (hr : fn.results = #[.cell p ty, .tmp u]) (hd : a.defers = []) (g : Nat) (t : TypeId) (l : List Value) (d : TypeDesc)
    (hp : a.tmps.getD p undef = .pointer (some ⟨g, 0, none⟩)) (hg : Blk w g t l) (hu : P.underlying ty = some d) (hdd : d.isRow = true) (hi : (P.info? ty).map (·.size) = some l.length)
    (v : Value) (hv : a.tmps.getD u undef = v) (h : Q (.returned (.tuple #[.agg l.toArray, v])) w) : bodyPost P fn Q .ret a w := by
  refine bodyPost_ret (v := .tuple #[.agg l.toArray, v]) ?_ hd h
  subst hv
  have hrr : w.rangeAt g 0 l := fun j v hv => by rw [Nat.zero_add]; exact hg.cell hv
  have hl := run_loadVar_mid (P := P) w g 0 ty l d hrr hu hdd hi
  have hp' : a.tmps[p]?.getD undef = .pointer (some ⟨g, 0, none⟩) := by simpa using hp
  simp [results, hr, hp', asAddr, hl]
end

theorem fill_put4 {f : Nat → List UInt8} {k : Nat} (hf : ∀ i, (f i).length = 32) (hk : k < 4) :
    (u8s (Kt.fillTo f 4 k)).take (k * 32) ++ u8s (f k) ++ (u8s (Kt.fillTo f 4 k)).drop (k * 32 + (u8s (f k)).length) = u8s (Kt.fillTo f 4 (k + 1)) := fill_put hf hk

set_option maxRecDepth 100000 in
set_option maxHeartbeats 1000000 in
theorem leavesOf_yes (v : Value) (s : List UInt8) (w : World) (hv : Bs w w.heap.size v s) (h1 : 1 ≤ s.length) (h2 : s.length ≤ 64) (hk : KIs 1 w) :
    Calls Tryd.prog 30 #[v] w fun e w' => e = .returned (.tuple #[.agg (u8s (lvs s)).toArray, .int .i64 0]) ∧ Below w.heap.size w w' := by
  obtain ⟨A, cap, rfl⟩ := hv.form
  have hz4 := zero_4
  have HV := Lib.hid hv
  have HF := Lib.hid (Wt.pub_len s)
  have r0 := (Blk.new w 51 (u8s z128)).past ((Below.refl _ _).alloc (Nat.le_refl _) (.cells (u8s z128).toArray 51)) (by simp)
  have l0 := Blk.new (w.alloc (.cells (u8s z128).toArray 51)) 51 (u8s z128)
  rw [World.size_alloc] at l0
  have b0 : Below w.heap.size w ((w.alloc (.cells (u8s z128).toArray 51)).alloc (.cells (u8s z128).toArray 51)) := ((Below.refl _ _).alloc (Nat.le_refl _) _).alloc (by simp) _
  obtain ⟨W0, hW0⟩ : ∃ W, W = (w.alloc (.cells (u8s z128).toArray 51)).alloc (.cells (u8s z128).toArray 51) := ⟨_, rfl⟩
  rw [← hW0] at r0 l0 b0
  have HW := Lib.hid hW0
  have HR0 := Lib.hid r0
  clear hW0 hv
  obtain ⟨X0, hX0⟩ : ∃ X, X = Kt.fillTo (Wt.pub s) 4 0 := ⟨_, rfl⟩
  rw [show z128 = X0 by rw [hX0]; rfl] at l0
  have HX0 := Lib.hid hX0
  have r0 := HR0.out
  clear hX0
  go_enter Tryd.func30, Tryd.ntmps30
  go_upto_region 2 with (fail)
  rw [← HW.out]
  clear hz4
  go_wp2_with fail
  go_loopw [8] (fun i wr => ∃ (k : Nat) (X : List UInt8), i = .int .i64 k ∧ k ≤ 4 ∧ Hid (X = Kt.fillTo (Wt.pub s) 4 k) ∧ Blk wr (w.heap.size + 1) 51 (u8s X) ∧ Blk wr w.heap.size 51 (u8s z128) ∧ Below w.heap.size w wr) (fun i _ => 4 - (intOf i).toNat)
  case atStart => exact ⟨0, X0, rfl, by omega, HX0, l0, r0, b0⟩
  case round =>
    clear l0 r0 b0 HR0
    obtain ⟨k, X, rfl, hk4, HX, hl, hr, hb⟩ := hrel
    have hs1 := hl.lt
    have HXL := Lib.hid (show (u8s X).length = 128 by rw [u8s_length, HX.out, Kt.fillTo_len HF.out hk4])
    by_cases hlt : k < 4
    · have hz := zero_dig
      have HC := Lib.hid (public_yes (.slice A s.length cap) s k wr (HV.out.past hb) h1 h2 (by omega) (hk.past hb))
      have HPUT := Lib.hid (show (u8s X).take (k * 32) ++ u8s (Wt.pub s k) ++ (u8s X).drop (k * 32 + (u8s (Wt.pub s k)).length) = u8s (Kt.fillTo (Wt.pub s) 4 (k + 1)) by rw [HX.out]; exact fill_put4 HF.out hlt)
      obtain ⟨D, hD⟩ : ∃ D, D = Wt.pub s k := ⟨_, rfl⟩
      rw [← hD] at HC HPUT
      have HUD := Lib.hid (show (u8s D).length = 32 by rw [u8s_length, hD, HF.out])
      clear hD
      go_wp2_with fail
      refine HC.out.mono ?_
      rintro e w2 ⟨rfl, b2⟩
      have l2 := hl.past b2 hl.lt
      have r2 := hr.past b2 hr.lt
      have bb2 := hb.trans (b2.mono hb.size)
      have x2 := Blk.new w2 25 (u8s z32)
      have bx : Below w2.heap.size w2 (w2.alloc (.cells (u8s z32).toArray 25)) := (Below.refl _ _).alloc (Nat.le_refl _) _
      clear HC hl hr hb b2
      go_upto_region 6 with (refine wp_storeA 25 (.tmp 6) (.tmp 15) rfl rfl w2.heap.size rfl 25 (u8s z32) _ rfl x2 (by rw [info_dig, HUD.out]) (by rw [HUD.out]; rfl) (u8s_one _) rfl ?_; intro w3 x3 k3)
      have b3 : Below w2.heap.size w2 w3 := ((Keep.of_below bx).trans (k3.mono (O' := fun q => q < w2.heap.size) (fun q hq => by omega))).below (fun q hq => hq) (Nat.le_refl _)
      have l3 := l2.past b3 l2.lt
      have r3 := r2.past b3 r2.lt
      have bb3 := bb2.trans (b3.mono bb2.size)
      obtain ⟨gx, hgx⟩ : ∃ g, g = w2.heap.size := ⟨_, rfl⟩
      rw [← hgx] at x3 ⊢
      clear hgx x2 bx k3 b3 l2 r2 bb2 hz
      go_wp2_with (first
        | (refine wp_run rfl (exec_loadA 25 rfl gx rfl 25 _ 32 5 x3 Tryd.underlying25 (by rw [info_dig, HUD.out])) ?_)
        | (refine wp_run rfl (exec_ixA 51 25 4 32 Tryd.underlying51 info_dig _ rfl (w.heap.size + 1) rfl _ _ k rfl rfl hlt (q := k * 32) rfl) ?_)
        | (refine wp_storeM 25 (.tmp 23) (.tmp 22) rfl rfl (w.heap.size + 1) (k * 32) rfl 51 _ (u8s D) rfl l3 (by rw [info_dig, HUD.out]) (by rw [HUD.out, HXL.out]; omega) (u8s_one _) rfl ?_; intro w4 l4 k4))
      rw [HPUT.out] at l4
      have r4 := r3.keep k4 (by omega)
      have bb4 : Below w.heap.size w w4 := bb3.trans (k4.below (fun q hq => by omega) bb3.size)
      obtain ⟨X2, hX2⟩ : ∃ X, X = Kt.fillTo (Wt.pub s) 4 (k + 1) := ⟨_, rfl⟩
      rw [← hX2] at l4
      have HX2 := Lib.hid hX2
      clear hX2 l3 r3 bb3 k4 x3 HPUT
      go_roundw
      case rel => exact ⟨k + 1, X2, by go_num, by omega, HX2, l4, r4, bb4⟩
      case measure => simp [intOf]; omega
    · have hk44 : k = 4 := by omega
      subst hk44
      have HX2 := Lib.hid (show X = lvs s by rw [HX.out, Kt.fillTo_done]; rfl)
      clear HX
      go_wp2_with (first
        | (refine wp_run rfl (exec_loadR 51 rfl (w.heap.size + 1) rfl 51 _ _ hl Tryd.underlying51 rfl (by rw [info_4, HXL.out])) ?_)
        | (refine wp_storeA 51 (.tmp 2) (.tmp 25) rfl rfl w.heap.size rfl 51 (u8s z128) (u8s X) rfl hr (by rw [info_4, HXL.out]) (by rw [HXL.out]; rfl) (u8s_one _) rfl ?_; intro w8 h8 k8))
      have b8 : Below w.heap.size w w8 := hb.trans (k8.below (fun q hq => by omega) hb.size)
      refine ret_row_tmp Tryd.results30 rfl w.heap.size 51 _ _ rfl h8 Tryd.underlying51 rfl (by rw [info_4, HXL.out]) _ rfl ?_
      rw [HX2.out]
      exact ⟨rfl, b8⟩

set_option maxRecDepth 100000 in
set_option maxHeartbeats 1000000 in
theorem leavesOf_no (v : Value) (s : List UInt8) (w : World) (hv : Bs w w.heap.size v s) (h : ¬ (1 ≤ s.length ∧ s.length ≤ 64)) :
    Calls Tryd.prog 30 #[v] w fun e w' => e = .returned (.tuple #[.agg (u8s z128).toArray, .int .i64 1]) ∧ Below w.heap.size w w' := by
  obtain ⟨A, cap, rfl⟩ := hv.form
  have hz4 := zero_4
  have r0 := (Blk.new w 51 (u8s z128)).past ((Below.refl _ _).alloc (Nat.le_refl _) (.cells (u8s z128).toArray 51)) (by simp)
  have b0 : Below w.heap.size w ((w.alloc (.cells (u8s z128).toArray 51)).alloc (.cells (u8s z128).toArray 51)) := ((Below.refl _ _).alloc (Nat.le_refl _) _).alloc (by simp) _
  obtain ⟨W0, hW0⟩ : ∃ W, W = (w.alloc (.cells (u8s z128).toArray 51)).alloc (.cells (u8s z128).toArray 51) := ⟨_, rfl⟩
  rw [← hW0] at r0 b0
  have HW := Lib.hid hW0
  have hc := public_no (.slice A s.length cap) s 0 W0 (hv.past b0) (fun h2 => h ⟨h2.1, h2.2.1⟩)
  have HC := Lib.hid hc
  have HLZ : Hid ((u8s z128).length = 128) := Lib.hid rfl
  have hz := zero_dig
  have HB := Lib.hid b0
  have HR := Lib.hid r0
  clear hW0 hv hc r0 b0 h
  go_enter Tryd.func30, Tryd.ntmps30
  go_upto_region 2 with (fail)
  rw [← HW.out]
  go_wp2_with fail
  go_loopw [8] (fun i wr => i = .int .i64 0 ∧ wr = W0) (fun i _ => 0)
  case atStart => exact ⟨rfl, rfl⟩
  case round =>
    obtain ⟨rfl, rfl⟩ := hrel
    go_wp2_with fail
    refine HC.out.mono ?_
    rintro e w2 ⟨rfl, b2⟩
    have r2 := HR.out.past b2 HR.out.lt
    have bb2 := HB.out.trans (b2.mono HB.out.size)
    have x2 := Blk.new w2 25 (u8s z32)
    have bx : Below w2.heap.size w2 (w2.alloc (.cells (u8s z32).toArray 25)) := (Below.refl _ _).alloc (Nat.le_refl _) _
    clear HC b2
    go_upto_region 6 with (refine wp_storeA 25 (.tmp 6) (.tmp 15) rfl rfl w2.heap.size rfl 25 (u8s z32) (u8s z32) rfl x2 (by rw [info_dig]; rfl) rfl (u8s_one _) rfl ?_; intro w3 x3 k3)
    have b3 : Below w2.heap.size w2 w3 := ((Keep.of_below bx).trans (k3.mono (O' := fun q => q < w2.heap.size) (fun q hq => by omega))).below (fun q hq => hq) (Nat.le_refl _)
    have r3 := r2.past b3 r2.lt
    have bb3 := bb2.trans (b3.mono bb2.size)
    clear x2 bx k3 b3 r2 bb2 hz x3
    go_wp2_with (refine wp_storeA 51 (.tmp 2) (.tmp 19) rfl rfl w.heap.size rfl 51 (u8s z128) (u8s z128) rfl r3 (by rw [info_4, HLZ.out]) rfl (u8s_one _) rfl ?_; intro w8 h8 k8)
    have b8 : Below w.heap.size w w8 := bb3.trans (k8.below (fun q hq => by omega) bb3.size)
    refine ret_row_tmp Tryd.results30 rfl w.heap.size 51 _ _ rfl h8 Tryd.underlying51 rfl (by rw [info_4, HLZ.out]) _ rfl ?_
    exact ⟨rfl, b8⟩
end

section
open Go.RowKit Go.Shelf
attribute [local go_sem] Oper.semAt_some
set_option linter.unusedVariables false
set_option linter.unusedSimpArgs false

set_option maxRecDepth 100000 in
set_option maxHeartbeats 1000000 in
theorem root_no (v : Value) (s : List UInt8) (w : World) (hv : Bs w w.heap.size v s) (h : ¬ (1 ≤ s.length ∧ s.length ≤ 64)) :
    Calls Tryd.prog 12 #[v] w fun e w' => e = .returned (.tuple #[.agg (u8s z32).toArray, .int .i64 1]) ∧ Below w.heap.size w w' := by
  obtain ⟨A, cap, rfl⟩ := hv.form
  have hz := zero_dig
  have hz4 := zero_4
  have r0 := Blk.new w 25 (u8s z32)
  have b0 : Below w.heap.size w (w.alloc (.cells (u8s z32).toArray 25)) := (Below.refl _ _).alloc (Nat.le_refl _) _
  obtain ⟨W0, hW0⟩ : ∃ W, W = w.alloc (.cells (u8s z32).toArray 25) := ⟨_, rfl⟩
  rw [← hW0] at r0 b0
  have HW := Lib.hid hW0
  have HC := Lib.hid (leavesOf_no (.slice A s.length cap) s W0 (hv.past b0) h)
  have HLZ : Hid ((u8s z128).length = 128) := Lib.hid rfl
  have HGW : Hid (w.heap.size = w.heap.size) := Lib.hid rfl
  clear hW0 hv h
  go_enter Tryd.func12, Tryd.ntmps12
  go_upto_region 1 with (fail)
  rw [← HW.out]
  clear hz
  go_wp2_with fail
  refine HC.out.mono ?_
  rintro e w2 ⟨rfl, b2⟩
  have r2 := r0.past b2 r0.lt
  have bb2 := b0.trans (b2.mono b0.size)
  have x2 := Blk.new w2 51 (u8s z128)
  have bx : Below w2.heap.size w2 (w2.alloc (.cells (u8s z128).toArray 51)) := (Below.refl _ _).alloc (Nat.le_refl _) _
  clear HC b2 r0 b0
  go_upto_region 2 with (refine wp_storeA 51 (.tmp 4) (.tmp 11) rfl rfl w2.heap.size rfl 51 (u8s z128) (u8s z128) rfl x2 (by rw [info_4, HLZ.out]) rfl (u8s_one _) rfl ?_; intro w3 x3 k3)
  have b3 : Below w2.heap.size w2 w3 := ((Keep.of_below bx).trans (k3.mono (O' := fun q => q < w2.heap.size) (fun q hq => by omega))).below (fun q hq => hq) (Nat.le_refl _)
  have r3 := r2.past b3 r2.lt
  have bb3 := bb2.trans (b3.mono bb2.size)
  have hz := zero_dig
  clear x2 bx k3 b3 r2 bb2 x3 hz4
  go_wp2_with (refine wp_storeA 25 (.tmp 2) (.tmp 15) rfl rfl w.heap.size rfl 25 (u8s z32) (u8s z32) rfl r3 (by rw [info_dig]; rfl) rfl (u8s_one _) rfl ?_; intro w8 h8 k8)
  have b8 : Below w.heap.size w w8 := bb3.trans (k8.below (fun q hq => by omega) bb3.size)
  refine ret_arr_tmp Tryd.results12 rfl w.heap.size 25 _ 32 5 rfl h8 Tryd.underlying25 (by rw [info_dig]; rfl) _ rfl ?_
  exact ⟨rfl, b8⟩

theorem lvs_flen (s : List UInt8) : (lvs s).length = 32 * 2 ^ 2 := lvs_len s

/-- What the rounds of Root's loop keep. -/
def RootI (S g : Nat) (w : World) (F : List UInt8) (M : Nat → Prop) (k : Nat) (W : World) : Prop :=
  ∃ X : List UInt8, (∀ b, M b ↔ b = g) ∧ Hid (X.length = 32) ∧ Hid (k = 3 → X = Kt.mrk F 2) ∧ Blk W g 25 (u8s X) ∧ Blk W S 25 (u8s z32) ∧ Below S w W

set_option maxRecDepth 100000 in
set_option maxHeartbeats 1000000 in
theorem root_yes (v : Value) (s : List UInt8) (w : World) (hv : Bs w w.heap.size v s) (h1 : 1 ≤ s.length) (h2 : s.length ≤ 64) (hk : KIs 1 w) :
    Calls Tryd.prog 12 #[v] w fun e w' => e = .returned (.tuple #[.agg (u8s (Kt.mrk (lvs s) 2)).toArray, .int .i64 0]) ∧ Below w.heap.size w w' := by
  obtain ⟨A, cap, rfl⟩ := hv.form
  have hz := zero_dig
  have hz4 := zero_4
  have r0 := Blk.new w 25 (u8s z32)
  have b0 : Below w.heap.size w (w.alloc (.cells (u8s z32).toArray 25)) := (Below.refl _ _).alloc (Nat.le_refl _) _
  obtain ⟨W0, hW0⟩ : ∃ W, W = w.alloc (.cells (u8s z32).toArray 25) := ⟨_, rfl⟩
  rw [← hW0] at r0 b0
  have HW := Lib.hid hW0
  have HC := Lib.hid (leavesOf_yes (.slice A s.length cap) s W0 (hv.past b0) h1 h2 (hk.past b0))
  have hglt : 1 < w.heap.size := block_lt_of_cell (hk 0 (by decide))
  obtain ⟨F, hF⟩ : ∃ F, F = lvs s := ⟨_, rfl⟩
  have HFL := Lib.hid (show F.length = 32 * 2 ^ 2 by rw [hF, lvs_flen])
  have HUF := Lib.hid (show (u8s F).length = 128 by rw [u8s_length, hF, lvs_len])
  rw [← hF] at HC ⊢
  have HK := Lib.hid hk
  clear hW0 hv hF hk
  refine (callsIn_wide (n := 0)).1 ?_
  refine callsIn_of_wp_marks Tryd.func12 rfl trivial ?_ rfl
  simp only [Tryd.ntmps12, List.size_toArray, List.length_cons, List.length_nil, Nat.reduceAdd, Nat.reduceSub, Array.replicate_succ, Array.replicate_zero, List.push_toArray, List.append_toArray, List.nil_append, List.cons_append]
  gi_wp2_with fail
  rw [← HW.out]
  refine ⟨trivial, rfl, (callsIn_wide.2 HC.out).mono ?_⟩
  rintro e w2 ⟨rfl, b2⟩
  have r2 := r0.past b2 r0.lt
  have bb2 := b0.trans (b2.mono b0.size)
  have x2 := Blk.new w2 51 (u8s z128)
  have bx : Below w2.heap.size w2 (w2.alloc (.cells (u8s z128).toArray 51)) := (Below.refl _ _).alloc (Nat.le_refl _) _
  clear HC b2 r0 b0
  gi_wp2_with (refine wpi_storeA 51 (.tmp 4) (.tmp 11) rfl rfl w2.heap.size rfl 51 (u8s z128) (u8s F) rfl x2 (by rw [info_4, HUF.out]) (by rw [HUF.out]; rfl) (u8s_one _) rfl ?_; intro w3 x3 k3)
  have b3 : Below w2.heap.size w2 w3 := ((Keep.of_below bx).trans (k3.mono (O' := fun q => q < w2.heap.size) (fun q hq => by omega))).below (fun q hq => hq) (Nat.le_refl _)
  have r3 := r2.past b3 r2.lt
  have bb3 := bb2.trans (b3.mono bb2.size)
  obtain ⟨g4, hg4⟩ : ∃ g, g = w2.heap.size := ⟨_, rfl⟩
  rw [← hg4] at x3 ⊢
  clear hg4 x2 bx k3 b3 r2 bb2 hz4
  refine ⟨trivial, rfl, (callsIn_wide.2 (levels_any (some ⟨g4, 0, none⟩) 4 4 _)).mono ?_⟩
  rintro e w4 ⟨rfl, rfl⟩
  obtain ⟨W3, hW3⟩ : ∃ W, W = (w3.alloc (.cells (u8s z32).toArray 25)).alloc (.cells #[.slice (some ⟨g4, 0, none⟩) 4 4] 29) := ⟨_, rfl⟩
  have c3 : Below w3.heap.size w3 W3 := by rw [hW3]; exact ((Below.refl _ _).alloc (Nat.le_refl _) _).alloc (by simp) _
  have hs3 : W3.heap.size = w3.heap.size + 2 := by rw [hW3]; simp
  have q3 : Blk W3 w3.heap.size 25 (u8s z32) := by
    rw [hW3]; exact (Blk.new w3 25 (u8s z32)).past ((Below.refl _ _).alloc (Nat.le_refl _) _) (by simp)
  have c2 : W3.cell? ⟨w3.heap.size + 1, 0, none⟩ = some (.slice (some ⟨g4, 0, none⟩) 4 4) := by
    have h := Blk.new (w3.alloc (.cells (u8s z32).toArray 25)) 29 [.slice (some ⟨g4, 0, none⟩) 4 4]
    rw [World.size_alloc] at h
    rw [hW3]; exact h.cell (j := 0) rfl
  have x4 := x3.past c3 x3.lt
  have hx3 := x3.lt
  have hr3 := r3.lt
  have r4 := r3.past c3 r3.lt
  have bb4 := bb3.trans (c3.mono bb3.size)
  have HROW := Lib.hid (row_of_blkS (s := 32) (n := 4) x4 x4.lt (by rw [HUF.out]) (by decide))
  have HC := Lib.hid (And.intro q3 (And.intro c2 r4))
  have HW3 := Lib.hid hW3
  have hgr : w.heap.size ≤ w3.heap.size := bb3.size
  obtain ⟨gr, hgrr⟩ : ∃ g, g = w3.heap.size := ⟨_, rfl⟩
  rw [← hgrr] at hs3 hx3 hr3 hgr HC
  have HGR := Lib.hid hgrr
  have hs3' : gr + 2 ≤ W3.heap.size := by omega
  have hgw : 1 < gr := by omega
  clear c3 q3 c2 x3 x4 r3 r4 hs3
  gi_wp2_with fail
  rw [← hW3]
  simp only [← hgrr]
  clear hW3 hgrr
  refine wp_rangeM (gf := 53) (lb := #[.pointer (some ⟨gr + 1, 0, none⟩)]) (T := fun b => b < gr) (Item := ItemD) (items := lvls F 2) rfl (enters_of Tryd.func53 (by kernel_rfl) rfl) (fun b h => by omega)
    ?hItem ?hseq (RootI w.heap.size gr w F) (fun b => b = gr) (fun b hb h => by omega) ?h0 ?hlt ?hI
    (fun v => { tmps := #[.slice A s.length cap, undef, .pointer (some ⟨w.heap.size, 0, none⟩), .int .i64 0, .pointer (some ⟨g4, 0, none⟩), .int .i64 0, .pointer (some ⟨gr, 0, none⟩), v, .tuple #[.agg (u8s F).toArray, .int .i64 0], .slice A s.length cap, .tuple #[.agg (u8s F).toArray, .int .i64 0], .agg (u8s F).toArray, .int .i64 0, .int .i64 0, .bool false, undef, undef, .slice (some ⟨g4, 0, none⟩) 4 4, .func (.func 53) #[] #[.pointer (some ⟨gr + 1, 0, none⟩)], v, undef, undef, undef, undef], defers := [] }) ?hassign ?hbody ?hdone
  case hItem =>
    rintro M v x W4 W5 ⟨h1, h2⟩ hk
    exact ⟨Row.keepT h1 h2 hk (fun b hb => hb) hk.size, h2⟩
  case hseq =>
    intro W4 hb4
    exact levels_gives (fun b => b < gr) (gr + 1) _ F 2 W4 (cell_past HC.out.2.1 hb4) hgw (HROW.out.past hb4) (fun a n c e h0 => by injection e with e1 _ _; injection e1 with e1; rw [← e1]; exact hx3) (by decide) (HK.out.past (bb4.trans (hb4.mono (by omega))))
  case h0 =>
    intro W4 hb4 hs4
    exact ⟨z32, fun b => Iff.rfl, Lib.hid rfl, Lib.hid (fun h => by cases h), HC.out.1.past hb4 (by omega), HC.out.2.2.past hb4 (by omega), bb4.trans (hb4.mono (by omega))⟩
  case hlt =>
    rintro M k W4 ⟨X, hM, _, _, h1, _, _⟩ b hb
    rw [(hM b).1 hb]; exact h1.lt
  case hI =>
    rintro M k W4 W5 ⟨X, hM, HXL, HX, h1, h2, h3⟩ hk
    exact ⟨X, hM, HXL, HX, h1.keep hk (Or.inl (by omega)), h2.keep hk (Or.inl (by omega)), h3.trans (hk.below (fun q hq => Or.inl (by omega)) h3.size)⟩
  case hassign =>
    intro l' v W4 K hK
    gi_wp2
    exact hK
  case hdone =>
    rintro M W4 hs4 ⟨X, hM, HXL, HX, h1, h2, h3⟩ hd
    have HXE := Lib.hid (HX.out (by rw [lvls_len]))
    have HUX := Lib.hid (show (u8s X).length = 32 by rw [u8s_length, HXL.out])
    have hd0 := hd
    clear hM HX
    gi_wp2_with (first
      | (refine wpi_val rfl (fun c hc => by cases hc) rfl (exec_loadA 25 rfl gr rfl 25 _ 32 5 h1 Tryd.underlying25 (by rw [info_dig, HUX.out])) ?_)
      | (refine wpi_storeA 25 (.tmp 2) (.tmp 23) rfl rfl w.heap.size rfl 25 (u8s z32) (u8s X) rfl h2 (by rw [info_dig, HUX.out]) (by rw [HUX.out]; rfl) (u8s_one _) rfl ?_; intro w8 h8 k8))
    have b8 : Below w.heap.size w w8 := h3.trans (k8.below (fun q hq => by omega) h3.size)
    have hd8 : w8.heap[W3.heap.size]? = some (.deferred (some [])) := k8.heap (show W3.heap.size ≠ w.heap.size by omega) hd
    have hp : ∀ O : Nat → Prop, ¬ O W3.heap.size → Keep O w8 (w8.putObj W3.heap.size (.deferred none)) := fun O hO => Keep.putObj _ _ _ hO
    have h9 := h8.keep (hp (fun q => q < W3.heap.size) (by omega)) (by omega)
    have b9 : Below w.heap.size w (w8.putObj W3.heap.size (.deferred none)) := b8.trans ((hp (fun q => q < w.heap.size) (by omega)).below (fun q hq => hq) b8.size)
    show LeavesInM _ _ _ _ _ _ _ _ _
    refine ⟨by simp, .inl ⟨_, _, rfl, run_takeDeferred hd8, ?_⟩⟩
    refine ⟨.tuple #[.agg (u8s X).toArray, .int .i64 0], ?_, ?_⟩
    · have hl := run_loadVar_row (P := Tryd.prog) _ w.heap.size 25 25 (u8s X).toArray (0, 0) _ h9 Tryd.underlying25 rfl (by rw [info_dig]; simp [HUX.out])
      simp [results, Tryd.results12, asAddr, hl]
    · rw [← HXE.out]
      exact ⟨rfl, b9⟩
  case hbody =>
    rintro l' M k ⟨nk, G⟩ v W4 hs4 ⟨X, hM, HXL, HX, h1, h2, h3⟩ hx ⟨hr, hrT⟩
    have HM := Lib.hid hM
    have hkK : k ≤ 2 := by
      have h := (List.getElem?_eq_some_iff.1 hx).1
      rw [lvls_len] at h; omega
    rw [lvls_get F hkK] at hx
    injection hx with hx
    injection hx with hx1 hx2
    have hn1 : 0 < nk := by rw [← hx1]; exact Nat.two_pow_pos _
    obtain ⟨A4, cap4, rfl⟩ := row_form hr
    obtain ⟨ad, rfl, _, _⟩ := hr.at_ hn1
    obtain ⟨D, hD⟩ : ∃ D, D = Wt.el G 0 := ⟨_, rfl⟩
    have HDL := Lib.hid (show D.length = 32 by rw [hD]; exact Wt.el_len (n := nk) (by have := row_flen hr; dsimp only at this; omega) hn1)
    have HUD := Lib.hid (show (u8s D).length = 32 by rw [u8s_length, HDL.out])
    have HUX := Lib.hid (show (u8s X).length = 32 by rw [u8s_length, HXL.out])
    have HDX : Hid (k + 1 = 3 → D = Kt.mrk F 2) := Lib.hid fun h => by
      obtain rfl : k = 2 := by omega
      rw [hD, ← hx2, Kt.el_lv HFL.out (by decide)]; rfl
    have hcx := row_elem hr hn1
    rw [← hD] at hcx
    have HCX := Lib.hid hcx
    clear hD hcx hM HX hx1 hx2 hr hrT
    gi_wp2_with (first
      | (refine wpi_val rfl (fun c hc => by cases hc) rfl (exec_ixS 29 25 32 Tryd.underlying29 info_dig _ rfl rfl _ _ 0 rfl rfl hn1 (q := ad.add (0 * 32)) rfl) ?_)
      | (refine wpi_val rfl (fun c hc => by cases hc) rfl (exec_loadP 25 rfl (ad.add (0 * 32)) rfl (u8s D) 32 5 HCX.out Tryd.underlying25 (by rw [info_dig, HUD.out])) ?_)
      | (refine wpi_storeA 25 (.tmp 6) (.tmp 22) rfl rfl gr rfl 25 (u8s X) (u8s D) rfl h1 (by rw [info_dig, HUD.out]) (by rw [HUX.out, HUD.out]) (u8s_one _) rfl ?_; intro w8 h8 k8))
    refine ⟨rfl, M, ⟨D, HM.out, HDL, HDX, h8, h2.keep k8 (by omega), h3.trans (k8.below (fun q hq => by omega) h3.size)⟩, fun b hb => Or.inl hb, k8.mono ?_⟩
    rintro b (hb | hb | hb)
    · exact fun h => hb ((HM.out b).2 h)
    · omega
    · omega
end

section
open Go.RowKit
set_option linter.unusedVariables false
set_option linter.unusedSimpArgs false

def nilS : Value := .slice none 0 0
/-- A signature's cells. -/
def sg (ix : Int) (c p : Value) : List Value := [.int .i64 ix, c, p]
theorem sg_len (ix : Int) (c p : Value) : (sg ix c p).length = 3 := rfl
theorem zero_sig (w : World) : (zeroValue 31).run Tryd.prog w = .ok (.agg (sg 0 nilS nilS).toArray) w := by kernel_rfl
theorem info_sig : (Tryd.prog.info? 31).map (·.size) = some 3 := by kernel_rfl
def msgD (l : List UInt8) : List UInt8 := Sha.tag [109, 115, 103] l
theorem msgD_len (l : List UInt8) : (msgD l).length = 32 := Sha.tag_len _ _
theorem sg_one {ix : Int} {A B : Option Addr} {n m c d : Nat} : ∀ v ∈ sg ix (.slice A n c) (.slice B m d), v.oneCell' = true := by
  intro v hv
  simp [sg] at hv
  rcases hv with rfl | rfl | rfl <;> rfl

theorem build_sig (ix : Int) (A B : Option Addr) (n m c d : Nat) (w : World) : (Instr.build 31 #[(0, .int .i64 ix), (1, .slice A n c), (2, .slice B m d)]).run Tryd.prog w = .ok (.agg (sg ix (.slice A n c) (.slice B m d)).toArray) w := by kernel_rfl
theorem exec_sig {o : Oper} {a : Act} (x y z : Operand) (ho : o.op = .build 31 #[(0, x), (1, y), (2, z)]) (ix : Int) (A B : Option Addr) (n m c d : Nat) (hx : a.eval x = .int .i64 ix) (hy : a.eval y = .slice A n c) (hz : a.eval z = .slice B m d) (w : World) :
    (execOp a.eval o).run Tryd.prog w = .ok (.value (.agg (sg ix (.slice A n c) (.slice B m d)).toArray)) w := by
  unfold execOp
  have e : (#[(0, x), (1, y), (2, z)] : Array (Nat × Operand)).map (fun (i, x) => (i, a.eval x)) = #[(0, .int .i64 ix), (1, .slice A n c), (2, .slice B m d)] := by simp [hx, hy, hz]
  simp only [ho, e, Sem.run_bind, build_sig, Result.andThen_ok, Sem.run_pure]

set_option maxRecDepth 100000 in
set_option maxHeartbeats 1000000 in
theorem ktsign_no (v u : Value) (s m : List UInt8) (ix : Int) (w : World) (hv : Bs w w.heap.size v s) (hu : Bs w w.heap.size u m) (h : ¬ (1 ≤ s.length ∧ s.length ≤ 64 ∧ 0 ≤ ix ∧ ix ≤ 3)) :
    Calls Tryd.prog 14 #[v, .int .i64 ix, u] w fun e w' => e = .returned (.tuple #[.agg (sg 0 nilS nilS).toArray, .int .i64 1]) ∧ Below w.heap.size w w' := by
  obtain ⟨A, cap, rfl⟩ := hv.form
  obtain ⟨A2, cap2, rfl⟩ := hu.form
  have hzs := zero_sig
  have r0 := Blk.new w 31 (sg 0 nilS nilS)
  have b0 : Below w.heap.size w (w.alloc (.cells (sg 0 nilS nilS).toArray 31)) := (Below.refl _ _).alloc (Nat.le_refl _) _
  obtain ⟨W0, hW0⟩ : ∃ W, W = w.alloc (.cells (sg 0 nilS nilS).toArray 31) := ⟨_, rfl⟩
  rw [← hW0] at r0 b0
  have HW := Lib.hid hW0
  obtain ⟨Z, hZ⟩ : ∃ Z, Z = sg 0 nilS nilS := ⟨_, rfl⟩
  rw [← hZ] at r0 hzs HW ⊢
  have HZL := Lib.hid (show Z.length = 3 by rw [hZ]; rfl)
  have HZ1 := Lib.hid (show ∀ v ∈ Z, v.oneCell' = true by rw [hZ]; exact sg_one)
  clear hZ
  by_cases hx : 0 ≤ ix ∧ ix ≤ 3
  · obtain ⟨hx0, hx3⟩ := hx
    have hz4 := zero_4
    have HC := Lib.hid (leavesOf_no (.slice A s.length cap) s W0 (hv.past b0) (fun h2 => h ⟨h2.1, h2.2, hx0, hx3⟩))
    have HLZ : Hid ((u8s z128).length = 128) := Lib.hid rfl
    clear hW0 hv hu h
    go_enter Tryd.func14, Tryd.ntmps14
    go_upto_region 1 with (fail)
    rw [← HW.out]
    go_wp2_with fail
    refine HC.out.mono ?_
    rintro e w2 ⟨rfl, b2⟩
    have r2 := r0.past b2 r0.lt
    have bb2 := b0.trans (b2.mono b0.size)
    have x2 := Blk.new w2 51 (u8s z128)
    have bx : Below w2.heap.size w2 (w2.alloc (.cells (u8s z128).toArray 51)) := (Below.refl _ _).alloc (Nat.le_refl _) _
    clear HC b2 r0 b0
    go_upto_region 4 with (refine wp_storeA 51 (.tmp 8) (.tmp 22) rfl rfl w2.heap.size rfl 51 (u8s z128) (u8s z128) rfl x2 (by rw [info_4, HLZ.out]) rfl (u8s_one _) rfl ?_; intro w3 x3 k3)
    have b3 : Below w2.heap.size w2 w3 := ((Keep.of_below bx).trans (k3.mono (O' := fun q => q < w2.heap.size) (fun q hq => by omega))).below (fun q hq => hq) (Nat.le_refl _)
    have r3 := r2.past b3 r2.lt
    have bb3 := bb2.trans (b3.mono bb2.size)
    clear x2 bx k3 b3 r2 bb2 x3 hz4
    go_wp2_with (refine wp_storeA 31 (.tmp 6) (.tmp 26) rfl rfl w.heap.size rfl 31 Z Z rfl r3 (by rw [info_sig, HZL.out]) rfl HZ1.out rfl ?_; intro w8 h8 k8)
    have b8 : Below w.heap.size w w8 := bb3.trans (k8.below (fun q hq => by omega) bb3.size)
    refine ret_row_tmp Tryd.results14 rfl w.heap.size 31 _ _ rfl h8 Tryd.underlying31 rfl (by rw [info_sig, HZL.out]) _ rfl ?_
    exact ⟨rfl, b8⟩
  · have hor : ix < 0 ∨ ¬ ix < 0 ∧ 4 ≤ ix := by omega
    clear hW0 hv hu h hx
    rcases hor with h1 | ⟨h1, h2⟩
    · go_enter Tryd.func14, Tryd.ntmps14
      go_upto_region 1 with (fail)
      rw [← HW.out]
      go_wp2_with (refine wp_storeA 31 (.tmp 6) (.tmp 18) rfl rfl w.heap.size rfl 31 Z Z rfl r0 (by rw [info_sig, HZL.out]) rfl HZ1.out rfl ?_; intro w8 h8 k8)
      have b8 : Below w.heap.size w w8 := b0.trans (k8.below (fun q hq => by omega) b0.size)
      refine ret_row_tmp Tryd.results14 rfl w.heap.size 31 _ _ rfl h8 Tryd.underlying31 rfl (by rw [info_sig, HZL.out]) _ rfl ?_
      exact ⟨rfl, b8⟩
    · go_enter Tryd.func14, Tryd.ntmps14
      go_upto_region 1 with (fail)
      rw [← HW.out]
      go_wp2_with (refine wp_storeA 31 (.tmp 6) (.tmp 18) rfl rfl w.heap.size rfl 31 Z Z rfl r0 (by rw [info_sig, HZL.out]) rfl HZ1.out rfl ?_; intro w8 h8 k8)
      have b8 : Below w.heap.size w w8 := b0.trans (k8.below (fun q hq => by omega) b0.size)
      refine ret_row_tmp Tryd.results14 rfl w.heap.size 31 _ _ rfl h8 Tryd.underlying31 rfl (by rw [info_sig, HZL.out]) _ rfl ?_
      exact ⟨rfl, b8⟩

set_option maxRecDepth 100000 in
set_option maxHeartbeats 1000000 in
theorem ktsign_yes (v u : Value) (s m : List UInt8) (ix : Nat) (w : World) (hv : Bs w w.heap.size v s) (hu : Bs w w.heap.size u m) (h1 : 1 ≤ s.length) (h2 : s.length ≤ 64) (hm : m.length ≤ 90000) (h3 : ix ≤ 3) (hk : KIs 1 w) :
    Calls Tryd.prog 14 #[v, .int .i64 ix, u] w fun e w' => ∃ (A B : Option Addr) (c d : Nat), e = .returned (.tuple #[.agg (sg ix (.slice A 18 c) (.slice B 2 d)).toArray, .int .i64 0]) ∧ Row w' w'.heap.size 32 18 (.slice A 18 c) (u8s (Wt.sig s ix (msgD m))) ∧ Row w' w'.heap.size 32 2 (.slice B 2 d) (u8s (Kt.pth (lvs s) ix 2)) ∧ Below w.heap.size w w' := by
  obtain ⟨A, cap, rfl⟩ := hv.form
  obtain ⟨A2, cap2, rfl⟩ := hu.form
  have hzs := zero_sig
  have hz4 := zero_4
  have r0 := Blk.new w 31 (sg 0 nilS nilS)
  have b0 : Below w.heap.size w (w.alloc (.cells (sg 0 nilS nilS).toArray 31)) := (Below.refl _ _).alloc (Nat.le_refl _) _
  obtain ⟨W0, hW0⟩ : ∃ W, W = w.alloc (.cells (sg 0 nilS nilS).toArray 31) := ⟨_, rfl⟩
  rw [← hW0] at r0 b0
  have HW := Lib.hid hW0
  obtain ⟨Z, hZ⟩ : ∃ Z, Z = sg 0 nilS nilS := ⟨_, rfl⟩
  rw [← hZ] at r0 hzs HW
  have HZL := Lib.hid (show Z.length = 3 by rw [hZ]; rfl)
  have HC := Lib.hid (leavesOf_yes (.slice A s.length cap) s W0 (hv.past b0) h1 h2 (hk.past b0))
  obtain ⟨F, hF⟩ : ∃ F, F = lvs s := ⟨_, rfl⟩
  have HFL := Lib.hid (show F.length = 32 * 2 ^ 2 by rw [hF, lvs_flen])
  have HUF := Lib.hid (show (u8s F).length = 128 by rw [u8s_length, hF, lvs_len])
  rw [← hF] at HC ⊢
  have HV := Lib.hid hv
  have HU := Lib.hid hu
  have HK := Lib.hid hk
  clear hW0 hv hu hF hZ hk
  go_enter Tryd.func14, Tryd.ntmps14
  go_upto_region 1 with (fail)
  rw [← HW.out]
  go_wp2_with fail
  refine HC.out.mono ?_
  rintro e w2 ⟨rfl, b2⟩
  have r2 := r0.past b2 r0.lt
  have bb2 := b0.trans (b2.mono b0.size)
  have x2 := Blk.new w2 51 (u8s z128)
  have bx : Below w2.heap.size w2 (w2.alloc (.cells (u8s z128).toArray 51)) := (Below.refl _ _).alloc (Nat.le_refl _) _
  clear HC b2 r0 b0
  go_upto_region 4 with (refine wp_storeA 51 (.tmp 8) (.tmp 22) rfl rfl w2.heap.size rfl 51 (u8s z128) (u8s F) rfl x2 (by rw [info_4, HUF.out]) (by rw [HUF.out]; rfl) (u8s_one _) rfl ?_; intro w3 x3 k3)
  have b3 : Below w2.heap.size w2 w3 := ((Keep.of_below bx).trans (k3.mono (O' := fun q => q < w2.heap.size) (fun q hq => by omega))).below (fun q hq => hq) (Nat.le_refl _)
  have r3 := r2.past b3 r2.lt
  have bb3 := bb2.trans (b3.mono bb2.size)
  obtain ⟨g4, hg4⟩ : ∃ g, g = w2.heap.size := ⟨_, rfl⟩
  rw [← hg4] at x3 ⊢
  clear hg4 x2 bx k3 b3 r2 bb2 hz4
  have HC3 := Lib.hid (msg_any (.slice A2 m.length cap2) m w3 (HU.out.past bb3) (HK.out.past bb3) hm)
  go_wp2_with fail
  refine HC3.out.mono ?_
  rintro e w4 ⟨rfl, b4⟩
  have r4 := r3.past b4 r3.lt
  have x4 := x3.past b4 x3.lt
  have bb4 := bb3.trans (b4.mono bb3.size)
  have hw4 : w.heap.size < w4.heap.size := r4.lt
  have HC4 := Lib.hid (sign_yes (.slice A s.length cap) s (msgD m) ix w4 (HV.out.past bb4) h1 h2 (by omega) (msgD_len m) (HK.out.past bb4))
  clear HC3 b4 r3 x3 bb3
  go_wp2_with fail
  refine HC4.out.mono ?_
  rintro e w5 ⟨gs, rfl, s5, hgs, b5⟩
  have r5 := r4.past b5 r4.lt
  have x5 := x4.past b5 x4.lt
  have bb5 := bb4.trans (b5.mono bb4.size)
  obtain ⟨SG, hSG⟩ : ∃ SG, SG = Wt.sig s ix (msgD m) := ⟨_, rfl⟩
  have HSL := Lib.hid (show (u8s SG).length = 18 * 32 by rw [hSG, u8s_length, Wt.sig_len])
  rw [← hSG] at s5
  have HSG := Lib.hid hSG
  have HC5 := Lib.hid (path_at (.slice (some ⟨g4, 0, none⟩) 4 4) F 2 ix w5 (row_of_blkS (s := 32) (n := 4) x5 x5.lt (by rw [HUF.out]) (by decide)) (by decide) (by omega) (HK.out.past bb5))
  have hlt5 : w.heap.size < w5.heap.size := r5.lt
  have hgs' : w.heap.size < gs := by omega
  clear HC4 b5 r4 x4 bb4 hSG hgs
  go_wp2_with fail
  refine HC5.out.mono ?_
  rintro e w6 ⟨pv, rfl, p6, pT, b6⟩
  have r6 := r5.past b6 r5.lt
  have s6 := s5.past b6 s5.lt
  have bb6 := bb5.trans (b6.mono bb5.size)
  obtain ⟨B, d, rfl⟩ := row_form p6
  obtain ⟨PT, hPT⟩ : ∃ PT, PT = Kt.pth F ix 2 := ⟨_, rfl⟩
  rw [← hPT] at p6
  have hb5 := Nat.le_trans bb5.size (Nat.le_refl _)
  have HR : Hid (∀ w8 : World, Keep (fun q => q ≠ w.heap.size) w6 w8 → Row w8 w8.heap.size 32 2 (.slice B 2 d) (u8s PT)) := Lib.hid fun w8 hk => Row.keepT p6 pT hk (fun b hb => by have := hlt5; omega) hk.size
  have HPT := Lib.hid hPT
  clear HC5 b6 r5 x5 s5 bb5 hPT
  go_wp2_with (first
    | (refine wp_run rfl (exec_sig (.tmp 50) (.tmp 51) (.tmp 52) rfl ix (some ⟨gs, 0, none⟩) B 18 2 18 d rfl rfl rfl _) ?_)
    | (refine wp_storeA 31 (.tmp 6) (.tmp 53) rfl rfl w.heap.size rfl 31 Z (sg ix (.slice (some ⟨gs, 0, none⟩) 18 18) (.slice B 2 d)) rfl r6 (by rw [info_sig]; rfl) (by rw [HZL.out]; rfl) sg_one rfl ?_; intro w8 h8 k8))
  have b8 : Below w.heap.size w w8 := bb6.trans (k8.below (fun q hq => by omega) bb6.size)
  have p8 : Row w8 w8.heap.size 32 2 (.slice B 2 d) (u8s PT) := HR.out w8 k8
  have s8 := s6.keep k8 (fun h => by omega)
  refine ret_row_tmp Tryd.results14 rfl w.heap.size 31 _ _ rfl h8 Tryd.underlying31 rfl (by rw [info_sig]; rfl) _ rfl ?_
  refine ⟨_, _, _, _, rfl, ?_, ?_, b8⟩
  · rw [← HSG.out]
    exact row_of_blkS (s := 32) (n := 18) s8 s8.lt HSL.out (by decide)
  · rw [← HPT.out]; exact p8
end
end Go.Proofs.YtccepoeenkpifaaDoor
