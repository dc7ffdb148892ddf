/-
  The examples of layer 3: the walk of sane.
-/
import Derived.Test.YtglabhlgnbkeiaaDoorShL
import Derived.Test.YtglabhlgnbkeiaaDoorEql
import Derived.Test.YtglabhlgnbkeiaaDoorPlt
namespace Go.Proofs.YtglabhlgnbkeiaaDoor
open Go.RowKit
set_option linter.unusedVariables false
set_option linter.unusedSimpArgs false

theorem stepped_alloc {base : Nat} {K : Act → World → Prop} {w : World} {a' : Act} {cs : Array Value} {t : TypeId} (l : List Value) (hl : cs = l.toArray) (hb : base ≤ w.heap.size) (h : ∀ w', Below w.heap.size w w' → Blk w' w.heap.size t l → K a' w') : SteppedK base K w .normal a' (w.alloc (.cells cs t)) := by
  subst hl
  exact ⟨rfl, (Below.refl _ _).alloc hb _, h _ ((Below.refl _ _).alloc (Nat.le_refl _) _) (Blk.new w t l)⟩

theorem lit_bs {w : World} {g : Nat} {t : TypeId} {l : List UInt8} (h : Blk w g t (u8s l)) (hl : l.length ≤ maxLen) : Bs w w.heap.size (.slice (some ⟨g, 0, none⟩) l.length l.length) l := h.bs0 h.lt hl

/-- A literal's slice converted to its own type: its row is marked, no cell turns. -/
theorem conv_lit {w : World} {g : Nat} {l : List UInt8} (hg : Blk w g 5 (u8s l)) (hl : l.length ≤ maxLen := by decide) :
    ∃ w', (convert 22 22 (.slice (some ⟨g, 0, none⟩) l.length l.length)).run Tryd.prog w = .ok (.slice (some ⟨g, 0, none⟩) l.length l.length) w' ∧ Keep (fun q => q ≠ g) w w' ∧ Bs w' w'.heap.size (.slice (some ⟨g, 0, none⟩) l.length l.length) l := by
  have hsh : w.shape? g = some (5, l.length) := by
    unfold World.shape?
    rw [hg]
    simp [u8s_length]
  have hgl := hg.lt
  refine ⟨w.freeze ⟨g, l.length, none⟩ 1, ?_, ?_, ?_⟩
  · simp [convert, run_underlying Tryd.underlying22, run_underlying Tryd.underlying5, markStringish, hsh]
  · refine ⟨by simp [World.freeze], by simp [World.freeze], by simp [World.freeze], by simp [World.freeze], fun k hk hlt => ?_⟩
    simp only [World.freeze]
    simp [Array.getElem?_modify, Ne.symm hk]
  · have hb := lit_bs hg hl
    obtain ⟨A, cap, hv, h1, h2, h3, h4, h5⟩ := hb
    refine ⟨A, cap, hv, h1, h2, h3, h4, fun a ha h0 => ?_⟩
    obtain ⟨hl', hc⟩ := h5 a ha h0
    refine ⟨by simpa [World.freeze] using hl', fun i u hu => ?_⟩
    rw [← hc i u hu]
    unfold World.cell?
    simp only [World.freeze]
    simp only [Nat.one_ne_zero, if_false, Array.getElem?_modify]
    by_cases hge : g = (a.add i).block
    · unfold Blk at hg
      rw [if_pos hge, ← hge, hg]
      rfl
    · rw [if_neg hge]

theorem exec_loadA {P : Program} {o : Oper} {a : Act} {w : World} (ty : TypeId) {x : Operand} (ho : o.op = .load ty x) (g : Nat) (hx : a.eval x = .pointer (some ⟨g, 0, none⟩)) (t : TypeId) (l : List Value) (n : Nat) (e : TypeId) (hg : Blk w g t l)
    (hu : P.underlying ty = some (.array n e)) (hi : (P.info? ty).map (·.size) = some l.length) : (execOp a.eval o).run P w = .ok (.value (.agg l.toArray)) w := by
  unfold execOp
  simp only [ho, hx, Instr.loadAt, Instr.sureAddr, Sem.run_bind, Sem.run_pure, Result.andThen_ok, run_loadVar_row w g t ty l.toArray (0, 0) _ hg hu rfl (by simpa using hi)]

theorem exec_eqT {o : Oper} {act : Act} {x y : Operand} (ho : o.op = .binOp .eql 25 x y 25) (a b : List UInt8) (hx : act.eval x = .agg (u8s a).toArray) (hy : act.eval y = .agg (u8s b).toArray) (h : a = b) (ha : a.length = 32) (hb : b.length = 32) (w : World) :
    (execOp act.eval o).run Tryd.prog w = .ok (.value (.bool true)) w := by
  have h1 := exec_eqD ho a b hx hy ha hb w
  rwa [beq_iff_eq.2 h] at h1

theorem exec_buildC {P : Program} {o : Oper} {a : Act} {w : World} (t : TypeId) (parts : Array (Nat × Operand)) (ho : o.op = .build t parts) (vs : Array (Nat × Value)) (hp : (parts.map fun (i, x) => (i, a.eval x)) = vs) (cells : Array Value) (h : P.built t vs.toList = some cells) :
    (execOp a.eval o).run P w = .ok (.value (.agg cells)) w := by
  unfold execOp
  simp only [ho, hp, Sem.run_bind, Sem.run_pure, run_build w t vs cells h, Result.andThen_ok]

def emptyP : Array (Nat × Value) := #[(0, .int .u8 227), (1, .int .u8 176), (2, .int .u8 196), (3, .int .u8 66), (4, .int .u8 152), (5, .int .u8 252), (6, .int .u8 28), (7, .int .u8 20), (8, .int .u8 154), (9, .int .u8 251), (10, .int .u8 244), (11, .int .u8 200), (12, .int .u8 153), (13, .int .u8 111), (14, .int .u8 185), (15, .int .u8 36), (16, .int .u8 39), (17, .int .u8 174), (18, .int .u8 65), (19, .int .u8 228), (20, .int .u8 100), (21, .int .u8 155), (22, .int .u8 147), (23, .int .u8 76), (24, .int .u8 164), (25, .int .u8 149), (26, .int .u8 153), (27, .int .u8 27), (28, .int .u8 120), (29, .int .u8 82), (30, .int .u8 184), (31, .int .u8 85)]
def abcP : Array (Nat × Value) := #[(0, .int .u8 186), (1, .int .u8 120), (2, .int .u8 22), (3, .int .u8 191), (4, .int .u8 143), (5, .int .u8 1), (6, .int .u8 207), (7, .int .u8 234), (8, .int .u8 65), (9, .int .u8 65), (10, .int .u8 64), (11, .int .u8 222), (12, .int .u8 93), (13, .int .u8 174), (14, .int .u8 34), (15, .int .u8 35), (16, .int .u8 176), (17, .int .u8 3), (18, .int .u8 97), (19, .int .u8 163), (20, .int .u8 150), (21, .int .u8 23), (22, .int .u8 122), (23, .int .u8 156), (24, .int .u8 180), (25, .int .u8 16), (26, .int .u8 255), (27, .int .u8 97), (28, .int .u8 242), (29, .int .u8 0), (30, .int .u8 21), (31, .int .u8 173)]
def emptyO : Array (Nat × Operand) := #[(0, .const (.int .u8 227)), (1, .const (.int .u8 176)), (2, .const (.int .u8 196)), (3, .const (.int .u8 66)), (4, .const (.int .u8 152)), (5, .const (.int .u8 252)), (6, .const (.int .u8 28)), (7, .const (.int .u8 20)), (8, .const (.int .u8 154)), (9, .const (.int .u8 251)), (10, .const (.int .u8 244)), (11, .const (.int .u8 200)), (12, .const (.int .u8 153)), (13, .const (.int .u8 111)), (14, .const (.int .u8 185)), (15, .const (.int .u8 36)), (16, .const (.int .u8 39)), (17, .const (.int .u8 174)), (18, .const (.int .u8 65)), (19, .const (.int .u8 228)), (20, .const (.int .u8 100)), (21, .const (.int .u8 155)), (22, .const (.int .u8 147)), (23, .const (.int .u8 76)), (24, .const (.int .u8 164)), (25, .const (.int .u8 149)), (26, .const (.int .u8 153)), (27, .const (.int .u8 27)), (28, .const (.int .u8 120)), (29, .const (.int .u8 82)), (30, .const (.int .u8 184)), (31, .const (.int .u8 85))]
def abcO : Array (Nat × Operand) := #[(0, .const (.int .u8 186)), (1, .const (.int .u8 120)), (2, .const (.int .u8 22)), (3, .const (.int .u8 191)), (4, .const (.int .u8 143)), (5, .const (.int .u8 1)), (6, .const (.int .u8 207)), (7, .const (.int .u8 234)), (8, .const (.int .u8 65)), (9, .const (.int .u8 65)), (10, .const (.int .u8 64)), (11, .const (.int .u8 222)), (12, .const (.int .u8 93)), (13, .const (.int .u8 174)), (14, .const (.int .u8 34)), (15, .const (.int .u8 35)), (16, .const (.int .u8 176)), (17, .const (.int .u8 3)), (18, .const (.int .u8 97)), (19, .const (.int .u8 163)), (20, .const (.int .u8 150)), (21, .const (.int .u8 23)), (22, .const (.int .u8 122)), (23, .const (.int .u8 156)), (24, .const (.int .u8 180)), (25, .const (.int .u8 16)), (26, .const (.int .u8 255)), (27, .const (.int .u8 97)), (28, .const (.int .u8 242)), (29, .const (.int .u8 0)), (30, .const (.int .u8 21)), (31, .const (.int .u8 173))]
theorem consts_empty (a : Act) : (emptyO.map fun (i, x) => (i, a.eval x)) = emptyP := by simp [emptyO, emptyP, Act.eval]
theorem consts_abc (a : Act) : (abcO.map fun (i, x) => (i, a.eval x)) = abcP := by simp [abcO, abcP, Act.eval]
theorem built_empty : Tryd.prog.built 25 emptyP.toList = some (u8s (Sha.sum [])).toArray := by rw [Sha.sum_empty]; kernel_rfl
theorem built_abc : Tryd.prog.built 25 abcP.toList = some (u8s (Sha.sum [97, 98, 99])).toArray := by rw [Sha.sum_abc]; kernel_rfl
theorem len_s (l : List UInt8) : (u8s (Sha.sum l)).length = 32 := by rw [u8s_length, Sha.sum_len]
theorem chain0 (x : List UInt8) : Sha.chain x (0 : Int).toNat = x := rfl
theorem chain1 (x : List UInt8) : Sha.chain x (1 : Int).toNat = Sha.tag Sha.stepT x := rfl
theorem tag_ab : Sha.tag [97] [98] = Sha.sum [1, 97, 98] := congrArg Sha.sum (by decide)

attribute [local irreducible] Sha.sum Sha.tag Sha.chain

set_option maxRecDepth 100000 in
set_option maxHeartbeats 4000000 in
theorem sane_any (w : World) (hk : KIs 1 w) : Calls Tryd.prog 11 #[] w fun e w' => e = .returned (.bool true) ∧ Below w.heap.size w w' := by
  have hz := zero_dig
  go_enter Tryd.func11, Tryd.ntmps11
  go_wp2_with (first
    | (refine wp_run rfl (exec_buildC 25 emptyO rfl emptyP (consts_empty _) _ built_empty) ?_)
    | (refine wp_run rfl (exec_buildC 25 abcO rfl abcP (consts_abc _) _ built_abc) ?_)
    | (refine wp_storeA 25 (.tmp 1) (.tmp 3) rfl rfl w.heap.size rfl 25 (u8s z32) (u8s (Sha.sum [])) rfl (Blk.new w _ _) (by rw [info_dig, len_s]) (by rw [len_s]; rfl) (u8s_one _) rfl ?_; intro v1 hv1 hk1)
    | (refine wp_storeA 25 (.tmp 2) (.tmp 4) rfl rfl v1.heap.size rfl 25 (u8s z32) (u8s (Sha.sum [97, 98, 99])) rfl (Blk.new v1 _ _) (by rw [info_dig, len_s]) (by rw [len_s]; rfl) (u8s_one _) rfl ?_; intro v2 hv2 hk2))
  have g1 : Below w.heap.size w v1 := by
    have ha : Keep (fun q => q < w.heap.size) w (w.alloc (.cells (u8s z32).toArray 25)) := Keep.of_below ((Below.refl _ _).alloc (Nat.le_refl _) _)
    exact (ha.trans (hk1.mono (fun q hq => by omega))).below (fun q hq => hq) (Nat.le_refl _)
  have g2 : Below v1.heap.size v1 v2 := by
    have ha : Keep (fun q => q < v1.heap.size) v1 (v1.alloc (.cells (u8s z32).toArray 25)) := Keep.of_below ((Below.refl _ _).alloc (Nat.le_refl _) _)
    exact (ha.trans (hk2.mono (fun q hq => by omega))).below (fun q hq => hq) (Nat.le_refl _)
  have hE := hv1.past g2 hv1.lt
  have gs : Below w.heap.size w v2 := g1.trans (g2.mono g1.size)
  have hK := (hk.past g1).past g2
  obtain ⟨w0, hw0⟩ : ∃ w0, w0 = v2.drew := ⟨_, rfl⟩
  have hE_0 : Blk w0 w.heap.size 25 (u8s (Sha.sum [])) := by rw [hw0]; exact hE.drew
  have hA_0 : Blk w0 v1.heap.size 25 (u8s (Sha.sum [97, 98, 99])) := by rw [hw0]; exact hv2.drew
  have K_0 : KIs 1 w0 := by rw [hw0]; exact hK.past (Below.refl _ _).drew
  have bel_0 : Below w.heap.size w w0 := by rw [hw0]; exact gs.drew
  clear hk hE hv1 hk1 hk2 hv2 hK g1 g2 gs
  obtain ⟨base, hbase⟩ : ∃ base, base = w0.heap.size := ⟨_, rfl⟩
  have z_0 : base ≤ w0.heap.size := by omega
  have hE0 : w.heap.size < base := by rw [hbase]; exact hE_0.lt
  have hA0 : v1.heap.size < base := by rw [hbase]; exact hA_0.lt
  have hK0 : 1 < base := by rw [hbase]; exact block_lt_of_cell (K_0 0 (by omega))
  clear hbase
  generalize v1.heap.size = e2 at hA_0 hA0 ⊢
  refine wp_region_pt base (.take 1 (.step 0 (.take 2 (.take 3 (.take 7 (.step 4 (.step 5 (.step 6 (.take 8 (.take 9 (.take 10 (.two 11 (.two 12 (.two 13 (.step 14 (.step 15 (.take 16 (.take 17 (.take 18 (.take 19 (.take 21 (.step 20 (.take 22 (.take 23 (.take 24 (.take 25 (.take 27 (.step 26 (.step 28 (.take 29 (.take 30 (.take 31 .done)))))))))))))))))) 14 (.step 13 (.step 15 (.take 16 (.take 17 (.take 18 (.take 19 (.take 21 (.step 20 (.take 22 (.take 23 (.take 24 (.take 25 (.take 27 (.step 26 (.step 28 (.take 29 (.take 30 (.take 31 .done))))))))))))))))))) 14 (.step 12 (.step 13 (.step 15 (.take 16 (.take 17 (.take 18 (.take 19 (.take 21 (.step 20 (.take 22 (.take 23 (.take 24 (.take 25 (.take 27 (.step 26 (.step 28 (.take 29 (.take 30 (.take 31 .done)))))))))))))))))))) 14 (.step 11 (.step 12 (.step 13 (.step 15 (.take 16 (.take 17 (.take 18 (.take 19 (.take 21 (.step 20 (.take 22 (.take 23 (.take 24 (.take 25 (.take 27 (.step 26 (.step 28 (.take 29 (.take 30 (.take 31 .done)))))))))))))))))))))))))))))))) (by kernel_rfl) (by kernel_rfl) (by kernel_rfl) (fun _ _ h => h) ?_
  rw [← hw0]
  clear hw0
  refine pt_take rfl rfl rfl rfl ?_
  apply Exists.intro
  refine ⟨fun w' hw' => ?_, ?_⟩
  · refine wp_run rfl (exec_loadA 25 rfl _ rfl 25 _ 32 5 (hE_0.past hw' hE0) Tryd.underlying25 (by rw [info_dig, len_s])) ?_
    exact ⟨rfl, rfl, rfl⟩
  refine pt_step rfl ?_
  go_wp2_with fail
  refine (sum_any _ [] w0 (Bs.nil_ _ _) K_0 (by decide)).mono ?_
  rintro e w1 ⟨rfl, b1⟩
  go_wp2_with fail
  refine ⟨rfl, b1.mono z_0, ?_⟩
  have hE_1 := hE_0.past b1 hE_0.lt
  have hA_1 := hA_0.past b1 hA_0.lt
  have K_1 := K_0.past b1
  have bel_1 := bel_0.trans (b1.mono bel_0.size)
  have z_1 := Nat.le_trans z_0 b1.size
  clear hE_0 hA_0 K_0 bel_0 z_0
  refine pt_take rfl rfl rfl rfl ?_
  apply Exists.intro
  refine ⟨fun w' hw' => ?_, ?_⟩
  · refine wp_run rfl (exec_eqT rfl (Sha.sum []) (Sha.sum []) rfl rfl (rfl) (Sha.sum_len _) (Sha.sum_len _) w') ?_
    exact ⟨rfl, rfl, rfl⟩
  first | refine pt_skip rfl rfl rfl rfl ?_ | (refine pt_take rfl rfl rfl rfl ?_; apply Exists.intro; refine ⟨fun w' hw' => ?_, ?_⟩; focus (go_wp2; exact ⟨rfl, rfl, rfl⟩))
  refine pt_take rfl rfl rfl rfl ?_
  apply Exists.intro
  refine ⟨fun w' hw' => ?_, ?_⟩
  · refine wp_run rfl (exec_loadA 25 rfl _ rfl 25 _ 32 5 (hA_1.past hw' hA0) Tryd.underlying25 (by rw [info_dig, len_s])) ?_
    exact ⟨rfl, rfl, rfl⟩
  refine pt_step rfl ?_
  go_wp2_with fail
  refine stepped_alloc (u8s [97, 98, 99]) rfl z_1 ?_
  intro w2 b2 qA_2
  have zzqA := z_1
  have hE_2 := hE_1.past b2 hE_1.lt
  have hA_2 := hA_1.past b2 hA_1.lt
  have K_2 := K_1.past b2
  have bel_2 := bel_1.trans (b2.mono bel_1.size)
  have z_2 := Nat.le_trans z_1 b2.size
  clear hE_1 hA_1 K_1 bel_1 z_1
  clear b2
  generalize w1.heap.size = gqA at qA_2 zzqA  ⊢
  obtain ⟨w3, kc, hk3, sqA_3⟩ := conv_lit (l := [97, 98, 99]) qA_2
  change (convert 22 22 (.slice (some ⟨gqA, 0, none⟩) 3 3)).run Tryd.prog w2 = .ok (.slice (some ⟨gqA, 0, none⟩) 3 3) w3 at kc
  refine pt_step rfl ?_
  go_wp2_with fail
  refine ⟨rfl, hk3.below (fun q hq => by omega) z_2, ?_⟩
  have hE_3 := hE_2.keep hk3 (by omega)
  have hA_3 := hA_2.keep hk3 (by omega)
  have K_3 := K_2.keep hk3 (by omega)
  have bel_3 := bel_2.trans (hk3.below (fun q hq => by omega) bel_2.size)
  have z_3 := Nat.le_trans z_2 hk3.size
  clear kc hk3 qA_2 hE_2 hA_2 K_2 bel_2 z_2
  refine pt_step rfl ?_
  go_wp2_with fail
  refine (sum_any _ [97, 98, 99] w3 sqA_3 K_3 (by decide)).mono ?_
  rintro e w4 ⟨rfl, b4⟩
  go_wp2_with fail
  refine ⟨rfl, b4.mono z_3, ?_⟩
  have hE_4 := hE_3.past b4 hE_3.lt
  have hA_4 := hA_3.past b4 hA_3.lt
  have K_4 := K_3.past b4
  have bel_4 := bel_3.trans (b4.mono bel_3.size)
  have z_4 := Nat.le_trans z_3 b4.size
  have sqA_4 := sqA_3.past b4
  clear hE_3 hA_3 K_3 bel_3 z_3 sqA_3
  refine pt_take rfl rfl rfl rfl ?_
  apply Exists.intro
  refine ⟨fun w' hw' => ?_, ?_⟩
  · refine wp_run rfl (exec_eqT rfl (Sha.sum [97, 98, 99]) (Sha.sum [97, 98, 99]) rfl rfl (rfl) (Sha.sum_len _) (Sha.sum_len _) w') ?_
    exact ⟨rfl, rfl, rfl⟩
  first | refine pt_skip rfl rfl rfl rfl ?_ | (refine pt_take rfl rfl rfl rfl ?_; apply Exists.intro; refine ⟨fun w' hw' => ?_, ?_⟩; focus (go_wp2; exact ⟨rfl, rfl, rfl⟩))
  first | refine pt_skip rfl rfl rfl rfl ?_ | (refine pt_take rfl rfl rfl rfl ?_; apply Exists.intro; refine ⟨fun w' hw' => ?_, ?_⟩; focus (go_wp2; exact ⟨rfl, rfl, rfl⟩))
  refine pt_two rfl rfl ?_ ?_
  · go_wp2_with fail
    refine stepped_alloc (u8s [98]) rfl z_4 ?_
    intro w5 b5 qB_5
    have zzqB := z_4
    have hE_5 := hE_4.past b5 hE_4.lt
    have hA_5 := hA_4.past b5 hA_4.lt
    have K_5 := K_4.past b5
    have bel_5 := bel_4.trans (b5.mono bel_4.size)
    have z_5 := Nat.le_trans z_4 b5.size
    have sqA_5 := sqA_4.past b5
    clear hE_4 hA_4 K_4 bel_4 z_4 sqA_4
    clear b5
    generalize w4.heap.size = gqB at qB_5 zzqB  ⊢
    refine pt_two rfl rfl ?_ ?_
    · obtain ⟨w6, kc, hk6, sqB_6⟩ := conv_lit (l := [98]) qB_5
      change (convert 22 22 (.slice (some ⟨gqB, 0, none⟩) 1 1)).run Tryd.prog w5 = .ok (.slice (some ⟨gqB, 0, none⟩) 1 1) w6 at kc
      go_wp2_with fail
      refine ⟨rfl, hk6.below (fun q hq => by omega) z_5, ?_⟩
      have hE_6 := hE_5.keep hk6 (by omega)
      have hA_6 := hA_5.keep hk6 (by omega)
      have K_6 := K_5.keep hk6 (by omega)
      have bel_6 := bel_5.trans (hk6.below (fun q hq => by omega) bel_5.size)
      have z_6 := Nat.le_trans z_5 hk6.size
      clear kc hk6 qB_5 hE_5 hA_5 K_5 bel_5 z_5 sqA_5
      refine pt_two rfl rfl ?_ ?_
      · go_wp2_with fail
        refine (tagged_any _ [97] [98] w6 sqB_6 K_6 (by decide) (by decide)).mono ?_
        rintro e w7 ⟨rfl, b7⟩
        go_wp2_with fail
        refine ⟨rfl, b7.mono z_6, ?_⟩
        have hE_7 := hE_6.past b7 hE_6.lt
        have hA_7 := hA_6.past b7 hA_6.lt
        have K_7 := K_6.past b7
        have bel_7 := bel_6.trans (b7.mono bel_6.size)
        have z_7 := Nat.le_trans z_6 b7.size
        have sqB_7 := sqB_6.past b7
        clear hE_6 hA_6 K_6 bel_6 z_6 sqB_6
        refine pt_step rfl ?_
        go_wp2_with fail
        refine stepped_alloc (u8s [1, 97, 98]) rfl z_7 ?_
        intro w8 b8 qC_8
        have zzqC := z_7
        have hE_8 := hE_7.past b8 hE_7.lt
        have hA_8 := hA_7.past b8 hA_7.lt
        have K_8 := K_7.past b8
        have bel_8 := bel_7.trans (b8.mono bel_7.size)
        have z_8 := Nat.le_trans z_7 b8.size
        have sqB_8 := sqB_7.past b8
        clear hE_7 hA_7 K_7 bel_7 z_7 sqB_7
        clear b8
        generalize w7.heap.size = gqC at qC_8 zzqC  ⊢
        refine pt_step rfl ?_
        go_wp2_with fail
        refine (sum_any _ [1, 97, 98] w8 (lit_bs qC_8 (by decide)) K_8 (by decide)).mono ?_
        rintro e w9 ⟨rfl, b9⟩
        go_wp2_with fail
        refine ⟨rfl, b9.mono z_8, ?_⟩
        have hE_9 := hE_8.past b9 hE_8.lt
        have hA_9 := hA_8.past b9 hA_8.lt
        have K_9 := K_8.past b9
        have bel_9 := bel_8.trans (b9.mono bel_8.size)
        have z_9 := Nat.le_trans z_8 b9.size
        have sqB_9 := sqB_8.past b9
        have qC_9 := qC_8.past b9 qC_8.lt
        clear hE_8 hA_8 K_8 bel_8 z_8 sqB_8 qC_8
        refine pt_take rfl rfl rfl rfl ?_
        apply Exists.intro
        refine ⟨fun w' hw' => ?_, ?_⟩
        · refine wp_run rfl (exec_eqT rfl (Sha.tag [97] [98]) (Sha.sum [1, 97, 98]) rfl rfl (tag_ab) (Sha.tag_len _ _) (Sha.sum_len _) w') ?_
          exact ⟨rfl, rfl, rfl⟩
        first | refine pt_skip rfl rfl rfl rfl ?_ | (refine pt_take rfl rfl rfl rfl ?_; apply Exists.intro; refine ⟨fun w' hw' => ?_, ?_⟩; focus (go_wp2; exact ⟨rfl, rfl, rfl⟩))
        first | refine pt_skip rfl rfl rfl rfl ?_ | (refine pt_take rfl rfl rfl rfl ?_; apply Exists.intro; refine ⟨fun w' hw' => ?_, ?_⟩; focus (go_wp2; exact ⟨rfl, rfl, rfl⟩))
        refine pt_take rfl rfl rfl rfl ?_
        apply Exists.intro
        refine ⟨fun w' hw' => ?_, ?_⟩
        · refine wp_run rfl (exec_loadA 25 rfl _ rfl 25 _ 32 5 (hA_9.past hw' hA0) Tryd.underlying25 (by rw [info_dig, len_s])) ?_
          exact ⟨rfl, rfl, rfl⟩
        refine pt_take rfl rfl rfl rfl ?_
        apply Exists.intro
        refine ⟨fun w' hw' => ?_, ?_⟩
        · refine wp_run rfl (exec_loadA 25 rfl _ rfl 25 _ 32 5 (hA_9.past hw' hA0) Tryd.underlying25 (by rw [info_dig, len_s])) ?_
          exact ⟨rfl, rfl, rfl⟩
        refine pt_step rfl ?_
        go_wp2_with fail
        refine (chain_any (Sha.sum [97, 98, 99]) 0 w9 (Sha.sum_len _) (by decide) (by decide) K_9).mono ?_
        rintro e w10 ⟨rfl, b10⟩
        go_wp2_with fail
        refine ⟨rfl, b10.mono z_9, ?_⟩
        have hE_10 := hE_9.past b10 hE_9.lt
        have hA_10 := hA_9.past b10 hA_9.lt
        have K_10 := K_9.past b10
        have bel_10 := bel_9.trans (b10.mono bel_9.size)
        have z_10 := Nat.le_trans z_9 b10.size
        have sqB_10 := sqB_9.past b10
        have qC_10 := qC_9.past b10 qC_9.lt
        clear hE_9 hA_9 K_9 bel_9 z_9 sqB_9 qC_9
        refine pt_take rfl rfl rfl rfl ?_
        apply Exists.intro
        refine ⟨fun w' hw' => ?_, ?_⟩
        · refine wp_run rfl (exec_eqT rfl (Sha.chain (Sha.sum [97, 98, 99]) (0 : Int).toNat) (Sha.sum [97, 98, 99]) rfl rfl (chain0 _) (Sha.chain_len (Sha.sum_len _) _) (Sha.sum_len _) w') ?_
          exact ⟨rfl, rfl, rfl⟩
        first | refine pt_skip rfl rfl rfl rfl ?_ | (refine pt_take rfl rfl rfl rfl ?_; apply Exists.intro; refine ⟨fun w' hw' => ?_, ?_⟩; focus (go_wp2; exact ⟨rfl, rfl, rfl⟩))
        first | refine pt_skip rfl rfl rfl rfl ?_ | (refine pt_take rfl rfl rfl rfl ?_; apply Exists.intro; refine ⟨fun w' hw' => ?_, ?_⟩; focus (go_wp2; exact ⟨rfl, rfl, rfl⟩))
        refine pt_take rfl rfl rfl rfl ?_
        apply Exists.intro
        refine ⟨fun w' hw' => ?_, ?_⟩
        · refine wp_run rfl (exec_loadA 25 rfl _ rfl 25 _ 32 5 (hA_10.past hw' hA0) Tryd.underlying25 (by rw [info_dig, len_s])) ?_
          exact ⟨rfl, rfl, rfl⟩
        first | refine pt_skip rfl rfl rfl rfl ?_ | (refine pt_take rfl rfl rfl rfl ?_; apply Exists.intro; refine ⟨fun w' hw' => ?_, ?_⟩; focus (go_wp2; exact ⟨rfl, rfl, rfl⟩))
        refine pt_step rfl ?_
        go_wp2_with fail
        refine (chain_any (Sha.sum [97, 98, 99]) 1 w10 (Sha.sum_len _) (by decide) (by decide) K_10).mono ?_
        rintro e w11 ⟨rfl, b11⟩
        go_wp2_with fail
        refine ⟨rfl, b11.mono z_10, ?_⟩
        have hE_11 := hE_10.past b11 hE_10.lt
        have hA_11 := hA_10.past b11 hA_10.lt
        have K_11 := K_10.past b11
        have bel_11 := bel_10.trans (b11.mono bel_10.size)
        have z_11 := Nat.le_trans z_10 b11.size
        have sqB_11 := sqB_10.past b11
        have qC_11 := qC_10.past b11 qC_10.lt
        clear hE_10 hA_10 K_10 bel_10 z_10 sqB_10 qC_10
        refine pt_step rfl ?_
        go_wp2_with fail
        refine (tagged_any _ Sha.stepT (Sha.sum [97, 98, 99]) w11 (dig_bs hA_11 (Sha.sum_len _)) K_11 (by rw [Sha.sum_len]; decide) (by decide)).mono ?_
        rintro e w12 ⟨rfl, b12⟩
        go_wp2_with fail
        refine ⟨rfl, b12.mono z_11, ?_⟩
        have hE_12 := hE_11.past b12 hE_11.lt
        have hA_12 := hA_11.past b12 hA_11.lt
        have K_12 := K_11.past b12
        have bel_12 := bel_11.trans (b12.mono bel_11.size)
        have z_12 := Nat.le_trans z_11 b12.size
        have sqB_12 := sqB_11.past b12
        have qC_12 := qC_11.past b12 qC_11.lt
        clear hE_11 hA_11 K_11 bel_11 z_11 sqB_11 qC_11
        refine pt_take rfl rfl rfl rfl ?_
        apply Exists.intro
        refine ⟨fun w' hw' => ?_, ?_⟩
        · refine wp_run rfl (exec_eqT rfl (Sha.chain (Sha.sum [97, 98, 99]) (1 : Int).toNat) (Sha.tag Sha.stepT (Sha.sum [97, 98, 99])) rfl rfl (chain1 _) (Sha.chain_len (Sha.sum_len _) _) (Sha.tag_len _ _) w') ?_
          exact ⟨rfl, rfl, rfl⟩
        first | refine pt_skip rfl rfl rfl rfl ?_ | (refine pt_take rfl rfl rfl rfl ?_; apply Exists.intro; refine ⟨fun w' hw' => ?_, ?_⟩; focus (go_wp2; exact ⟨rfl, rfl, rfl⟩))
        first | refine pt_skip rfl rfl rfl rfl ?_ | (refine pt_take rfl rfl rfl rfl ?_; apply Exists.intro; refine ⟨fun w' hw' => ?_, ?_⟩; focus (go_wp2; exact ⟨rfl, rfl, rfl⟩))
        change Exit.then _ _ Exit.normal _ _
        go_wp2
        go_ret
        exact ⟨rfl, bel_12⟩
      · go_wp2_with fail
        refine stepped_alloc (u8s [1, 97, 98]) rfl z_6 ?_
        intro w7 b7 qC_7
        have zzqC := z_6
        have hE_7 := hE_6.past b7 hE_6.lt
        have hA_7 := hA_6.past b7 hA_6.lt
        have K_7 := K_6.past b7
        have bel_7 := bel_6.trans (b7.mono bel_6.size)
        have z_7 := Nat.le_trans z_6 b7.size
        have sqB_7 := sqB_6.past b7
        clear hE_6 hA_6 K_6 bel_6 z_6 sqB_6
        clear b7
        generalize w6.heap.size = gqC at qC_7 zzqC  ⊢
        refine pt_step rfl ?_
        go_wp2_with fail
        refine (tagged_any _ [97] [98] w7 sqB_7 K_7 (by decide) (by decide)).mono ?_
        rintro e w8 ⟨rfl, b8⟩
        go_wp2_with fail
        refine ⟨rfl, b8.mono z_7, ?_⟩
        have hE_8 := hE_7.past b8 hE_7.lt
        have hA_8 := hA_7.past b8 hA_7.lt
        have K_8 := K_7.past b8
        have bel_8 := bel_7.trans (b8.mono bel_7.size)
        have z_8 := Nat.le_trans z_7 b8.size
        have sqB_8 := sqB_7.past b8
        have qC_8 := qC_7.past b8 qC_7.lt
        clear hE_7 hA_7 K_7 bel_7 z_7 sqB_7 qC_7
        refine pt_step rfl ?_
        go_wp2_with fail
        refine (sum_any _ [1, 97, 98] w8 (lit_bs qC_8 (by decide)) K_8 (by decide)).mono ?_
        rintro e w9 ⟨rfl, b9⟩
        go_wp2_with fail
        refine ⟨rfl, b9.mono z_8, ?_⟩
        have hE_9 := hE_8.past b9 hE_8.lt
        have hA_9 := hA_8.past b9 hA_8.lt
        have K_9 := K_8.past b9
        have bel_9 := bel_8.trans (b9.mono bel_8.size)
        have z_9 := Nat.le_trans z_8 b9.size
        have sqB_9 := sqB_8.past b9
        have qC_9 := qC_8.past b9 qC_8.lt
        clear hE_8 hA_8 K_8 bel_8 z_8 sqB_8 qC_8
        refine pt_take rfl rfl rfl rfl ?_
        apply Exists.intro
        refine ⟨fun w' hw' => ?_, ?_⟩
        · refine wp_run rfl (exec_eqT rfl (Sha.tag [97] [98]) (Sha.sum [1, 97, 98]) rfl rfl (tag_ab) (Sha.tag_len _ _) (Sha.sum_len _) w') ?_
          exact ⟨rfl, rfl, rfl⟩
        first | refine pt_skip rfl rfl rfl rfl ?_ | (refine pt_take rfl rfl rfl rfl ?_; apply Exists.intro; refine ⟨fun w' hw' => ?_, ?_⟩; focus (go_wp2; exact ⟨rfl, rfl, rfl⟩))
        first | refine pt_skip rfl rfl rfl rfl ?_ | (refine pt_take rfl rfl rfl rfl ?_; apply Exists.intro; refine ⟨fun w' hw' => ?_, ?_⟩; focus (go_wp2; exact ⟨rfl, rfl, rfl⟩))
        refine pt_take rfl rfl rfl rfl ?_
        apply Exists.intro
        refine ⟨fun w' hw' => ?_, ?_⟩
        · refine wp_run rfl (exec_loadA 25 rfl _ rfl 25 _ 32 5 (hA_9.past hw' hA0) Tryd.underlying25 (by rw [info_dig, len_s])) ?_
          exact ⟨rfl, rfl, rfl⟩
        refine pt_take rfl rfl rfl rfl ?_
        apply Exists.intro
        refine ⟨fun w' hw' => ?_, ?_⟩
        · refine wp_run rfl (exec_loadA 25 rfl _ rfl 25 _ 32 5 (hA_9.past hw' hA0) Tryd.underlying25 (by rw [info_dig, len_s])) ?_
          exact ⟨rfl, rfl, rfl⟩
        refine pt_step rfl ?_
        go_wp2_with fail
        refine (chain_any (Sha.sum [97, 98, 99]) 0 w9 (Sha.sum_len _) (by decide) (by decide) K_9).mono ?_
        rintro e w10 ⟨rfl, b10⟩
        go_wp2_with fail
        refine ⟨rfl, b10.mono z_9, ?_⟩
        have hE_10 := hE_9.past b10 hE_9.lt
        have hA_10 := hA_9.past b10 hA_9.lt
        have K_10 := K_9.past b10
        have bel_10 := bel_9.trans (b10.mono bel_9.size)
        have z_10 := Nat.le_trans z_9 b10.size
        have sqB_10 := sqB_9.past b10
        have qC_10 := qC_9.past b10 qC_9.lt
        clear hE_9 hA_9 K_9 bel_9 z_9 sqB_9 qC_9
        refine pt_take rfl rfl rfl rfl ?_
        apply Exists.intro
        refine ⟨fun w' hw' => ?_, ?_⟩
        · refine wp_run rfl (exec_eqT rfl (Sha.chain (Sha.sum [97, 98, 99]) (0 : Int).toNat) (Sha.sum [97, 98, 99]) rfl rfl (chain0 _) (Sha.chain_len (Sha.sum_len _) _) (Sha.sum_len _) w') ?_
          exact ⟨rfl, rfl, rfl⟩
        first | refine pt_skip rfl rfl rfl rfl ?_ | (refine pt_take rfl rfl rfl rfl ?_; apply Exists.intro; refine ⟨fun w' hw' => ?_, ?_⟩; focus (go_wp2; exact ⟨rfl, rfl, rfl⟩))
        first | refine pt_skip rfl rfl rfl rfl ?_ | (refine pt_take rfl rfl rfl rfl ?_; apply Exists.intro; refine ⟨fun w' hw' => ?_, ?_⟩; focus (go_wp2; exact ⟨rfl, rfl, rfl⟩))
        refine pt_take rfl rfl rfl rfl ?_
        apply Exists.intro
        refine ⟨fun w' hw' => ?_, ?_⟩
        · refine wp_run rfl (exec_loadA 25 rfl _ rfl 25 _ 32 5 (hA_10.past hw' hA0) Tryd.underlying25 (by rw [info_dig, len_s])) ?_
          exact ⟨rfl, rfl, rfl⟩
        first | refine pt_skip rfl rfl rfl rfl ?_ | (refine pt_take rfl rfl rfl rfl ?_; apply Exists.intro; refine ⟨fun w' hw' => ?_, ?_⟩; focus (go_wp2; exact ⟨rfl, rfl, rfl⟩))
        refine pt_step rfl ?_
        go_wp2_with fail
        refine (chain_any (Sha.sum [97, 98, 99]) 1 w10 (Sha.sum_len _) (by decide) (by decide) K_10).mono ?_
        rintro e w11 ⟨rfl, b11⟩
        go_wp2_with fail
        refine ⟨rfl, b11.mono z_10, ?_⟩
        have hE_11 := hE_10.past b11 hE_10.lt
        have hA_11 := hA_10.past b11 hA_10.lt
        have K_11 := K_10.past b11
        have bel_11 := bel_10.trans (b11.mono bel_10.size)
        have z_11 := Nat.le_trans z_10 b11.size
        have sqB_11 := sqB_10.past b11
        have qC_11 := qC_10.past b11 qC_10.lt
        clear hE_10 hA_10 K_10 bel_10 z_10 sqB_10 qC_10
        refine pt_step rfl ?_
        go_wp2_with fail
        refine (tagged_any _ Sha.stepT (Sha.sum [97, 98, 99]) w11 (dig_bs hA_11 (Sha.sum_len _)) K_11 (by rw [Sha.sum_len]; decide) (by decide)).mono ?_
        rintro e w12 ⟨rfl, b12⟩
        go_wp2_with fail
        refine ⟨rfl, b12.mono z_11, ?_⟩
        have hE_12 := hE_11.past b12 hE_11.lt
        have hA_12 := hA_11.past b12 hA_11.lt
        have K_12 := K_11.past b12
        have bel_12 := bel_11.trans (b12.mono bel_11.size)
        have z_12 := Nat.le_trans z_11 b12.size
        have sqB_12 := sqB_11.past b12
        have qC_12 := qC_11.past b12 qC_11.lt
        clear hE_11 hA_11 K_11 bel_11 z_11 sqB_11 qC_11
        refine pt_take rfl rfl rfl rfl ?_
        apply Exists.intro
        refine ⟨fun w' hw' => ?_, ?_⟩
        · refine wp_run rfl (exec_eqT rfl (Sha.chain (Sha.sum [97, 98, 99]) (1 : Int).toNat) (Sha.tag Sha.stepT (Sha.sum [97, 98, 99])) rfl rfl (chain1 _) (Sha.chain_len (Sha.sum_len _) _) (Sha.tag_len _ _) w') ?_
          exact ⟨rfl, rfl, rfl⟩
        first | refine pt_skip rfl rfl rfl rfl ?_ | (refine pt_take rfl rfl rfl rfl ?_; apply Exists.intro; refine ⟨fun w' hw' => ?_, ?_⟩; focus (go_wp2; exact ⟨rfl, rfl, rfl⟩))
        first | refine pt_skip rfl rfl rfl rfl ?_ | (refine pt_take rfl rfl rfl rfl ?_; apply Exists.intro; refine ⟨fun w' hw' => ?_, ?_⟩; focus (go_wp2; exact ⟨rfl, rfl, rfl⟩))
        change Exit.then _ _ Exit.normal _ _
        go_wp2
        go_ret
        exact ⟨rfl, bel_12⟩
    · go_wp2_with fail
      refine stepped_alloc (u8s [1, 97, 98]) rfl z_5 ?_
      intro w6 b6 qC_6
      have ltqBqC := qB_5.lt
      have zzqC := z_5
      have hE_6 := hE_5.past b6 hE_5.lt
      have hA_6 := hA_5.past b6 hA_5.lt
      have K_6 := K_5.past b6
      have bel_6 := bel_5.trans (b6.mono bel_5.size)
      have z_6 := Nat.le_trans z_5 b6.size
      have sqA_6 := sqA_5.past b6
      have qB_6 := qB_5.past b6 qB_5.lt
      clear hE_5 hA_5 K_5 bel_5 z_5 sqA_5 qB_5
      clear b6
      generalize w5.heap.size = gqC at qC_6 zzqC ltqBqC ⊢
      obtain ⟨w7, kc, hk7, sqB_7⟩ := conv_lit (l := [98]) qB_6
      change (convert 22 22 (.slice (some ⟨gqB, 0, none⟩) 1 1)).run Tryd.prog w6 = .ok (.slice (some ⟨gqB, 0, none⟩) 1 1) w7 at kc
      refine pt_step rfl ?_
      go_wp2_with fail
      refine ⟨rfl, hk7.below (fun q hq => by omega) z_6, ?_⟩
      have hE_7 := hE_6.keep hk7 (by omega)
      have hA_7 := hA_6.keep hk7 (by omega)
      have K_7 := K_6.keep hk7 (by omega)
      have bel_7 := bel_6.trans (hk7.below (fun q hq => by omega) bel_6.size)
      have z_7 := Nat.le_trans z_6 hk7.size
      have qC_7 := qC_6.keep hk7 (by omega)
      clear kc hk7 qB_6 hE_6 hA_6 K_6 bel_6 z_6 sqA_6 qC_6
      refine pt_step rfl ?_
      go_wp2_with fail
      refine (tagged_any _ [97] [98] w7 sqB_7 K_7 (by decide) (by decide)).mono ?_
      rintro e w8 ⟨rfl, b8⟩
      go_wp2_with fail
      refine ⟨rfl, b8.mono z_7, ?_⟩
      have hE_8 := hE_7.past b8 hE_7.lt
      have hA_8 := hA_7.past b8 hA_7.lt
      have K_8 := K_7.past b8
      have bel_8 := bel_7.trans (b8.mono bel_7.size)
      have z_8 := Nat.le_trans z_7 b8.size
      have qC_8 := qC_7.past b8 qC_7.lt
      have sqB_8 := sqB_7.past b8
      clear hE_7 hA_7 K_7 bel_7 z_7 qC_7 sqB_7
      refine pt_step rfl ?_
      go_wp2_with fail
      refine (sum_any _ [1, 97, 98] w8 (lit_bs qC_8 (by decide)) K_8 (by decide)).mono ?_
      rintro e w9 ⟨rfl, b9⟩
      go_wp2_with fail
      refine ⟨rfl, b9.mono z_8, ?_⟩
      have hE_9 := hE_8.past b9 hE_8.lt
      have hA_9 := hA_8.past b9 hA_8.lt
      have K_9 := K_8.past b9
      have bel_9 := bel_8.trans (b9.mono bel_8.size)
      have z_9 := Nat.le_trans z_8 b9.size
      have qC_9 := qC_8.past b9 qC_8.lt
      have sqB_9 := sqB_8.past b9
      clear hE_8 hA_8 K_8 bel_8 z_8 qC_8 sqB_8
      refine pt_take rfl rfl rfl rfl ?_
      apply Exists.intro
      refine ⟨fun w' hw' => ?_, ?_⟩
      · refine wp_run rfl (exec_eqT rfl (Sha.tag [97] [98]) (Sha.sum [1, 97, 98]) rfl rfl (tag_ab) (Sha.tag_len _ _) (Sha.sum_len _) w') ?_
        exact ⟨rfl, rfl, rfl⟩
      first | refine pt_skip rfl rfl rfl rfl ?_ | (refine pt_take rfl rfl rfl rfl ?_; apply Exists.intro; refine ⟨fun w' hw' => ?_, ?_⟩; focus (go_wp2; exact ⟨rfl, rfl, rfl⟩))
      first | refine pt_skip rfl rfl rfl rfl ?_ | (refine pt_take rfl rfl rfl rfl ?_; apply Exists.intro; refine ⟨fun w' hw' => ?_, ?_⟩; focus (go_wp2; exact ⟨rfl, rfl, rfl⟩))
      refine pt_take rfl rfl rfl rfl ?_
      apply Exists.intro
      refine ⟨fun w' hw' => ?_, ?_⟩
      · refine wp_run rfl (exec_loadA 25 rfl _ rfl 25 _ 32 5 (hA_9.past hw' hA0) Tryd.underlying25 (by rw [info_dig, len_s])) ?_
        exact ⟨rfl, rfl, rfl⟩
      refine pt_take rfl rfl rfl rfl ?_
      apply Exists.intro
      refine ⟨fun w' hw' => ?_, ?_⟩
      · refine wp_run rfl (exec_loadA 25 rfl _ rfl 25 _ 32 5 (hA_9.past hw' hA0) Tryd.underlying25 (by rw [info_dig, len_s])) ?_
        exact ⟨rfl, rfl, rfl⟩
      refine pt_step rfl ?_
      go_wp2_with fail
      refine (chain_any (Sha.sum [97, 98, 99]) 0 w9 (Sha.sum_len _) (by decide) (by decide) K_9).mono ?_
      rintro e w10 ⟨rfl, b10⟩
      go_wp2_with fail
      refine ⟨rfl, b10.mono z_9, ?_⟩
      have hE_10 := hE_9.past b10 hE_9.lt
      have hA_10 := hA_9.past b10 hA_9.lt
      have K_10 := K_9.past b10
      have bel_10 := bel_9.trans (b10.mono bel_9.size)
      have z_10 := Nat.le_trans z_9 b10.size
      have qC_10 := qC_9.past b10 qC_9.lt
      have sqB_10 := sqB_9.past b10
      clear hE_9 hA_9 K_9 bel_9 z_9 qC_9 sqB_9
      refine pt_take rfl rfl rfl rfl ?_
      apply Exists.intro
      refine ⟨fun w' hw' => ?_, ?_⟩
      · refine wp_run rfl (exec_eqT rfl (Sha.chain (Sha.sum [97, 98, 99]) (0 : Int).toNat) (Sha.sum [97, 98, 99]) rfl rfl (chain0 _) (Sha.chain_len (Sha.sum_len _) _) (Sha.sum_len _) w') ?_
        exact ⟨rfl, rfl, rfl⟩
      first | refine pt_skip rfl rfl rfl rfl ?_ | (refine pt_take rfl rfl rfl rfl ?_; apply Exists.intro; refine ⟨fun w' hw' => ?_, ?_⟩; focus (go_wp2; exact ⟨rfl, rfl, rfl⟩))
      first | refine pt_skip rfl rfl rfl rfl ?_ | (refine pt_take rfl rfl rfl rfl ?_; apply Exists.intro; refine ⟨fun w' hw' => ?_, ?_⟩; focus (go_wp2; exact ⟨rfl, rfl, rfl⟩))
      refine pt_take rfl rfl rfl rfl ?_
      apply Exists.intro
      refine ⟨fun w' hw' => ?_, ?_⟩
      · refine wp_run rfl (exec_loadA 25 rfl _ rfl 25 _ 32 5 (hA_10.past hw' hA0) Tryd.underlying25 (by rw [info_dig, len_s])) ?_
        exact ⟨rfl, rfl, rfl⟩
      first | refine pt_skip rfl rfl rfl rfl ?_ | (refine pt_take rfl rfl rfl rfl ?_; apply Exists.intro; refine ⟨fun w' hw' => ?_, ?_⟩; focus (go_wp2; exact ⟨rfl, rfl, rfl⟩))
      refine pt_step rfl ?_
      go_wp2_with fail
      refine (chain_any (Sha.sum [97, 98, 99]) 1 w10 (Sha.sum_len _) (by decide) (by decide) K_10).mono ?_
      rintro e w11 ⟨rfl, b11⟩
      go_wp2_with fail
      refine ⟨rfl, b11.mono z_10, ?_⟩
      have hE_11 := hE_10.past b11 hE_10.lt
      have hA_11 := hA_10.past b11 hA_10.lt
      have K_11 := K_10.past b11
      have bel_11 := bel_10.trans (b11.mono bel_10.size)
      have z_11 := Nat.le_trans z_10 b11.size
      have qC_11 := qC_10.past b11 qC_10.lt
      have sqB_11 := sqB_10.past b11
      clear hE_10 hA_10 K_10 bel_10 z_10 qC_10 sqB_10
      refine pt_step rfl ?_
      go_wp2_with fail
      refine (tagged_any _ Sha.stepT (Sha.sum [97, 98, 99]) w11 (dig_bs hA_11 (Sha.sum_len _)) K_11 (by rw [Sha.sum_len]; decide) (by decide)).mono ?_
      rintro e w12 ⟨rfl, b12⟩
      go_wp2_with fail
      refine ⟨rfl, b12.mono z_11, ?_⟩
      have hE_12 := hE_11.past b12 hE_11.lt
      have hA_12 := hA_11.past b12 hA_11.lt
      have K_12 := K_11.past b12
      have bel_12 := bel_11.trans (b12.mono bel_11.size)
      have z_12 := Nat.le_trans z_11 b12.size
      have qC_12 := qC_11.past b12 qC_11.lt
      have sqB_12 := sqB_11.past b12
      clear hE_11 hA_11 K_11 bel_11 z_11 qC_11 sqB_11
      refine pt_take rfl rfl rfl rfl ?_
      apply Exists.intro
      refine ⟨fun w' hw' => ?_, ?_⟩
      · refine wp_run rfl (exec_eqT rfl (Sha.chain (Sha.sum [97, 98, 99]) (1 : Int).toNat) (Sha.tag Sha.stepT (Sha.sum [97, 98, 99])) rfl rfl (chain1 _) (Sha.chain_len (Sha.sum_len _) _) (Sha.tag_len _ _) w') ?_
        exact ⟨rfl, rfl, rfl⟩
      first | refine pt_skip rfl rfl rfl rfl ?_ | (refine pt_take rfl rfl rfl rfl ?_; apply Exists.intro; refine ⟨fun w' hw' => ?_, ?_⟩; focus (go_wp2; exact ⟨rfl, rfl, rfl⟩))
      first | refine pt_skip rfl rfl rfl rfl ?_ | (refine pt_take rfl rfl rfl rfl ?_; apply Exists.intro; refine ⟨fun w' hw' => ?_, ?_⟩; focus (go_wp2; exact ⟨rfl, rfl, rfl⟩))
      change Exit.then _ _ Exit.normal _ _
      go_wp2
      go_ret
      exact ⟨rfl, bel_12⟩
  · go_wp2_with fail
    refine stepped_alloc (u8s [1, 97, 98]) rfl z_4 ?_
    intro w5 b5 qC_5
    have zzqC := z_4
    have hE_5 := hE_4.past b5 hE_4.lt
    have hA_5 := hA_4.past b5 hA_4.lt
    have K_5 := K_4.past b5
    have bel_5 := bel_4.trans (b5.mono bel_4.size)
    have z_5 := Nat.le_trans z_4 b5.size
    have sqA_5 := sqA_4.past b5
    clear hE_4 hA_4 K_4 bel_4 z_4 sqA_4
    clear b5
    generalize w4.heap.size = gqC at qC_5 zzqC  ⊢
    refine pt_step rfl ?_
    go_wp2_with fail
    refine stepped_alloc (u8s [98]) rfl z_5 ?_
    intro w6 b6 qB_6
    have ltqCqB := qC_5.lt
    have zzqB := z_5
    have hE_6 := hE_5.past b6 hE_5.lt
    have hA_6 := hA_5.past b6 hA_5.lt
    have K_6 := K_5.past b6
    have bel_6 := bel_5.trans (b6.mono bel_5.size)
    have z_6 := Nat.le_trans z_5 b6.size
    have sqA_6 := sqA_5.past b6
    have qC_6 := qC_5.past b6 qC_5.lt
    clear hE_5 hA_5 K_5 bel_5 z_5 sqA_5 qC_5
    clear b6
    generalize w5.heap.size = gqB at qB_6 zzqB ltqCqB ⊢
    obtain ⟨w7, kc, hk7, sqB_7⟩ := conv_lit (l := [98]) qB_6
    change (convert 22 22 (.slice (some ⟨gqB, 0, none⟩) 1 1)).run Tryd.prog w6 = .ok (.slice (some ⟨gqB, 0, none⟩) 1 1) w7 at kc
    refine pt_step rfl ?_
    go_wp2_with fail
    refine ⟨rfl, hk7.below (fun q hq => by omega) z_6, ?_⟩
    have hE_7 := hE_6.keep hk7 (by omega)
    have hA_7 := hA_6.keep hk7 (by omega)
    have K_7 := K_6.keep hk7 (by omega)
    have bel_7 := bel_6.trans (hk7.below (fun q hq => by omega) bel_6.size)
    have z_7 := Nat.le_trans z_6 hk7.size
    have qC_7 := qC_6.keep hk7 (by omega)
    clear kc hk7 qB_6 hE_6 hA_6 K_6 bel_6 z_6 sqA_6 qC_6
    refine pt_step rfl ?_
    go_wp2_with fail
    refine (tagged_any _ [97] [98] w7 sqB_7 K_7 (by decide) (by decide)).mono ?_
    rintro e w8 ⟨rfl, b8⟩
    go_wp2_with fail
    refine ⟨rfl, b8.mono z_7, ?_⟩
    have hE_8 := hE_7.past b8 hE_7.lt
    have hA_8 := hA_7.past b8 hA_7.lt
    have K_8 := K_7.past b8
    have bel_8 := bel_7.trans (b8.mono bel_7.size)
    have z_8 := Nat.le_trans z_7 b8.size
    have qC_8 := qC_7.past b8 qC_7.lt
    have sqB_8 := sqB_7.past b8
    clear hE_7 hA_7 K_7 bel_7 z_7 qC_7 sqB_7
    refine pt_step rfl ?_
    go_wp2_with fail
    refine (sum_any _ [1, 97, 98] w8 (lit_bs qC_8 (by decide)) K_8 (by decide)).mono ?_
    rintro e w9 ⟨rfl, b9⟩
    go_wp2_with fail
    refine ⟨rfl, b9.mono z_8, ?_⟩
    have hE_9 := hE_8.past b9 hE_8.lt
    have hA_9 := hA_8.past b9 hA_8.lt
    have K_9 := K_8.past b9
    have bel_9 := bel_8.trans (b9.mono bel_8.size)
    have z_9 := Nat.le_trans z_8 b9.size
    have qC_9 := qC_8.past b9 qC_8.lt
    have sqB_9 := sqB_8.past b9
    clear hE_8 hA_8 K_8 bel_8 z_8 qC_8 sqB_8
    refine pt_take rfl rfl rfl rfl ?_
    apply Exists.intro
    refine ⟨fun w' hw' => ?_, ?_⟩
    · refine wp_run rfl (exec_eqT rfl (Sha.tag [97] [98]) (Sha.sum [1, 97, 98]) rfl rfl (tag_ab) (Sha.tag_len _ _) (Sha.sum_len _) w') ?_
      exact ⟨rfl, rfl, rfl⟩
    first | refine pt_skip rfl rfl rfl rfl ?_ | (refine pt_take rfl rfl rfl rfl ?_; apply Exists.intro; refine ⟨fun w' hw' => ?_, ?_⟩; focus (go_wp2; exact ⟨rfl, rfl, rfl⟩))
    first | refine pt_skip rfl rfl rfl rfl ?_ | (refine pt_take rfl rfl rfl rfl ?_; apply Exists.intro; refine ⟨fun w' hw' => ?_, ?_⟩; focus (go_wp2; exact ⟨rfl, rfl, rfl⟩))
    refine pt_take rfl rfl rfl rfl ?_
    apply Exists.intro
    refine ⟨fun w' hw' => ?_, ?_⟩
    · refine wp_run rfl (exec_loadA 25 rfl _ rfl 25 _ 32 5 (hA_9.past hw' hA0) Tryd.underlying25 (by rw [info_dig, len_s])) ?_
      exact ⟨rfl, rfl, rfl⟩
    refine pt_take rfl rfl rfl rfl ?_
    apply Exists.intro
    refine ⟨fun w' hw' => ?_, ?_⟩
    · refine wp_run rfl (exec_loadA 25 rfl _ rfl 25 _ 32 5 (hA_9.past hw' hA0) Tryd.underlying25 (by rw [info_dig, len_s])) ?_
      exact ⟨rfl, rfl, rfl⟩
    refine pt_step rfl ?_
    go_wp2_with fail
    refine (chain_any (Sha.sum [97, 98, 99]) 0 w9 (Sha.sum_len _) (by decide) (by decide) K_9).mono ?_
    rintro e w10 ⟨rfl, b10⟩
    go_wp2_with fail
    refine ⟨rfl, b10.mono z_9, ?_⟩
    have hE_10 := hE_9.past b10 hE_9.lt
    have hA_10 := hA_9.past b10 hA_9.lt
    have K_10 := K_9.past b10
    have bel_10 := bel_9.trans (b10.mono bel_9.size)
    have z_10 := Nat.le_trans z_9 b10.size
    have qC_10 := qC_9.past b10 qC_9.lt
    have sqB_10 := sqB_9.past b10
    clear hE_9 hA_9 K_9 bel_9 z_9 qC_9 sqB_9
    refine pt_take rfl rfl rfl rfl ?_
    apply Exists.intro
    refine ⟨fun w' hw' => ?_, ?_⟩
    · refine wp_run rfl (exec_eqT rfl (Sha.chain (Sha.sum [97, 98, 99]) (0 : Int).toNat) (Sha.sum [97, 98, 99]) rfl rfl (chain0 _) (Sha.chain_len (Sha.sum_len _) _) (Sha.sum_len _) w') ?_
      exact ⟨rfl, rfl, rfl⟩
    first | refine pt_skip rfl rfl rfl rfl ?_ | (refine pt_take rfl rfl rfl rfl ?_; apply Exists.intro; refine ⟨fun w' hw' => ?_, ?_⟩; focus (go_wp2; exact ⟨rfl, rfl, rfl⟩))
    first | refine pt_skip rfl rfl rfl rfl ?_ | (refine pt_take rfl rfl rfl rfl ?_; apply Exists.intro; refine ⟨fun w' hw' => ?_, ?_⟩; focus (go_wp2; exact ⟨rfl, rfl, rfl⟩))
    refine pt_take rfl rfl rfl rfl ?_
    apply Exists.intro
    refine ⟨fun w' hw' => ?_, ?_⟩
    · refine wp_run rfl (exec_loadA 25 rfl _ rfl 25 _ 32 5 (hA_10.past hw' hA0) Tryd.underlying25 (by rw [info_dig, len_s])) ?_
      exact ⟨rfl, rfl, rfl⟩
    first | refine pt_skip rfl rfl rfl rfl ?_ | (refine pt_take rfl rfl rfl rfl ?_; apply Exists.intro; refine ⟨fun w' hw' => ?_, ?_⟩; focus (go_wp2; exact ⟨rfl, rfl, rfl⟩))
    refine pt_step rfl ?_
    go_wp2_with fail
    refine (chain_any (Sha.sum [97, 98, 99]) 1 w10 (Sha.sum_len _) (by decide) (by decide) K_10).mono ?_
    rintro e w11 ⟨rfl, b11⟩
    go_wp2_with fail
    refine ⟨rfl, b11.mono z_10, ?_⟩
    have hE_11 := hE_10.past b11 hE_10.lt
    have hA_11 := hA_10.past b11 hA_10.lt
    have K_11 := K_10.past b11
    have bel_11 := bel_10.trans (b11.mono bel_10.size)
    have z_11 := Nat.le_trans z_10 b11.size
    have qC_11 := qC_10.past b11 qC_10.lt
    have sqB_11 := sqB_10.past b11
    clear hE_10 hA_10 K_10 bel_10 z_10 qC_10 sqB_10
    refine pt_step rfl ?_
    go_wp2_with fail
    refine (tagged_any _ Sha.stepT (Sha.sum [97, 98, 99]) w11 (dig_bs hA_11 (Sha.sum_len _)) K_11 (by rw [Sha.sum_len]; decide) (by decide)).mono ?_
    rintro e w12 ⟨rfl, b12⟩
    go_wp2_with fail
    refine ⟨rfl, b12.mono z_11, ?_⟩
    have hE_12 := hE_11.past b12 hE_11.lt
    have hA_12 := hA_11.past b12 hA_11.lt
    have K_12 := K_11.past b12
    have bel_12 := bel_11.trans (b12.mono bel_11.size)
    have z_12 := Nat.le_trans z_11 b12.size
    have qC_12 := qC_11.past b12 qC_11.lt
    have sqB_12 := sqB_11.past b12
    clear hE_11 hA_11 K_11 bel_11 z_11 qC_11 sqB_11
    refine pt_take rfl rfl rfl rfl ?_
    apply Exists.intro
    refine ⟨fun w' hw' => ?_, ?_⟩
    · refine wp_run rfl (exec_eqT rfl (Sha.chain (Sha.sum [97, 98, 99]) (1 : Int).toNat) (Sha.tag Sha.stepT (Sha.sum [97, 98, 99])) rfl rfl (chain1 _) (Sha.chain_len (Sha.sum_len _) _) (Sha.tag_len _ _) w') ?_
      exact ⟨rfl, rfl, rfl⟩
    first | refine pt_skip rfl rfl rfl rfl ?_ | (refine pt_take rfl rfl rfl rfl ?_; apply Exists.intro; refine ⟨fun w' hw' => ?_, ?_⟩; focus (go_wp2; exact ⟨rfl, rfl, rfl⟩))
    first | refine pt_skip rfl rfl rfl rfl ?_ | (refine pt_take rfl rfl rfl rfl ?_; apply Exists.intro; refine ⟨fun w' hw' => ?_, ?_⟩; focus (go_wp2; exact ⟨rfl, rfl, rfl⟩))
    change Exit.then _ _ Exit.normal _ _
    go_wp2
    go_ret
    exact ⟨rfl, bel_12⟩

end Go.Proofs.YtglabhlgnbkeiaaDoor
