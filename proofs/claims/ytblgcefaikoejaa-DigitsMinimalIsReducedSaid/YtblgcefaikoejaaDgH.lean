/-
  The walk of hasExtensions.
-/
import Derived.Test.YtblgcefaikoejaaDgC
import Derived.Test.YtblgcefaikoejaaMps
import Derived.Test.YtblgcefaikoejaaPlk
import Derived.Shelf.Abstract
namespace Go.Proofs.Ytblgcefaikoejaa
open Go.RowKit Go.Maps Dg
attribute [local go_sem] Oper.semAt_some
set_option linter.unusedVariables false
set_option linter.unusedSimpArgs false

/-- What abides every turn of blocks from B on is the caller's own. -/
theorem own_keep {β : Type} {B : Nat} {I : β → World → Prop} (h : ∀ s W W', I s W → Keep (· < B) W W' → I s W') : OwnFrom B I :=
  fun s W W' row hs hg hr => h s W W' hs ⟨hg.os, hg.tape, hg.output, hg.size, fun k hk hl => hg.block k hl (fun e => by have := (hr k e.symm).1; omega)⟩
theorem Mp.keep {O : Nat → Prop} {w w' : World} {b n : Nat} {K : List Str} (h : Mp w b n K) (hk : Keep O w w') (hO : O b) : Mp w' b n K := h.block (hk.block b hO h.lt)
theorem size_bool : (Try.prog.info? 4).map (·.size) = some 1 := by kernel_rfl

/-- The store of a one-cell value into a block, in a round. -/
theorem wpi_storeC {F : Fence} {n : Nat} {P : Program} {ops : Array Oper} {rest : List Oper} {o : Oper} {a : Act} {w : World} {Q : Exit → Act → World → Prop} (ty : TypeId) (x y : Operand) (ho : o.op = .store ty x y) (hgd : o.guard = none)
    (g k : Nat) (hx : a.eval x = .pointer (some ⟨g, k, none⟩)) (t : TypeId) (l : List Value) (u : Value) (hu1 : u.cells = #[u]) (hu2 : u.oneCell' = true) (hy : a.eval y = u) (hg : Blk w g t l) (hk : k < l.length)
    (hz : (P.info? ty).map (·.size) = some 1) (hdst : o.dst = none) (h : ∀ w', Blk w' g t (l.set k u) → Keep (fun k => k ≠ g) w w' → wpListIn F n P ops Q rest a w') : wpListIn F n P ops Q (o :: rest) a w := by
  have hp : a.put o.dst undef = a := by rw [hdst]; rfl
  rw [← hp] at h
  have hc : w.cell? ⟨g, k, none⟩ = some l[k] := hg.cell (List.getElem?_eq_getElem hk)
  have hf := hg.frozen k
  have hst := run_storeCells_cells (P := P) g k [u] 0 w (fun j hj => by
      obtain rfl : j = 0 := by simpa using hj
      simp [hc]) (fun j hj => by
      obtain rfl : j = 0 := by simpa using hj
      simpa using hf) (fun v hv => by simp at hv; subst hv; exact hu2)
  obtain ⟨i, hq, hs⟩ := Option.map_eq_some_iff.1 hz
  have hrun : (storeVar ty ⟨g, k, none⟩ u).run P w = .ok () (w.setCell ⟨g, k, none⟩ u) := by
    simp only [Nat.add_zero, World.setCells] at hst
    simp [storeVar, sizeOf, typeInfo, hq, hs, hu1, hst]
  refine wpListIn_plain hgd fun K hK => ?_
  unfold Oper.wpIn
  refine ⟨fun f hf => (by simp [Oper.about, ho] at hf), ?_⟩
  rw [Oper.semAt_plain F _ _ (fun c hc => (by rw [ho] at hc; cases hc))]
  unfold execOp
  simp only [ho, hx, hy, hp, Instr.storeAt, Instr.sureAddr, Sem.run_bind, Sem.run_pure, Result.andThen_ok, hrun]
  exact hK _ _ (by have h := h _ (hg.set k _) (Keep.setCell w ⟨g, k, none⟩ _ (fun h => h rfl)); rwa [hp] at h ⊢)

set_option maxRecDepth 100000 in
set_option maxHeartbeats 1000000 in
theorem hasExtensions_any (b n : Nat) (K : List Str) (p : Str) (w : World) (hK : Mp w b n K) (hp : p.length ≤ 1000) :
    Calls Try.prog 50 #[.map (some b), str p] w fun e w' => e = .returned (.bool (decide (∀ x ∈ exts p, x ∈ K))) ∧ Below w.heap.size w w' := by
  obtain ⟨q, hq⟩ : ∃ q, decide (∀ x ∈ exts p, x ∈ K) = q := ⟨_, rfl⟩
  rw [hq]
  have HQ := Lib.hid hq
  clear hq
  refine (callsIn_wide (n := 6)).1 ?_
  refine callsIn_of_wp_marks Try.func50 rfl trivial ?_ rfl
  simp only [Try.ntmps50, List.size_toArray, List.length_cons, List.length_nil, Nat.reduceAdd, Nat.reduceSub, Array.replicate_succ, Array.replicate_zero, List.push_toArray, List.append_toArray, List.nil_append, List.cons_append]
  unfold str
  gi_wp2_with fail
  refine ⟨trivial, (callsIn_wide.2 (extensions_any p _)).mono ?_⟩
  rintro e w3 ⟨rfl, hw3⟩
  have hb1 : Below w.heap.size w (w.alloc (.cells #[.map (some b)] 46)) := (Below.refl _ w).alloc (Nat.le_refl _) _
  have hb2 : Below (w.heap.size + 1) (w.alloc (.cells #[.map (some b)] 46)) ((w.alloc (.cells #[.map (some b)] 46)).alloc (.cells #[.bool false] 4)) := (Below.refl _ _).alloc (by simp) _
  have hb3 : Below (w.heap.size + 1 + 1) ((w.alloc (.cells #[.map (some b)] 46)).alloc (.cells #[.bool false] 4)) w3 := by rw [hw3]; exact (Below.refl _ _).alloc (by simp) _
  have k1 : Blk w3 w.heap.size 46 [.map (some b)] := ((Blk.new w _ _).past hb2 (by omega)).past hb3 (by omega)
  have k2 : Blk w3 (w.heap.size + 1) 4 [.bool false] := by
    have := Blk.new (w.alloc (.cells #[.map (some b)] 46)) 4 [.bool false]
    simp only [World.size_alloc] at this
    exact this.past hb3 (by omega)
  have k3 : w3.heap[w.heap.size + 1 + 1]? = some (.cells #[str p] 9 (0, 0)) := by
    rw [hw3]
    have := heap_alloc_new ((w.alloc (.cells #[.map (some b)] 46)).alloc (.cells #[.bool false] 4)) (.cells #[str p] 9)
    simpa using this
  have hsz : w3.heap.size = w.heap.size + 1 + 1 + 1 := by rw [hw3]; simp
  have hb : Below w.heap.size w w3 := (hb1.trans (hb2.mono (by omega))).trans (hb3.mono (by omega))
  have hes : ((w.alloc (Obj.cells #[Value.map (some b)] 46)).alloc (Obj.cells #[Value.bool false] 4)).heap.size = w.heap.size + 1 + 1 := by simp
  rw [hes]
  have hbl := hK.lt
  have hK3 := hK.past hb hbl
  clear hw3 hb1 hb2 hb3 hes hK
  have HSZ := Lib.hid hsz
  clear hsz
  gi_wp2_with fail
  refine wpIn_rangeFunc_ownG rfl (by omega) (gf := 60) (lb := #[.pointer (some ⟨w.heap.size + 1 + 1, 0, none⟩)]) rfl trivial (enters_of Try.func60 (by kernel_rfl) rfl)
    (ext_stops (w.heap.size + 1 + 1) p w3 5 (by omega) k3 hp) kpO_t (kpO_b (fun k hk => by have := HSZ.out; omega)) (Below.refl _ _) (fun _ => rfl)
    (fun pre W => Blk W w.heap.size 46 [.map (some b)] ∧ Blk W (w.heap.size + 1) 4 [.bool false] ∧ Mp W b n K ∧ (∀ x ∈ pre, clip x ∈ K) ∧ Below w.heap.size w W)
    (fun c pre W => c = .ret ∧ Blk W (w.heap.size + 1) 4 [.bool false] ∧ (∃ x ∈ pre, clip x ∉ K) ∧ Below w.heap.size w W)
    (own_keep fun s W W' ⟨h1, h2, h3, h4, h5⟩ hk => ⟨h1.keep hk (by have := HSZ.out; omega), h2.keep hk (by have := HSZ.out; omega), h3.keep hk (by have := HSZ.out; omega), h4, h5.trans (hk.below (fun k hk => by have := HSZ.out; omega) h5.size)⟩)
    (fun c => own_keep fun s W W' ⟨h1, h2, h3, h4⟩ hk => ⟨h1, h2.keep hk (by have := HSZ.out; omega), h3, h4.trans (hk.below (fun k hk => by have := HSZ.out; omega) h4.size)⟩)
    ⟨k1, k2, hK3, (fun x hx => absurd hx (by simp)), hb⟩
    (fun x => { tmps := #[Value.map (some b), Value.string ⟨p.toArray⟩, Value.pointer (some ⟨w.heap.size, 0, none⟩), undef, Value.pointer (some ⟨w.heap.size + 1, 0, none⟩), str (clip x), Value.string ⟨p.toArray⟩,
      Value.func (Fn.func 60) #[] #[Value.pointer (some ⟨w.heap.size + 1 + 1, 0, none⟩)], str (clip x), undef, undef, undef, undef], defers := [] }) ?assign ?body ?done ?stop
  case assign =>
    intro l x W K hK
    gi_wp2_with fail
    exact hK
  case body =>
    rintro l pre x W ⟨h1, h2, h3, h4, h5⟩ _
    have hl := h3.look (clip x) (by have := clip_len x; simp only [maxLen]; omega)
    have hc1 := h1.cell (j := 0) rfl
    obtain ⟨y, hy⟩ : ∃ y, clip x = y := ⟨_, rfl⟩
    have HY := Lib.hid hy
    rw [hy] at hl ⊢
    unfold str at hl ⊢
    clear hy
    by_cases hm : y ∈ K
    · rw [decide_eq_true hm] at hl
      gi_wp2_with fail
      exact ⟨KeepsFrom.refl _ _, ⟨fun _ _ _ h => h, fun _ _ => rfl⟩, h1, h2, h3, fun z hz => by
        rcases List.mem_append.1 hz with hz | hz
        · exact h4 z hz
        · simp at hz; subst hz; rw [HY.out]; exact hm, h5⟩
    · rw [decide_eq_false hm] at hl
      gi_wp2_with (refine wpi_storeC 4 (.tmp 4) (.const (.bool false)) rfl rfl (w.heap.size + 1) 0 rfl 4 [.bool false] (.bool false) rfl rfl rfl h2 (by simp) size_bool rfl ?_; intro w5 k5 kp5)
      exact ⟨⟨kp5.size, fun k o hB hk ho => kp5.heap (by have := HSZ.out; omega) hk⟩, rfl, k5, ⟨x, by simp, by rw [HY.out]; exact hm⟩, h5.trans (kp5.below (fun k hk => by omega) h5.size)⟩
  case done =>
    rintro D xs W hD rfl ⟨h1, h2, h3, h4, h5⟩ hKD
    have hall : decide (∀ x ∈ exts p, x ∈ K) = true := decide_eq_true fun x hx => by have := h4 x hx; rwa [clip_id (by rw [exts_len hx]; omega)] at this
    have HA := Lib.hid (HQ.out.symm.trans hall)
    clear h1 h3 h4 hall
    gi_wp2_with (refine wpi_storeC 4 (.tmp 4) (.const (.bool true)) rfl rfl (w.heap.size + 1) 0 rfl 4 [.bool false] (.bool true) rfl rfl rfl h2 (by simp) size_bool rfl ?_; intro w5 k5 kp5)
    have h6 := h5.trans (kp5.below (fun k hk => by omega) h5.size)
    have kd : Keep (fun k => k ≠ D) w5 (w5.putObj D (.deferred none)) := Keep.putObj _ _ _ (fun h => h rfl)
    have hDn : w.heap.size + 1 < D := by have := HSZ.out; omega
    have e2 : (w5.putObj D (.deferred none)).cell? ⟨w.heap.size + 1, 0, none⟩ = some (.bool true) := (k5.keep kd (by omega)).cell rfl
    have hq : q = true := HA.out
    show LeavesInM _ _ _ _ _ _ _ _ _
    refine ⟨by simp, .inl ⟨_, _, rfl, run_takeDeferred (kp5.heap (by have := HSZ.out; omega) hKD), ?_⟩⟩
    refine ⟨.bool true, ?_, ?_⟩
    · simp [results, Try.results50, go_sem, e2]
    · rw [hq]
      exact ⟨rfl, h6.trans (kd.below (fun k hk => by omega) (by have := h6.size; omega))⟩
  case stop =>
    rintro D c pre W hD hS ⟨rfl, h2, ⟨x, hx, hn⟩, h5⟩ hKD
    have hall : decide (∀ x ∈ exts p, x ∈ K) = false := decide_eq_false fun h => hn (by
      have hx2 := hS.subset hx
      rw [clip_id (by rw [exts_len hx2]; omega)]; exact h x hx2)
    have HA := Lib.hid (HQ.out.symm.trans hall)
    clear hall
    gi_wp2_with fail
    have kd : Keep (fun k => k ≠ D) W (W.putObj D (.deferred none)) := Keep.putObj _ _ _ (fun h => h rfl)
    have hDn : w.heap.size + 1 < D := by have := HSZ.out; omega
    have e2 : (W.putObj D (.deferred none)).cell? ⟨w.heap.size + 1, 0, none⟩ = some (.bool false) := (h2.keep kd (by omega)).cell rfl
    have hq : q = false := HA.out
    show LeavesInM _ _ _ _ _ _ _ _ _
    refine ⟨by simp, .inl ⟨_, _, rfl, run_takeDeferred hKD, ?_⟩⟩
    refine ⟨.bool false, ?_, ?_⟩
    · simp [results, Try.results50, go_sem, e2]
    · rw [hq]
      exact ⟨rfl, h5.trans (kd.below (fun k hk => by omega) (by have := h5.size; omega))⟩

end Go.Proofs.Ytblgcefaikoejaa
