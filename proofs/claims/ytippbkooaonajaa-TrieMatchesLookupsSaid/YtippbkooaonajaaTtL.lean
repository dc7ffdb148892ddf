/-
  Own lists of nodes; package trie: New, Clone.
-/
import Derived.Test.YtippbkooaonajaaTtK
namespace Go.Proofs.Ytippbkooaonajaa
open Go.RowKit Dg Tr
set_option linter.unusedVariables false
set_option linter.unusedSimpArgs false

def OwnN (w : World) (base n : Nat) (v : Value) (F : List Int) : Prop := w.ownsRow base 59 11 v n (ints F)
theorem info_node3 : (Try.prog.info? 59).map (fun i => (i.zero, i.size, i.bytes)) = some (some (.agg z11.toArray), 11, 88) := by kernel_rfl
theorem OwnN.nds {w : World} {base n : Nat} {v : Value} {F : List Int} (h : OwnN w base n v F) : Nds w w.heap.size n v F := Row.of_own h
theorem OwnN.len {w : World} {base n : Nat} {v : Value} {F : List Int} (h : OwnN w base n v F) : F.length = 11 * n := h.nds.len
theorem OwnN.nil_ (w : World) (base : Nat) : OwnN w base 0 (.slice none 0 0) [] := World.ownsRow_nil _ _ _ _
theorem OwnN.lt {w : World} {base n : Nat} {v : Value} {F : List Int} (h : OwnN w base n v F) : ∀ g, v.ownBlock = some g → base ≤ g ∧ g < w.heap.size := fun g hg => World.ownsRow.lt h g hg
theorem OwnN.keep {O : Nat → Prop} {w w' : World} {base n : Nat} {v : Value} {F : List Int} (h : OwnN w base n v F) (hk : Keep O w w') (hO : ∀ g, v.ownBlock = some g → O g) : OwnN w' base n v F := by
  obtain ⟨h1, h2⟩ := h
  refine ⟨h1, ?_⟩
  rcases h2 with h2 | ⟨g, cap, cur, rfl, hg, hh, r⟩
  · exact Or.inl h2
  · exact Or.inr ⟨g, cap, cur, rfl, hg, hk.heap (hO g rfl) hh, r⟩
theorem OwnN.go {w w' : World} {base n : Nat} {v : Value} {F : List Int} (h : OwnN w base n v F) (hb : Below w.heap.size w w') : OwnN w' base n v F := h.keep (Keep.of_below (O := fun _ => True) hb) (fun _ _ => trivial)
theorem OwnN.up {w : World} {base base' n : Nat} {v : Value} {F : List Int} (h : OwnN w base n v F) (hb : base' ≤ base) : OwnN w base' n v F := by
  obtain ⟨h1, h2⟩ := h
  refine ⟨h1, ?_⟩
  rcases h2 with h2 | ⟨g, cap, cur, rfl, hg, r⟩
  · exact Or.inl h2
  · exact Or.inr ⟨g, cap, cur, rfl, Nat.le_trans hb hg, r⟩
theorem OwnN.form {w : World} {base n : Nat} {v : Value} {F : List Int} (h : OwnN w base n v F) (hn : 0 < n) : ∃ g c, v = .slice (some ⟨g, 0, none⟩) n c := by
  rcases h.2 with ⟨_, h⟩ | ⟨g, cap, cur, h, _⟩
  · omega
  · exact ⟨g, cap, h⟩
theorem below_ownN {w w' : World} {base n : Nat} {v : Value} {F : List Int} (h : OwnN w base n v F) (hb : base ≤ w.heap.size) (hg : w.grownBy w' v.ownBlock) : Below base w w' :=
  ((Below.refl base w)).grown hg hb fun _ hk => (World.ownsRow.lt h _ hk).1
theorem ints_rep (n : Nat) : ints (List.replicate n 0) = List.replicate n (.int .i64 0) := by simp [ints, i64]

section
variable {ops : Array Oper} {rest : List Oper} {o : Oper} {a : Act} {Q : Exit → Act → World → Prop}
/-- 'append(s, x...)', x a list of nodes. -/
theorem wp_appNs {w : World} (base : Nat) (s x : Operand) (ho : o.op = .call { callee := .builtin .append, args := #[s, x], argTypes := #[22, 22] }) (hgd : o.guard = none)
    (v : Value) (n m c : Nat) (F G : List Int) (ad : Addr) {B : Nat} (hs : a.eval s = v) (hx : a.eval x = .slice (some ad) m c) (hown : OwnN w base n v F) (hm : Nds w B m (.slice (some ad) m c) G) (hbase : base ≤ w.heap.size) (hl : n + m ≤ 1000000)
    (h : ∀ v' w', OwnN w' base (n + m) v' (F ++ G) → Grew w w' v v' → wpList Try.prog ops Q rest (a.put o.dst v') w') : wpList Try.prog ops Q (o :: rest) a w := by
  obtain ⟨i0, hi, hz0, hz1, hz2⟩ := info_parts info_node3
  have hG := hm.len
  refine wpList_append_own_at _ hgd s x 22 ho base 59 i0 (.agg z11.toArray) 11 88 Try.underlying22 hi hz0 hz1 hz2 rfl (by decide) v n (ints F) hs hown
    ad m c (ints G) hx (by rw [ints_length, hG]; omega) (Row.cells hm) (ints_one G) (by simp only [maxLen]; omega) (by omega) hbase ?_
  intro v' w' h1 h2 _ h4
  refine h v' w' (by unfold OwnN; rw [ints_append]; exact h1) ⟨h2, ?_⟩
  rcases h4 with h4 | h4
  · exact Or.inl h4
  · refine Or.inr fun k hk => ?_
    rw [h4] at hk; injection hk with hk; omega
/-- 'append(s, TrieNode{})' -/
theorem wp_appN1 {w w0 : World} (base : Nat) (s x : Operand) (ho : o.op = .call { callee := .builtin .append, args := #[s, x], argTypes := #[22, 22] }) (hgd : o.guard = none)
    (v : Value) (n : Nat) (F : List Int) (hw : w = w0.alloc (.cells z11.toArray 59)) (hs : a.eval s = v) (hx : a.eval x = .slice (some ⟨w0.heap.size, 0, none⟩) 1 1) (hown : OwnN w0 base n v F) (hbase : base ≤ w0.heap.size) (hl : n + 1 ≤ 1000000)
    (h : ∀ v' w', OwnN w' base (n + 1) v' (F ++ List.replicate 11 0) → Grew w w' v v' → wpList Try.prog ops Q rest (a.put o.dst v') w') : wpList Try.prog ops Q (o :: rest) a w := by
  subst hw
  have hz : z11 = ints (List.replicate 11 0) := by rw [ints_rep]; rfl
  have hb : Blk (w0.alloc (.cells z11.toArray 59)) w0.heap.size 59 z11 := Blk.new _ _ _
  refine wp_appNs base s x ho hgd v n 1 1 F (List.replicate 11 0) ⟨w0.heap.size, 0, none⟩ hs hx (World.ownsRow.alloc hown _) (B := w0.heap.size + 1) ?_ (by simp; omega) hl h
  refine ⟨some ⟨w0.heap.size, 0, none⟩, 1, rfl, Nat.le_refl _, by simp [maxLen], (fun h => by cases h), by simp [ints], fun b hb' h0 => ?_⟩
  obtain rfl : (⟨w0.heap.size, 0, none⟩ : Addr) = b := by injection hb'
  refine ⟨by simp, fun i u hu => ?_⟩
  rw [add_zero_addr]
  refine hb.cell ?_
  rw [hz]; exact hu
/-- A store of one number into an own list of nodes. -/
theorem wp_storeN {w : World} (x y : Operand) (ho : o.op = .store 3 x y) (hgd : o.guard = none) (hdst : o.dst = none) (base n g c p : Nat) (F : List Int) (z : Int) (hx : a.eval x = .pointer (some ⟨g, p, none⟩)) (hy : a.eval y = .int .i64 z)
    (hown : OwnN w base n (.slice (some ⟨g, 0, none⟩) n c) F) (hp : p < 11 * n)
    (h : ∀ w', OwnN w' base n (.slice (some ⟨g, 0, none⟩) n c) (F.set p z) → Keep (fun k => k ≠ g) w w' → wpList Try.prog ops Q rest a w') : wpList Try.prog ops Q (o :: rest) a w := by
  have hpp : a.put o.dst undef = a := by rw [hdst]; rfl
  rw [← hpp] at h
  have hl := hown.len
  have hc : w.cell? ⟨g, p, none⟩ = some (.int .i64 (F.getD p 0)) := by
    rw [World.ownsRow.cellAt hown p (by omega)]; exact ints_getD (by omega)
  have hf : w.frozen? ⟨g, p, none⟩ = false := World.ownsRow.frozenAt hown p
  have hst := run_storeCells_cells (P := Try.prog) g p [.int .i64 z] 0 w (fun j hj => by
      obtain rfl : j = 0 := by simpa using hj
      simp [hc]) (fun j hj => by
      obtain rfl : j = 0 := by simpa using hj
      simpa using hf) (fun v hv => by simp at hv; subst hv; rfl)
  obtain ⟨i, hq, hs⟩ := Option.map_eq_some_iff.1 info_int
  have hrun : (storeVar 3 ⟨g, p, none⟩ (.int .i64 z)).run Try.prog w = .ok () (w.setCell ⟨g, p, none⟩ (.int .i64 z)) := by
    simp only [Nat.add_zero, World.setCells] at hst
    simp [storeVar, sizeOf, typeInfo, hq, hs, Value.cells, hst]
  refine wpList_plain hgd fun K hK => ?_
  unfold Oper.wp execOp
  simp only [ho, hx, hy, hpp, Instr.storeAt, Instr.sureAddr, Sem.run_bind, Sem.run_pure, Result.andThen_ok, hrun]
  refine hK _ _ ?_
  have h := h (w.setCell ⟨g, p, none⟩ (.int .i64 z)) (by unfold OwnN; rw [ints_set]; exact (World.ownsRow.stored hown p _).1) (Keep.setCell w ⟨g, p, none⟩ _ (fun h => h rfl))
  rwa [hpp] at h ⊢
end

theorem wp_make1 {ops : Array Oper} {rest : List Oper} {o : Oper} {a : Act} {Q : Exit → Act → World → Prop} {w : World} (base : Nat) (l c : Operand) (ho : o.op = .makeSlice 22 l c) (hgd : o.guard = none) (hl : a.eval l = .int .i64 1) (hc : a.eval c = .int .i64 1) (hbase : base ≤ w.heap.size)
    (h : ∀ w', OwnN w' base 1 (.slice (some ⟨w.heap.size, 0, none⟩) 1 1) (List.replicate 11 0) → Below w.heap.size w w' → wpList Try.prog ops Q rest (a.put o.dst (.slice (some ⟨w.heap.size, 0, none⟩) 1 1)) w') : wpList Try.prog ops Q (o :: rest) a w := by
  obtain ⟨i0, hi, hz0, hz1, hz2⟩ := info_parts info_node3
  obtain ⟨w', hr, h1, h2⟩ := run_make_full (P := Try.prog) w base 22 59 i0 (.agg z11.toArray) 11 Try.underlying22 hi hz0 hz1 .i64 .i64 1 (by rw [hz2]; omega) (by simp [maxLen]) hbase
  refine wpList_plain hgd fun K hK => ?_
  unfold Oper.wp
  simp only [execOp, ho, hl, hc, Sem.run_bind]
  have hr' : (Instr.makeSlice 22 (.int .i64 1) (.int .i64 1)).run Try.prog w = .ok (.slice (some ⟨w.heap.size, 0, none⟩) 1 1) w' := hr
  simp only [hr', Result.andThen_ok, Sem.run_pure]
  refine hK _ _ (h w' ?_ ((Below.refl _ _).grown h2 (Nat.le_refl _) (fun _ hk => by cases hk)))
  unfold OwnN
  have e : ints (List.replicate 11 0) = (madeCells (Value.agg z11.toArray).cells (1 * 11)).toList := by rw [ints_rep]; kernel_rfl
  rw [e]; exact h1

/-- The end of a function whose one result is a struct that lies in memory. -/
theorem ret_row {P : Program} {fn : Func} {p : Tmp} {ty : TypeId} {Q : Ending → World → Prop} {a : Act} {w : World} (hr : fn.results = #[.cell p ty]) (hd : a.defers = []) (g : Nat) (t : TypeId) (l : List Value) (d : TypeDesc)
    (hp : a.tmps.getD p undef = .pointer (some ⟨g, 0, none⟩)) (hg : Blk w g t l) (hu : P.underlying ty = some d) (hdd : d.isRow = true) (hi : (P.info? ty).map (·.size) = some l.length)
    (h : Q (.returned (.agg l.toArray)) w) : bodyPost P fn Q .ret a w := by
  refine bodyPost_ret (v := .agg l.toArray) ?_ hd h
  have hrr : w.rangeAt g 0 l := fun j v hv => by rw [Nat.zero_add]; exact hg.cell hv
  have hl := run_loadVar_mid (P := P) w g 0 ty l d hrr hu hdd hi
  have hp' : a.tmps[p]?.getD undef = .pointer (some ⟨g, 0, none⟩) := by simpa using hp
  simp [results, hr, hp', asAddr, hl]
/-- The end of a function whose results are a struct or an array that lies in memory, and a value. -/
theorem ret_row_tmp {P : Program} {fn : Func} {p u : Tmp} {ty : TypeId} {Q : Ending → World → Prop} {a : Act} {w : World} (hr : fn.results = #[.cell p ty, .tmp u]) (hd : a.defers = []) (g : Nat) (t : TypeId) (l : List Value) (d : TypeDesc)
    (hp : a.tmps.getD p undef = .pointer (some ⟨g, 0, none⟩)) (hg : Blk w g t l) (hu : P.underlying ty = some d) (hdd : d.isRow = true) (hi : (P.info? ty).map (·.size) = some l.length)
    (v : Value) (hv : a.tmps.getD u undef = v) (h : Q (.returned (.tuple #[.agg l.toArray, v])) w) : bodyPost P fn Q .ret a w := by
  refine bodyPost_ret (v := .tuple #[.agg l.toArray, v]) ?_ hd h
  subst hv
  have hrr : w.rangeAt g 0 l := fun j v hv => by rw [Nat.zero_add]; exact hg.cell hv
  have hl := run_loadVar_mid (P := P) w g 0 ty l d hrr hu hdd hi
  have hp' : a.tmps[p]?.getD undef = .pointer (some ⟨g, 0, none⟩) := by simpa using hp
  simp [results, hr, hp', asAddr, hl]

theorem own_empty (w : World) : OwnN (w.alloc (.cells #[] 59)) w.heap.size 0 (.slice (some ⟨w.heap.size, 0, none⟩) 0 0) [] :=
  ⟨rfl, Or.inr ⟨w.heap.size, 0, #[], rfl, Nat.le_refl _, heap_alloc_new w _, Nat.le_refl _, by simp [maxLen], rfl, rfl⟩⟩

set_option maxRecDepth 100000 in
theorem clone_any (ad : Addr) (n cap : Nat) (F : List Int) (w : World) (hv : Nds w w.heap.size n (.slice (some ad) n cap) F) (hn : n ≤ 10000) :
    Calls Try.prog 35 #[.slice (some ad) n cap] w fun e w' => (∃ v, e = .returned v ∧ OwnN w' w.heap.size n v F) ∧ Below w.heap.size w w' := by
  have hb1 : Below w.heap.size w (w.alloc (.cells #[] 59)) := (Below.refl _ _).alloc (Nat.le_refl _) _
  have hv1 := Row.past hv hb1
  have ho := own_empty w
  have HV := Lib.hid hv1
  have hnil : ∀ W, (binOp .eql 22 (.slice (some ad) n cap) (.slice none 0 0)).run Try.prog W = .ok (.bool false) W := fun W => by kernel_rfl
  clear hv hv1
  go_enter Try.func35, Try.ntmps35
  go_wp2_with (first | (refine wp_appNs w.heap.size (.tmp 5) (.tmp 6) rfl rfl _ 0 n cap [] F ad rfl rfl ho HV.out (by simp) (by omega) ?_; intro v7 w7 o7 g7))
  have b7 : Below w.heap.size w w7 := hb1.trans (below_ownN ho (by simp) g7.1)
  go_ret
  exact ⟨⟨_, rfl, by rw [Nat.zero_add, List.nil_append] at o7; exact o7⟩, b7⟩

set_option maxRecDepth 100000 in
theorem new_any (w : World) : Calls Try.prog 32 #[] w fun e w' => (∃ v, e = .returned (.agg #[v]) ∧ OwnN w' w.heap.size 1 v (List.replicate 11 0)) ∧ Below w.heap.size w w' := by
  go_enter Try.func32, Try.ntmps32
  have c0 : Blk (w.alloc (.cells #[.slice none 0 0] 24)) w.heap.size 24 [.slice none 0 0] := Blk.new _ _ _
  have b0 : Below w.heap.size w (w.alloc (.cells #[.slice none 0 0] 24)) := (Below.refl _ _).alloc (Nat.le_refl _) _
  go_wp2_with (first | (refine wp_make1 (w.heap.size) _ _ rfl rfl rfl rfl (by simp) ?_; intro w7 o7 b7; have c7 := c0.past b7 (by simp); have hs7 := b7.size) | (refine wp_storeA 24 (.tmp 0) (.tmp 2) rfl rfl w.heap.size rfl 24 [.slice none 0 0] [.slice (some ⟨w.heap.size + 1, 0, none⟩) 1 1] rfl c7 (by rw [info_trie]; rfl) rfl (by intro v hv; simp at hv; subst hv; rfl) rfl ?_; intro w8 h8 k8))
  simp only [World.size_alloc] at o7 b7 hs7
  have o8 := o7.keep k8 (fun q hq => by simp [Value.ownBlock] at hq; omega)
  have b8 : Below w.heap.size w w8 := (b0.trans (b7.mono (by omega))).trans (k8.below (fun q hq => by omega) (by omega))
  refine ret_row Try.results32 rfl w.heap.size 24 _ _ rfl h8 Try.underlying24 rfl (by rw [info_trie]; rfl) ?_
  exact ⟨⟨_, rfl, o8⟩, b8⟩
end Go.Proofs.Ytippbkooaonajaa
