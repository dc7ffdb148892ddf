/-
  Memory words for blocks and slices whose elements take several cells; numbers as cells. Nothing of a program is named here.
-/
import Derived.Test.YtippbkooaonajaaPlk
namespace Go.Proofs.Ytippbkooaonajaa
section
open Go.RowKit
set_option linter.unusedVariables false
set_option linter.unusedSimpArgs false

/-- Numbers as cells of type int. -/
def i64 (n : Int) : Value := .int .i64 n
def ints (l : List Int) : List Value := l.map i64
theorem ints_length (l : List Int) : (ints l).length = l.length := by simp [ints]
theorem ints_one (l : List Int) : ∀ u ∈ ints l, u.oneCell' = true := by
  intro u hu; simp only [ints, List.mem_map] at hu; obtain ⟨b, _, rfl⟩ := hu; rfl
theorem ints_getD {l : List Int} {i : Nat} (h : i < l.length) : (ints l)[i]? = some (.int .i64 (l.getD i 0)) := by
  rw [List.getD_eq_getElem?_getD, List.getElem?_eq_getElem h]; simp [ints, i64, h]
theorem ints_append (l m : List Int) : ints (l ++ m) = ints l ++ ints m := by simp [ints]
theorem ints_set (l : List Int) (i : Nat) (x : Int) : ints (l.set i x) = (ints l).set i (.int .i64 x) := by simp [ints, i64, List.map_set]
theorem row_form {w : World} {B s n : Nat} {v : Value} {xs : List Value} (h : Row w B s n v xs) : ∃ A cap, v = .slice A n cap := by
  obtain ⟨A, cap, hv, _⟩ := h
  exact ⟨A, cap, hv⟩

/-- The measure of a loop up to n. -/
def ixn (n : Nat) : Value → Nat
  | .int _ i => n - i.toNat
  | _ => 0

theorem Blk.range {w : World} {g : Nat} {t : TypeId} {l : List Value} (h : Blk w g t l) (o n : Nat) : w.rangeAt g o ((l.drop o).take n) := fun j v hv => by
  refine h.cell ?_
  rw [List.getElem?_take] at hv
  split at hv
  · rw [← hv, List.getElem?_drop]
  · cases hv
theorem Blk.there {w : World} {g : Nat} {t : TypeId} {l : List Value} (h : Blk w g t l) (o n : Nat) (hn : o + n ≤ l.length) : w.there g o n := fun j hj => by
  refine ⟨?_, h.frozen _⟩
  rw [h.cell (List.getElem?_eq_getElem (by omega : o + j < l.length))]; rfl

theorem take_set_at (l : List Value) (o : Nat) (v : Value) (ho : o < l.length) : (l.set o v).take (o + 1) = l.take o ++ [v] := by
  rw [List.take_add_one, List.take_set_of_le (Nat.le_refl _)]
  simp [ho]

theorem Blk.setCells {g : Nat} {t : TypeId} : ∀ (vs : List Value) (o : Nat) (w : World) (l : List Value), Blk w g t l → o + vs.length ≤ l.length → Blk (w.setCells g o vs) g t (l.take o ++ vs ++ l.drop (o + vs.length))
  | [], o, w, l, h, _ => by simpa [World.setCells] using h
  | v :: r, o, w, l, h, hl => by
    have h1 := Blk.setCells r (o + 1) _ _ (h.set o v) (by simp only [List.length_set]; simp only [List.length_cons] at hl; omega)
    have ho : o < l.length := by simp only [List.length_cons] at hl; omega
    rw [take_set_at l o v ho] at h1
    have e : (l.set o v).drop (o + 1 + r.length) = l.drop (o + (v :: r).length) := by
      rw [List.drop_set_of_lt (by omega)]
      congr 1
      simp only [List.length_cons]; omega
    rw [e] at h1
    have e2 : l.take o ++ [v] ++ r = l.take o ++ v :: r := by simp
    rw [e2] at h1
    exact h1

theorem keep_setCells (g : Nat) : ∀ (vs : List Value) (o : Nat) (w : World), Keep (fun k => k ≠ g) w (w.setCells g o vs)
  | [], _, w => Keep.refl _ _
  | v :: r, o, w => (Keep.setCell w ⟨g, o, none⟩ v (fun h => h rfl)).trans (keep_setCells g r (o + 1) _)

section
variable {P : Program}

/-- The load of an array out of the middle of a block. -/
theorem exec_loadM {o : Oper} {a : Act} {w : World} (ty : TypeId) {x : Operand} (ho : o.op = .load ty x) (g k m : Nat) (hx : a.eval x = .pointer (some ⟨g, k, none⟩)) (t : TypeId) (l : List Value) (n : Nat) (e : TypeId) (hg : Blk w g t l)
    (hu : P.underlying ty = some (.array n e)) (hm : k + m ≤ l.length) (hi : (P.info? ty).map (·.size) = some m) : (execOp a.eval o).run P w = .ok (.value (.agg ((l.drop k).take m).toArray)) w := by
  unfold execOp
  simp only [ho, hx, Instr.loadAt, Instr.sureAddr, Sem.run_bind, Sem.run_pure, Result.andThen_ok, run_loadVar_mid w g k ty ((l.drop k).take m) _ (hg.range k m) hu rfl (by rw [hi]; simp; omega)]

/-- The store of an array into the middle of a block. -/
theorem wp_storeM {ops : Array Oper} {rest : List Oper} {o : Oper} {a : Act} {w : World} {Q : Exit → Act → World → Prop} (ty : TypeId) (x y : Operand) (ho : o.op = .store ty x y) (hgd : o.guard = none)
    (g k : Nat) (hx : a.eval x = .pointer (some ⟨g, k, none⟩)) (t : TypeId) (l l' : List Value) (hy : a.eval y = .agg l'.toArray) (hg : Blk w g t l)
    (hi : (P.info? ty).map (·.size) = some l'.length) (hl : k + l'.length ≤ l.length) (h1 : ∀ v ∈ l', v.oneCell' = true)
    (hdst : o.dst = none) (h : ∀ w', Blk w' g t (l.take k ++ l' ++ l.drop (k + l'.length)) → Keep (fun k => k ≠ g) w w' → wpList P ops Q rest a w') : wpList P ops Q (o :: rest) a w := by
  refine wpList_store_mid hgd ty x y ho g k l'.toArray hx hy (by simpa using hg.there k l'.length hl) (by simpa using hi) (all_oneCell_toArray h1) ?_
  have hp : a.put o.dst undef = a := by rw [hdst]; rfl
  rw [hp]
  exact h _ (by simpa using Blk.setCells l' k w l hg hl) (keep_setCells g _ _ w)

/-- The load of an array at any address whose cells are known. -/
theorem exec_loadP {o : Oper} {a : Act} {w : World} (ty : TypeId) {x : Operand} (ho : o.op = .load ty x) (p : Addr) (hx : a.eval x = .pointer (some p)) (cs : List Value) (n : Nat) (e : TypeId) (hc : ∀ i u, cs[i]? = some u → w.cell? (p.add i) = some u)
    (hu : P.underlying ty = some (.array n e)) (hi : (P.info? ty).map (·.size) = some cs.length) : (execOp a.eval o).run P w = .ok (.value (.agg cs.toArray)) w := by
  have hl : (loadCells p cs.length).run P w = .ok cs.toArray w := run_loadCells_list (P := P) w p cs hc
  obtain ⟨i, hq, hs⟩ := Option.map_eq_some_iff.1 hi
  have hagg : (isAgg ty).run P w = .ok true w := by
    unfold isAgg
    rw [Sem.run_bind, run_underlying hu w]
    rfl
  have hload : (loadVar ty p).run P w = .ok (.agg cs.toArray) w := by
    simp [loadVar, Sem.run_bind, hagg, sizeOf, typeInfo, hq, hs, hl]
  unfold execOp
  simp only [ho, hx, Instr.loadAt, Instr.sureAddr, Sem.run_bind, Sem.run_pure, Result.andThen_ok, hload]

/-- The load of a struct at any address whose cells are known. -/
theorem exec_loadPS {o : Oper} {a : Act} {w : World} (ty : TypeId) {x : Operand} (ho : o.op = .load ty x) (p : Addr) (hx : a.eval x = .pointer (some p)) (cs : List Value) (fs : Array Field) (hc : ∀ i u, cs[i]? = some u → w.cell? (p.add i) = some u)
    (hu : P.underlying ty = some (.struct fs)) (hi : (P.info? ty).map (·.size) = some cs.length) : (execOp a.eval o).run P w = .ok (.value (.agg cs.toArray)) w := by
  have hl : (loadCells p cs.length).run P w = .ok cs.toArray w := run_loadCells_list (P := P) w p cs hc
  obtain ⟨i, hq, hs⟩ := Option.map_eq_some_iff.1 hi
  have hagg : (isAgg ty).run P w = .ok true w := by
    unfold isAgg
    rw [Sem.run_bind, run_underlying hu w]
    rfl
  have hload : (loadVar ty p).run P w = .ok (.agg cs.toArray) w := by
    simp [loadVar, Sem.run_bind, hagg, sizeOf, typeInfo, hq, hs, hl]
  unfold execOp
  simp only [ho, hx, Instr.loadAt, Instr.sureAddr, Sem.run_bind, Sem.run_pure, Result.andThen_ok, hload]

/-- '&x[i]' of a slice of elements of 's' cells at a known address. -/
theorem exec_ixS (t e : TypeId) (s : Nat) (ht : P.underlying t = some (.slice e)) (hz : (P.info? e).map (·.size) = some s) {o : Oper} {a : Act} (w : World) {x y : Operand} (ho : o.op = .indexAddr t x y) {ad : Addr} {n cap : Nat} (hx : a.eval x = .slice (some ad) n cap)
    (k : IntKind) (I : Int) (i : Nat) (hy : a.eval y = .int k I) (hI : I = (i : Int)) (hi : i < n) {q : Addr} (hq : q = ad.add (i * s)) : (execOp a.eval o).run P w = .ok (.value (.pointer (some q))) w := by
  subst hI hq
  have hel : P.elem t = e := by simp [Program.elem, ht]
  have ht' : P.underlying t = some (.slice (P.elem t)) := by rw [hel]; exact ht
  obtain ⟨info, hin, hsz⟩ := Option.map_eq_some_iff.1 hz
  unfold execOp
  simp only [ho, hx, hy, Sem.run_bind, Sem.run_pure, run_indexAt_slice (h := ht'), hel, sizeOf, typeInfo, run_program, hin, hsz, Result.andThen_ok]
  rw [if_pos ⟨by omega, by omega⟩]
  simp

/-- '&x[i]' of an array of elements of 's' cells in memory. -/
theorem exec_ixA (t e : TypeId) (n s : Nat) (ht : P.underlying t = some (.array n e)) (hz : (P.info? e).map (·.size) = some s) {o : Oper} {a : Act} (w : World) {x y : Operand} (ho : o.op = .indexAddr t x y) (g : Nat) (hx : a.eval x = .pointer (some ⟨g, 0, none⟩))
    (k : IntKind) (I : Int) (i : Nat) (hy : a.eval y = .int k I) (hI : I = (i : Int)) (hi : i < n) {q : Nat} (hq : q = i * s) : (execOp a.eval o).run P w = .ok (.value (.pointer (some ⟨g, q, none⟩))) w := by
  subst hI hq
  have hel : P.elem t = e := by simp [Program.elem, ht]
  have hal : P.arrayLen t = n := by simp [Program.arrayLen, ht]
  have ht' : P.underlying t = some (.array (P.arrayLen t) (P.elem t)) := by rw [hel, hal]; exact ht
  obtain ⟨info, hin, hsz⟩ := Option.map_eq_some_iff.1 hz
  unfold execOp
  simp only [ho, hx, hy, Sem.run_bind, Sem.run_pure, run_indexAt_array (h := ht'), hel, hal, sizeOf, typeInfo, run_program, hin, hsz, Result.andThen_ok]
  rw [if_pos ⟨by omega, by omega⟩]
  simp [add_zero_addr]

/-- '&x[i]' of an array in memory, at any address. -/
theorem exec_ixP (t e : TypeId) (n s : Nat) (ht : P.underlying t = some (.array n e)) (hz : (P.info? e).map (·.size) = some s) {o : Oper} {a : Act} (w : World) {x y : Operand} (ho : o.op = .indexAddr t x y) (p : Addr) (hx : a.eval x = .pointer (some p))
    (k : IntKind) (I : Int) (i : Nat) (hy : a.eval y = .int k I) (hI : I = (i : Int)) (hi : i < n) {q : Addr} (hq : q = p.add (i * s)) : (execOp a.eval o).run P w = .ok (.value (.pointer (some q))) w := by
  subst hI hq
  have hel : P.elem t = e := by simp [Program.elem, ht]
  have hal : P.arrayLen t = n := by simp [Program.arrayLen, ht]
  have ht' : P.underlying t = some (.array (P.arrayLen t) (P.elem t)) := by rw [hel, hal]; exact ht
  obtain ⟨info, hin, hsz⟩ := Option.map_eq_some_iff.1 hz
  unfold execOp
  simp only [ho, hx, hy, Sem.run_bind, Sem.run_pure, run_indexAt_array (h := ht'), hel, hal, sizeOf, typeInfo, run_program, hin, hsz, Result.andThen_ok]
  rw [if_pos ⟨by omega, by omega⟩]
  simp

/-- 'x[:]' of an array of elements of 's' cells in memory. -/
theorem exec_sliceAll (t e : TypeId) (n s : Nat) (ht : P.underlying t = some (.array n e)) (hz : (P.info? e).map (·.size) = some s) {o : Oper} {a : Act} (x : Operand) (ho : o.op = .slice t x none none none) (g : Nat) (hx : a.eval x = .pointer (some ⟨g, 0, none⟩)) (w : World) :
    (execOp a.eval o).run P w = .ok (.value (.slice (some ⟨g, 0, none⟩) n n)) w := by
  have hel : P.elem t = e := by simp [Program.elem, ht]
  have hal : P.arrayLen t = n := by simp [Program.arrayLen, ht]
  have ht' : P.underlying t = some (.array (P.arrayLen t) (P.elem t)) := by rw [hel, hal]; exact ht
  obtain ⟨info, hin, hsz⟩ := Option.map_eq_some_iff.1 hz
  have hrun : (Instr.sliceAt t (.pointer (some ⟨g, 0, none⟩)) none none none).run P w = .ok (.slice (some ⟨g, 0, none⟩) n n) w := by
    rw [run_sliceAt_array_all (ht := ht')]
    simp [hel, hal, sizeOf, typeInfo, hin, hsz, Result.andThen, slicedAt, add_zero_addr]
  exact exec_slice ho (by rw [hx]; exact hrun)

/-- The store of one integer into a block. -/
theorem wp_store1 {ops : Array Oper} {rest : List Oper} {o : Oper} {a : Act} {w : World} {Q : Exit → Act → World → Prop} (ty : TypeId) (q : IntKind) (x y : Operand) (ho : o.op = .store ty x y) (hgd : o.guard = none)
    (g k : Nat) (hx : a.eval x = .pointer (some ⟨g, k, none⟩)) (t : TypeId) (l : List Value) (I : Int) (hy : a.eval y = .int q I) (hg : Blk w g t l) (hk : k < l.length)
    (hz : (P.info? ty).map (·.size) = some 1) (hdst : o.dst = none) (h : ∀ w', Blk w' g t (l.set k (.int q I)) → Keep (fun k => k ≠ g) w w' → wpList P ops Q rest a w') : wpList P ops Q (o :: rest) a w := by
  have hp : a.put o.dst undef = a := by rw [hdst]; rfl
  rw [← hp] at h
  have hc : w.cell? ⟨g, k, none⟩ = some l[k] := hg.cell (List.getElem?_eq_getElem hk)
  have hf := hg.frozen k
  have hst := run_storeCells_cells (P := P) g k [.int q I] 0 w (fun j hj => by
      obtain rfl : j = 0 := by simpa using hj
      simp [hc]) (fun j hj => by
      obtain rfl : j = 0 := by simpa using hj
      simpa using hf) (fun v hv => by simp at hv; subst hv; rfl)
  obtain ⟨i, hq, hs⟩ := Option.map_eq_some_iff.1 hz
  have hrun : (storeVar ty ⟨g, k, none⟩ (.int q I)).run P w = .ok () (w.setCell ⟨g, k, none⟩ (.int q I)) := by
    simp only [Nat.add_zero, World.setCells] at hst
    simp [storeVar, sizeOf, typeInfo, hq, hs, Value.cells, hst]
  refine wpList_plain hgd fun K hK => ?_
  unfold Oper.wp execOp
  simp only [ho, hx, hy, hp, Instr.storeAt, Instr.sureAddr, Sem.run_bind, Sem.run_pure, Result.andThen_ok, hrun]
  exact hK _ _ (by have h := h _ (hg.set k _) (Keep.setCell w ⟨g, k, none⟩ _ (fun h => h rfl)); rwa [hp] at h ⊢)

theorem exec_indexA (t e : TypeId) (n : Nat) (k : IntKind) (ht : P.underlying t = some (.array n e)) (he : P.underlying e = some (.int k)) (hz : (P.info? e).map (·.size) = some 1) {o : Oper} {a : Act} {x y : Operand} (ho : o.op = .index t x y) (cs : List Value) (hx : a.eval x = .agg cs.toArray)
    (q : IntKind) (I : Int) (i : Nat) (hy : a.eval y = .int q I) (hI : I = (i : Int)) (hi : i < n) (u : Value) (hu : cs[i]? = some u) (w : World) : (execOp a.eval o).run P w = .ok (.value u) w := by
  subst hI
  unfold execOp
  simp only [ho, hx, hy, Sem.run_bind, Sem.run_pure, Result.andThen_ok, run_indexA t e n k ht he hz cs.toArray q i hi u (by simpa using hu) w]

/-- An array by value out of an array of arrays by value. -/
theorem run_indexAA (t e : TypeId) (n m n2 : Nat) (e2 : TypeId) (ht : P.underlying t = some (.array n e)) (he : P.underlying e = some (.array n2 e2)) (hz : (P.info? e).map (·.size) = some m) (cs : List Value) (q : IntKind) (i : Nat) (hi : i < n) (hl : cs.length = n * m) (w : World) :
    (Instr.index t (.agg cs.toArray) (.int q (i : Int))).run P w = .ok (.agg ((cs.drop (i * m)).take m).toArray) w := by
  obtain ⟨info, hin, hsz⟩ := Option.map_eq_some_iff.1 hz
  have hagg : (isAgg e).run P w = .ok true w := by
    unfold isAgg
    rw [Sem.run_bind, run_underlying he w]
    simp
  unfold Instr.index
  simp only [asIntOf, Sem.run_bind, Sem.run_pure, Result.andThen_ok, run_underlying ht w]
  have hi' : (0 : Int) ≤ (i : Int) ∧ (i : Int) < (n : Int) := ⟨by omega, by omega⟩
  have hlm : i * m + m ≤ cs.length := by
    rw [hl, ← Nat.succ_mul]
    exact Nat.mul_le_mul_right _ hi
  simp only [hi', and_self, if_true, if_pos, Sem.run_bind, sizeOf, typeInfo, run_program, hin, hsz, Result.andThen_ok, Sem.run_pure, part, hagg, Int.toNat_natCast]
  congr 2
  apply Array.ext'
  simp
theorem exec_indexAA (t e : TypeId) (n m n2 : Nat) (e2 : TypeId) (ht : P.underlying t = some (.array n e)) (he : P.underlying e = some (.array n2 e2)) (hz : (P.info? e).map (·.size) = some m) {o : Oper} {a : Act} {x y : Operand} (ho : o.op = .index t x y) (cs r : List Value) (hx : a.eval x = .agg cs.toArray)
    (q : IntKind) (I : Int) (i : Nat) (hy : a.eval y = .int q I) (hI : I = (i : Int)) (hi : i < n) (hl : cs.length = n * m) (hr : (cs.drop (i * m)).take m = r) (w : World) : (execOp a.eval o).run P w = .ok (.value (.agg r.toArray)) w := by
  subst hI hr
  unfold execOp
  simp only [ho, hx, hy, Sem.run_bind, Sem.run_pure, Result.andThen_ok, run_indexAA t e n m n2 e2 ht he hz cs q i hi hl w]

/-- The store of a one-cell value into a block, within a fence. -/
theorem wpi_storeC {F : Fence} {n : Nat} {ops : Array Oper} {rest : List Oper} {o : Oper} {a : Act} {w : World} {Q : Exit → Act → World → Prop} (ty : TypeId) (x y : Operand) (ho : o.op = .store ty x y) (hgd : o.guard = none)
    (g k : Nat) (hx : a.eval x = .pointer (some ⟨g, k, none⟩)) (t : TypeId) (l : List Value) (u : Value) (hu1 : u.cells = #[u]) (hu2 : u.oneCell' = true) (hy : a.eval y = u) (hg : Blk w g t l) (hk : k < l.length)
    (hz : (P.info? ty).map (·.size) = some 1) (hdst : o.dst = none) (h : ∀ w', Blk w' g t (l.set k u) → Keep (fun k => k ≠ g) w w' → wpListIn F n P ops Q rest a w') : wpListIn F n P ops Q (o :: rest) a w := by
  have hp : a.put o.dst undef = a := by rw [hdst]; rfl
  rw [← hp] at h
  have hc : w.cell? ⟨g, k, none⟩ = some l[k] := hg.cell (List.getElem?_eq_getElem hk)
  have hf := hg.frozen k
  have hst := run_storeCells_cells (P := P) g k [u] 0 w (fun j hj => by
      obtain rfl : j = 0 := by simpa using hj
      simp [hc]) (fun j hj => by
      obtain rfl : j = 0 := by simpa using hj
      simpa using hf) (fun v hv => by simp at hv; subst hv; exact hu2)
  obtain ⟨i, hq, hs⟩ := Option.map_eq_some_iff.1 hz
  have hrun : (storeVar ty ⟨g, k, none⟩ u).run P w = .ok () (w.setCell ⟨g, k, none⟩ u) := by
    simp only [Nat.add_zero, World.setCells] at hst
    simp [storeVar, sizeOf, typeInfo, hq, hs, hu1, hst]
  refine wpListIn_plain hgd fun K hK => ?_
  unfold Oper.wpIn
  refine ⟨fun f hf => (by simp [Oper.about, ho] at hf), ?_⟩
  rw [Oper.semAt_plain F _ _ (fun c hc => (by rw [ho] at hc; cases hc))]
  unfold execOp
  simp only [ho, hx, hy, hp, Instr.storeAt, Instr.sureAddr, Sem.run_bind, Sem.run_pure, Result.andThen_ok, hrun]
  exact hK _ _ (by have h := h _ (hg.set k _) (Keep.setCell w ⟨g, k, none⟩ _ (fun h => h rfl)); rwa [hp] at h ⊢)

/-- A store of what stands there changes nothing. -/
theorem Keep.same {w w' : World} {g k : Nat} {t : TypeId} {l : List Value} {u : Value} (h : Blk w g t l) (hu : l[k]? = some u) (h' : Blk w' g t (l.set k u)) (hk : Keep (fun b => b ≠ g) w w') : Keep (fun _ => True) w w' ∧ Blk w' g t l := by
  have hs : l.set k u = l := by
    apply List.ext_getElem?
    intro i
    rw [List.getElem?_set]
    split
    · rename_i hi; subst hi; rw [hu]; simp [(List.getElem?_eq_some_iff.1 hu).1]
    · rfl
  rw [hs] at h'
  refine ⟨⟨hk.os, hk.tape, hk.output, hk.size, fun b _ hb => ?_⟩, h'⟩
  by_cases hbg : b = g
  · subst hbg; exact h'.trans h.symm
  · exact hk.block b hbg hb

theorem run_loadVar_one (ty : TypeId) (k : IntKind) (hu : P.underlying ty = some (.int k)) (a : Addr) (v : Value) (w : World) (hc : w.cell? a = some v) : (loadVar ty a).run P w = .ok v w := by
  have hagg : (isAgg ty).run P w = .ok false w := by
    unfold isAgg
    rw [Sem.run_bind, run_underlying hu w]
    rfl
  simp [loadVar, Sem.run_bind, hagg, hc]
theorem run_loadVar_oneb (ty : TypeId) (hu : P.underlying ty = some .bool) (a : Addr) (v : Value) (w : World) (hc : w.cell? a = some v) : (loadVar ty a).run P w = .ok v w := by
  have hagg : (isAgg ty).run P w = .ok false w := by
    unfold isAgg
    rw [Sem.run_bind, run_underlying hu w]
    rfl
  simp [loadVar, Sem.run_bind, hagg, hc]
theorem results_cell2 {fn : Func} {p q : Tmp} {t u : TypeId} (h : fn.results = #[.cell p t, .cell q u]) (tmps : Array Value) (a b : Addr) (x y : Value) (w : World) (hp : tmps.getD p undef = .pointer (some a)) (hq : tmps.getD q undef = .pointer (some b))
    (hx : (loadVar t a).run P w = .ok x w) (hy : (loadVar u b).run P w = .ok y w) : (results fn tmps).run P w = .ok (.tuple #[x, y]) w := by
  have hp' : tmps[p]?.getD undef = .pointer (some a) := by simpa using hp
  have hq' : tmps[q]?.getD undef = .pointer (some b) := by simpa using hq
  simp [results, h, hp', hq', asAddr, hx, hy, Sem.run_bind]
theorem results_cell3 {fn : Func} {p q r : Tmp} {t u v : TypeId} (h : fn.results = #[.cell p t, .cell q u, .cell r v]) (tmps : Array Value) (a b c : Addr) (x y z : Value) (w : World) (hp : tmps.getD p undef = .pointer (some a)) (hq : tmps.getD q undef = .pointer (some b)) (hr : tmps.getD r undef = .pointer (some c))
    (hx : (loadVar t a).run P w = .ok x w) (hy : (loadVar u b).run P w = .ok y w) (hz : (loadVar v c).run P w = .ok z w) : (results fn tmps).run P w = .ok (.tuple #[x, y, z]) w := by
  have hp' : tmps[p]?.getD undef = .pointer (some a) := by simpa using hp
  have hq' : tmps[q]?.getD undef = .pointer (some b) := by simpa using hq
  have hr' : tmps[r]?.getD undef = .pointer (some c) := by simpa using hr
  simp [results, h, hp', hq', hr', asAddr, hx, hy, hz, Sem.run_bind]
end
end
end Go.Proofs.Ytippbkooaonajaa
