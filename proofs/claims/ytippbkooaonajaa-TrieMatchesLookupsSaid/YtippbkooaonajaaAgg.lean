/-
  Memory words for arrays: a block that is known whole; its load, its store, its slices; results that lie in memory. Nothing of a program is named here.
-/
import Derived.Test.YtippbkooaonajaaGen
import Derived.Test.YtippbkooaonajaaKep
import Derived.Deep.WholeRow
import Derived.Deep.MidRow
namespace Go.Proofs.Ytippbkooaonajaa
open Go.RowKit
set_option linter.unusedVariables false
set_option linter.unusedSimpArgs false

/-- A word as a cell, a list of words as cells. -/
def w32 (n : Nat) : Value := .int .u32 (n : Int)
def w32s (l : List Nat) : List Value := l.map w32
theorem w32s_length (l : List Nat) : (w32s l).length = l.length := by simp [w32s]
theorem w32s_one (l : List Nat) : ∀ u ∈ w32s l, u.oneCell' = true := by
  intro u hu; simp only [w32s, List.mem_map] at hu; obtain ⟨b, _, rfl⟩ := hu; rfl

/-- Block g holds just these cells, of type t. -/
def Blk (w : World) (g : Nat) (t : TypeId) (l : List Value) : Prop := w.heap[g]? = some (.cells l.toArray t (0, 0))

theorem Blk.lt {w : World} {g : Nat} {t : TypeId} {l : List Value} (h : Blk w g t l) : g < w.heap.size := (Array.getElem?_eq_some_iff.1 h).1
theorem Blk.cell {w : World} {g : Nat} {t : TypeId} {l : List Value} (h : Blk w g t l) {j : Nat} {v : Value} (hj : l[j]? = some v) : w.cell? ⟨g, j, none⟩ = some v := by
  rw [cell_of_row w g j _ t _ h]; simpa using hj
theorem Blk.frozen {w : World} {g : Nat} {t : TypeId} {l : List Value} (h : Blk w g t l) (j : Nat) : w.frozen? ⟨g, j, none⟩ = false := frozen_of_row w g j _ t h
theorem Blk.new (w : World) (t : TypeId) (l : List Value) : Blk (w.alloc (.cells l.toArray t)) w.heap.size t l := heap_alloc_new w _
theorem Blk.keep {O : Nat → Prop} {w w' : World} {g : Nat} {t : TypeId} {l : List Value} (h : Blk w g t l) (hk : Keep O w w') (hO : O g) : Blk w' g t l := hk.heap hO h
theorem Blk.past {w w' : World} {g B : Nat} {t : TypeId} {l : List Value} (h : Blk w g t l) (hb : Below B w w') (hg : g < B) : Blk w' g t l := (hb.block g hg).trans h
theorem Blk.drew {w : World} {g : Nat} {t : TypeId} {l : List Value} (h : Blk w g t l) : Blk w.drew g t l := h
theorem Blk.drewN {w : World} {g : Nat} {t : TypeId} {l : List Value} (h : Blk w g t l) (n : Nat) : Blk (w.drewN n) g t l := by
  have := (below_drewN (Below.refl w.heap.size w) n)
  exact h.past this h.lt
theorem Blk.set {w : World} {g : Nat} {t : TypeId} {l : List Value} (h : Blk w g t l) (j : Nat) (v : Value) : Blk (w.setCell ⟨g, j, none⟩ v) g t (l.set j v) := by
  have := heap_setCell_same w g j l.toArray t v h
  unfold Blk
  rw [this]; simp
theorem Blk.cells {w : World} {g : Nat} {t : TypeId} {l : List Value} (h : Blk w g t l) : ∀ j v, l[j]? = some v → w.cell? ⟨g, j, none⟩ = some v := fun _ _ hj => h.cell hj

theorem add_zero_addr (g : Nat) (k : Nat) : (⟨g, 0, none⟩ : Addr).add k = ⟨g, k, none⟩ := by unfold Addr.add; split <;> simp_all
theorem add_addr (g o k : Nat) : (⟨g, o, none⟩ : Addr).add k = ⟨g, o + k, none⟩ := by unfold Addr.add; split <;> simp_all

/-- A block of bytes read as a slice from byte k on. -/
theorem Blk.bs {w : World} {g B : Nat} {t : TypeId} {l : List UInt8} (h : Blk w g t (u8s l)) (hg : g < B) (k : Nat) (hk : k ≤ l.length) (hl : l.length ≤ maxLen) :
    Bs w B (.slice (some ⟨g, k, none⟩) (l.length - k) (l.length - k)) (l.drop k) := by
  have e : (l.drop k).length = l.length - k := by simp
  unfold Bs
  rw [e]
  refine ⟨some ⟨g, k, none⟩, l.length - k, rfl, Nat.le_refl _, by omega, (fun h => by cases h), by simp [u8s], fun a ha h0 => ?_⟩
  obtain rfl : (⟨g, k, none⟩ : Addr) = a := by injection ha
  refine ⟨hg, fun i u hu => ?_⟩
  rw [add_addr]
  refine h.cell ?_
  rw [← hu]
  simp [u8s]
theorem Blk.bs0 {w : World} {g B : Nat} {t : TypeId} {l : List UInt8} (h : Blk w g t (u8s l)) (hg : g < B) (hl : l.length ≤ maxLen) : Bs w B (.slice (some ⟨g, 0, none⟩) l.length l.length) l := by
  have := h.bs hg 0 (Nat.zero_le _) hl
  simpa using this

/-- What the slice holds lies in T. -/
def AtT (T : Nat → Prop) (v : Value) : Prop := ∀ a n c, v = .slice (some a) n c → 0 < n → T a.block
theorem AtT.of_bs {w : World} {B : Nat} {v : Value} {l : List UInt8} (h : Bs w B v l) : AtT (fun b => b < B) v := by
  obtain ⟨A, cap, hv, _, _, _, h4, h5⟩ := h
  intro a n c e hn
  rw [hv] at e
  injection e with e1 e2 e3
  subst e1
  exact (h5 a rfl (by omega)).1
theorem AtT.mono {T T' : Nat → Prop} {v : Value} (h : AtT T v) (ht : ∀ b, T b → T' b) : AtT T' v := fun a n c e hn => ht _ (h a n c e hn)
theorem Bs.keepT {O T : Nat → Prop} {w w' : World} {B B' : Nat} {v : Value} {l : List UInt8} (h : Bs w B v l) (hT : AtT T v) (hk : Keep O w w') (hO : ∀ b, T b → O b) (hB : B ≤ B') : Bs w' B' v l := by
  obtain ⟨A, cap, rfl, h1, h2, h3, h4, h5⟩ := h
  refine ⟨A, cap, rfl, h1, h2, h3, h4, fun a ha h0 => ?_⟩
  obtain ⟨hl, hc⟩ := h5 a ha h0
  refine ⟨by omega, fun i u hu => hk.cell ?_ (hc i u hu)⟩
  rw [add_block]
  subst ha
  exact hO _ (hT a _ _ rfl h0)

section
variable {P : Program}

/-- The load of a whole array. -/
theorem wp_loadA {ops : Array Oper} {rest : List Oper} {o : Oper} {a : Act} {w : World} {Q : Exit → Act → World → Prop} (ty : TypeId) (x : Operand) (ho : o.op = .load ty x) (hgd : o.guard = none)
    (g : Nat) (hx : a.eval x = .pointer (some ⟨g, 0, none⟩)) (t : TypeId) (l : List Value) (n : Nat) (e : TypeId) (hg : Blk w g t l)
    (hu : P.underlying ty = some (.array n e)) (hi : (P.info? ty).map (·.size) = some l.length)
    (h : wpList P ops Q rest (a.put o.dst (.agg l.toArray)) w) : wpList P ops Q (o :: rest) a w :=
  wpList_load_row hgd ty x ho g hx t _ (0, 0) _ hg hu rfl (by simpa using hi) h

theorem run_storeA {w : World} {g : Nat} {t ty : TypeId} {l l' : List Value} (hg : Blk w g t l) (hi : (P.info? ty).map (·.size) = some l'.length) (hl : l.length = l'.length) (h1 : ∀ v ∈ l', v.oneCell' = true) :
    (storeVar ty ⟨g, 0, none⟩ (.agg l'.toArray)).run P w = .ok () (w.setRow g l'.toArray) :=
  run_storeVar_row w g t ty l.toArray l'.toArray hg (by simpa using hi) (by simpa using hl) (all_oneCell_toArray h1)

theorem Blk.setRow {w : World} {g : Nat} {t : TypeId} {l : List Value} (hg : Blk w g t l) (l' : List Value) : Blk (w.setRow g l'.toArray) g t l' := setRow_heap w g _ _ t _ hg
theorem keep_setRow (w : World) (g : Nat) (cs : Array Value) (O : Nat → Prop) (hO : ¬ O g) : Keep O w (w.setRow g cs) :=
  ⟨rfl, rfl, rfl, by simp, fun k hk _ => setRow_other w g k cs (fun e => hO (e ▸ hk))⟩

/-- The store of a whole array. -/
theorem wp_storeA {ops : Array Oper} {rest : List Oper} {o : Oper} {a : Act} {w : World} {Q : Exit → Act → World → Prop} (ty : TypeId) (x y : Operand) (ho : o.op = .store ty x y) (hgd : o.guard = none)
    (g : Nat) (hx : a.eval x = .pointer (some ⟨g, 0, none⟩)) (t : TypeId) (l l' : List Value) (hy : a.eval y = .agg l'.toArray) (hg : Blk w g t l)
    (hi : (P.info? ty).map (·.size) = some l'.length) (hl : l.length = l'.length) (h1 : ∀ v ∈ l', v.oneCell' = true)
    (hdst : o.dst = none) (h : ∀ w', Blk w' g t l' → Keep (fun k => k ≠ g) w w' → wpList P ops Q rest a w') : wpList P ops Q (o :: rest) a w := by
  have hp : a.put o.dst undef = a := by rw [hdst]; rfl
  rw [← hp] at h
  refine wpList_plain hgd fun K hK => ?_
  unfold Oper.wp execOp
  simp only [ho, hx, hy, hp, Instr.storeAt, Instr.sureAddr, Sem.run_bind, Sem.run_pure, Result.andThen_ok, run_storeA hg hi hl h1]
  exact hK _ _ (by have h := h _ (hg.setRow l') (keep_setRow w g _ _ (fun h => h rfl)); rwa [hp] at h ⊢)

/-- A slice of an array from byte k on. -/
theorem run_sliceA (t e : TypeId) (n : Nat) (ht : P.underlying t = some (.array n e)) (hz : (P.info? e).map (·.size) = some 1) (g k : Nat) (q : IntKind) (hk : k < n) (w : World) :
    (Instr.sliceAt t (.pointer (some ⟨g, 0, none⟩)) (some (.int q (k : Int))) none none).run P w = .ok (.slice (some ⟨g, k, none⟩) (n - k) (n - k)) w := by
  have hel : P.elem t = e := by simp [Program.elem, ht]
  have hal : P.arrayLen t = n := by simp [Program.arrayLen, ht]
  have ht' : P.underlying t = some (.array (P.arrayLen t) (P.elem t)) := by rw [hel, hal]; exact ht
  obtain ⟨info, hin, hsz⟩ := Option.map_eq_some_iff.1 hz
  rw [run_sliceAt_array_l (ht := ht') (h0 := by omega) (h1 := by rw [hal]; omega)]
  have hne : ¬ n = k := by omega
  simp [hel, hal, sizeOf, typeInfo, hin, hsz, Result.andThen, slicedAt, hne, add_zero_addr]

theorem run_sliceA0 (t e : TypeId) (n : Nat) (ht : P.underlying t = some (.array n e)) (hz : (P.info? e).map (·.size) = some 1) (g : Nat) (w : World) :
    (Instr.sliceAt t (.pointer (some ⟨g, 0, none⟩)) none none none).run P w = .ok (.slice (some ⟨g, 0, none⟩) n n) w := by
  have hel : P.elem t = e := by simp [Program.elem, ht]
  have hal : P.arrayLen t = n := by simp [Program.arrayLen, ht]
  have ht' : P.underlying t = some (.array (P.arrayLen t) (P.elem t)) := by rw [hel, hal]; exact ht
  obtain ⟨info, hin, hsz⟩ := Option.map_eq_some_iff.1 hz
  rw [run_sliceAt_array_all (ht := ht')]
  simp [hel, hal, sizeOf, typeInfo, hin, hsz, Result.andThen, slicedAt, add_zero_addr]

theorem wp_sliceA {ops : Array Oper} {rest : List Oper} {o : Oper} {a : Act} {w : World} {Q : Exit → Act → World → Prop} (t e : TypeId) (n : Nat) (x lo : Operand) (ho : o.op = .slice t x (some lo) none none) (hgd : o.guard = none)
    (ht : P.underlying t = some (.array n e)) (hz : (P.info? e).map (·.size) = some 1) (g k : Nat) (q : IntKind) (I : Int) (hx : a.eval x = .pointer (some ⟨g, 0, none⟩)) (hlo : a.eval lo = .int q I) (hI : I = (k : Int)) (hk : k < n)
    (h : wpList P ops Q rest (a.put o.dst (.slice (some ⟨g, k, none⟩) (n - k) (n - k))) w) : wpList P ops Q (o :: rest) a w := by
  subst hI
  refine wpList_plain hgd fun K hK => ?_
  unfold Oper.wp execOp
  simp only [ho, hx, hlo, Option.map_none, Option.map_some, Sem.run_bind, Sem.run_pure, Result.andThen_ok, run_sliceA t e n ht hz g k q hk w]
  exact hK _ _ h
theorem wp_sliceA0 {ops : Array Oper} {rest : List Oper} {o : Oper} {a : Act} {w : World} {Q : Exit → Act → World → Prop} (t e : TypeId) (n : Nat) (x : Operand) (ho : o.op = .slice t x none none none) (hgd : o.guard = none)
    (ht : P.underlying t = some (.array n e)) (hz : (P.info? e).map (·.size) = some 1) (g : Nat) (hx : a.eval x = .pointer (some ⟨g, 0, none⟩))
    (h : wpList P ops Q rest (a.put o.dst (.slice (some ⟨g, 0, none⟩) n n)) w) : wpList P ops Q (o :: rest) a w := by
  refine wpList_plain hgd fun K hK => ?_
  unfold Oper.wp execOp
  simp only [ho, hx, Option.map_none, Option.map_some, Sem.run_bind, Sem.run_pure, Result.andThen_ok, run_sliceA0 t e n ht hz g w]
  exact hK _ _ h

/-- An element of an array by value. -/
theorem run_indexA (t e : TypeId) (n : Nat) (k : IntKind) (ht : P.underlying t = some (.array n e)) (he : P.underlying e = some (.int k)) (hz : (P.info? e).map (·.size) = some 1) (cs : Array Value) (q : IntKind) (i : Nat) (hi : i < n) (u : Value) (hu : cs[i]? = some u) (w : World) :
    (Instr.index t (.agg cs) (.int q (i : Int))).run P w = .ok u w := by
  obtain ⟨info, hin, hsz⟩ := Option.map_eq_some_iff.1 hz
  have hagg : (isAgg e).run P w = .ok false w := by
    unfold isAgg
    rw [Sem.run_bind, run_underlying he w]
    simp
  unfold Instr.index
  simp only [asIntOf, Sem.run_bind, Sem.run_pure, Result.andThen_ok, run_underlying ht w]
  have hi' : (0 : Int) ≤ (i : Int) ∧ (i : Int) < (n : Int) := ⟨by omega, by omega⟩
  simp only [hi', and_self, if_true, if_pos, Sem.run_bind, sizeOf, typeInfo, run_program, hin, hsz, Result.andThen_ok, Sem.run_pure, part, hagg, Bool.false_eq_true, if_false, Int.toNat_natCast, Nat.mul_one, hu]

/-- The end of a function whose one result is an array that lies in memory. -/
theorem ret_arr {fn : Func} {p : Tmp} {ty : TypeId} {Q : Ending → World → Prop} {a : Act} {w : World} (hr : fn.results = #[.cell p ty]) (hd : a.defers = []) (g : Nat) (t : TypeId) (l : List Value) (n : Nat) (e : TypeId)
    (hp : a.tmps.getD p undef = .pointer (some ⟨g, 0, none⟩)) (hg : Blk w g t l) (hu : P.underlying ty = some (.array n e)) (hi : (P.info? ty).map (·.size) = some l.length)
    (h : Q (.returned (.agg l.toArray)) w) : bodyPost P fn Q .ret a w :=
  bodyPost_ret (v := .agg l.toArray) (results_cell_row hr _ _ g t _ (0, 0) _ hp hg hu rfl (by simpa using hi)) hd h
end
end Go.Proofs.Ytippbkooaonajaa
