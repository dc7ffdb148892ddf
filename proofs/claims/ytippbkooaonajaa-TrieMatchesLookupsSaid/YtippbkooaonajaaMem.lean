/-
  Memory words for slices that read as a list, and the laws that carry them. Nothing of a program is named here.
-/
import Derived.WalkKit
import Derived.Lib.Hide
import Derived.Maps.AppendAt
import Derived.Deep.AppendLies
import Derived.Deep.Draws
import Derived.ProofKit
import Derived.Laws.BytesArg
namespace Go.Proofs.Ytippbkooaonajaa
open Go.RowKit
set_option linter.unusedVariables false
set_option linter.unusedSimpArgs false

theorem add_block (a : Addr) (n : Nat) : (a.add n).block = a.block := by
  unfold Addr.add; by_cases h : n = 0 <;> simp [h]
theorem add_twice (a : Addr) (i j : Nat) : (a.add i).add j = a.add (i + j) := by
  cases i with
  | zero => simp [Addr.add]
  | succ i => cases j with
    | zero => simp [Addr.add]
    | succ j => simp [Addr.add, Nat.add_assoc]

/-- 'v' is a slice of n elements of 'size' cells; its cells in w are xs; it lies below block B. -/
def Row (w : World) (B size n : Nat) (v : Value) (xs : List Value) : Prop :=
  ∃ (A : Option Addr) (cap : Nat), v = .slice A n cap ∧ n ≤ cap ∧ cap ≤ maxLen ∧ (A = none → cap = 0) ∧ xs.length = n * size ∧
    ∀ a, A = some a → 0 < n → a.block < B ∧ ∀ i u, xs[i]? = some u → w.cell? (a.add i) = some u

theorem Row.carry {w w' : World} {B B' size n : Nat} {v : Value} {xs : List Value} (h : Row w B size n v xs) (hb : Below B w w') (hB : B ≤ B') : Row w' B' size n v xs := by
  obtain ⟨A, cap, rfl, h1, h2, h3, h4, h5⟩ := h
  refine ⟨A, cap, rfl, h1, h2, h3, h4, fun a ha h0 => ?_⟩
  obtain ⟨hl, hc⟩ := h5 a ha h0
  exact ⟨by omega, fun i u hu => (hb.cell (by rw [add_block]; exact hl)).trans (hc i u hu)⟩

theorem Row.mono {w : World} {B B' size n : Nat} {v : Value} {xs : List Value} (h : Row w B size n v xs) (hB : B ≤ B') : Row w B' size n v xs :=
  h.carry (Below.refl _ _) hB

/-- Past a call that leaves all that was there: the size of the heap as the bound. -/
theorem Row.past {w w' : World} {size n : Nat} {v : Value} {xs : List Value} (h : Row w w.heap.size size n v xs) (hb : Below w.heap.size w w') : Row w' w'.heap.size size n v xs :=
  h.carry hb hb.size

theorem Row.of_own {w : World} {base : Nat} {e : TypeId} {size n : Nat} {v : Value} {xs : List Value} (h : w.ownsRow base e size v n xs) : Row w w.heap.size size n v xs := by
  obtain ⟨hl, hv⟩ := h
  rcases hv with ⟨rfl, rfl⟩ | ⟨g, cap, cur, rfl, _, hg, hn, hm, _, htake⟩
  · exact ⟨none, 0, rfl, Nat.le_refl _, by simp [maxLen], fun _ => rfl, hl, fun a ha => by cases ha⟩
  · refine ⟨some ⟨g, 0, none⟩, cap, rfl, hn, hm, (fun h => by cases h), hl, fun a ha _ => ?_⟩
    obtain rfl : (⟨g, 0, none⟩ : Addr) = a := by injection ha
    refine ⟨(Array.getElem?_eq_some_iff.1 hg).1, fun i u hu => ?_⟩
    have hadd : (⟨g, 0, none⟩ : Addr).add i = ⟨g, i, none⟩ := by unfold Addr.add; split <;> simp_all
    rw [hadd, cell_of_row w g i cur e (0, 0) hg]
    rw [← htake, List.getElem?_take] at hu
    split at hu
    · simpa using hu
    · cases hu

theorem Row.nil_ (w : World) (B size : Nat) : Row w B size 0 (.slice none 0 0) [] :=
  ⟨none, 0, rfl, Nat.le_refl _, by simp [maxLen], fun _ => rfl, by simp, fun a ha => by cases ha⟩

/-- The address of element k, and its cells. -/
theorem Row.at_ {w : World} {B size n : Nat} {A : Option Addr} {cap : Nat} {xs : List Value} (h : Row w B size n (.slice A n cap) xs) (hn : 0 < n) :
    ∃ a, A = some a ∧ a.block < B ∧ ∀ i u, xs[i]? = some u → w.cell? (a.add i) = some u := by
  obtain ⟨A', cap', hv, h1, _, h3, _, h5⟩ := h
  injection hv with e1 _ e2
  subst e1 e2
  cases A with
  | none => have := h3 rfl; omega
  | some a => exact ⟨a, rfl, h5 a rfl hn⟩

theorem Row.cap {w : World} {B size n : Nat} {A : Option Addr} {cap : Nat} {xs : List Value} (h : Row w B size n (.slice A n cap) xs) : n ≤ cap := by
  obtain ⟨A', cap', hv, h1, _⟩ := h
  injection hv with e1 _ e2
  subst e1 e2
  exact h1

theorem Row.cells {w : World} {B size n : Nat} {a : Addr} {cap : Nat} {xs : List Value} (h : Row w B size n (.slice (some a) n cap) xs) : ∀ i u, xs[i]? = some u → w.cell? (a.add i) = some u := by
  obtain ⟨A', cap', hv, h1, _, h3, h4, h5⟩ := h
  injection hv with e1 _ e2
  subst e1 e2
  intro i u hu
  have hi := (List.getElem?_eq_some_iff.1 hu).1
  rcases Nat.eq_zero_or_pos n with h0 | h0
  · rw [h4, h0, Nat.zero_mul] at hi; omega
  · exact (h5 a rfl h0).2 i u hu

/-- A cut 'v[lo:hi]' as the model writes it. -/
theorem Row.cut {w : World} {B size n : Nat} {A : Option Addr} {cap lo hi : Nat} {xs : List Value} (h : Row w B size n (.slice A n cap) xs) (hl : lo ≤ hi) (hh : hi ≤ n) :
    Row w B size (hi - lo) (.slice (if cap = lo then A else A.map (·.add (lo * size))) (hi - lo) (cap - lo)) ((xs.drop (lo * size)).take ((hi - lo) * size)) := by
  obtain ⟨A', cap', hv, h1, h2, h3, h4, h5⟩ := h
  injection hv with e1 _ e2
  subst e1 e2
  refine ⟨_, _, rfl, by omega, by omega, ?_, ?_, ?_⟩
  · intro hn
    split at hn
    · omega
    · have : A = none := by cases A <;> simp_all
      have := h3 this; omega
  · rw [List.length_take, List.length_drop, h4, ← Nat.sub_mul]
    apply Nat.min_eq_left
    exact Nat.mul_le_mul_right _ (by omega)
  · intro a ha hpos
    split at ha
    · omega
    · cases A with
      | none => simp at ha
      | some a0 =>
        simp only [Option.map_some, Option.some.injEq] at ha
        subst ha
        refine ⟨by rw [add_block]; exact (h5 a0 rfl (by omega)).1, fun i u hu => ?_⟩
        rw [add_twice]
        refine (h5 a0 rfl (by omega)).2 _ u ?_
        rw [List.getElem?_take] at hu
        split at hu
        · rw [← hu, List.getElem?_drop]
        · cases hu

/-- A byte as a cell, a list of bytes as cells. -/
def u8 (b : UInt8) : Value := .int .u8 (b.toNat : Int)
def u8s (l : List UInt8) : List Value := l.map u8
theorem u8s_length (l : List UInt8) : (u8s l).length = l.length := by simp [u8s]
theorem u8s_append (l m : List UInt8) : u8s (l ++ m) = u8s l ++ u8s m := by simp [u8s]
theorem u8s_one (l : List UInt8) : ∀ u ∈ u8s l, u.oneCell' = true := by
  intro u hu; simp only [u8s, List.mem_map] at hu; obtain ⟨b, _, rfl⟩ := hu; rfl

/-- A string's bytes. -/
def str (l : List UInt8) : Value := .string ⟨l.toArray⟩

/-- A slice of bytes that reads l. -/
def Bs (w : World) (B : Nat) (v : Value) (l : List UInt8) : Prop := Row w B 1 l.length v (u8s l)

theorem Bs.past {w w' : World} {v : Value} {l : List UInt8} (h : Bs w w.heap.size v l) (hb : Below w.heap.size w w') : Bs w' w'.heap.size v l := Row.past h hb
theorem Bs.carry {w w' : World} {B B' : Nat} {v : Value} {l : List UInt8} (h : Bs w B v l) (hb : Below B w w') (hB : B ≤ B') : Bs w' B' v l := Row.carry h hb hB
theorem Bs.nil_ (w : World) (B : Nat) : Bs w B (.slice none 0 0) [] := Row.nil_ w B 1
theorem Bs.of_own {w : World} {base : Nat} {e : TypeId} {v : Value} {l : List UInt8} (h : w.ownsRow base e 1 v l.length (u8s l)) : Bs w w.heap.size v l := Row.of_own h

/-- The conversion to a string. -/
theorem Bs.conv {P : Program} {w : World} {B : Nat} {v : Value} {l : List UInt8} (h : Bs w B v l) (src dst e : TypeId) (hs : P.underlying src = some (.slice e)) (he : P.underlying e = some (.int .u8)) (hd : P.underlying dst = some .string) :
    (convert src dst v).run P w = .ok (str l) w := by
  have h0 := h
  obtain ⟨A, cap, rfl, _, _, h3, _, h5⟩ := h
  cases A with
  | none =>
    have hc := h3 rfl
    subst hc
    have : l = [] := by cases l <;> simp_all
    subst this
    exact run_convert_bytes_nil w src e hs he _ _ dst hd
  | some a =>
    rw [run_convert_bytes_string w src dst e _ _ cap hs he hd]
    have hl : (loadCells a l.length).run P w = .ok ((l.map fun b => (b.toNat : Int)).map (Value.int .u8)).toArray w := by
      have := run_loadCells_list (P := P) w a (u8s l) (Row.cells h0)
      rw [u8s_length] at this
      rw [this]; simp [u8s, u8]
    rw [run_bytesToString w a l.length cap _ hl, foldl_push_bytes]
    congr 2
    have hid : ((fun n : Int => UInt8.ofNat n.toNat) ∘ fun b : UInt8 => (b.toNat : Int)) = id := by funext b; simp
    simp [ByteArray.empty, ByteArray.emptyWithCapacity, hid]
    rfl

/-! ### Laws of the walk over slices that read as a list -/
section
variable {P : Program}

theorem run_cut {w : World} {B size n : Nat} {A : Option Addr} {cap : Nat} {xs : List Value} (t e : TypeId) (ht : P.underlying t = some (.slice e)) (hz : (P.info? e).map (·.size) = some size)
    (hr : Row w B size n (.slice A n cap) xs) (lo hi : Option Value) (i k : Nat) (hlo : (lo = none ∧ i = 0) ∨ ∃ q I, lo = some (.int q I) ∧ I = (i : Int)) (hhi : (hi = none ∧ i + k = n) ∨ ∃ q I, hi = some (.int q I) ∧ I = ((i + k : Nat) : Int))
    (hj : i + k ≤ n) :
    ∃ A' cap', (Instr.sliceAt t (.slice A n cap) lo hi none).run P w = .ok (.slice A' k cap') w ∧ Row w B size k (.slice A' k cap') ((xs.drop (i * size)).take (k * size)) := by
  obtain ⟨j, hjk⟩ : ∃ j, j = i + k := ⟨_, rfl⟩
  have hij : i ≤ j := by omega
  rw [← hjk] at hhi hj
  obtain rfl : k = j - i := by omega
  clear hjk
  have hel : P.elem t = e := by simp [Program.elem, ht]
  have ht' : P.underlying t = some (.slice (P.elem t)) := by rw [hel]; exact ht
  obtain ⟨info, hin, hsz⟩ := Option.map_eq_some_iff.1 hz
  have hcut := hr.cut hij hj
  obtain ⟨A', cap', hv, h1, h2, h3, h4, h5⟩ := hr
  injection hv with e1 _ e2
  subst e1 e2
  have hrun : (Instr.sliceAt t (.slice A n cap) lo hi none).run P w = .ok (sliced A i j cap size) w := by
    rw [run_sliceAt_slice (h := ht')]
    rcases hlo with ⟨rfl, rfl⟩ | ⟨k, I, rfl, rfl⟩ <;> rcases hhi with ⟨rfl, rfl⟩ | ⟨k', I', rfl, rfl⟩
    · rw [run_slice_all (ht := ht')]; simp [hel, sizeOf, typeInfo, hin, hsz, Result.andThen]
    · rw [run_slice_h (ht := ht') (h0 := by omega) (h2 := by omega)]; simp [hel, sizeOf, typeInfo, hin, hsz, Result.andThen]
    · rw [run_slice_l (ht := ht') (h0 := by omega) (h1 := by omega)]; simp [hel, sizeOf, typeInfo, hin, hsz, Result.andThen]
    · rw [run_slice_lh (ht := ht') (h0 := by omega) (h1 := by omega) (h2 := by omega)]; simp [hel, sizeOf, typeInfo, hin, hsz, Result.andThen]
  exact ⟨_, _, hrun, hcut⟩

/-- 'x[lo:hi]': the value is one and the same in every world. -/
theorem run_cut_all {size n k i : Nat} {A : Option Addr} {cap : Nat} (t e : TypeId) (ht : P.underlying t = some (.slice e)) (hz : (P.info? e).map (·.size) = some size)
    (lo hi : Option Value) (hlo : (lo = none ∧ i = 0) ∨ ∃ q I, lo = some (.int q I) ∧ I = (i : Int)) (hhi : (hi = none ∧ i + k = n) ∨ ∃ q I, hi = some (.int q I) ∧ I = ((i + k : Nat) : Int))
    (hj : i + k ≤ n) (hn : n ≤ cap) :
    ∃ A' cap', (∀ w, (Instr.sliceAt t (.slice A n cap) lo hi none).run P w = .ok (.slice A' k cap') w) ∧
      ∀ (w : World) (B : Nat) (xs : List Value), Row w B size n (.slice A n cap) xs → Row w B size k (.slice A' k cap') ((xs.drop (i * size)).take (k * size)) := by
  obtain ⟨j, hjk⟩ : ∃ j, j = i + k := ⟨_, rfl⟩
  have hij : i ≤ j := by omega
  rw [← hjk] at hhi hj
  obtain rfl : k = j - i := by omega
  clear hjk
  have hel : P.elem t = e := by simp [Program.elem, ht]
  have ht' : P.underlying t = some (.slice (P.elem t)) := by rw [hel]; exact ht
  obtain ⟨info, hin, hsz⟩ := Option.map_eq_some_iff.1 hz
  refine ⟨if cap = i then A else A.map (·.add (i * size)), cap - i, fun w => ?_, fun w B xs hr => hr.cut hij hj⟩
  have hrun : (Instr.sliceAt t (.slice A n cap) lo hi none).run P w = .ok (sliced A i j cap size) w := by
    rw [run_sliceAt_slice (h := ht')]
    rcases hlo with ⟨rfl, rfl⟩ | ⟨q, I, rfl, rfl⟩ <;> rcases hhi with ⟨rfl, rfl⟩ | ⟨q', I', rfl, rfl⟩
    · rw [run_slice_all (ht := ht')]; simp [hel, sizeOf, typeInfo, hin, hsz, Result.andThen]
    · rw [run_slice_h (ht := ht') (h0 := by omega) (h2 := by omega)]; simp [hel, sizeOf, typeInfo, hin, hsz, Result.andThen]
    · rw [run_slice_l (ht := ht') (h0 := by omega) (h1 := by omega)]; simp [hel, sizeOf, typeInfo, hin, hsz, Result.andThen]
    · rw [run_slice_lh (ht := ht') (h0 := by omega) (h1 := by omega) (h2 := by omega)]; simp [hel, sizeOf, typeInfo, hin, hsz, Result.andThen]
  exact hrun

/-- An operation whose run is known, guarded or not. -/
theorem wp_run {ops : Array Oper} {rest : List Oper} {o : Oper} {a : Act} {Q : Exit → Act → World → Prop} {w w' : World} {v : Value} (hw : Region.wanted o (yielded ops a.tmps) = true)
    (hr : (execOp a.eval o).run P w = .ok (.value v) w') (h : wpList P ops Q rest (a.put o.dst v) w') : wpList P ops Q (o :: rest) a w := by
  simp only [wpList, hw, if_true]
  left
  unfold Oper.wp
  rw [hr]
  exact h

theorem exec_slice {o : Oper} {a : Act} {w : World} {t : TypeId} {x : Operand} {lo hi : Option Operand} {v : Value} (ho : o.op = .slice t x lo hi none)
    (h : (Instr.sliceAt t (a.eval x) (lo.map a.eval) (hi.map a.eval) none).run P w = .ok v w) : (execOp a.eval o).run P w = .ok (.value v) w := by
  unfold execOp
  simp only [ho, Option.map_none, Sem.run_bind, Sem.run_pure, Result.andThen_ok, h]

/-- 'x[lo:hi]' -/
theorem wp_cut {ops : Array Oper} {rest : List Oper} {o : Oper} {a : Act} {Q : Exit → Act → World → Prop} {w : World} {size : Nat} (t e : TypeId) (ht : P.underlying t = some (.slice e)) (hz : (P.info? e).map (·.size) = some size)
    (x : Operand) (lo hi : Option Operand) (ho : o.op = .slice t x lo hi none) (hgd : o.guard = none) {B n : Nat} {A : Option Addr} {cap : Nat} {xs : List Value} (hx : a.eval x = .slice A n cap) (hr : Row w B size n (.slice A n cap) xs)
    (i k : Nat) (hlo : (lo.map a.eval = none ∧ i = 0) ∨ ∃ q I, lo.map a.eval = some (.int q I) ∧ I = (i : Int)) (hhi : (hi.map a.eval = none ∧ i + k = n) ∨ ∃ q I, hi.map a.eval = some (.int q I) ∧ I = ((i + k : Nat) : Int))
    (hj : i + k ≤ n)
    (h : ∀ A' cap', Row w B size k (.slice A' k cap') ((xs.drop (i * size)).take (k * size)) → wpList P ops Q rest (a.put o.dst (.slice A' k cap')) w) : wpList P ops Q (o :: rest) a w := by
  refine wpList_plain hgd fun K hK => ?_
  obtain ⟨A', cap', hrun, hrow⟩ := run_cut (P := P) t e ht hz hr (lo.map a.eval) (hi.map a.eval) i k hlo hhi hj
  unfold Oper.wp execOp
  simp only [ho, hx, Option.map_none, Sem.run_bind, Sem.run_pure, Result.andThen_ok, hrun]
  exact hK _ _ (h A' cap' hrow)

/-- '&x[i]' of a slice whose elements are one cell each: the address, whatever it is, holds the element. -/
theorem wp_at {ops : Array Oper} {rest : List Oper} {o : Oper} {a : Act} {Q : Exit → Act → World → Prop} {w : World} (t e : TypeId) (ht : P.underlying t = some (.slice e)) (hz : (P.info? e).map (·.size) = some 1)
    (x y : Operand) (ho : o.op = .indexAddr t x y) (hgd : o.guard = none) {B n : Nat} {v : Value} {xs : List Value} (hx : a.eval x = v) (hr : Row w B 1 n v xs)
    (k : IntKind) (I : Int) (i : Nat) (u : Value) (hy : a.eval y = .int k I) (hI : I = (i : Int)) (hu : xs[i]? = some u)
    (h : ∀ p : Addr, p.block < B → w.cell? p = some u → wpList P ops Q rest (a.put o.dst (.pointer (some p))) w) : wpList P ops Q (o :: rest) a w := by
  refine wpList_plain hgd fun K hK => ?_
  have hel : P.elem t = e := by simp [Program.elem, ht]
  have ht' : P.underlying t = some (.slice (P.elem t)) := by rw [hel]; exact ht
  obtain ⟨info, hin, hsz⟩ := Option.map_eq_some_iff.1 hz
  obtain ⟨A, cap, rfl, h1, h2, h3, h4, h5⟩ := hr
  have hi : i < n := by have := (List.getElem?_eq_some_iff.1 hu).1; omega
  cases A with
  | none => have := h3 rfl; omega
  | some ad =>
    subst hI
    unfold Oper.wp execOp
    simp only [ho, hx, hy, Sem.run_bind, Sem.run_pure, run_indexAt_slice (h := ht'), hel, sizeOf, typeInfo, run_program, hin, hsz, Result.andThen_ok]
    rw [if_pos ⟨by omega, by omega⟩]
    have hb := (h5 ad rfl (by omega)).1
    exact hK _ _ (h _ (by simp [add_block, hb]) ((h5 ad rfl (by omega)).2 _ u (by simpa using hu)))
end

end Go.Proofs.Ytippbkooaonajaa
