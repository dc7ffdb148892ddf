/-
  Small laws of the walk that many packages' texts use: slices of bytes cut and indexed at a known or unknown address; what stands past a call.
-/
import Derived.Test.YtippbkooaonajaaByt
import Derived.Outline
import Derived.Deep.QuietTactic
import Derived.BigQuiet
namespace Go.Proofs.Ytippbkooaonajaa
open Go.RowKit
set_option linter.unusedVariables false
set_option linter.unusedSimpArgs false

theorem Bs.at_ {w : World} {B : Nat} {v : Value} {l : List UInt8} (h : Bs w B v l) (k : Nat) (c : UInt8) (hk : l[k]? = some c) : (u8s l)[k]? = some (.int .u8 (c.toNat : Int)) := by simp [u8s, hk, u8]

theorem Bs.drewN {w : World} {B : Nat} {v : Value} {l : List UInt8} (h : Bs w B v l) (m : Nat) : Bs (w.drewN m) B v l := by
  obtain ⟨A, cap, h1, h2, h3, h4, h5, h6⟩ := h
  exact ⟨A, cap, h1, h2, h3, h4, h5, fun a ha h0 => ⟨(h6 a ha h0).1, fun i u hu => by simpa using (h6 a ha h0).2 i u hu⟩⟩

/-- 'x[:k]': the same address. -/
theorem wp_to {ops : Array Oper} {rest : List Oper} {o : Oper} {a : Act} {Q : Exit → Act → World → Prop} {w : World}
    (x hi : Operand) (ho : o.op = .slice 60 x none (some hi) none) (hgd : o.guard = none) {n : Nat} {A : Option Addr} {cap : Nat} (hx : a.eval x = .slice A n cap)
    (k : Nat) (q : IntKind) (I : Int) (hhi : a.eval hi = .int q I) (hI : I = (k : Int)) (hk : k ≤ n) (hn : n ≤ cap)
    (h : wpList Try.prog ops Q rest (a.put o.dst (.slice A k cap)) w) : wpList Try.prog ops Q (o :: rest) a w := by
  subst hI
  have ht := Try.underlying60
  have hel : Try.prog.elem 60 = 5 := by simp [Program.elem, ht]
  have ht' : Try.prog.underlying 60 = some (.slice (Try.prog.elem 60)) := by rw [hel]; exact ht
  obtain ⟨info, hin, hsz⟩ := Option.map_eq_some_iff.1 size_u8
  have hs : sliced A 0 k cap 1 = .slice A k cap := by
    have : A.map (fun y => y.add 0) = A := by cases A <;> simp [Addr.add]
    unfold sliced; simp [this]
  have hrun : (Instr.sliceAt 60 (.slice A n cap) none (some (.int q k)) none).run Try.prog w = .ok (.slice A k cap) w := by
    rw [run_sliceAt_slice (h := ht'), run_slice_h (ht := ht') (h0 := by omega) (h2 := by omega)]
    simp [hel, sizeOf, typeInfo, hin, hsz, Result.andThen, hs]
  refine wpList_plain hgd fun K hK => ?_
  unfold Oper.wp execOp
  simp only [ho, hx, hhi, Option.map_none, Option.map_some, Sem.run_bind, Sem.run_pure, Result.andThen_ok, hrun]
  exact hK _ _ h

theorem Bs.to {w : World} {B : Nat} {A : Option Addr} {cap : Nat} {p m : List UInt8} (h : Bs w B (.slice A (p ++ m).length cap) (p ++ m)) : Bs w B (.slice A p.length cap) p := by
  obtain ⟨A', cap', hv, h1, h2, h3, h4, h5⟩ := h
  injection hv with e1 _ e2
  subst e1 e2
  rw [List.length_append] at h1
  refine ⟨A, cap, rfl, by omega, h2, h3, by simp [u8s_length], fun a ha h0 => ⟨(h5 a ha (by rw [List.length_append]; omega)).1, fun i u hu => (h5 a ha (by rw [List.length_append]; omega)).2 i u ?_⟩⟩
  have hi := (List.getElem?_eq_some_iff.1 hu).1
  rw [u8s_append, List.getElem?_append_left hi]; exact hu

theorem quiet_add_same {P : Program} {f : FuncId} {args : Array Value} {w : World} {a n : Nat} {v : Value}
    (h : Calls P f args (w.drewN (a + n)) fun e w' => e = .returned v ∧ w' = w.drewN (a + n)) :
    Calls P f args (w.drewN (a + n)) fun e w'' => e = .returned v ∧ ∃ m, w'' = w.drewN (a + m) :=
  h.mono fun _ _ ⟨he, hm⟩ => ⟨he, n, hm⟩

/-- '&x[i]' of a slice of one-cell elements at a known address. -/
theorem exec_ix (t e : TypeId) (ht : Try.prog.underlying t = some (.slice e)) (hz : (Try.prog.info? e).map (·.size) = some 1) {o : Oper} {a : Act} (w : World) {x y : Operand} (ho : o.op = .indexAddr t x y) {ad : Addr} {n cap : Nat} (hx : a.eval x = .slice (some ad) n cap)
    (k : IntKind) (I : Int) (i : Nat) (hy : a.eval y = .int k I) (hI : I = (i : Int)) (hi : i < n) {q : Addr} (hq : q = ad.add i) : (execOp a.eval o).run Try.prog w = .ok (.value (.pointer (some q))) w := by
  subst hI hq
  have hel : Try.prog.elem t = e := by simp [Program.elem, ht]
  have ht' : Try.prog.underlying t = some (.slice (Try.prog.elem t)) := by rw [hel]; exact ht
  obtain ⟨info, hin, hsz⟩ := Option.map_eq_some_iff.1 hz
  unfold execOp
  simp only [ho, hx, hy, Sem.run_bind, Sem.run_pure, run_indexAt_slice (h := ht'), hel, sizeOf, typeInfo, run_program, hin, hsz, Result.andThen_ok]
  rw [if_pos ⟨by omega, by omega⟩]
  simp [Sem.run_pure]

theorem cell_past {w w' : World} {p : Addr} {u : Value} (h : w.cell? p = some u) (hb : Below w.heap.size w w') : w'.cell? p = some u := by
  have hlt : p.block < w.heap.size := by
    refine Classical.byContradiction fun hn => ?_
    unfold World.cell? at h
    rw [Array.getElem?_eq_none (by omega)] at h
    simp at h
  exact (hb.cell hlt).trans h

theorem below_drewN {B : Nat} {w w' : World} (h : Below B w w') : ∀ n : Nat, Below B w (w'.drewN n)
  | 0 => h
  | n + 1 => (below_drewN h n).drew

/-- The slice behind the first k bytes. -/
def behind (A : Option Addr) (n cap k : Nat) : Value := .slice (if cap = k then A else A.map (·.add k)) (n - k) (cap - k)

/-- 'x[k:]': where it lies. -/
theorem exec_from {o : Oper} {a : Act} (w : World) {x lo : Operand} (ho : o.op = .slice 60 x (some lo) none none) {n cap : Nat} {A : Option Addr} (hx : a.eval x = .slice A n cap)
    (k : Nat) (q : IntKind) (I : Int) (hlo : a.eval lo = .int q I) (hI : I = (k : Int)) (hk : k ≤ n) (hn : n ≤ cap) {v : Value} (hv : v = behind A n cap k) :
    (execOp a.eval o).run Try.prog w = .ok (.value v) w := by
  subst hI hv
  have ht := Try.underlying60
  have hel : Try.prog.elem 60 = 5 := by simp [Program.elem, ht]
  have ht' : Try.prog.underlying 60 = some (.slice (Try.prog.elem 60)) := by rw [hel]; exact ht
  obtain ⟨info, hin, hsz⟩ := Option.map_eq_some_iff.1 size_u8
  have hrun : (Instr.sliceAt 60 (.slice A n cap) (some (.int q k)) none none).run Try.prog w = .ok (sliced A k n cap 1) w := by
    rw [run_sliceAt_slice (h := ht'), run_slice_l (ht := ht') (h0 := by omega) (h1 := by omega)]
    simp [hel, sizeOf, typeInfo, hin, hsz, Result.andThen]
  unfold execOp
  simp only [ho, hx, hlo, Option.map_none, Option.map_some, Sem.run_bind, Sem.run_pure, Result.andThen_ok, hrun]
  simp [sliced, behind, Sem.run_pure]

/-- 'x[:k]' -/
theorem exec_to {o : Oper} {a : Act} (w : World) {x hi : Operand} (ho : o.op = .slice 60 x none (some hi) none) {n : Nat} {A : Option Addr} {cap : Nat} (hx : a.eval x = .slice A n cap)
    (k : Nat) (q : IntKind) (I : Int) (hhi : a.eval hi = .int q I) (hI : I = (k : Int)) (hk : k ≤ n) (hn : n ≤ cap) :
    (execOp a.eval o).run Try.prog w = .ok (.value (.slice A k cap)) w := by
  subst hI
  have ht := Try.underlying60
  have hel : Try.prog.elem 60 = 5 := by simp [Program.elem, ht]
  have ht' : Try.prog.underlying 60 = some (.slice (Try.prog.elem 60)) := by rw [hel]; exact ht
  obtain ⟨info, hin, hsz⟩ := Option.map_eq_some_iff.1 size_u8
  have hs : sliced A 0 k cap 1 = .slice A k cap := by
    have : A.map (fun y => y.add 0) = A := by cases A <;> simp [Addr.add]
    unfold sliced; simp [this]
  have hrun : (Instr.sliceAt 60 (.slice A n cap) none (some (.int q k)) none).run Try.prog w = .ok (.slice A k cap) w := by
    rw [run_sliceAt_slice (h := ht'), run_slice_h (ht := ht') (h0 := by omega) (h2 := by omega)]
    simp [hel, sizeOf, typeInfo, hin, hsz, Result.andThen, hs]
  unfold execOp
  simp only [ho, hx, hhi, Option.map_none, Option.map_some, Sem.run_bind, Sem.run_pure, Result.andThen_ok, hrun]

theorem Bs.take_ {w : World} {B : Nat} {A : Option Addr} {cap : Nat} {l : List UInt8} (h : Bs w B (.slice A l.length cap) l) (k : Nat) (hk : k ≤ l.length) : Bs w B (.slice A k cap) (l.take k) := by
  have hl : (l.take k).length = k := by simp; omega
  have h2 : Bs w B (.slice A (l.take k ++ l.drop k).length cap) (l.take k ++ l.drop k) := by rw [List.take_append_drop]; exact h
  have h3 := h2.to
  rw [hl] at h3
  exact h3

theorem Bs.behind {w : World} {B : Nat} {A : Option Addr} {cap : Nat} {l : List UInt8} (h : Bs w B (.slice A l.length cap) l) (k : Nat) (hk : k ≤ l.length) : Bs w B (behind A l.length cap k) (l.drop k) := by
  have h1 := Row.cut h hk (Nat.le_refl _)
  unfold Bs
  rw [List.length_drop]
  have e : (List.take ((l.length - k) * 1) (List.drop (k * 1) (u8s l))) = u8s (l.drop k) := by
    rw [Nat.mul_one, Nat.mul_one]
    unfold u8s
    rw [← List.map_drop, List.take_of_length_le (by simp)]
  rw [e] at h1
  simpa [Go.Proofs.Ytippbkooaonajaa.behind] using h1

/-- '&x[i]', guarded or not. -/
theorem wp_atg {ops : Array Oper} {rest : List Oper} {o : Oper} {a : Act} {Q : Exit → Act → World → Prop} {w : World} (t e : TypeId) (ht : Try.prog.underlying t = some (.slice e)) (hz : (Try.prog.info? e).map (·.size) = some 1)
    (x y : Operand) (ho : o.op = .indexAddr t x y) (hw : Region.wanted o (yielded ops a.tmps) = true) {B n : Nat} {v : Value} {xs : List Value} (hx : a.eval x = v) (hr : Row w B 1 n v xs)
    (k : IntKind) (I : Int) (i : Nat) (u : Value) (hy : a.eval y = .int k I) (hI : I = (i : Int)) (hu : xs[i]? = some u)
    (h : ∀ p : Addr, p.block < B → w.cell? p = some u → wpList Try.prog ops Q rest (a.put o.dst (.pointer (some p))) w) : wpList Try.prog ops Q (o :: rest) a w := by
  obtain ⟨A, cap, rfl, h1, h2, h3, h4, h5⟩ := hr
  have hi : i < n := by have := (List.getElem?_eq_some_iff.1 hu).1; omega
  cases A with
  | none => have := h3 rfl; omega
  | some ad =>
    refine wp_run hw (exec_ix t e ht hz w ho hx k I i hy hI hi rfl) (h _ ?_ ?_)
    · rw [add_block]; exact (h5 ad rfl (by omega)).1
    · exact (h5 ad rfl (by omega)).2 _ u hu

theorem cut_bytes {w : World} {B : Nat} {v : Value} {b : List UInt8} {i k : Nat} (h : Row w B 1 k v (((u8s b).drop (i * 1)).take (k * 1))) (hk : i + k ≤ b.length) : Bs w B v ((b.drop i).take k) := by
  have hl : ((b.drop i).take k).length = k := by simp; omega
  unfold Bs
  rw [hl]
  rw [Nat.mul_one, Nat.mul_one] at h
  unfold u8s at h ⊢
  rw [List.map_take, List.map_drop]
  exact h
end Go.Proofs.Ytippbkooaonajaa
