/-
  Package trie: stored; own lists of prefixes with values; Entries.
-/
import Derived.Test.YtippbkooaonajaaTtH
namespace Go.Proofs.Ytippbkooaonajaa
open Go.RowKit Go.Shelf Dg Tr
attribute [local go_sem] Oper.semAt_some
set_option linter.unusedVariables false
set_option linter.unusedSimpArgs false

theorem info_vis : (Try.prog.info? 81).map (·.size) = some 1 := by kernel_rfl
theorem stored_any (A : Option Addr) (n cap : Nat) (a : Int) (w : World) : Calls Try.prog 46 #[.agg #[.slice A n cap], .int .i64 a] w fun e w' =>
    e = .returned (.func (.func 52) #[] #[.pointer (some ⟨w.heap.size, 0, none⟩), .pointer (some ⟨w.heap.size + 1, 0, none⟩)]) ∧ w' = (w.alloc (.cells #[.slice A n cap] 24)).alloc (.cells #[.int .i64 a] 3) := by
  go_enter Try.func46, Try.ntmps46
  go_wp2
  go_ret
  exact ⟨rfl, rfl⟩

set_option maxRecDepth 100000 in
set_option maxHeartbeats 2000000 in
theorem stored_gives (T : Nat → Prop) (gt gn n cap : Nat) (ad : Addr) (F : List Int) (E : Nat → Nat) (f a : Nat) (W : World) (hgn : T gn) (hcn : W.cell? ⟨gn, 0, none⟩ = some (.int .i64 (a : Int))) (hR : Rd T gt n cap ad F W) (ht : Tree F n E) (ha : a < n) (hf : 15 ≤ f + E a) (hn : n ≤ 10000) (hTW : ∀ b, T b → b < W.heap.size) :
    GivesV Try.prog 52 #[.pointer (some ⟨gt, 0, none⟩), .pointer (some ⟨gn, 0, none⟩)] (entA F f a []) T W := by
  intro l J Jx h1 h2 hx h3 M0 hJ0 hTM
  refine callsIn_of_wp Try.func52 rfl trivial ?_ rfl
  simp only [Try.ntmps52, List.size_toArray, List.length_cons, List.length_nil, Nat.reduceAdd, Nat.reduceSub, Array.replicate_succ, Array.replicate_zero, List.push_toArray, List.append_toArray, List.nil_append, List.cons_append]
  obtain ⟨W0, hW0⟩ : ∃ W0, W0 = (W.alloc (.cells #[.func (.yield l) #[] #[]] 80)).alloc (.cells #[.nilFunc] 81) := ⟨_, rfl⟩
  have hs0 : W0.heap.size = W.heap.size + 2 := by rw [hW0]; simp
  have b0 : Below W.heap.size W W0 := by rw [hW0]; exact ((Below.refl _ _).alloc (Nat.le_refl _) _).alloc (by simp) _
  have cy0 : Blk W0 W.heap.size 80 [.func (.yield l) #[] #[]] := by rw [hW0]; exact (Blk.newAt _ _ [_] _ rfl).alloc _
  have cv0 : Blk W0 (W.heap.size + 1) 81 [.nilFunc] := by rw [hW0]; exact Blk.newAt _ _ [_] _ (by simp)
  have HW0 := Lib.hid hW0
  have HC := Lib.hid (And.intro cy0 cv0)
  have HT := Lib.hid ht
  have HR := Lib.hid hR
  have HTM := Lib.hid hTM
  have HCN := Lib.hid hcn
  clear hW0 cy0 cv0 ht hR hTM hcn
  gi_wp2_with (first | (rw [← HW0.out]; refine wpi_storeC 81 (.tmp 4) (.tmp 5) rfl rfl (W.heap.size + 1) 0 rfl 81 [.nilFunc] (vis gt W.heap.size (W.heap.size + 1)) rfl rfl rfl HC.out.2 (by simp) info_vis rfl ?_; intro w1 hv1 k1; have b01 : Below W.heap.size W w1 := b0.trans (k1.below (fun q hq => by omega) b0.size); have cv1 : w1.cell? ⟨W.heap.size + 1, 0, none⟩ = some (.func (.func 53) #[] #[.pointer (some ⟨gt, 0, none⟩), .pointer (some ⟨W.heap.size, 0, none⟩), .pointer (some ⟨W.heap.size + 1, 0, none⟩)]) := hv1.cell (j := 0) rfl; have cn1 := cell_past HCN.out b01))
  have hs1 : W0.heap.size ≤ w1.heap.size := k1.size
  have cy1 := (HC.out.1.keep k1 (by omega)).cell (j := 0) rfl
  have hcall := visit_any l J Jx (entA F f a []) (fun b => T b ∨ b = W.heap.size ∨ b = W.heap.size + 1) gt W.heap.size (W.heap.size + 1) n cap ad F E h1 h2 hx h3 HT.out hn (Or.inr (Or.inl rfl)) (Or.inr (Or.inr rfl)) f a [] 0 M0 w1 ha hf (by simp) (h2 M0 0 W w1 hJ0 b01) (fun j x hj => by rw [Nat.zero_add]; exact hj)
    (by
      have h := HR.out.keep (Keep.of_below (O := fun _ => True) b01) (fun _ _ => trivial)
      exact ⟨Or.inl h.box, Or.inl h.row, h.trie, h.cells⟩) cy1 cv1 (fun b hb h => by
      rcases hb with hb | rfl | rfl
      · exact HTM.out b hb h
      · have := h1 M0 0 W hJ0 _ h; omega
      · have := h1 M0 0 W hJ0 _ h; omega) (fun b hb => by
      rcases hb with hb | rfl | rfl
      · have := hTW b hb; omega
      · omega
      · omega)
  refine ⟨trivial, rfl, hcall.mono ?_⟩
  rintro e w2 (⟨rfl, M2, hJ2, hM2, hk2⟩ | ⟨rfl, hJx⟩)
  · rw [Nat.zero_add] at hJ2
    clear hcall cy1 cv1 cn1
    gi_wp2_with fail
    go_end0
    exact ⟨⟨_, rfl⟩, Or.inl ⟨M2, hJ2⟩⟩
  · clear hcall cy1 cv1 cn1
    gi_wp2_with fail
    go_end0
    exact ⟨⟨_, rfl⟩, Or.inr hJx⟩

/-! ### Own lists of prefixes with values -/
def pvc (x : Str × Int) : List Value := [str x.1, .int .i64 x.2]
def pvs (l : List (Str × Int)) : List Value := l.flatMap pvc
theorem pvs_len (l : List (Str × Int)) : (pvs l).length = l.length * 2 := by
  induction l with
  | nil => rfl
  | cons x l ih => simp [pvs, pvc] at ih ⊢; omega
theorem pvs_append (l m : List (Str × Int)) : pvs (l ++ m) = pvs l ++ pvs m := by simp [pvs]
theorem pvs_one (l : List (Str × Int)) : ∀ u ∈ pvs l, u.oneCell' = true := by
  intro u hu
  simp only [pvs, pvc, List.mem_flatMap, List.mem_cons, List.not_mem_nil, or_false] at hu
  obtain ⟨x, _, rfl | rfl⟩ := hu <;> rfl
theorem pvs_get : ∀ {l : List (Str × Int)} {i : Nat} {x : Str × Int}, l[i]? = some x → (pvs l)[2 * i]? = some (str x.1) ∧ (pvs l)[2 * i + 1]? = some (.int .i64 x.2)
  | [], i, x, h => by cases h
  | y :: l, 0, x, h => by
    simp only [List.getElem?_cons_zero, Option.some.injEq] at h
    subst h
    exact ⟨rfl, rfl⟩
  | y :: l, i + 1, x, h => by
    simp only [List.getElem?_cons_succ] at h
    obtain ⟨h1, h2⟩ := pvs_get h
    have e : pvs (y :: l) = str y.1 :: .int .i64 y.2 :: pvs l := rfl
    rw [e, show 2 * (i + 1) = 2 * i + 1 + 1 by omega]
    exact ⟨by simpa using h1, by simpa using h2⟩
def OwnP (w : World) (base : Nat) (v : Value) (l : List (Str × Int)) : Prop := w.ownsRow base 45 2 v l.length (pvs l)
/-- A list of prefixes with values that is read. -/
def Pl (w : World) (B : Nat) (v : Value) (l : List (Str × Int)) : Prop := Row w B 2 l.length v (pvs l)
theorem info_pv : (Try.prog.info? 45).map (fun i => (i.zero, i.size, i.bytes)) = some (some (.agg #[.string ⟨#[]⟩, .int .i64 0]), 2, 24) := by kernel_rfl
theorem info_pv2 : (Try.prog.info? 45).map (·.size) = some 2 := by kernel_rfl
theorem info_pvs : (Try.prog.info? 38).map (·.size) = some 1 := by kernel_rfl
theorem OwnP.pl {w : World} {base : Nat} {v : Value} {l : List (Str × Int)} (h : OwnP w base v l) : Pl w w.heap.size v l := Row.of_own h
theorem OwnP.nil_ (w : World) (base : Nat) : OwnP w base (.slice none 0 0) [] := World.ownsRow_nil _ _ _ _
theorem OwnP.past {w w' : World} {base B : Nat} {v : Value} {l : List (Str × Int)} (h : OwnP w base v l) (hb : Below B w w') (hB : ∀ g, v.ownBlock = some g → g < B) : OwnP w' base v l := by
  obtain ⟨h1, h2⟩ := h
  refine ⟨h1, ?_⟩
  rcases h2 with h2 | ⟨g, cap, cur, rfl, hg, hh, r⟩
  · exact Or.inl h2
  · exact Or.inr ⟨g, cap, cur, rfl, hg, (hb.block g (hB g rfl)).trans hh, r⟩
theorem OwnP.lt {w : World} {base : Nat} {v : Value} {l : List (Str × Int)} (h : OwnP w base v l) : ∀ g, v.ownBlock = some g → base ≤ g ∧ g < w.heap.size := fun g hg => World.ownsRow.lt h g hg
theorem OwnP.go {w w' : World} {base : Nat} {v : Value} {l : List (Str × Int)} (h : OwnP w base v l) (hb : Below w.heap.size w w') : OwnP w' base v l := h.past hb fun g hg => (h.lt g hg).2
theorem OwnP.keep {O : Nat → Prop} {w w' : World} {base : Nat} {v : Value} {l : List (Str × Int)} (h : OwnP w base v l) (hk : Keep O w w') (hO : ∀ g, v.ownBlock = some g → O g) : OwnP w' base v l := by
  obtain ⟨h1, h2⟩ := h
  refine ⟨h1, ?_⟩
  rcases h2 with h2 | ⟨g, cap, cur, rfl, hg, hh, r⟩
  · exact Or.inl h2
  · exact Or.inr ⟨g, cap, cur, rfl, hg, hk.heap (hO g rfl) hh, r⟩
theorem OwnP.up {w : World} {base base' : Nat} {v : Value} {l : List (Str × Int)} (h : OwnP w base v l) (hb : base' ≤ base) : OwnP w base' v l := by
  obtain ⟨h1, h2⟩ := h
  refine ⟨h1, ?_⟩
  rcases h2 with h2 | ⟨g, cap, cur, rfl, hg, r⟩
  · exact Or.inl h2
  · exact Or.inr ⟨g, cap, cur, rfl, Nat.le_trans hb hg, r⟩
theorem below_ownP {w w' : World} {base : Nat} {v : Value} {l : List (Str × Int)} (h : OwnP w base v l) (hb : base ≤ w.heap.size) (hg : w.grownBy w' v.ownBlock) : Below base w w' :=
  ((Below.refl base w)).grown hg hb fun _ hk => (World.ownsRow.lt h _ hk).1

section
variable {ops : Array Oper} {rest : List Oper} {o : Oper} {a : Act} {Q : Exit → Act → World → Prop}
/-- 'append(s, x)', x one element, within a fence: only the row itself turns. -/
theorem wpi_appP {Fc : Fence} {n : Nat} {w w0 : World} (base : Nat) (s x : Operand) (ho : o.op = .call { callee := .builtin .append, args := #[s, x], argTypes := #[38, 38] }) (hgd : o.guard = none)
    (v : Value) (l : List (Str × Int)) (y : Str × Int) (pc : List Value) (hpc : pc = pvc y) (hw : w = w0.alloc (.cells pc.toArray 45)) (hs : a.eval s = v) (hx : a.eval x = .slice (some ⟨w0.heap.size, 0, none⟩) 1 1)
    (hown : OwnP w0 base v l) (hbase : base ≤ w0.heap.size) (hl : l.length + 1 ≤ 1000000)
    (h : ∀ v' w', OwnP w' base v' (l ++ [y]) → Grew w w' v v' → wpListIn Fc n Try.prog ops Q rest (a.put o.dst v') w') :
    wpListIn Fc n Try.prog ops Q (o :: rest) a w := by
  subst hpc hw
  obtain ⟨i0, hi, hz0, hz1, hz2⟩ := info_parts info_pv
  refine wpListIn_append_own_at _ hgd s x 38 ho base 45 i0 (.agg #[.string ⟨#[]⟩, .int .i64 0]) 2 24 Try.underlying38 hi hz0 hz1 hz2 rfl (by decide) v l.length (pvs l) hs (World.ownsRow.alloc hown _)
    ⟨w0.heap.size, 0, none⟩ 1 1 (pvc y) hx rfl ?_ (by intro u hu; simp only [pvc, List.mem_cons, List.not_mem_nil, or_false] at hu; rcases hu with rfl | rfl <;> rfl) (by simp only [maxLen]; omega) (by omega) (by simp; omega) ?_
  · intro j u hu
    rw [add_zero_addr]
    exact (Blk.new w0 45 (pvc y)).cell hu
  · intro v' w' h1 h2 _ h4
    refine h v' w' ?_ ⟨h2, ?_⟩
    · unfold OwnP
      rw [pvs_append, List.length_append, show pvs [y] = pvc y by simp [pvs]]
      exact h1
    · rcases h4 with h4 | h4
      · exact Or.inl h4
      · refine Or.inr fun k hk => ?_
        rw [h4] at hk; injection hk with hk; omega
end
end Go.Proofs.Ytippbkooaonajaa
