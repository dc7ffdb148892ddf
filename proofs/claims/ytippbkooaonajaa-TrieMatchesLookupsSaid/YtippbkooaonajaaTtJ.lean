/-
  Package trie: Entries.
-/
import Derived.Test.YtippbkooaonajaaTtI
import Derived.Great.BuildSlice
namespace Go.Proofs.Ytippbkooaonajaa
open Go.RowKit Go.Shelf Dg Tr
attribute [local go_sem] Oper.semAt_some
set_option linter.unusedVariables false
set_option linter.unusedSimpArgs false

theorem ents_len {F : List Int} {n : Nat} {E : Nat → Nat} (h : Tree F n E) : (ents F).length ≤ n := by
  have hm : ∀ x ∈ ents F, ∃ j, nod F 0 x.1 = some j := fun x hx => by
    obtain ⟨h1, h2⟩ := (mem_ents h x).1 hx
    exact get_has (by rw [← h1]; exact h2)
  have := nodup_len n (l := (ents F).map fun x => (nod F 0 x.1).getD 0) ?_ ?_
  · simpa using this
  · rw [List.nodup_iff_pairwise_ne, List.pairwise_map]
    refine List.Pairwise.imp_of_mem ?_ (ents_asc h)
    intro x y hx hy hlt he
    obtain ⟨i, hi⟩ := hm x hx
    obtain ⟨j, hj⟩ := hm y hy
    rw [hi, hj] at he
    simp only [Option.getD_some] at he
    rw [← he] at hj
    have := nod_inj h _ rfl hi hj
    rw [this] at hlt
    exact str_irrefl _ hlt
  · intro x hx
    simp only [List.mem_map] at hx
    obtain ⟨y, hy, rfl⟩ := hx
    obtain ⟨j, hj⟩ := hm y hy
    rw [hj]
    exact (nod_lt h h.pos hj).1

theorem entA_item {F : List Int} {f a : Nat} {r : Str} {x : Array Value} (h : x ∈ entA F f a r) : ∃ (s : Str) (v : Int), x = #[str s, .int .i64 v] := by
  unfold entA at h
  simp only [List.mem_map] at h
  obtain ⟨y, _, rfl⟩ := h
  exact ⟨y.1, y.2, rfl⟩
theorem entA_at {F : List Int} {f a : Nat} {r : Str} {k : Nat} {x : Array Value} (h : (entA F f a r)[k]? = some x) : ∃ y, (ent F f a r)[k]? = some y ∧ x = #[str y.1, .int .i64 y.2] := by
  unfold entA at h
  rw [List.getElem?_map] at h
  cases hy : (ent F f a r)[k]? with
  | none => rw [hy] at h; cases h
  | some y => rw [hy] at h; injection h with h; exact ⟨y, rfl, h.symm⟩

theorem exec_build1 {P : Program} (t e : TypeId) (s : Nat) (i0 : TypeInfo) (z : Value) (hs : 0 < s) (hsm : s ≤ 1000) (ht : P.underlying t = some (.slice e)) (hi : P.info? e = some i0) (hz : i0.zero = some z) (hz1 : i0.size = s) (cs : List Value) (hc : cs.length = s)
    {o : Oper} {a : Act} (x : Operand) (ho : o.op = .buildSlice t 1 #[(0, x)]) (hx : a.eval x = .agg cs.toArray) (w : World) : (execOp a.eval o).run P w = .ok (.value (.slice (some ⟨w.heap.size, 0, none⟩) 1 1)) (w.alloc (.cells cs.toArray e)) := by
  have e1 : (#[(0, x)] : Array (Nat × Operand)).map (fun (i, x) => (i, a.eval x)) = #[(0, .agg cs.toArray)] := by simp [hx]
  have hf : ∀ zs : Array Value, zs.size = s → Instr.fill (fun i => some (i * s, s)) zs [(0, .agg cs.toArray)] = some cs.toArray := fun zs hzs => by
    have h := Great.fill_whole (s := s) hs [.agg cs.toArray] zs (fun v hv => by simp at hv; subst hv; simpa [Value.cells] using hc) (by simp [hzs])
    simpa [Value.cells] using h
  have hr := run_buildSlice w t e 1 #[(0, .agg cs.toArray)] cs.toArray i0 z ht hi hz (by rw [hz1]; omega) (by rw [hz1]; omega) (by rw [hz1]; exact hf _ (by simp))
  unfold execOp
  simp only [ho, e1, Sem.run_bind, hr, Result.andThen_ok]
  rfl
theorem build_pv (b : ByteArray) (v : Int) (w : World) : (Instr.build 45 #[(0, .string b), (1, .int .i64 v)]).run Try.prog w = .ok (.agg #[.string b, .int .i64 v]) w := by kernel_rfl
theorem exec_pv {o : Oper} {a : Act} (x y : Operand) (ho : o.op = .build 45 #[(0, x), (1, y)]) (e : Str × Int) (pc : List Value) (hpc : pc = pvc e) (hx : a.eval x = str e.1) (hy : a.eval y = .int .i64 e.2) (w : World) :
    (execOp a.eval o).run Try.prog w = .ok (.value (.agg pc.toArray)) w := by
  subst hpc
  unfold execOp
  have h : (#[(0, x), (1, y)] : Array (Nat × Operand)).map (fun (i, x) => (i, a.eval x)) = #[(0, str e.1), (1, .int .i64 e.2)] := by simp [hx, hy]
  unfold str at h
  simp only [ho, h, Sem.run_bind, build_pv, Result.andThen_ok, Sem.run_pure]
  rfl
/-- What Entries answers. -/
noncomputable def entR (F : List Int) (n : Nat) : List (Str × Int) := if chk F n = 0 then ents F else []
/-- What the loop of Entries keeps. -/
def EnI (n0 g3 S : Nat) (w : World) (L : List (Str × Int)) (M : Nat → Prop) (k : Nat) (W : World) : Prop :=
  ∃ pv, (∀ b, M b ↔ (b = g3 ∨ pv.ownBlock = some b)) ∧ Blk W g3 38 [pv] ∧ OwnP W (S + 2) pv (L.take k) ∧ Below n0 w W

theorem own_form {w : World} {base : Nat} {v : Value} {l : List (Str × Int)} (h : OwnP w base v l) : ∃ A c, v = .slice A l.length c := row_form h.pl

set_option maxRecDepth 100000 in
set_option maxHeartbeats 2000000 in
theorem entries_any (A : Option Addr) (n cap : Nat) (F : List Int) (w : World) (hv : Nds w w.heap.size n (.slice A n cap) F) (hn : n ≤ 10000) :
    Calls Try.prog 25 #[.agg #[.slice A n cap]] w fun e w' => (∃ v, e = .returned v ∧ OwnP w' w.heap.size v (entR F n)) ∧ Below w.heap.size w w' := by
  have HV := Lib.hid hv
  obtain ⟨W0, hW0⟩ : ∃ W, W = w.alloc (.cells #[.slice A n cap] 24) := ⟨_, rfl⟩
  have b0 : Below w.heap.size w W0 := by rw [hW0]; exact (Below.refl _ _).alloc (Nat.le_refl _) _
  have c0 : Blk W0 w.heap.size 24 [.slice A n cap] := by rw [hW0]; exact Blk.newAt _ _ [_] _ rfl
  have hs0 : W0.heap.size = w.heap.size + 1 := by rw [hW0]; simp
  have hC := check_any A n cap F W0 (Row.past hv b0) hn
  have HL : Hid (entR F n = if chk F n = 0 then ents F else []) := Lib.hid rfl
  obtain ⟨r, hr⟩ : ∃ r, entR F n = r := ⟨_, rfl⟩
  obtain ⟨c, hc⟩ : ∃ c, chk F n = c := ⟨_, rfl⟩
  rw [hr] at HL
  rw [hc] at hC
  rw [hr]
  have HCK := Lib.hid hc
  have HW := Lib.hid hW0
  have cT := c0.cell (j := 0) rfl
  have step : ∀ (R : Prop), (∀ hz0 : (c == 0) = true, R) → (∀ hz0 : (c == 0) = false, R) → R := fun R h1 h2 => by
    cases hc : (c == 0)
    · exact h2 hc
    · exact h1 hc
  clear hv hW0 hr hc
  refine (callsIn_wide (n := 0)).1 ?_
  refine callsIn_of_wp_marks Try.func25 rfl trivial ?_ rfl
  simp only [Try.ntmps25, List.size_toArray, List.length_cons, List.length_nil, Nat.reduceAdd, Nat.reduceSub, Array.replicate_succ, Array.replicate_zero, List.push_toArray, List.append_toArray, List.nil_append, List.cons_append]
  refine step _ (fun hz0 => ?_) (fun hz0 => ?_)
  all_goals
    clear step
    gi_wp2_with fail
    rw [← HW.out]
    refine ⟨trivial, rfl, (callsIn_wide.2 hC).mono ?_⟩
    rintro e w1 ⟨rfl, hb1⟩
    have hs1 := hb1.size
    have b1 := b0.trans (hb1.mono b0.size)
    clear hC cT
  · have hc0 : c = 0 := eq_of_beq hz0
    have hz1 : (c != 0) = false := by rw [bne, hz0]; rfl
    obtain ⟨⟨⟨E, hT⟩, hVl⟩, h4096⟩ := chk_zero (HCK.out.trans hc0)
    have HR : Hid (r = ents F) := Lib.hid (by rw [HL.out, HCK.out, hc0]; simp)
    have HT := Lib.hid hT
    have hpos := hT.pos
    have HEL := Lib.hid (ents_len hT)
    obtain ⟨ad, hA, _⟩ := HV.out.at_ hpos
    subst hA
    clear hT hVl hc0
    have k0 := c0.past hb1 (by omega)
    obtain ⟨W2, hW2⟩ : ∃ W2, W2 = w1.alloc (.cells #[.slice none 0 0] 38) := ⟨_, rfl⟩
    obtain ⟨g3, hg3⟩ : ∃ g3, g3 = w1.heap.size := ⟨_, rfl⟩
    have b12 : Below w1.heap.size w1 W2 := by rw [hW2]; exact (Below.refl _ _).alloc (Nat.le_refl _) _
    have l2 : Blk W2 g3 38 [.slice none 0 0] := by rw [hW2]; exact Blk.newAt _ _ [_] _ hg3
    have hs2 : W2.heap.size = g3 + 1 := by rw [hW2, hg3]; simp
    have cT2 := (k0.past b12 (by omega)).cell (j := 0) rfl
    rw [hW2] at cT2
    have HW2 := Lib.hid hW2
    have HG3 := Lib.hid hg3
    clear hW2
    gi_wp2_with fail
    rw [← HW2.out]
    refine ⟨trivial, rfl, (callsIn_wide.2 (stored_any (some ad) n cap 0 _)).mono ?_⟩
    rintro e w3 ⟨rfl, rfl⟩
    obtain ⟨W3, hW3⟩ : ∃ W3, W3 = (W2.alloc (.cells #[.slice (some ad) n cap] 24)).alloc (.cells #[.int .i64 0] 3) := ⟨_, rfl⟩
    obtain ⟨g2, hg2⟩ : ∃ g2, g2 = W2.heap.size := ⟨_, rfl⟩
    have hs3 : W3.heap.size = g2 + 2 := by rw [hW3, hg2]; simp
    have b23 : Below W2.heap.size W2 W3 := by
      rw [hW3]
      refine ((Below.refl _ _).alloc (Nat.le_refl _) _).alloc ?_ _
      simp
    have b3 := b1.trans ((b12.trans (b23.mono b12.size)).mono b1.size)
    have ct : Blk W3 g2 24 [.slice (some ad) n cap] := by
      rw [hW3]; exact (Blk.newAt _ _ [_] _ hg2).alloc _
    have cs : Blk W3 (g2 + 1) 3 [.int .i64 0] := by
      rw [hW3]; exact Blk.newAt _ _ [_] _ (by simp [hg2])
    have HW3 := Lib.hid hW3
    have HG2 := Lib.hid hg2
    have hgg : w.heap.size + 1 ≤ g3 := by omega
    have hgg2 : g2 = g3 + 1 := by omega
    have HK := Lib.hid (And.intro (l2.past b23 (by omega)) (And.intro ct cs))
    clear hW3 ct cs k0 cT2 l2 hg2
    gi_wp2_with fail
    rw [← HW3.out, ← HG3.out]
    subst hgg2
    have hge3 : g3 + 3 ≤ W3.heap.size := by omega
    clear hs3 hs2 hg3
    refine wp_rangeV (gf := 52) (lb := #[.pointer (some ⟨g3 + 1, 0, none⟩), .pointer (some ⟨g3 + 1 + 1, 0, none⟩)]) (T := fun b => b < W3.heap.size ∧ b ≠ g3) (items := entA F 15 0 []) rfl (enters_of Try.func52 (by kernel_rfl) rfl) (fun b h => h.1)
      (fun x hx => by obtain ⟨_, _, rfl⟩ := entA_item hx; rfl) ?hseq (EnI w.heap.size g3 W3.heap.size w (ents F)) (fun _ => False) (fun b => b = g3) (fun b hb h => hb.2 h) ?h0 ?hlt ?hI (fun _ _ h => h.elim)
      (fun x => { tmps := #[.agg #[.slice (some ad) n cap], .pointer (some ⟨w.heap.size, 0, none⟩), .slice none 0 0, .pointer (some ⟨g3, 0, none⟩), x.getD 0 undef, x.getD 1 undef, .agg #[.slice (some ad) n cap], .int .i64 c, .bool false, .agg #[.slice (some ad) n cap], .func (.func 52) #[] #[.pointer (some ⟨g3 + 1, 0, none⟩), .pointer (some ⟨g3 + 1 + 1, 0, none⟩)], x.getD 0 undef, x.getD 1 undef, undef, undef, undef, undef, undef, undef, undef], defers := [] }) ?hassign ?hbody ?hdone (fun _ _ h => h.elim)
    case hseq =>
      intro W4 hb4
      have hb := b3.trans (hb4.mono b3.size)
      have h4 := hb4.size
      refine stored_gives _ _ _ n cap ad F E 15 0 W4 ⟨by omega, by omega⟩ (cell_past (HK.out.2.2.cell (j := 0) rfl) hb4) (Rd.of HV.out hb hpos ⟨by omega, by omega⟩ (fun b hb => ⟨by omega, by omega⟩) (cell_past (HK.out.2.1.cell (j := 0) rfl) hb4)) HT.out hpos (by omega) hn (fun b hb => by omega)
    case h0 =>
      intro W4 hb4 hs4
      exact ⟨.slice none 0 0, fun b => by simp [Value.ownBlock], HK.out.1.past hb4 (by omega), OwnP.nil_ _ _, b3.trans (hb4.mono b3.size)⟩
    case hlt =>
      rintro M k W4 ⟨pv, hM, h1, h2, h3⟩ b hb
      rcases (hM b).1 hb with rfl | h
      · exact h1.lt
      · exact (h2.lt b h).2
    case hI =>
      rintro M k W4 W5 ⟨pv, hM, h1, h2, h3⟩ hk
      exact ⟨pv, hM, h1.keep hk (Or.inl (by omega)), h2.keep hk (fun g hg => Or.inr (h2.lt g hg).1), h3.trans (hk.below (fun q hq => Or.inl (by omega)) h3.size)⟩
    case hassign =>
      intro l' x W4 K hx hK
      obtain ⟨a, i, rfl⟩ := entA_item hx
      gi_wp2
      exact hK
    case hdone =>
      rintro M W4 hs4 ⟨pv, hM, h1, h2, h3⟩ hd
      have hlen : (entA F 15 0 []).length = (ents F).length := by simp [entA, ents]
      rw [hlen, List.take_length] at h2
      have hp : ∀ O : Nat → Prop, ¬ O W3.heap.size → Keep O W4 (W4.putObj W3.heap.size (.deferred none)) := fun O hO => Keep.putObj _ _ _ hO
      have cp := h1.cell (j := 0) rfl
      have o9 := h2.keep (hp (fun q => W3.heap.size + 2 ≤ q) (by omega)) (fun g hg => (h2.lt g hg).1)
      have b9 : Below w.heap.size w (W4.putObj W3.heap.size (.deferred none)) := h3.trans ((hp (fun q => q < w.heap.size) (by omega)).below (fun q hq => hq) h3.size)
      have HO9 := Lib.hid o9
      clear hp o9 h1 h2 h3 hM
      gi_wp2_with fail
      show LeavesInM _ _ _ _ _ _ _ _ _
      refine ⟨by simp, .inl ⟨_, _, rfl, run_takeDeferred hd, ?_⟩⟩
      rw [HR.out]
      exact ⟨_, results_tmp Try.results25 _ _ _, ⟨pv, rfl, HO9.out.up (by omega)⟩, b9⟩
    case hbody =>
      rintro l' M k x W4 hs4 ⟨pv, hM, h1, h2, h3⟩ hx
      obtain ⟨y, hy, rfl⟩ := entA_at hx
      have HM := Lib.hid hM
      have hyl := (List.getElem?_eq_some_iff.1 hy).1
      have hel : (ents F).length ≤ 4096 := by have := HEL.out; omega
      have htk : (ents F).take (k + 1) = (ents F).take k ++ [y] := by rw [List.take_add_one]; unfold ents; rw [hy]; rfl
      have HTK := Lib.hid htk
      have cp := h1.cell (j := 0) rfl
      have hkl : ((ents F).take k).length ≤ 4096 := by rw [List.length_take]; omega
      have HKL := Lib.hid hkl
      obtain ⟨L, hL⟩ : ∃ L, L = (ents F).take k := ⟨_, rfl⟩
      rw [← hL] at h2 HKL
      have HLL := Lib.hid hL
      have hbs : W3.heap.size + 2 ≤ W4.heap.size := hs4
      obtain ⟨i0, hi0, hz0, hz1', hz2⟩ := info_parts info_pv
      obtain ⟨A4, c4, rfl⟩ := own_form h2
      have HOL := Lib.hid (h2.lt)
      obtain ⟨pc, hpc⟩ : ∃ pc, pc = pvc y := ⟨_, rfl⟩
      have HPC := Lib.hid hpc
      clear hx hy hM htk hkl hL hpc
      gi_wp2_with (first | (refine wpi_val rfl (fun c hc => by cases hc) (by simp [Oper.about]) (exec_pv (.tmp 14) (.tmp 15) rfl y pc HPC.out rfl rfl _) ?_) | (refine wpi_val rfl (fun c hc => by cases hc) (by simp [Oper.about]) (exec_build1 38 45 2 i0 _ (by decide) (by decide) Try.underlying38 hi0 hz0 hz1' pc (by rw [HPC.out]; rfl) (.tmp 16) rfl rfl _) ?_) | (refine wpi_appP (W3.heap.size + 2) (.tmp 13) (.tmp 17) rfl rfl _ L y pc HPC.out rfl rfl rfl h2 hbs (by have := HKL.out; omega) ?_; intro v7 w7 o7 g7; obtain ⟨A7, c7, rfl⟩ := own_form o7; have k7 : Keep (fun b => b = g3) W4 w7 := (Keep.of_below ((Below.refl _ _).alloc (Nat.le_refl _) _)).trans (Keep.of_grew g7 (fun q hq h => by have := (HOL.out q hq).1; omega)); have l7 := h1.keep k7 rfl) | (refine wpi_storeC 38 (.tmp 3) (.tmp 18) rfl rfl g3 0 rfl 38 [_] (.slice A7 (L ++ [y]).length c7) rfl rfl rfl l7 (by simp) info_pvs rfl ?_; intro w8 h8 k8))
      have hbal : Below W4.heap.size W4 (W4.alloc (.cells pc.toArray 45)) := (Below.refl _ _).alloc (Nat.le_refl _) _
      have kk : Keep (fun b => b ≠ g3 ∧ (Value.slice A4 L.length c4).ownBlock ≠ some b) W4 w8 := ((Keep.of_below hbal).trans (Keep.of_grew g7 (fun q hq h => h.2 hq))).trans (k8.mono fun b hb => hb.1)
      have o8 : OwnP w8 (W3.heap.size + 2) (.slice A7 (L ++ [y]).length c7) (L ++ [y]) := o7.keep k8 (fun q hq => by have := (o7.lt q hq).1; omega)
      have hv7 := g7.2
      refine ⟨fun b => b = g3 ∨ (Value.slice A7 (L ++ [y]).length c7).ownBlock = some b, ⟨_, fun b => Iff.rfl, h8, by rw [HTK.out, ← HLL.out]; exact o8, h3.trans (kk.below (fun q hq => ⟨by omega, fun h => by have := (HOL.out q h).1; omega⟩) h3.size)⟩, fun b hb => ?_, kk.mono fun b hb => ?_⟩
      · rcases hb with h | h
        · exact Or.inl ((HM.out b).2 (Or.inl h))
        · rcases hv7 with h7 | h7
          · rw [h7] at h
            exact Or.inl ((HM.out b).2 (Or.inr h))
          · have h9 := h7 b h
            rw [World.size_alloc] at h9
            exact Or.inr (by omega)
      · rcases hb with hb | hb
        · exact ⟨fun h => hb ((HM.out b).2 (Or.inl h)), fun h => hb ((HM.out b).2 (Or.inr h))⟩
        · exact ⟨by omega, fun h => by have := (HOL.out b h).1; omega⟩
  · have hz1 : (c != 0) = true := by rw [bne, hz0]; rfl
    have HR : Hid (r = []) := Lib.hid (by rw [HL.out, HCK.out, if_neg]; exact ne_of_beq_false hz0)
    gi_wp2_with fail
    rw [HR.out]
    exact ⟨_, results_tmp Try.results25 _ _ _, ⟨_, rfl, OwnP.nil_ _ _⟩, b1⟩
end Go.Proofs.Ytippbkooaonajaa
