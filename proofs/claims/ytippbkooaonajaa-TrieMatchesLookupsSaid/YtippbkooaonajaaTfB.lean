/-
  The reference's with and grown.
-/
import Derived.Test.YtippbkooaonajaaTfA
import Derived.Test.YtippbkooaonajaaTtM
namespace Go.Proofs.Ytippbkooaonajaa
open Go.RowKit Dg Tr
set_option linter.unusedVariables false
set_option linter.unusedSimpArgs false

theorem ndc_at (F : List Int) (i j : Nat) : (ndc F i)[j]? = if j < 11 then some (F.getD (11 * i + j) 0) else none := by
  by_cases h : j < 11
  · rw [if_pos h]; unfold ndc; rw [List.getElem?_map, List.getElem?_range h]; rfl
  · rw [if_neg h, List.getElem?_eq_none]; rw [ndc_len]; omega
theorem node_set {G : List Int} {k a j : Nat} {v : Int} (hl : G.length = 11 * k) (ha : a < k) (hj : j < 11) : G.take (11 * a) ++ (ndc G a).set j v ++ G.drop (11 * a + 11) = G.set (11 * a + j) v := by
  apply List.ext_getElem?
  intro p
  have hlt : (G.take (11 * a)).length = 11 * a := by rw [List.length_take]; omega
  rw [List.append_assoc, List.getElem?_set]
  by_cases h1 : p < 11 * a
  · rw [List.getElem?_append_left (by omega), List.getElem?_take, if_pos h1, if_neg (by omega)]
  · rw [List.getElem?_append_right (by omega), hlt]
    by_cases h2 : p < 11 * a + 11
    · rw [List.getElem?_append_left (by rw [List.length_set, ndc_len]; omega), List.getElem?_set, ndc_len, ndc_at, if_pos (show p - 11 * a < 11 by omega), show 11 * a + (p - 11 * a) = p by omega]
      by_cases h3 : j = p - 11 * a
      · rw [if_pos h3, if_pos (by omega), if_pos (by omega), if_pos (by omega)]
      · rw [if_neg h3, if_neg (by omega), List.getElem?_eq_getElem (by omega)]
        congr 1
        rw [List.getD_eq_getElem?_getD, List.getElem?_eq_getElem (by omega)]; rfl
    · rw [List.getElem?_append_right (by rw [List.length_set, ndc_len]; omega), List.length_set, ndc_len, List.getElem?_drop, if_neg (by omega)]
      congr 1
      omega
theorem take_set_int (l : List Int) (o : Nat) (v : Int) (ho : o < l.length) : (l.set o v).take (o + 1) = l.take o ++ [v] := by
  rw [List.take_add_one, List.take_set_of_le (Nat.le_refl _), List.getElem?_set_self ho]; rfl
theorem own_setCells {base n g c : Nat} : ∀ (vs : List Int) (o : Nat) (w : World) (F : List Int), OwnN w base n (.slice (some ⟨g, 0, none⟩) n c) F → o + vs.length ≤ 11 * n → OwnN (w.setCells g o (ints vs)) base n (.slice (some ⟨g, 0, none⟩) n c) (F.take o ++ vs ++ F.drop (o + vs.length))
  | [], o, w, F, h, _ => by simpa [World.setCells, ints] using h
  | v :: r, o, w, F, h, hl => by
    have hF := h.len
    have hs : OwnN (w.setCell ⟨g, o, none⟩ (.int .i64 v)) base n (.slice (some ⟨g, 0, none⟩) n c) (F.set o v) := by
      unfold OwnN; rw [ints_set]; exact (World.ownsRow.stored h o _).1
    have h1 := own_setCells r (o + 1) _ _ hs (by simp only [List.length_cons] at hl; omega)
    have ho : o < F.length := by simp only [List.length_cons] at hl; omega
    rw [take_set_int F o v ho] at h1
    have e : (F.set o v).drop (o + 1 + r.length) = F.drop (o + (v :: r).length) := by
      rw [List.drop_set_of_lt (by omega)]
      congr 1
      simp only [List.length_cons]; omega
    rw [e] at h1
    have e2 : F.take o ++ [v] ++ r = F.take o ++ v :: r := by simp
    rw [e2] at h1
    exact h1
theorem own_there {w : World} {base n g c : Nat} {F : List Int} (h : OwnN w base n (.slice (some ⟨g, 0, none⟩) n c) F) (o m : Nat) (hm : o + m ≤ 11 * n) : w.there g o m := fun j hj => by
  have hl := h.len
  have hc := World.ownsRow.cellAt h (o + j) (by omega)
  have hf := World.ownsRow.frozenAt h (o + j)
  rw [ints_getD (by omega)] at hc
  exact ⟨by rw [hc]; simp, hf⟩

section
variable {ops : Array Oper} {rest : List Oper} {o : Oper} {a : Act} {Q : Exit → Act → World → Prop}
/-- A store of a whole node into an own list of nodes. -/
theorem wp_storeNd {w : World} (x y : Operand) (ho : o.op = .store 59 x y) (hgd : o.guard = none) (hdst : o.dst = none) (base n g c k : Nat) (F l' : List Int) (hx : a.eval x = .pointer (some ⟨g, k * 11, none⟩)) (nl : List Value) (hnl : nl = ints l') (hy : a.eval y = .agg nl.toArray) (hl' : l'.length = 11)
    (hown : OwnN w base n (.slice (some ⟨g, 0, none⟩) n c) F) (hk : k < n)
    (h : ∀ w', OwnN w' base n (.slice (some ⟨g, 0, none⟩) n c) (F.take (11 * k) ++ l' ++ F.drop (11 * k + 11)) → Keep (fun b => b ≠ g) w w' → wpList Try.prog ops Q rest a w') : wpList Try.prog ops Q (o :: rest) a w := by
  subst hnl
  have hnl : (ints l').length = 11 := by rw [ints_length, hl']
  refine wpList_store_mid hgd 59 x y ho g (k * 11) (ints l').toArray hx hy (by simpa [hnl] using own_there hown (k * 11) 11 (by omega)) (by rw [info_node]; simp [hnl]) (all_oneCell_toArray (ints_one l')) ?_
  have hp : a.put o.dst undef = a := by rw [hdst]; rfl
  rw [hp]
  have hs := own_setCells l' (k * 11) w F hown (by omega)
  rw [hl', Nat.mul_comm k 11] at hs
  exact h _ (by rw [Nat.mul_comm k 11]; simpa using hs) (keep_setCells g _ _ w)
end

theorem OwnN.cellsN {w : World} {base n g c i : Nat} {F : List Int} (h : OwnN w base n (.slice (some ⟨g, 0, none⟩) n c) F) (hi : i < n) : ∀ j u, (ints (ndc F i))[j]? = some u → w.cell? ((⟨g, i * 11, none⟩ : Addr).add j) = some u := by
  have hl := h.len
  refine ndc_cells fun j hj => ?_
  have hc := World.ownsRow.cellAt h (11 * i + j) (by omega)
  rw [ints_getD (by omega)] at hc
  have e : (⟨g, i * 11, none⟩ : Addr).add j = ⟨g, 11 * i + j, none⟩ := by simp [Addr.add, Nat.mul_comm]
  rw [e, hc]
theorem Blk.cellsP {w : World} {g : Nat} {t : TypeId} {l : List Value} (h : Blk w g t l) : ∀ j u, l[j]? = some u → w.cell? ((⟨g, 0, none⟩ : Addr).add j) = some u := fun j u hu => by
  rw [add_zero_addr]; exact h.cell hu

set_option maxRecDepth 100000 in
set_option maxHeartbeats 2000000 in
theorem rwith_any (ad : Addr) (n cap : Nat) (F : List Int) (a : Nat) (v : Int) (w : World) (hv : Nds w w.heap.size n (.slice (some ad) n cap) F) (hn : n ≤ 10000) (ha : a < n) :
    Calls Try.prog 38 #[.agg #[.slice (some ad) n cap], .int .i64 (a : Int), .int .i64 v] w fun e w' => (∃ u, e = .returned (.agg #[u]) ∧ OwnN w' w.heap.size n u (sv F a v)) ∧ Below w.heap.size w w' := by
  have hF := hv.len
  obtain ⟨W0, hW0⟩ : ∃ W, W = (w.alloc (.cells #[.slice (some ad) n cap] 24)).alloc (.cells #[.slice none 0 0] 24) := ⟨_, rfl⟩
  have hs0 : W0.heap.size = w.heap.size + 2 := by rw [hW0]; simp
  have b0 : Below w.heap.size w W0 := by
    rw [hW0]; exact ((Below.refl _ _).alloc (Nat.le_refl _) _).alloc (by simp) _
  have c0 : Blk W0 w.heap.size 24 [.slice (some ad) n cap] := by rw [hW0]; exact (Blk.newAt _ _ [_] _ rfl).alloc _
  have c1 : Blk W0 (w.heap.size + 1) 24 [.slice none 0 0] := by rw [hW0]; exact Blk.newAt _ _ [_] _ (by simp)
  have b1 : Below W0.heap.size W0 (W0.alloc (.cells #[] 59)) := (Below.refl _ _).alloc (Nat.le_refl _) _
  have ho := own_empty W0
  rw [hs0] at ho
  have hv1 := Row.past (Row.past hv b0) b1
  have cT := (c0.past b1 (by omega)).cell (j := 0) rfl
  have HV := Lib.hid hv1
  have HO := Lib.hid ho
  have HC1 := Lib.hid c1
  have HW := Lib.hid hW0
  have HF := Lib.hid hF
  clear hv hv1 hW0 c0 c1 ho hF
  go_enter Try.func38, Try.ntmps38
  go_upto_region 1 with (fail)
  rw [← HW.out]
  go_upto_region 2 with (first | (refine wp_appNs (w.heap.size + 2) (.tmp 9) (.tmp 11) rfl rfl _ 0 n cap [] F ad rfl rfl HO.out HV.out (by simp [hs0]) (by omega) ?_; intro v7 w7 o7 g7))
  rw [Nat.zero_add, List.nil_append] at o7
  obtain ⟨g, c, rfl⟩ := o7.form (by omega)
  have hb7 : Below W0.heap.size W0 w7 := b1.trans (by rw [hs0]; exact below_ownN HO.out (by simp [hs0]) g7.1)
  have hg := o7.lt g rfl
  have b7 := b0.trans (hb7.mono b0.size)
  have e7 := HC1.out.past hb7 (by omega)
  obtain ⟨nl, hnl⟩ : ∃ nl, nl = ints (ndc F a) := ⟨_, rfl⟩
  have hnl11 : nl.length = 11 := by rw [hnl, ints_len11]
  have HQ : Hid (∀ j u, nl[j]? = some u → w7.cell? ((⟨g, a * 11, none⟩ : Addr).add j) = some u) := Lib.hid (by rw [hnl]; exact o7.cellsN ha)
  have HN1 : Hid (∀ u ∈ nl, u.oneCell' = true) := Lib.hid (by rw [hnl]; exact ints_one _)
  have HN11 := Lib.hid hnl11
  have HNL := Lib.hid hnl
  have HO7 := Lib.hid o7
  have HE7 := Lib.hid e7
  clear cT hb7 g7 hnl hnl11 o7 e7
  go_upto_region 3 with (first
    | (refine wp_run rfl (exec_ixS 22 59 11 Try.underlying22 info_node _ rfl rfl .i64 (a : Int) a rfl rfl ha (show (⟨g, a * 11, none⟩ : Addr) = (⟨g, 0, none⟩ : Addr).add (a * 11) by rw [add_zero_addr])) ?_)
    | (refine wp_run rfl (exec_loadPS 59 rfl ⟨g, a * 11, none⟩ rfl nl _ HQ.out Try.underlying59 (by rw [info_node, HN11.out])) ?_)
    | (refine wp_storeA 59 (.tmp 8) (.tmp 16) rfl rfl w7.heap.size rfl 59 z11 nl rfl (Blk.new _ _ _) (by rw [info_node, HN11.out]) (by rw [HN11.out]; rfl) HN1.out rfl ?_; intro w8 h8 k8))
  have b8 : Below w7.heap.size w7 w8 := ((Below.refl _ _).alloc (Nat.le_refl _) _).trans (k8.below (fun k hk => by omega) (by simp))
  have o8 := HO7.out.go b8
  have e8 := HE7.out.past b8 (by omega)
  have bw8 := b7.trans (b8.mono b7.size)
  obtain ⟨gB, hgB⟩ : ∃ q, w7.heap.size = q := ⟨_, rfl⟩
  have hggB : g ≠ gB := by omega
  have hSB : w.heap.size + 1 < gB := by omega
  rw [hgB] at h8 ⊢
  have hlB := h8.lt
  obtain ⟨nl9, hnl9⟩ : ∃ nl9, nl9 = nl.set 10 (.int .i64 v) := ⟨_, rfl⟩
  have HNL9 : Hid (nl9 = ints ((ndc F a).set 10 v)) := Lib.hid (by rw [hnl9, HNL.out, ints_set])
  have HN9 := Lib.hid hnl9
  have HL9 : Hid (nl9.length = 11) := Lib.hid (by rw [hnl9, List.length_set, HN11.out])
  clear k8 b8 hgB b7 hnl9
  go_wp2_with (first
    | (refine wp_store1 3 .i64 (.tmp 18) (.tmp 17) rfl rfl gB 10 rfl 59 nl v rfl h8 (by rw [HN11.out]; omega) info_int rfl ?_; rw [← HN9.out]; intro w9 h9 k9; have o9 := o8.keep k9 (fun q' hq' => by simp [Value.ownBlock] at hq'; omega); have e9 := e8.keep k9 (by omega); have HB9 := Lib.hid (Blk.cellsP h9); have bw9 := bw8.trans (k9.below (fun q' hq' => by omega) bw8.size); have HO9 := Lib.hid o9; have HE9 := Lib.hid e9; clear o9 e9 k9)
    | (refine wp_run rfl (exec_loadPS 59 rfl ⟨gB, 0, none⟩ rfl nl9 _ HB9.out Try.underlying59 (by rw [info_node, HL9.out])) ?_)
    | (refine wp_run rfl (exec_ixS 22 59 11 Try.underlying22 info_node _ rfl rfl .i64 (a : Int) a rfl rfl ha (show (⟨g, a * 11, none⟩ : Addr) = (⟨g, 0, none⟩ : Addr).add (a * 11) by rw [add_zero_addr])) ?_)
    | (refine wp_storeNd (.tmp 22) (.tmp 21) rfl rfl rfl (w.heap.size + 2) n g c a F ((ndc F a).set 10 v) rfl nl9 HNL9.out rfl (by rw [List.length_set, ndc_len]) HO9.out ha ?_; intro w10 o10 k10; have e10 := HE9.out.keep k10 (by omega); have HO10 := Lib.hid o10; have bw10 := bw9.trans (k10.below (fun q' hq' => by omega) bw9.size); clear o10 k10)
    | (refine wp_storeA 24 (.tmp 6) (.tmp 24) rfl rfl (w.heap.size + 1) rfl 24 [.slice none 0 0] [.slice (some ⟨g, 0, none⟩) n c] rfl e10 (by rw [info_trie]; rfl) rfl (by intro v hv; simp at hv; subst hv; rfl) rfl ?_; intro w11 h11 k11))
  have o11 := HO10.out.keep k11 (fun q' hq' => by simp [Value.ownBlock] at hq'; omega)
  have bw11 := bw10.trans (k11.below (fun q' hq' => by omega) bw10.size)
  rw [node_set HF.out ha (by omega)] at o11
  refine ret_row Try.results38 rfl (w.heap.size + 1) 24 _ _ rfl h11 Try.underlying24 rfl (by rw [info_trie]; rfl) ?_
  exact ⟨⟨_, rfl, o11.up (by omega)⟩, bw11⟩
end Go.Proofs.Ytippbkooaonajaa
