/-
  The reference's grown.
-/
import Derived.Test.YtippbkooaonajaaTfB
namespace Go.Proofs.Ytippbkooaonajaa
open Go.RowKit Dg Tr
set_option linter.unusedVariables false
set_option linter.unusedSimpArgs false

theorem ins_append : ∀ (p t : Str) (F : List Int) (n a : Nat), ins F n a (p ++ t) = ins (ins F n a p).1 (ins F n a p).2.1 (ins F n a p).2.2 t
  | [], t, F, n, a => rfl
  | b :: p, t, F, n, a => by
    simp only [List.cons_append, ins]
    split
    · exact ins_append p t _ _ _
    · exact ins_append p t _ _ _
theorem ins_snoc {F G : List Int} {n k a : Nat} {s : Str} {i : Nat} {x : UInt8} (h : ins F n 0 (s.take i) = (G, k, a)) (hx : s[i]? = some x) :
    ins F n 0 (s.take (i + 1)) = if kI G a (dg x) = 0 then (add G k a (dg x), k + 1, k) else (G, k, kd G a (dg x)) := by
  rw [List.take_add_one, hx, ins_append, h]
  simp only [Option.toList, ins]

set_option maxRecDepth 100000 in
set_option maxHeartbeats 4000000 in
theorem rgrown_any (ad : Addr) (n cap : Nat) (F : List Int) (E : Nat → Nat) (s : Str) (w : World) (hv : Nds w w.heap.size n (.slice (some ad) n cap) F) (ht : Tree F n E) (hn : n ≤ 10000) (hs : ∀ b ∈ s, isD b = true) (hl : s.length ≤ 15) :
    Calls Try.prog 37 #[.agg #[.slice (some ad) n cap], str s] w fun e w' => (∃ u, e = .returned (.agg #[u]) ∧ OwnN w' w.heap.size (ins F n 0 s).2.1 u (ins F n 0 s).1) ∧ Below w.heap.size w w' := by
  have hsz := str_size s
  obtain ⟨W0, hW0⟩ : ∃ W, W = (w.alloc (.cells #[.slice (some ad) n cap] 24)).alloc (.cells #[.slice none 0 0] 24) := ⟨_, rfl⟩
  have hs0 : W0.heap.size = w.heap.size + 2 := by rw [hW0]; simp
  have b0 : Below w.heap.size w W0 := by
    rw [hW0]; exact ((Below.refl _ _).alloc (Nat.le_refl _) _).alloc (by simp) _
  have c0 : Blk W0 w.heap.size 24 [.slice (some ad) n cap] := by rw [hW0]; exact (Blk.newAt _ _ [_] _ rfl).alloc _
  have c1 : Blk W0 (w.heap.size + 1) 24 [.slice none 0 0] := by rw [hW0]; exact Blk.newAt _ _ [_] _ (by simp)
  have b1 : Below W0.heap.size W0 (W0.alloc (.cells #[] 59)) := (Below.refl _ _).alloc (Nat.le_refl _) _
  have ho := own_empty W0
  rw [hs0] at ho
  have hv1 := Row.past (Row.past hv b0) b1
  have cT := (c0.past b1 (by omega)).cell (j := 0) rfl
  have HV := Lib.hid hv1
  have HO := Lib.hid ho
  have HC1 := Lib.hid c1
  have HW := Lib.hid hW0
  have HT := Lib.hid ht
  have HS := Lib.hid hs
  have hpos := ht.pos
  obtain ⟨R, hR⟩ : ∃ R, ins F n 0 s = R := ⟨_, rfl⟩
  have HR := Lib.hid hR
  rw [hR]
  clear hv hv1 hW0 c0 c1 ho ht hs hR
  unfold str
  go_enter Try.func37, Try.ntmps37
  go_upto_region 1 with (fail)
  rw [← HW.out]
  go_upto_region 2 with (first | (refine wp_appNs (w.heap.size + 2) (.tmp 10) (.tmp 12) rfl rfl _ 0 n cap [] F ad rfl rfl HO.out HV.out (by simp [hs0]) (by omega) ?_; intro v7 w7 o7 g7))
  rw [Nat.zero_add, List.nil_append] at o7
  have hb7 : Below W0.heap.size W0 w7 := b1.trans (by rw [hs0]; exact below_ownN HO.out (by simp [hs0]) g7.1)
  have b7 := b0.trans (hb7.mono b0.size)
  have e7 := HC1.out.past hb7 (by omega)
  have hS7 : w.heap.size + 2 ≤ w7.heap.size := by have := hb7.size; omega
  clear cT hb7 g7 HW HC1 HO HV b0 b1
  go_wp2_with fail
  go_loopw [5, 6, 7] (fun vs va vi wr => ∃ (i k a : Nat) (G : List Int), vi = .int .i64 (i : Int) ∧ va = .int .i64 (a : Int) ∧ i ≤ s.length ∧ k ≤ n + i ∧ Hid (ins F n 0 (s.take i) = (G, k, a)) ∧ OwnN wr (w.heap.size + 2) k vs G ∧ Blk wr (w.heap.size + 1) 24 [.slice none 0 0] ∧ Below w.heap.size w wr ∧ w.heap.size + 2 ≤ wr.heap.size) (fun vs va vi wr => ixn s.length vi)
  case atStart => exact ⟨0, n, 0, F, rfl, rfl, Nat.zero_le _, Nat.le_refl _, Lib.hid rfl, o7, e7, b7, hS7⟩
  case round =>
    obtain ⟨i, k, a, G, rfl, rfl, hil, hkn, HI, hoG, er, hbw, hSr⟩ := hrel
    clear o7 e7 b7 hS7
    obtain ⟨E', hgr⟩ := ins_grew (s.take i) (F := F) (n := n) (a := 0) (p := []) HT.out (fun b hb => HS.out b (List.mem_of_mem_take hb)) (by rw [List.nil_append, List.length_take]; omega) rfl
    rw [HI.out] at hgr
    have htr : Tree G k E' := hgr.tree
    have hak : a < k := (nod_lt htr htr.pos hgr.at_).1
    obtain ⟨g, c, rfl⟩ := hoG.form (by omega)
    have hgl := hoG.lt g rfl
    have HTR := Lib.hid htr
    clear hgr htr
    by_cases hlt : i < s.length
    · obtain ⟨x, hx⟩ : ∃ x, s[i]? = some x := ⟨s[i], List.getElem?_eq_getElem hlt⟩
      have hga : (⟨s.toArray⟩ : ByteArray)[i]'(by rw [str_size]; exact hlt) = x := by
        obtain ⟨h, rfl⟩ := List.getElem?_eq_some_iff.1 hx
        simp [ByteArray.getElem_eq_getElem_data]
      have hdx : isD x = true := HS.out x (List.mem_of_getElem? hx)
      have hdl := dg_lt hdx
      have hdn := (isD_iff x).1 hdx
      have HIS := Lib.hid (ins_snoc HI.out hx)
      obtain ⟨d, hd⟩ : ∃ d, dg x = d := ⟨_, rfl⟩
      have hdv : (x.toNat : Int) - 48 = (d : Int) := by rw [← hd]; unfold dg; omega
      have HDV := Lib.hid hdv
      rw [hd] at hdl HIS
      obtain ⟨nl, hnl⟩ : ∃ nl, nl = ints (ndc G a) := ⟨_, rfl⟩
      have hnl11 : nl.length = 11 := by rw [hnl, ints_len11]
      have HQ : Hid (∀ j u, nl[j]? = some u → wr.cell? ((⟨g, a * 11, none⟩ : Addr).add j) = some u) := Lib.hid (by rw [hnl]; exact hoG.cellsN hak)
      have HN1 : Hid (∀ u ∈ nl, u.oneCell' = true) := Lib.hid (by rw [hnl]; exact ints_one _)
      have HN11 := Lib.hid hnl11
      have HNL := Lib.hid hnl
      have hGl := hoG.len
      have HGL := Lib.hid hGl
      have HOG := Lib.hid hoG
      have HER := Lib.hid er
      obtain ⟨z, hz⟩ : ∃ z, kI G a d = z := ⟨_, rfl⟩
      have hnd : nl[d]? = some (.int .i64 z) := by rw [hnl, ndc_get G a d (by omega), ← hz]; rfl
      have HND := Lib.hid hnd
      have HZ := Lib.hid hz
      rw [hz] at HIS
      clear hx hdx hd hdv hnl hnl11 hGl hoG er hz hnd
      go_upto_region 8 with (first
        | (refine wp_run rfl (exec_ixS 22 59 11 Try.underlying22 info_node _ rfl rfl .i64 (a : Int) a rfl rfl hak (show (⟨g, a * 11, none⟩ : Addr) = (⟨g, 0, none⟩ : Addr).add (a * 11) by rw [add_zero_addr])) ?_)
        | (refine wp_run rfl (exec_loadPS 59 rfl ⟨g, a * 11, none⟩ rfl nl _ HQ.out Try.underlying59 (by rw [info_node, HN11.out])) ?_)
        | (refine wp_storeA 59 (.tmp 9) (.tmp 28) rfl rfl wr.heap.size rfl 59 z11 nl rfl (Blk.new _ _ _) (by rw [info_node, HN11.out]) (by rw [HN11.out]; rfl) HN1.out rfl ?_; intro w8 h8 k8))
      have b8 : Below wr.heap.size wr w8 := ((Below.refl _ _).alloc (Nat.le_refl _) _).trans (k8.below (fun k hk => by omega) (by simp))
      have o8 := HOG.out.go b8
      have e8 := HER.out.past b8 (by omega)
      have bw8 := hbw.trans (b8.mono hbw.size)
      obtain ⟨gB, hgB⟩ : ∃ q, wr.heap.size = q := ⟨_, rfl⟩
      have hggB : g ≠ gB := by omega
      have hSB : w.heap.size + 2 ≤ gB := by omega
      rw [hgB] at h8 ⊢
      have hlB := h8.lt
      have cz8 : w8.cell? ⟨gB, d, none⟩ = some (.int .i64 z) := h8.cell HND.out
      have HO8 := Lib.hid o8
      have HE8 := Lib.hid e8
      clear k8 b8 hgB HQ HOG HER o8 e8 hbw
      by_cases hz0 : z = 0
      · subst hz0
        have HIS2 := HIS.out
        rw [if_pos rfl] at HIS2
        have HI2 := Lib.hid HIS2
        obtain ⟨nl9, hnl9⟩ : ∃ nl9, nl9 = nl.set d (.int .i64 (k : Int)) := ⟨_, rfl⟩
        have HNL9 : Hid (nl9 = ints ((ndc G a).set d (k : Int))) := Lib.hid (by rw [hnl9, HNL.out, ints_set])
        have HN9 := Lib.hid hnl9
        have HL9 : Hid (nl9.length = 11) := Lib.hid (by rw [hnl9, List.length_set, HN11.out])
        have HD9 : Hid (nl9[d]? = some (.int .i64 (k : Int))) := Lib.hid (by rw [hnl9, List.getElem?_set_self (by rw [HN11.out]; omega)])
        obtain ⟨i0, hi0, hz0n, hz1n, hz2n⟩ := info_parts info_node3
        clear HIS2 hnl9 HIS
        go_wp2_with (first
          | (refine wp_run rfl (exec_ixP 57 3 10 1 Try.underlying57 info_int _ rfl ⟨gB, 0, none⟩ rfl .i64 ((x.toNat : Int) - 48) d rfl HDV.out hdl (show (⟨gB, d, none⟩ : Addr) = (⟨gB, 0, none⟩ : Addr).add (d * 1) by rw [add_zero_addr, Nat.mul_one])) ?_)
          | (refine wp_store1 3 .i64 (.tmp 38) (.tmp 36) rfl rfl gB d rfl 59 nl (k : Int) rfl h8 (by rw [HN11.out]; omega) info_int rfl ?_; rw [← HN9.out]; intro w9 h9 k9; have o9 := HO8.out.keep k9 (fun q' hq' => by simp [Value.ownBlock] at hq'; omega); have e9 := HE8.out.keep k9 (by omega); have HB9 := Lib.hid (Blk.cellsP h9); have bw9 := bw8.trans (k9.below (fun q' hq' => by omega) bw8.size); have HO9 := Lib.hid o9; have HE9 := Lib.hid e9; have HK9 := Lib.hid h9; clear o9 e9 k9 h9 cz8)
          | (refine wp_run rfl (exec_loadPS 59 rfl ⟨gB, 0, none⟩ rfl nl9 _ HB9.out Try.underlying59 (by rw [info_node, HL9.out])) ?_)
          | (refine wp_run rfl (exec_ixS 22 59 11 Try.underlying22 info_node _ rfl rfl .i64 (a : Int) a rfl rfl hak (show (⟨g, a * 11, none⟩ : Addr) = (⟨g, 0, none⟩ : Addr).add (a * 11) by rw [add_zero_addr])) ?_)
          | (refine wp_storeNd (.tmp 42) (.tmp 41) rfl rfl rfl (w.heap.size + 2) k g c a G ((ndc G a).set d (k : Int)) rfl nl9 HNL9.out rfl (by rw [List.length_set, ndc_len]) HO9.out hak ?_; intro w10 o10 k10; have e10 := HE9.out.keep k10 (by omega); have h10 := HK9.out.keep k10 (fun h => hggB h.symm); have HO10 := Lib.hid o10; have HE10 := Lib.hid e10; have HK10 := Lib.hid h10; have bw10 := bw9.trans (k10.below (fun q' hq' => by omega) bw9.size); have hs10 : gB < w10.heap.size := h10.lt; clear o10 k10 e10 h10)
          | (refine wp_run rfl (exec_build1 22 59 11 i0 _ (by decide) (by decide) Try.underlying22 hi0 hz0n hz1n z11 rfl (.tmp 44) rfl rfl _) ?_)
          | (refine wp_appN1 (w.heap.size + 2) (.tmp 43) (.tmp 45) rfl rfl (.slice (some ⟨g, 0, none⟩) k c) k _ rfl rfl rfl HO10.out (by omega) (by omega) ?_; intro v11 w11 o11 g11; have hal : Below w10.heap.size w10 (w10.alloc (.cells z11.toArray 59)) := (Below.refl _ _).alloc (Nat.le_refl _) _; have kk : Keep (fun b => b ≠ g) w10 w11 := (Keep.of_below hal).trans (Keep.of_grew g11 (fun q' hq' h => h (by simp [Value.ownBlock] at hq'; exact hq'.symm))); have h11 := HK10.out.keep kk (fun h => hggB h.symm); have e11 := HE10.out.keep kk (by omega); have c11 : w11.cell? ⟨gB, d, none⟩ = some (.int .i64 (k : Int)) := h11.cell HD9.out; have HO11 := Lib.hid o11; have HE11 := Lib.hid e11; have bw11 := bw10.trans (kk.below (fun q' hq' => by omega) bw10.size); have hs11 : gB < w11.heap.size := h11.lt; clear o11 e11 hal kk h11))
        go_roundw
        case measure => show s.length - ((i : Int) + 1).toNat < s.length - ((i : Int)).toNat; omega
        case rel =>
          have o11 := HO11.out
          rw [node_set HGL.out hak (by omega)] at o11
          exact ⟨i + 1, k + 1, k, add G k a d, by simp, rfl, by omega, by omega, Lib.hid HI2.out, o11, HE11.out, bw11, by omega⟩
      · have hzb : (z == 0) = false := beq_eq_false_iff_ne.2 hz0
        have HIS2 := HIS.out
        rw [if_neg hz0] at HIS2
        have HI2 := Lib.hid HIS2
        have HZK : Hid (z = (kd G a d : Int)) := Lib.hid (by rw [← HZ.out]; exact (HTR.out.kid a d hak hdl (by rw [HZ.out]; exact hz0)).2.2.1)
        clear HIS2 HIS
        go_wp2_with (first
          | (refine wp_run rfl (exec_ixP 57 3 10 1 Try.underlying57 info_int _ rfl ⟨gB, 0, none⟩ rfl .i64 ((x.toNat : Int) - 48) d rfl HDV.out hdl (show (⟨gB, d, none⟩ : Addr) = (⟨gB, 0, none⟩ : Addr).add (d * 1) by rw [add_zero_addr, Nat.mul_one])) ?_))
        go_roundw
        case measure => show s.length - ((i : Int) + 1).toNat < s.length - ((i : Int)).toNat; omega
        case rel => exact ⟨i + 1, k, kd G a d, G, by simp, by rw [HZK.out], by omega, by omega, Lib.hid HI2.out, HO8.out, HE8.out, bw8, by omega⟩
    · obtain rfl : i = s.length := by omega
      have hRR : R = (G, k, a) := by
        have h1 := HI.out
        rw [List.take_length] at h1
        exact HR.out.symm.trans h1
      subst hRR
      go_wp2_with (first | (refine wp_storeA 24 (.tmp 4) (.tmp 52) rfl rfl (w.heap.size + 1) rfl 24 [.slice none 0 0] [.slice (some ⟨g, 0, none⟩) k c] rfl er (by rw [info_trie]; rfl) rfl (by intro v hv; simp at hv; subst hv; rfl) rfl ?_; intro w11 h11 k11))
      have o11 := hoG.keep k11 (fun q' hq' => by simp [Value.ownBlock] at hq'; omega)
      have bw11 := hbw.trans (k11.below (fun q' hq' => by omega) hbw.size)
      refine ret_row Try.results37 rfl (w.heap.size + 1) 24 _ _ rfl h11 Try.underlying24 rfl (by rw [info_trie]; rfl) ?_
      exact ⟨⟨_, rfl, o11.up (by omega)⟩, bw11⟩
end Go.Proofs.Ytippbkooaonajaa
