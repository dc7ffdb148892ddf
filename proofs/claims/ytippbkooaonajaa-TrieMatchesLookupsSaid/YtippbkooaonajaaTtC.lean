/-
  Package trie: isTree.
-/
import Derived.Test.YtippbkooaonajaaTtB
import Derived.Deep.OwnRows
namespace Go.Proofs.Ytippbkooaonajaa
open Go.RowKit Dg Tr
set_option linter.unusedVariables false
set_option linter.unusedSimpArgs false

theorem info_int3 : (Try.prog.info? 3).map (fun i => (i.zero, i.size, i.bytes)) = some (some (.int .i64 0), 1, 8) := by kernel_rfl
/-- The cells of node i. -/
def ndc (F : List Int) (i : Nat) : List Int := (List.range 11).map fun j => F.getD (11 * i + j) 0
theorem ndc_len (F : List Int) (i : Nat) : (ndc F i).length = 11 := by simp [ndc]
theorem ndc_get (F : List Int) (i j : Nat) (hj : j < 11) : (ints (ndc F i))[j]? = some (.int .i64 (F.getD (11 * i + j) 0)) := by
  simp [ndc, ints, i64, hj]
theorem ints_len11 (F : List Int) (i : Nat) : (ints (ndc F i)).length = 11 := by rw [ints_length, ndc_len]
theorem ndc_cells {w : World} {q : Addr} {F : List Int} {i : Nat} (h : ∀ j, j < 11 → w.cell? (q.add j) = some (.int .i64 (F.getD (11 * i + j) 0))) : ∀ j u, (ints (ndc F i))[j]? = some u → w.cell? (q.add j) = some u := by
  intro j u hu
  have hj : j < 11 := by have := (List.getElem?_eq_some_iff.1 hu).1; rwa [ints_len11] at this
  rw [ndc_get F i j hj] at hu
  injection hu with hu
  rw [← hu]; exact h j hj
/-- The children of node i. -/
def kdc (F : List Int) (i : Nat) : List Value := (ints (ndc F i)).take 10
theorem kdc_get (F : List Int) (i d : Nat) (hd : d < 10) : (kdc F i)[d]? = some (.int .i64 (kI F i d)) := by
  unfold kdc
  rw [List.getElem?_take, if_pos hd, ndc_get F i d (by omega)]; rfl
theorem kdc_len (F : List Int) (i : Nat) : (kdc F i).length = 10 := by unfold kdc; rw [List.length_take, ints_len11]; rfl
def z11 : List Value := List.replicate 11 (.int .i64 0)

/-- The answer is a bool that says whether p. -/
def IsB (p : Prop) (e : Ending) : Prop := ∃ r : Bool, e = .returned (.bool r) ∧ (r = true ↔ p)
theorem IsB.no {p : Prop} (h : ¬ p) : IsB p (.returned (.bool false)) := ⟨false, rfl, ⟨fun h => (by cases h), fun hp => absurd hp h⟩⟩
theorem IsB.yes {p : Prop} (h : p) : IsB p (.returned (.bool true)) := ⟨true, rfl, ⟨fun _ => h, fun _ => rfl⟩⟩

set_option maxRecDepth 100000 in
set_option maxHeartbeats 2000000 in
theorem isTree_any (A : Option Addr) (n cap : Nat) (F : List Int) (w : World) (hv : Nds w w.heap.size n (.slice A n cap) F) (hn : n ≤ 10000) :
    Calls Try.prog 40 #[.slice A n cap] w fun e w' => IsB (∃ E, Tree F n E) e ∧ Below w.heap.size w w' := by
  have hl := hv.len
  have HV := Lib.hid hv
  have HL := Lib.hid hl
  clear hv hl
  obtain ⟨i0, hi0, hz0, hz1, hz2⟩ := info_parts info_int3
  go_enter Try.func40, Try.ntmps40
  go_wp2_with (refine wpList_make_row _ rfl _ _ 75 rfl 3 i0 (.int .i64 0) Try.underlying75 hi0 hz0 hz1 rfl .i64 .i64 n rfl rfl (by rw [hz2]; omega) (by omega) ?_)
  have k0 : Blk (w.alloc (.cells (madeCells #[.int .i64 0] n) 3)) w.heap.size 3 (ints (List.replicate n 0)) := by
    have e : (madeCells #[.int .i64 0] n) = (ints (List.replicate n 0)).toArray := by
      apply Array.ext'
      rw [toList_madeCells_one]; simp [ints, i64]
    rw [e]; exact Blk.new _ _ _
  have b0 : Below w.heap.size w (w.alloc (.cells (madeCells #[.int .i64 0] n) 3)) := (Below.refl _ _).alloc (Nat.le_refl _) _
  obtain ⟨W0, hW0⟩ : ∃ W, W = w.alloc (.cells (madeCells #[.int .i64 0] n) 3) := ⟨_, rfl⟩
  rw [← hW0] at k0 b0 ⊢
  clear hW0
  go_loopw [13] (fun vi wr => ∃ (i : Nat) (E : List Int), vi = .int .i64 (i : Int) ∧ i ≤ n ∧ PI F n E i 0 i ∧ Blk wr w.heap.size 3 (ints E) ∧ Below w.heap.size w wr)
    (fun vi wr => ixn n vi)
  case atStart => exact ⟨0, _, rfl, Nat.zero_le _, PI.start F n, k0, b0⟩
  case round =>
    obtain ⟨i, E, rfl, hin', hP, kE, hbw⟩ := hrel
    clear k0 b0
    by_cases hin : i < n
    · obtain ⟨ad, rfl, hab, hac⟩ := HV.out.at_ (by omega)
      have hq : ∀ j, j < 11 → wr.cell? ((ad.add (i * 11)).add j) = some (.int .i64 (F.getD (11 * i + j) 0)) := fun j hj => (hbw.cell (by rw [add_block, add_block]; exact hab)).trans (hac i hin j hj)
      have hlE := hP.len
      obtain ⟨q, hqe⟩ : ∃ q, q = ad.add (i * 11) := ⟨_, rfl⟩
      rw [← hqe] at hq
      have HQE := Lib.hid hqe
      have HQ := Lib.hid (ndc_cells hq)
      have HP := Lib.hid hP
      obtain ⟨ei, hei⟩ : ∃ ei, E.getD i 0 = ei := ⟨_, rfl⟩
      have cI : wr.cell? ⟨w.heap.size, i, none⟩ = some (.int .i64 ei) := by rw [← hei]; exact kE.cell (ints_getD (by omega))
      have HEI := Lib.hid hei
      have hnn := hP.nn i
      rw [hei] at hnn
      obtain ⟨nl, hnl⟩ : ∃ nl, nl = ints (ndc F i) := ⟨_, rfl⟩
      rw [← hnl] at HQ
      have hnl11 : nl.length = 11 := by rw [hnl, ints_len11]
      have HN1 : Hid (∀ u ∈ nl, u.oneCell' = true) := Lib.hid (by rw [hnl]; exact ints_one _)
      have HNL := Lib.hid hnl
      have HN11 := Lib.hid hnl11
      have hgb : w.heap.size < wr.heap.size := kE.lt
      clear hqe hq hei hP hac hnl hnl11 hlE
      go_upto_region 5 with (first
        | (refine wp_run rfl (exec_ixS 22 59 11 Try.underlying22 info_node _ rfl rfl .i64 (i : Int) i rfl rfl hin HQE.out) ?_)
        | (refine wp_run rfl (exec_loadPS 59 rfl q rfl nl _ HQ.out Try.underlying59 (by rw [info_node, HN11.out])) ?_)
        | (refine wp_storeA 59 (.tmp 5) (.tmp 17) rfl rfl wr.heap.size rfl 59 z11 nl rfl (Blk.new _ _ _) (by rw [info_node, HN11.out]) (by rw [HN11.out]; rfl) HN1.out rfl ?_; intro w8 h8 k8))
      have b8 : Below wr.heap.size wr w8 := ((Below.refl _ _).alloc (Nat.le_refl _) _).trans (k8.below (fun k hk => by omega) (by simp))
      have kE8 := kE.past b8 hgb
      have cI8 := (b8.cell (p := ⟨w.heap.size, i, none⟩) hgb).trans cI
      have hb8 := hbw.trans (b8.mono hbw.size)
      clear cI b8 k8 kE hbw
      by_cases hbad : 0 < i ∧ ei = 0
      · obtain ⟨hi0, rfl⟩ := hbad
        go_wp2_with (first | (refine wp_run rfl (exec_ixS 75 3 1 Try.underlying75 info_int _ rfl rfl .i64 (i : Int) i rfl rfl hin (show (⟨w.heap.size, i, none⟩ : Addr) = (⟨w.heap.size, 0, none⟩ : Addr).add (i * 1) by rw [add_zero_addr, Nat.mul_one])) ?_))
        go_ret
        refine ⟨IsB.no (fun ⟨E', hT⟩ => (HP.out.bad1 hT hi0 hin HEI.out).elim), hb8⟩
      · have HP2 : Hid (PI F n E i 0 (i + 1)) := Lib.hid (HP.out.visit (by
          rw [HEI.out]
          by_cases h0 : i = 0
          · exact Or.inl h0
          · exact Or.inr fun h => hbad ⟨by omega, h⟩))
        obtain ⟨kl, hkl⟩ : ∃ kl, kl = (nl.drop 0).take 10 := ⟨_, rfl⟩
        have HKL : Hid (∀ d, d < 10 → kl[d]? = some (.int .i64 (kI F i d))) := Lib.hid (fun d hd => by rw [hkl, List.drop_zero, HNL.out]; exact kdc_get F i d hd)
        have HK0 := Lib.hid hkl
        clear hkl
        have split : ∀ (R : Prop), (∀ h0 : i ≤ 0, R) → (∀ (h0 : 0 < i) (h1 : (ei == 0) = false), R) → R := fun R h1 h2 => by
          by_cases h0 : i = 0
          · exact h1 (by omega)
          · exact h2 (by omega) (beq_eq_false_iff_ne.2 fun h => hbad ⟨by omega, h⟩)
        clear hbad
        have loadK : ∀ (a : Act) (o : Oper) (x : Operand), o.op = .load 57 x → a.eval x = .pointer (some ⟨wr.heap.size, 0, none⟩) → (execOp a.eval o).run Try.prog w8 = .ok (.value (.agg kl.toArray)) w8 := fun a o x ho hx => by
          rw [HK0.out]; exact exec_loadM 57 ho wr.heap.size 0 10 hx 59 nl 10 3 h8 Try.underlying57 (by rw [HN11.out]; omega) info_kids
        refine split _ (fun h0 => ?_) (fun h0 h1 => ?_)
        all_goals
          clear split
          go_wp2_with (first | (refine wp_run rfl (exec_ixS 75 3 1 Try.underlying75 info_int _ rfl rfl .i64 (i : Int) i rfl rfl hin (show (⟨w.heap.size, i, none⟩ : Addr) = (⟨w.heap.size, 0, none⟩ : Addr).add (i * 1) by rw [add_zero_addr, Nat.mul_one])) ?_) | (refine wp_run rfl (loadK _ _ _ rfl rfl) ?_))
          clear loadK cI8 HP HEI HQ
          go_loopw [29] (fun vd wx => ∃ (d : Nat) (E' : List Int), vd = .int .i64 (d : Int) ∧ d ≤ 10 ∧ PI F n E' i d (i + 1) ∧ Blk wx w.heap.size 3 (ints E') ∧ Below w.heap.size w wx)
            (fun vd wx => ixn 10 vd)
          case atStart => exact ⟨0, E, rfl, by omega, HP2.out, kE8, hb8⟩
          case round =>
            obtain ⟨d, E', rfl, hd, hP', kE, hbw⟩ := hrel
            clear kE8 hb8 h8 hgb
            by_cases hd10 : d < 10
            · obtain ⟨z, hz⟩ : ∃ z, kI F i d = z := ⟨_, rfl⟩
              have HZ : Hid (kl[d]? = some (.int .i64 z)) := Lib.hid (by rw [HKL.out d hd10, hz])
              have hix : ∀ W, (Instr.index 57 (.agg kl.toArray) (.int .i64 (d : Int))).run Try.prog W = .ok (.int .i64 z) W := fun W => run_indexA 57 3 10 .i64 Try.underlying57 Try.underlying3 info_int kl.toArray .i64 d hd10 (.int .i64 z) (by simpa using HZ.out) W
              have HZE := Lib.hid hz
              have HP := Lib.hid hP'
              have hlE := hP'.len
              clear hz hP'
              by_cases hz0 : z = 0
              · subst hz0
                go_wp2_with fail
                go_roundw
                case measure => show 10 - ((d : Int) + 1).toNat < 10 - ((d : Int)).toNat; omega
                case rel => exact ⟨d + 1, E', by simp, by omega, HP.out.skip HZE.out, kE, hbw⟩
              · have hzb : (z == 0) = false := beq_eq_false_iff_ne.2 hz0
                by_cases hz1 : z ≤ (i : Int)
                · go_wp2_with fail
                  go_ret
                  exact ⟨IsB.no (fun ⟨E', hT⟩ => (hT.bad2 hin hd10 (by rw [HZE.out]; exact hz0) (by rw [HZE.out]; exact Or.inl hz1)).elim), hbw⟩
                · by_cases hz2 : (n : Int) ≤ z
                  · go_wp2_with fail
                    go_ret
                    exact ⟨IsB.no (fun ⟨E', hT⟩ => (hT.bad2 hin hd10 (by rw [HZE.out]; exact hz0) (by rw [HZE.out]; exact Or.inr hz2)).elim), hbw⟩
                  · obtain ⟨k, rfl⟩ : ∃ k : Nat, z = (k : Int) := ⟨z.toNat, by omega⟩
                    have hkn : k < n := by omega
                    obtain ⟨ek, hek⟩ : ∃ ek, E'.getD k 0 = ek := ⟨_, rfl⟩
                    obtain ⟨ei', hei⟩ : ∃ ei', E'.getD i 0 = ei' := ⟨_, rfl⟩
                    have cK : wr.cell? ⟨w.heap.size, k, none⟩ = some (.int .i64 ek) := by rw [← hek]; exact kE.cell (ints_getD (by omega))
                    have cI : wr.cell? ⟨w.heap.size, i, none⟩ = some (.int .i64 ei') := by rw [← hei]; exact kE.cell (ints_getD (by omega))
                    have hnk := HP.out.nn k
                    have hni := HP.out.nn i
                    rw [hek] at hnk
                    rw [hei] at hni
                    have HEK := Lib.hid hek
                    have HEI := Lib.hid hei
                    clear hek hei
                    have HLE := Lib.hid hlE
                    have HKE := Lib.hid kE
                    clear hlE kE
                    by_cases hk0 : 0 < ek
                    · go_wp2_with (first | (refine wp_run rfl (exec_ixS 75 3 1 Try.underlying75 info_int _ rfl rfl .i64 (k : Int) k rfl rfl hkn (show (⟨w.heap.size, k, none⟩ : Addr) = (⟨w.heap.size, 0, none⟩ : Addr).add (k * 1) by rw [add_zero_addr, Nat.mul_one])) ?_) | (refine wp_run rfl (exec_ixS 75 3 1 Try.underlying75 info_int _ rfl rfl .i64 (i : Int) i rfl rfl hin (show (⟨w.heap.size, i, none⟩ : Addr) = (⟨w.heap.size, 0, none⟩ : Addr).add (i * 1) by rw [add_zero_addr, Nat.mul_one])) ?_))
                      go_ret
                      exact ⟨IsB.no (fun ⟨E', hT⟩ => (HP.out.bad3 hT hin hd10 HZE.out (by omega) (by rw [HEK.out]; omega)).elim), hbw⟩
                    · obtain rfl : ek = 0 := by omega
                      by_cases h15 : ei' = 15
                      · have h15b : (ei' == 15) = true := by rw [h15]; rfl
                        have HH15 := Lib.hid h15
                        clear h15
                        trace_state
                        go_wp2_with (first | (refine wp_run rfl (exec_ixS 75 3 1 Try.underlying75 info_int _ rfl rfl .i64 (k : Int) k rfl rfl hkn (show (⟨w.heap.size, k, none⟩ : Addr) = (⟨w.heap.size, 0, none⟩ : Addr).add (k * 1) by rw [add_zero_addr, Nat.mul_one])) ?_) | (refine wp_run rfl (exec_ixS 75 3 1 Try.underlying75 info_int _ rfl rfl .i64 (i : Int) i rfl rfl hin (show (⟨w.heap.size, i, none⟩ : Addr) = (⟨w.heap.size, 0, none⟩ : Addr).add (i * 1) by rw [add_zero_addr, Nat.mul_one])) ?_))
                        go_ret
                        exact ⟨IsB.no (fun ⟨E', hT⟩ => (HP.out.bad4 hT hin hd10 (by rw [HZE.out]; exact hz0) (HEI.out.trans HH15.out)).elim), hbw⟩
                      · have h15b : (ei' == 15) = false := beq_eq_false_iff_ne.2 h15
                        go_wp2_with (first | (refine wp_run rfl (exec_ixS 75 3 1 Try.underlying75 info_int _ rfl rfl .i64 (k : Int) k rfl rfl hkn (show (⟨w.heap.size, k, none⟩ : Addr) = (⟨w.heap.size, 0, none⟩ : Addr).add (k * 1) by rw [add_zero_addr, Nat.mul_one])) ?_) | (refine wp_run rfl (exec_ixS 75 3 1 Try.underlying75 info_int _ rfl rfl .i64 (i : Int) i rfl rfl hin (show (⟨w.heap.size, i, none⟩ : Addr) = (⟨w.heap.size, 0, none⟩ : Addr).add (i * 1) by rw [add_zero_addr, Nat.mul_one])) ?_) | (refine wp_store1 3 .i64 (.tmp 64) (.tmp 63) rfl rfl w.heap.size k rfl 3 (ints E') (ei' + 1) rfl HKE.out (by rw [ints_length, HLE.out]; exact hkn) info_int rfl ?_; intro w9 h9 k9))
                        have b9 : Below w.heap.size wr w9 := k9.below (fun q hq => by omega) hbw.size
                        have HP9 := HP.out.step hd10 hin HZE.out (by omega) hkn HEK.out (by rw [HEI.out]; exact h15)
                        rw [HEI.out] at HP9
                        rw [← ints_set] at h9
                        go_roundw
                        case measure => show 10 - ((d : Int) + 1).toNat < 10 - ((d : Int)).toNat; omega
                        case rel => exact ⟨d + 1, _, by simp, by omega, HP9, h9, hbw.trans b9⟩
            · obtain rfl : d = 10 := by omega
              have HP := Lib.hid hP'
              clear hP'
              go_wp2_with fail
              go_roundw
              case measure => show n - ((i : Int) + 1).toNat < n - ((i : Int)).toNat; omega
              case rel => exact ⟨i + 1, E', by simp, by omega, HP.out.next, kE, hbw⟩
    · obtain rfl : i = n := by omega
      have HP := Lib.hid hP
      clear hP
      by_cases h0 : 0 < i
      · go_wp2_with fail
        go_ret
        exact ⟨IsB.yes (HP.out.tree h0 HL.out), hbw⟩
      · obtain rfl : i = 0 := by omega
        go_wp2_with fail
        go_ret
        exact ⟨IsB.no (fun ⟨E', hT⟩ => absurd hT.pos (by omega)), hbw⟩
end Go.Proofs.Ytippbkooaonajaa
