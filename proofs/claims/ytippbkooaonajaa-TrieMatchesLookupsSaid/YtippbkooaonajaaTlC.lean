/-
  Equality of prefixes with values and of nodes.
-/
import Derived.Test.YtippbkooaonajaaTlB
import Derived.Laws.StructEq
import Derived.Deep.Matrix
namespace Go.Proofs.Ytippbkooaonajaa
open Go.RowKit Dg Tr
set_option linter.unusedVariables false
set_option linter.unusedSimpArgs false

theorem info_str3 : (Try.prog.info? 9).map (·.size) = some 1 := by kernel_rfl
theorem cells_int : Try.prog.cellsOf 3 = 1 := by kernel_rfl
theorem agg_int (w : World) : (isAgg 3).run Try.prog w = .ok false w := by kernel_rfl
theorem agg_str (w : World) : (isAgg 9).run Try.prog w = .ok false w := by kernel_rfl
theorem agg_kids (w : World) : (isAgg 57).run Try.prog w = .ok true w := by kernel_rfl
theorem guard_pv : Try.prog.eqGuardType Try.prog.depth 45 = false := by kernel_rfl
theorem guard_nd : Try.prog.eqGuardType Try.prog.depth 59 = false := by kernel_rfl

theorem run_eqP (x y : Str × Int) (w : World) : (Op.equalIn 10000 45 (.agg (pvc x).toArray) (.agg (pvc y).toArray)).run Try.prog w = .ok (decide (x = y)) w := by
  rw [show (10000 : Nat) = 9999 + 1 from rfl, run_equalIn_struct w 9999 _ _ _ (by simp [Program.fieldsOf, Try.underlying45]) (by kernel_rfl)]
  simp only [Program.fieldsOf, Try.underlying45]
  simp [Op.eqFields, part, agg_str, agg_int, pvc, str, Sem.run_bind]
  rw [show (9999 : Nat) = 9998 + 1 from rfl, run_equalIn_string w 9998 9 _ _ Try.underlying9]
  simp only [Result.andThen_ok]
  rw [run_equalIn_int w 9998 3 .i64 .i64 _ _ Try.underlying3]
  obtain ⟨x1, x2⟩ := x
  obtain ⟨y1, y2⟩ := y
  simp only [str_list, Result.andThen_ok, Prod.mk.injEq]
  by_cases h1 : x1 = y1
  · subst h1
    by_cases h2 : x2 = y2
    · subst h2; simp
    · simp [h2]
  · have : (x1 == y1) = false := beq_eq_false_iff_ne.2 h1
    simp [h1]

theorem part_int (l : List Int) (i : Nat) (h : i < l.length) (w : World) : (part 3 (ints l).toArray (i * 1)).run Try.prog w = .ok (.int .i64 (l.getD i 0)) w := by
  have hc : (ints l).toArray[i]? = some (.int .i64 (l.getD i 0)) := by have := ints_getD h; simpa using this
  unfold part
  simp only [Sem.run_bind, agg_int, Result.andThen_ok, Bool.false_eq_true, if_false, Nat.mul_one, hc, Sem.run_pure]
theorem eqItems_int (d : Nat) (a b : List Int) (n : Nat) (ha : a.length = n) (hb : b.length = n) (w : World) : ∀ (m s : Nat), s + m = n →
    (Op.eqItems (d + 1) 3 1 (ints a).toArray (ints b).toArray (List.range' s m)).run Try.prog w = .ok (a.drop s == b.drop s) w
  | 0, s, h => by
    rw [List.drop_of_length_le (by omega), List.drop_of_length_le (by omega)]
    simp [Op.eqItems]
  | m + 1, s, h => by
    have hsa : s < a.length := by omega
    have hsb : s < b.length := by omega
    have ih := eqItems_int d a b n ha hb w m (s + 1) (by omega)
    have ea : a.getD s 0 = a[s] := by simp [hsa]
    have eb : b.getD s 0 = b[s] := by simp [hsb]
    rw [List.range'_succ, List.drop_eq_getElem_cons hsa, List.drop_eq_getElem_cons hsb]
    simp only [Op.eqItems, Sem.run_bind, part_int a s hsa, part_int b s hsb, Result.andThen_ok, run_equalIn_int w d 3 .i64 .i64 _ _ Try.underlying3, ea, eb]
    by_cases he : a[s] = b[s]
    · simp only [he, beq_self_eq_true, Bool.not_true, Bool.false_eq_true, if_false, ih, List.cons_beq_cons, Bool.true_and]
    · have h1 : (a[s] == b[s]) = false := beq_eq_false_iff_ne.2 he
      simp only [h1, Bool.not_false, if_true, Sem.run_pure, List.cons_beq_cons, Bool.false_and]
theorem run_eqK (a b : List Int) (ha : a.length = 10) (hb : b.length = 10) (w : World) : (Op.equalIn 9999 57 (.agg (ints a).toArray) (.agg (ints b).toArray)).run Try.prog w = .ok (a == b) w := by
  obtain ⟨i0, hi, _⟩ := info_parts info_int3
  rw [show (9999 : Nat) = 9998 + 1 from rfl, run_equalIn_array w 9998 _ _ Try.underlying57 hi, cells_int, List.range_eq_range']
  have h := eqItems_int 9997 a b 10 ha hb w 10 0 rfl
  simpa using h
theorem part_kids (l : List Int) (h : l.length = 11) (w : World) : (part 57 (ints l).toArray 0).run Try.prog w = .ok (.agg (ints (l.take 10)).toArray) w := by
  obtain ⟨i0, hi, hs⟩ := Option.map_eq_some_iff.1 info_kids
  unfold part
  have e : (ints l).toArray.extract 0 (0 + 10) = (ints (l.take 10)).toArray := by simp [ints, List.map_take]
  simp only [Sem.run_bind, agg_kids, Result.andThen_ok, if_true, sizeOf, typeInfo, run_program, hi, hs, Sem.run_pure, e]
theorem part_val (l : List Int) (h : l.length = 11) (w : World) : (part 3 (ints l).toArray 10).run Try.prog w = .ok (.int .i64 (l.getD 10 0)) w := part_int l 10 (by omega) w
theorem run_eqN (a b : List Int) (ha : a.length = 11) (hb : b.length = 11) (w : World) : (Op.equalIn 10000 59 (.agg (ints a).toArray) (.agg (ints b).toArray)).run Try.prog w = .ok (decide (a = b)) w := by
  rw [show (10000 : Nat) = 9999 + 1 from rfl, run_equalIn_struct w 9999 _ _ _ (by simp [Program.fieldsOf, Try.underlying59]) (by kernel_rfl)]
  simp only [Program.fieldsOf, Try.underlying59]
  simp only [Op.eqFields, Sem.run_bind, part_kids a ha, part_kids b hb, part_val a ha, part_val b hb, Result.andThen_ok]
  simp only [ne_eq, reduceCtorEq, not_false_eq_true, if_true, String.reduceEq, Sem.run_bind, part_kids a ha, part_kids b hb, part_val a ha, part_val b hb, Result.andThen_ok, run_eqK (a.take 10) (b.take 10) (by simp [ha]) (by simp [hb])]
  have hi9 : ∀ x y : Int, (Op.equalIn 9999 3 (.int .i64 x) (.int .i64 y)).run Try.prog w = .ok (x == y) w := fun x y => run_equalIn_int w 9998 3 .i64 .i64 x y Try.underlying3
  have hsplit : a = b ↔ a.take 10 = b.take 10 ∧ a.getD 10 0 = b.getD 10 0 := by
    constructor
    · rintro rfl; exact ⟨rfl, rfl⟩
    · rintro ⟨h1, h2⟩
      have e1 : a.drop 10 = [a.getD 10 0] := by rw [List.drop_eq_getElem_cons (by omega), List.drop_of_length_le (by omega)]; simp [ha]
      have e2 : b.drop 10 = [b.getD 10 0] := by rw [List.drop_eq_getElem_cons (by omega), List.drop_of_length_le (by omega)]; simp [hb]
      rw [← List.take_append_drop 10 a, ← List.take_append_drop 10 b, h1, e1, e2, h2]
  by_cases h1 : a.take 10 = b.take 10
  · have hb1 : (a.take 10 == b.take 10) = true := by rw [h1]; exact beq_self_eq_true _
    rw [hb1]
    simp only [Bool.not_true, Bool.false_eq_true, if_false, Sem.run_bind, part_val a ha, part_val b hb, Result.andThen_ok, hi9]
    by_cases h2 : a.getD 10 0 = b.getD 10 0
    · have hb2 : (a.getD 10 0 == b.getD 10 0) = true := by rw [h2]; exact beq_self_eq_true _
      rw [hb2, decide_eq_true (hsplit.2 ⟨h1, h2⟩)]
      simp
    · have hb2 : (a.getD 10 0 == b.getD 10 0) = false := beq_eq_false_iff_ne.2 h2
      rw [hb2, decide_eq_false (fun h => h2 (hsplit.1 h).2)]
      simp
  · have hb1 : (a.take 10 == b.take 10) = false := beq_eq_false_iff_ne.2 h1
    rw [hb1, decide_eq_false (fun h => h1 (hsplit.1 h).1)]
    simp

theorem exec_neqP {o : Oper} {act : Act} {x y : Operand} (ho : o.op = .binOp .neq 45 x y 45) (a b : Str × Int) (pa pb : List Value) (ea : pa = pvc a) (eb : pb = pvc b) (r : Bool) (hr : (!decide (a = b)) = r) (hx : act.eval x = .agg pa.toArray) (hy : act.eval y = .agg pb.toArray) (w : World) :
    (execOp act.eval o).run Try.prog w = .ok (.value (.bool r)) w := by
  subst ea eb hr
  unfold execOp
  simp only [ho, hx, hy, Sem.run_bind, run_eqGuard_agg _ _ _ _ _ _ _ guard_pv, run_neq_struct, run_eqP a b w, Result.andThen_ok, Sem.run_pure]
theorem exec_neqN {o : Oper} {act : Act} {x y : Operand} (ho : o.op = .binOp .neq 59 x y 59) (a b : List Int) (pa pb : List Value) (ea : pa = ints a) (eb : pb = ints b) (ha : a.length = 11) (hb : b.length = 11) (r : Bool) (hr : (!decide (a = b)) = r) (hx : act.eval x = .agg pa.toArray) (hy : act.eval y = .agg pb.toArray) (w : World) :
    (execOp act.eval o).run Try.prog w = .ok (.value (.bool r)) w := by
  subst ea eb hr
  unfold execOp
  simp only [ho, hx, hy, Sem.run_bind, run_eqGuard_agg _ _ _ _ _ _ _ guard_nd, run_neq_struct, run_eqN a b ha hb w, Result.andThen_ok, Sem.run_pure]

/-- Element i of a list that is read: its address, and its cells. -/
theorem Pl.at_ {w : World} {B : Nat} {A : Option Addr} {cap : Nat} {l : List (Str × Int)} (h : Pl w B (.slice A l.length cap) l) (hn : 0 < l.length) :
    ∃ ad, A = some ad ∧ ad.block < B ∧ ∀ i x, l[i]? = some x → ∀ j u, (pvc x)[j]? = some u → w.cell? ((ad.add (i * 2)).add j) = some u := by
  obtain ⟨ad, rfl, hb, hc⟩ := Row.at_ h hn
  refine ⟨ad, rfl, hb, fun i x hi j u hu => ?_⟩
  rw [add_twice]
  refine hc _ _ ?_
  obtain ⟨h1, h2⟩ := pvs_get hi
  have hj : j < 2 := by have := (List.getElem?_eq_some_iff.1 hu).1; simpa [pvc] using this
  rcases (by omega : j = 0 ∨ j = 1) with rfl | rfl
  · simp only [pvc, List.getElem?_cons_zero, Option.some.injEq] at hu
    rw [show i * 2 + 0 = 2 * i by omega, h1, hu]
  · simp only [pvc, List.getElem?_cons_succ, List.getElem?_cons_zero, Option.some.injEq] at hu
    rw [show i * 2 + 1 = 2 * i + 1 by omega, h2, hu]

set_option maxRecDepth 100000 in
set_option maxHeartbeats 1000000 in
theorem sameEntries_any (v u : Value) (l m : List (Str × Int)) (w : World) (hv : Pl w w.heap.size v l) (hu : Pl w w.heap.size u m) (hl : l.length ≤ 100000) (hm : m.length ≤ 100000) :
    Calls Try.prog 24 #[v, u] w fun e w' => e = .returned (.bool (decide (l = m))) ∧ Below w.heap.size w w' := by
  obtain ⟨A, c, rfl⟩ := row_form hv
  obtain ⟨A2, c2, rfl⟩ := row_form hu
  have HV := Lib.hid hv
  have HU := Lib.hid hu
  clear hv hu
  by_cases hlm : l.length = m.length
  · have hb : ((l.length : Int) == (m.length : Int)) = true := by rw [hlm]; simp
    have hb2 : ((l.length : Int) != (m.length : Int)) = false := by rw [bne, hb]; rfl
    have HLM := Lib.hid hlm
    have hle : l.length ≤ m.length := by omega
    clear hlm
    go_enter Try.func24, Try.ntmps24
    go_wp2_with fail
    go_loopw [5] (fun vi wr => ∃ i : Nat, vi = .int .i64 (i : Int) ∧ i ≤ l.length ∧ Hid (l.take i = m.take i) ∧ Below w.heap.size w wr) (fun vi wr => ixn l.length vi)
    case atStart => exact ⟨0, rfl, Nat.zero_le _, Lib.hid rfl, Below.refl _ _⟩
    case round =>
      obtain ⟨i, rfl, hi', HTK, hbw⟩ := hrel
      by_cases hlt : i < l.length
      · obtain ⟨ad, rfl, hab, hac⟩ := HV.out.at_ (by omega)
        obtain ⟨ad2, rfl, hab2, hac2⟩ := HU.out.at_ (by omega)
        have hltm : i < m.length := by omega
        obtain ⟨x, hx⟩ : ∃ x, l[i]? = some x := ⟨l[i], List.getElem?_eq_getElem hlt⟩
        obtain ⟨y, hy⟩ : ∃ y, m[i]? = some y := ⟨m[i], List.getElem?_eq_getElem (by omega)⟩
        have hcx := hac i x hx
        have hcy := hac2 i y hy
        obtain ⟨px, hpx⟩ : ∃ px, px = pvc x := ⟨_, rfl⟩
        obtain ⟨py, hpy⟩ : ∃ py, py = pvc y := ⟨_, rfl⟩
        rw [← hpx] at hcx
        rw [← hpy] at hcy
        have hpx2 : px.length = 2 := by rw [hpx]; rfl
        have hpy2 : py.length = 2 := by rw [hpy]; rfl
        have HX := Lib.hid hx
        have HY := Lib.hid hy
        have HCX := Lib.hid hcx
        have HCY := Lib.hid hcy
        have HPX := Lib.hid hpx
        have HPY := Lib.hid hpy
        have HPX2 := Lib.hid hpx2
        have HPY2 := Lib.hid hpy2
        clear hac hac2 hx hy hcx hcy hpx hpy hpx2 hpy2
        obtain ⟨bb, hbb⟩ : ∃ bb, (!decide (x = y)) = bb := ⟨_, rfl⟩
        have HBB := Lib.hid hbb
        clear hbb
        cases bb
        all_goals
          go_upto_region 6 with (fail)
          refine wp_region_pt w.heap.size (.take 0 (.take 1 (.take 2 (.take 3 (.take 4 (.take 5 (.take 6 (.take 7 (.take 8 .done))))))))) (by kernel_rfl) (by kernel_rfl) (by kernel_rfl) (fun _ _ h => h) ?_
          have b1 : Below w.heap.size w wr.drew := hbw.drew
          first | refine pt_skip rfl rfl rfl rfl ?_ | (refine pt_take rfl rfl rfl rfl ?_; apply Exists.intro; refine ⟨fun w' hw' => ?_, ?_⟩; focus ((repeat (first | go_skip | go_guarded | go_step | go_upon | go_back)); exact ⟨rfl, rfl, rfl⟩))
          first | refine pt_skip rfl rfl rfl rfl ?_ | (refine pt_take rfl rfl rfl rfl ?_; apply Exists.intro; refine ⟨fun w' hw' => ?_, ?_⟩; focus ((repeat (first | go_skip | go_guarded | go_step | go_upon | go_back)); exact ⟨rfl, rfl, rfl⟩))
          refine pt_take rfl rfl rfl rfl ?_
          apply Exists.intro
          refine ⟨fun w' hw' => ?_, ?_⟩
          · refine wp_run rfl (exec_ixS 38 45 2 Try.underlying38 info_pv2 w' rfl rfl .i64 (i : Int) i rfl rfl hlt (q := ad.add (i * 2)) rfl) ?_
            exact ⟨rfl, rfl, rfl⟩
          refine pt_take rfl rfl rfl rfl ?_
          apply Exists.intro
          refine ⟨fun w' hw' => ?_, ?_⟩
          · refine wp_run rfl (exec_loadPS 45 rfl (ad.add (i * 2)) rfl px _ (fun j u hu => ((b1.trans hw').cell (by rw [add_block, add_block]; exact hab)).trans (HCX.out j u hu)) Try.underlying45 (by rw [info_pv2, HPX2.out])) ?_
            exact ⟨rfl, rfl, rfl⟩
          first | refine pt_skip rfl rfl rfl rfl ?_ | (refine pt_take rfl rfl rfl rfl ?_; apply Exists.intro; refine ⟨fun w' hw' => ?_, ?_⟩; focus ((repeat (first | go_skip | go_guarded | go_step | go_upon | go_back)); exact ⟨rfl, rfl, rfl⟩))
          first | refine pt_skip rfl rfl rfl rfl ?_ | (refine pt_take rfl rfl rfl rfl ?_; apply Exists.intro; refine ⟨fun w' hw' => ?_, ?_⟩; focus ((repeat (first | go_skip | go_guarded | go_step | go_upon | go_back)); exact ⟨rfl, rfl, rfl⟩))
          refine pt_take rfl rfl rfl rfl ?_
          apply Exists.intro
          refine ⟨fun w' hw' => ?_, ?_⟩
          · refine wp_run rfl (exec_ixS 38 45 2 Try.underlying38 info_pv2 w' rfl rfl .i64 (i : Int) i rfl rfl hltm (q := ad2.add (i * 2)) rfl) ?_
            exact ⟨rfl, rfl, rfl⟩
          refine pt_take rfl rfl rfl rfl ?_
          apply Exists.intro
          refine ⟨fun w' hw' => ?_, ?_⟩
          · refine wp_run rfl (exec_loadPS 45 rfl (ad2.add (i * 2)) rfl py _ (fun j u hu => ((b1.trans hw').cell (by rw [add_block, add_block]; exact hab2)).trans (HCY.out j u hu)) Try.underlying45 (by rw [info_pv2, HPY2.out])) ?_
            exact ⟨rfl, rfl, rfl⟩
          refine pt_take rfl rfl rfl rfl ?_
          apply Exists.intro
          refine ⟨fun w' hw' => ?_, ?_⟩
          · refine wp_run rfl (exec_neqP rfl x y px py HPX.out HPY.out _ HBB.out rfl rfl w') ?_
            exact ⟨rfl, rfl, rfl⟩
          change Exit.then _ _ Exit.normal _ _
          clear b1
        · have hxy : x = y := by
            have h := HBB.out
            simpa using h
          have HXY := Lib.hid hxy
          have b1 : Below w.heap.size w wr.drew := hbw.drew
          clear hxy
          go_wp2_with fail
          go_roundw
          case measure => show l.length - ((i : Int) + 1).toNat < l.length - ((i : Int)).toNat; omega
          case rel => exact ⟨i + 1, by simp, by omega, Lib.hid (by rw [List.take_add_one, List.take_add_one, HX.out, HY.out, HTK.out, HXY.out]), b1⟩
        · have hxy : ¬ l = m := by
            have h := HBB.out
            intro he
            have h1 := HX.out
            rw [he, HY.out] at h1
            injection h1 with h1
            rw [h1] at h
            simp at h
          have b1 : Below w.heap.size w wr.drew := hbw.drew
          go_wp2_with fail
          go_ret
          exact ⟨by rw [decide_eq_false hxy]; rfl, b1⟩
      · have hlm : l = m := by
          have h := HTK.out
          have h2 := HLM.out
          rw [List.take_of_length_le (by omega), List.take_of_length_le (by omega)] at h
          exact h
        have HE : Hid (decide (l = m) = true) := Lib.hid (decide_eq_true hlm)
        clear hlm
        go_wp2_with fail
        go_ret
        exact ⟨by rw [HE.out]; rfl, hbw⟩
  · have hb : ((l.length : Int) == (m.length : Int)) = false := beq_eq_false_iff_ne.2 (by omega)
    have hb2 : ((l.length : Int) != (m.length : Int)) = true := by rw [bne, hb]; rfl
    have HE : Hid (decide (l = m) = false) := Lib.hid (decide_eq_false (fun h => hlm (by rw [h])))
    go_enter Try.func24, Try.ntmps24
    go_wp2_with fail
    go_ret
    exact ⟨by rw [HE.out]; rfl, Below.refl _ _⟩
end Go.Proofs.Ytippbkooaonajaa
