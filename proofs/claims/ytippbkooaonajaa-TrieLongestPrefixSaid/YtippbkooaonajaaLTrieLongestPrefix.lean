/-
  TrieLongestPrefix: the walk of the law.
-/
import Derived.Test.YtippbkooaonajaaTrE
import Derived.Test.YtippbkooaonajaaTrF
namespace Go.Proofs.Ytippbkooaonajaa
open Go.RowKit Dg Tr
set_option linter.unusedVariables false
set_option linter.unusedSimpArgs false

theorem info_pv45 : (Try.prog.info? 45).map (·.size) = some 2 := by kernel_rfl
theorem build0_pv (w : World) : (Instr.build 45 #[]).run Try.prog w = .ok (.agg #[.string ⟨#[]⟩, .int .i64 0]) w := by kernel_rfl
theorem exec_build0 {o : Oper} {a : Act} (ho : o.op = .build 45 #[]) (w : World) : (execOp a.eval o).run Try.prog w = .ok (.value (.agg #[.string ⟨#[]⟩, .int .i64 0])) w := by
  unfold execOp
  have h : (#[] : Array (Nat × Operand)).map (fun (i, x) => (i, a.eval x)) = #[] := by simp
  simp only [ho, h, Sem.run_bind, build0_pv, Result.andThen_ok, Sem.run_pure]
/-- Skipped, whatever the slot held. -/
theorem pt_skipu {P : Program} {ops : Array Oper} {R : Act → World → Prop} {base : Nat} {i : Nat} {r : PT} {a : Act} {w : World} {o : Oper} {d : Nat} (ho : ops[i]? = some o) (hd : o.dst = some d)
    (hw : Region.wanted o (yielded ops a.tmps) = false) (h : wpPT base P ops R r (a.put (some d) undef) w) : wpPT base P ops R (.take i r) a w :=
  ⟨o, undef, ho, Or.inr ⟨hw, rfl⟩, by rw [hd]; exact h⟩
/-- The best entry so far, in its box. -/
def bst (r : Option (Str × Int)) : List Value := pvc (r.getD ([], 0))

set_option maxRecDepth 100000 in
set_option maxHeartbeats 4000000 in
theorem trieLongestPrefix_walk (v : Value) (l : List (Str × Int)) (s : Str) (w : World) (hv : Pl w w.heap.size v l) (hu : ∀ x ∈ l, Upd x) (hs : s.length ≤ maxLen) :
    Calls Try.prog 5 #[v, str s] w fun e w' => e = .returned (.bool true) ∧ Below w.heap.size w w' := by
  have hsz := str_size s
  have hml : maxLen = 9223372036854775807 := rfl
  unfold str
  have HU := Lib.hid hu
  clear hu
  go_enter Try.func5, Try.ntmps5
  go_wp2_with fail
  refine (sane_any w).mono ?_
  rintro e w1 ⟨rfl, b1⟩
  have v1 : Pl w1 w1.heap.size v l := Row.past hv b1
  clear hv
  go_wp2_with fail
  refine (short_any v l w1 v1 HU.out).mono ?_
  rintro e w2 ⟨⟨r, rfl, hr⟩, bx⟩
  have v2 : Pl w2 w2.heap.size v l := Row.past v1 bx
  have b2 := b1.trans (bx.mono b1.size)
  clear v1 bx b1
  cases r with
  | false =>
    clear hr
    go_wp2_with fail
    go_ret
    exact ⟨rfl, b2⟩
  | true =>
  obtain ⟨hl60, hl40⟩ := hr rfl
  have HL40 := Lib.hid hl40
  clear hr hl40
  by_cases hbs : 40 < s.length
  · go_wp2_with fail
    go_ret
    exact ⟨rfl, b2⟩
  go_wp2_with fail
  refine (built_any v l w2 v2 HU.out hl60 HL40.out).mono ?_
  rintro e w3 ⟨⟨Ax, nx, cx, X, K, u, rfl, hkp, hKl, xn, kp⟩, bx⟩
  have b3 := b2.trans (bx.mono b2.size)
  have HKP := Lib.hid hkp
  have hnx := hkp.le
  clear v2 bx b2 hkp
  go_wp2_with (first | (refine wp_storeA 24 (.tmp 5) (.tmp 26) rfl rfl w3.heap.size rfl 24 [.slice none 0 0] [.slice Ax nx cx] rfl (Blk.new _ _ _) (by rw [info_trie]; rfl) rfl (by intro v hv; simp at hv; subst hv; rfl) rfl ?_; intro w4 kx kkx; have bx : Below w3.heap.size w3 w4 := ((Below.refl _ _).alloc (Nat.le_refl _) _).trans (kkx.below (fun q hq => by omega) (by simp)); have t4 := TrV.laidN xn bx kx; have p4 : Pl w4 w4.heap.size u K := Row.past kp bx; have b4 := b3.trans (bx.mono b3.size); clear kkx bx kx xn kp b3) | (refine wp_run rfl (exec_build0 rfl _) ?_) | (refine wp_storeA 45 (.tmp 7) (.tmp 28) rfl rfl w4.heap.size rfl 45 [.string ⟨#[]⟩, .int .i64 0] [.string ⟨#[]⟩, .int .i64 0] rfl (Blk.new _ _ _) (by rw [info_pv45]; rfl) rfl (by intro v hv; simp at hv; rcases hv with rfl | rfl <;> rfl) rfl ?_; intro w5 ky kky; have by_ : Below w4.heap.size w4 w5 := ((Below.refl _ _).alloc (Nat.le_refl _) _).trans (kky.below (fun q hq => by omega) (by simp)); have b5 := b4.trans (by_.mono b4.size); clear kky))
  obtain ⟨Ak, ck, rfl⟩ := row_form p4
  obtain ⟨g5, hg5⟩ : ∃ q, w3.heap.size = q := ⟨_, rfl⟩
  rw [hg5] at t4 ⊢
  clear hg5
  obtain ⟨g7, hg7⟩ : ∃ q, w4.heap.size = q := ⟨_, rfl⟩
  have HG7 := Lib.hid hg7
  rw [hg7] at ky by_ ⊢
  clear hg7 hbs HL40 HU hl60
  go_loopw [8, 9] (fun vb vi wr => ∃ (i : Nat) (r : Option (Str × Int)), vb = .bool r.isSome ∧ vi = .int .i64 (i : Int) ∧ i ≤ K.length ∧ Be (K.take i) s r ∧ Blk wr g7 45 (bst r) ∧ Below g7 w4 wr) (fun vb vi wr => ixn K.length vi)
  case atStart => exact ⟨0, none, rfl, rfl, Nat.zero_le _, be_nil K s, ky, by_⟩
  case round =>
    clear ky by_
    obtain ⟨i, r, rfl, rfl, hi', hbe, ky0, hbw⟩ := hrel
    have HBE := Lib.hid hbe
    have hg7 : g7 < wr.heap.size := ky0.lt
    clear hbe
    by_cases hlt : i < K.length
    · obtain ⟨⟨p, z⟩, hx⟩ : ∃ x, K[i]? = some x := ⟨_, List.getElem?_eq_getElem hlt⟩
      obtain ⟨ad, q, px, hA, hqe, hpx, hpx2, hqb, _, hcs, hcz⟩ := Pl.elem (W := wr) p4 (by rw [HG7.out]; exact hbw) hx
      subst hA
      have hp15 : p.length ≤ 15 := (HKP.out.has (List.mem_of_getElem? hx)).1
      have HQE := Lib.hid hqe
      have HSN := Lib.hid (be_snoc hx HBE.out)
      have hpz := str_size p
      have hqw : q.block < wr.heap.size := by have := HG7.out; omega
      have HQB := Lib.hid hqw
      unfold str at hcs
      have HCS := Lib.hid hcs
      have HCZ := Lib.hid hcz
      obtain ⟨pb, hpb⟩ : ∃ b, pre p s = b := ⟨_, rfl⟩
      have HPB := Lib.hid hpb
      clear hqe hpx hpx2 hx hqb hcs hcz hpb hqw
      cases pb with
      | false =>
        have HNP : Hid (¬ p <+: s) := Lib.hid (by rw [← pre_iff, HPB.out]; simp)
        obtain ⟨fb, hfb⟩ : ∃ b, r.isSome = b := ⟨_, rfl⟩
        rw [hfb]
        have HFB := Lib.hid hfb
        clear hfb
        go_upto_region 11 with (fail)
        refine wp_region_pt wr.heap.size (.take 0 (.take 1 (.take 2 (.take 3 (.take 4 (.take 5 (.step 6 (.take 7 (.take 8 (.take 9 (.take 10 (.take 11 (.take 12 (.take 13 (.take 14 (.take 15 (.take 16 (.take 17 (.take 18 (.take 19 (.take 20 (.take 21 (.take 22 .done))))))))))))))))))))))) (by kernel_rfl) (by kernel_rfl) (by kernel_rfl) (fun _ _ h => h) ?_
        obtain ⟨w6, hdr⟩ : ∃ x, x = wr.drew := ⟨_, rfl⟩
        have bx : Below wr.heap.size wr w6 := by rw [hdr]; exact (Below.refl _ _).drew
        have ky6 := ky0.past bx ky0.lt
        have b6 := hbw.trans (bx.mono (Nat.le_of_lt hg7))
        have cs6 := (bx.cell HQB.out).trans HCS.out
        have cz6 := (bx.cell (p := ⟨q.block, q.off + 1, none⟩) HQB.out).trans HCZ.out
        rw [← hdr]
        clear hdr bx
        first | refine pt_skip rfl rfl rfl rfl ?_ | (refine pt_take rfl rfl rfl rfl ?_; apply Exists.intro; refine ⟨fun w' hw' => ?_, ?_⟩; focus ((repeat (first | go_skip | go_guarded | go_step | go_upon | go_back)); exact ⟨rfl, rfl, rfl⟩))
        first | refine pt_skip rfl rfl rfl rfl ?_ | (refine pt_take rfl rfl rfl rfl ?_; apply Exists.intro; refine ⟨fun w' hw' => ?_, ?_⟩; focus ((repeat (first | go_skip | go_guarded | go_step | go_upon | go_back)); exact ⟨rfl, rfl, rfl⟩))
        first | refine pt_skip rfl rfl rfl rfl ?_ | (refine pt_take rfl rfl rfl rfl ?_; apply Exists.intro; refine ⟨fun w' hw' => ?_, ?_⟩; focus ((repeat (first | go_skip | go_guarded | go_step | go_upon | go_back)); exact ⟨rfl, rfl, rfl⟩))
        refine pt_take rfl rfl rfl rfl ?_
        apply Exists.intro
        refine ⟨fun w' hw' => ?_, ?_⟩
        · refine wp_run rfl (exec_ixS 38 45 2 Try.underlying38 info_pv2 w' rfl rfl .i64 (i : Int) i rfl rfl hlt HQE.out) ?_
          exact ⟨rfl, rfl, rfl⟩
        first | refine pt_skip rfl rfl rfl rfl ?_ | (refine pt_take rfl rfl rfl rfl ?_; apply Exists.intro; refine ⟨fun w' hw' => ?_, ?_⟩; focus ((repeat (first | go_skip | go_guarded | go_step | go_upon | go_back)); exact ⟨rfl, rfl, rfl⟩))
        refine pt_take rfl rfl rfl rfl ?_
        apply Exists.intro
        refine ⟨fun w' hw' => ?_, ?_⟩
        · have hcell := (hw'.cell (p := q) HQB.out).trans cs6
          focus ((repeat (first | go_skip | go_guarded | go_step | go_upon | go_back)); exact ⟨rfl, rfl, rfl⟩)
        refine pt_step rfl ?_
        go_wp2_with fail
        have hC := starts_any s p w6 (by omega) (by omega)
        rw [HPB.out] at hC
        unfold str at hC
        refine hC.mono ?_
        rintro e w7 ⟨rfl, rfl⟩
        clear hC
        go_wp2_with fail
        refine ⟨rfl, Below.refl _ _, ?_⟩
        first | refine pt_skip rfl rfl rfl rfl ?_ | (refine pt_take rfl rfl rfl rfl ?_; apply Exists.intro; refine ⟨fun w' hw' => ?_, ?_⟩; focus ((repeat (first | go_skip | go_guarded | go_step | go_upon | go_back)); exact ⟨rfl, rfl, rfl⟩))
        first | refine pt_skip rfl rfl rfl rfl ?_ | (refine pt_take rfl rfl rfl rfl ?_; apply Exists.intro; refine ⟨fun w' hw' => ?_, ?_⟩; focus ((repeat (first | go_skip | go_guarded | go_step | go_upon | go_back)); exact ⟨rfl, rfl, rfl⟩))
        first | refine pt_skip rfl rfl rfl rfl ?_ | (refine pt_take rfl rfl rfl rfl ?_; apply Exists.intro; refine ⟨fun w' hw' => ?_, ?_⟩; focus ((repeat (first | go_skip | go_guarded | go_step | go_upon | go_back)); exact ⟨rfl, rfl, rfl⟩))
        first | refine pt_skip rfl rfl rfl rfl ?_ | (refine pt_take rfl rfl rfl rfl ?_; apply Exists.intro; refine ⟨fun w' hw' => ?_, ?_⟩; focus ((repeat (first | go_skip | go_guarded | go_step | go_upon | go_back)); exact ⟨rfl, rfl, rfl⟩))
        refine pt_skipu rfl rfl rfl ?_
        simp only [Act.put, List.setIfInBounds_toArray, List.set_cons_succ, List.set_cons_zero]
        refine pt_skipu rfl rfl rfl ?_
        simp only [Act.put, List.setIfInBounds_toArray, List.set_cons_succ, List.set_cons_zero]
        refine pt_skipu rfl rfl rfl ?_
        simp only [Act.put, List.setIfInBounds_toArray, List.set_cons_succ, List.set_cons_zero]
        refine pt_skipu rfl rfl rfl ?_
        simp only [Act.put, List.setIfInBounds_toArray, List.set_cons_succ, List.set_cons_zero]
        refine pt_skipu rfl rfl rfl ?_
        simp only [Act.put, List.setIfInBounds_toArray, List.set_cons_succ, List.set_cons_zero]
        refine pt_skipu rfl rfl rfl ?_
        simp only [Act.put, List.setIfInBounds_toArray, List.set_cons_succ, List.set_cons_zero]
        refine pt_skipu rfl rfl rfl ?_
        simp only [Act.put, List.setIfInBounds_toArray, List.set_cons_succ, List.set_cons_zero]
        refine pt_skipu rfl rfl rfl ?_
        simp only [Act.put, List.setIfInBounds_toArray, List.set_cons_succ, List.set_cons_zero]
        refine pt_skipu rfl rfl rfl ?_
        simp only [Act.put, List.setIfInBounds_toArray, List.set_cons_succ, List.set_cons_zero]
        refine pt_skipu rfl rfl rfl ?_
        simp only [Act.put, List.setIfInBounds_toArray, List.set_cons_succ, List.set_cons_zero]
        refine pt_skipu rfl rfl rfl ?_
        simp only [Act.put, List.setIfInBounds_toArray, List.set_cons_succ, List.set_cons_zero]
        first | refine pt_skip rfl rfl rfl rfl ?_ | (refine pt_take rfl rfl rfl rfl ?_; apply Exists.intro; refine ⟨fun w' hw' => ?_, ?_⟩; focus ((repeat (first | go_skip | go_guarded | go_step | go_upon | go_back)); exact ⟨rfl, rfl, rfl⟩))
        change Exit.then _ _ Exit.normal _ _
        clear HCS HCZ
        go_wp2_with fail
        go_roundw
        case measure => show K.length - ((i : Int) + 1).toNat < K.length - ((i : Int)).toNat; omega
        case rel =>
          have h := HSN.out
          rw [if_neg (fun h => HNP.out h.1)] at h
          exact ⟨i + 1, r, by rw [HFB.out], by simp, by omega, h, ky6, b6⟩
      | true =>
        have HYP : Hid (p <+: s) := Lib.hid (pre_iff.1 HPB.out)
        cases r with
        | none =>
          change _
          simp only [Option.isSome_none]
          go_upto_region 11 with (fail)
          refine wp_region_pt wr.heap.size (.take 0 (.take 1 (.take 2 (.take 3 (.take 4 (.take 5 (.step 6 (.take 7 (.take 8 (.take 9 (.take 10 (.take 11 (.take 12 (.take 13 (.take 14 (.take 15 (.take 16 (.take 17 (.take 18 (.take 19 (.take 20 (.take 21 (.take 22 .done))))))))))))))))))))))) (by kernel_rfl) (by kernel_rfl) (by kernel_rfl) (fun _ _ h => h) ?_
          obtain ⟨w6, hdr⟩ : ∃ x, x = wr.drew := ⟨_, rfl⟩
          have bx : Below wr.heap.size wr w6 := by rw [hdr]; exact (Below.refl _ _).drew
          have ky6 := ky0.past bx ky0.lt
          have b6 := hbw.trans (bx.mono (Nat.le_of_lt hg7))
          have cs6 := (bx.cell HQB.out).trans HCS.out
          have cz6 := (bx.cell (p := ⟨q.block, q.off + 1, none⟩) HQB.out).trans HCZ.out
          rw [← hdr]
          clear hdr bx
          first | refine pt_skip rfl rfl rfl rfl ?_ | (refine pt_take rfl rfl rfl rfl ?_; apply Exists.intro; refine ⟨fun w' hw' => ?_, ?_⟩; focus ((repeat (first | go_skip | go_guarded | go_step | go_upon | go_back)); exact ⟨rfl, rfl, rfl⟩))
          first | refine pt_skip rfl rfl rfl rfl ?_ | (refine pt_take rfl rfl rfl rfl ?_; apply Exists.intro; refine ⟨fun w' hw' => ?_, ?_⟩; focus ((repeat (first | go_skip | go_guarded | go_step | go_upon | go_back)); exact ⟨rfl, rfl, rfl⟩))
          first | refine pt_skip rfl rfl rfl rfl ?_ | (refine pt_take rfl rfl rfl rfl ?_; apply Exists.intro; refine ⟨fun w' hw' => ?_, ?_⟩; focus ((repeat (first | go_skip | go_guarded | go_step | go_upon | go_back)); exact ⟨rfl, rfl, rfl⟩))
          refine pt_take rfl rfl rfl rfl ?_
          apply Exists.intro
          refine ⟨fun w' hw' => ?_, ?_⟩
          · refine wp_run rfl (exec_ixS 38 45 2 Try.underlying38 info_pv2 w' rfl rfl .i64 (i : Int) i rfl rfl hlt HQE.out) ?_
            exact ⟨rfl, rfl, rfl⟩
          first | refine pt_skip rfl rfl rfl rfl ?_ | (refine pt_take rfl rfl rfl rfl ?_; apply Exists.intro; refine ⟨fun w' hw' => ?_, ?_⟩; focus ((repeat (first | go_skip | go_guarded | go_step | go_upon | go_back)); exact ⟨rfl, rfl, rfl⟩))
          refine pt_take rfl rfl rfl rfl ?_
          apply Exists.intro
          refine ⟨fun w' hw' => ?_, ?_⟩
          · have hcell := (hw'.cell (p := q) HQB.out).trans cs6
            focus ((repeat (first | go_skip | go_guarded | go_step | go_upon | go_back)); exact ⟨rfl, rfl, rfl⟩)
          refine pt_step rfl ?_
          go_wp2_with fail
          have hC := starts_any s p w6 (by omega) (by omega)
          rw [HPB.out] at hC
          unfold str at hC
          refine hC.mono ?_
          rintro e w7 ⟨rfl, rfl⟩
          clear hC
          go_wp2_with fail
          refine ⟨rfl, Below.refl _ _, ?_⟩
          first | refine pt_skip rfl rfl rfl rfl ?_ | (refine pt_take rfl rfl rfl rfl ?_; apply Exists.intro; refine ⟨fun w' hw' => ?_, ?_⟩; focus ((repeat (first | go_skip | go_guarded | go_step | go_upon | go_back)); exact ⟨rfl, rfl, rfl⟩))
          first | refine pt_skip rfl rfl rfl rfl ?_ | (refine pt_take rfl rfl rfl rfl ?_; apply Exists.intro; refine ⟨fun w' hw' => ?_, ?_⟩; focus ((repeat (first | go_skip | go_guarded | go_step | go_upon | go_back)); exact ⟨rfl, rfl, rfl⟩))
          first | refine pt_skip rfl rfl rfl rfl ?_ | (refine pt_take rfl rfl rfl rfl ?_; apply Exists.intro; refine ⟨fun w' hw' => ?_, ?_⟩; focus ((repeat (first | go_skip | go_guarded | go_step | go_upon | go_back)); exact ⟨rfl, rfl, rfl⟩))
          first | refine pt_skip rfl rfl rfl rfl ?_ | (refine pt_take rfl rfl rfl rfl ?_; apply Exists.intro; refine ⟨fun w' hw' => ?_, ?_⟩; focus ((repeat (first | go_skip | go_guarded | go_step | go_upon | go_back)); exact ⟨rfl, rfl, rfl⟩))
          refine pt_skipu rfl rfl rfl ?_
          simp only [Act.put, List.setIfInBounds_toArray, List.set_cons_succ, List.set_cons_zero]
          refine pt_skipu rfl rfl rfl ?_
          simp only [Act.put, List.setIfInBounds_toArray, List.set_cons_succ, List.set_cons_zero]
          refine pt_skipu rfl rfl rfl ?_
          simp only [Act.put, List.setIfInBounds_toArray, List.set_cons_succ, List.set_cons_zero]
          refine pt_skipu rfl rfl rfl ?_
          simp only [Act.put, List.setIfInBounds_toArray, List.set_cons_succ, List.set_cons_zero]
          refine pt_skipu rfl rfl rfl ?_
          simp only [Act.put, List.setIfInBounds_toArray, List.set_cons_succ, List.set_cons_zero]
          refine pt_skipu rfl rfl rfl ?_
          simp only [Act.put, List.setIfInBounds_toArray, List.set_cons_succ, List.set_cons_zero]
          refine pt_skipu rfl rfl rfl ?_
          simp only [Act.put, List.setIfInBounds_toArray, List.set_cons_succ, List.set_cons_zero]
          refine pt_skipu rfl rfl rfl ?_
          simp only [Act.put, List.setIfInBounds_toArray, List.set_cons_succ, List.set_cons_zero]
          refine pt_skipu rfl rfl rfl ?_
          simp only [Act.put, List.setIfInBounds_toArray, List.set_cons_succ, List.set_cons_zero]
          refine pt_skipu rfl rfl rfl ?_
          simp only [Act.put, List.setIfInBounds_toArray, List.set_cons_succ, List.set_cons_zero]
          first | refine pt_skip rfl rfl rfl rfl ?_ | (refine pt_take rfl rfl rfl rfl ?_; apply Exists.intro; refine ⟨fun w' hw' => ?_, ?_⟩; focus ((repeat (first | go_skip | go_guarded | go_step | go_upon | go_back)); exact ⟨rfl, rfl, rfl⟩))
          first | refine pt_skip rfl rfl rfl rfl ?_ | (refine pt_take rfl rfl rfl rfl ?_; apply Exists.intro; refine ⟨fun w' hw' => ?_, ?_⟩; focus ((repeat (first | go_skip | go_guarded | go_step | go_upon | go_back)); exact ⟨rfl, rfl, rfl⟩))
          change Exit.then _ _ Exit.normal _ _
          have HCL : Hid (∀ j u, ([.string ⟨p.toArray⟩, .int .i64 z] : List Value)[j]? = some u → w7.cell? (q.add j) = some u) := Lib.hid (by
            intro j u hu
            match j, hu with
            | 0, hu => simp at hu; subst hu; rw [add_nil]; exact cs6
            | 1, hu => simp at hu; subst hu; exact cz6
            | j + 2, hu => simp at hu)
          go_wp2_with (first | (refine wp_run rfl (exec_ixS 38 45 2 Try.underlying38 info_pv2 _ rfl rfl .i64 (i : Int) i rfl rfl hlt HQE.out) ?_) | (refine wp_run rfl (exec_loadPS 45 rfl q rfl [.string ⟨p.toArray⟩, .int .i64 z] _ HCL.out Try.underlying45 (by rw [info_pv2]; rfl)) ?_) | (refine wp_storeA 45 (.tmp 7) (.tmp 61) rfl rfl g7 rfl 45 _ [.string ⟨p.toArray⟩, .int .i64 z] rfl ky6 (by rw [info_pv45]; rfl) rfl (by intro v hv; simp at hv; rcases hv with rfl | rfl <;> rfl) rfl ?_; intro w8 ky8 kk8))
          have b8 := b6.trans (kk8.below (fun q hq => by omega) (Nat.le_of_lt ky6.lt))
          go_roundw
          case measure => show K.length - ((i : Int) + 1).toNat < K.length - ((i : Int)).toNat; omega
          case rel =>
            have h := HSN.out
            rw [if_pos ⟨HYP.out, Or.inl trivial⟩] at h
            exact ⟨i + 1, some (p, z), rfl, by simp, by omega, h, ky8, b8⟩
        | some y =>
          obtain ⟨y1, y2⟩ := y
          simp only [Option.isSome_some]
          have hyk := (HBE.out).1
          have hy15 : y1.length ≤ 15 := (HKP.out.has (List.mem_of_mem_take hyk)).1
          clear hyk
          have hyz := str_size y1
          by_cases hgt : y1.length < p.length
          · skip
            go_upto_region 11 with (fail)
            refine wp_region_pt wr.heap.size (.take 0 (.take 1 (.take 2 (.take 3 (.take 4 (.take 5 (.step 6 (.take 7 (.take 8 (.take 9 (.take 10 (.take 11 (.take 12 (.take 13 (.take 14 (.take 15 (.take 16 (.take 17 (.take 18 (.take 19 (.take 20 (.take 21 (.take 22 .done))))))))))))))))))))))) (by kernel_rfl) (by kernel_rfl) (by kernel_rfl) (fun _ _ h => h) ?_
            obtain ⟨w6, hdr⟩ : ∃ x, x = wr.drew := ⟨_, rfl⟩
            have bx : Below wr.heap.size wr w6 := by rw [hdr]; exact (Below.refl _ _).drew
            have ky6 := ky0.past bx ky0.lt
            have b6 := hbw.trans (bx.mono (Nat.le_of_lt hg7))
            have cs6 := (bx.cell HQB.out).trans HCS.out
            have cz6 := (bx.cell (p := ⟨q.block, q.off + 1, none⟩) HQB.out).trans HCZ.out
            have cb6 : w6.cell? ⟨g7, 0, none⟩ = some (.string ⟨y1.toArray⟩) := ky6.cell (j := 0) rfl
            rw [← hdr]
            clear hdr bx
            first | refine pt_skip rfl rfl rfl rfl ?_ | (refine pt_take rfl rfl rfl rfl ?_; apply Exists.intro; refine ⟨fun w' hw' => ?_, ?_⟩; focus ((repeat (first | go_skip | go_guarded | go_step | go_upon | go_back)); exact ⟨rfl, rfl, rfl⟩))
            first | refine pt_skip rfl rfl rfl rfl ?_ | (refine pt_take rfl rfl rfl rfl ?_; apply Exists.intro; refine ⟨fun w' hw' => ?_, ?_⟩; focus ((repeat (first | go_skip | go_guarded | go_step | go_upon | go_back)); exact ⟨rfl, rfl, rfl⟩))
            first | refine pt_skip rfl rfl rfl rfl ?_ | (refine pt_take rfl rfl rfl rfl ?_; apply Exists.intro; refine ⟨fun w' hw' => ?_, ?_⟩; focus ((repeat (first | go_skip | go_guarded | go_step | go_upon | go_back)); exact ⟨rfl, rfl, rfl⟩))
            refine pt_take rfl rfl rfl rfl ?_
            apply Exists.intro
            refine ⟨fun w' hw' => ?_, ?_⟩
            · refine wp_run rfl (exec_ixS 38 45 2 Try.underlying38 info_pv2 w' rfl rfl .i64 (i : Int) i rfl rfl hlt HQE.out) ?_
              exact ⟨rfl, rfl, rfl⟩
            first | refine pt_skip rfl rfl rfl rfl ?_ | (refine pt_take rfl rfl rfl rfl ?_; apply Exists.intro; refine ⟨fun w' hw' => ?_, ?_⟩; focus ((repeat (first | go_skip | go_guarded | go_step | go_upon | go_back)); exact ⟨rfl, rfl, rfl⟩))
            refine pt_take rfl rfl rfl rfl ?_
            apply Exists.intro
            refine ⟨fun w' hw' => ?_, ?_⟩
            · have hcell := (hw'.cell (p := q) HQB.out).trans cs6
              focus ((repeat (first | go_skip | go_guarded | go_step | go_upon | go_back)); exact ⟨rfl, rfl, rfl⟩)
            refine pt_step rfl ?_
            go_wp2_with fail
            have hC := starts_any s p w6 (by omega) (by omega)
            rw [HPB.out] at hC
            unfold str at hC
            refine hC.mono ?_
            rintro e w7 ⟨rfl, rfl⟩
            clear hC
            go_wp2_with fail
            refine ⟨rfl, Below.refl _ _, ?_⟩
            first | refine pt_skip rfl rfl rfl rfl ?_ | (refine pt_take rfl rfl rfl rfl ?_; apply Exists.intro; refine ⟨fun w' hw' => ?_, ?_⟩; focus ((repeat (first | go_skip | go_guarded | go_step | go_upon | go_back)); exact ⟨rfl, rfl, rfl⟩))
            first | refine pt_skip rfl rfl rfl rfl ?_ | (refine pt_take rfl rfl rfl rfl ?_; apply Exists.intro; refine ⟨fun w' hw' => ?_, ?_⟩; focus ((repeat (first | go_skip | go_guarded | go_step | go_upon | go_back)); exact ⟨rfl, rfl, rfl⟩))
            first | refine pt_skip rfl rfl rfl rfl ?_ | (refine pt_take rfl rfl rfl rfl ?_; apply Exists.intro; refine ⟨fun w' hw' => ?_, ?_⟩; focus ((repeat (first | go_skip | go_guarded | go_step | go_upon | go_back)); exact ⟨rfl, rfl, rfl⟩))
            first | refine pt_skip rfl rfl rfl rfl ?_ | (refine pt_take rfl rfl rfl rfl ?_; apply Exists.intro; refine ⟨fun w' hw' => ?_, ?_⟩; focus ((repeat (first | go_skip | go_guarded | go_step | go_upon | go_back)); exact ⟨rfl, rfl, rfl⟩))
            first | refine pt_skip rfl rfl rfl rfl ?_ | (refine pt_take rfl rfl rfl rfl ?_; apply Exists.intro; refine ⟨fun w' hw' => ?_, ?_⟩; focus ((repeat (first | go_skip | go_guarded | go_step | go_upon | go_back)); exact ⟨rfl, rfl, rfl⟩))
            first | refine pt_skip rfl rfl rfl rfl ?_ | (refine pt_take rfl rfl rfl rfl ?_; apply Exists.intro; refine ⟨fun w' hw' => ?_, ?_⟩; focus ((repeat (first | go_skip | go_guarded | go_step | go_upon | go_back)); exact ⟨rfl, rfl, rfl⟩))
            refine pt_take rfl rfl rfl rfl ?_
            apply Exists.intro
            refine ⟨fun w' hw' => ?_, ?_⟩
            · refine wp_run rfl (exec_ixS 38 45 2 Try.underlying38 info_pv2 w' rfl rfl .i64 (i : Int) i rfl rfl hlt HQE.out) ?_
              exact ⟨rfl, rfl, rfl⟩
            first | refine pt_skip rfl rfl rfl rfl ?_ | (refine pt_take rfl rfl rfl rfl ?_; apply Exists.intro; refine ⟨fun w' hw' => ?_, ?_⟩; focus ((repeat (first | go_skip | go_guarded | go_step | go_upon | go_back)); exact ⟨rfl, rfl, rfl⟩))
            refine pt_take rfl rfl rfl rfl ?_
            apply Exists.intro
            refine ⟨fun w' hw' => ?_, ?_⟩
            · have hcell := (hw'.cell (p := q) HQB.out).trans cs6
              focus ((repeat (first | go_skip | go_guarded | go_step | go_upon | go_back)); exact ⟨rfl, rfl, rfl⟩)
            first | refine pt_skip rfl rfl rfl rfl ?_ | (refine pt_take rfl rfl rfl rfl ?_; apply Exists.intro; refine ⟨fun w' hw' => ?_, ?_⟩; focus ((repeat (first | go_skip | go_guarded | go_step | go_upon | go_back)); exact ⟨rfl, rfl, rfl⟩))
            first | refine pt_skip rfl rfl rfl rfl ?_ | (refine pt_take rfl rfl rfl rfl ?_; apply Exists.intro; refine ⟨fun w' hw' => ?_, ?_⟩; focus ((repeat (first | go_skip | go_guarded | go_step | go_upon | go_back)); exact ⟨rfl, rfl, rfl⟩))
            refine pt_take rfl rfl rfl rfl ?_
            apply Exists.intro
            refine ⟨fun w' hw' => ?_, ?_⟩
            · have hcell := (hw'.cell (p := ⟨g7, 0, none⟩) hg7).trans cb6
              focus ((repeat (first | go_skip | go_guarded | go_step | go_upon | go_back)); exact ⟨rfl, rfl, rfl⟩)
            first | refine pt_skip rfl rfl rfl rfl ?_ | (refine pt_take rfl rfl rfl rfl ?_; apply Exists.intro; refine ⟨fun w' hw' => ?_, ?_⟩; focus ((repeat (first | go_skip | go_guarded | go_step | go_upon | go_back)); exact ⟨rfl, rfl, rfl⟩))
            first | refine pt_skip rfl rfl rfl rfl ?_ | (refine pt_take rfl rfl rfl rfl ?_; apply Exists.intro; refine ⟨fun w' hw' => ?_, ?_⟩; focus ((repeat (first | go_skip | go_guarded | go_step | go_upon | go_back)); exact ⟨rfl, rfl, rfl⟩))
            first | refine pt_skip rfl rfl rfl rfl ?_ | (refine pt_take rfl rfl rfl rfl ?_; apply Exists.intro; refine ⟨fun w' hw' => ?_, ?_⟩; focus ((repeat (first | go_skip | go_guarded | go_step | go_upon | go_back)); exact ⟨rfl, rfl, rfl⟩))
            first | refine pt_skip rfl rfl rfl rfl ?_ | (refine pt_take rfl rfl rfl rfl ?_; apply Exists.intro; refine ⟨fun w' hw' => ?_, ?_⟩; focus ((repeat (first | go_skip | go_guarded | go_step | go_upon | go_back)); exact ⟨rfl, rfl, rfl⟩))
            change Exit.then _ _ Exit.normal _ _
            have HCL : Hid (∀ j u, ([.string ⟨p.toArray⟩, .int .i64 z] : List Value)[j]? = some u → w7.cell? (q.add j) = some u) := Lib.hid (by
              intro j u hu
              match j, hu with
              | 0, hu => simp at hu; subst hu; rw [add_nil]; exact cs6
              | 1, hu => simp at hu; subst hu; exact cz6
              | j + 2, hu => simp at hu)
            go_wp2_with (first | (refine wp_run rfl (exec_ixS 38 45 2 Try.underlying38 info_pv2 _ rfl rfl .i64 (i : Int) i rfl rfl hlt HQE.out) ?_) | (refine wp_run rfl (exec_loadPS 45 rfl q rfl [.string ⟨p.toArray⟩, .int .i64 z] _ HCL.out Try.underlying45 (by rw [info_pv2]; rfl)) ?_) | (refine wp_storeA 45 (.tmp 7) (.tmp 61) rfl rfl g7 rfl 45 _ [.string ⟨p.toArray⟩, .int .i64 z] rfl ky6 (by rw [info_pv45]; rfl) rfl (by intro v hv; simp at hv; rcases hv with rfl | rfl <;> rfl) rfl ?_; intro w8 ky8 kk8))
            have b8 := b6.trans (kk8.below (fun q hq => by omega) (Nat.le_of_lt ky6.lt))
            go_roundw
            case measure => show K.length - ((i : Int) + 1).toNat < K.length - ((i : Int)).toNat; omega
            case rel =>
              have h := HSN.out
              rw [if_pos ⟨HYP.out, Or.inr ⟨_, rfl, hgt⟩⟩] at h
              exact ⟨i + 1, some (p, z), rfl, by simp, by omega, h, ky8, b8⟩
          · skip
            go_upto_region 11 with (fail)
            refine wp_region_pt wr.heap.size (.take 0 (.take 1 (.take 2 (.take 3 (.take 4 (.take 5 (.step 6 (.take 7 (.take 8 (.take 9 (.take 10 (.take 11 (.take 12 (.take 13 (.take 14 (.take 15 (.take 16 (.take 17 (.take 18 (.take 19 (.take 20 (.take 21 (.take 22 .done))))))))))))))))))))))) (by kernel_rfl) (by kernel_rfl) (by kernel_rfl) (fun _ _ h => h) ?_
            obtain ⟨w6, hdr⟩ : ∃ x, x = wr.drew := ⟨_, rfl⟩
            have bx : Below wr.heap.size wr w6 := by rw [hdr]; exact (Below.refl _ _).drew
            have ky6 := ky0.past bx ky0.lt
            have b6 := hbw.trans (bx.mono (Nat.le_of_lt hg7))
            have cs6 := (bx.cell HQB.out).trans HCS.out
            have cz6 := (bx.cell (p := ⟨q.block, q.off + 1, none⟩) HQB.out).trans HCZ.out
            have cb6 : w6.cell? ⟨g7, 0, none⟩ = some (.string ⟨y1.toArray⟩) := ky6.cell (j := 0) rfl
            rw [← hdr]
            clear hdr bx
            first | refine pt_skip rfl rfl rfl rfl ?_ | (refine pt_take rfl rfl rfl rfl ?_; apply Exists.intro; refine ⟨fun w' hw' => ?_, ?_⟩; focus ((repeat (first | go_skip | go_guarded | go_step | go_upon | go_back)); exact ⟨rfl, rfl, rfl⟩))
            first | refine pt_skip rfl rfl rfl rfl ?_ | (refine pt_take rfl rfl rfl rfl ?_; apply Exists.intro; refine ⟨fun w' hw' => ?_, ?_⟩; focus ((repeat (first | go_skip | go_guarded | go_step | go_upon | go_back)); exact ⟨rfl, rfl, rfl⟩))
            first | refine pt_skip rfl rfl rfl rfl ?_ | (refine pt_take rfl rfl rfl rfl ?_; apply Exists.intro; refine ⟨fun w' hw' => ?_, ?_⟩; focus ((repeat (first | go_skip | go_guarded | go_step | go_upon | go_back)); exact ⟨rfl, rfl, rfl⟩))
            refine pt_take rfl rfl rfl rfl ?_
            apply Exists.intro
            refine ⟨fun w' hw' => ?_, ?_⟩
            · refine wp_run rfl (exec_ixS 38 45 2 Try.underlying38 info_pv2 w' rfl rfl .i64 (i : Int) i rfl rfl hlt HQE.out) ?_
              exact ⟨rfl, rfl, rfl⟩
            first | refine pt_skip rfl rfl rfl rfl ?_ | (refine pt_take rfl rfl rfl rfl ?_; apply Exists.intro; refine ⟨fun w' hw' => ?_, ?_⟩; focus ((repeat (first | go_skip | go_guarded | go_step | go_upon | go_back)); exact ⟨rfl, rfl, rfl⟩))
            refine pt_take rfl rfl rfl rfl ?_
            apply Exists.intro
            refine ⟨fun w' hw' => ?_, ?_⟩
            · have hcell := (hw'.cell (p := q) HQB.out).trans cs6
              focus ((repeat (first | go_skip | go_guarded | go_step | go_upon | go_back)); exact ⟨rfl, rfl, rfl⟩)
            refine pt_step rfl ?_
            go_wp2_with fail
            have hC := starts_any s p w6 (by omega) (by omega)
            rw [HPB.out] at hC
            unfold str at hC
            refine hC.mono ?_
            rintro e w7 ⟨rfl, rfl⟩
            clear hC
            go_wp2_with fail
            refine ⟨rfl, Below.refl _ _, ?_⟩
            first | refine pt_skip rfl rfl rfl rfl ?_ | (refine pt_take rfl rfl rfl rfl ?_; apply Exists.intro; refine ⟨fun w' hw' => ?_, ?_⟩; focus ((repeat (first | go_skip | go_guarded | go_step | go_upon | go_back)); exact ⟨rfl, rfl, rfl⟩))
            first | refine pt_skip rfl rfl rfl rfl ?_ | (refine pt_take rfl rfl rfl rfl ?_; apply Exists.intro; refine ⟨fun w' hw' => ?_, ?_⟩; focus ((repeat (first | go_skip | go_guarded | go_step | go_upon | go_back)); exact ⟨rfl, rfl, rfl⟩))
            first | refine pt_skip rfl rfl rfl rfl ?_ | (refine pt_take rfl rfl rfl rfl ?_; apply Exists.intro; refine ⟨fun w' hw' => ?_, ?_⟩; focus ((repeat (first | go_skip | go_guarded | go_step | go_upon | go_back)); exact ⟨rfl, rfl, rfl⟩))
            first | refine pt_skip rfl rfl rfl rfl ?_ | (refine pt_take rfl rfl rfl rfl ?_; apply Exists.intro; refine ⟨fun w' hw' => ?_, ?_⟩; focus ((repeat (first | go_skip | go_guarded | go_step | go_upon | go_back)); exact ⟨rfl, rfl, rfl⟩))
            first | refine pt_skip rfl rfl rfl rfl ?_ | (refine pt_take rfl rfl rfl rfl ?_; apply Exists.intro; refine ⟨fun w' hw' => ?_, ?_⟩; focus ((repeat (first | go_skip | go_guarded | go_step | go_upon | go_back)); exact ⟨rfl, rfl, rfl⟩))
            first | refine pt_skip rfl rfl rfl rfl ?_ | (refine pt_take rfl rfl rfl rfl ?_; apply Exists.intro; refine ⟨fun w' hw' => ?_, ?_⟩; focus ((repeat (first | go_skip | go_guarded | go_step | go_upon | go_back)); exact ⟨rfl, rfl, rfl⟩))
            refine pt_take rfl rfl rfl rfl ?_
            apply Exists.intro
            refine ⟨fun w' hw' => ?_, ?_⟩
            · refine wp_run rfl (exec_ixS 38 45 2 Try.underlying38 info_pv2 w' rfl rfl .i64 (i : Int) i rfl rfl hlt HQE.out) ?_
              exact ⟨rfl, rfl, rfl⟩
            first | refine pt_skip rfl rfl rfl rfl ?_ | (refine pt_take rfl rfl rfl rfl ?_; apply Exists.intro; refine ⟨fun w' hw' => ?_, ?_⟩; focus ((repeat (first | go_skip | go_guarded | go_step | go_upon | go_back)); exact ⟨rfl, rfl, rfl⟩))
            refine pt_take rfl rfl rfl rfl ?_
            apply Exists.intro
            refine ⟨fun w' hw' => ?_, ?_⟩
            · have hcell := (hw'.cell (p := q) HQB.out).trans cs6
              focus ((repeat (first | go_skip | go_guarded | go_step | go_upon | go_back)); exact ⟨rfl, rfl, rfl⟩)
            first | refine pt_skip rfl rfl rfl rfl ?_ | (refine pt_take rfl rfl rfl rfl ?_; apply Exists.intro; refine ⟨fun w' hw' => ?_, ?_⟩; focus ((repeat (first | go_skip | go_guarded | go_step | go_upon | go_back)); exact ⟨rfl, rfl, rfl⟩))
            first | refine pt_skip rfl rfl rfl rfl ?_ | (refine pt_take rfl rfl rfl rfl ?_; apply Exists.intro; refine ⟨fun w' hw' => ?_, ?_⟩; focus ((repeat (first | go_skip | go_guarded | go_step | go_upon | go_back)); exact ⟨rfl, rfl, rfl⟩))
            refine pt_take rfl rfl rfl rfl ?_
            apply Exists.intro
            refine ⟨fun w' hw' => ?_, ?_⟩
            · have hcell := (hw'.cell (p := ⟨g7, 0, none⟩) hg7).trans cb6
              focus ((repeat (first | go_skip | go_guarded | go_step | go_upon | go_back)); exact ⟨rfl, rfl, rfl⟩)
            first | refine pt_skip rfl rfl rfl rfl ?_ | (refine pt_take rfl rfl rfl rfl ?_; apply Exists.intro; refine ⟨fun w' hw' => ?_, ?_⟩; focus ((repeat (first | go_skip | go_guarded | go_step | go_upon | go_back)); exact ⟨rfl, rfl, rfl⟩))
            first | refine pt_skip rfl rfl rfl rfl ?_ | (refine pt_take rfl rfl rfl rfl ?_; apply Exists.intro; refine ⟨fun w' hw' => ?_, ?_⟩; focus ((repeat (first | go_skip | go_guarded | go_step | go_upon | go_back)); exact ⟨rfl, rfl, rfl⟩))
            first | refine pt_skip rfl rfl rfl rfl ?_ | (refine pt_take rfl rfl rfl rfl ?_; apply Exists.intro; refine ⟨fun w' hw' => ?_, ?_⟩; focus ((repeat (first | go_skip | go_guarded | go_step | go_upon | go_back)); exact ⟨rfl, rfl, rfl⟩))
            first | refine pt_skip rfl rfl rfl rfl ?_ | (refine pt_take rfl rfl rfl rfl ?_; apply Exists.intro; refine ⟨fun w' hw' => ?_, ?_⟩; focus ((repeat (first | go_skip | go_guarded | go_step | go_upon | go_back)); exact ⟨rfl, rfl, rfl⟩))
            change Exit.then _ _ Exit.normal _ _
            go_wp2_with fail
            go_roundw
            case measure => show K.length - ((i : Int) + 1).toNat < K.length - ((i : Int)).toNat; omega
            case rel =>
              have h := HSN.out
              rw [if_neg (fun ⟨_, h⟩ => h.elim (fun h => by cases h) (fun ⟨w, h, h2⟩ => by injection h with h; subst h; exact hgt h2))] at h
              exact ⟨i + 1, _, rfl, by simp, by omega, h, ky6, b6⟩
    · obtain rfl : i = K.length := by omega
      have HBF : Hid (Be K s r) := Lib.hid (by have h := HBE.out; rwa [List.take_length] at h)
      have hbw4 : Below w4.heap.size w4 wr := by rw [HG7.out]; exact hbw
      have t5 := t4.go hbw4
      have ct5 := t5.cell
      have b5' := b4.trans (hbw4.mono b4.size)
      have HLN := Lib.hid (lon_be HKP.out HBF.out)
      obtain ⟨d, hd⟩ : ∃ d, s.all isD = d := ⟨_, rfl⟩
      have HD := Lib.hid hd
      rw [hd] at HLN
      clear hd
      go_wp2_with fail
      have hC := longest_any Ax nx cx X s wr t5.nds (by omega) (by omega)
      rw [HLN.out] at hC
      unfold str at hC
      cases r with
      | none =>
        have hv0 : (if d = true then ((match (none : Option (Str × Int)) with | none => ((0 : Int), (0 : Nat), false) | some y => (y.2, y.1.length, true)) : Int × Nat × Bool) else (0, 0, false)) = (0, 0, false) := by split <;> rfl
        rw [hv0] at hC
        unfold lonV at hC
        refine hC.mono ?_
        rintro e w6 ⟨rfl, bx⟩
        have b6 := b5'.trans (bx.mono b5'.size)
        clear hC bx
        go_wp2_with fail
        go_ret
        exact ⟨rfl, b6⟩
      | some y =>
        obtain ⟨y1, y2⟩ := y
        simp only [Option.isSome_some]
        have hy15 : y1.length ≤ 15 := (HKP.out.has HBF.out.1).1
        have hyz := str_size y1
        cases d with
        | false =>
          rw [if_neg (by simp)] at hC
          unfold lonV at hC
          refine hC.mono ?_
          rintro e w6 ⟨rfl, bx⟩
          have b6 := b5'.trans (bx.mono b5'.size)
          clear hC bx
          go_wp2_with fail
          have hC := rdig_any s w6 (by omega)
          rw [HD.out] at hC
          unfold str at hC
          refine hC.mono ?_
          rintro e w7 ⟨rfl, bx⟩
          have b7 := b6.trans (bx.mono b6.size)
          clear hC bx
          go_wp2_with fail
          go_ret
          exact ⟨rfl, b7⟩
        | true =>
          rw [if_pos rfl] at hC
          unfold lonV at hC
          refine hC.mono ?_
          rintro e w6 ⟨rfl, bx⟩
          have b6 := b5'.trans (bx.mono b5'.size)
          have ky6 := ky0.past bx ky0.lt
          clear hC bx
          go_wp2_with fail
          have hC := rdig_any s w6 (by omega)
          rw [HD.out] at hC
          unfold str at hC
          refine hC.mono ?_
          rintro e w7 ⟨rfl, bx⟩
          have b7 := b6.trans (bx.mono b6.size)
          have ky7 := ky6.past bx ky6.lt
          have cy0 : w7.cell? ⟨g7, 0, none⟩ = some (.string ⟨y1.toArray⟩) := ky7.cell (j := 0) rfl
          have cy1 : w7.cell? ⟨g7, 1, none⟩ = some (.int .i64 y2) := ky7.cell (j := 1) rfl
          clear hC bx ky6
          go_wp2_with fail
          go_ret
          exact ⟨rfl, b7⟩
end Go.Proofs.Ytippbkooaonajaa
