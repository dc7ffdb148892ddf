/-
  The reference's below and Entries.
-/
import Derived.Test.YtippbkooaonajaaTfD
import Derived.Test.YtippbkooaonajaaTlE
namespace Go.Proofs.Ytippbkooaonajaa
open Go.RowKit Dg Tr
set_option linter.unusedVariables false
set_option linter.unusedSimpArgs false

theorem ent_len {F : List Int} {n : Nat} {E : Nat → Nat} (h : Tree F n E) {f a : Nat} {r : Str} (ha : a < n) (hf : 15 ≤ f + E a) : (ent F f a r).length ≤ n := by
  obtain ⟨p, hp⟩ := nod_all h a ha
  have hm : ∀ x ∈ ent F f a r, ∃ u j, x.1 = r ++ u ∧ nod F a u = some j := fun x hx => by
    obtain ⟨u, j, h1, h2, _⟩ := (mem_ent h f x ha hf).1 hx
    exact ⟨u, j, h1, h2⟩
  have key : ∀ {u : Str} {j : Nat}, nod F a u = some j → nod F 0 (p ++ u) = some j := fun {u j} hu => by rw [nod_append, hp]; exact hu
  have := nodup_len n (l := (ent F f a r).map fun x => (nod F a (x.1.drop r.length)).getD 0) ?_ ?_
  · simpa using this
  · rw [List.nodup_iff_pairwise_ne, List.pairwise_map]
    refine List.Pairwise.imp_of_mem ?_ (ent_asc h f ha hf)
    intro x y hx hy hlt he
    obtain ⟨u, i, hxu, hi⟩ := hm x hx
    obtain ⟨t, j, hyu, hj⟩ := hm y hy
    rw [hxu, hyu, List.drop_left, List.drop_left, hi, hj] at he
    simp only [Option.getD_some] at he
    rw [← he] at hj
    have h1 := nod_inj h _ rfl (key hi) (key hj)
    have h2 := List.append_cancel_left h1
    rw [hxu, hyu, h2] at hlt
    exact str_irrefl _ hlt
  · intro x hx
    simp only [List.mem_map] at hx
    obtain ⟨y, hy, rfl⟩ := hx
    obtain ⟨u, j, hyu, hj⟩ := hm y hy
    rw [hyu, List.drop_left, hj]
    exact (nod_lt h ha hj).1

section
variable {ops : Array Oper} {rest : List Oper} {o : Oper} {a : Act} {Q : Exit → Act → World → Prop}
/-- 'append(s, x...)', x a list that is read. -/
theorem wp_appPs {w : World} (base : Nat) (s x : Operand) (ho : o.op = .call { callee := .builtin .append, args := #[s, x], argTypes := #[38, 38] }) (hgd : o.guard = none)
    (v : Value) (l m : List (Str × Int)) (A : Option Addr) (c : Nat) {B : Nat} (hs : a.eval s = v) (hx : a.eval x = .slice A m.length c) (hown : OwnP w base v l) (hm : Pl w B (.slice A m.length c) m) (hbase : base ≤ w.heap.size) (hl : l.length + m.length ≤ 1000000)
    (h : ∀ v' w', OwnP w' base v' (l ++ m) → Grew w w' v v' → wpList Try.prog ops Q rest (a.put o.dst v') w') : wpList Try.prog ops Q (o :: rest) a w := by
  obtain ⟨i0, hi, hz0, hz1, hz2⟩ := info_parts info_pv
  cases A with
  | none =>
    obtain ⟨A', c', e, h1, h2, h3, h4, h5⟩ := hm
    injection e with e1 e2 e3
    subst e1 e3
    have hc := h3 rfl
    have hm0 : m = [] := by
      cases m with
      | nil => rfl
      | cons b m => simp at h1; omega
    subst hm0 hc
    refine wpList_plain hgd fun K hK => ?_
    have hr := run_append_owned_none (P := Try.prog) w base 38 o.type 45 i0 2 Try.underlying38 hi v l.length (pvs l) hown
    unfold Oper.wp execOp
    simp only [ho, resolve, invoke, builtin, Sem.run_bind, Sem.run_pure, Result.andThen_ok, List.map_toArray, List.map_cons, List.map_nil, hs, hx, List.length_nil, hr]
    exact hK _ _ (h v w (by simpa using hown) ⟨World.grownBy.refl _ _, Or.inl rfl⟩)
  | some ad =>
    refine wpList_append_own_at _ hgd s x 38 ho base 45 i0 (.agg #[.string ⟨#[]⟩, .int .i64 0]) 2 24 Try.underlying38 hi hz0 hz1 hz2 rfl (by decide) v l.length (pvs l) hs hown
      ad m.length c (pvs m) hx (by rw [pvs_len]) (Row.cells hm) (pvs_one m) (by simp only [maxLen]; omega) (by omega) hbase ?_
    intro v' w' h1 h2 _ h4
    refine h v' w' (by unfold OwnP; rw [pvs_append, List.length_append]; exact h1) ⟨h2, ?_⟩
    rcases h4 with h4 | h4
    · exact Or.inl h4
    · refine Or.inr fun k hk => ?_
      rw [h4] at hk; injection hk with hk; omega
end

theorem exec_digit {o : Oper} {a : Act} (x y : Operand) (d : Nat) (hd : d < 10) (ho : o.op = .slice 9 (.const (.string ⟨#[48, 49, 50, 51, 52, 53, 54, 55, 56, 57]⟩)) (some x) (some y) none) (hx : a.eval x = .int .i64 (d : Int)) (hy : a.eval y = .int .i64 ((d : Int) + 1)) (w : World) :
    (execOp a.eval o).run Try.prog w = .ok (.value (.string ⟨[db d].toArray⟩)) w := by
  have h : (Instr.sliceAt 9 (.string ⟨#[48, 49, 50, 51, 52, 53, 54, 55, 56, 57]⟩) (some (.int .i64 (d : Int))) (some (.int .i64 ((d : Int) + 1))) none).run Try.prog w = .ok (.string ⟨[db d].toArray⟩) w := by
    rcases (by omega : d = 0 ∨ d = 1 ∨ d = 2 ∨ d = 3 ∨ d = 4 ∨ d = 5 ∨ d = 6 ∨ d = 7 ∨ d = 8 ∨ d = 9) with rfl | rfl | rfl | rfl | rfl | rfl | rfl | rfl | rfl | rfl <;> rfl
  refine exec_slice ho ?_
  simp only [Option.map_some, hx, hy]
  exact h
theorem exec_cat {o : Oper} {a : Act} (w : World) {x y : Operand} {t u : TypeId} (ho : o.op = .binOp .add t x y u) (p q : Str) (hx : a.eval x = .string ⟨p.toArray⟩) (hy : a.eval y = .string ⟨q.toArray⟩) (hl : p.length + q.length ≤ 100000) :
    (execOp a.eval o).run Try.prog w = .ok (.value (.string ⟨(p ++ q).toArray⟩)) w := by
  unfold execOp
  simp only [ho, hx, hy]
  have hm : IntKind.i64.max = 9223372036854775807 := by rfl
  have h : Op.stringOp .add ⟨p.toArray⟩ ⟨q.toArray⟩ = pure (.string ⟨(p ++ q).toArray⟩) := by
    unfold Op.stringOp
    simp only [str_size, str_add]
    rw [if_neg (by rw [hm]; omega)]
  show (((Op.stringOp .add ⟨p.toArray⟩ ⟨q.toArray⟩) >>= fun v => pure (Next.value v)) : Sem Next).run _ _ = _
  rw [h]
  rfl

set_option maxRecDepth 100000 in
set_option maxHeartbeats 4000000 in
theorem rbelow_any (ad : Addr) (n cap : Nat) (F : List Int) (E : Nat → Nat) (ht : Tree F n E) (hn : n ≤ 10000) : ∀ (f a : Nat) (r : Str) (w : World), Nds w w.heap.size n (.slice (some ad) n cap) F → a < n → 15 ≤ f + E a → r.length + f ≤ 1000 →
    Calls Try.prog 47 #[.agg #[.slice (some ad) n cap], .int .i64 (a : Int), str r] w fun e w' => (∃ u, e = .returned u ∧ OwnP w' w.heap.size u (ent F f a r)) ∧ Below w.heap.size w w' := by
  intro f
  induction f using Nat.strongRecOn with
  | ind f ih =>
  intro a r w hv ha hf hr
  have IH := Lib.hid ih
  have HT := Lib.hid ht
  obtain ⟨W0, hW0⟩ : ∃ W, W = w.alloc (.cells #[.slice (some ad) n cap] 24) := ⟨_, rfl⟩
  have b0 : Below w.heap.size w W0 := by rw [hW0]; exact (Below.refl _ _).alloc (Nat.le_refl _) _
  have k0 : Blk W0 w.heap.size 24 [.slice (some ad) n cap] := by rw [hW0]; exact Blk.newAt _ _ [_] _ rfl
  have hg0 := k0.lt
  have c0 := k0.cell (j := 0) rfl
  have hv0 : Nds W0 W0.heap.size n (.slice (some ad) n cap) F := Row.past hv b0
  have HV := Lib.hid hv0
  clear hv0
  obtain ⟨q, nl, hqe, hqb, hnl, hnl11, hq, hv10⟩ := HV.out.node (Below.refl _ _) ha
  have hq0 : ∀ j, j < 11 → W0.cell? (q.add j) = some (.int .i64 (F.getD (11 * a + j) 0)) := fun j hj => hq j _ (by rw [hnl]; exact ndc_get F a j hj)
  have HQ0 := Lib.hid hq0
  obtain ⟨x, hx⟩ : ∃ x, vl F a = x := ⟨_, rfl⟩
  have cv : W0.cell? ⟨q.block, q.off + 10, none⟩ = some (.int .i64 x) := by
    rw [← hx, ← add_ten]
    exact hq0 10 (by omega)
  have HX := Lib.hid hx
  have HQE := Lib.hid hqe
  have HW := Lib.hid hW0
  obtain ⟨O, hO⟩ : ∃ O, own F a r = O := ⟨_, rfl⟩
  have HO := Lib.hid hO
  have HEN : Hid (ent F f a r = O ++ kids F f a r 10) := Lib.hid (by rw [← hO]; exact ent_eq ht ha hf r)
  obtain ⟨R, hR⟩ : ∃ R, ent F f a r = R := ⟨_, rfl⟩
  have hRl : R.length ≤ n := by rw [← hR]; exact ent_len ht ha hf
  have HR := Lib.hid hR
  rw [hR] at HEN ⊢
  have hsz := str_size r
  clear ih ht hv hqe hnl hnl11 hq hv10 hq0 hx hW0 k0 hO hR
  unfold str
  have step : ∀ (P : Prop), (x = 0 → P) → (x ≠ 0 → P) → P := fun P h1 h2 => by
    by_cases h : x = 0
    · exact h1 h
    · exact h2 h
  refine step _ (fun hx0 => ?_) (fun hx0 => ?_)
  · subst hx0
    have o3 : OwnP W0 W0.heap.size (.slice none 0 0) O := by
      rw [← HO.out]; unfold own; rw [if_pos HX.out]; exact OwnP.nil_ _ _
    have b3 : Below W0.heap.size W0 W0 := Below.refl _ _
    go_enter Try.func47, Try.ntmps47
    go_upto_region 1 with (fail)
    rw [← HW.out]
    clear HW step
    go_upto_region 4 with (first | (refine wp_run rfl (exec_ixS 22 59 11 Try.underlying22 info_node _ rfl rfl .i64 (a : Int) a rfl rfl ha HQE.out) ?_))
    clear cv
    go_wp2_with fail
    go_loopw [7, 8] (fun vo vd wr => ∃ d : Nat, vd = .int .i64 (d : Int) ∧ d ≤ 10 ∧ OwnP wr W0.heap.size vo (O ++ kids F f a r d) ∧ Below W0.heap.size W0 wr) (fun vo vd wr => ixn 10 vd)
    case atStart => exact ⟨0, rfl, by omega, by rw [show kids F f a r 0 = [] from rfl, List.append_nil]; exact o3, b3⟩
    case round =>
      obtain ⟨d, rfl, hd', ho, hbw⟩ := hrel
      clear o3 b3
      have cT := (hbw.cell (p := ⟨w.heap.size, 0, none⟩) hg0).trans c0
      by_cases hd10 : d < 10
      · have HKS := Lib.hid (kids_succ F f a r d)
        obtain ⟨z, hz⟩ : ∃ z, kI F a d = z := ⟨_, rfl⟩
        have cz : wr.cell? (q.add d) = some (.int .i64 z) := by
          rw [← hz]
          exact (hbw.cell (by rw [add_block]; exact hqb)).trans (HQ0.out d (by omega))
        have HZ := Lib.hid hz
        have HO2 := Lib.hid ho
        obtain ⟨L1, hL1⟩ : ∃ L, O ++ kids F f a r d = L := ⟨_, rfl⟩
        have HL1 := Lib.hid hL1
        rw [hL1] at HO2
        clear hz ho hL1
        by_cases hz0 : z = 0
        · subst hz0
          go_wp2_with (first | (refine wp_run rfl (exec_ixS 22 59 11 Try.underlying22 info_node _ rfl rfl .i64 (a : Int) a rfl rfl ha HQE.out) ?_) | (refine wp_run rfl (exec_ixP 57 3 10 1 Try.underlying57 info_int _ rfl q rfl .i64 (d : Int) d rfl rfl hd10 (show q.add d = q.add (d * 1) by rw [Nat.mul_one])) ?_))
          go_roundw
          case measure => show 10 - ((d : Int) + 1).toNat < 10 - ((d : Int)).toNat; omega
          case rel => exact ⟨d + 1, by simp, by omega, by rw [HKS.out, if_pos HZ.out, List.append_nil, HL1.out]; exact HO2.out, hbw⟩
        · obtain ⟨k1, k2, k3, k4, k5⟩ := HT.out.kid a d ha hd10 (by rw [HZ.out]; exact hz0)
          obtain ⟨k, hk⟩ : ∃ k, kd F a d = k := ⟨_, rfl⟩
          have HKI : Hid (¬ kI F a d = 0) := Lib.hid (by rw [HZ.out]; exact hz0)
          rw [hk] at k1 k2 k3 k4
          have hzk : z = (k : Int) := HZ.out.symm.trans k3
          subst hzk
          have hkb : ((k : Int) != 0) = true := bne_iff_ne.2 hz0
          obtain ⟨M, hM⟩ : ∃ M, ent F (f - 1) k (r ++ [db d]) = M := ⟨_, rfl⟩
          have HKS2 : Hid (L1 ++ M = O ++ kids F f a r (d + 1)) := Lib.hid (by rw [HKS.out, if_neg HKI.out, hk, hM, ← HL1.out, List.append_assoc])
          have hMl : M.length ≤ n := by rw [← hM]; exact ent_len HT.out k2 (by omega)
          have hL1l : L1.length ≤ n := by
            obtain ⟨tl, htl⟩ := kids_pre F f a r d (10 - d)
            rw [show d + (10 - d) = 10 by omega] at htl
            have h1 := HEN.out
            rw [htl, ← List.append_assoc, HL1.out] at h1
            rw [h1, List.length_append] at hRl
            omega
          have IHc := IH.out (f - 1) (by omega) k (r ++ [db d])
          rw [hM] at IHc
          have HIC := Lib.hid (fun w hv => IHc w hv k2 (by omega) (by simp; omega))
          obtain ⟨rd, hrd⟩ : ∃ rd, rd = r ++ [db d] := ⟨_, rfl⟩
          rw [← hrd] at HIC
          have HRD := Lib.hid hrd
          clear k1 k3 k4 k5 hz0 hk hM IHc hrd
          go_upto_region 9 with (first | (refine wp_run rfl (exec_ixS 22 59 11 Try.underlying22 info_node _ rfl rfl .i64 (a : Int) a rfl rfl ha HQE.out) ?_) | (refine wp_run rfl (exec_ixP 57 3 10 1 Try.underlying57 info_int _ rfl q rfl .i64 (d : Int) d rfl rfl hd10 (show q.add d = q.add (d * 1) by rw [Nat.mul_one])) ?_))
          refine wp_region_pt W0.heap.size (.take 0 (.take 1 (.take 2 (.take 3 (.take 4 (.take 5 (.take 6 (.take 7 (.take 8 (.step 9 (.step 10 (.take 11 .done)))))))))))) (by kernel_rfl) (by kernel_rfl) (by kernel_rfl) (fun _ _ h => h) ?_
          obtain ⟨w4, hdr⟩ : ∃ x, x = wr.drew := ⟨_, rfl⟩
          have bx : Below wr.heap.size wr w4 := by rw [hdr]; exact (Below.refl _ _).drew
          have o4 := HO2.out.go bx
          have c4 := (bx.cell (p := ⟨w.heap.size, 0, none⟩) (Nat.lt_of_lt_of_le hg0 hbw.size)).trans cT
          have b4 := hbw.trans (bx.mono hbw.size)
          have hb4 := b4.size
          rw [← hdr]
          clear hdr bx cT cz
          first | refine pt_skip rfl rfl rfl rfl ?_ | (refine pt_take rfl rfl rfl rfl ?_; apply Exists.intro; refine ⟨fun w' hw' => ?_, ?_⟩; focus ((repeat (first | go_skip | go_guarded | go_step | go_upon | go_back)); exact ⟨rfl, rfl, rfl⟩))
          refine pt_take rfl rfl rfl rfl ?_
          apply Exists.intro
          refine ⟨fun w' hw' => ?_, ?_⟩
          · have hcell := (hw'.cell (p := ⟨w.heap.size, 0, none⟩) hg0).trans c4
            focus ((repeat (first | go_skip | go_guarded | go_step | go_upon | go_back)); exact ⟨rfl, rfl, rfl⟩)
          first | refine pt_skip rfl rfl rfl rfl ?_ | (refine pt_take rfl rfl rfl rfl ?_; apply Exists.intro; refine ⟨fun w' hw' => ?_, ?_⟩; focus ((repeat (first | go_skip | go_guarded | go_step | go_upon | go_back)); exact ⟨rfl, rfl, rfl⟩))
          first | refine pt_skip rfl rfl rfl rfl ?_ | (refine pt_take rfl rfl rfl rfl ?_; apply Exists.intro; refine ⟨fun w' hw' => ?_, ?_⟩; focus ((repeat (first | go_skip | go_guarded | go_step | go_upon | go_back)); exact ⟨rfl, rfl, rfl⟩))
          first | refine pt_skip rfl rfl rfl rfl ?_ | (refine pt_take rfl rfl rfl rfl ?_; apply Exists.intro; refine ⟨fun w' hw' => ?_, ?_⟩; focus ((repeat (first | go_skip | go_guarded | go_step | go_upon | go_back)); exact ⟨rfl, rfl, rfl⟩))
          first | refine pt_skip rfl rfl rfl rfl ?_ | (refine pt_take rfl rfl rfl rfl ?_; apply Exists.intro; refine ⟨fun w' hw' => ?_, ?_⟩; focus ((repeat (first | go_skip | go_guarded | go_step | go_upon | go_back)); exact ⟨rfl, rfl, rfl⟩))
          first | refine pt_skip rfl rfl rfl rfl ?_ | (refine pt_take rfl rfl rfl rfl ?_; apply Exists.intro; refine ⟨fun w' hw' => ?_, ?_⟩; focus ((repeat (first | go_skip | go_guarded | go_step | go_upon | go_back)); exact ⟨rfl, rfl, rfl⟩))
          refine pt_take rfl rfl rfl rfl ?_
          apply Exists.intro
          refine ⟨fun w' hw' => ?_, ?_⟩
          · refine wp_run rfl (exec_digit (.tmp 46) (.tmp 48) d hd10 rfl rfl rfl _) ?_
            exact ⟨rfl, rfl, rfl⟩
          refine pt_take rfl rfl rfl rfl ?_
          apply Exists.intro
          refine ⟨fun w' hw' => ?_, ?_⟩
          · refine wp_run rfl (exec_cat _ rfl r [db d] rfl rfl (by simp; omega)) ?_
            exact ⟨rfl, rfl, rfl⟩
          refine pt_step rfl ?_
          go_wp2_with fail
          rw [← HRD.out]
          have hC := HIC.out w4 (Row.past HV.out b4)
          unfold str at hC
          refine hC.mono ?_
          rintro e w5 ⟨⟨u, rfl, o5⟩, bx⟩
          obtain ⟨A5, c5, rfl⟩ := own_form o5
          have o45 := o4.go bx
          have b5 := b4.trans (bx.mono b4.size)
          have hs5 := bx.size
          clear hC o4
          go_wp2_with fail
          refine ⟨rfl, bx.mono (by omega), ?_⟩
          clear bx
          refine pt_step rfl ?_
          go_wp2_with (first | (refine wp_appPs W0.heap.size (.tmp 42) (.tmp 51) rfl rfl _ L1 M A5 c5 rfl rfl o45 o5.pl (by omega) (by omega) ?_; intro v6 w6 o6 g6))
          have bx : Below W0.heap.size w5 w6 := below_ownP o45 (by omega) g6.1
          refine ⟨rfl, bx, ?_⟩
          have b6 := b5.trans bx
          rw [HKS2.out] at o6
          clear bx o45 o5 g6 b5 b4
          first | refine pt_skip rfl rfl rfl rfl ?_ | (refine pt_take rfl rfl rfl rfl ?_; apply Exists.intro; refine ⟨fun w' hw' => ?_, ?_⟩; focus ((repeat (first | go_skip | go_guarded | go_step | go_upon | go_back)); exact ⟨rfl, rfl, rfl⟩))
          change Exit.inBlock _ _ Exit.normal _ _
          go_wp2_with fail
          go_roundw
          case measure => show 10 - ((d : Int) + 1).toNat < 10 - ((d : Int)).toNat; omega
          case rel => exact ⟨d + 1, by simp, by omega, o6, b6⟩
      · obtain rfl : d = 10 := by omega
        have b9 := b0.trans (hbw.mono b0.size)
        rw [← HEN.out] at ho
        have o9 := ho.up (base' := w.heap.size) b0.size
        clear ho cT
        go_wp2_with fail
        go_ret
        exact ⟨⟨_, rfl, o9⟩, b9⟩
  · have hxb : (x != 0) = true := bne_iff_ne.2 hx0
    have HOE : Hid (O = [(r, x)]) := Lib.hid (by rw [← HO.out]; unfold own; rw [HX.out, if_neg hx0])
    have HX0 := Lib.hid hx0
    obtain ⟨pc, hpc⟩ : ∃ pc, pc = pvc (r, x) := ⟨_, rfl⟩
    have HPC := Lib.hid hpc
    obtain ⟨i0, hi0, hz0n, hz1n, hz2n⟩ := info_parts info_pv
    have onil := OwnP.nil_ W0 W0.heap.size
    have HON := Lib.hid onil
    clear hpc hx0 onil
    go_enter Try.func47, Try.ntmps47
    go_upto_region 1 with (fail)
    rw [← HW.out]
    clear HW step
    go_upto_region 4 with (first | (refine wp_run rfl (exec_ixS 22 59 11 Try.underlying22 info_node _ rfl rfl .i64 (a : Int) a rfl rfl ha HQE.out) ?_) | (refine wp_run rfl (exec_pv (.tmp 18) (.tmp 24) rfl (r, x) pc HPC.out rfl rfl _) ?_) | (refine wp_run rfl (exec_build1 38 45 2 i0 _ (by decide) (by decide) Try.underlying38 hi0 hz0n hz1n pc (by rw [HPC.out]; rfl) (.tmp 25) rfl rfl _) ?_) | (refine wp_appP W0.heap.size (.tmp 17) (.tmp 26) rfl rfl (.slice none 0 0) [] (r, x) pc HPC.out rfl rfl rfl HON.out (Nat.le_refl _) (by simp) ?_; intro v3 w3 o3 g3))
    have hal : Below W0.heap.size W0 (W0.alloc (.cells pc.toArray 45)) := (Below.refl _ _).alloc (Nat.le_refl _) _
    have b3 : Below W0.heap.size W0 w3 := hal.trans (below_ownP (World.ownsRow.alloc HON.out _) (by simp) g3.1)
    rw [List.nil_append, ← HOE.out] at o3
    clear g3 hal
    clear cv
    go_wp2_with fail
    go_loopw [7, 8] (fun vo vd wr => ∃ d : Nat, vd = .int .i64 (d : Int) ∧ d ≤ 10 ∧ OwnP wr W0.heap.size vo (O ++ kids F f a r d) ∧ Below W0.heap.size W0 wr) (fun vo vd wr => ixn 10 vd)
    case atStart => exact ⟨0, rfl, by omega, by rw [show kids F f a r 0 = [] from rfl, List.append_nil]; exact o3, b3⟩
    case round =>
      obtain ⟨d, rfl, hd', ho, hbw⟩ := hrel
      clear o3 b3
      have cT := (hbw.cell (p := ⟨w.heap.size, 0, none⟩) hg0).trans c0
      by_cases hd10 : d < 10
      · have HKS := Lib.hid (kids_succ F f a r d)
        obtain ⟨z, hz⟩ : ∃ z, kI F a d = z := ⟨_, rfl⟩
        have cz : wr.cell? (q.add d) = some (.int .i64 z) := by
          rw [← hz]
          exact (hbw.cell (by rw [add_block]; exact hqb)).trans (HQ0.out d (by omega))
        have HZ := Lib.hid hz
        have HO2 := Lib.hid ho
        obtain ⟨L1, hL1⟩ : ∃ L, O ++ kids F f a r d = L := ⟨_, rfl⟩
        have HL1 := Lib.hid hL1
        rw [hL1] at HO2
        clear hz ho hL1
        by_cases hz0 : z = 0
        · subst hz0
          go_wp2_with (first | (refine wp_run rfl (exec_ixS 22 59 11 Try.underlying22 info_node _ rfl rfl .i64 (a : Int) a rfl rfl ha HQE.out) ?_) | (refine wp_run rfl (exec_ixP 57 3 10 1 Try.underlying57 info_int _ rfl q rfl .i64 (d : Int) d rfl rfl hd10 (show q.add d = q.add (d * 1) by rw [Nat.mul_one])) ?_))
          go_roundw
          case measure => show 10 - ((d : Int) + 1).toNat < 10 - ((d : Int)).toNat; omega
          case rel => exact ⟨d + 1, by simp, by omega, by rw [HKS.out, if_pos HZ.out, List.append_nil, HL1.out]; exact HO2.out, hbw⟩
        · obtain ⟨k1, k2, k3, k4, k5⟩ := HT.out.kid a d ha hd10 (by rw [HZ.out]; exact hz0)
          obtain ⟨k, hk⟩ : ∃ k, kd F a d = k := ⟨_, rfl⟩
          have HKI : Hid (¬ kI F a d = 0) := Lib.hid (by rw [HZ.out]; exact hz0)
          rw [hk] at k1 k2 k3 k4
          have hzk : z = (k : Int) := HZ.out.symm.trans k3
          subst hzk
          have hkb : ((k : Int) != 0) = true := bne_iff_ne.2 hz0
          obtain ⟨M, hM⟩ : ∃ M, ent F (f - 1) k (r ++ [db d]) = M := ⟨_, rfl⟩
          have HKS2 : Hid (L1 ++ M = O ++ kids F f a r (d + 1)) := Lib.hid (by rw [HKS.out, if_neg HKI.out, hk, hM, ← HL1.out, List.append_assoc])
          have hMl : M.length ≤ n := by rw [← hM]; exact ent_len HT.out k2 (by omega)
          have hL1l : L1.length ≤ n := by
            obtain ⟨tl, htl⟩ := kids_pre F f a r d (10 - d)
            rw [show d + (10 - d) = 10 by omega] at htl
            have h1 := HEN.out
            rw [htl, ← List.append_assoc, HL1.out] at h1
            rw [h1, List.length_append] at hRl
            omega
          have IHc := IH.out (f - 1) (by omega) k (r ++ [db d])
          rw [hM] at IHc
          have HIC := Lib.hid (fun w hv => IHc w hv k2 (by omega) (by simp; omega))
          obtain ⟨rd, hrd⟩ : ∃ rd, rd = r ++ [db d] := ⟨_, rfl⟩
          rw [← hrd] at HIC
          have HRD := Lib.hid hrd
          clear k1 k3 k4 k5 hz0 hk hM IHc hrd
          go_upto_region 9 with (first | (refine wp_run rfl (exec_ixS 22 59 11 Try.underlying22 info_node _ rfl rfl .i64 (a : Int) a rfl rfl ha HQE.out) ?_) | (refine wp_run rfl (exec_ixP 57 3 10 1 Try.underlying57 info_int _ rfl q rfl .i64 (d : Int) d rfl rfl hd10 (show q.add d = q.add (d * 1) by rw [Nat.mul_one])) ?_))
          refine wp_region_pt W0.heap.size (.take 0 (.take 1 (.take 2 (.take 3 (.take 4 (.take 5 (.take 6 (.take 7 (.take 8 (.step 9 (.step 10 (.take 11 .done)))))))))))) (by kernel_rfl) (by kernel_rfl) (by kernel_rfl) (fun _ _ h => h) ?_
          obtain ⟨w4, hdr⟩ : ∃ x, x = wr.drew := ⟨_, rfl⟩
          have bx : Below wr.heap.size wr w4 := by rw [hdr]; exact (Below.refl _ _).drew
          have o4 := HO2.out.go bx
          have c4 := (bx.cell (p := ⟨w.heap.size, 0, none⟩) (Nat.lt_of_lt_of_le hg0 hbw.size)).trans cT
          have b4 := hbw.trans (bx.mono hbw.size)
          have hb4 := b4.size
          rw [← hdr]
          clear hdr bx cT cz
          first | refine pt_skip rfl rfl rfl rfl ?_ | (refine pt_take rfl rfl rfl rfl ?_; apply Exists.intro; refine ⟨fun w' hw' => ?_, ?_⟩; focus ((repeat (first | go_skip | go_guarded | go_step | go_upon | go_back)); exact ⟨rfl, rfl, rfl⟩))
          refine pt_take rfl rfl rfl rfl ?_
          apply Exists.intro
          refine ⟨fun w' hw' => ?_, ?_⟩
          · have hcell := (hw'.cell (p := ⟨w.heap.size, 0, none⟩) hg0).trans c4
            focus ((repeat (first | go_skip | go_guarded | go_step | go_upon | go_back)); exact ⟨rfl, rfl, rfl⟩)
          first | refine pt_skip rfl rfl rfl rfl ?_ | (refine pt_take rfl rfl rfl rfl ?_; apply Exists.intro; refine ⟨fun w' hw' => ?_, ?_⟩; focus ((repeat (first | go_skip | go_guarded | go_step | go_upon | go_back)); exact ⟨rfl, rfl, rfl⟩))
          first | refine pt_skip rfl rfl rfl rfl ?_ | (refine pt_take rfl rfl rfl rfl ?_; apply Exists.intro; refine ⟨fun w' hw' => ?_, ?_⟩; focus ((repeat (first | go_skip | go_guarded | go_step | go_upon | go_back)); exact ⟨rfl, rfl, rfl⟩))
          first | refine pt_skip rfl rfl rfl rfl ?_ | (refine pt_take rfl rfl rfl rfl ?_; apply Exists.intro; refine ⟨fun w' hw' => ?_, ?_⟩; focus ((repeat (first | go_skip | go_guarded | go_step | go_upon | go_back)); exact ⟨rfl, rfl, rfl⟩))
          first | refine pt_skip rfl rfl rfl rfl ?_ | (refine pt_take rfl rfl rfl rfl ?_; apply Exists.intro; refine ⟨fun w' hw' => ?_, ?_⟩; focus ((repeat (first | go_skip | go_guarded | go_step | go_upon | go_back)); exact ⟨rfl, rfl, rfl⟩))
          first | refine pt_skip rfl rfl rfl rfl ?_ | (refine pt_take rfl rfl rfl rfl ?_; apply Exists.intro; refine ⟨fun w' hw' => ?_, ?_⟩; focus ((repeat (first | go_skip | go_guarded | go_step | go_upon | go_back)); exact ⟨rfl, rfl, rfl⟩))
          refine pt_take rfl rfl rfl rfl ?_
          apply Exists.intro
          refine ⟨fun w' hw' => ?_, ?_⟩
          · refine wp_run rfl (exec_digit (.tmp 46) (.tmp 48) d hd10 rfl rfl rfl _) ?_
            exact ⟨rfl, rfl, rfl⟩
          refine pt_take rfl rfl rfl rfl ?_
          apply Exists.intro
          refine ⟨fun w' hw' => ?_, ?_⟩
          · refine wp_run rfl (exec_cat _ rfl r [db d] rfl rfl (by simp; omega)) ?_
            exact ⟨rfl, rfl, rfl⟩
          refine pt_step rfl ?_
          go_wp2_with fail
          rw [← HRD.out]
          have hC := HIC.out w4 (Row.past HV.out b4)
          unfold str at hC
          refine hC.mono ?_
          rintro e w5 ⟨⟨u, rfl, o5⟩, bx⟩
          obtain ⟨A5, c5, rfl⟩ := own_form o5
          have o45 := o4.go bx
          have b5 := b4.trans (bx.mono b4.size)
          have hs5 := bx.size
          clear hC o4
          go_wp2_with fail
          refine ⟨rfl, bx.mono (by omega), ?_⟩
          clear bx
          refine pt_step rfl ?_
          go_wp2_with (first | (refine wp_appPs W0.heap.size (.tmp 42) (.tmp 51) rfl rfl _ L1 M A5 c5 rfl rfl o45 o5.pl (by omega) (by omega) ?_; intro v6 w6 o6 g6))
          have bx : Below W0.heap.size w5 w6 := below_ownP o45 (by omega) g6.1
          refine ⟨rfl, bx, ?_⟩
          have b6 := b5.trans bx
          rw [HKS2.out] at o6
          clear bx o45 o5 g6 b5 b4
          first | refine pt_skip rfl rfl rfl rfl ?_ | (refine pt_take rfl rfl rfl rfl ?_; apply Exists.intro; refine ⟨fun w' hw' => ?_, ?_⟩; focus ((repeat (first | go_skip | go_guarded | go_step | go_upon | go_back)); exact ⟨rfl, rfl, rfl⟩))
          change Exit.inBlock _ _ Exit.normal _ _
          go_wp2_with fail
          go_roundw
          case measure => show 10 - ((d : Int) + 1).toNat < 10 - ((d : Int)).toNat; omega
          case rel => exact ⟨d + 1, by simp, by omega, o6, b6⟩
      · obtain rfl : d = 10 := by omega
        have b9 := b0.trans (hbw.mono b0.size)
        rw [← HEN.out] at ho
        have o9 := ho.up (base' := w.heap.size) b0.size
        clear ho cT
        go_wp2_with fail
        go_ret
        exact ⟨⟨_, rfl, o9⟩, b9⟩
end Go.Proofs.Ytippbkooaonajaa
