/-
  The reference's Entries, Extends and Longest.
-/
import Derived.Test.YtippbkooaonajaaTfE
namespace Go.Proofs.Ytippbkooaonajaa
open Go.RowKit Dg Tr
set_option linter.unusedVariables false
set_option linter.unusedSimpArgs false

/-- x != y of two strings. -/
theorem exec_neqS {o : Oper} {a : Act} (w : World) {x y : Operand} {t u : TypeId} (ho : o.op = .binOp .neq t x y u) (p q : Str) (b : Bool) (hb : decide (p = q) = b) (hx : a.eval x = .string ⟨p.toArray⟩) (hy : a.eval y = .string ⟨q.toArray⟩) :
    (execOp a.eval o).run Try.prog w = .ok (.value (.bool !b)) w := by
  unfold execOp
  simp only [ho, hx, hy]
  have h : Op.stringOp .neq ⟨p.toArray⟩ ⟨q.toArray⟩ = pure (.bool !b) := by
    unfold Op.stringOp
    simp only [str_beqLL, hb]
  show (((Op.stringOp .neq ⟨p.toArray⟩ ⟨q.toArray⟩) >>= fun v => pure (Next.value v)) : Sem Next).run _ _ = _
  rw [h]
  rfl

set_option maxRecDepth 100000 in
set_option maxHeartbeats 2000000 in
theorem rentries_any (A : Option Addr) (n cap : Nat) (F : List Int) (w : World) (hv : Nds w w.heap.size n (.slice A n cap) F) (hn : n ≤ 10000) :
    Calls Try.prog 26 #[.agg #[.slice A n cap]] w fun e w' => (∃ v, e = .returned v ∧ OwnP w' w.heap.size v (entR F n)) ∧ Below w.heap.size w w' := by
  obtain ⟨W0, hW0⟩ : ∃ W, W = w.alloc (.cells #[.slice A n cap] 24) := ⟨_, rfl⟩
  have b0 : Below w.heap.size w W0 := by rw [hW0]; exact (Below.refl _ _).alloc (Nat.le_refl _) _
  have k0 : Blk W0 w.heap.size 24 [.slice A n cap] := by rw [hW0]; exact Blk.newAt _ _ [_] _ rfl
  have hg0 := k0.lt
  have c0 := k0.cell (j := 0) rfl
  have HV := Lib.hid hv
  have HW := Lib.hid hW0
  have hC := rcheck_any A n cap F W0 (Row.past hv b0) hn
  have HER : Hid (entR F n = if chk F n = 0 then ents F else []) := Lib.hid rfl
  obtain ⟨L, hL⟩ : ∃ L, entR F n = L := ⟨_, rfl⟩
  obtain ⟨c, hc⟩ : ∃ c, chk F n = c := ⟨_, rfl⟩
  rw [hL, hc] at HER
  rw [hc] at hC
  rw [hL]
  have HC := Lib.hid hc
  have step : ∀ (R : Prop), (∀ hz0 : (c == 0) = true, R) → (∀ hz0 : (c == 0) = false, R) → R := fun R h1 h2 => by
    cases hc : (c == 0)
    · exact h2 hc
    · exact h1 hc
  clear hv hW0 k0 hL hc
  refine step _ (fun hz0 => ?_) (fun hz0 => ?_)
  all_goals
    clear step
    go_enter Try.func26, Try.ntmps26
    go_upto_region 1 with (fail)
    rw [← HW.out]
    go_wp2_with fail
    refine hC.mono ?_
    rintro e w1 ⟨rfl, hb1⟩
    have b1 := b0.trans (hb1.mono b0.size)
    have c1 := (hb1.cell (p := ⟨w.heap.size, 0, none⟩) hg0).trans c0
    clear hC c0
  · have hc0 : c = 0 := eq_of_beq hz0
    have hz1 : (c != 0) = false := by rw [bne, hz0]; rfl
    obtain ⟨⟨⟨E, hT⟩, _⟩, h4⟩ := chk_zero (HC.out.trans hc0)
    have HLE : Hid (L = ent F 15 0 []) := Lib.hid (by rw [HER.out, if_pos hc0]; rfl)
    obtain ⟨ad, hA, _⟩ := HV.out.at_ hT.pos
    subst hA
    have hC := rbelow_any ad n cap F E hT hn 15 0 [] w1 (Row.past HV.out b1) hT.pos (by omega) (by simp)
    rw [← HLE.out] at hC
    clear hc0 hT
    unfold str at hC
    go_wp2_with fail
    refine hC.mono ?_
    rintro e w2 ⟨⟨u, rfl, o2⟩, hb2⟩
    have b2 := b1.trans (hb2.mono b1.size)
    have o2' := o2.up (base' := w.heap.size) b1.size
    clear hC o2 c1
    go_wp2_with fail
    go_ret
    exact ⟨⟨_, rfl, o2'⟩, b2⟩
  · have hc0 : c ≠ 0 := ne_of_beq_false hz0
    have hz1 : (c != 0) = true := by rw [bne, hz0]; rfl
    have HLE : Hid (L = []) := Lib.hid (by rw [HER.out, if_neg hc0])
    clear hc0
    go_wp2_with fail
    go_ret
    rw [HLE.out]
    exact ⟨⟨_, rfl, OwnP.nil_ _ _⟩, b1⟩

set_option maxRecDepth 100000 in
set_option maxHeartbeats 2000000 in
theorem rextends_any (A : Option Addr) (n cap : Nat) (F : List Int) (s : Str) (w : World) (hv : Nds w w.heap.size n (.slice A n cap) F) (hn : n ≤ 10000) (hl : s.length ≤ 900) :
    Calls Try.prog 23 #[.agg #[.slice A n cap], str s] w fun e w' => IsB (extP F n s) e ∧ Below w.heap.size w w' := by
  obtain ⟨W0, hW0⟩ : ∃ W, W = w.alloc (.cells #[.slice A n cap] 24) := ⟨_, rfl⟩
  have b0 : Below w.heap.size w W0 := by rw [hW0]; exact (Below.refl _ _).alloc (Nat.le_refl _) _
  have k0 : Blk W0 w.heap.size 24 [.slice A n cap] := by rw [hW0]; exact Blk.newAt _ _ [_] _ rfl
  have hg0 := k0.lt
  have c0 := k0.cell (j := 0) rfl
  have HV := Lib.hid hv
  have HW := Lib.hid hW0
  have hC := rcheck_any A n cap F W0 (Row.past hv b0) hn
  have HEP : Hid (extP F n s ↔ (s.all isD = true ∧ chk F n = 0 ∧ ext F s)) := Lib.hid Iff.rfl
  obtain ⟨c, hc⟩ : ∃ c, chk F n = c := ⟨_, rfl⟩
  obtain ⟨b, hb⟩ : ∃ b, s.all isD = b := ⟨_, rfl⟩
  rw [hc, hb] at HEP
  rw [hc] at hC
  have HC := Lib.hid hc
  have HB := Lib.hid hb
  have hsz := str_size s
  have step : ∀ (R : Prop), (∀ hz0 : (c == 0) = true, R) → (∀ hz0 : (c == 0) = false, R) → R := fun R h1 h2 => by
    cases hc : (c == 0)
    · exact h2 hc
    · exact h1 hc
  clear hv hW0 k0 hc hb
  unfold str
  refine step _ (fun hz0 => ?_) (fun hz0 => ?_)
  all_goals
    clear step
    go_enter Try.func23, Try.ntmps23
    go_upto_region 1 with (fail)
    rw [← HW.out]
    go_wp2_with fail
    refine hC.mono ?_
    rintro e w1 ⟨rfl, hb1⟩
    have b1 := b0.trans (hb1.mono b0.size)
    have c1 := (hb1.cell (p := ⟨w.heap.size, 0, none⟩) hg0).trans c0
    clear hC c0
  · have hc0 : c = 0 := eq_of_beq hz0
    have hz1 : (c != 0) = false := by rw [bne, hz0]; rfl
    have HC0 := Lib.hid hc0
    obtain ⟨⟨⟨E, hT⟩, _⟩, h4⟩ := chk_zero (HC.out.trans hc0)
    have HT := Lib.hid hT
    obtain ⟨ad, hA, _⟩ := HV.out.at_ hT.pos
    subst hA
    have hD := rdig_any s w1 (by simp only [maxLen]; omega)
    rw [HB.out] at hD
    unfold str at hD
    clear hc0 hT
    go_wp2_with fail
    refine hD.mono ?_
    rintro e w2 ⟨rfl, hb2⟩
    have b2 := b1.trans (hb2.mono b1.size)
    have c2 := (hb2.cell (p := ⟨w.heap.size, 0, none⟩) (Nat.lt_of_lt_of_le hg0 hb1.size)).trans c1
    have hs2 := hb2.size
    have hs1 := hb1.size
    clear hD c1
    cases b with
    | false =>
      go_wp2_with fail
      go_ret
      exact ⟨IsB.no (fun h => by have := (HEP.out.1 h).1; cases this), b2⟩
    | true =>
      have hds : ∀ b ∈ s, isD b = true := List.all_eq_true.1 HB.out
      have HDS := Lib.hid hds
      clear hds
      by_cases h15 : 15 < s.length
      · go_wp2_with fail
        go_ret
        refine ⟨IsB.no (fun h => ?_), b2⟩
        obtain ⟨_, _, q, _, hq⟩ := HEP.out.1 h
        have := has_len HT.out (get_has hq)
        rw [List.length_append] at this
        omega
      · have HL15 : Hid (s.length ≤ 15) := Lib.hid (by omega)
        go_wp2_with fail
        have hC := rnode_any (some ad) n cap F E s w2 (Row.past HV.out b2) HT.out hn HDS.out (by have := HL15.out; omega)
        obtain ⟨oj, hoj⟩ : ∃ o, nod F 0 s = o := ⟨_, rfl⟩
        have HOJ := Lib.hid hoj
        unfold str at hC
        cases oj with
        | none =>
          have hnd : ndI F s = -1 := by unfold ndI; rw [hoj]
          rw [hnd] at hC
          clear hoj hnd
          refine hC.mono ?_
          rintro e w3 ⟨rfl, hb3⟩
          have b3 := b2.trans (hb3.mono b2.size)
          clear hC c2
          go_wp2_with fail
          go_ret
          exact ⟨IsB.no (fun h => ext_no HOJ.out (HEP.out.1 h).2.2), b3⟩
        | some j =>
          have hnd : ndI F s = (j : Int) := by unfold ndI; rw [hoj]
          have hjn := (nod_lt HT.out HT.out.pos hoj).1
          rw [hnd] at hC
          clear hoj hnd
          refine hC.mono ?_
          rintro e w3 ⟨rfl, hb3⟩
          have b3 := b2.trans (hb3.mono b2.size)
          have c3 := (hb3.cell (p := ⟨w.heap.size, 0, none⟩) (show w.heap.size < w2.heap.size by omega)).trans c2
          clear hC c2
          go_wp2_with fail
          have hC := rbelow_any ad n cap F E HT.out hn 15 j s w3 (Row.past HV.out b3) hjn (by omega) (by have := HL15.out; omega)
          have hX := ext_iff HT.out HOJ.out s
          have hLl := ent_len HT.out (r := s) hjn (show 15 ≤ 15 + E j by omega)
          obtain ⟨L, hL⟩ : ∃ L, ent F 15 j s = L := ⟨_, rfl⟩
          rw [hL] at hC hX hLl
          have HX : Hid (extP F n s ↔ ∃ x ∈ L, x.1 ≠ s) := Lib.hid (by
            rw [HEP.out, hX]
            exact ⟨fun h => h.2.2, fun h => ⟨by trivial, HC0.out, h⟩⟩)
          have hND : L.Pairwise (fun x y => x.1 < y.1) := by rw [← hL]; exact ent_asc HT.out 15 hjn (by omega)
          have HND := Lib.hid hND
          unfold str at hC
          clear hX hND hL
          refine hC.mono ?_
          rintro e w4 ⟨⟨u, rfl, o4⟩, hb4⟩
          obtain ⟨A4, c4, rfl⟩ := own_form o4
          have b4 := b3.trans (hb4.mono b3.size)
          have p4 := o4.pl
          clear hC o4 c3
          cases L with
          | nil =>
            simp only [List.length_nil]
            go_wp2_with fail
            go_ret
            exact ⟨IsB.no (fun h => by obtain ⟨x, hx, _⟩ := HX.out.1 h; cases hx), b4⟩
          | cons x L =>
            cases L with
            | nil =>
              obtain ⟨p, z⟩ := x
              obtain ⟨ad4, q, px, hA, hqe, hpx, hpx2, hqb, _, hcs, _⟩ := Pl.elem (i := 0) (x := (p, z)) p4 (Below.refl _ _) rfl
              subst hA
              have HQE := Lib.hid hqe
              unfold str at hcs
              have hp4 : ([(p, z)] : List (Str × Int)).length = 1 := rfl
              rw [hp4]
              obtain ⟨b, hb⟩ : ∃ b, decide (p = s) = b := ⟨_, rfl⟩
              have HBD := Lib.hid hb
              clear hqe hpx hpx2 hqb p4 hb
              go_wp2_with (first | (refine wp_run rfl (exec_ixS 38 45 2 Try.underlying38 info_pv2 _ rfl rfl .i64 (0 : Int) 0 rfl rfl (by omega) HQE.out) ?_) | (refine wp_run rfl (exec_neqS _ rfl p s b HBD.out rfl rfl) ?_))
              go_ret
              refine ⟨⟨_, rfl, ?_⟩, b4⟩
              rw [HX.out]
              have h := HBD.out
              constructor
              · intro hn
                refine ⟨(p, z), by simp, fun he => ?_⟩
                rw [decide_eq_true he] at h
                subst h; cases hn
              · rintro ⟨x, hx, hne⟩
                simp at hx; subst hx
                rw [decide_eq_false hne] at h
                subst h; rfl
            | cons y L =>
              have hlen : 1 < (x :: y :: L).length := by simp
              obtain ⟨M, hM⟩ : ∃ M, M = x :: y :: L := ⟨_, rfl⟩
              rw [← hM] at hlen p4 HX HND hLl ⊢
              have HM := Lib.hid hM
              clear hM p4
              go_wp2_with fail
              go_ret
              refine ⟨IsB.yes (HX.out.2 ?_), b4⟩
              have h := HND.out
              rw [HM.out] at h ⊢
              by_cases hx : x.1 = s
              · refine ⟨y, by simp, fun hy => ?_⟩
                have h1 : x.1 < y.1 := (List.pairwise_cons.1 h).1 y (by simp)
                rw [hx, hy] at h1
                exact str_irrefl _ h1
              · exact ⟨x, by simp, hx⟩
  · have hc0 : c ≠ 0 := ne_of_beq_false hz0
    have hz1 : (c != 0) = true := by rw [bne, hz0]; rfl
    have HC0 := Lib.hid hc0
    clear hc0
    go_wp2_with fail
    go_ret
    exact ⟨IsB.no (fun h => HC0.out (HEP.out.1 h).2.1), b1⟩
end Go.Proofs.Ytippbkooaonajaa
