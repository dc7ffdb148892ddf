/-
  TrieEntriesSorted: the walk of the law.
-/
import Derived.Test.YtippbkooaonajaaTrE
import Derived.Sort.Walk0
namespace Go.Proofs.Ytippbkooaonajaa
open Go.RowKit Dg Tr
set_option linter.unusedVariables false
set_option linter.unusedSimpArgs false

/-- Skipped, whatever the slot held. -/
theorem pt_skipu {P : Program} {ops : Array Oper} {R : Act → World → Prop} {base : Nat} {i : Nat} {r : PT} {a : Act} {w : World} {o : Oper} {d : Nat} (ho : ops[i]? = some o) (hd : o.dst = some d)
    (hw : Region.wanted o (yielded ops a.tmps) = false) (h : wpPT base P ops R r (a.put (some d) undef) w) : wpPT base P ops R (.take i r) a w :=
  ⟨o, undef, ho, Or.inr ⟨hw, rfl⟩, by rw [hd]; exact h⟩
/-- x >= y of two strings. -/
theorem exec_geq {o : Oper} {a : Act} (w : World) {x y : Operand} {t u : TypeId} (ho : o.op = .binOp .geq t x y u) {p q : Str} {b : Bool} (hx : a.eval x = .string ⟨p.toArray⟩) (hy : a.eval y = .string ⟨q.toArray⟩) (hl : Op.bytesLess p q = b) :
    (execOp a.eval o).run Try.prog w = .ok (.value (.bool !b)) w := by
  unfold execOp
  simp only [ho, hx, hy]
  have h : Op.stringOp .geq ⟨p.toArray⟩ ⟨q.toArray⟩ = pure (.bool !b) := by
    unfold Op.stringOp
    simp only [Lib.toList_data, hl]
  show (((Op.stringOp .geq ⟨p.toArray⟩ ⟨q.toArray⟩) >>= fun v => pure (Next.value v)) : Sem Next).run _ _ = _
  rw [h]
  rfl
theorem keys_inj {K : List (Str × Int)} (h : (K.map (·.1)).Nodup) {x y : Str × Int} (hx : x ∈ K) (hy : y ∈ K) (he : x.1 = y.1) : x = y := by
  induction K with
  | nil => cases hx
  | cons a t ih =>
    simp only [List.map_cons, List.nodup_cons] at h
    rcases List.mem_cons.1 hx with rfl | hx' <;> rcases List.mem_cons.1 hy with rfl | hy'
    · rfl
    · exact absurd (List.mem_map.2 ⟨y, hy', he.symm⟩) h.1
    · exact absurd (List.mem_map.2 ⟨x, hx', he⟩) h.1
    · exact ih h.2 hx' hy'
theorem wout_one : ∀ {K : List (Str × Int)}, (K.map (·.1)).Nodup → ∀ {x : Str × Int}, x ∈ K → (wout K x.1).length + 1 = K.length
  | [], _, x, hx => by cases hx
  | a :: t, h, x, hx => by
    simp only [List.map_cons, List.nodup_cons] at h
    unfold wout
    by_cases he : a.1 = x.1
    · have hf : (a :: t).filter (fun y => !decide (y.1 = x.1)) = t := by
        rw [List.filter_cons, if_neg (by simp [he]), List.filter_eq_self]
        intro y hy
        have : y.1 ≠ x.1 := fun hc => h.1 (List.mem_map.2 ⟨y, hy, by rw [hc, he]⟩)
        simp [this]
      rw [hf]; rfl
    · rw [List.filter_cons, if_pos (by simp [he]), List.length_cons, List.length_cons]
      rcases List.mem_cons.1 hx with rfl | hx'
      · exact absurd rfl he
      · have := wout_one h.2 hx'
        unfold wout at this
        omega
theorem kp_len {X : List Int} {nx : Nat} {K : List (Str × Int)} (h : Kp X nx K) : (ents X).length = K.length := by
  obtain ⟨⟨E, ht⟩, _⟩ := h.ok
  have ha := ents_asc ht
  unfold Asc at ha
  have h1 : (ents X).Nodup := by
    unfold List.Nodup
    refine ha.imp ?_
    intro a b hab hc
    subst hc
    exact str_irrefl a.1 hab
  have h2 : K.Nodup := List.Pairwise.of_map (·.1) (fun a b hab hc => hab (by rw [hc])) h.nd
  exact ((List.perm_ext_iff_of_nodup h1 h2).2 fun x => by rw [mem_ents ht, h.mem]).length_eq
theorem kp_mem {X : List Int} {nx : Nat} {K : List (Str × Int)} (h : Kp X nx K) {x : Str × Int} (hx : x ∈ ents X) : x ∈ K := by
  obtain ⟨⟨E, ht⟩, _⟩ := h.ok
  exact (h.mem x).2 ((mem_ents ht x).1 hx)
theorem kp_lon {X : List Int} {nx : Nat} {K : List (Str × Int)} (h : Kp X nx K) {x : Str × Int} (hx : x ∈ ents X) : lonR X nx x.1 = (x.2, x.1.length, true) := by
  have hk := kp_mem h hx
  have hb : Be K x.1 (some x) := ⟨hk, List.prefix_refl _, fun y _ hy => hy.length_le⟩
  rw [lon_be h hb, if_pos (List.all_eq_true.2 (h.has hk).2)]
theorem asc_at {X : List Int} {nx : Nat} {K : List (Str × Int)} (h : Kp X nx K) {j : Nat} {x y : Str × Int} (hy : (ents X)[j]? = some y) (hx : (ents X)[j + 1]? = some x) : y.1 < x.1 := by
  obtain ⟨⟨E, ht⟩, _⟩ := h.ok
  obtain ⟨h1, rfl⟩ := List.getElem?_eq_some_iff.1 hy
  obtain ⟨h2, rfl⟩ := List.getElem?_eq_some_iff.1 hx
  exact List.pairwise_iff_getElem.1 (ents_asc ht) j (j + 1) h1 h2 (by omega)

set_option maxRecDepth 100000 in
set_option maxHeartbeats 4000000 in
theorem trieEntriesSorted_walk (v : Value) (l : List (Str × Int)) (w : World) (hv : Pl w w.heap.size v l) (hu : ∀ x ∈ l, Upd x) :
    Calls Try.prog 6 #[v] w fun e w' => e = .returned (.bool true) ∧ Below w.heap.size w w' := by
  have HU := Lib.hid hu
  clear hu
  go_enter Try.func6, Try.ntmps6
  go_wp2_with fail
  refine (sane_any w).mono ?_
  rintro e w1 ⟨rfl, b1⟩
  have v1 : Pl w1 w1.heap.size v l := Row.past hv b1
  clear hv
  go_wp2_with fail
  refine (short_any v l w1 v1 HU.out).mono ?_
  rintro e w2 ⟨⟨r, rfl, hr⟩, bx⟩
  have v2 : Pl w2 w2.heap.size v l := Row.past v1 bx
  have b2 := b1.trans (bx.mono b1.size)
  clear v1 bx b1
  cases r with
  | false =>
    clear hr
    go_wp2_with fail
    go_ret
    exact ⟨rfl, b2⟩
  | true =>
  obtain ⟨hl60, hl40⟩ := hr rfl
  have HL40 := Lib.hid hl40
  clear hr hl40
  go_wp2_with fail
  refine (built_any v l w2 v2 HU.out hl60 HL40.out).mono ?_
  rintro e w3 ⟨⟨Ax, nx, cx, X, K, u, rfl, hkp, hKl, xn, kp⟩, bx⟩
  have b3 := b2.trans (bx.mono b2.size)
  have HKP := Lib.hid hkp
  have hnx := hkp.le
  clear v2 bx b2 hkp
  go_wp2_with (first | (refine wp_storeA 24 (.tmp 3) (.tmp 18) rfl rfl w3.heap.size rfl 24 [.slice none 0 0] [.slice Ax nx cx] rfl (Blk.new _ _ _) (by rw [info_trie]; rfl) rfl (by intro v hv; simp at hv; subst hv; rfl) rfl ?_; intro w4 kx kkx; have bx : Below w3.heap.size w3 w4 := ((Below.refl _ _).alloc (Nat.le_refl _) _).trans (kkx.below (fun q hq => by omega) (by simp)); have t4 := TrV.laidN xn bx kx; have p4 : Pl w4 w4.heap.size u K := Row.past kp bx; have b4 := b3.trans (bx.mono b3.size); have ct4 := t4.cell; clear kkx bx kx xn kp b3))
  obtain ⟨Ak, ck, rfl⟩ := row_form p4
  obtain ⟨g3, hg3⟩ : ∃ q, w3.heap.size = q := ⟨_, rfl⟩
  rw [hg3] at t4 ct4 ⊢
  clear hg3
  have hC := entries_any Ax nx cx X w4 t4.nds (by omega)
  rw [entR_ok HKP.out.ok hnx] at hC
  obtain ⟨L, hL⟩ : ∃ L, ents X = L := ⟨_, rfl⟩
  have HL := Lib.hid hL
  have HLK : Hid (L.length = K.length) := Lib.hid (by rw [← hL]; exact kp_len HKP.out)
  have hLn : L.length ≤ 4096 := by rw [← hL, ← entR_ok HKP.out.ok hnx]; exact entR_len X nx
  rw [hL] at hC
  clear hL
  refine hC.mono ?_
  rintro e w5 ⟨⟨v5, rfl, o5⟩, bx⟩
  obtain ⟨Al, cl, rfl⟩ := own_form o5
  have t5 := t4.go bx
  have ct5 := t5.cell
  have p5 : Pl w5 w5.heap.size (.slice Ak K.length ck) K := Row.past p4 bx
  have l5 := o5.pl
  have b5 := b4.trans (bx.mono b4.size)
  clear hC bx t4 ct4 p4 b4 o5
  have hne : ((L.length : Int) != (K.length : Int)) = false := by rw [HLK.out]; simp
  go_wp2_with fail
  have hC := check_any Ax nx cx X w5 t5.nds (by omega)
  rw [chk_ok HKP.out.ok hnx] at hC
  refine hC.mono ?_
  rintro e w6 ⟨rfl, bx⟩
  have t6 := t5.go bx
  have ct6 := t6.cell
  have p6 : Pl w6 w6.heap.size (.slice Ak K.length ck) K := Row.past p5 bx
  have l6 : Pl w6 w6.heap.size (.slice Al L.length cl) L := Row.past l5 bx
  have b6 := b5.trans (bx.mono b5.size)
  clear hC bx t5 ct5 p5 b5 l5 hne
  go_wp2_with fail
  go_loopw [6] (fun vi wr => ∃ i : Nat, vi = .int .i64 (i : Int) ∧ i ≤ L.length ∧ Below w6.heap.size w6 wr) (fun vi wr => ixn L.length vi)
  case atStart => exact ⟨0, rfl, Nat.zero_le _, Below.refl _ _⟩
  case round =>
    obtain ⟨i, rfl, hi', hbw⟩ := hrel
    by_cases hlt : i < L.length
    · obtain ⟨⟨p, z⟩, hx⟩ : ∃ x, L[i]? = some x := ⟨_, List.getElem?_eq_getElem hlt⟩
      obtain ⟨ad, q, px, hA, hqe, hpx, hpx2, hqb, _, hcs, hcz⟩ := Pl.elem l6 (Below.refl _ _) hx
      subst hA
      have hmem : (p, z) ∈ ents X := by rw [HL.out]; exact List.mem_of_getElem? hx
      have hp15 : p.length ≤ 15 := (HKP.out.has (kp_mem HKP.out hmem)).1
      have HLN : Hid (lonR X nx p = (z, p.length, true)) := Lib.hid (kp_lon HKP.out hmem)
      have HWO : Hid ((wout K p).length + 1 = K.length) := Lib.hid (wout_one HKP.out.nd (kp_mem HKP.out hmem))
      have HKB : Hid (K.length ≤ 4096) := Lib.hid (by rw [← HLK.out]; exact hLn)
      have hKB := HKB.out
      have HQE := Lib.hid hqe
      have HX := Lib.hid hx
      have hpz := str_size p
      have HQL := Lib.hid hqb
      have HQB : Hid (q.block < wr.heap.size) := Lib.hid (Nat.lt_of_lt_of_le hqb hbw.size)
      unfold str at hcs
      have HCS6 := Lib.hid hcs
      have HCZ6 := Lib.hid hcz
      have HCS : Hid (wr.cell? q = some (.string ⟨p.toArray⟩)) := Lib.hid ((hbw.cell hqb).trans hcs)
      have t7 := t6.go hbw
      have ct7 := t7.cell
      clear hqe hpx hpx2 hx hqb hcs hcz hmem ct6
      by_cases h0 : i = 0
      · subst h0
        clear HX
        go_upto_region 12 with (fail)
        refine wp_region_pt wr.heap.size (.take 0 (.take 1 (.take 2 (.take 3 (.take 4 (.take 5 (.step 6 (.take 7 (.take 8 (.take 9 (.take 10 (.take 11 (.take 12 (.take 13 .done)))))))))))))) (by kernel_rfl) (by kernel_rfl) (by kernel_rfl) (fun _ _ h => h) ?_
        obtain ⟨w7, hdr⟩ : ∃ x, x = wr.drew := ⟨_, rfl⟩
        have bx : Below wr.heap.size wr w7 := by rw [hdr]; exact (Below.refl _ _).drew
        have bw7 : Below w6.heap.size w6 w7 := hbw.trans (bx.mono hbw.size)
        have hg3 : g3 < wr.heap.size := t7.blk.lt
        have hz7 : wr.heap.size ≤ w7.heap.size := bx.size
        have t8 := t7.go bx
        have ct8 := t8.cell
        have cs8 := (bx.cell HQB.out).trans HCS.out
        rw [← hdr]
        clear hdr bx t7 ct7
        refine pt_take rfl rfl rfl rfl ?_
        apply Exists.intro
        refine ⟨fun w' hw' => ?_, ?_⟩
        · have hcell := (hw'.cell (p := ⟨g3, 0, none⟩) hg3).trans ct8
          focus ((repeat (first | go_skip | go_guarded | go_step | go_upon | go_back)); exact ⟨rfl, rfl, rfl⟩)
        first | refine pt_skip rfl rfl rfl rfl ?_ | (refine pt_take rfl rfl rfl rfl ?_; apply Exists.intro; refine ⟨fun w' hw' => ?_, ?_⟩; focus ((repeat (first | go_skip | go_guarded | go_step | go_upon | go_back)); exact ⟨rfl, rfl, rfl⟩))
        first | refine pt_skip rfl rfl rfl rfl ?_ | (refine pt_take rfl rfl rfl rfl ?_; apply Exists.intro; refine ⟨fun w' hw' => ?_, ?_⟩; focus ((repeat (first | go_skip | go_guarded | go_step | go_upon | go_back)); exact ⟨rfl, rfl, rfl⟩))
        refine pt_take rfl rfl rfl rfl ?_
        apply Exists.intro
        refine ⟨fun w' hw' => ?_, ?_⟩
        · refine wp_run rfl (exec_ixS 38 45 2 Try.underlying38 info_pv2 w' rfl rfl .i64 (0 : Int) 0 rfl rfl hlt HQE.out) ?_
          exact ⟨rfl, rfl, rfl⟩
        first | refine pt_skip rfl rfl rfl rfl ?_ | (refine pt_take rfl rfl rfl rfl ?_; apply Exists.intro; refine ⟨fun w' hw' => ?_, ?_⟩; focus ((repeat (first | go_skip | go_guarded | go_step | go_upon | go_back)); exact ⟨rfl, rfl, rfl⟩))
        refine pt_take rfl rfl rfl rfl ?_
        apply Exists.intro
        refine ⟨fun w' hw' => ?_, ?_⟩
        · have hcell := (hw'.cell (p := q) HQB.out).trans cs8
          focus ((repeat (first | go_skip | go_guarded | go_step | go_upon | go_back)); exact ⟨rfl, rfl, rfl⟩)
        refine pt_step rfl ?_
        go_wp2_with fail
        have hC := longest_any Ax nx cx X p w7 t8.nds (by omega) (by omega)
        rw [HLN.out] at hC
        unfold lonV str at hC
        refine hC.mono ?_
        rintro e w8 ⟨rfl, by_⟩
        clear hC
        go_wp2_with fail
        refine ⟨rfl, by_.mono hz7, ?_⟩
        first | refine pt_skip rfl rfl rfl rfl ?_ | (refine pt_take rfl rfl rfl rfl ?_; apply Exists.intro; refine ⟨fun w' hw' => ?_, ?_⟩; focus ((repeat (first | go_skip | go_guarded | go_step | go_upon | go_back)); exact ⟨rfl, rfl, rfl⟩))
        first | refine pt_skip rfl rfl rfl rfl ?_ | (refine pt_take rfl rfl rfl rfl ?_; apply Exists.intro; refine ⟨fun w' hw' => ?_, ?_⟩; focus ((repeat (first | go_skip | go_guarded | go_step | go_upon | go_back)); exact ⟨rfl, rfl, rfl⟩))
        first | refine pt_skip rfl rfl rfl rfl ?_ | (refine pt_take rfl rfl rfl rfl ?_; apply Exists.intro; refine ⟨fun w' hw' => ?_, ?_⟩; focus ((repeat (first | go_skip | go_guarded | go_step | go_upon | go_back)); exact ⟨rfl, rfl, rfl⟩))
        first | refine pt_skip rfl rfl rfl rfl ?_ | (refine pt_take rfl rfl rfl rfl ?_; apply Exists.intro; refine ⟨fun w' hw' => ?_, ?_⟩; focus ((repeat (first | go_skip | go_guarded | go_step | go_upon | go_back)); exact ⟨rfl, rfl, rfl⟩))
        first | refine pt_skip rfl rfl rfl rfl ?_ | (refine pt_take rfl rfl rfl rfl ?_; apply Exists.intro; refine ⟨fun w' hw' => ?_, ?_⟩; focus ((repeat (first | go_skip | go_guarded | go_step | go_upon | go_back)); exact ⟨rfl, rfl, rfl⟩))
        first | refine pt_skip rfl rfl rfl rfl ?_ | (refine pt_take rfl rfl rfl rfl ?_; apply Exists.intro; refine ⟨fun w' hw' => ?_, ?_⟩; focus ((repeat (first | go_skip | go_guarded | go_step | go_upon | go_back)); exact ⟨rfl, rfl, rfl⟩))
        first | refine pt_skip rfl rfl rfl rfl ?_ | (refine pt_take rfl rfl rfl rfl ?_; apply Exists.intro; refine ⟨fun w' hw' => ?_, ?_⟩; focus ((repeat (first | go_skip | go_guarded | go_step | go_upon | go_back)); exact ⟨rfl, rfl, rfl⟩))
        change Exit.then _ _ Exit.normal _ _
        have bw8 : Below w6.heap.size w6 w8 := bw7.trans (by_.mono bw7.size)
        have k8 : Pl w8 w8.heap.size (.slice Ak K.length ck) K := Row.past p6 bw8
        clear by_ bw7 t8 ct8 cs8
        go_upto_region 13 with (fail)
        refine wp_region_pt w8.heap.size (.take 0 (.take 1 (.take 2 (.take 3 (.take 4 (.take 5 (.take 6 (.take 7 (.take 8 (.take 9 (.take 10 (.take 11 (.take 12 (.take 13 (.take 14 (.take 15 (.take 16 (.take 17 (.take 18 (.take 19 (.take 20 (.take 21 (.take 22 (.take 23 (.take 24 (.take 25 (.take 26 (.take 27 (.take 28 (.take 29 (.take 30 (.take 31 (.take 32 (.take 33 (.take 34 (.take 35 (.take 36 (.take 37 (.take 38 (.take 39 (.take 40 (.take 41 (.take 42 (.take 43 (.take 44 (.take 45 (.take 48 (.take 49 (.take 50 (.step 46 (.take 47 (.take 51 (.take 52 .done))))))))))))))))))))))))))))))))))))))))))))))))))))) (by kernel_rfl) (by kernel_rfl) (by kernel_rfl) (fun _ _ h => h) ?_
        obtain ⟨w9, hdr⟩ : ∃ x, x = w8.drew := ⟨_, rfl⟩
        have bx : Below w8.heap.size w8 w9 := by rw [hdr]; exact (Below.refl _ _).drew
        have bw9 : Below w6.heap.size w6 w9 := bw8.trans (bx.mono bw8.size)
        have k9 : Pl w9 w9.heap.size (.slice Ak K.length ck) K := Row.past k8 bx
        have hz9 : w8.heap.size ≤ w9.heap.size := bx.size
        have hq8 : Hid (q.block < w8.heap.size) := Lib.hid (Nat.lt_of_lt_of_le HQL.out bw8.size)
        have cs9 : w9.cell? q = some (.string ⟨p.toArray⟩) := (bw9.cell HQL.out).trans HCS6.out
        have cz9 : w9.cell? ⟨q.block, q.off + 1, none⟩ = some (.int .i64 z) := (bw9.cell (p := ⟨q.block, q.off + 1, none⟩) HQL.out).trans HCZ6.out
        rw [← hdr]
        clear hdr bx bw8 k8
        first | refine pt_skip rfl rfl rfl rfl ?_ | (refine pt_take rfl rfl rfl rfl ?_; apply Exists.intro; refine ⟨fun w' hw' => ?_, ?_⟩; focus ((repeat (first | go_skip | go_guarded | go_step | go_upon | go_back)); exact ⟨rfl, rfl, rfl⟩))
        first | refine pt_skip rfl rfl rfl rfl ?_ | (refine pt_take rfl rfl rfl rfl ?_; apply Exists.intro; refine ⟨fun w' hw' => ?_, ?_⟩; focus ((repeat (first | go_skip | go_guarded | go_step | go_upon | go_back)); exact ⟨rfl, rfl, rfl⟩))
        first | refine pt_skip rfl rfl rfl rfl ?_ | (refine pt_take rfl rfl rfl rfl ?_; apply Exists.intro; refine ⟨fun w' hw' => ?_, ?_⟩; focus ((repeat (first | go_skip | go_guarded | go_step | go_upon | go_back)); exact ⟨rfl, rfl, rfl⟩))
        refine pt_skipu rfl rfl rfl ?_
        simp only [Act.put, List.setIfInBounds_toArray, List.set_cons_succ, List.set_cons_zero]
        refine pt_skipu rfl rfl rfl ?_
        simp only [Act.put, List.setIfInBounds_toArray, List.set_cons_succ, List.set_cons_zero]
        refine pt_skipu rfl rfl rfl ?_
        simp only [Act.put, List.setIfInBounds_toArray, List.set_cons_succ, List.set_cons_zero]
        refine pt_skipu rfl rfl rfl ?_
        simp only [Act.put, List.setIfInBounds_toArray, List.set_cons_succ, List.set_cons_zero]
        refine pt_skipu rfl rfl rfl ?_
        simp only [Act.put, List.setIfInBounds_toArray, List.set_cons_succ, List.set_cons_zero]
        refine pt_skipu rfl rfl rfl ?_
        simp only [Act.put, List.setIfInBounds_toArray, List.set_cons_succ, List.set_cons_zero]
        refine pt_skipu rfl rfl rfl ?_
        simp only [Act.put, List.setIfInBounds_toArray, List.set_cons_succ, List.set_cons_zero]
        refine pt_skipu rfl rfl rfl ?_
        simp only [Act.put, List.setIfInBounds_toArray, List.set_cons_succ, List.set_cons_zero]
        refine pt_skipu rfl rfl rfl ?_
        simp only [Act.put, List.setIfInBounds_toArray, List.set_cons_succ, List.set_cons_zero]
        refine pt_skipu rfl rfl rfl ?_
        simp only [Act.put, List.setIfInBounds_toArray, List.set_cons_succ, List.set_cons_zero]
        refine pt_skipu rfl rfl rfl ?_
        simp only [Act.put, List.setIfInBounds_toArray, List.set_cons_succ, List.set_cons_zero]
        refine pt_skipu rfl rfl rfl ?_
        simp only [Act.put, List.setIfInBounds_toArray, List.set_cons_succ, List.set_cons_zero]
        first | refine pt_skip rfl rfl rfl rfl ?_ | (refine pt_take rfl rfl rfl rfl ?_; apply Exists.intro; refine ⟨fun w' hw' => ?_, ?_⟩; focus ((repeat (first | go_skip | go_guarded | go_step | go_upon | go_back)); exact ⟨rfl, rfl, rfl⟩))
        first | refine pt_skip rfl rfl rfl rfl ?_ | (refine pt_take rfl rfl rfl rfl ?_; apply Exists.intro; refine ⟨fun w' hw' => ?_, ?_⟩; focus ((repeat (first | go_skip | go_guarded | go_step | go_upon | go_back)); exact ⟨rfl, rfl, rfl⟩))
        first | refine pt_skip rfl rfl rfl rfl ?_ | (refine pt_take rfl rfl rfl rfl ?_; apply Exists.intro; refine ⟨fun w' hw' => ?_, ?_⟩; focus ((repeat (first | go_skip | go_guarded | go_step | go_upon | go_back)); exact ⟨rfl, rfl, rfl⟩))
        first | refine pt_skip rfl rfl rfl rfl ?_ | (refine pt_take rfl rfl rfl rfl ?_; apply Exists.intro; refine ⟨fun w' hw' => ?_, ?_⟩; focus ((repeat (first | go_skip | go_guarded | go_step | go_upon | go_back)); exact ⟨rfl, rfl, rfl⟩))
        first | refine pt_skip rfl rfl rfl rfl ?_ | (refine pt_take rfl rfl rfl rfl ?_; apply Exists.intro; refine ⟨fun w' hw' => ?_, ?_⟩; focus ((repeat (first | go_skip | go_guarded | go_step | go_upon | go_back)); exact ⟨rfl, rfl, rfl⟩))
        first | refine pt_skip rfl rfl rfl rfl ?_ | (refine pt_take rfl rfl rfl rfl ?_; apply Exists.intro; refine ⟨fun w' hw' => ?_, ?_⟩; focus ((repeat (first | go_skip | go_guarded | go_step | go_upon | go_back)); exact ⟨rfl, rfl, rfl⟩))
        first | refine pt_skip rfl rfl rfl rfl ?_ | (refine pt_take rfl rfl rfl rfl ?_; apply Exists.intro; refine ⟨fun w' hw' => ?_, ?_⟩; focus ((repeat (first | go_skip | go_guarded | go_step | go_upon | go_back)); exact ⟨rfl, rfl, rfl⟩))
        first | refine pt_skip rfl rfl rfl rfl ?_ | (refine pt_take rfl rfl rfl rfl ?_; apply Exists.intro; refine ⟨fun w' hw' => ?_, ?_⟩; focus ((repeat (first | go_skip | go_guarded | go_step | go_upon | go_back)); exact ⟨rfl, rfl, rfl⟩))
        first | refine pt_skip rfl rfl rfl rfl ?_ | (refine pt_take rfl rfl rfl rfl ?_; apply Exists.intro; refine ⟨fun w' hw' => ?_, ?_⟩; focus ((repeat (first | go_skip | go_guarded | go_step | go_upon | go_back)); exact ⟨rfl, rfl, rfl⟩))
        refine pt_take rfl rfl rfl rfl ?_
        apply Exists.intro
        refine ⟨fun w' hw' => ?_, ?_⟩
        · refine wp_run rfl (exec_ixS 38 45 2 Try.underlying38 info_pv2 w' rfl rfl .i64 (0 : Int) 0 rfl rfl hlt HQE.out) ?_
          exact ⟨rfl, rfl, rfl⟩
        first | refine pt_skip rfl rfl rfl rfl ?_ | (refine pt_take rfl rfl rfl rfl ?_; apply Exists.intro; refine ⟨fun w' hw' => ?_, ?_⟩; focus ((repeat (first | go_skip | go_guarded | go_step | go_upon | go_back)); exact ⟨rfl, rfl, rfl⟩))
        refine pt_take rfl rfl rfl rfl ?_
        apply Exists.intro
        refine ⟨fun w' hw' => ?_, ?_⟩
        · have hcell := (hw'.cell (p := ⟨q.block, q.off + 1, none⟩) hq8.out).trans cz9
          focus ((repeat (first | go_skip | go_guarded | go_step | go_upon | go_back)); exact ⟨rfl, rfl, rfl⟩)
        first | refine pt_skip rfl rfl rfl rfl ?_ | (refine pt_take rfl rfl rfl rfl ?_; apply Exists.intro; refine ⟨fun w' hw' => ?_, ?_⟩; focus ((repeat (first | go_skip | go_guarded | go_step | go_upon | go_back)); exact ⟨rfl, rfl, rfl⟩))
        first | refine pt_skip rfl rfl rfl rfl ?_ | (refine pt_take rfl rfl rfl rfl ?_; apply Exists.intro; refine ⟨fun w' hw' => ?_, ?_⟩; focus ((repeat (first | go_skip | go_guarded | go_step | go_upon | go_back)); exact ⟨rfl, rfl, rfl⟩))
        first | refine pt_skip rfl rfl rfl rfl ?_ | (refine pt_take rfl rfl rfl rfl ?_; apply Exists.intro; refine ⟨fun w' hw' => ?_, ?_⟩; focus ((repeat (first | go_skip | go_guarded | go_step | go_upon | go_back)); exact ⟨rfl, rfl, rfl⟩))
        first | refine pt_skip rfl rfl rfl rfl ?_ | (refine pt_take rfl rfl rfl rfl ?_; apply Exists.intro; refine ⟨fun w' hw' => ?_, ?_⟩; focus ((repeat (first | go_skip | go_guarded | go_step | go_upon | go_back)); exact ⟨rfl, rfl, rfl⟩))
        first | refine pt_skip rfl rfl rfl rfl ?_ | (refine pt_take rfl rfl rfl rfl ?_; apply Exists.intro; refine ⟨fun w' hw' => ?_, ?_⟩; focus ((repeat (first | go_skip | go_guarded | go_step | go_upon | go_back)); exact ⟨rfl, rfl, rfl⟩))
        first | refine pt_skip rfl rfl rfl rfl ?_ | (refine pt_take rfl rfl rfl rfl ?_; apply Exists.intro; refine ⟨fun w' hw' => ?_, ?_⟩; focus ((repeat (first | go_skip | go_guarded | go_step | go_upon | go_back)); exact ⟨rfl, rfl, rfl⟩))
        refine pt_take rfl rfl rfl rfl ?_
        apply Exists.intro
        refine ⟨fun w' hw' => ?_, ?_⟩
        · refine wp_run rfl (exec_ixS 38 45 2 Try.underlying38 info_pv2 w' rfl rfl .i64 (0 : Int) 0 rfl rfl hlt HQE.out) ?_
          exact ⟨rfl, rfl, rfl⟩
        first | refine pt_skip rfl rfl rfl rfl ?_ | (refine pt_take rfl rfl rfl rfl ?_; apply Exists.intro; refine ⟨fun w' hw' => ?_, ?_⟩; focus ((repeat (first | go_skip | go_guarded | go_step | go_upon | go_back)); exact ⟨rfl, rfl, rfl⟩))
        refine pt_take rfl rfl rfl rfl ?_
        apply Exists.intro
        refine ⟨fun w' hw' => ?_, ?_⟩
        · have hcell := (hw'.cell (p := q) hq8.out).trans cs9
          focus ((repeat (first | go_skip | go_guarded | go_step | go_upon | go_back)); exact ⟨rfl, rfl, rfl⟩)
        first | refine pt_skip rfl rfl rfl rfl ?_ | (refine pt_take rfl rfl rfl rfl ?_; apply Exists.intro; refine ⟨fun w' hw' => ?_, ?_⟩; focus ((repeat (first | go_skip | go_guarded | go_step | go_upon | go_back)); exact ⟨rfl, rfl, rfl⟩))
        first | refine pt_skip rfl rfl rfl rfl ?_ | (refine pt_take rfl rfl rfl rfl ?_; apply Exists.intro; refine ⟨fun w' hw' => ?_, ?_⟩; focus ((repeat (first | go_skip | go_guarded | go_step | go_upon | go_back)); exact ⟨rfl, rfl, rfl⟩))
        first | refine pt_skip rfl rfl rfl rfl ?_ | (refine pt_take rfl rfl rfl rfl ?_; apply Exists.intro; refine ⟨fun w' hw' => ?_, ?_⟩; focus ((repeat (first | go_skip | go_guarded | go_step | go_upon | go_back)); exact ⟨rfl, rfl, rfl⟩))
        first | refine pt_skip rfl rfl rfl rfl ?_ | (refine pt_take rfl rfl rfl rfl ?_; apply Exists.intro; refine ⟨fun w' hw' => ?_, ?_⟩; focus ((repeat (first | go_skip | go_guarded | go_step | go_upon | go_back)); exact ⟨rfl, rfl, rfl⟩))
        first | refine pt_skip rfl rfl rfl rfl ?_ | (refine pt_take rfl rfl rfl rfl ?_; apply Exists.intro; refine ⟨fun w' hw' => ?_, ?_⟩; focus ((repeat (first | go_skip | go_guarded | go_step | go_upon | go_back)); exact ⟨rfl, rfl, rfl⟩))
        first | refine pt_skip rfl rfl rfl rfl ?_ | (refine pt_take rfl rfl rfl rfl ?_; apply Exists.intro; refine ⟨fun w' hw' => ?_, ?_⟩; focus ((repeat (first | go_skip | go_guarded | go_step | go_upon | go_back)); exact ⟨rfl, rfl, rfl⟩))
        first | refine pt_skip rfl rfl rfl rfl ?_ | (refine pt_take rfl rfl rfl rfl ?_; apply Exists.intro; refine ⟨fun w' hw' => ?_, ?_⟩; focus ((repeat (first | go_skip | go_guarded | go_step | go_upon | go_back)); exact ⟨rfl, rfl, rfl⟩))
        refine pt_take rfl rfl rfl rfl ?_
        apply Exists.intro
        refine ⟨fun w' hw' => ?_, ?_⟩
        · refine wp_run rfl (exec_ixS 38 45 2 Try.underlying38 info_pv2 w' rfl rfl .i64 (0 : Int) 0 rfl rfl hlt HQE.out) ?_
          exact ⟨rfl, rfl, rfl⟩
        first | refine pt_skip rfl rfl rfl rfl ?_ | (refine pt_take rfl rfl rfl rfl ?_; apply Exists.intro; refine ⟨fun w' hw' => ?_, ?_⟩; focus ((repeat (first | go_skip | go_guarded | go_step | go_upon | go_back)); exact ⟨rfl, rfl, rfl⟩))
        refine pt_take rfl rfl rfl rfl ?_
        apply Exists.intro
        refine ⟨fun w' hw' => ?_, ?_⟩
        · have hcell := (hw'.cell (p := q) hq8.out).trans cs9
          focus ((repeat (first | go_skip | go_guarded | go_step | go_upon | go_back)); exact ⟨rfl, rfl, rfl⟩)
        first | refine pt_skip rfl rfl rfl rfl ?_ | (refine pt_take rfl rfl rfl rfl ?_; apply Exists.intro; refine ⟨fun w' hw' => ?_, ?_⟩; focus ((repeat (first | go_skip | go_guarded | go_step | go_upon | go_back)); exact ⟨rfl, rfl, rfl⟩))
        first | refine pt_skip rfl rfl rfl rfl ?_ | (refine pt_take rfl rfl rfl rfl ?_; apply Exists.intro; refine ⟨fun w' hw' => ?_, ?_⟩; focus ((repeat (first | go_skip | go_guarded | go_step | go_upon | go_back)); exact ⟨rfl, rfl, rfl⟩))
        first | refine pt_skip rfl rfl rfl rfl ?_ | (refine pt_take rfl rfl rfl rfl ?_; apply Exists.intro; refine ⟨fun w' hw' => ?_, ?_⟩; focus ((repeat (first | go_skip | go_guarded | go_step | go_upon | go_back)); exact ⟨rfl, rfl, rfl⟩))
        refine pt_step rfl ?_
        go_wp2_with fail
        have hC := without_any (.slice Ak K.length ck) K p w9 k9 (by omega) (by omega)
        obtain ⟨M, hM⟩ : ∃ M, wout K p = M := ⟨_, rfl⟩
        rw [hM] at hC
        have hmk : ((M.length : Int) != (K.length : Int) - 1) = false := by
          have h1 := HWO.out
          rw [hM] at h1
          rw [bne_eq_false_iff_eq]
          omega
        have hML : M.length ≤ 1000 := by
          have h1 := HWO.out
          rw [hM] at h1
          omega
        clear hM
        unfold str at hC
        refine hC.mono ?_
        rintro e w10 ⟨⟨v10, rfl, o10⟩, by_⟩
        obtain ⟨Am, cm, rfl⟩ := own_form o10
        clear hC
        go_wp2_with fail
        refine ⟨rfl, by_.mono hz9, ?_⟩
        first | refine pt_skip rfl rfl rfl rfl ?_ | (refine pt_take rfl rfl rfl rfl ?_; apply Exists.intro; refine ⟨fun w' hw' => ?_, ?_⟩; focus ((repeat (first | go_skip | go_guarded | go_step | go_upon | go_back)); exact ⟨rfl, rfl, rfl⟩))
        first | refine pt_skip rfl rfl rfl rfl ?_ | (refine pt_take rfl rfl rfl rfl ?_; apply Exists.intro; refine ⟨fun w' hw' => ?_, ?_⟩; focus ((repeat (first | go_skip | go_guarded | go_step | go_upon | go_back)); exact ⟨rfl, rfl, rfl⟩))
        first | refine pt_skip rfl rfl rfl rfl ?_ | (refine pt_take rfl rfl rfl rfl ?_; apply Exists.intro; refine ⟨fun w' hw' => ?_, ?_⟩; focus ((repeat (first | go_skip | go_guarded | go_step | go_upon | go_back)); exact ⟨rfl, rfl, rfl⟩))
        change Exit.then _ _ Exit.normal _ _
        have bw10 : Below w6.heap.size w6 w10 := bw9.trans (by_.mono bw9.size)
        clear by_ bw9 k9 o10
        go_wp2_with fail
        go_roundw
        case measure => show L.length - ((0 : Int) + 1).toNat < L.length - ((0 : Int)).toNat; omega
        case rel => exact ⟨0 + 1, by simp, by omega, bw10⟩

      · have hip : 0 < i := by omega
        obtain ⟨j, hj⟩ : ∃ j, i = j + 1 := ⟨i - 1, by omega⟩
        have hjl : j < L.length := by omega
        obtain ⟨⟨p2, z2⟩, hx2⟩ : ∃ x, L[j]? = some x := ⟨_, List.getElem?_eq_getElem hjl⟩
        obtain ⟨ad2, q2, px2, hA2, hqe2, _, _, hqb2, _, hcs2, _⟩ := Pl.elem l6 (Below.refl _ _) hx2
        injection hA2 with hA2
        subst hA2
        have hpp : p2 < p := asc_at HKP.out (x := (p, z)) (y := (p2, z2)) (by rw [HL.out]; exact hx2) (by rw [HL.out, ← hj]; exact HX.out)
        have hlb : Op.bytesLess p2 p = true := by rw [bytesLess_eq]; exact decide_eq_true hpp
        have HQE2 := Lib.hid hqe2
        have HJ := Lib.hid hj
        have HQL2 := Lib.hid hqb2
        unfold str at hcs2
        have HCS2 := Lib.hid hcs2
        clear hx2 hqe2 hqb2 hcs2 hpp h0 hj HX
        go_upto_region 12 with (fail)
        refine wp_region_pt wr.heap.size (.take 0 (.take 1 (.take 2 (.take 3 (.take 4 (.take 5 (.step 6 (.take 7 (.take 8 (.take 9 (.take 10 (.take 11 (.take 12 (.take 13 .done)))))))))))))) (by kernel_rfl) (by kernel_rfl) (by kernel_rfl) (fun _ _ h => h) ?_
        obtain ⟨w7, hdr⟩ : ∃ x, x = wr.drew := ⟨_, rfl⟩
        have bx : Below wr.heap.size wr w7 := by rw [hdr]; exact (Below.refl _ _).drew
        have bw7 : Below w6.heap.size w6 w7 := hbw.trans (bx.mono hbw.size)
        have hg3 : g3 < wr.heap.size := t7.blk.lt
        have hz7 : wr.heap.size ≤ w7.heap.size := bx.size
        have t8 := t7.go bx
        have ct8 := t8.cell
        have cs8 := (bx.cell HQB.out).trans HCS.out
        rw [← hdr]
        clear hdr bx t7 ct7
        refine pt_take rfl rfl rfl rfl ?_
        apply Exists.intro
        refine ⟨fun w' hw' => ?_, ?_⟩
        · have hcell := (hw'.cell (p := ⟨g3, 0, none⟩) hg3).trans ct8
          focus ((repeat (first | go_skip | go_guarded | go_step | go_upon | go_back)); exact ⟨rfl, rfl, rfl⟩)
        first | refine pt_skip rfl rfl rfl rfl ?_ | (refine pt_take rfl rfl rfl rfl ?_; apply Exists.intro; refine ⟨fun w' hw' => ?_, ?_⟩; focus ((repeat (first | go_skip | go_guarded | go_step | go_upon | go_back)); exact ⟨rfl, rfl, rfl⟩))
        first | refine pt_skip rfl rfl rfl rfl ?_ | (refine pt_take rfl rfl rfl rfl ?_; apply Exists.intro; refine ⟨fun w' hw' => ?_, ?_⟩; focus ((repeat (first | go_skip | go_guarded | go_step | go_upon | go_back)); exact ⟨rfl, rfl, rfl⟩))
        refine pt_take rfl rfl rfl rfl ?_
        apply Exists.intro
        refine ⟨fun w' hw' => ?_, ?_⟩
        · refine wp_run rfl (exec_ixS 38 45 2 Try.underlying38 info_pv2 w' rfl rfl .i64 (i : Int) i rfl rfl hlt HQE.out) ?_
          exact ⟨rfl, rfl, rfl⟩
        first | refine pt_skip rfl rfl rfl rfl ?_ | (refine pt_take rfl rfl rfl rfl ?_; apply Exists.intro; refine ⟨fun w' hw' => ?_, ?_⟩; focus ((repeat (first | go_skip | go_guarded | go_step | go_upon | go_back)); exact ⟨rfl, rfl, rfl⟩))
        refine pt_take rfl rfl rfl rfl ?_
        apply Exists.intro
        refine ⟨fun w' hw' => ?_, ?_⟩
        · have hcell := (hw'.cell (p := q) HQB.out).trans cs8
          focus ((repeat (first | go_skip | go_guarded | go_step | go_upon | go_back)); exact ⟨rfl, rfl, rfl⟩)
        refine pt_step rfl ?_
        go_wp2_with fail
        have hC := longest_any Ax nx cx X p w7 t8.nds (by omega) (by omega)
        rw [HLN.out] at hC
        unfold lonV str at hC
        refine hC.mono ?_
        rintro e w8 ⟨rfl, by_⟩
        clear hC
        go_wp2_with fail
        refine ⟨rfl, by_.mono hz7, ?_⟩
        first | refine pt_skip rfl rfl rfl rfl ?_ | (refine pt_take rfl rfl rfl rfl ?_; apply Exists.intro; refine ⟨fun w' hw' => ?_, ?_⟩; focus ((repeat (first | go_skip | go_guarded | go_step | go_upon | go_back)); exact ⟨rfl, rfl, rfl⟩))
        first | refine pt_skip rfl rfl rfl rfl ?_ | (refine pt_take rfl rfl rfl rfl ?_; apply Exists.intro; refine ⟨fun w' hw' => ?_, ?_⟩; focus ((repeat (first | go_skip | go_guarded | go_step | go_upon | go_back)); exact ⟨rfl, rfl, rfl⟩))
        first | refine pt_skip rfl rfl rfl rfl ?_ | (refine pt_take rfl rfl rfl rfl ?_; apply Exists.intro; refine ⟨fun w' hw' => ?_, ?_⟩; focus ((repeat (first | go_skip | go_guarded | go_step | go_upon | go_back)); exact ⟨rfl, rfl, rfl⟩))
        first | refine pt_skip rfl rfl rfl rfl ?_ | (refine pt_take rfl rfl rfl rfl ?_; apply Exists.intro; refine ⟨fun w' hw' => ?_, ?_⟩; focus ((repeat (first | go_skip | go_guarded | go_step | go_upon | go_back)); exact ⟨rfl, rfl, rfl⟩))
        first | refine pt_skip rfl rfl rfl rfl ?_ | (refine pt_take rfl rfl rfl rfl ?_; apply Exists.intro; refine ⟨fun w' hw' => ?_, ?_⟩; focus ((repeat (first | go_skip | go_guarded | go_step | go_upon | go_back)); exact ⟨rfl, rfl, rfl⟩))
        first | refine pt_skip rfl rfl rfl rfl ?_ | (refine pt_take rfl rfl rfl rfl ?_; apply Exists.intro; refine ⟨fun w' hw' => ?_, ?_⟩; focus ((repeat (first | go_skip | go_guarded | go_step | go_upon | go_back)); exact ⟨rfl, rfl, rfl⟩))
        first | refine pt_skip rfl rfl rfl rfl ?_ | (refine pt_take rfl rfl rfl rfl ?_; apply Exists.intro; refine ⟨fun w' hw' => ?_, ?_⟩; focus ((repeat (first | go_skip | go_guarded | go_step | go_upon | go_back)); exact ⟨rfl, rfl, rfl⟩))
        change Exit.then _ _ Exit.normal _ _
        have bw8 : Below w6.heap.size w6 w8 := bw7.trans (by_.mono bw7.size)
        have k8 : Pl w8 w8.heap.size (.slice Ak K.length ck) K := Row.past p6 bw8
        clear by_ bw7 t8 ct8 cs8
        go_upto_region 13 with (fail)
        refine wp_region_pt w8.heap.size (.take 0 (.take 1 (.take 2 (.take 3 (.take 4 (.take 5 (.take 6 (.take 7 (.take 8 (.take 9 (.take 10 (.take 11 (.take 12 (.take 13 (.take 14 (.take 15 (.take 16 (.take 17 (.take 18 (.take 19 (.take 20 (.take 21 (.take 22 (.take 23 (.take 24 (.take 25 (.take 26 (.take 27 (.take 28 (.take 29 (.take 30 (.take 31 (.take 32 (.take 33 (.take 34 (.take 35 (.take 36 (.take 37 (.take 38 (.take 39 (.take 40 (.take 41 (.take 42 (.take 43 (.take 44 (.take 45 (.take 48 (.take 49 (.take 50 (.step 46 (.take 47 (.take 51 (.take 52 .done))))))))))))))))))))))))))))))))))))))))))))))))))))) (by kernel_rfl) (by kernel_rfl) (by kernel_rfl) (fun _ _ h => h) ?_
        obtain ⟨w9, hdr⟩ : ∃ x, x = w8.drew := ⟨_, rfl⟩
        have bx : Below w8.heap.size w8 w9 := by rw [hdr]; exact (Below.refl _ _).drew
        have bw9 : Below w6.heap.size w6 w9 := bw8.trans (bx.mono bw8.size)
        have k9 : Pl w9 w9.heap.size (.slice Ak K.length ck) K := Row.past k8 bx
        have hz9 : w8.heap.size ≤ w9.heap.size := bx.size
        have hq8 : Hid (q.block < w8.heap.size) := Lib.hid (Nat.lt_of_lt_of_le HQL.out bw8.size)
        have cs9 : w9.cell? q = some (.string ⟨p.toArray⟩) := (bw9.cell HQL.out).trans HCS6.out
        have cz9 : w9.cell? ⟨q.block, q.off + 1, none⟩ = some (.int .i64 z) := (bw9.cell (p := ⟨q.block, q.off + 1, none⟩) HQL.out).trans HCZ6.out
        have hq28 : Hid (q2.block < w8.heap.size) := Lib.hid (Nat.lt_of_lt_of_le HQL2.out bw8.size)
        have ct9 : w9.cell? q2 = some (.string ⟨p2.toArray⟩) := (bw9.cell HQL2.out).trans HCS2.out
        rw [← hdr]
        clear hdr bx bw8 k8
        first | refine pt_skip rfl rfl rfl rfl ?_ | (refine pt_take rfl rfl rfl rfl ?_; apply Exists.intro; refine ⟨fun w' hw' => ?_, ?_⟩; focus ((repeat (first | go_skip | go_guarded | go_step | go_upon | go_back)); exact ⟨rfl, rfl, rfl⟩))
        first | refine pt_skip rfl rfl rfl rfl ?_ | (refine pt_take rfl rfl rfl rfl ?_; apply Exists.intro; refine ⟨fun w' hw' => ?_, ?_⟩; focus ((repeat (first | go_skip | go_guarded | go_step | go_upon | go_back)); exact ⟨rfl, rfl, rfl⟩))
        first | refine pt_skip rfl rfl rfl rfl ?_ | (refine pt_take rfl rfl rfl rfl ?_; apply Exists.intro; refine ⟨fun w' hw' => ?_, ?_⟩; focus ((repeat (first | go_skip | go_guarded | go_step | go_upon | go_back)); exact ⟨rfl, rfl, rfl⟩))
        first | refine pt_skip rfl rfl rfl rfl ?_ | (refine pt_take rfl rfl rfl rfl ?_; apply Exists.intro; refine ⟨fun w' hw' => ?_, ?_⟩; focus ((repeat (first | go_skip | go_guarded | go_step | go_upon | go_back)); exact ⟨rfl, rfl, rfl⟩))
        first | refine pt_skip rfl rfl rfl rfl ?_ | (refine pt_take rfl rfl rfl rfl ?_; apply Exists.intro; refine ⟨fun w' hw' => ?_, ?_⟩; focus ((repeat (first | go_skip | go_guarded | go_step | go_upon | go_back)); exact ⟨rfl, rfl, rfl⟩))
        first | refine pt_skip rfl rfl rfl rfl ?_ | (refine pt_take rfl rfl rfl rfl ?_; apply Exists.intro; refine ⟨fun w' hw' => ?_, ?_⟩; focus ((repeat (first | go_skip | go_guarded | go_step | go_upon | go_back)); exact ⟨rfl, rfl, rfl⟩))
        refine pt_take rfl rfl rfl rfl ?_
        apply Exists.intro
        refine ⟨fun w' hw' => ?_, ?_⟩
        · refine wp_run rfl (exec_ixS 38 45 2 Try.underlying38 info_pv2 w' rfl rfl .i64 ((i : Int) - 1) j rfl (by have := HJ.out; omega) hjl HQE2.out) ?_
          exact ⟨rfl, rfl, rfl⟩
        first | refine pt_skip rfl rfl rfl rfl ?_ | (refine pt_take rfl rfl rfl rfl ?_; apply Exists.intro; refine ⟨fun w' hw' => ?_, ?_⟩; focus ((repeat (first | go_skip | go_guarded | go_step | go_upon | go_back)); exact ⟨rfl, rfl, rfl⟩))
        refine pt_take rfl rfl rfl rfl ?_
        apply Exists.intro
        refine ⟨fun w' hw' => ?_, ?_⟩
        · have hcell := (hw'.cell (p := q2) hq28.out).trans ct9
          focus ((repeat (first | go_skip | go_guarded | go_step | go_upon | go_back)); exact ⟨rfl, rfl, rfl⟩)
        first | refine pt_skip rfl rfl rfl rfl ?_ | (refine pt_take rfl rfl rfl rfl ?_; apply Exists.intro; refine ⟨fun w' hw' => ?_, ?_⟩; focus ((repeat (first | go_skip | go_guarded | go_step | go_upon | go_back)); exact ⟨rfl, rfl, rfl⟩))
        first | refine pt_skip rfl rfl rfl rfl ?_ | (refine pt_take rfl rfl rfl rfl ?_; apply Exists.intro; refine ⟨fun w' hw' => ?_, ?_⟩; focus ((repeat (first | go_skip | go_guarded | go_step | go_upon | go_back)); exact ⟨rfl, rfl, rfl⟩))
        refine pt_take rfl rfl rfl rfl ?_
        apply Exists.intro
        refine ⟨fun w' hw' => ?_, ?_⟩
        · refine wp_run rfl (exec_ixS 38 45 2 Try.underlying38 info_pv2 w' rfl rfl .i64 (i : Int) i rfl rfl hlt HQE.out) ?_
          exact ⟨rfl, rfl, rfl⟩
        first | refine pt_skip rfl rfl rfl rfl ?_ | (refine pt_take rfl rfl rfl rfl ?_; apply Exists.intro; refine ⟨fun w' hw' => ?_, ?_⟩; focus ((repeat (first | go_skip | go_guarded | go_step | go_upon | go_back)); exact ⟨rfl, rfl, rfl⟩))
        refine pt_take rfl rfl rfl rfl ?_
        apply Exists.intro
        refine ⟨fun w' hw' => ?_, ?_⟩
        · have hcell := (hw'.cell (p := q) hq8.out).trans cs9
          focus ((repeat (first | go_skip | go_guarded | go_step | go_upon | go_back)); exact ⟨rfl, rfl, rfl⟩)
        refine pt_take rfl rfl rfl rfl ?_
        apply Exists.intro
        refine ⟨fun w' hw' => ?_, ?_⟩
        · refine wp_run rfl (exec_geq w' rfl rfl rfl hlb) ?_
          exact ⟨rfl, rfl, rfl⟩
        first | refine pt_skip rfl rfl rfl rfl ?_ | (refine pt_take rfl rfl rfl rfl ?_; apply Exists.intro; refine ⟨fun w' hw' => ?_, ?_⟩; focus ((repeat (first | go_skip | go_guarded | go_step | go_upon | go_back)); exact ⟨rfl, rfl, rfl⟩))
        first | refine pt_skip rfl rfl rfl rfl ?_ | (refine pt_take rfl rfl rfl rfl ?_; apply Exists.intro; refine ⟨fun w' hw' => ?_, ?_⟩; focus ((repeat (first | go_skip | go_guarded | go_step | go_upon | go_back)); exact ⟨rfl, rfl, rfl⟩))
        first | refine pt_skip rfl rfl rfl rfl ?_ | (refine pt_take rfl rfl rfl rfl ?_; apply Exists.intro; refine ⟨fun w' hw' => ?_, ?_⟩; focus ((repeat (first | go_skip | go_guarded | go_step | go_upon | go_back)); exact ⟨rfl, rfl, rfl⟩))
        first | refine pt_skip rfl rfl rfl rfl ?_ | (refine pt_take rfl rfl rfl rfl ?_; apply Exists.intro; refine ⟨fun w' hw' => ?_, ?_⟩; focus ((repeat (first | go_skip | go_guarded | go_step | go_upon | go_back)); exact ⟨rfl, rfl, rfl⟩))
        first | refine pt_skip rfl rfl rfl rfl ?_ | (refine pt_take rfl rfl rfl rfl ?_; apply Exists.intro; refine ⟨fun w' hw' => ?_, ?_⟩; focus ((repeat (first | go_skip | go_guarded | go_step | go_upon | go_back)); exact ⟨rfl, rfl, rfl⟩))
        first | refine pt_skip rfl rfl rfl rfl ?_ | (refine pt_take rfl rfl rfl rfl ?_; apply Exists.intro; refine ⟨fun w' hw' => ?_, ?_⟩; focus ((repeat (first | go_skip | go_guarded | go_step | go_upon | go_back)); exact ⟨rfl, rfl, rfl⟩))
        first | refine pt_skip rfl rfl rfl rfl ?_ | (refine pt_take rfl rfl rfl rfl ?_; apply Exists.intro; refine ⟨fun w' hw' => ?_, ?_⟩; focus ((repeat (first | go_skip | go_guarded | go_step | go_upon | go_back)); exact ⟨rfl, rfl, rfl⟩))
        first | refine pt_skip rfl rfl rfl rfl ?_ | (refine pt_take rfl rfl rfl rfl ?_; apply Exists.intro; refine ⟨fun w' hw' => ?_, ?_⟩; focus ((repeat (first | go_skip | go_guarded | go_step | go_upon | go_back)); exact ⟨rfl, rfl, rfl⟩))
        first | refine pt_skip rfl rfl rfl rfl ?_ | (refine pt_take rfl rfl rfl rfl ?_; apply Exists.intro; refine ⟨fun w' hw' => ?_, ?_⟩; focus ((repeat (first | go_skip | go_guarded | go_step | go_upon | go_back)); exact ⟨rfl, rfl, rfl⟩))
        refine pt_take rfl rfl rfl rfl ?_
        apply Exists.intro
        refine ⟨fun w' hw' => ?_, ?_⟩
        · refine wp_run rfl (exec_ixS 38 45 2 Try.underlying38 info_pv2 w' rfl rfl .i64 (i : Int) i rfl rfl hlt HQE.out) ?_
          exact ⟨rfl, rfl, rfl⟩
        first | refine pt_skip rfl rfl rfl rfl ?_ | (refine pt_take rfl rfl rfl rfl ?_; apply Exists.intro; refine ⟨fun w' hw' => ?_, ?_⟩; focus ((repeat (first | go_skip | go_guarded | go_step | go_upon | go_back)); exact ⟨rfl, rfl, rfl⟩))
        refine pt_take rfl rfl rfl rfl ?_
        apply Exists.intro
        refine ⟨fun w' hw' => ?_, ?_⟩
        · have hcell := (hw'.cell (p := ⟨q.block, q.off + 1, none⟩) hq8.out).trans cz9
          focus ((repeat (first | go_skip | go_guarded | go_step | go_upon | go_back)); exact ⟨rfl, rfl, rfl⟩)
        first | refine pt_skip rfl rfl rfl rfl ?_ | (refine pt_take rfl rfl rfl rfl ?_; apply Exists.intro; refine ⟨fun w' hw' => ?_, ?_⟩; focus ((repeat (first | go_skip | go_guarded | go_step | go_upon | go_back)); exact ⟨rfl, rfl, rfl⟩))
        first | refine pt_skip rfl rfl rfl rfl ?_ | (refine pt_take rfl rfl rfl rfl ?_; apply Exists.intro; refine ⟨fun w' hw' => ?_, ?_⟩; focus ((repeat (first | go_skip | go_guarded | go_step | go_upon | go_back)); exact ⟨rfl, rfl, rfl⟩))
        first | refine pt_skip rfl rfl rfl rfl ?_ | (refine pt_take rfl rfl rfl rfl ?_; apply Exists.intro; refine ⟨fun w' hw' => ?_, ?_⟩; focus ((repeat (first | go_skip | go_guarded | go_step | go_upon | go_back)); exact ⟨rfl, rfl, rfl⟩))
        first | refine pt_skip rfl rfl rfl rfl ?_ | (refine pt_take rfl rfl rfl rfl ?_; apply Exists.intro; refine ⟨fun w' hw' => ?_, ?_⟩; focus ((repeat (first | go_skip | go_guarded | go_step | go_upon | go_back)); exact ⟨rfl, rfl, rfl⟩))
        first | refine pt_skip rfl rfl rfl rfl ?_ | (refine pt_take rfl rfl rfl rfl ?_; apply Exists.intro; refine ⟨fun w' hw' => ?_, ?_⟩; focus ((repeat (first | go_skip | go_guarded | go_step | go_upon | go_back)); exact ⟨rfl, rfl, rfl⟩))
        first | refine pt_skip rfl rfl rfl rfl ?_ | (refine pt_take rfl rfl rfl rfl ?_; apply Exists.intro; refine ⟨fun w' hw' => ?_, ?_⟩; focus ((repeat (first | go_skip | go_guarded | go_step | go_upon | go_back)); exact ⟨rfl, rfl, rfl⟩))
        refine pt_take rfl rfl rfl rfl ?_
        apply Exists.intro
        refine ⟨fun w' hw' => ?_, ?_⟩
        · refine wp_run rfl (exec_ixS 38 45 2 Try.underlying38 info_pv2 w' rfl rfl .i64 (i : Int) i rfl rfl hlt HQE.out) ?_
          exact ⟨rfl, rfl, rfl⟩
        first | refine pt_skip rfl rfl rfl rfl ?_ | (refine pt_take rfl rfl rfl rfl ?_; apply Exists.intro; refine ⟨fun w' hw' => ?_, ?_⟩; focus ((repeat (first | go_skip | go_guarded | go_step | go_upon | go_back)); exact ⟨rfl, rfl, rfl⟩))
        refine pt_take rfl rfl rfl rfl ?_
        apply Exists.intro
        refine ⟨fun w' hw' => ?_, ?_⟩
        · have hcell := (hw'.cell (p := q) hq8.out).trans cs9
          focus ((repeat (first | go_skip | go_guarded | go_step | go_upon | go_back)); exact ⟨rfl, rfl, rfl⟩)
        first | refine pt_skip rfl rfl rfl rfl ?_ | (refine pt_take rfl rfl rfl rfl ?_; apply Exists.intro; refine ⟨fun w' hw' => ?_, ?_⟩; focus ((repeat (first | go_skip | go_guarded | go_step | go_upon | go_back)); exact ⟨rfl, rfl, rfl⟩))
        first | refine pt_skip rfl rfl rfl rfl ?_ | (refine pt_take rfl rfl rfl rfl ?_; apply Exists.intro; refine ⟨fun w' hw' => ?_, ?_⟩; focus ((repeat (first | go_skip | go_guarded | go_step | go_upon | go_back)); exact ⟨rfl, rfl, rfl⟩))
        first | refine pt_skip rfl rfl rfl rfl ?_ | (refine pt_take rfl rfl rfl rfl ?_; apply Exists.intro; refine ⟨fun w' hw' => ?_, ?_⟩; focus ((repeat (first | go_skip | go_guarded | go_step | go_upon | go_back)); exact ⟨rfl, rfl, rfl⟩))
        first | refine pt_skip rfl rfl rfl rfl ?_ | (refine pt_take rfl rfl rfl rfl ?_; apply Exists.intro; refine ⟨fun w' hw' => ?_, ?_⟩; focus ((repeat (first | go_skip | go_guarded | go_step | go_upon | go_back)); exact ⟨rfl, rfl, rfl⟩))
        first | refine pt_skip rfl rfl rfl rfl ?_ | (refine pt_take rfl rfl rfl rfl ?_; apply Exists.intro; refine ⟨fun w' hw' => ?_, ?_⟩; focus ((repeat (first | go_skip | go_guarded | go_step | go_upon | go_back)); exact ⟨rfl, rfl, rfl⟩))
        first | refine pt_skip rfl rfl rfl rfl ?_ | (refine pt_take rfl rfl rfl rfl ?_; apply Exists.intro; refine ⟨fun w' hw' => ?_, ?_⟩; focus ((repeat (first | go_skip | go_guarded | go_step | go_upon | go_back)); exact ⟨rfl, rfl, rfl⟩))
        first | refine pt_skip rfl rfl rfl rfl ?_ | (refine pt_take rfl rfl rfl rfl ?_; apply Exists.intro; refine ⟨fun w' hw' => ?_, ?_⟩; focus ((repeat (first | go_skip | go_guarded | go_step | go_upon | go_back)); exact ⟨rfl, rfl, rfl⟩))
        refine pt_take rfl rfl rfl rfl ?_
        apply Exists.intro
        refine ⟨fun w' hw' => ?_, ?_⟩
        · refine wp_run rfl (exec_ixS 38 45 2 Try.underlying38 info_pv2 w' rfl rfl .i64 (i : Int) i rfl rfl hlt HQE.out) ?_
          exact ⟨rfl, rfl, rfl⟩
        first | refine pt_skip rfl rfl rfl rfl ?_ | (refine pt_take rfl rfl rfl rfl ?_; apply Exists.intro; refine ⟨fun w' hw' => ?_, ?_⟩; focus ((repeat (first | go_skip | go_guarded | go_step | go_upon | go_back)); exact ⟨rfl, rfl, rfl⟩))
        refine pt_take rfl rfl rfl rfl ?_
        apply Exists.intro
        refine ⟨fun w' hw' => ?_, ?_⟩
        · have hcell := (hw'.cell (p := q) hq8.out).trans cs9
          focus ((repeat (first | go_skip | go_guarded | go_step | go_upon | go_back)); exact ⟨rfl, rfl, rfl⟩)
        first | refine pt_skip rfl rfl rfl rfl ?_ | (refine pt_take rfl rfl rfl rfl ?_; apply Exists.intro; refine ⟨fun w' hw' => ?_, ?_⟩; focus ((repeat (first | go_skip | go_guarded | go_step | go_upon | go_back)); exact ⟨rfl, rfl, rfl⟩))
        first | refine pt_skip rfl rfl rfl rfl ?_ | (refine pt_take rfl rfl rfl rfl ?_; apply Exists.intro; refine ⟨fun w' hw' => ?_, ?_⟩; focus ((repeat (first | go_skip | go_guarded | go_step | go_upon | go_back)); exact ⟨rfl, rfl, rfl⟩))
        first | refine pt_skip rfl rfl rfl rfl ?_ | (refine pt_take rfl rfl rfl rfl ?_; apply Exists.intro; refine ⟨fun w' hw' => ?_, ?_⟩; focus ((repeat (first | go_skip | go_guarded | go_step | go_upon | go_back)); exact ⟨rfl, rfl, rfl⟩))
        refine pt_step rfl ?_
        go_wp2_with fail
        have hC := without_any (.slice Ak K.length ck) K p w9 k9 (by omega) (by omega)
        obtain ⟨M, hM⟩ : ∃ M, wout K p = M := ⟨_, rfl⟩
        rw [hM] at hC
        have hmk : ((M.length : Int) != (K.length : Int) - 1) = false := by
          have h1 := HWO.out
          rw [hM] at h1
          rw [bne_eq_false_iff_eq]
          omega
        have hML : M.length ≤ 1000 := by
          have h1 := HWO.out
          rw [hM] at h1
          omega
        clear hM
        unfold str at hC
        refine hC.mono ?_
        rintro e w10 ⟨⟨v10, rfl, o10⟩, by_⟩
        obtain ⟨Am, cm, rfl⟩ := own_form o10
        clear hC
        go_wp2_with fail
        refine ⟨rfl, by_.mono hz9, ?_⟩
        first | refine pt_skip rfl rfl rfl rfl ?_ | (refine pt_take rfl rfl rfl rfl ?_; apply Exists.intro; refine ⟨fun w' hw' => ?_, ?_⟩; focus ((repeat (first | go_skip | go_guarded | go_step | go_upon | go_back)); exact ⟨rfl, rfl, rfl⟩))
        first | refine pt_skip rfl rfl rfl rfl ?_ | (refine pt_take rfl rfl rfl rfl ?_; apply Exists.intro; refine ⟨fun w' hw' => ?_, ?_⟩; focus ((repeat (first | go_skip | go_guarded | go_step | go_upon | go_back)); exact ⟨rfl, rfl, rfl⟩))
        first | refine pt_skip rfl rfl rfl rfl ?_ | (refine pt_take rfl rfl rfl rfl ?_; apply Exists.intro; refine ⟨fun w' hw' => ?_, ?_⟩; focus ((repeat (first | go_skip | go_guarded | go_step | go_upon | go_back)); exact ⟨rfl, rfl, rfl⟩))
        change Exit.then _ _ Exit.normal _ _
        have bw10 : Below w6.heap.size w6 w10 := bw9.trans (by_.mono bw9.size)
        clear by_ bw9 k9 o10
        go_wp2_with fail
        go_roundw
        case measure => show L.length - ((i : Int) + 1).toNat < L.length - ((i : Int)).toNat; omega
        case rel => exact ⟨i + 1, by simp, by omega, bw10⟩

    · obtain rfl : i = L.length := by omega
      have b7 := b6.trans (hbw.mono b6.size)
      go_wp2_with fail
      go_ret
      exact ⟨rfl, b7⟩
end Go.Proofs.Ytippbkooaonajaa
