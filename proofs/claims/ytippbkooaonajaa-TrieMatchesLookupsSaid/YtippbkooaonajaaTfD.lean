/-
  The reference's Put, Drop and Few.
-/
import Derived.Test.YtippbkooaonajaaTfC
import Derived.Test.YtippbkooaonajaaTtN
namespace Go.Proofs.Ytippbkooaonajaa
open Go.RowKit Dg Tr
set_option linter.unusedVariables false
set_option linter.unusedSimpArgs false

theorem rfew_any (A : Option Addr) (n cap : Nat) (w : World) (hn : n ≤ maxLen) :
    Calls Try.prog 12 #[.agg #[.slice A n cap]] w fun e w' => e = .returned (.bool (decide (n ≤ 5000))) ∧ Below w.heap.size w w' := by
  have hml : maxLen = 9223372036854775807 := rfl
  have k0 : Blk (w.alloc (.cells #[.slice A n cap] 24)) w.heap.size 24 [.slice A n cap] := Blk.new _ _ _
  have b0 : Below w.heap.size w (w.alloc (.cells #[.slice A n cap] 24)) := (Below.refl _ _).alloc (Nat.le_refl _) _
  obtain ⟨W0, hW0⟩ : ∃ W, W = w.alloc (.cells #[.slice A n cap] 24) := ⟨_, rfl⟩
  rw [← hW0] at k0 b0
  have c0 := k0.cell (j := 0) rfl
  have HW := Lib.hid hW0
  clear hW0
  obtain ⟨r, hr⟩ : ∃ r, decide (n ≤ 5000) = r := ⟨_, rfl⟩
  by_cases h : n ≤ 5000
  · go_enter Try.func12, Try.ntmps12
    go_upto_region 1 with (fail)
    rw [← HW.out]
    go_wp2_with fail
    go_ret
    exact ⟨by rw [decide_eq_true h]; simp; omega, b0⟩
  · go_enter Try.func12, Try.ntmps12
    go_upto_region 1 with (fail)
    rw [← HW.out]
    go_wp2_with fail
    go_ret
    exact ⟨by rw [decide_eq_false h]; simp; omega, b0⟩

set_option maxRecDepth 100000 in
set_option maxHeartbeats 4000000 in
theorem rput_any (A : Option Addr) (n cap : Nat) (F : List Int) (s : Str) (v : Int) (w : World) (hv : Nds w w.heap.size n (.slice A n cap) F) (hn : n ≤ 10000) (hl : s.length ≤ 1000) :
    Calls Try.prog 14 #[.agg #[.slice A n cap], str s, .int .i64 v] w fun e w' => (∃ u, e = .returned (.tuple #[.agg #[u], .int .i64 (putE F n s v)]) ∧ OwnN w' w.heap.size (putN F n s v) u (putF F n s v)) ∧ Below w.heap.size w w' := by
  have HV := Lib.hid hv
  obtain ⟨W0, hW0⟩ : ∃ W, W = (w.alloc (.cells #[.slice A n cap] 24)).alloc (.cells #[.slice none 0 0] 24) := ⟨_, rfl⟩
  have hs0 : W0.heap.size = w.heap.size + 2 := by rw [hW0]; simp
  have b0 : Below w.heap.size w W0 := by
    rw [hW0]; exact ((Below.refl _ _).alloc (Nat.le_refl _) _).alloc (by simp) _
  have c0 : Blk W0 w.heap.size 24 [.slice A n cap] := by rw [hW0]; exact (Blk.newAt _ _ [_] _ rfl).alloc _
  have c1 : Blk W0 (w.heap.size + 1) 24 [.slice none 0 0] := by rw [hW0]; exact Blk.newAt _ _ [_] _ (by simp)
  have hC := rcheck_any A n cap F W0 (Row.past hv b0) hn
  have HSZ := Lib.hid (str_size s)
  have HCP : Hid (chp F n s = if chk F n ≠ 0 then chk F n else if (decide (s.length ≤ 15) && s.all isD) = true then 0 else 60) := Lib.hid rfl
  have HE : Hid (putE F n s v = if chp F n s ≠ 0 then chp F n s else if v < 1 ∨ 1099511627776 < v then 1 else if 4096 < putn F n s then 2 else 0) := Lib.hid rfl
  have HF : Hid (putF F n s v = if putE F n s v = 0 then put F n s v else []) := Lib.hid rfl
  have HN : Hid (putN F n s v = if putE F n s v = 0 then putn F n s else 0) := Lib.hid rfl
  obtain ⟨cc, hcc⟩ : ∃ c, chp F n s = c := ⟨_, rfl⟩
  obtain ⟨c, hc⟩ : ∃ c, chk F n = c := ⟨_, rfl⟩
  obtain ⟨pb, hpb⟩ : ∃ b, (decide (s.length ≤ 15) && s.all isD) = b := ⟨_, rfl⟩
  rw [hcc, hc, hpb] at HCP
  rw [hc] at hC
  obtain ⟨pe, hpe⟩ : ∃ pe, putE F n s v = pe := ⟨_, rfl⟩
  obtain ⟨pf, hpf⟩ : ∃ pf, putF F n s v = pf := ⟨_, rfl⟩
  obtain ⟨pn, hpn⟩ : ∃ pn, putN F n s v = pn := ⟨_, rfl⟩
  rw [hpe, hcc] at HE
  rw [hpe, hpf] at HF
  rw [hpe, hpn] at HN
  rw [hpe, hpf, hpn]
  have HCK := Lib.hid hcc
  have HPB := Lib.hid hpb
  have HW := Lib.hid hW0
  have HC := Lib.hid (And.intro c0 c1)
  have cT := c0.cell (j := 0) rfl
  have bad : pe ≠ 0 → pf = [] ∧ pn = 0 := fun h => ⟨by rw [HF.out, if_neg h], by rw [HN.out, if_neg h]⟩
  have BAD := Lib.hid bad
  have step : ∀ (R : Prop), (∀ hz0 : (c == 0) = true, R) → (∀ hz0 : (c == 0) = false, R) → R := fun R h1 h2 => by
    cases hc : (c == 0)
    · exact h2 hc
    · exact h1 hc
  clear hv hW0 c0 c1 hpe hpf hpn hc hcc hpb bad
  unfold str
  refine step _ (fun hz0 => ?_) (fun hz0 => ?_)
  all_goals
    clear step
    go_enter Try.func14, Try.ntmps14
    go_upto_region 1 with (fail)
    rw [← HW.out]
    go_upto_region 2 with (fail)
    refine hC.mono ?_
    rintro e w1 ⟨rfl, hb1⟩
    have hs1 := hb1.size
    have b1 := b0.trans (hb1.mono b0.size)
    clear hC cT
  · have hc0 : c = 0 := eq_of_beq hz0
    have hz1 : (c != 0) = false := by rw [bne, hz0]; rfl
    have HCP2 : Hid (cc = if pb = true then 0 else 60) := Lib.hid (by rw [HCP.out, hc0]; simp)
    clear hc0
    go_wp2_with fail
    have hC := rprefix_any s w1 hl
    rw [HPB.out] at hC
    unfold str at hC
    refine hC.mono ?_
    rintro e w2 ⟨rfl, hb2⟩
    have hb12 := hb1.trans (hb2.mono hs1)
    have b2 := b0.trans (hb12.mono b0.size)
    have hs2 := hb12.size
    have e2 := HC.out.2.past hb12 (by omega)
    clear hC hb2 b1
    cases pb with
    | false =>
      have HP : Hid (pe = 60) := Lib.hid (by rw [HE.out, HCP2.out]; simp)
      go_wp2_with (first | (refine wp_storeA 24 (.tmp 6) (.tmp 19) rfl rfl (w.heap.size + 1) rfl 24 [.slice none 0 0] [.slice none 0 0] rfl e2 (by rw [info_trie]; rfl) rfl (by intro v hv; simp at hv; subst hv; rfl) rfl ?_; intro w9 h9 k9))
      have b9 : Below w.heap.size w w9 := b2.trans (k9.below (fun q hq => by omega) b2.size)
      obtain ⟨hf0, hn0⟩ := BAD.out (by rw [HP.out]; decide)
      rw [hf0, hn0, HP.out]
      refine ret_row_tmp Try.results14 rfl (w.heap.size + 1) 24 _ _ rfl h9 Try.underlying24 rfl (by rw [info_trie]; rfl) _ rfl ?_
      exact ⟨⟨_, rfl, OwnN.nil_ _ _⟩, b9⟩

    | true =>
      have HE2 : Hid (pe = if v < 1 ∨ 1099511627776 < v then 1 else if 4096 < putn F n s then 2 else 0) := Lib.hid (by rw [HE.out, HCP2.out]; simp)
      obtain ⟨hOk, h4096, h15, hds⟩ := chp_zero (by rw [HCK.out, HCP2.out]; rfl)
      obtain ⟨E, hT⟩ := hOk.1
      have HVL := Lib.hid hOk.2
      have HT := Lib.hid hT
      have HDS := Lib.hid hds
      have hpos := hT.pos
      have hA : ∃ ad, A = some ad := by obtain ⟨ad, h, _⟩ := HV.out.at_ hpos; exact ⟨ad, h⟩
      obtain ⟨ad, rfl⟩ := hA
      have cT2 := (HC.out.1.past hb12 (by omega)).cell (j := 0) rfl
      clear hOk hT hds
      by_cases hlo : v < 1
      · have HP : Hid (pe = 1) := Lib.hid (by rw [HE2.out, if_pos (Or.inl hlo)])
        go_wp2_with (first | (refine wp_storeA 24 (.tmp 6) (.tmp 26) rfl rfl (w.heap.size + 1) rfl 24 [.slice none 0 0] [.slice none 0 0] rfl e2 (by rw [info_trie]; rfl) rfl (by intro v hv; simp at hv; subst hv; rfl) rfl ?_; intro w9 h9 k9))
        have b9 : Below w.heap.size w w9 := b2.trans (k9.below (fun q hq => by omega) b2.size)
        obtain ⟨hf0, hn0⟩ := BAD.out (by rw [HP.out]; decide)
        rw [hf0, hn0, HP.out]
        refine ret_row_tmp Try.results14 rfl (w.heap.size + 1) 24 _ _ rfl h9 Try.underlying24 rfl (by rw [info_trie]; rfl) _ rfl ?_
        exact ⟨⟨_, rfl, OwnN.nil_ _ _⟩, b9⟩

      · by_cases hhi : 1099511627776 < v
        · have HP : Hid (pe = 1) := Lib.hid (by rw [HE2.out, if_pos (Or.inr hhi)])
          go_wp2_with (first | (refine wp_storeA 24 (.tmp 6) (.tmp 26) rfl rfl (w.heap.size + 1) rfl 24 [.slice none 0 0] [.slice none 0 0] rfl e2 (by rw [info_trie]; rfl) rfl (by intro v hv; simp at hv; subst hv; rfl) rfl ?_; intro w9 h9 k9))
          have b9 : Below w.heap.size w w9 := b2.trans (k9.below (fun q hq => by omega) b2.size)
          obtain ⟨hf0, hn0⟩ := BAD.out (by rw [HP.out]; decide)
          rw [hf0, hn0, HP.out]
          refine ret_row_tmp Try.results14 rfl (w.heap.size + 1) 24 _ _ rfl h9 Try.underlying24 rfl (by rw [info_trie]; rfl) _ rfl ?_
          exact ⟨⟨_, rfl, OwnN.nil_ _ _⟩, b9⟩

        · have HE3 : Hid (pe = if 4096 < putn F n s then 2 else 0) := Lib.hid (by rw [HE2.out, if_neg (by omega)])
          have hG := rgrown_any ad n cap F E s w2 (Row.past HV.out b2) HT.out hn HDS.out h15
          obtain ⟨E', hgr⟩ := ins_grew s (F := F) (n := n) (a := 0) (p := []) HT.out HDS.out (by rw [List.nil_append]; exact h15) rfl
          have hk := putn_le ⟨⟨E, HT.out⟩, HVL.out⟩ HDS.out
          have hpu : putn F n s = (ins F n 0 s).2.1 := rfl
          have hpt : put F n s v = sv (ins F n 0 s).1 (ins F n 0 s).2.2 v := rfl
          obtain ⟨⟨G, k, a⟩, hR⟩ : ∃ R, ins F n 0 s = R := ⟨_, rfl⟩
          rw [hR] at hG hgr hpu hpt
          simp only at hG hgr hpu hpt
          rw [hpu] at HE3 HN hk
          rw [hpt] at HF
          have hTG : Tree G k E' := hgr.tree
          have hat := hgr.at_
          rw [List.nil_append] at hat
          have HTG := Lib.hid hTG
          have HAT := Lib.hid hat
          have hak := (nod_lt hTG hTG.pos hat).1
          unfold str at hG
          clear hgr hpu hpt hR hTG hat
          go_upto_region 8 with (fail)
          go_wp2_with fail
          refine hG.mono ?_
          rintro e w3 ⟨⟨u, rfl, o3⟩, hb3⟩
          obtain ⟨g, c3, rfl⟩ := o3.form (by omega)
          have hg3 := o3.lt g rfl
          have hs3 := hb3.size
          have b3 := b2.trans (hb3.mono b2.size)
          have e3 := e2.past hb3 (by omega)
          have HO3 := Lib.hid o3
          have HE9 := Lib.hid e3
          clear hG cT2 e2 o3 e3
          have hsto : ∀ (Q : Prop), Q → Q := fun _ h => h
          go_upto_region 9 with (first | (refine wp_storeA 24 (.tmp 9) (.tmp 29) rfl rfl w3.heap.size rfl 24 [.slice none 0 0] [.slice (some ⟨g, 0, none⟩) k c3] rfl (Blk.new _ _ _) (by rw [info_trie]; rfl) rfl (by intro v hv; simp at hv; subst hv; rfl) rfl ?_; intro w4 h4 k4))
          have b4' : Below w3.heap.size w3 w4 := ((Below.refl _ _).alloc (Nat.le_refl _) _).trans (k4.below (fun k hk => by omega) (by simp))
          have o4 := HO3.out.go b4'
          have e4 := HE9.out.past b4' (by omega)
          have b4 := b3.trans (b4'.mono b3.size)
          obtain ⟨gB, hgB⟩ : ∃ q, w3.heap.size = q := ⟨_, rfl⟩
          rw [hgB] at h4 ⊢
          have hlB := h4.lt
          have c4 := h4.cell (j := 0) rfl
          have hs4 := b4'.size
          have hSB : w.heap.size + 2 ≤ gB := by omega
          clear k4 b4' hgB hsto HO3 HE9
          by_cases hbig : 4096 < k
          · have HP : Hid (pe = 2) := Lib.hid (by rw [HE3.out, if_pos hbig])
            go_wp2_with (first | (refine wp_storeA 24 (.tmp 6) (.tmp 34) rfl rfl (w.heap.size + 1) rfl 24 [.slice none 0 0] [.slice none 0 0] rfl e4 (by rw [info_trie]; rfl) rfl (by intro v hv; simp at hv; subst hv; rfl) rfl ?_; intro w9 h9 k9))
            have b9 : Below w.heap.size w w9 := b4.trans (k9.below (fun q hq => by omega) b4.size)
            obtain ⟨hf0, hn0⟩ := BAD.out (by rw [HP.out]; decide)
            rw [hf0, hn0, HP.out]
            refine ret_row_tmp Try.results14 rfl (w.heap.size + 1) 24 _ _ rfl h9 Try.underlying24 rfl (by rw [info_trie]; rfl) _ rfl ?_
            exact ⟨⟨_, rfl, OwnN.nil_ _ _⟩, b9⟩

          · have HP : Hid (pe = 0) := Lib.hid (by rw [HE3.out, if_neg hbig])
            have HO4 := Lib.hid o4
            have HE4 := Lib.hid e4
            have HB4 := Lib.hid h4
            clear o4 e4
            go_upto_region 11 with (fail)
            refine wp_region_ptk (fun b => b = gB) (.take 0 (.take 1 (.take 2 (.take 4 (.step 3 (.step 5 (.step 6 (.take 7 .done)))))))) (by kernel_rfl) (by kernel_rfl) (by kernel_rfl) (fun _ _ h => h) ?_
            obtain ⟨w5, hdr⟩ : ∃ x, x = w4.drew := ⟨_, rfl⟩
            have bx : Below w4.heap.size w4 w5 := by rw [hdr]; exact (Below.refl _ _).drew
            have o5 := HO4.out.go bx
            have e5 := HE4.out.past bx (by omega)
            have c5 := (h4.past bx hlB).cell (j := 0) rfl
            have b5 := b4.trans (bx.mono b4.size)
            have hz5 : w4.heap.size ≤ w5.heap.size := bx.size
            rw [← hdr]
            clear hdr bx c4 h4
            refine ptk_take rfl rfl rfl rfl ?_
            apply Exists.intro
            refine ⟨fun w' hw' => ?_, ?_⟩
            · have hcell := hw'.cell (p := ⟨gB, 0, none⟩) rfl c5
              focus ((repeat (first | go_skip | go_guarded | go_step | go_upon | go_back)); exact ⟨rfl, rfl, rfl⟩)
            refine ptk_take rfl rfl rfl rfl ?_
            apply Exists.intro
            refine ⟨fun w' hw' => ?_, ?_⟩
            · have hcell := hw'.cell (p := ⟨gB, 0, none⟩) rfl c5
              focus ((repeat (first | go_skip | go_guarded | go_step | go_upon | go_back)); exact ⟨rfl, rfl, rfl⟩)
            first | refine ptk_skip rfl rfl rfl rfl ?_ | (refine ptk_take rfl rfl rfl rfl ?_; apply Exists.intro; refine ⟨fun w' hw' => ?_, ?_⟩; focus ((repeat (first | go_skip | go_guarded | go_step | go_upon | go_back)); exact ⟨rfl, rfl, rfl⟩))
            first | refine ptk_skip rfl rfl rfl rfl ?_ | (refine ptk_take rfl rfl rfl rfl ?_; apply Exists.intro; refine ⟨fun w' hw' => ?_, ?_⟩; focus ((repeat (first | go_skip | go_guarded | go_step | go_upon | go_back)); exact ⟨rfl, rfl, rfl⟩))
            refine ptk_step rfl ?_
            go_wp2_with fail
            have hC := rnode_any (some ⟨g, 0, none⟩) k c3 G E' s w5 o5.nds HTG.out (by omega) HDS.out (by omega)
            have hnd : ndI G s = (a : Int) := by unfold ndI; rw [HAT.out]
            rw [hnd] at hC
            unfold str at hC
            refine hC.mono ?_
            rintro e w6 ⟨rfl, bx⟩
            have o6 := o5.go bx
            have e6 := e5.past bx (by omega)
            have b6 := b5.trans (bx.mono b5.size)
            have hz6 := bx.size
            clear hC hnd o5 e5 b5
            go_wp2_with fail
            refine ⟨rfl, Keep.of_below bx, ?_⟩
            clear bx
            refine ptk_step rfl ?_
            go_wp2_with fail
            have hC := rwith_any ⟨g, 0, none⟩ k c3 G a v w6 o6.nds (by omega) hak
            refine hC.mono ?_
            rintro e w7 ⟨⟨u, rfl, o7⟩, bx⟩
            obtain ⟨g7, c7, rfl⟩ := o7.form (by omega)
            have hg7 := o7.lt g7 rfl
            have e7 := e6.past bx (by omega)
            have b7 := b6.trans (bx.mono b6.size)
            clear hC o6 e6 b6
            go_wp2_with fail
            refine ⟨rfl, Keep.of_below bx, ?_⟩
            have hz7 := bx.size
            clear bx
            refine ptk_step rfl ?_
            go_wp2_with (first | (refine wp_storeA 24 (.tmp 6) (.tmp 40) rfl rfl (w.heap.size + 1) rfl 24 [.slice none 0 0] [.slice (some ⟨g7, 0, none⟩) k c7] rfl e7 (by rw [info_trie]; rfl) rfl (by intro v hv; simp at hv; subst hv; rfl) rfl ?_; intro w8 h8 k8))
            refine ⟨rfl, k8.mono (fun b hb => by omega), ?_⟩
            first | refine ptk_skip rfl rfl rfl rfl ?_ | (refine ptk_take rfl rfl rfl rfl ?_; apply Exists.intro; refine ⟨fun w' hw' => ?_, ?_⟩; focus ((repeat (first | go_skip | go_guarded | go_step | go_upon | go_back)); exact ⟨rfl, rfl, rfl⟩))
            change Exit.then _ _ Exit.normal _ _
            have o8 := o7.keep k8 (fun q' hq' => by simp [Value.ownBlock] at hq'; omega)
            have b8 := b7.trans (k8.below (fun q' hq' => by omega) b7.size)
            have hpf : pf = sv G a v := by rw [HF.out, HP.out, if_pos rfl]
            have hpk : pn = k := by rw [HN.out, HP.out, if_pos rfl]
            have HPF := Lib.hid hpf
            have HPK := Lib.hid hpk
            clear hpf hpk k8 c5
            go_wp2_with fail
            refine ret_row_tmp Try.results14 rfl (w.heap.size + 1) 24 _ _ rfl h8 Try.underlying24 rfl (by rw [info_trie]; rfl) _ rfl ?_
            rw [HP.out, HPF.out, HPK.out]
            exact ⟨⟨_, rfl, o8.up (by omega)⟩, b8⟩
  · have hc0 : c ≠ 0 := ne_of_beq_false hz0
    have hz1 : (c != 0) = true := by rw [bne, hz0]; rfl
    have HP : Hid (pe = c) := Lib.hid (by rw [HE.out, HCP.out, if_pos hc0, if_pos hc0])
    have HP0 := Lib.hid hc0
    have e1 := HC.out.2.past hb1 (by omega)
    clear hc0
    go_wp2_with (first | (refine wp_storeA 24 (.tmp 6) (.tmp 14) rfl rfl (w.heap.size + 1) rfl 24 [.slice none 0 0] [.slice none 0 0] rfl e1 (by rw [info_trie]; rfl) rfl (by intro v hv; simp at hv; subst hv; rfl) rfl ?_; intro w9 h9 k9))
    have b9 : Below w.heap.size w w9 := b1.trans (k9.below (fun q hq => by omega) b1.size)
    obtain ⟨hf0, hn0⟩ := BAD.out (by rw [HP.out]; exact HP0.out)
    rw [hf0, hn0, HP.out]
    refine ret_row_tmp Try.results14 rfl (w.heap.size + 1) 24 _ _ rfl h9 Try.underlying24 rfl (by rw [info_trie]; rfl) _ rfl ?_
    exact ⟨⟨_, rfl, OwnN.nil_ _ _⟩, b9⟩


set_option maxRecDepth 100000 in
set_option maxHeartbeats 4000000 in
theorem rdrop_any (A : Option Addr) (n cap : Nat) (F : List Int) (s : Str) (w : World) (hv : Nds w w.heap.size n (.slice A n cap) F) (hn : n ≤ 10000) (hl : s.length ≤ 1000) :
    Calls Try.prog 16 #[.agg #[.slice A n cap], str s] w fun e w' => (∃ u, e = .returned (.tuple #[.agg #[u], .int .i64 (chp F n s)]) ∧ Nds w' w'.heap.size (drpN F n s) u (drpF F n s)) ∧ Below w.heap.size w w' := by
  have HF : Hid (drpF F n s = if chp F n s = 0 then drp F s else []) := Lib.hid rfl
  have HN : Hid (drpN F n s = if chp F n s = 0 then n else 0) := Lib.hid rfl
  have HV := Lib.hid hv
  obtain ⟨W0, hW0⟩ : ∃ W, W = (w.alloc (.cells #[.slice A n cap] 24)).alloc (.cells #[.slice none 0 0] 24) := ⟨_, rfl⟩
  have hs0 : W0.heap.size = w.heap.size + 2 := by rw [hW0]; simp
  have b0 : Below w.heap.size w W0 := by
    rw [hW0]; exact ((Below.refl _ _).alloc (Nat.le_refl _) _).alloc (by simp) _
  have c0 : Blk W0 w.heap.size 24 [.slice A n cap] := by rw [hW0]; exact (Blk.newAt _ _ [_] _ rfl).alloc _
  have c1 : Blk W0 (w.heap.size + 1) 24 [.slice none 0 0] := by rw [hW0]; exact Blk.newAt _ _ [_] _ (by simp)
  have hC := rcheck_any A n cap F W0 (Row.past hv b0) hn
  have HSZ := Lib.hid (str_size s)
  have HCP : Hid (chp F n s = if chk F n ≠ 0 then chk F n else if (decide (s.length ≤ 15) && s.all isD) = true then 0 else 60) := Lib.hid rfl
  obtain ⟨cc, hcc⟩ : ∃ c, chp F n s = c := ⟨_, rfl⟩
  obtain ⟨c, hc⟩ : ∃ c, chk F n = c := ⟨_, rfl⟩
  obtain ⟨pb, hpb⟩ : ∃ b, (decide (s.length ≤ 15) && s.all isD) = b := ⟨_, rfl⟩
  rw [hcc, hc, hpb] at HCP
  rw [hc] at hC
  obtain ⟨pf, hpf⟩ : ∃ pf, drpF F n s = pf := ⟨_, rfl⟩
  obtain ⟨pn, hpn⟩ : ∃ pn, drpN F n s = pn := ⟨_, rfl⟩
  rw [hcc, hpf] at HF
  rw [hcc, hpn] at HN
  rw [hcc, hpf, hpn]
  have HCK := Lib.hid hcc
  have HPB := Lib.hid hpb
  have HW := Lib.hid hW0
  have HC := Lib.hid (And.intro c0 c1)
  have cT := c0.cell (j := 0) rfl
  have bad : cc ≠ 0 → pf = [] ∧ pn = 0 := fun h => ⟨by rw [HF.out, if_neg h], by rw [HN.out, if_neg h]⟩
  have BAD := Lib.hid bad
  have step : ∀ (R : Prop), (∀ hz0 : (c == 0) = true, R) → (∀ hz0 : (c == 0) = false, R) → R := fun R h1 h2 => by
    cases hc : (c == 0)
    · exact h2 hc
    · exact h1 hc
  clear hv hW0 c0 c1 hpf hpn hc hcc hpb bad
  unfold str
  refine step _ (fun hz0 => ?_) (fun hz0 => ?_)
  all_goals
    clear step
    go_enter Try.func16, Try.ntmps16
    go_upto_region 1 with (fail)
    rw [← HW.out]
    go_upto_region 2 with (fail)
    refine hC.mono ?_
    rintro e w1 ⟨rfl, hb1⟩
    have hs1 := hb1.size
    have b1 := b0.trans (hb1.mono b0.size)
    clear hC cT
  · have hc0 : c = 0 := eq_of_beq hz0
    have hz1 : (c != 0) = false := by rw [bne, hz0]; rfl
    have HCP2 : Hid (cc = if pb = true then 0 else 60) := Lib.hid (by rw [HCP.out, hc0]; simp)
    clear hc0
    go_wp2_with fail
    have hC := rprefix_any s w1 hl
    rw [HPB.out] at hC
    unfold str at hC
    refine hC.mono ?_
    rintro e w2 ⟨rfl, hb2⟩
    have hb12 := hb1.trans (hb2.mono hs1)
    have b2 := b0.trans (hb12.mono b0.size)
    have hs2 := hb12.size
    have e2 := HC.out.2.past hb12 (by omega)
    clear hC hb2 b1
    cases pb with
    | false =>
      have HP : Hid (cc = 60) := Lib.hid (by rw [HCP2.out]; simp)
      go_wp2_with (first | (refine wp_storeA 24 (.tmp 4) (.tmp 17) rfl rfl (w.heap.size + 1) rfl 24 [.slice none 0 0] [.slice none 0 0] rfl e2 (by rw [info_trie]; rfl) rfl (by intro v hv; simp at hv; subst hv; rfl) rfl ?_; intro w9 h9 k9))
      have b9 : Below w.heap.size w w9 := b2.trans (k9.below (fun q hq => by omega) b2.size)
      obtain ⟨hf0, hn0⟩ := BAD.out (by rw [HP.out]; decide)
      rw [hf0, hn0, HP.out]
      refine ret_row_tmp Try.results16 rfl (w.heap.size + 1) 24 _ _ rfl h9 Try.underlying24 rfl (by rw [info_trie]; rfl) _ rfl ?_
      exact ⟨⟨_, rfl, (OwnN.nil_ _ 0).nds⟩, b9⟩

    | true =>
      have HP : Hid (cc = 0) := Lib.hid (by rw [HCP2.out]; simp)
      obtain ⟨hOk, h4096, h15, hds⟩ := chp_zero (by rw [HCK.out, HP.out])
      obtain ⟨E, hT⟩ := hOk.1
      have HT := Lib.hid hT
      have HDS := Lib.hid hds
      have hpos := hT.pos
      have hA : ∃ ad, A = some ad := by obtain ⟨ad, h, _⟩ := HV.out.at_ hpos; exact ⟨ad, h⟩
      obtain ⟨ad, rfl⟩ := hA
      have cT2 := (HC.out.1.past hb12 (by omega)).cell (j := 0) rfl
      have HF2 : Hid (pf = drp F s) := Lib.hid (by rw [HF.out, if_pos HP.out])
      have HN2 : Hid (pn = n) := Lib.hid (by rw [HN.out, if_pos HP.out])
      have HE2 := Lib.hid e2
      clear hOk hT hds e2
      go_wp2_with fail
      have hC := rnode_any (some ad) n cap F E s w2 (Row.past HV.out b2) HT.out hn HDS.out (by omega)
      obtain ⟨oj, hoj⟩ : ∃ o, nod F 0 s = o := ⟨_, rfl⟩
      have HOJ := Lib.hid hoj
      unfold str at hC
      cases oj with
      | none =>
        have hnd : ndI F s = -1 := by unfold ndI; rw [hoj]
        rw [hnd] at hC
        refine hC.mono ?_
        rintro e w3 ⟨rfl, hb3⟩
        have hs3 := hb3.size
        have b3 := b2.trans (hb3.mono b2.size)
        have e3 := HE2.out.past hb3 (by omega)
        have cT3 := (HC.out.1.past (hb12.trans (hb3.mono hs2)) (by omega)).cell (j := 0) rfl
        clear hC hnd hoj cT2
        go_wp2_with (first | (refine wp_storeA 24 (.tmp 4) (.tmp 23) rfl rfl (w.heap.size + 1) rfl 24 [.slice none 0 0] [.slice (some ad) n cap] rfl e3 (by rw [info_trie]; rfl) rfl (by intro v hv; simp at hv; subst hv; rfl) rfl ?_; intro w8 h8 k8))
        have b8 := b3.trans (k8.below (fun q' hq' => by omega) b3.size)
        have hpf : pf = F := by rw [HF2.out]; unfold drp; rw [HOJ.out]
        refine ret_row_tmp Try.results16 rfl (w.heap.size + 1) 24 _ _ rfl h8 Try.underlying24 rfl (by rw [info_trie]; rfl) _ rfl ?_
        rw [HP.out, hpf, HN2.out]
        exact ⟨⟨_, rfl, Row.past HV.out b8⟩, b8⟩
      | some j =>
        have hjn := (nod_lt HT.out HT.out.pos hoj).1
        have hnd : ndI F s = (j : Int) := by unfold ndI; rw [hoj]
        rw [hnd] at hC
        refine hC.mono ?_
        rintro e w3 ⟨rfl, hb3⟩
        have hs3 := hb3.size
        have b3 := b2.trans (hb3.mono b2.size)
        have e3 := HE2.out.past hb3 (by omega)
        have cT3 := (HC.out.1.past (hb12.trans (hb3.mono hs2)) (by omega)).cell (j := 0) rfl
        clear hC hnd hoj cT2
        go_wp2_with fail
        have hC := rwith_any ad n cap F j 0 w3 (Row.past HV.out b3) hn hjn
        refine hC.mono ?_
        rintro e w4 ⟨⟨u, rfl, o4⟩, hb4⟩
        obtain ⟨g4, c4, rfl⟩ := o4.form (by omega)
        have hg4 := o4.lt g4 rfl
        have e4 := e3.past hb4 (by omega)
        have b4 := b3.trans (hb4.mono b3.size)
        clear hC cT3 e3
        go_wp2_with (first | (refine wp_storeA 24 (.tmp 4) (.tmp 26) rfl rfl (w.heap.size + 1) rfl 24 [.slice none 0 0] [.slice (some ⟨g4, 0, none⟩) n c4] rfl e4 (by rw [info_trie]; rfl) rfl (by intro v hv; simp at hv; subst hv; rfl) rfl ?_; intro w8 h8 k8))
        have o8 := o4.keep k8 (fun q' hq' => by simp [Value.ownBlock] at hq'; omega)
        have b8 := b4.trans (k8.below (fun q' hq' => by omega) b4.size)
        have hpf : pf = sv F j 0 := by rw [HF2.out]; unfold drp; rw [HOJ.out]
        refine ret_row_tmp Try.results16 rfl (w.heap.size + 1) 24 _ _ rfl h8 Try.underlying24 rfl (by rw [info_trie]; rfl) _ rfl ?_
        rw [HP.out, hpf, HN2.out]
        exact ⟨⟨_, rfl, o8.nds⟩, b8⟩
  · have hc0 : c ≠ 0 := ne_of_beq_false hz0
    have hz1 : (c != 0) = true := by rw [bne, hz0]; rfl
    have HP : Hid (cc = c) := Lib.hid (by rw [HCP.out, if_pos hc0])
    have HP0 := Lib.hid hc0
    have e1 := HC.out.2.past hb1 (by omega)
    clear hc0
    go_wp2_with (first | (refine wp_storeA 24 (.tmp 4) (.tmp 12) rfl rfl (w.heap.size + 1) rfl 24 [.slice none 0 0] [.slice none 0 0] rfl e1 (by rw [info_trie]; rfl) rfl (by intro v hv; simp at hv; subst hv; rfl) rfl ?_; intro w9 h9 k9))
    have b9 : Below w.heap.size w w9 := b1.trans (k9.below (fun q hq => by omega) b1.size)
    obtain ⟨hf0, hn0⟩ := BAD.out (by rw [HP.out]; exact HP0.out)
    rw [hf0, hn0, HP.out]
    refine ret_row_tmp Try.results16 rfl (w.heap.size + 1) 24 _ _ rfl h9 Try.underlying24 rfl (by rw [info_trie]; rfl) _ rfl ?_
    exact ⟨⟨_, rfl, (OwnN.nil_ _ 0).nds⟩, b9⟩

end Go.Proofs.Ytippbkooaonajaa
