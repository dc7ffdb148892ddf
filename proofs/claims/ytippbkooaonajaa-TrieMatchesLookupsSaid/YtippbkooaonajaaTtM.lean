/-
  Package trie: Put.
-/
import Derived.Test.YtippbkooaonajaaTtL
namespace Go.Proofs.Ytippbkooaonajaa
open Go.RowKit Dg Tr
set_option linter.unusedVariables false
set_option linter.unusedSimpArgs false

/-- What Put answers. -/
noncomputable def putE (F : List Int) (n : Nat) (s : Str) (v : Int) : Int := if chp F n s ≠ 0 then chp F n s else if v < 1 ∨ 1099511627776 < v then 1 else if 4096 < putn F n s then 2 else 0
noncomputable def putF (F : List Int) (n : Nat) (s : Str) (v : Int) : List Int := if putE F n s v = 0 then put F n s v else []
noncomputable def putN (F : List Int) (n : Nat) (s : Str) (v : Int) : Nat := if putE F n s v = 0 then putn F n s else 0
theorem chp_zero {F : List Int} {n : Nat} {s : Str} (h : chp F n s = 0) : Ok F n ∧ n ≤ 4096 ∧ s.length ≤ 15 ∧ ∀ b ∈ s, isD b = true := by
  unfold chp at h
  by_cases hc : chk F n = 0
  · rw [if_neg (by simp [hc])] at h
    by_cases hs : (decide (s.length ≤ 15) && s.all isD) = true
    · obtain ⟨h1, h2⟩ := chk_zero hc
      simp only [Bool.and_eq_true, decide_eq_true_eq, List.all_eq_true] at hs
      exact ⟨h1, h2, hs.1, hs.2⟩
    · rw [if_neg hs] at h; cases h
  · rw [if_pos hc] at h; exact absurd h hc
theorem gro_len : ∀ (s : Str) {F : List Int} {n a : Nat}, F.length = 11 * n → (gro F n a s).1.length = 11 * (gro F n a s).2.1
  | [], F, n, a, h => h
  | b :: s, F, n, a, h => by simp only [gro]; exact gro_len s (add_len h)

set_option maxRecDepth 100000 in
set_option maxHeartbeats 2000000 in
theorem put_any (A : Option Addr) (n cap : Nat) (F : List Int) (s : Str) (v : Int) (w : World) (hv : Nds w w.heap.size n (.slice A n cap) F) (hn : n ≤ 10000) (hl : s.length ≤ 1000) :
    Calls Try.prog 13 #[.agg #[.slice A n cap], str s, .int .i64 v] w fun e w' => (∃ u, e = .returned (.tuple #[.agg #[u], .int .i64 (putE F n s v)]) ∧ OwnN w' w.heap.size (putN F n s v) u (putF F n s v)) ∧ Below w.heap.size w w' := by
  have HV := Lib.hid hv
  obtain ⟨W0, hW0⟩ : ∃ W, W = (w.alloc (.cells #[.slice A n cap] 24)).alloc (.cells #[.slice none 0 0] 24) := ⟨_, rfl⟩
  have hs0 : W0.heap.size = w.heap.size + 2 := by rw [hW0]; simp
  have b0 : Below w.heap.size w W0 := by
    rw [hW0]; exact ((Below.refl _ _).alloc (Nat.le_refl _) _).alloc (by simp) _
  have c0 : Blk W0 w.heap.size 24 [.slice A n cap] := by rw [hW0]; exact (Blk.newAt _ _ [_] _ rfl).alloc _
  have c1 : Blk W0 (w.heap.size + 1) 24 [.slice none 0 0] := by rw [hW0]; exact Blk.newAt _ _ [_] _ (by simp)
  have hC := checkPrefix_any A n cap F s W0 (Row.past hv b0) hn hl
  have HE : Hid (putE F n s v = if chp F n s ≠ 0 then chp F n s else if v < 1 ∨ 1099511627776 < v then 1 else if 4096 < putn F n s then 2 else 0) := Lib.hid rfl
  have HF : Hid (putF F n s v = if putE F n s v = 0 then put F n s v else []) := Lib.hid rfl
  have HN : Hid (putN F n s v = if putE F n s v = 0 then putn F n s else 0) := Lib.hid rfl
  obtain ⟨pe, hpe⟩ : ∃ pe, putE F n s v = pe := ⟨_, rfl⟩
  obtain ⟨pf, hpf⟩ : ∃ pf, putF F n s v = pf := ⟨_, rfl⟩
  obtain ⟨pn, hpn⟩ : ∃ pn, putN F n s v = pn := ⟨_, rfl⟩
  obtain ⟨c, hc⟩ : ∃ c, chp F n s = c := ⟨_, rfl⟩
  rw [hpe, hc] at HE
  rw [hpe, hpf] at HF
  rw [hpe, hpn] at HN
  rw [hc] at hC
  rw [hpe, hpf, hpn]
  have HCK := Lib.hid hc
  have HW := Lib.hid hW0
  have HC := Lib.hid (And.intro c0 c1)
  have cT := c0.cell (j := 0) rfl
  have HSZ := Lib.hid (str_size s)
  have bad : pe ≠ 0 → pf = [] ∧ pn = 0 := fun h => ⟨by rw [HF.out, if_neg h], by rw [HN.out, if_neg h]⟩
  have BAD := Lib.hid bad
  have step : ∀ (R : Prop), (∀ hz0 : (c == 0) = true, R) → (∀ hz0 : (c == 0) = false, R) → R := fun R h1 h2 => by
    cases hc : (c == 0)
    · exact h2 hc
    · exact h1 hc
  clear hv hW0 c0 c1 hpe hpf hpn hc bad
  unfold str
  unfold str at hC
  refine step _ (fun hz0 => ?_) (fun hz0 => ?_)
  all_goals
    clear step
    go_enter Try.func13, Try.ntmps13
    go_upto_region 1 with (fail)
    rw [← HW.out]
    go_upto_region 2 with (fail)
    refine hC.mono ?_
    rintro e w1 ⟨rfl, hb1⟩
    have hs1 := hb1.size
    have b1 := b0.trans (hb1.mono b0.size)
    clear hC cT
  · have hc0 : c = 0 := eq_of_beq hz0
    have hz1 : (c != 0) = false := by rw [bne, hz0]; rfl
    obtain ⟨hOk, h4096, h15, hds⟩ := chp_zero (HCK.out.trans hc0)
    obtain ⟨E, hT⟩ := hOk.1
    have HE2 : Hid (pe = if v < 1 ∨ 1099511627776 < v then 1 else if 4096 < putn F n s then 2 else 0) := Lib.hid (by rw [HE.out, hc0]; simp)
    have HT := Lib.hid hT
    have HDS := Lib.hid hds
    have hpos := hT.pos
    have e1 := HC.out.2.past hb1 (by omega)
    have hA : ∃ ad, A = some ad := by obtain ⟨ad, h, _⟩ := HV.out.at_ hpos; exact ⟨ad, h⟩
    obtain ⟨ad, rfl⟩ := hA
    have cT1 := (HC.out.1.past hb1 (by omega)).cell (j := 0) rfl
    clear hOk hT hds hc0
    by_cases hlo : v < 1
    · have HP : Hid (pe = 1) := Lib.hid (by rw [HE2.out, if_pos (Or.inl hlo)])
      go_wp2_with (first | (refine wp_storeA 24 (.tmp 6) (.tmp 28) rfl rfl (w.heap.size + 1) rfl 24 [.slice none 0 0] [.slice none 0 0] rfl e1 (by rw [info_trie]; rfl) rfl (by intro v hv; simp at hv; subst hv; rfl) rfl ?_; intro w7 h7 k7))
      have b9 : Below w.heap.size w w7 := b1.trans (k7.below (fun q hq => by omega) b1.size)
      obtain ⟨hf0, hn0⟩ := BAD.out (by rw [HP.out]; decide)
      rw [hf0, hn0, HP.out]
      refine ret_row_tmp Try.results13 rfl (w.heap.size + 1) 24 _ _ rfl h7 Try.underlying24 rfl (by rw [info_trie]; rfl) _ rfl ?_
      exact ⟨⟨_, rfl, OwnN.nil_ _ _⟩, b9⟩
    · by_cases hhi : 1099511627776 < v
      · have HP : Hid (pe = 1) := Lib.hid (by rw [HE2.out, if_pos (Or.inr hhi)])
        go_wp2_with (first | (refine wp_storeA 24 (.tmp 6) (.tmp 28) rfl rfl (w.heap.size + 1) rfl 24 [.slice none 0 0] [.slice none 0 0] rfl e1 (by rw [info_trie]; rfl) rfl (by intro v hv; simp at hv; subst hv; rfl) rfl ?_; intro w7 h7 k7))
        have b9 : Below w.heap.size w w7 := b1.trans (k7.below (fun q hq => by omega) b1.size)
        obtain ⟨hf0, hn0⟩ := BAD.out (by rw [HP.out]; decide)
        rw [hf0, hn0, HP.out]
        refine ret_row_tmp Try.results13 rfl (w.heap.size + 1) 24 _ _ rfl h7 Try.underlying24 rfl (by rw [info_trie]; rfl) _ rfl ?_
        exact ⟨⟨_, rfl, OwnN.nil_ _ _⟩, b9⟩
      · have HE3 : Hid (pe = if 4096 < putn F n s then 2 else 0) := Lib.hid (by rw [HE2.out, if_neg (by omega)])
        have hDP := deepest_any ad n cap F E s w1 (Row.past HV.out b1) HT.out hn HDS.out (by omega)
        obtain ⟨j, m, hdp, hml, hjm, hMx⟩ := dp_spec F HDS.out
        rw [hdp] at hDP
        have hpn := putn_eq HT.out HDS.out hMx
        have HPN := Lib.hid hpn
        have hgr := ins_gro HT.out HDS.out hMx hjm
        have HGR := Lib.hid hgr
        have hjn := (nod_lt HT.out HT.out.pos hjm).1
        have hsz := HSZ.out
        have hcut := str_cut s m s.length
        clear hdp hjm hMx hpn hgr
        unfold str at hDP
        go_upto_region 7 with (fail)
        refine hDP.mono ?_
        rintro e w2 ⟨rfl, hb2⟩
        have hb12 := hb1.trans (hb2.mono hs1)
        have hs2 := hb2.size
        have b2 := b0.trans (hb12.mono b0.size)
        have cT2 := (HC.out.1.past hb12 (by omega)).cell (j := 0) rfl
        have e2 := HC.out.2.past hb12 (by omega)
        clear hDP cT1
        go_upto_region 8 with (fail)
        obtain ⟨ms, hms⟩ : ∃ ms, ms = s.drop m := ⟨_, rfl⟩
        have hmsl : ms.length = s.length - m := by rw [hms, List.length_drop]
        rw [← hms]
        have hszm := str_size ms
        have HMS := Lib.hid hms
        have HML := Lib.hid hmsl
        have hm15 : ms.length ≤ 15 := by omega
        clear hms
        by_cases hbig : 4096 < n + ms.length
        · have HP : Hid (pe = 2) := Lib.hid (by rw [HE3.out, HPN.out, if_pos (by rw [← hmsl]; exact hbig)])
          clear hmsl
          go_wp2_with (first | (refine wp_storeA 24 (.tmp 6) (.tmp 45) rfl rfl (w.heap.size + 1) rfl 24 [.slice none 0 0] [.slice none 0 0] rfl e2 (by rw [info_trie]; rfl) rfl (by intro v hv; simp at hv; subst hv; rfl) rfl ?_; intro w7 h7 k7))
          have b9 : Below w.heap.size w w7 := b2.trans (k7.below (fun q hq => by omega) b2.size)
          obtain ⟨hf0, hn0⟩ := BAD.out (by rw [HP.out]; decide)
          rw [hf0, hn0, HP.out]
          refine ret_row_tmp Try.results13 rfl (w.heap.size + 1) 24 _ _ rfl h7 Try.underlying24 rfl (by rw [info_trie]; rfl) _ rfl ?_
          exact ⟨⟨_, rfl, OwnN.nil_ _ _⟩, b9⟩

        · have HP : Hid (pe = 0) := Lib.hid (by rw [HE3.out, HPN.out, if_neg (by rw [← hmsl]; exact hbig)])
          clear hmsl
          have hCL := clone_any ad n cap F w2 (Row.past HV.out b2) hn
          go_upto_region 11 with (fail)
          refine hCL.mono ?_
          rintro e w3 ⟨⟨u, rfl, ho3⟩, hb3⟩
          obtain ⟨g, cg, rfl⟩ := ho3.form hpos
          have hs3 := hb3.size
          have b3 := b2.trans (hb3.mono b2.size)
          have e3 := e2.past hb3 (by omega)
          obtain ⟨gb, hgb⟩ : ∃ gb, gb = w2.heap.size := ⟨_, rfl⟩
          rw [← hgb] at ho3
          have hgbl : w.heap.size + 2 ≤ gb := by omega
          have hgb3 : gb ≤ w3.heap.size := by omega
          obtain ⟨bc, w4, hconv, hbs, hb4, hs4⟩ := run_ofstr ms w3 (by simp only [maxLen]; omega)
          have ho4 := ho3.go hb4
          have hg3 := ho3.lt g rfl
          have e4 := e3.past hb4 (by omega)
          have b4 := b3.trans (hb4.mono b3.size)
          obtain ⟨bb, hbb⟩ : ∃ bb, bb = w3.heap.size := ⟨_, rfl⟩
          rw [← hbb] at hbs hconv
          unfold str at hconv
          have hbbl : bb < w4.heap.size := by omega
          have hgbb : g ≠ bb := by omega
          have hgb4 : gb ≤ w4.heap.size := by omega
          have hbgb : gb ≤ bb := by omega
          clear hCL cT2 e2 e3 ho3 hgb hbb hb4 hs4 hg3
          go_wp2_with fail
          clear hconv
          go_loopw [9, 12, 52] (fun va vs vi wr => ∃ (i k a : Nat) (G : List Int), vi = .int .i64 (i : Int) ∧ va = .int .i64 (a : Int) ∧ i ≤ ms.length ∧ k = n + i ∧ a < k ∧ Hid (gro G k a (ms.drop i) = gro F n j ms) ∧ OwnN wr gb k vs G ∧ Hid (Bs wr wr.heap.size (.slice (some ⟨bb, 0, none⟩) ms.length bc) ms) ∧ Blk wr (w.heap.size + 1) 24 [.slice none 0 0] ∧ Below w.heap.size w wr ∧ gb ≤ wr.heap.size ∧ bb < wr.heap.size ∧ ∀ q, vs.ownBlock = some q → q ≠ bb) (fun va vs vi wr => ixn ms.length vi)
          case atStart => exact ⟨0, n, j, F, rfl, rfl, Nat.zero_le _, rfl, hjn, Lib.hid rfl, ho4, Lib.hid hbs, e4, b4, hgb4, hbbl, fun q hq => by simp [Value.ownBlock] at hq; omega⟩
          case round =>
            obtain ⟨i, k, a, G, rfl, rfl, hil, hk, hak, HGo, hoG, HBr, hkr, hbw, hgbr, hbbr, hqn⟩ := hrel
            obtain ⟨q, cq, rfl⟩ := hoG.form (by omega)
            have hqb : q ≠ bb := hqn q rfl
            have hqlt := hoG.lt q rfl
            have hGl := hoG.len
            clear ho4 hbs e4 b4 hgb4 hbbl hgbb hqn
            by_cases hlt : i < ms.length
            · obtain ⟨x, hxx⟩ : ∃ x, ms[i]? = some x := ⟨ms[i], List.getElem?_eq_getElem hlt⟩
              have hdx : isD x = true := HDS.out x (List.mem_of_mem_drop (by rw [← HMS.out]; exact List.mem_of_getElem? hxx))
              have hdl := dg_lt hdx
              have hdn := (isD_iff x).1 hdx
              have hdr : ms.drop i = x :: ms.drop (i + 1) := by
                rw [List.drop_eq_getElem_cons hlt]
                congr 1
                rw [List.getElem?_eq_getElem hlt] at hxx
                injection hxx
              have HDR := Lib.hid hdr
              have hu : (u8s ms)[i]? = some (.int .u8 (x.toNat : Int)) := by simp [u8s, hxx, u8]
              have HU := Lib.hid hu
              have hkn : k ≤ 4096 + 15 := by omega
              have hdef : dg x = x.toNat - 48 := rfl
              have HDF := Lib.hid hdef
              have HHK := Lib.hid hk
              have HOG := Lib.hid hoG
              have HGL := Lib.hid hGl
              clear hxx hdx hdr hu hdef hk hoG hGl
              obtain ⟨i0, hi0, hz0n, hz1n, hz2n⟩ := info_parts info_node3
              go_wp2_with (first | (refine wp_at 60 5 Try.underlying60 size_u8 (.tmp 50) (.tmp 52) rfl rfl rfl HBr.out .i64 (i : Int) i _ rfl rfl HU.out ?_; intro pp hpp hpc) | (refine wp_run rfl (exec_ixS 22 59 11 Try.underlying22 info_node _ rfl rfl .i64 (a : Int) a rfl rfl hak (show (⟨q, a * 11, none⟩ : Addr) = (⟨q, 0, none⟩ : Addr).add (a * 11) by rw [add_zero_addr])) ?_) | (refine wp_storeN (.tmp 64) (.tmp 61) rfl rfl rfl gb k q cq _ G (k : Int) rfl rfl HOG.out (by omega) ?_; intro w5 o5 k5; have HO5 := Lib.hid o5; have hs5 : wr.heap.size ≤ w5.heap.size := k5.size; clear o5 hpc) | (refine wp_run rfl (exec_build1 22 59 11 i0 _ (by decide) (by decide) Try.underlying22 hi0 hz0n hz1n z11 rfl (.tmp 68) rfl rfl _) ?_) | (refine wp_appN1 gb (.tmp 67) (.tmp 69) rfl rfl (.slice (some ⟨q, 0, none⟩) k cq) k _ rfl rfl rfl HO5.out (by omega) (by omega) ?_; intro v7 w7 o7 g7))
              have hal : Below w5.heap.size w5 (w5.alloc (.cells z11.toArray 59)) := (Below.refl _ _).alloc (Nat.le_refl _) _
              have kk : Keep (fun b => b ≠ q) wr w7 := (k5.trans (Keep.of_below hal)).trans (Keep.of_grew g7 (fun q' hq' h => h (by simp [Value.ownBlock] at hq'; exact hq'.symm)))
              have hs7 := kk.size
              have hadd : G.set (a * 11 + (x.toNat - 48)) (k : Int) = G.set (11 * a + dg x) (k : Int) := by rw [HDF.out, Nat.mul_comm a 11]
              rw [hadd] at o7
              have hgo2 : gro (add G k a (dg x)) (k + 1) k (ms.drop (i + 1)) = gro F n j ms := by have := HGo.out; rw [HDR.out] at this; exact this
              have HB7 : Hid (Bs w7 w7.heap.size (.slice (some ⟨bb, 0, none⟩) ms.length bc) ms) := Lib.hid (Bs.keepT HBr.out (T := fun b => b = bb) (fun a n c e h0 => by
                injection e with e1 _ _
                injection e1 with e1
                rw [← e1]) kk (fun b hb h => hqb (by rw [← h, hb])) hs7)
              go_roundw
              case measure => show ms.length - ((i : Int) + 1).toNat < ms.length - ((i : Int)).toNat; omega
              case rel =>
                refine ⟨i + 1, k + 1, k, add G k a (dg x), by simp, rfl, by omega, by have := HHK.out; omega, by omega, Lib.hid hgo2, o7, HB7, hkr.keep kk (by omega), hbw.trans (kk.below (fun q' hq' => by omega) hbw.size), by omega, by omega, fun q' hq' => ?_⟩
                rcases g7.2 with h7 | h7
                · rw [h7] at hq'
                  simp [Value.ownBlock] at hq'
                  omega
                · have h9 := h7 q' hq'
                  have h10 := hal.size
                  omega
            · obtain rfl : i = ms.length := by omega
              have hG : (G, k, a) = gro F n j ms := by
                have := HGo.out
                rw [List.drop_length] at this
                exact this
              have HG := Lib.hid hG
              have HOG := Lib.hid hoG
              have HHK := Lib.hid hk
              clear hG hoG hk
              go_wp2_with (first | (refine wp_run rfl (exec_ixS 22 59 11 Try.underlying22 info_node _ rfl rfl .i64 (a : Int) a rfl rfl hak (show (⟨q, a * 11, none⟩ : Addr) = (⟨q, 0, none⟩ : Addr).add (a * 11) by rw [add_zero_addr])) ?_) | (refine wp_storeN (.tmp 76) (.tmp 74) rfl rfl rfl gb k q cq _ G v rfl rfl HOG.out (by omega) ?_; intro w5 o5 k5; have hs5 : wr.heap.size ≤ w5.heap.size := k5.size; have h15 := hkr.keep k5 (by omega)) | (refine wp_storeA 24 (.tmp 6) (.tmp 78) rfl rfl (w.heap.size + 1) rfl 24 [.slice none 0 0] [.slice (some ⟨q, 0, none⟩) k cq] rfl h15 (by rw [info_trie]; rfl) rfl (by intro v hv; simp at hv; subst hv; rfl) rfl ?_; intro w7 h7 k7))
              have o7 := o5.keep k7 (fun q' hq' => by simp [Value.ownBlock] at hq'; omega)
              have b7 : Below w.heap.size w w7 := hbw.trans (((k5.mono (O' := fun b => b < w.heap.size) fun b hb => by omega).trans (k7.mono fun b hb => by omega)).below (fun q' hq' => hq') hbw.size)
              have hpf : pf = G.set (a * 11 + 10) v := by
                rw [HF.out, HP.out, if_pos rfl]
                unfold put
                rw [HGR.out, ← HMS.out, ← HG.out]
                unfold sv
                rw [Nat.mul_comm]
              have hpk : pn = k := by
                rw [HN.out, HP.out, if_pos rfl]
                unfold putn
                rw [HGR.out, ← HMS.out, ← HG.out]
              have HPF := Lib.hid hpf
              have HPK := Lib.hid hpk
              clear hpf hpk
              refine ret_row_tmp Try.results13 rfl (w.heap.size + 1) 24 _ _ rfl h7 Try.underlying24 rfl (by rw [info_trie]; rfl) _ rfl ?_
              rw [HP.out, HPF.out, HPK.out]
              exact ⟨⟨_, rfl, o7.up (by omega)⟩, b7⟩
  · have hc0 : c ≠ 0 := ne_of_beq_false hz0
    have hz1 : (c != 0) = true := by rw [bne, hz0]; rfl
    have HP : Hid (pe = c) := Lib.hid (by rw [HE.out, if_pos hc0])
    have HP0 := Lib.hid hc0
    have e1 := HC.out.2.past hb1 (by omega)
    clear hc0
    go_wp2_with (first | (refine wp_storeA 24 (.tmp 6) (.tmp 20) rfl rfl (w.heap.size + 1) rfl 24 [.slice none 0 0] [.slice none 0 0] rfl e1 (by rw [info_trie]; rfl) rfl (by intro v hv; simp at hv; subst hv; rfl) rfl ?_; intro w7 h7 k7))
    have b9 : Below w.heap.size w w7 := b1.trans (k7.below (fun q hq => by omega) b1.size)
    obtain ⟨hf0, hn0⟩ := BAD.out (by rw [HP.out]; exact HP0.out)
    rw [hf0, hn0, HP.out]
    refine ret_row_tmp Try.results13 rfl (w.heap.size + 1) 24 _ _ rfl h7 Try.underlying24 rfl (by rw [info_trie]; rfl) _ rfl ?_
    exact ⟨⟨_, rfl, OwnN.nil_ _ _⟩, b9⟩
end Go.Proofs.Ytippbkooaonajaa
