/-
  Package trie: Longest.
-/
import Derived.Test.YtippbkooaonajaaTtF
namespace Go.Proofs.Ytippbkooaonajaa
open Go.RowKit Go.Shelf Dg Tr
attribute [local go_sem] Oper.semAt_some
set_option linter.unusedVariables false
set_option linter.unusedSimpArgs false

def lonF (F : List Int) (s : Str) : Int × Nat × Bool := lon F (pth F 0 0 s) (pth F 0 0 s).length
/-- What Longest answers. -/
noncomputable def lonR (F : List Int) (n : Nat) (s : Str) : Int × Nat × Bool := if s.all isD = true ∧ chk F n = 0 then lonF F s else (0, 0, false)
def lonV (r : Int × Nat × Bool) : Value := .tuple #[.int .i64 r.1, .int .i64 (r.2.1 : Int), .bool r.2.2]
theorem pth_lt {F : List Int} {n : Nat} {E : Nat → Nat} (h : Tree F n E) {s : Str} (hs : ∀ b ∈ s, isD b = true) {k : Nat} {y : Nat × Nat} (hy : (pth F 0 0 s)[k]? = some y) : y.1 < n ∧ y.2 = k ∧ k ≤ s.length := by
  have hg := pth_get (F := F) (a := 0) (i := 0) k hs
  rw [hy] at hg
  by_cases hk : k ≤ s.length
  · rw [if_pos hk] at hg
    cases hn : nod F 0 (s.take k) with
    | none => rw [hn] at hg; cases hg
    | some j =>
      rw [hn] at hg
      simp only [Option.map_some, Nat.zero_add, Option.some.injEq] at hg
      rw [hg]
      exact ⟨(nod_lt h h.pos hn).1, rfl, hk⟩
  · rw [if_neg hk] at hg; cases hg

theorem add_ten (q : Addr) : q.add 10 = ⟨q.block, q.off + 10, none⟩ := by simp [Addr.add]

/-- What Longest's loop keeps. -/
def LgI (g n cap : Nat) (ad : Addr) (w : World) (F : List Int) (l : List (Nat × Nat)) (M : Nat → Prop) (k : Nat) (W : World) : Prop :=
  (∀ b, M b ↔ (b = g + 1 ∨ b = g + 1 + 1 ∨ b = g + 1 + 1 + 1)) ∧ Blk W g 24 [.slice (some ad) n cap] ∧ Blk W (g + 1) 3 [.int .i64 (lon F l k).1] ∧ Blk W (g + 1 + 1) 3 [.int .i64 ((lon F l k).2.1 : Int)] ∧ Blk W (g + 1 + 1 + 1) 4 [.bool (lon F l k).2.2] ∧ Below g w W

theorem info_bool : (Try.prog.info? 4).map (·.size) = some 1 := by kernel_rfl

set_option maxRecDepth 100000 in
set_option maxHeartbeats 2000000 in
theorem longest_any (A : Option Addr) (n cap : Nat) (F : List Int) (s : Str) (w : World) (hv : Nds w w.heap.size n (.slice A n cap) F) (hn : n ≤ 10000) (hl : s.length ≤ 1000) :
    Calls Try.prog 20 #[.agg #[.slice A n cap], str s] w fun e w' => e = .returned (lonV (lonR F n s)) ∧ Below w.heap.size w w' := by
  have HV := Lib.hid hv
  obtain ⟨W0, hW0⟩ : ∃ W, W = (((w.alloc (.cells #[.slice A n cap] 24)).alloc (.cells #[.int .i64 0] 3)).alloc (.cells #[.int .i64 0] 3)).alloc (.cells #[.bool false] 4) := ⟨_, rfl⟩
  have hs0 : W0.heap.size = w.heap.size + 4 := by rw [hW0]; simp
  have b0 : Below w.heap.size w W0 := by
    rw [hW0]
    refine ((((Below.refl _ _).alloc (Nat.le_refl _) _).alloc ?_ _).alloc ?_ _).alloc ?_ _ <;> simp <;> omega
  have c0 : Blk W0 w.heap.size 24 [.slice A n cap] := by
    rw [hW0]; exact (((Blk.newAt _ _ [_] _ (by simp)).alloc _).alloc _).alloc _
  have c1 : Blk W0 (w.heap.size + 1) 3 [.int .i64 0] := by
    rw [hW0]; exact ((Blk.newAt _ _ [_] _ (by simp)).alloc _).alloc _
  have c2 : Blk W0 (w.heap.size + 1 + 1) 3 [.int .i64 0] := by
    rw [hW0]; exact (Blk.newAt _ _ [_] _ (by simp)).alloc _
  have c3 : Blk W0 (w.heap.size + 1 + 1 + 1) 4 [.bool false] := by
    rw [hW0]; exact Blk.newAt _ _ [_] _ (by simp)
  have hD := isDigits_any s W0 (by simp only [maxLen]; omega)
  have HW := Lib.hid hW0
  have HC := Lib.hid (And.intro c0 (And.intro c1 (And.intro c2 c3)))
  obtain ⟨d, hd⟩ : ∃ d, s.all isD = d := ⟨_, rfl⟩
  have HDg := Lib.hid hd
  rw [hd] at hD
  have HL : Hid (lonR F n s = if s.all isD = true ∧ chk F n = 0 then lonF F s else (0, 0, false)) := Lib.hid rfl
  obtain ⟨r, hr⟩ : ∃ r, lonR F n s = r := ⟨_, rfl⟩
  rw [hr, hd] at HL
  rw [hr]
  clear hv hW0 c0 c1 c2 c3 hd hr
  refine (callsIn_wide (n := 0)).1 ?_
  refine callsIn_of_wp_marks Try.func20 rfl trivial ?_ rfl
  simp only [Try.ntmps20, List.size_toArray, List.length_cons, List.length_nil, Nat.reduceAdd, Nat.reduceSub, Array.replicate_succ, Array.replicate_zero, List.push_toArray, List.append_toArray, List.nil_append, List.cons_append]
  gi_wp2_with fail
  rw [← HW.out]
  refine ⟨trivial, rfl, (callsIn_wide.2 hD).mono ?_⟩
  rintro e w1 ⟨rfl, hb1⟩
  clear hD
  have hs1 := hb1.size
  have b1 := b0.trans (hb1.mono b0.size)
  cases d with
  | false =>
    have HR : Hid (r = (0, 0, false)) := Lib.hid (by rw [HL.out]; simp)
    have e1 := HC.out.2.1.past hb1 (by omega)
    have e2 := HC.out.2.2.1.past hb1 (by omega)
    have e3 := HC.out.2.2.2.past hb1 (by omega)
    gi_wp2_with fail
    refine ⟨trivial, ?_⟩
    go_at_K
    gi_wp2_with (first | (refine wpi_storeC 3 (.tmp 4) _ rfl rfl (w.heap.size + 1) 0 rfl 3 [_] (.int .i64 0) rfl rfl rfl e1 (by simp) info_int rfl ?_; intro w5 h5 k5; have e25 := e2.keep k5 (by omega); have e35 := e3.keep k5 (by omega)) | (refine wpi_storeC 3 (.tmp 5) _ rfl rfl (w.heap.size + 1 + 1) 0 rfl 3 [_] (.int .i64 0) rfl rfl rfl e25 (by simp) info_int rfl ?_; intro w6 h6 k6; have e36 := e35.keep k6 (by omega)) | (refine wpi_storeC 4 (.tmp 6) _ rfl rfl (w.heap.size + 1 + 1 + 1) 0 rfl 4 [_] (.bool false) rfl rfl rfl e36 (by simp) info_bool rfl ?_; intro w7 h7 k7))
    have kk : Keep (fun b => b < w.heap.size) w1 w7 := ((k5.mono fun b hb => by omega).trans (k6.mono fun b hb => by omega)).trans (k7.mono fun b hb => by omega)
    have q1 := ((h5.keep k6 (by omega)).keep k7 (by omega)).cell (j := 0) rfl
    have q2 := (h6.keep k7 (by omega)).cell (j := 0) rfl
    have q3 := h7.cell (j := 0) rfl
    rw [HR.out]
    exact ⟨_, results_cell3 Try.results20 _ ⟨w.heap.size + 1, 0, none⟩ ⟨w.heap.size + 1 + 1, 0, none⟩ ⟨w.heap.size + 1 + 1 + 1, 0, none⟩ _ _ _ _ rfl rfl rfl (run_loadVar_one 3 .i64 Try.underlying3 _ _ _ q1) (run_loadVar_one 3 .i64 Try.underlying3 _ _ _ q2) (run_loadVar_oneb 4 Try.underlying4 _ _ _ q3), rfl, b1.trans (kk.below (fun q hq => hq) b1.size)⟩
  | true =>
    have hds : ∀ b ∈ s, isD b = true := by
      have := HDg.out
      rw [List.all_eq_true] at this
      exact this
    have hC := check_any A n cap F w1 (Row.past HV.out b1) hn
    obtain ⟨c, hc⟩ : ∃ c, chk F n = c := ⟨_, rfl⟩
    rw [hc] at hC
    have HCK := Lib.hid hc
    have HDS := Lib.hid hds
    have cT := (HC.out.1.past hb1 (by omega)).cell (j := 0) rfl
    have step : ∀ (R : Prop), (∀ hz0 : (c == 0) = true, R) → (∀ hz0 : (c == 0) = false, R) → R := fun R h1 h2 => by
      cases hc : (c == 0)
      · exact h2 hc
      · exact h1 hc
    clear hc hds
    refine step _ (fun hz0 => ?_) (fun hz0 => ?_)
    all_goals
      clear step
      gi_wp2_with fail
      refine ⟨trivial, rfl, (callsIn_wide.2 hC).mono ?_⟩
      rintro e w2 ⟨rfl, hb2⟩
      have hb12 := hb1.trans (hb2.mono hs1)
      have hs2 := hb2.size
      have b2 := b0.trans (hb12.mono b0.size)
      clear hC cT
    · have hc0 : c = 0 := eq_of_beq hz0
      have hz1 : (c != 0) = false := by rw [bne, hz0]; rfl
      obtain ⟨⟨⟨E, hT⟩, hVl⟩, h4096⟩ := chk_zero (HCK.out.trans hc0)
      have HR : Hid (r = lonF F s) := Lib.hid (by rw [HL.out, HCK.out, hc0]; simp)
      have HT := Lib.hid hT
      have hpos := hT.pos
      obtain ⟨ad, hA, _⟩ := HV.out.at_ hpos
      subst hA
      clear hT hVl hc0
      have k0 := HC.out.1.past hb12 (by omega)
      have k1 := HC.out.2.1.past hb12 (by omega)
      have k2 := HC.out.2.2.1.past hb12 (by omega)
      have k3 := HC.out.2.2.2.past hb12 (by omega)
      have cT2 := k0.cell (j := 0) rfl
      gi_wp2_with fail
      refine ⟨trivial, rfl, (callsIn_wide.2 (path_any (some ad) n cap s _)).mono ?_⟩
      rintro e w3 ⟨rfl, rfl⟩
      obtain ⟨W3, hW3⟩ : ∃ W3, W3 = (w2.alloc (.cells #[.slice (some ad) n cap] 24)).alloc (.cells #[str s] 9) := ⟨_, rfl⟩
      obtain ⟨g2, hg2⟩ : ∃ g2, g2 = w2.heap.size := ⟨_, rfl⟩
      have hs3 : W3.heap.size = g2 + 2 := by rw [hW3, hg2]; simp
      have b23 : Below w2.heap.size w2 W3 := by
        rw [hW3]
        refine ((Below.refl _ _).alloc (Nat.le_refl _) _).alloc ?_ _
        simp
      have b3 := b2.trans (b23.mono b2.size)
      have ct : Blk W3 g2 24 [.slice (some ad) n cap] := by
        rw [hW3]; exact (Blk.newAt _ _ [_] _ hg2).alloc _
      have cs : Blk W3 (g2 + 1) 9 [str s] := by
        rw [hW3]; exact Blk.newAt _ _ [_] _ (by simp [hg2])
      have HW3 := Lib.hid hW3
      have HG2 := Lib.hid hg2
      have hgg : w.heap.size + 4 ≤ g2 := by omega
      have HK := Lib.hid (And.intro (k0.past b23 k0.lt) (And.intro (k1.past b23 k1.lt) (And.intro (k2.past b23 k2.lt) (And.intro (k3.past b23 k3.lt) (And.intro ct cs)))))
      clear hW3 ct cs k0 k1 k2 k3 cT2
      gi_wp2_with fail
      rw [← HW3.out, ← HG2.out]
      clear hg2
      refine wp_rangeV (gf := 51) (lb := #[.pointer (some ⟨g2 + 1, 0, none⟩), .pointer (some ⟨g2, 0, none⟩)]) (T := fun b => b < W3.heap.size ∧ b ≠ w.heap.size + 1 ∧ b ≠ w.heap.size + 1 + 1 ∧ b ≠ w.heap.size + 1 + 1 + 1) (items := pthA F s) rfl (enters_of Try.func51 (by kernel_rfl) rfl) (fun b h => h.1)
        (fun x hx => by obtain ⟨_, _, rfl⟩ := pthA_item hx; rfl) ?hseq (LgI w.heap.size n cap ad w F (pth F 0 0 s)) (fun _ => False) (fun b => b = w.heap.size + 1 ∨ b = w.heap.size + 1 + 1 ∨ b = w.heap.size + 1 + 1 + 1) (fun b hb h => by omega) ?h0 ?hlt ?hI (fun _ _ h => h.elim)
        (fun x => { tmps := #[.agg #[.slice (some ad) n cap], str s, .pointer (some ⟨w.heap.size, 0, none⟩), undef, .pointer (some ⟨w.heap.size + 1, 0, none⟩), .pointer (some ⟨w.heap.size + 1 + 1, 0, none⟩), .pointer (some ⟨w.heap.size + 1 + 1 + 1, 0, none⟩), x.getD 0 undef, x.getD 1 undef, undef, str s, .bool true, .bool false, .bool false, .agg #[.slice (some ad) n cap], .int .i64 c, .bool false, .bool false, .agg #[.slice (some ad) n cap], str s, .func (.func 51) #[] #[.pointer (some ⟨g2 + 1, 0, none⟩), .pointer (some ⟨g2, 0, none⟩)], x.getD 0 undef, x.getD 1 undef, undef, undef, undef, undef, undef, undef, undef, undef, undef, undef, undef, undef, undef], defers := [] }) ?hassign ?hbody ?hdone (fun _ _ h => h.elim)
      case hseq =>
        intro W4 hb4
        have hb := b3.trans (hb4.mono b3.size)
        have h4 := hb4.size
        refine path_gives _ _ _ n cap ad F E s W4 ⟨by omega, by omega, by omega, by omega⟩ (cell_past (HK.out.2.2.2.2.2.cell (j := 0) rfl) hb4) (Rd.of HV.out hb hpos ⟨by omega, by omega, by omega, by omega⟩ (fun b hb => ⟨by omega, by omega, by omega, by omega⟩) (cell_past (HK.out.2.2.2.2.1.cell (j := 0) rfl) hb4)) HT.out HDS.out hl hn (fun b hb => by omega)
      case h0 =>
        intro W4 hb4 hs4
        exact ⟨fun b => Iff.rfl, HK.out.1.past hb4 (by omega), HK.out.2.1.past hb4 (by omega), HK.out.2.2.1.past hb4 (by omega), HK.out.2.2.2.1.past hb4 (by omega), b3.trans (hb4.mono b3.size)⟩
      case hlt =>
        rintro M k W4 ⟨hM, h0, h1, h2, h3, h4⟩ b hb
        rcases (hM b).1 hb with rfl | rfl | rfl
        · exact h1.lt
        · exact h2.lt
        · exact h3.lt
      case hI =>
        rintro M k W4 W5 ⟨hM, h0, h1, h2, h3, h4⟩ hk
        exact ⟨hM, h0.keep hk (Or.inl (by omega)), h1.keep hk (Or.inl (by omega)), h2.keep hk (Or.inl (by omega)), h3.keep hk (Or.inl (by omega)), h4.trans (hk.below (fun q hq => Or.inl (by omega)) h4.size)⟩
      case hassign =>
        intro l' x W4 K hx hK
        obtain ⟨a, i, rfl⟩ := pthA_item hx
        gi_wp2
        exact hK
      case hdone =>
        rintro M W4 hs4 ⟨hM, h0, h1, h2, h3, h4⟩ hd
        have hlen : (pthA F s).length = (pth F 0 0 s).length := by simp [pthA]
        have hdp : lon F (pth F 0 0 s) (pth F 0 0 s).length = r := HR.out.symm
        rw [hlen, hdp] at h1 h2 h3
        gi_wp2_with fail
        refine wpIn_wide.2 ?_
        refine wp_region_ptk (fun _ => True) (.take 0 (.take 1 (.take 2 (.step 3 (.step 4 (.step 5 .done)))))) (by kernel_rfl) (by kernel_rfl) (by kernel_rfl) (fun _ _ h => h) ?_
        have g1 := h1.drew
        have g2' := h2.drew
        have g3 := h3.drew
        have g4 : Below w.heap.size w W4.drew := h4.drew
        have gd : W4.drew.heap[W3.heap.size]? = some (.deferred (some [])) := hd
        obtain ⟨W5, hW5⟩ : ∃ W5, W5 = W4.drew := ⟨_, rfl⟩
        rw [← hW5] at g1 g2' g3 g4 gd ⊢
        clear hW5 h0 h1 h2 h3 h4 hd
        refine ptk_take rfl rfl rfl rfl ?_
        apply Exists.intro
        refine ⟨fun w' hw' => ?_, ?_⟩
        · have hcell := hw'.cell (p := ⟨w.heap.size + 1, 0, none⟩) trivial (g1.cell (j := 0) rfl)
          focus ((repeat (first | go_skip | go_guarded | go_step | go_upon | go_back)); exact ⟨rfl, rfl, rfl⟩)
        refine ptk_take rfl rfl rfl rfl ?_
        apply Exists.intro
        refine ⟨fun w' hw' => ?_, ?_⟩
        · have hcell := hw'.cell (p := ⟨w.heap.size + 1 + 1, 0, none⟩) trivial (g2'.cell (j := 0) rfl)
          focus ((repeat (first | go_skip | go_guarded | go_step | go_upon | go_back)); exact ⟨rfl, rfl, rfl⟩)
        refine ptk_take rfl rfl rfl rfl ?_
        apply Exists.intro
        refine ⟨fun w' hw' => ?_, ?_⟩
        · have hcell := hw'.cell (p := ⟨w.heap.size + 1 + 1 + 1, 0, none⟩) trivial (g3.cell (j := 0) rfl)
          focus ((repeat (first | go_skip | go_guarded | go_step | go_upon | go_back)); exact ⟨rfl, rfl, rfl⟩)
        refine ptk_step rfl ?_
        refine wp_storeC 3 (.tmp 4) (.tmp 33) rfl rfl (w.heap.size + 1) 0 rfl 3 [.int .i64 r.1] (.int .i64 r.1) rfl rfl rfl g1 (by simp) info_int rfl ?_
        intro w6 h6 k6
        obtain ⟨k6, h6⟩ := Keep.same g1 rfl h6 k6
        have g26 := g2'.keep k6 trivial
        have g36 := g3.keep k6 trivial
        go_wp2_with fail
        refine ⟨rfl, k6, ?_⟩
        refine ptk_step rfl ?_
        refine wp_storeC 3 (.tmp 5) (.tmp 34) rfl rfl (w.heap.size + 1 + 1) 0 rfl 3 [.int .i64 (r.2.1 : Int)] (.int .i64 (r.2.1 : Int)) rfl rfl rfl g26 (by simp) info_int rfl ?_
        intro w7 h7 k7
        obtain ⟨k7, h7⟩ := Keep.same g26 rfl h7 k7
        have g37 := g36.keep k7 trivial
        go_wp2_with fail
        refine ⟨rfl, k7, ?_⟩
        refine ptk_step rfl ?_
        refine wp_storeC 4 (.tmp 6) (.tmp 35) rfl rfl (w.heap.size + 1 + 1 + 1) 0 rfl 4 [.bool r.2.2] (.bool r.2.2) rfl rfl rfl g37 (by simp) info_bool rfl ?_
        intro w8 h8 k8
        obtain ⟨k8, h8⟩ := Keep.same g37 rfl h8 k8
        go_wp2_with fail
        refine ⟨rfl, k8, ?_⟩
        have k58 := (k6.trans k7).trans k8
        have gd8 := k58.heap trivial gd
        have h68 := (h6.keep k7 trivial).keep k8 trivial
        have h78 := h7.keep k8 trivial
        have b8 := g4.trans (k58.below (fun _ _ => trivial) g4.size)
        change Exit.then _ _ Exit.normal _ _
        rw [hs3] at gd8
        have hp : ∀ O : Nat → Prop, ¬ O (g2 + 2) → Keep O w8 (w8.putObj (g2 + 2) (.deferred none)) := fun O hO => Keep.putObj _ _ _ hO
        have c1 := (h68.keep (hp (fun b => b = w.heap.size + 1) (by omega)) rfl).cell (j := 0) rfl
        have c2 := (h78.keep (hp (fun b => b = w.heap.size + 1 + 1) (by omega)) rfl).cell (j := 0) rfl
        have c3 := (h8.keep (hp (fun b => b = w.heap.size + 1 + 1 + 1) (by omega)) rfl).cell (j := 0) rfl
        have b9 : Below w.heap.size w (w8.putObj (g2 + 2) (.deferred none)) := b8.trans ((hp (fun q => q < w.heap.size) (by omega)).below (fun q hq => hq) b8.size)
        clear g1 g2' g3 g4 gd g26 g36 g37 k58 k6 k7 k8 h6 h7 h8 h68 h78 b8 hp
        gi_wp2_with fail
        show LeavesInM _ _ _ _ _ _ _ _ _
        refine ⟨by simp, .inl ⟨_, _, rfl, run_takeDeferred gd8, ?_⟩⟩
        exact ⟨_, results_cell3 Try.results20 _ ⟨w.heap.size + 1, 0, none⟩ ⟨w.heap.size + 1 + 1, 0, none⟩ ⟨w.heap.size + 1 + 1 + 1, 0, none⟩ _ _ _ _ rfl rfl rfl (run_loadVar_one 3 .i64 Try.underlying3 _ _ _ c1) (run_loadVar_one 3 .i64 Try.underlying3 _ _ _ c2) (run_loadVar_oneb 4 Try.underlying4 _ _ _ c3), rfl, b9⟩
      case hbody =>
        rintro l' M k x W4 hs4 ⟨hM, h0, h1, h2, h3, h4⟩ hx
        obtain ⟨y, hy, rfl⟩ := pthA_at hx
        obtain ⟨hyn, hyk, hyl⟩ := pth_lt HT.out HDS.out hy
        have HLS := Lib.hid (lon_succ (F := F) hy)
        have HM := Lib.hid hM
        have cT := h0.cell (j := 0) rfl
        obtain ⟨q, nl, hqe, hqb, _, _, hq, hv10⟩ := HV.out.node h4 hyn
        obtain ⟨v, hvv⟩ : ∃ v, vl F y.1 = v := ⟨_, rfl⟩
        have cV : W4.cell? ⟨q.block, q.off + 10, none⟩ = some (.int .i64 v) := by rw [← hvv, ← add_ten]; exact hq 10 _ hv10
        have HQE := Lib.hid hqe
        have HVV := Lib.hid hvv
        clear hy hx hM hq hv10 hqe hvv
        have step : ∀ (R : Prop), (∀ hz0 : (v == 0) = true, R) → (∀ hz0 : (v == 0) = false, R) → R := fun R h1 h2 => by
          cases hc : (v == 0)
          · exact h2 hc
          · exact h1 hc
        refine step _ (fun hv0 => ?_) (fun hv0 => ?_)
        · have hv1 : (v != 0) = false := by rw [bne, hv0]; rfl
          have hst : lon F (pth F 0 0 s) (k + 1) = lon F (pth F 0 0 s) k := by
            rw [HLS.out]; unfold stepL; rw [HVV.out, if_neg (by rw [eq_of_beq hv0]; simp)]
          have HST := Lib.hid hst
          clear hst step
          gi_wp2_with (first | (refine wpi_run rfl (fun c hc => by cases hc) (by simp [Oper.about]) (exec_ixS 22 59 11 Try.underlying22 info_node _ rfl rfl .i64 (y.1 : Int) y.1 rfl rfl hyn HQE.out) ?_))
          refine ⟨M, ⟨HM.out, h0, by rw [HST.out]; exact h1, by rw [HST.out]; exact h2, by rw [HST.out]; exact h3, h4⟩, fun b hb => Or.inl hb, Keep.refl _ _⟩
        · have hv1 : (v != 0) = true := by rw [bne, hv0]; rfl
          have hst : lon F (pth F 0 0 s) (k + 1) = (v, y.2, true) := by
            rw [HLS.out]; unfold stepL; rw [HVV.out, if_pos (ne_of_beq_false hv0)]
          have HST := Lib.hid hst
          clear hst step
          gi_wp2_with (first | (refine wpi_run rfl (fun c hc => by cases hc) (by simp [Oper.about]) (exec_ixS 22 59 11 Try.underlying22 info_node _ rfl rfl .i64 (y.1 : Int) y.1 rfl rfl hyn HQE.out) ?_) | (refine wpi_storeC 3 (.tmp 4) _ rfl rfl (w.heap.size + 1) 0 rfl 3 [_] (.int .i64 v) rfl rfl rfl h1 (by simp) info_int rfl ?_; intro w5 h5 k5; have h25 := h2.keep k5 (by omega); have h35 := h3.keep k5 (by omega)) | (refine wpi_storeC 3 (.tmp 5) _ rfl rfl (w.heap.size + 1 + 1) 0 rfl 3 [_] (.int .i64 (y.2 : Int)) rfl rfl rfl h25 (by simp) info_int rfl ?_; intro w6 h6 k6; have h36 := h35.keep k6 (by omega)) | (refine wpi_storeC 4 (.tmp 6) _ rfl rfl (w.heap.size + 1 + 1 + 1) 0 rfl 4 [_] (.bool true) rfl rfl rfl h36 (by simp) info_bool rfl ?_; intro w7 h7 k7))
          have kk : Keep (fun b => b ≠ w.heap.size + 1 ∧ b ≠ w.heap.size + 1 + 1 ∧ b ≠ w.heap.size + 1 + 1 + 1) W4 w7 := ((k5.mono fun b hb => hb.1).trans (k6.mono fun b hb => hb.2.1)).trans (k7.mono fun b hb => hb.2.2)
          refine ⟨M, ⟨HM.out, h0.keep kk (by omega), by rw [HST.out]; exact (h5.keep k6 (by omega)).keep k7 (by omega), by rw [HST.out]; exact h6.keep k7 (by omega), by rw [HST.out]; exact h7, h4.trans (kk.below (fun q hq => by omega) h4.size)⟩, fun b hb => Or.inl hb, kk.mono fun b hb => ?_⟩
          rcases hb with hb | hb
          · exact ⟨fun h => hb ((HM.out b).2 (Or.inl h)), fun h => hb ((HM.out b).2 (Or.inr (Or.inl h))), fun h => hb ((HM.out b).2 (Or.inr (Or.inr h)))⟩
          · omega
    · have hz1 : (c != 0) = true := by rw [bne, hz0]; rfl
      have HR : Hid (r = (0, 0, false)) := Lib.hid (by rw [HL.out, HCK.out, if_neg]; intro h; exact ne_of_beq_false hz0 h.2)
      have e1 := HC.out.2.1.past hb12 (by omega)
      have e2 := HC.out.2.2.1.past hb12 (by omega)
      have e3 := HC.out.2.2.2.past hb12 (by omega)
      gi_wp2_with (first | (refine wpi_storeC 3 (.tmp 4) _ rfl rfl (w.heap.size + 1) 0 rfl 3 [_] (.int .i64 0) rfl rfl rfl e1 (by simp) info_int rfl ?_; intro w5 h5 k5; have e25 := e2.keep k5 (by omega); have e35 := e3.keep k5 (by omega)) | (refine wpi_storeC 3 (.tmp 5) _ rfl rfl (w.heap.size + 1 + 1) 0 rfl 3 [_] (.int .i64 0) rfl rfl rfl e25 (by simp) info_int rfl ?_; intro w6 h6 k6; have e36 := e35.keep k6 (by omega)) | (refine wpi_storeC 4 (.tmp 6) _ rfl rfl (w.heap.size + 1 + 1 + 1) 0 rfl 4 [_] (.bool false) rfl rfl rfl e36 (by simp) info_bool rfl ?_; intro w7 h7 k7))
      have kk : Keep (fun b => b < w.heap.size) w2 w7 := ((k5.mono fun b hb => by omega).trans (k6.mono fun b hb => by omega)).trans (k7.mono fun b hb => by omega)
      have q1 := ((h5.keep k6 (by omega)).keep k7 (by omega)).cell (j := 0) rfl
      have q2 := (h6.keep k7 (by omega)).cell (j := 0) rfl
      have q3 := h7.cell (j := 0) rfl
      rw [HR.out]
      exact ⟨_, results_cell3 Try.results20 _ ⟨w.heap.size + 1, 0, none⟩ ⟨w.heap.size + 1 + 1, 0, none⟩ ⟨w.heap.size + 1 + 1 + 1, 0, none⟩ _ _ _ _ rfl rfl rfl (run_loadVar_one 3 .i64 Try.underlying3 _ _ _ q1) (run_loadVar_one 3 .i64 Try.underlying3 _ _ _ q2) (run_loadVar_oneb 4 Try.underlying4 _ _ _ q3), rfl, b2.trans (kk.below (fun q hq => hq) b2.size)⟩
end Go.Proofs.Ytippbkooaonajaa
