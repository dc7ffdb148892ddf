/-
  Package trie: Extends.
-/
import Derived.Test.YtippbkooaonajaaTtJ
namespace Go.Proofs.Ytippbkooaonajaa
open Go.RowKit Go.Shelf Dg Tr
attribute [local go_sem] Oper.semAt_some
set_option linter.unusedVariables false
set_option linter.unusedSimpArgs false

/-- Whether a stored string goes on behind s. -/
def ext (F : List Int) (s : Str) : Prop := ∃ q, q ≠ [] ∧ get F (s ++ q) ≠ 0
def extP (F : List Int) (n : Nat) (s : Str) : Prop := s.all isD = true ∧ chk F n = 0 ∧ ext F s
theorem results_cell1 {P : Program} {fn : Func} {p : Tmp} {t : TypeId} (h : fn.results = #[.cell p t]) (tmps : Array Value) (a : Addr) (x : Value) (w : World) (hp : tmps.getD p undef = .pointer (some a)) (hx : (loadVar t a).run P w = .ok x w) : (results fn tmps).run P w = .ok x w := by
  have hp' : tmps[p]?.getD undef = .pointer (some a) := by simpa using hp
  simp [results, h, hp', asAddr, hx, Sem.run_bind]

/-- The entries below a node, and what is stored behind its string. -/
theorem ext_iff {F : List Int} {n : Nat} {E : Nat → Nat} (h : Tree F n E) {s : Str} {j : Nat} (hj : nod F 0 s = some j) (r : Str) : (∃ x ∈ ent F 15 j r, x.1 ≠ r) ↔ ext F s := by
  have hjn := (nod_lt h h.pos hj).1
  constructor
  · rintro ⟨x, hx, hne⟩
    obtain ⟨u, k, h1, h2, h3, h4⟩ := (mem_ent h 15 x hjn (by omega)).1 hx
    refine ⟨u, fun hu => hne (by rw [h1, hu, List.append_nil]), ?_⟩
    rw [get_some (j := k) (by rw [nod_append, hj]; exact h2), ← h3]
    exact h4
  · rintro ⟨q, hq, hg⟩
    obtain ⟨k, hk⟩ := get_has hg
    rw [get_some hk] at hg
    rw [nod_append, hj] at hk
    refine ⟨(r ++ q, vl F k), (mem_ent h 15 _ hjn (by omega)).2 ⟨q, k, rfl, hk, rfl, hg⟩, fun he => hq ?_⟩
    simpa using he
theorem ext_no {F : List Int} {s : Str} (h : nod F 0 s = none) : ¬ ext F s := fun ⟨q, _, hg⟩ => by
  obtain ⟨k, hk⟩ := get_has hg
  rw [nod_append, h] at hk
  cases hk

/-- What the loop of Extends keeps. -/
def ExI (n0 g4 : Nat) (w : World) (L : List (Str × Int)) (M : Nat → Prop) (k : Nat) (W : World) : Prop :=
  (∀ b, M b ↔ b = g4) ∧ Blk W g4 4 [.bool false] ∧ Below n0 w W ∧ ∀ i x, i < k → L[i]? = some x → x.1 = []
def ExX (n0 g4 : Nat) (w : World) (L : List (Str × Int)) (W : World) : Prop := Blk W g4 4 [.bool true] ∧ Below n0 w W ∧ ∃ x ∈ L, x.1 ≠ []

set_option maxRecDepth 100000 in
set_option maxHeartbeats 2000000 in
theorem extends_any (A : Option Addr) (n cap : Nat) (F : List Int) (s : Str) (w : World) (hv : Nds w w.heap.size n (.slice A n cap) F) (hn : n ≤ 10000) (hl : s.length ≤ 1000) :
    Calls Try.prog 22 #[.agg #[.slice A n cap], str s] w fun e w' => IsB (extP F n s) e ∧ Below w.heap.size w w' := by
  have HV := Lib.hid hv
  obtain ⟨W0, hW0⟩ : ∃ W, W = (w.alloc (.cells #[.slice A n cap] 24)).alloc (.cells #[.bool false] 4) := ⟨_, rfl⟩
  have hs0 : W0.heap.size = w.heap.size + 2 := by rw [hW0]; simp
  have b0 : Below w.heap.size w W0 := by
    rw [hW0]; exact ((Below.refl _ _).alloc (Nat.le_refl _) _).alloc (by simp) _
  have c0 : Blk W0 w.heap.size 24 [.slice A n cap] := by rw [hW0]; exact (Blk.newAt _ _ [_] _ rfl).alloc _
  have c1 : Blk W0 (w.heap.size + 1) 4 [.bool false] := by rw [hW0]; exact Blk.newAt _ _ [_] _ (by simp)
  have hD := isDigits_any s W0 (by simp only [maxLen]; omega)
  have HW := Lib.hid hW0
  have HC := Lib.hid (And.intro c0 c1)
  obtain ⟨d, hd⟩ : ∃ d, s.all isD = d := ⟨_, rfl⟩
  have HDg := Lib.hid hd
  rw [hd] at hD
  have HSZ := Lib.hid (str_size s)
  clear hv hW0 c0 c1 hd
  refine (callsIn_wide (n := 0)).1 ?_
  refine callsIn_of_wp_marks Try.func22 rfl trivial ?_ rfl
  simp only [Try.ntmps22, List.size_toArray, List.length_cons, List.length_nil, Nat.reduceAdd, Nat.reduceSub, Array.replicate_succ, Array.replicate_zero, List.push_toArray, List.append_toArray, List.nil_append, List.cons_append]
  gi_wp2_with fail
  rw [← HW.out]
  refine ⟨trivial, rfl, (callsIn_wide.2 hD).mono ?_⟩
  rintro e w1 ⟨rfl, hb1⟩
  clear hD
  have hs1 := hb1.size
  have b1 := b0.trans (hb1.mono b0.size)
  cases d with
  | false =>
    have e1 := HC.out.2.past hb1 (by omega)
    gi_wp2_with fail
    refine ⟨trivial, ?_⟩
    go_at_K
    gi_wp2_with (first | (refine wpi_storeC 4 (.tmp 4) _ rfl rfl (w.heap.size + 1) 0 rfl 4 [_] (.bool false) rfl rfl rfl e1 (by simp) info_bool rfl ?_; intro w7 h7 k7))
    have q3 := h7.cell (j := 0) rfl
    have b9 : Below w.heap.size w w7 := b1.trans (k7.below (fun q hq => by omega) b1.size)
    exact ⟨_, results_cell1 Try.results22 _ ⟨w.heap.size + 1, 0, none⟩ _ _ rfl (run_loadVar_oneb 4 Try.underlying4 _ _ _ q3), IsB.no (fun h => by have := h.1; rw [HDg.out] at this; cases this), b9⟩
  | true =>
    have hds : ∀ b ∈ s, isD b = true := by
      have := HDg.out
      rw [List.all_eq_true] at this
      exact this
    have hC := check_any A n cap F w1 (Row.past HV.out b1) hn
    obtain ⟨c, hc⟩ : ∃ c, chk F n = c := ⟨_, rfl⟩
    rw [hc] at hC
    have HCK := Lib.hid hc
    have HDS := Lib.hid hds
    have cT := (HC.out.1.past hb1 (by omega)).cell (j := 0) rfl
    have step : ∀ (R : Prop), (∀ hz0 : (c == 0) = true, R) → (∀ hz0 : (c == 0) = false, R) → R := fun R h1 h2 => by
      cases hc : (c == 0)
      · exact h2 hc
      · exact h1 hc
    clear hc hds
    refine step _ (fun hz0 => ?_) (fun hz0 => ?_)
    all_goals
      clear step
      gi_wp2_with fail
      refine ⟨trivial, rfl, (callsIn_wide.2 hC).mono ?_⟩
      rintro e w2 ⟨rfl, hb2⟩
      have hb12 := hb1.trans (hb2.mono hs1)
      have hs2 := hb2.size
      have b2 := b0.trans (hb12.mono b0.size)
      clear hC cT
    · have hc0 : c = 0 := eq_of_beq hz0
      have hz1 : (c != 0) = false := by rw [bne, hz0]; rfl
      obtain ⟨⟨⟨E, hT⟩, hVl⟩, h4096⟩ := chk_zero (HCK.out.trans hc0)
      have HT := Lib.hid hT
      have hpos := hT.pos
      obtain ⟨ad, hA, _⟩ := HV.out.at_ hpos
      subst hA
      have hDP := deepest_any ad n cap F E s w2 (Row.past HV.out b2) hT hn HDS.out hl
      obtain ⟨j, m, hdp, hml, hjm, hMx⟩ := dp_spec F HDS.out
      rw [hdp] at hDP
      have HEX : Hid (extP F n s ↔ ext F s) := Lib.hid ⟨fun h => h.2.2, fun h => ⟨HDg.out, HCK.out.trans hc0, h⟩⟩
      have HJM := Lib.hid hjm
      have HMX := Lib.hid hMx
      have k0 := HC.out.1.past hb12 (by omega)
      have k1 := HC.out.2.past hb12 (by omega)
      have cT2 := k0.cell (j := 0) rfl
      clear hT hVl hc0 hdp hjm hMx
      gi_wp2_with fail
      refine ⟨trivial, rfl, (callsIn_wide.2 hDP).mono ?_⟩
      rintro e w3 ⟨rfl, hb3⟩
      have hs3 := hb3.size
      have b3 := b2.trans (hb3.mono b2.size)
      have k03 := k0.past hb3 (by omega)
      have k13 := k1.past hb3 (by omega)
      have cT3 := k03.cell (j := 0) rfl
      clear hDP cT2 k0 k1
      have hsz := HSZ.out
      by_cases hlt : m < s.length
      · have e1 := k13
        have HNX : Hid (¬ extP F n s) := Lib.hid fun h => by
          have h2 := HEX.out.1 h
          cases hn2 : nod F 0 s with
          | none => exact ext_no hn2 h2
          | some i =>
            have := (HMX.out.2 s.length (Nat.le_refl _)).1 ⟨i, by rw [List.take_length]; exact hn2⟩
            omega
        unfold str
        gi_wp2_with (first | (refine wpi_storeC 4 (.tmp 4) _ rfl rfl (w.heap.size + 1) 0 rfl 4 [_] (.bool false) rfl rfl rfl e1 (by simp) info_bool rfl ?_; intro w7 h7 k7))
        have q3 := h7.cell (j := 0) rfl
        have b9 : Below w.heap.size w w7 := b3.trans (k7.below (fun q hq => by omega) b3.size)
        exact ⟨_, results_cell1 Try.results22 _ ⟨w.heap.size + 1, 0, none⟩ _ _ rfl (run_loadVar_oneb 4 Try.underlying4 _ _ _ q3), IsB.no HNX.out, b9⟩
      · obtain rfl : m = s.length := by omega
        have hjs : nod F 0 s = some j := by have := HJM.out; rwa [List.take_length] at this
        have hjn := (nod_lt HT.out HT.out.pos hjs).1
        have HJS := Lib.hid hjs
        clear hjs
        unfold str
        gi_wp2_with fail
        refine ⟨trivial, rfl, (callsIn_wide.2 (stored_any (some ad) n cap (j : Int) _)).mono ?_⟩
        rintro e w4 ⟨rfl, rfl⟩
        obtain ⟨W3, hW3⟩ : ∃ W3, W3 = (w3.alloc (.cells #[.slice (some ad) n cap] 24)).alloc (.cells #[.int .i64 (j : Int)] 3) := ⟨_, rfl⟩
        obtain ⟨g2, hg2⟩ : ∃ g2, g2 = w3.heap.size := ⟨_, rfl⟩
        have hsz3 : W3.heap.size = g2 + 2 := by rw [hW3, hg2]; simp
        have b34 : Below w3.heap.size w3 W3 := by
          rw [hW3]
          exact ((Below.refl _ _).alloc (Nat.le_refl _) _).alloc (by simp) _
        have b4 := b3.trans (b34.mono b3.size)
        have ct : Blk W3 g2 24 [.slice (some ad) n cap] := by
          rw [hW3]; exact (Blk.newAt _ _ [_] _ hg2).alloc _
        have cs : Blk W3 (g2 + 1) 3 [.int .i64 (j : Int)] := by
          rw [hW3]; exact Blk.newAt _ _ [_] _ (by simp [hg2])
        have HW3 := Lib.hid hW3
        have HG2 := Lib.hid hg2
        have hgg : w.heap.size + 2 ≤ g2 := by omega
        have hge : g2 + 2 ≤ W3.heap.size := by omega
        have HK := Lib.hid (And.intro (k03.past b34 (by omega)) (And.intro (k13.past b34 (by omega)) (And.intro ct cs)))
        clear hW3 ct cs k03 k13 cT3 hsz3
        gi_wp2_with fail
        rw [← HW3.out, ← HG2.out]
        clear hg2
        refine wp_rangeV (gf := 52) (lb := #[.pointer (some ⟨g2, 0, none⟩), .pointer (some ⟨g2 + 1, 0, none⟩)]) (T := fun b => b < W3.heap.size ∧ b ≠ w.heap.size + 1) (items := entA F 15 j []) rfl (enters_of Try.func52 (by kernel_rfl) rfl) (fun b h => h.1)
          (fun x hx => by obtain ⟨_, _, rfl⟩ := entA_item hx; rfl) ?hseq (ExI w.heap.size (w.heap.size + 1) w (ent F 15 j [])) (ExX w.heap.size (w.heap.size + 1) w (ent F 15 j [])) (fun b => b = w.heap.size + 1) (fun b hb h => hb.2 h) ?h0 ?hlt ?hI ?hX
          (fun x => { tmps := #[.agg #[.slice (some ad) n cap], .string ⟨s.toArray⟩, .pointer (some ⟨w.heap.size, 0, none⟩), undef, .pointer (some ⟨w.heap.size + 1, 0, none⟩), .int .i64 (j : Int), .int .i64 (s.length : Int), x.getD 0 undef, .string ⟨s.toArray⟩, .bool true, .bool false, .bool false, .agg #[.slice (some ad) n cap], .int .i64 c, .bool false, .bool false, .tuple #[.int .i64 (j : Int), .int .i64 (s.length : Int)], .agg #[.slice (some ad) n cap], .string ⟨s.toArray⟩, .tuple #[.int .i64 (j : Int), .int .i64 (s.length : Int)], .int .i64 (j : Int), .int .i64 (s.length : Int), .int .i64 (s.length : Int), .string ⟨s.toArray⟩, .int .i64 (s.length : Int), .bool false, .agg #[.slice (some ad) n cap], .int .i64 (j : Int), (.func (.func 52) #[] #[.pointer (some ⟨g2, 0, none⟩), .pointer (some ⟨g2 + 1, 0, none⟩)]), x.getD 0 undef, x.getD 1 undef, undef, undef], defers := [] }) ?hassign ?hbody ?hdone ?hstop
        case hseq =>
          intro W4 hb4
          have hb := b4.trans (hb4.mono b4.size)
          have h4 := hb4.size
          refine stored_gives _ _ _ n cap ad F E 15 j W4 ⟨by omega, by omega⟩ (cell_past (HK.out.2.2.2.cell (j := 0) rfl) hb4) (Rd.of HV.out hb hpos ⟨by omega, by omega⟩ (fun b hb => ⟨by omega, by omega⟩) (cell_past (HK.out.2.2.1.cell (j := 0) rfl) hb4)) HT.out hjn (by omega) hn (fun b hb => by omega)
        case h0 =>
          intro W4 hb4 hs4
          exact ⟨fun b => Iff.rfl, HK.out.2.1.past hb4 (by omega), b4.trans (hb4.mono b4.size), fun i x hi => absurd hi (Nat.not_lt_zero _)⟩
        case hlt =>
          rintro M k W4 ⟨hM, h1, h2, h3⟩ b hb
          rw [(hM b).1 hb]; exact h1.lt
        case hI =>
          rintro M k W4 W5 ⟨hM, h1, h2, h3⟩ hk
          exact ⟨hM, h1.keep hk (Or.inl (by omega)), h2.trans (hk.below (fun q hq => Or.inl (by omega)) h2.size), h3⟩
        case hX =>
          rintro W4 W5 ⟨h1, h2, h3⟩ hk
          exact ⟨h1.keep hk (Or.inl (by omega)), h2.trans (hk.below (fun q hq => Or.inl (by omega)) h2.size), h3⟩
        case hassign =>
          intro l' x W4 K hx hK
          obtain ⟨a, i, rfl⟩ := entA_item hx
          gi_wp2
          exact hK
        case hdone =>
          rintro M W4 hs4 ⟨hM, h1, h2, h3⟩ hd
          have hlen : (entA F 15 j []).length = (ent F 15 j []).length := by simp [entA]
          rw [hlen] at h3
          have HNX : Hid (¬ extP F n s) := Lib.hid fun h => by
            obtain ⟨x, hx, hne⟩ := (ext_iff HT.out HJS.out []).2 (HEX.out.1 h)
            obtain ⟨i, hi⟩ := List.mem_iff_getElem?.1 hx
            exact hne (h3 i x (List.getElem?_eq_some_iff.1 hi).1 hi)
          clear h3 hM
          gi_wp2_with (first | (refine wpi_storeC 4 (.tmp 4) _ rfl rfl (w.heap.size + 1) 0 rfl 4 [_] (.bool false) rfl rfl rfl h1 (by simp) info_bool rfl ?_; intro w7 h7 k7; have hd7 := k7.heap (k := W3.heap.size) (by omega) hd))
          show LeavesInM _ _ _ _ _ _ _ _ _
          refine ⟨by simp, .inl ⟨_, _, rfl, run_takeDeferred hd7, ?_⟩⟩
          have hp : ∀ O : Nat → Prop, ¬ O W3.heap.size → Keep O w7 (w7.putObj W3.heap.size (.deferred none)) := fun O hO => Keep.putObj _ _ _ hO
          have q3 := (h7.keep (hp (fun b => b = w.heap.size + 1) (by omega)) rfl).cell (j := 0) rfl
          have b7 : Below w.heap.size w w7 := h2.trans (k7.below (fun q hq => by omega) h2.size)
          have b9 : Below w.heap.size w (w7.putObj W3.heap.size (.deferred none)) := b7.trans ((hp (fun q => q < w.heap.size) (by omega)).below (fun q hq => hq) b7.size)
          exact ⟨_, results_cell1 Try.results22 _ ⟨w.heap.size + 1, 0, none⟩ _ _ rfl (run_loadVar_oneb 4 Try.underlying4 _ _ _ q3), IsB.no HNX.out, b9⟩
        case hstop =>
          rintro W4 hs4 ⟨h1, h2, h3⟩ hd
          have HYX : Hid (extP F n s) := Lib.hid (HEX.out.2 ((ext_iff HT.out HJS.out []).1 h3))
          clear h3
          gi_wp2_with fail
          show LeavesInM _ _ _ _ _ _ _ _ _
          refine ⟨by simp, .inl ⟨_, _, rfl, run_takeDeferred hd, ?_⟩⟩
          have hp : ∀ O : Nat → Prop, ¬ O W3.heap.size → Keep O W4 (W4.putObj W3.heap.size (.deferred none)) := fun O hO => Keep.putObj _ _ _ hO
          have q3 := (h1.keep (hp (fun b => b = w.heap.size + 1) (by omega)) rfl).cell (j := 0) rfl
          have b9 : Below w.heap.size w (W4.putObj W3.heap.size (.deferred none)) := h2.trans ((hp (fun q => q < w.heap.size) (by omega)).below (fun q hq => hq) h2.size)
          exact ⟨_, results_cell1 Try.results22 _ ⟨w.heap.size + 1, 0, none⟩ _ _ rfl (run_loadVar_oneb 4 Try.underlying4 _ _ _ q3), IsB.yes HYX.out, b9⟩
        case hbody =>
          rintro l' M k x W4 hs4 ⟨hM, h1, h2, h3⟩ hx
          obtain ⟨⟨y, v⟩, hy, rfl⟩ := entA_at hx
          have HM := Lib.hid hM
          have H3 := Lib.hid h3
          have HY := Lib.hid hy
          clear hM h3 hx hy
          cases y with
          | nil =>
            unfold str
            gi_wp2_with fail
            refine ⟨M, ⟨HM.out, h1, h2, fun i x hi hx => ?_⟩, fun b hb => Or.inl hb, Keep.refl _ _⟩
            by_cases hik : i = k
            · subst hik
              rw [HY.out] at hx
              injection hx with hx
              rw [← hx]
            · exact H3.out i x (by omega) hx
          | cons y0 y =>
            have hne : ((⟨(y0 :: y).toArray⟩ : ByteArray) == ⟨#[]⟩) = false := by show ((y0 :: y).toArray == (#[] : Array UInt8)) = false; simp
            have hne2 : ((⟨(y0 :: y).toArray⟩ : ByteArray) != ⟨#[]⟩) = true := by rw [bne, hne]; rfl
            obtain ⟨bb, hbb⟩ : ∃ bb : ByteArray, bb = ⟨(y0 :: y).toArray⟩ := ⟨_, rfl⟩
            rw [← hbb] at hne hne2
            unfold str
            simp only []
            rw [← hbb]
            gi_wp2_with (first | (refine wpi_storeC 4 (.tmp 4) _ rfl rfl (w.heap.size + 1) 0 rfl 4 [_] (.bool true) rfl rfl rfl h1 (by simp) info_bool rfl ?_; intro w7 h7 k7))
            exact ⟨⟨h7, h2.trans (k7.below (fun q hq => by omega) h2.size), (y0 :: y, v), List.mem_of_getElem? HY.out, by simp⟩, k7.mono fun b hb => by omega⟩
    · have hz1 : (c != 0) = true := by rw [bne, hz0]; rfl
      have HNX : Hid (¬ extP F n s) := Lib.hid fun h => ne_of_beq_false hz0 (by rw [← HCK.out]; exact h.2.1)
      have e1 := HC.out.2.past hb12 (by omega)
      gi_wp2_with (first | (refine wpi_storeC 4 (.tmp 4) _ rfl rfl (w.heap.size + 1) 0 rfl 4 [_] (.bool false) rfl rfl rfl e1 (by simp) info_bool rfl ?_; intro w7 h7 k7))
      have q3 := h7.cell (j := 0) rfl
      have b9 : Below w.heap.size w w7 := b2.trans (k7.below (fun q hq => by omega) b2.size)
      exact ⟨_, results_cell1 Try.results22 _ ⟨w.heap.size + 1, 0, none⟩ _ _ rfl (run_loadVar_oneb 4 Try.underlying4 _ _ _ q3), IsB.no HNX.out, b9⟩
end Go.Proofs.Ytippbkooaonajaa
