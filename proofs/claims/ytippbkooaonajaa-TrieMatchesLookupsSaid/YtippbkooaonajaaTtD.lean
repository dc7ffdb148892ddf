/-
  Package trie: values, Check, checkPrefix.
-/
import Derived.Test.YtippbkooaonajaaTtC
namespace Go.Proofs.Ytippbkooaonajaa
open Go.RowKit Dg Tr
set_option linter.unusedVariables false
set_option linter.unusedSimpArgs false

def badv (v : Int) : Bool := decide (v < 0) || decide (1099511627776 < v)
set_option maxRecDepth 100000 in
theorem hasBad_any (nl : List Value) (v : Int) (w : World) (hl : nl.length = 11) (hv : nl[10]? = some (.int .i64 v)) :
    Calls Try.prog 42 #[.agg nl.toArray] w fun e w' => e = .returned (.bool (badv v)) ∧ Below w.heap.size w w' := by
  have k0 : Blk (w.alloc (.cells nl.toArray 59)) w.heap.size 59 nl := Blk.new _ _ _
  have b0 : Below w.heap.size w (w.alloc (.cells nl.toArray 59)) := (Below.refl _ _).alloc (Nat.le_refl _) _
  have c0 := k0.cell (j := 10) hv
  obtain ⟨W0, hW0⟩ : ∃ W, W = w.alloc (.cells nl.toArray 59) := ⟨_, rfl⟩
  rw [← hW0] at c0 b0
  have HW := Lib.hid hW0
  clear hW0 k0 hl hv
  unfold badv
  by_cases h1 : v < 0
  · have hb : decide (v < 0) = true := decide_eq_true h1
    rw [hb, Bool.true_or]
    go_enter Try.func42, Try.ntmps42
    go_upto_region 1 with (fail)
    rw [← HW.out]
    go_wp2_with fail
    go_ret
    exact ⟨rfl, b0⟩
  · have hb : decide (v < 0) = false := decide_eq_false h1
    rw [hb, Bool.false_or]
    go_enter Try.func42, Try.ntmps42
    go_upto_region 1 with (fail)
    rw [← HW.out]
    go_wp2_with fail
    go_ret
    exact ⟨rfl, b0⟩

/-- Node i of a slice, whole. -/
theorem Nds.node {w W : World} {n cap i : Nat} {ad : Addr} {F : List Int} (h : Nds w w.heap.size n (.slice (some ad) n cap) F) (hb : Below w.heap.size w W) (hi : i < n) :
    ∃ q nl, q = ad.add (i * 11) ∧ q.block < w.heap.size ∧ nl = ints (ndc F i) ∧ nl.length = 11 ∧ (∀ j u, nl[j]? = some u → W.cell? (q.add j) = some u) ∧ nl[10]? = some (.int .i64 (vl F i)) := by
  obtain ⟨ad', e, hab, hac⟩ := h.at_ (by omega)
  injection e with e
  subst e
  refine ⟨_, _, rfl, by rw [add_block]; exact hab, rfl, ints_len11 F i, ndc_cells fun j hj => (hb.cell (by rw [add_block, add_block]; exact hab)).trans (hac i hi j hj), ndc_get F i 10 (by omega)⟩

set_option maxRecDepth 100000 in
set_option maxHeartbeats 1000000 in
theorem indexBad_any (ad : Addr) (n cap : Nat) (F : List Int) (w : World) (hv : Nds w w.heap.size n (.slice (some ad) n cap) F) (hn : n ≤ 10000) :
    Calls Try.prog 48 #[.slice (some ad) n cap, .func (.func 42) #[] #[]] w fun e w' => (∃ r : Int, e = .returned (.int .i64 r) ∧ (0 ≤ r ↔ ¬ Vals F n)) ∧ Below w.heap.size w w' := by
  have HV := Lib.hid hv
  clear hv
  go_enter Try.func48, Try.ntmps48
  go_wp2_with fail
  go_loopw [8] (fun vi wr => ∃ i : Nat, vi = .int .i64 (i : Int) ∧ i ≤ n ∧ (∀ j, j < i → badv (vl F j) = false) ∧ Below w.heap.size w wr)
    (fun vi wr => ixn n vi)
  case atStart => exact ⟨0, rfl, Nat.zero_le _, fun j hj => absurd hj (Nat.not_lt_zero _), Below.refl _ _⟩
  case round =>
    obtain ⟨i, rfl, hin', hall, hbw⟩ := hrel
    have HA := Lib.hid hall
    clear hall
    by_cases hin : i < n
    · obtain ⟨q, nl, hqe, hqb, hnl, hnl11, hq, hv10⟩ := HV.out.node hbw hin
      have hc := hasBad_any nl (vl F i) wr hnl11 hv10
      have HQE := Lib.hid hqe
      have HQ := Lib.hid hq
      have HN11 := Lib.hid hnl11
      clear hqe hq hnl11 hnl hv10
      cases hbv : badv (vl F i)
      · rw [hbv] at hc
        have HB := Lib.hid hbv
        clear hbv
        go_wp2_with (first | (refine wp_run rfl (exec_ixS 22 59 11 Try.underlying22 info_node _ rfl rfl .i64 (i : Int) i rfl rfl hin HQE.out) ?_) | (refine wp_run rfl (exec_loadPS 59 rfl q rfl nl _ HQ.out Try.underlying59 (by rw [info_node, HN11.out])) ?_))
        refine hc.mono ?_
        rintro e w1 ⟨rfl, hb1⟩
        clear hc HQ
        go_wp2_with fail
        go_roundw
        case measure => show n - ((i : Int) + 1).toNat < n - ((i : Int)).toNat; omega
        case rel =>
          refine ⟨i + 1, by simp, by omega, fun j hj => ?_, hbw.trans (hb1.mono hbw.size)⟩
          by_cases hji : j = i
          · subst hji; exact HB.out
          · exact HA.out j (by omega)
      · rw [hbv] at hc
        have HB := Lib.hid hbv
        clear hbv
        go_wp2_with (first | (refine wp_run rfl (exec_ixS 22 59 11 Try.underlying22 info_node _ rfl rfl .i64 (i : Int) i rfl rfl hin HQE.out) ?_) | (refine wp_run rfl (exec_loadPS 59 rfl q rfl nl _ HQ.out Try.underlying59 (by rw [info_node, HN11.out])) ?_))
        refine hc.mono ?_
        rintro e w1 ⟨rfl, hb1⟩
        clear hc HQ
        go_wp2_with fail
        go_ret
        refine ⟨⟨_, rfl, ⟨fun _ hV => ?_, fun _ => by omega⟩⟩, hbw.trans (hb1.mono hbw.size)⟩
        have h1 := hV i hin
        have h2 := HB.out
        unfold badv at h2
        simp only [Bool.or_eq_true, decide_eq_true_eq] at h2
        omega
    · obtain rfl : i = n := by omega
      go_wp2_with fail
      go_ret
      refine ⟨⟨_, rfl, ⟨fun h => absurd h (by decide), fun h => absurd (fun j hj => ?_) h⟩⟩, hbw⟩
      have h2 := HA.out j hj
      unfold badv at h2
      simp only [Bool.or_eq_false_iff, decide_eq_false_iff_not] at h2
      omega

set_option maxRecDepth 100000 in
theorem containsBad_any (ad : Addr) (n cap : Nat) (F : List Int) (w : World) (hv : Nds w w.heap.size n (.slice (some ad) n cap) F) (hn : n ≤ 10000) :
    Calls Try.prog 41 #[.slice (some ad) n cap, .func (.func 42) #[] #[]] w fun e w' => IsB (¬ Vals F n) e ∧ Below w.heap.size w w' := by
  have hc := indexBad_any ad n cap F w hv hn
  clear hv
  go_enter Try.func41, Try.ntmps41
  go_wp2_with fail
  refine hc.mono ?_
  rintro e w1 ⟨⟨r, rfl, hr⟩, hb1⟩
  have HR := Lib.hid hr
  clear hr hc
  go_wp2_with fail
  go_ret
  refine ⟨⟨decide (0 ≤ r), rfl, ?_⟩, hb1⟩
  rw [decide_eq_true_eq]; exact HR.out

open Classical in
/-- What Check answers. -/
noncomputable def chk (F : List Int) (n : Nat) : Int := if 4096 < n then 2 else if Ok F n then 0 else 1
theorem chk_cases (F : List Int) (n : Nat) : (4096 < n ∧ chk F n = 2) ∨ (n ≤ 4096 ∧ Ok F n ∧ chk F n = 0) ∨ (n ≤ 4096 ∧ ¬ Ok F n ∧ chk F n = 1) := by
  unfold chk
  by_cases h : 4096 < n
  · left; exact ⟨h, by rw [if_pos h]⟩
  · right
    by_cases h2 : Ok F n
    · left; exact ⟨by omega, h2, by rw [if_neg h, if_pos h2]⟩
    · right; exact ⟨by omega, h2, by rw [if_neg h, if_neg h2]⟩
theorem chk_ok {F : List Int} {n : Nat} (h : Ok F n) (hn : n ≤ 4096) : chk F n = 0 := by
  rcases chk_cases F n with ⟨h1, _⟩ | ⟨_, _, h2⟩ | ⟨_, h2, _⟩
  · omega
  · exact h2
  · exact absurd h h2
theorem chk_zero {F : List Int} {n : Nat} (h : chk F n = 0) : Ok F n ∧ n ≤ 4096 := by
  rcases chk_cases F n with ⟨_, h1⟩ | ⟨h1, h2, _⟩ | ⟨_, _, h1⟩
  · omega
  · exact ⟨h2, h1⟩
  · omega

set_option maxRecDepth 100000 in
set_option maxHeartbeats 1000000 in
theorem check_any (A : Option Addr) (n cap : Nat) (F : List Int) (w : World) (hv : Nds w w.heap.size n (.slice A n cap) F) (hn : n ≤ 10000) :
    Calls Try.prog 17 #[.agg #[.slice A n cap]] w fun e w' => e = .returned (.int .i64 (chk F n)) ∧ Below w.heap.size w w' := by
  have k0 : Blk (w.alloc (.cells #[.slice A n cap] 24)) w.heap.size 24 [.slice A n cap] := Blk.new _ _ _
  have b0 : Below w.heap.size w (w.alloc (.cells #[.slice A n cap] 24)) := (Below.refl _ _).alloc (Nat.le_refl _) _
  obtain ⟨W0, hW0⟩ : ∃ W, W = w.alloc (.cells #[.slice A n cap] 24) := ⟨_, rfl⟩
  rw [← hW0] at k0 b0
  have hv0 : Nds W0 W0.heap.size n (.slice A n cap) F := Row.past hv b0
  have hT := isTree_any A n cap F W0 hv0 hn
  have hz : n = 0 → ¬ ∃ E, Tree F n E := fun h ⟨E, h2⟩ => by have := h2.pos; omega
  have HC := Lib.hid (chk_cases F n)
  have HZ := Lib.hid hz
  obtain ⟨c, hc⟩ : ∃ c, chk F n = c := ⟨_, rfl⟩
  rw [hc] at HC ⊢
  have hlt0 := k0.lt
  have c0 := k0.cell (j := 0) rfl
  have HV := Lib.hid hv0
  have HW := Lib.hid hW0
  clear hc hz hv hv0 hW0
  by_cases hbig : 4096 < n
  · have hc2 : c = 2 := by
      rcases HC.out with ⟨_, h⟩ | ⟨h, _⟩ | ⟨h, _⟩
      · exact h
      · omega
      · omega
    clear hT
    go_enter Try.func17, Try.ntmps17
    go_upto_region 1 with (fail)
    rw [← HW.out]
    go_wp2_with fail
    go_ret
    exact ⟨by rw [hc2]; rfl, b0⟩
  · go_enter Try.func17, Try.ntmps17
    go_upto_region 1 with (fail)
    rw [← HW.out]
    go_wp2_with fail
    refine hT.mono ?_
    rintro e w1 ⟨⟨r, rfl, hr⟩, hb1⟩
    have HR := Lib.hid hr
    clear hT hr
    have c1 := (hb1.cell (p := ⟨w.heap.size, 0, none⟩) hlt0).trans c0
    have b1 := b0.trans (hb1.mono b0.size)
    cases r with
    | false =>
      have hc1 : c = 1 := by
        rcases HC.out with ⟨h, _⟩ | ⟨_, h, _⟩ | ⟨_, _, h⟩
        · omega
        · exact absurd (HR.out.2 h.1) (by decide)
        · exact h
      go_wp2_with fail
      go_ret
      exact ⟨by rw [hc1]; rfl, b1⟩
    | true =>
      have hT := HR.out.1 rfl
      have hA : ∃ ad, A = some ad := by
        obtain ⟨ad, h, _⟩ := HV.out.at_ (by obtain ⟨E, h⟩ := hT; exact h.pos)
        exact ⟨ad, h⟩
      have HT := Lib.hid hT
      obtain ⟨ad, rfl⟩ := hA
      have hB := containsBad_any ad n cap F w1 (Row.past HV.out hb1) (by omega)
      clear hT c0
      go_wp2_with fail
      refine hB.mono ?_
      rintro e w2 ⟨⟨r, rfl, hr⟩, hb2⟩
      have HR2 := Lib.hid hr
      have b2 := b1.trans (hb2.mono b1.size)
      clear hB hr c1
      cases r with
      | true =>
        have hc1 : c = 1 := by
          rcases HC.out with ⟨h, _⟩ | ⟨_, h, _⟩ | ⟨_, _, h⟩
          · omega
          · exact absurd h.2 (HR2.out.1 rfl)
          · exact h
        go_wp2_with fail
        go_ret
        exact ⟨by rw [hc1]; rfl, b2⟩
      | false =>
        have hc1 : c = 0 := by
          rcases HC.out with ⟨h, _⟩ | ⟨_, _, h⟩ | ⟨_, h, _⟩
          · omega
          · exact h
          · exact absurd ⟨HT.out, Classical.byContradiction fun hx => by have := HR2.out.2 hx; cases this⟩ h
        go_wp2_with fail
        go_ret
        exact ⟨by rw [hc1]; rfl, b2⟩

/-- What checkPrefix answers. -/
noncomputable def chp (F : List Int) (n : Nat) (s : Str) : Int := if chk F n ≠ 0 then chk F n else if (decide (s.length ≤ 15) && s.all isD) = true then 0 else 60
set_option maxRecDepth 100000 in
theorem checkPrefix_any (A : Option Addr) (n cap : Nat) (F : List Int) (s : Str) (w : World) (hv : Nds w w.heap.size n (.slice A n cap) F) (hn : n ≤ 10000) (hs : s.length ≤ 1000) :
    Calls Try.prog 33 #[.agg #[.slice A n cap], str s] w fun e w' => e = .returned (.int .i64 (chp F n s)) ∧ Below w.heap.size w w' := by
  have b0 : Below w.heap.size w (w.alloc (.cells #[.slice A n cap] 24)) := (Below.refl _ _).alloc (Nat.le_refl _) _
  have k0 : Blk (w.alloc (.cells #[.slice A n cap] 24)) w.heap.size 24 [.slice A n cap] := Blk.new _ _ _
  obtain ⟨W0, hW0⟩ : ∃ W, W = w.alloc (.cells #[.slice A n cap] 24) := ⟨_, rfl⟩
  rw [← hW0] at b0 k0
  have hC := check_any A n cap F W0 (Row.past hv b0) hn
  have HC : Hid (chp F n s = if chk F n ≠ 0 then chk F n else if (decide (s.length ≤ 15) && s.all isD) = true then 0 else 60) := Lib.hid rfl
  obtain ⟨c, hc⟩ : ∃ c, chk F n = c := ⟨_, rfl⟩
  obtain ⟨r, hr⟩ : ∃ r, chp F n s = r := ⟨_, rfl⟩
  rw [hc, hr] at HC
  rw [hc] at hC
  rw [hr]
  have c0 := k0.cell (j := 0) rfl
  have HW := Lib.hid hW0
  clear hv hW0 hc hr
  have hsz := str_size s
  have HSZ := Lib.hid hsz
  have step : ∀ (R : Prop), (∀ hz0 : (c == 0) = true, R) → (∀ hz0 : (c == 0) = false, R) → R := fun R h1 h2 => by
    cases hc : (c == 0)
    · exact h2 hc
    · exact h1 hc
  clear hsz
  unfold str
  refine step _ (fun hz0 => ?_) (fun hz0 => ?_)
  all_goals
    clear step
    go_enter Try.func33, Try.ntmps33
    go_upto_region 1 with (fail)
    rw [← HW.out]
    go_upto_region 2 with (fail)
    refine hC.mono ?_
    rintro e w1 ⟨rfl, hb1⟩
    have b1 := b0.trans (hb1.mono b0.size)
    clear hC c0 k0
  · have hc0 : c = 0 := eq_of_beq hz0
    have hz1 : (c != 0) = false := by rw [bne, hz0]; rfl
    by_cases hl : s.length ≤ 15
    · have hD := isDigits_any s w1 (by simp only [maxLen]; omega)
      unfold str at hD
      obtain ⟨b, hb⟩ : ∃ b, s.all isD = b := ⟨_, rfl⟩
      have HC2 : Hid (r = if b = true then 0 else 60) := Lib.hid (by rw [HC.out, hc0, decide_eq_true hl, hb]; simp)
      rw [hb] at hD
      clear hb hc0
      go_wp2_with fail
      refine hD.mono ?_
      rintro e w2 ⟨rfl, hb2⟩
      have b2 := b1.trans (hb2.mono b1.size)
      clear hD
      cases b with
      | true =>
        go_wp2_with fail
        go_ret
        exact ⟨by rw [HC2.out]; rfl, b2⟩
      | false =>
        go_wp2_with fail
        go_ret
        exact ⟨by rw [HC2.out]; rfl, b2⟩
    · have HC2 : Hid (r = 60) := Lib.hid (by rw [HC.out, hc0, decide_eq_false hl]; simp)
      clear hc0
      go_wp2_with fail
      go_ret
      exact ⟨by rw [HC2.out]; rfl, b1⟩
  · have hc0 : c ≠ 0 := ne_of_beq_false hz0
    have hz1 : (c != 0) = true := by rw [bne, hz0]; rfl
    have HC2 : Hid (r = c) := Lib.hid (by rw [HC.out, if_pos hc0])
    clear hc0
    go_wp2_with fail
    go_ret
    exact ⟨by rw [HC2.out]; rfl, b1⟩
end Go.Proofs.Ytippbkooaonajaa
