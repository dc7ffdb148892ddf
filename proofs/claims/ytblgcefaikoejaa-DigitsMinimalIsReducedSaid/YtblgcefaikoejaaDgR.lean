/-
  The walk of removeCovered.
-/
import Derived.Test.YtblgcefaikoejaaDgA
import Derived.Test.YtblgcefaikoejaaMps
namespace Go.Proofs.Ytblgcefaikoejaa
open Go.RowKit Go.Maps Dg
set_option linter.unusedVariables false
set_option linter.unusedSimpArgs false

namespace Dg
/-- Some proper prefix of p is in the set. -/
def cvd (K : List Str) (p : Str) : Bool := (List.range p.length).any fun i => decide (p.take i ∈ K)
theorem cvd_iff {K : List Str} {p : Str} : cvd K p = true ↔ ∃ q ∈ K, q <+: p ∧ q ≠ p := by
  unfold cvd
  rw [List.any_eq_true]
  constructor
  · rintro ⟨i, hi, h⟩
    rw [List.mem_range] at hi
    refine ⟨_, of_decide_eq_true h, List.take_prefix _ _, fun e => ?_⟩
    have := congrArg List.length e
    rw [List.length_take] at this
    omega
  · rintro ⟨q, hq, hp, hne⟩
    refine ⟨q.length, ?_, ?_⟩
    · rw [List.mem_range]
      have h1 := hp.length_le
      refine Nat.lt_of_le_of_ne h1 fun e => hne ?_
      obtain ⟨r, rfl⟩ := hp
      have : r = [] := by cases r with
        | nil => rfl
        | cons _ _ => simp at e
      rw [this, List.append_nil]
    · rw [← List.prefix_iff_eq_take.1 hp]; exact decide_eq_true hq
end Dg

theorem heap_mp {w w' : World} {b n : Nat} {K : List Str} (h : Mp w b n K) (he : w'.heap = w.heap) : Mp w' b n K := h.block (by rw [he])
theorem heap_ranges {w w' : World} {b r n : Nat} {D : DataW Unit} {left : Lit → Bool} {cnt : Nat} (h : w.ranges Try.prog 9 isT b r n D left cnt) (he : w'.heap = w.heap) : w'.ranges Try.prog 9 isT b r n D left cnt := by
  unfold World.ranges at h ⊢
  rw [he]
  exact h

set_option maxRecDepth 100000 in
set_option maxHeartbeats 1000000 in
theorem covered_any (b n c : Nat) (K : List Str) (p : Str) (v : Bool) (w : World) (hK : Mp w b n K) (hc : w.cell? ⟨c, 0, none⟩ = some (.map (some b))) (hp : p.length ≤ 1000) :
    Calls Try.prog 48 #[str p, .bool v, .pointer (some ⟨c, 0, none⟩)] w fun e w' => e = .returned (.bool (cvd K p)) ∧ w'.heap = w.heap ∧ Below w.heap.size w w' := by
  obtain ⟨q, hq⟩ : ∃ q, cvd K p = q := ⟨_, rfl⟩
  rw [hq]
  have HQ := Lib.hid hq
  clear hq
  unfold str
  go_enter Try.func48, Try.ntmps48
  go_wp2_with fail
  go_loopw [9] (fun vi wr => ∃ i : Nat, vi = .int .i64 (i : Int) ∧ i ≤ p.length ∧ wr.heap = w.heap ∧ Below w.heap.size w wr ∧ (∀ j, j < i → p.take j ∉ K))
    (fun vi wr => match vi with | .int _ z => p.length - z.toNat | _ => 0)
  case atStart => exact ⟨0, rfl, Nat.zero_le _, rfl, Below.refl _ _, fun j hj => absurd hj (by omega)⟩
  case round =>
    obtain ⟨i, rfl, hi, hh, hb, hn⟩ := hrel
    have hKr := heap_mp hK hh
    have hcr : wr.cell? ⟨c, 0, none⟩ = some (.map (some b)) := by
      have := World.cell?_of_block (w := w) (w' := wr) (a := ⟨c, 0, none⟩) (by rw [hh])
      exact this.trans hc
    have HH := Lib.hid hh
    clear hh hK hc
    by_cases hlt : i < p.length
    · have hKd : Mp wr.drew b n K := heap_mp hKr rfl
      have hl := hKd.look (p.take i) (by rw [List.length_take]; simp only [maxLen]; omega)
      unfold str at hl
      have hcut := str_cut p 0 i
      rw [List.drop_zero] at hcut
      clear hKr hKd
      by_cases hm : p.take i ∈ K
      · rw [decide_eq_true hm] at hl
        have hfin : cvd K p = true := by
          unfold cvd
          rw [List.any_eq_true]
          exact ⟨i, List.mem_range.2 hlt, decide_eq_true hm⟩
        have HF := Lib.hid (HQ.out.symm.trans hfin)
        clear hfin hm hn
        go_wp2_with fail
        go_region
        all_goals go_wp2_with fail
        go_ret
        exact ⟨ret_bool HF.out.symm, HH.out, hb.drew⟩
      · rw [decide_eq_false hm] at hl
        have hn2 : ∀ j, j < i + 1 → p.take j ∉ K := fun j hj => by
          by_cases hji : j < i
          · exact hn j hji
          · have : j = i := by omega
            subst this; exact hm
        clear hm hn
        go_wp2_with fail
        go_region
        all_goals go_wp2_with fail
        go_roundw
        case rel => exact ⟨i + 1, by simp, by omega, HH.out, hb.drew, hn2⟩
        case measure => simp only []; omega
    · go_wp2_with fail
      go_ret
      refine ⟨ret_bool ?_, HH.out, hb⟩
      rw [← HQ.out]
      unfold cvd
      symm
      rw [List.any_eq_false]
      intro j hj
      rw [List.mem_range] at hj
      have := hn j (by omega)
      simpa using this

/-- How far the removal has come: K0 the set at the start, K the set now, left what is still to come. -/
def RemI (K0 K : List Str) (left : Lit → Bool) : Prop :=
  (∀ x ∈ K, x ∈ K0) ∧ (∀ s ∈ K0, ∃ t ∈ K, t <+: s) ∧ ∀ x ∈ K, left (.string x) = false → ∀ q ∈ K, q <+: x → q = x

theorem RemI.stays {K0 K : List Str} {left : Lit → Bool} (h : RemI K0 K left) {x : Str} (hx : cvd K x = false) : RemI K0 K (fun z => left z && !z.sameKey (.string x)) := by
  obtain ⟨h1, h2, h3⟩ := h
  refine ⟨h1, h2, fun y hy hl q hq hp => ?_⟩
  by_cases hxy : y = x
  · subst hxy
    refine Classical.byContradiction fun hne => ?_
    rw [cvd_iff.2 ⟨q, hq, hp, hne⟩] at hx
    cases hx
  · refine h3 y hy ?_ q hq hp
    have hl2 : (left (.string y) && !(Lit.string y).sameKey (.string x)) = false := hl
    rw [sameKey_ne (by simpa using hxy)] at hl2
    simpa using hl2

theorem RemI.struck {K0 K : List Str} {left : Lit → Bool} (h : RemI K0 K left) (hn : K.Nodup) {x : Str} (hx : cvd K x = true) : RemI K0 (K.erase x) (fun z => left z && !z.sameKey (.string x)) := by
  obtain ⟨h1, h2, h3⟩ := h
  have sub : ∀ y ∈ K.erase x, y ∈ K := fun y hy => List.mem_of_mem_erase hy
  refine ⟨fun y hy => h1 y (sub y hy), fun s hs => ?_, fun y hy hl q hq hp => ?_⟩
  · obtain ⟨t, ht, hp⟩ := h2 s hs
    by_cases htx : t = x
    · subst htx
      obtain ⟨q, hq, hqp, hne⟩ := cvd_iff.1 hx
      exact ⟨q, (hn.mem_erase_iff).2 ⟨hne, hq⟩, hqp.trans hp⟩
    · exact ⟨t, (hn.mem_erase_iff).2 ⟨htx, ht⟩, hp⟩
  · have hyx : y ≠ x := ((hn.mem_erase_iff).1 hy).1
    refine h3 y (sub y hy) ?_ q (sub q hq) hp
    have hl2 : (left (.string y) && !(Lit.string y).sameKey (.string x)) = false := hl
    rw [sameKey_ne (by simpa using hyx)] at hl2
    simpa using hl2

set_option maxRecDepth 100000 in
set_option maxHeartbeats 1600000 in
theorem deleteFunc_any (b n c : Nat) (K0 : List Str) (w : World) (hK : Mp w b n K0) (hc : w.cell? ⟨c, 0, none⟩ = some (.map (some b))) (hcb : c ≠ b) (hs : ∀ x ∈ K0, x.length ≤ 1000) :
    Calls Try.prog 49 #[.map (some b), .func (.func 48) #[] #[.pointer (some ⟨c, 0, none⟩)]] w fun e w' =>
      e = .returned (.tuple #[]) ∧ w.grownBy w' (some b) ∧ ∃ K, Mp w' b n K ∧ (∀ x ∈ K, x ∈ K0) ∧ (∀ s ∈ K0, ∃ t ∈ K, t <+: s) ∧ Anti K := by
  obtain ⟨D0, hown, hi0⟩ := hK
  go_enter Try.func49, Try.ntmps49
  go_wp2_with (first
    | (at_range; refine wpList_range_own _ rfl _ 46 rfl 9 4 law Try.underlying46 _ b n _ rfl hown ?_; intro w0 hrg0 hg0 hs0)
    | go_in)
  go_frame
  have hcl : c < w.heap.size := by
    obtain ⟨o, ho, _⟩ := cells_of_cell hc
    exact (Array.getElem?_eq_some_iff.1 ho).1
  go_loopw [4, 5] (fun _ _ wr => ∃ (D : DataW Unit) (K : List Str) (left : Lit → Bool) (cnt : Nat), wr.ranges Try.prog 9 isT b w.heap.size n D left cnt ∧ Is D K ∧ RemI K0 K left ∧ w.grownBy wr (some b) ∧ wr.cell? ⟨c, 0, none⟩ = some (.map (some b)))
    (fun _ _ wr => wr.rangeLeft b w.heap.size)
  case atStart =>
    refine ⟨D0, K0, _, _, hrg0, hi0, ⟨fun x hx => hx, fun s hs => ⟨s, hs, List.prefix_refl _⟩, fun x hx hl => ?_⟩, hg0.but _, ?_⟩
    · rw [(hi0.1 x).1 hx] at hl; cases hl
    · exact (World.cell?_of_block (w := w) (w' := w0) (a := ⟨c, 0, none⟩) (hg0.block c hcl (by simp))).trans hc
  case round =>
    obtain ⟨D, K, left, cnt, hrg, hi, hrem, hgw, hcw⟩ := hrel
    go_wp2_with (first
      | (at_next; refine wpList_next_ranges _ rfl _ rfl 9 law isT encStr (fun _ : Unit => Value.bool true) (fun key kl hk => by obtain ⟨x, hx, _⟩ := Maps.keyOf_str Try.underlying9 hk; exact ⟨x, hx⟩) (fun v y hv => ⟨(), isT_inv hv⟩) b w.heap.size n _ _ _ rfl hrg ?_ ?_)
      | go_in)
    · intro _ hl0
      go_wp2
      go_end0
      exact ⟨rfl, hgw, K, ⟨D, hrg.owns, hi⟩, hrem.1, hrem.2.1, fun p hp q hq hpq => hrem.2.2 q hq (hl0 _) p hp hpq⟩
    · intro x kl yd yp w1 cnt1 hkey hlk hv hat hrg1 hlt hg1 hs1 hen
      obtain ⟨x', ex, rfl, hxl⟩ := Maps.keyOf_str Try.underlying9 hkey
      obtain rfl : x = x' := encStr_inj ex
      have hgw1 := hgw.andThen hg1 (fun j hj => by cases hj; exact Or.inl (Nat.le_refl _))
      have hcw1 : w1.cell? ⟨c, 0, none⟩ = some (.map (some b)) := (World.cell?_of_block (w := w) (w' := w1) (a := ⟨c, 0, none⟩) (hgw1.block c hcl (by simpa using hcb))).trans hc
      have hM1 : Mp w1 b n K := ⟨D, hrg1.owns, hi⟩
      have hxK : x ∈ K := (hi.1 x).2 (has_true_of_atKey hat)
      have hcv := covered_any b n c K x true w1 hM1 hcw1 (hs x (hrem.1 x hxK))
      clear hs1 ex
      have hcvR : ∀ w2 : World, w2.heap = w1.heap → Below w1.heap.size w1 w2 → w.grownBy w2 (some b) := fun w2 hh2 hb2 =>
        hgw1.andThen (c := w2) (row' := none) ⟨hb2.os, hb2.tape, hb2.output, by rw [hh2]; exact Nat.le_refl _, fun i hi _ => by rw [hh2]⟩ (fun j hj => by cases hj)
      cases hq : cvd K x
      · rw [hq] at hcv
        have HR := Lib.hid (hrem.stays hq)
        clear hq
        go_wp2_with fail
        refine hcv.mono ?_
        rintro e w2 ⟨rfl, hh2, hb2⟩
        have hg2 := hcvR w2 hh2 hb2
        have hrg2 := heap_ranges hrg1 hh2
        have hcw2 : w2.cell? ⟨c, 0, none⟩ = some (.map (some b)) := (World.cell?_of_block (w := w) (w' := w2) (a := ⟨c, 0, none⟩) (hg2.block c hcl (by simpa using hcb))).trans hc
        clear hh2 hcv
        go_wp2_with fail
        go_roundw
        case rel => exact ⟨D, K, _, _, hrg2, hi, HR.out, hg2, hcw2⟩
        case measure => rw [hrg2.left_eq, hrg.left_eq]; exact hlt
      · rw [hq] at hcv
        have HR := Lib.hid (hrem.struck hi.2.1 hq)
        clear hq
        go_wp2_with fail
        refine hcv.mono ?_
        rintro e w2 ⟨rfl, hh2, hb2⟩
        have hg2 := hcvR w2 hh2 hb2
        have hrg2 := heap_ranges hrg1 hh2
        clear hh2 hcv
        go_wp2_with (first
          | (at_delete; refine wpList_delete_ranges _ rfl _ _ 46 9 rfl 4 law Try.underlying46 _ b w.heap.size n _ _ _ rfl hrg2 _ _ rfl hkey ?_; intro w3 cnt2 hrg3 hle hturn; go_frame)
          | go_in)
        rw [strike_twice] at hrg3
        have hg3 := hg2.andThen hturn.grown (fun j hj => by cases hj; exact Or.inr rfl)
        have hcw3 : w3.cell? ⟨c, 0, none⟩ = some (.map (some b)) := (World.cell?_of_block (w := w) (w' := w3) (a := ⟨c, 0, none⟩) (hg3.block c hcl (by simpa using hcb))).trans hc
        go_roundw
        case rel => exact ⟨_, _, _, cnt2, hrg3, hi.del (hrg2.owns.tidy law) x, HR.out, hg3, hcw3⟩
        case measure => rw [hrg3.left_eq, hrg.left_eq]; omega

set_option maxRecDepth 100000 in
theorem removeCovered_any (b n : Nat) (K0 : List Str) (w : World) (hK : Mp w b n K0) (hs : ∀ x ∈ K0, x.length ≤ 1000) :
    Calls Try.prog 34 #[.map (some b)] w fun e w' =>
      e = .returned (.tuple #[]) ∧ w.grownBy w' (some b) ∧ ∃ K, Mp w' b n K ∧ (∀ x ∈ K, x ∈ K0) ∧ (∀ s ∈ K0, ∃ t ∈ K, t <+: s) ∧ Anti K := by
  have hbl := hK.lt
  have hb1 : Below w.heap.size w (w.alloc (.cells #[.map (some b)] 46)) := (Below.refl _ _).alloc (Nat.le_refl _) _
  have hK1 := hK.past hb1 hbl
  have hc1 : (w.alloc (.cells #[.map (some b)] 46)).cell? ⟨w.heap.size, 0, none⟩ = some (.map (some b)) := by
    rw [cell_of_row _ _ 0 _ _ _ (heap_alloc_new _ _)]; rfl
  have hc := deleteFunc_any b n w.heap.size K0 _ hK1 hc1 (by omega) hs
  clear hK hK1
  go_enter Try.func34, Try.ntmps34
  go_wp2_with fail
  refine hc.mono ?_
  rintro e w2 ⟨rfl, hg, hr⟩
  have HG := Lib.hid hg
  have HR := Lib.hid hr
  clear hg hr hc
  go_wp2_with fail
  go_end0
  exact ⟨rfl, (World.grownBy_alloc w _ (some b)).andThen HG.out (fun j hj => by cases hj; exact Or.inr rfl), HR.out⟩

end Go.Proofs.Ytblgcefaikoejaa
