/-
  The iterators of package hdlc.
-/
import Derived.Test.YtokjlcajcflhgaaHdC
import Derived.Test.YtokjlcajcflhgaaRng
namespace Go.Proofs.Ytokjlcajcflhgaa
open Go.RowKit
attribute [local go_sem] Oper.semAt_some
set_option linter.unusedVariables false
set_option linter.unusedSimpArgs false

/-- An item that lies in the memory of the slice that is cut. -/
def ItemC (n0 : Nat) (B : Nat) (w : World) (v : Value) (x : List UInt8) : Prop := Bs w n0 v x

theorem behind_form (A : Option Addr) (cap : Nat) (l : List UInt8) (k : Nat) : ∃ A' cap', behind A l.length cap k = .slice A' (l.drop k).length cap' := by
  refine ⟨if cap = k then A else A.map (·.add k), cap - k, ?_⟩
  unfold behind
  rw [List.length_drop]

/-- The measure of the loop over the rest. -/
def cms (vr fo : Value) : Nat := match fo, vr with | .bool true, .slice _ n _ => n + 1 | _, _ => 0

theorem callCut_yes (m : Nat) (A : Option Addr) (cap : Nat) (l : List UInt8) (S : Addr) (c2 : Nat) (w : World) (B : Nat) (hv : Bs w B (.slice A l.length cap) l) (hs : w.cell? S = some (.int .u8 126)) (hl : l.length ≤ 1000000000) (hf : fi l < l.length) :
    CallsIn Fence.wide m Try.prog 52 #[.slice A l.length cap, .slice (some S) 1 c2] w fun e w' => ∃ A' cap' n, e = .returned (.tuple #[.slice A (fi l) cap, .slice A' (l.drop (fi l + 1)).length cap', .bool true]) ∧
      w' = w.drewN n ∧ Bs w B (.slice A' (l.drop (fi l + 1)).length cap') (l.drop (fi l + 1)) := by
  refine callsIn_wide.2 ((cut_yes A cap l S c2 w B hv hs hl hf).mono ?_)
  rintro e w' ⟨rfl, n, rfl⟩
  obtain ⟨A', cap', h⟩ := behind_form A cap l (fi l + 1)
  have h2 := hv.behind (fi l + 1) (by omega)
  rw [h] at h2
  exact ⟨A', cap', n, by rw [h], rfl, h2⟩

theorem callCut_no (m : Nat) (A : Option Addr) (cap : Nat) (l : List UInt8) (S : Addr) (c2 : Nat) (w : World) (B : Nat) (hv : Bs w B (.slice A l.length cap) l) (hs : w.cell? S = some (.int .u8 126)) (hf : ¬ fi l < l.length) :
    CallsIn Fence.wide m Try.prog 52 #[.slice A l.length cap, .slice (some S) 1 c2] w fun e w' => e = .returned (.tuple #[.slice A l.length cap, .slice none 0 0, .bool false]) ∧ w = w' :=
  callsIn_wide.2 (cut_no A cap l S c2 w B hv hs hf)

set_option maxRecDepth 100000 in
set_option maxHeartbeats 1000000 in
theorem contents_gives (n0 bb : Nat) (A : Option Addr) (cap : Nat) (b : List UInt8) (W : World) (hn0 : n0 ≤ W.heap.size) (hbox : W.cell? ⟨bb, 0, none⟩ = some (.slice A b.length cap)) (hv : Bs W n0 (.slice A b.length cap) b) (hl : b.length ≤ 1000000000) :
    Gives Try.prog 51 #[.pointer (some ⟨bb, 0, none⟩)] (ItemC n0) (cont b) n0 W := by
  intro l J h1 h2 h3
  refine callsIn_of_wp Try.func51 rfl trivial ?_ rfl
  simp only [Try.ntmps51, List.size_toArray, List.length_cons, List.length_nil, Nat.reduceAdd, Nat.reduceSub, Array.replicate_succ, Array.replicate_zero, List.push_toArray, List.append_toArray, List.nil_append, List.cons_append]
  have hb1 : Below W.heap.size W (W.alloc (.cells #[.int .u8 126] 5)) := (Below.refl _ _).alloc (Nat.le_refl _) _
  have hsep : (W.alloc (.cells #[.int .u8 126] 5)).cell? ⟨W.heap.size, 0, none⟩ = some (.int .u8 126) := by
    rw [cell_of_row _ _ 0 _ _ _ (heap_alloc_new _ _)]; rfl
  have hv1 : Bs (W.alloc (.cells #[.int .u8 126] 5)) n0 (.slice A b.length cap) b := hv.carry (hb1.mono hn0) (Nat.le_refl _)
  have hbox1 : (W.alloc (.cells #[.int .u8 126] 5)).cell? ⟨bb, 0, none⟩ = some (.slice A b.length cap) := cell_past hbox hb1
  by_cases hf : fi b < b.length
  · have HC := Lib.hid (show cont b = cts [] (b.drop (fi b + 1)) by rw [cont_fi, if_pos hf])
    gi_wp2_with fail
    refine ⟨trivial, rfl, (callCut_yes _ A cap b _ _ _ n0 hv1 hsep hl hf).mono ?_⟩
    rintro e w1 ⟨A1, cap1, n1, rfl, hw1, hv2⟩
    have hbw : Below W.heap.size W w1 := by rw [hw1]; exact below_drewN hb1 n1
    have hsep1 : w1.cell? ⟨W.heap.size, 0, none⟩ = some (.int .u8 126) := by rw [hw1]; exact hsep
    have hsW : W.heap.size < w1.heap.size := by rw [hw1]; show W.heap.size < (W.alloc _).heap.size; simp
    have hv3 : Bs w1 n0 (.slice A1 (b.drop (fi b + 1)).length cap1) (b.drop (fi b + 1)) := by rw [hw1]; exact hv2.drewN n1
    have hJ := h1 w1 hbw
    obtain ⟨r1, hr1⟩ : ∃ r, r = b.drop (fi b + 1) := ⟨_, rfl⟩
    have hrl : r1.length ≤ 1000000000 := by rw [hr1, List.length_drop]; omega
    rw [← hr1] at hv3 ⊢
    have HR := Lib.hid (show cts [] r1 = (cont b).drop 0 by rw [HC.out, hr1]; rfl)
    clear hr1 hv2 hv1 hv hbox hbox1 hsep hb1 hw1
    obtain ⟨BB, hBB⟩ : ∃ B, B = w1.heap.size := ⟨_, rfl⟩
    rw [← hBB] at hJ hsW
    have HB := Lib.hid hBB
    have hB1 : BB ≤ w1.heap.size := by omega
    clear hBB
    gi_wp2_with fail
    gi_loopw [5, 6] (fun vr fo wr => ∃ j : Nat, j ≤ (cont b).length ∧ J BB j wr ∧ BB ≤ wr.heap.size ∧ n0 ≤ wr.heap.size ∧ wr.cell? ⟨W.heap.size, 0, none⟩ = some (.int .u8 126) ∧
        ((fo = .bool true ∧ ∃ (r : List UInt8) (A' : Option Addr) (cap' : Nat), vr = .slice A' r.length cap' ∧ Bs wr n0 vr r ∧ r.length ≤ 1000000000 ∧ cts [] r = (cont b).drop j) ∨ (fo = .bool false ∧ j = (cont b).length)))
      (fun vr fo wr => cms vr fo)
    case atStart => exact ⟨0, Nat.zero_le _, hJ, hB1, by have := hbw.size; omega, hsep1, Or.inl ⟨rfl, r1, A1, cap1, rfl, hv3, hrl, HR.out⟩⟩
    case round =>
      obtain ⟨j, hj, hJr, hBr, hnr, hsr, hd⟩ := hrel
      rcases hd with ⟨rfl, r, A', cap', rfl, hvr, hrl', hcr⟩ | ⟨rfl, hjl⟩
      · by_cases hfr : fi r < r.length
        · have hx : (cont b)[j]? = some (r.take (fi r)) := by
            have h : ((cont b).drop j)[0]? = some (r.take (fi r)) := by rw [← hcr, cts_fi, if_pos hfr]; rfl
            simpa using h
          have hnext : cts [] (r.drop (fi r + 1)) = (cont b).drop (j + 1) := by
            have h : cts [] r = r.take (fi r) :: cts [] (r.drop (fi r + 1)) := by rw [cts_fi, if_pos hfr]
            have e : (cont b).drop (j + 1) = ((cont b).drop j).drop 1 := by rw [List.drop_drop]
            rw [e, ← hcr, h]; rfl
          have HN := Lib.hid hnext
          have hjlt : j < (cont b).length := (List.getElem?_eq_some_iff.1 hx).1
          have HX := Lib.hid hx
          clear hcr hnext hx
          gi_wp2_with fail
          refine ⟨trivial, rfl, (callCut_yes _ A' cap' r _ _ _ n0 hvr hsr hrl' hfr).mono ?_⟩
          rintro e w2 ⟨A2, cap2, n2, rfl, hw2, hv2⟩
          have hk2 : Below wr.heap.size wr w2 := by rw [hw2]; exact below_drewN (Below.refl _ _) n2
          have hs2 := hk2.size
          have hJ2 := h2 BB j wr w2 (by omega) hJr (Keep.of_below hk2)
          have hv3 : Bs w2 n0 (.slice A2 (r.drop (fi r + 1)).length cap2) (r.drop (fi r + 1)) := by rw [hw2]; exact hv2.drewN n2
          have hit : Bs w2 n0 (.slice A' (fi r) cap') (r.take (fi r)) := by rw [hw2]; exact (hvr.take_ (fi r) (by omega)).drewN n2
          have hsr2 := cell_past hsr hk2
          obtain ⟨fn, tmps, assign, body, hy, hR⟩ := h3 BB j _ w2 _ (by omega) (by omega) hJ2 HX.out hit
          clear hw2 hv2
          gi_wp2_with fail
          refine ⟨rfl, hR.mono ?_⟩
          rintro e w3 ⟨rfl, hJ3, hk3⟩
          have hs3 := hk3.size
          have hv4 := hk3.row (fun k hk => Or.inl hk) (by omega) hv3
          have hsr3 := hk3.cell (p := ⟨W.heap.size, 0, none⟩) (Or.inr ⟨Nat.le_refl _, hsW⟩) hsr2
          clear hy hR hk3 hJ2 hJr hsr2 hit
          gi_wp2_with fail
          go_roundw
          case rel => exact ⟨j + 1, hjlt, hJ3, by omega, by omega, hsr3, Or.inl ⟨rfl, r.drop (fi r + 1), A2, cap2, by rw [List.length_drop], by rw [← List.length_drop]; exact hv4, by rw [List.length_drop]; omega, HN.out⟩⟩
          case measure => simp [cms]; omega
        · have hjl : j = (cont b).length := by
            have h : (cont b).drop j = [] := by rw [← hcr, cts_fi, if_neg hfr]
            have := congrArg List.length h
            simp at this; omega
          have HJ := Lib.hid hjl
          clear hcr hjl
          gi_wp2_with fail
          refine ⟨trivial, rfl, (callCut_no _ A' cap' r _ _ _ n0 hvr hsr hfr).mono ?_⟩
          rintro e w2 ⟨rfl, rfl⟩
          gi_wp2_with fail
          refine ⟨fun _ h => (by cases h), ?_⟩
          gi_wp2_with fail
          go_roundw
          case rel => exact ⟨j, hj, hJr, hBr, hnr, hsr, Or.inr ⟨rfl, HJ.out⟩⟩
          case measure => simp [cms]
      · have HJ := Lib.hid hjl
        clear hjl
        gi_wp2_with fail
        go_end0
        exact ⟨⟨_, rfl⟩, BB, by omega, hBr, by rw [← HJ.out]; exact hJr⟩
  · gi_wp2_with fail
    refine ⟨trivial, rfl, (callCut_no _ A cap b _ _ _ n0 hv1 hsep hf).mono ?_⟩
    rintro e w1 ⟨rfl, rfl⟩
    have HC := Lib.hid (show cont b = [] by rw [cont_fi, if_neg hf])
    have hJ := h1 _ hb1
    gi_wp2_with fail
    refine wpIn_loop_once ?_
    gi_wp2_with fail
    go_end0
    exact ⟨⟨_, rfl⟩, _, hb1.size, Nat.le_refl _, by rw [HC.out]; exact hJ⟩
end Go.Proofs.Ytokjlcajcflhgaa
