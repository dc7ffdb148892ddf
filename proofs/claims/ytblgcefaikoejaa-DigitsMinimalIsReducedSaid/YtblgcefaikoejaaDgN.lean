/-
  The walk of Minimal.
-/
import Derived.Test.YtblgcefaikoejaaDgJ
import Derived.Test.YtblgcefaikoejaaDgM
namespace Go.Proofs.Ytblgcefaikoejaa
open Go.RowKit Go.Maps Dg
attribute [local go_sem] Oper.semAt_some
set_option linter.unusedVariables false
set_option linter.unusedSimpArgs false

/-- The distinct ones among the first prefixes. -/
theorem dedup_step {l K : List Str} {i : Nat} {x : Str} (hx : l[i]? = some x) (h : ∀ y, y ∈ K ↔ y ∈ l.take i) : ∀ y, y ∈ K.insert x ↔ y ∈ l.take (i + 1) := by
  intro y
  rw [List.mem_insert_iff, h y, List.take_add_one, hx, List.mem_append]
  simp [or_comm]

theorem eqv_mem {P Q : List Str} (h : ∀ y, y ∈ P ↔ y ∈ Q) : Eqv P Q := Eqv.of (fun q hq => Full.mem ((h q).1 hq)) (fun q hq => Full.mem ((h q).2 hq))

/-- What Minimal answers: the list of the result, or why there is none. -/
def bad (l : List Str) : Bool := !l.all (num 0 14)

theorem short_of {l : List Str} (h : bad l = false) : Short l := by
  unfold bad at h
  have h : l.all (num 0 14) = true := by simpa using h
  intro p hp
  obtain ⟨_, h2, h3⟩ := num_iff.1 (List.all_eq_true.1 h p hp)
  exact ⟨h3, h2⟩

theorem red_of {l K K1 K2 : List Str} (hK : ∀ y, y ∈ K ↔ y ∈ l) (hn : K.Nodup) (h1 : ∀ x ∈ K1, x ∈ K) (h2 : ∀ s ∈ K, ∃ t ∈ K1, t <+: s) (hn1 : K1.Nodup) (hj : JI K1 (fun _ => False) K2) (hn2 : K2.Nodup) : Red l (srt K2) := by
  have hp := srt_perm K2
  refine ⟨sorted_of hn2, fun p hp1 q hq => hj.anti p (hp.mem_iff.1 hp1) q (hp.mem_iff.1 hq), fun q hq => hj.finish q fun x hx => hp.mem_iff.1 (hq x hx), fun p hp1 => hj.short p (hp.mem_iff.1 hp1), ?_, ?_⟩
  · exact (eqv_mem fun y => (hK y).symm).trans ((eqv_uncovered h1 h2).trans (hj.eqv.trans (eqv_mem fun y => hp.mem_iff.symm)))
  · have a1 := hj.len
    have a2 := nodup_le hn1 h1
    have a3 := nodup_le hn (fun x hx => (hK x).1 hx)
    have a4 := hp.length_eq
    omega

set_option maxRecDepth 100000 in
set_option maxHeartbeats 2000000 in
theorem minimal_any (v : Value) (l : List Str) (w : World) (hv : Sl w w.heap.size 1000 v l) (hl : l.length ≤ 1024) :
    Calls Try.prog 21 #[v] w fun e w' => Below w.heap.size w w' ∧
      ((bad l = true ∧ e = .returned (.tuple #[.slice none 0 0, .int .i64 60])) ∨ (bad l = false ∧ ∃ (u : Value) (m : List Str), e = .returned (.tuple #[u, .int .i64 0]) ∧ Red l m ∧ Sl w' w'.heap.size 14 u m)) := by
  obtain ⟨A, cap, rfl⟩ := hv.form
  go_enter Try.func21, Try.ntmps21
  go_wp2_with fail
  refine (digitString_any 0 14 w (by omega) (by omega)).mono ?_
  rintro e w1 ⟨p1, p2, p3, rfl, x1, x2, x3, b1⟩
  have hmm := @run_makeMap Try.prog
  go_wp2_with fail
  obtain ⟨W1, hW1⟩ : ∃ W1, w1.alloc (.map #[] 0) = W1 := ⟨_, rfl⟩
  have hM0 : Mp W1 w1.heap.size 0 [] := by rw [← hW1]; exact Mp.made w1
  have hbW : Below w1.heap.size w1 W1 := by rw [← hW1]; exact (Below.refl _ _).alloc (Nat.le_refl _) _
  have y1 := cell_past x1 hbW
  have y2 := cell_past x2 hbW
  have y3 := cell_past x3 hbW
  have hlt : ∀ {c : Nat} {u : Value}, w1.cell? ⟨c, 0, none⟩ = some u → c < w1.heap.size := fun h => by
    obtain ⟨o, ho, _⟩ := cells_of_cell h
    exact (Array.getElem?_eq_some_iff.1 ho).1
  have l1 := hlt x1
  have l2 := hlt x2
  have l3 := hlt x3
  have hbw : Below w.heap.size w W1 := b1.trans (hbW.mono b1.size)
  have hs1 := b1.size
  rw [hW1]
  obtain ⟨B, hB⟩ : ∃ B, w1.heap.size = B := ⟨_, rfl⟩
  rw [hB] at hM0 l1 l2 l3 hs1 ⊢
  clear hmm hlt hW1 x1 x2 x3 hbW b1 hB
  go_loopw [15] (fun vi wr => ∃ (i : Nat) (K : List Str), vi = .int .i64 (i : Int) ∧ i ≤ l.length ∧ Mp wr B i K ∧ (∀ y, y ∈ K ↔ y ∈ l.take i) ∧ (∀ y ∈ l.take i, num 0 14 y = true) ∧ Keep (fun k => k ≠ B) W1 wr)
    (fun vi wr => ixn l.length vi)
  case atStart => exact ⟨0, [], rfl, Nat.zero_le _, hM0, fun y => by simp, fun y hy => by simp at hy, Keep.refl _ _⟩
  case round =>
    obtain ⟨i, K, rfl, hi, hM, hK, hnum, hkp⟩ := hrel
    have hbr : Below w.heap.size w wr := hbw.trans (hkp.below (fun k hk => by omega) hbw.size)
    have hvr : Sl wr w.heap.size 1000 (.slice A l.length cap) l := hv.carry hbr (Nat.le_refl _)
    have HK := Lib.hid hK
    have HNUM := Lib.hid hnum
    clear hK hnum
    by_cases hlt : i < l.length
    · obtain ⟨x, hx, hxs, hxl⟩ := hvr.at_ hlt
      have hds := ds_any x p1 p2 p3 0 14 wr (by simp only [maxLen]; omega) (by omega) (by omega) (hkp.cell (p := ⟨p1, 0, none⟩) (show p1 ≠ B by omega) y1) (hkp.cell (p := ⟨p2, 0, none⟩) (show p2 ≠ B by omega) y2) (hkp.cell (p := ⟨p3, 0, none⟩) (show p3 ≠ B by omega) y3)
      have HX := Lib.hid hx
      clear hx
      unfold str at hds
      cases hq : num 0 14 x
      · rw [hq] at hds
        have HBAD : Hid (bad l = true) := Lib.hid (by
          unfold bad
          rw [Bool.not_eq_true', List.all_eq_false]
          exact ⟨x, List.mem_of_getElem? HX.out, by rw [hq]; simp⟩)
        clear hq
        go_wp2_with (refine wp_atg 28 9 Try.underlying28 size_strM (.tmp 13) (.tmp 15) rfl rfl rfl hvr.1 .i64 _ i (str x) rfl rfl hxs ?_; intro ad had hcad; unfold str at hcad; go_frame)
        refine hds.mono ?_
        rintro e w' ⟨rfl, hb2⟩
        go_wp2_with fail
        go_ret2
        exact ⟨hbr.trans (hb2.mono hbr.size), Or.inl ⟨HBAD.out, rfl⟩⟩
      · rw [hq] at hds
        have hx14 := num_len hq
        have HN : Hid (∀ y ∈ l.take (i + 1), num 0 14 y = true) := Lib.hid fun y hy => by
          rw [List.take_add_one, HX.out] at hy
          rcases List.mem_append.1 hy with hy | hy
          · exact HNUM.out y hy
          · simp at hy; subst hy; exact hq
        clear hq
        go_wp2_with (refine wp_atg 28 9 Try.underlying28 size_strM (.tmp 13) (.tmp 15) rfl rfl rfl hvr.1 .i64 _ i (str x) rfl rfl hxs ?_; intro ad had hcad; unfold str at hcad; go_frame)
        refine hds.mono ?_
        rintro e w' ⟨rfl, hb2⟩
        have hM2 := hM.past hb2 hM.lt
        go_wp2_with (refine wp_put rfl (.tmp 23) (.tmp 24) (.const (.bool true)) rfl B i _ rfl hM2 (by simp only [maxLen]; omega) x (by simp only [maxLen]; omega) rfl rfl rfl ?_; intro w5 m5 g5)
        go_roundw
        case measure => show l.length - ((i : Int) + 1).toNat < l.length - ((i : Int)).toNat; omega
        case rel => exact ⟨i + 1, _, by simp, by omega, m5, dedup_step HX.out HK.out, HN.out, (hkp.trans (Keep.of_below hb2)).trans (keep_grown g5)⟩
    · have hil : l.take i = l := List.take_of_length_le (by omega)
      have hK := HK.out
      have hnum := HNUM.out
      rw [hil] at hK hnum
      have HBAD : Hid (bad l = false) := Lib.hid (by
        unfold bad
        rw [Bool.not_eq_false', List.all_eq_true]
        exact hnum)
      have hlen : ∀ x ∈ K, x.length ≤ 14 := fun x hx => num_len (hnum x ((hK x).1 hx))
      have HSH := Lib.hid (short_of HBAD.out)
      have HKL := Lib.hid hK
      have hrc := removeCovered_any B i K wr hM (fun x hx => by have := hlen x hx; omega)
      have hKn := hM.nodup
      have HLE := Lib.hid hlen
      clear hil hK hnum hlen
      go_wp2_with fail
      refine hrc.mono ?_
      rintro e w2 ⟨rfl, g2, K1, m2, r1, r2, ra⟩
      clear hrc
      have hn1 := m2.nodup
      have R1 := Lib.hid r1
      have R2 := Lib.hid r2
      have hK1l : K1.length ≤ 1024 := by
        have a2 := nodup_le hn1 r1
        have a3 := nodup_le hKn (fun x hx => (HKL.out x).1 hx)
        omega
      have hje := joinExtensions_any B i K1 w2 m2 hK1l ra (fun x hx => HSH.out x ((HKL.out x).1 (r1 x hx)))
      clear r1 r2 ra
      go_wp2_with fail
      refine hje.mono ?_
      rintro e w3 ⟨rfl, g3, K2, m3, hj⟩
      clear hje
      have HJ := Lib.hid hj
      have hk2 : K2.length ≤ 1024 := by have := hj.len; omega
      have hn2 := m3.nodup
      have hb3 : Below w.heap.size w w3 := by
        have a1 := hbr.trans ((keep_grown g2).below (n := w.heap.size) (fun k hk => by omega) hbr.size)
        exact a1.trans ((keep_grown g3).below (n := w.heap.size) (fun k hk => by omega) a1.size)
      clear hj
      go_wp2_with fail
      refine ((callsIn_wide (n := 5)).1 (Try.maps_Keys_37 (some B) w3)).mono ?_
      rintro e w4 ⟨rfl, rfl⟩
      go_wp2_with fail
      refine ((callsIn_wide (n := 5)).1 (sortedKeys_in B 1024 K2 w3 m3 (by omega))).mono ?_
      rintro e w5 ⟨u, rfl, hrow, hb5⟩
      go_wp2_with fail
      go_ret2
      have hb4 : Below w3.heap.size w3 w5 := ((Below.refl _ _).alloc (Nat.le_refl _) _).trans (hb5.mono (by omega))
      have hred := red_of HKL.out hKn R1.out R2.out hn1 HJ.out hn2
      refine ⟨hb3.trans (hb4.mono hb3.size), Or.inr ⟨HBAD.out, u, srt K2, rfl, hred, ?_, fun x hx => (hred.short x hx).2⟩⟩
      have := Row.of_own hrow
      rw [← (srt_perm K2).length_eq] at this
      exact this

end Go.Proofs.Ytblgcefaikoejaa
