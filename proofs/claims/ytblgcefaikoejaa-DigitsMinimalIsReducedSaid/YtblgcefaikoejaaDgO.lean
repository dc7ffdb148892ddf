/-
  The walk of sane.
-/
import Derived.Test.YtblgcefaikoejaaDgN
import Derived.Test.YtblgcefaikoejaaDgT
import Derived.Test.YtblgcefaikoejaaDrA
namespace Go.Proofs.Ytblgcefaikoejaa
open Go.RowKit Dg
set_option linter.unusedVariables false
set_option linter.unusedSimpArgs false

theorem lit_sl (w : World) (l : List Str) (m : Nat) (hm : ∀ x ∈ l, x.length ≤ m) (hl : l.length ≤ maxLen) : Sl (w.alloc (.cells (l.map str).toArray 9)) (w.alloc (.cells (l.map str).toArray 9)).heap.size m (.slice (some ⟨w.heap.size, 0, none⟩) l.length l.length) l := by
  refine ⟨⟨some ⟨w.heap.size, 0, none⟩, l.length, rfl, Nat.le_refl _, hl, (fun h => by cases h), by simp, fun a ha _ => ?_⟩, hm⟩
  obtain rfl : (⟨w.heap.size, 0, none⟩ : Addr) = a := by injection ha
  refine ⟨by simp, fun i u hu => ?_⟩
  rw [add_zero_addr]
  exact (Blk.new w 9 (l.map str)).cell hu

theorem Sl.wide {w : World} {B m m' : Nat} {v : Value} {l : List Str} (h : Sl w B m v l) (hm : m ≤ m') : Sl w B m' v l := ⟨h.1, fun x hx => Nat.le_trans (h.2 x hx) hm⟩

theorem noTen_short {ls : List Str} (h : ls.length < 10) : NoTen ls := fun q hq => by
  have := nodup_le (exts_nodup q) hq
  rw [exts_ten] at this
  omega

theorem red_a : Red [[49, 50], [49, 50, 51], [49]] [[49]] := by
  refine ⟨by decide, fun p hp q hq _ => by simp at hp hq; rw [hp, hq], noTen_short (by decide), fun p hp => by simp at hp; subst hp; exact ⟨by intro b hb; simp at hb; subst hb; rfl, by decide⟩, ?_, by decide⟩
  refine Eqv.of (fun q hq => ?_) (fun q hq => ?_)
  · simp at hq
    rcases hq with rfl | rfl | rfl
    · exact .cov (q := [49]) (by simp) ⟨[50], rfl⟩
    · exact .cov (q := [49]) (by simp) ⟨[50, 51], rfl⟩
    · exact Full.mem (by simp)
  · simp at hq; subst hq; exact Full.mem (by simp)

theorem red_b : Red [[53, 48], [53, 49], [53, 50], [53, 51], [53, 52], [53, 53], [53, 54], [53, 55], [55], [53, 56], [53, 57]] [[53], [55]] := by
  have he : exts [53] = [[53, 48], [53, 49], [53, 50], [53, 51], [53, 52], [53, 53], [53, 54], [53, 55], [53, 56], [53, 57]] := rfl
  refine ⟨by decide, fun p hp q hq h => ?_, noTen_short (by decide), fun p hp => ?_, ?_, by decide⟩
  · simp at hp hq
    rcases hp with rfl | rfl <;> rcases hq with rfl | rfl <;> first | rfl | (obtain ⟨r, hr⟩ := h; simp at hr)
  · simp at hp
    rcases hp with rfl | rfl <;> exact ⟨by intro b hb; simp at hb; subst hb; rfl, by decide⟩
  · refine Eqv.of (fun q hq => ?_) (fun q hq => ?_)
    · by_cases h7 : q = [55]
      · subst h7; exact Full.mem (by simp)
      · have hq2 : q ∈ exts [53] := by
          rw [he]
          simp only [List.mem_cons, List.not_mem_nil, or_false] at hq ⊢
          rcases hq with h | h | h | h | h | h | h | h | h | h | h <;> simp_all
        obtain ⟨d, _, rfl⟩ := mem_exts.1 hq2
        exact .cov (q := [53]) (by simp) ⟨[d], rfl⟩
    · simp at hq
      rcases hq with rfl | rfl
      · refine .join fun x hx => Full.mem ?_
        rw [he] at hx
        simp only [List.mem_cons, List.not_mem_nil, or_false] at hx ⊢
        rcases hx with h | h | h | h | h | h | h | h | h | h <;> simp_all
      · exact Full.mem (by simp)

theorem bad_a : bad [[49, 50], [49, 50, 51], [49]] = false := by decide +kernel
theorem bad_b : bad [[53, 48], [53, 49], [53, 50], [53, 51], [53, 52], [53, 53], [53, 54], [53, 55], [55], [53, 56], [53, 57]] = false := by decide +kernel

theorem n_1 : norm [49, 50, 51, 52] [52, 57] [51, 48] = some [52, 57, 51, 48, 49, 50, 51, 52] := by decide +kernel
theorem n_2 : norm [48, 56, 57, 49, 50, 51, 52] [52, 57] [51, 48] = some [52, 57, 56, 57, 49, 50, 51, 52] := by decide +kernel
theorem n_3 : norm [48, 48, 51, 51, 49] [52, 57] [51, 48] = some [51, 51, 49] := by decide +kernel
theorem n_4 : norm [48, 48] [52, 57] [51, 48] = none := by decide +kernel
theorem s_1 : shorten [52, 57, 51, 48, 49, 50, 51, 52] [52, 57] [51, 48] = some [49, 50, 51, 52] := by decide +kernel
theorem s_2 : shorten [52, 57, 51, 48, 48, 49, 50, 51] [52, 57] [51, 48] = some [48, 51, 48, 48, 49, 50, 51] := by decide +kernel
theorem s_3 : shorten [51, 51, 49] [52, 57] [51, 48] = some [48, 48, 51, 51, 49] := by decide +kernel
theorem v_1 : num 1 15 [55] = true := by decide +kernel
theorem v_2 : num 1 15 [] = false := by decide +kernel
theorem v_3 : num 1 15 [55, 120] = false := by decide +kernel
theorem c_1 : com [49, 50, 51, 52] [49, 50, 56, 57] = 2 := by decide +kernel
theorem m_1 : mat [[49, 50]] [49, 50, 51] = true := by decide +kernel
theorem m_2 : mat [[49, 50]] [49] = false := by decide +kernel

theorem minimal_ok (v : Value) (l m : List Str) (w : World) (hv : Sl w w.heap.size 1000 v l) (hl : l.length ≤ 1024) (hb : bad l = false) (hr : Red l m) :
    Calls Try.prog 21 #[v] w fun e w' => ∃ u, e = .returned (.tuple #[u, .int .i64 0]) ∧ Sl w' w'.heap.size 14 u m ∧ Below w.heap.size w w' := by
  refine (minimal_any v l w hv hl).mono ?_
  rintro e w' ⟨h1, ⟨h2, _⟩ | ⟨_, u, m', rfl, h3, h4⟩⟩
  · rw [hb] at h2; cases h2
  · obtain rfl := h3.unique hr (Eqv.refl _)
    exact ⟨u, rfl, h4, h1⟩

theorem strings_same (v u : Value) (l : List Str) (w : World) (hv : Sl w w.heap.size 1000 v l) (hu : Sl w w.heap.size 1000 u l) (hl : l.length ≤ 10000) :
    Calls Try.prog 23 #[v, u] w fun e w' => e = .returned (.bool true) ∧ Below w.heap.size w w' := by
  refine (strings_any v u l l w hv hu hl hl).mono ?_
  rintro e w' ⟨rfl, h⟩
  exact ⟨ret_bool (by simp), h⟩

set_option maxRecDepth 100000 in
set_option maxHeartbeats 4000000 in
theorem sane_any (w : World) : Calls Try.prog 12 #[] w fun e w' => e = .returned (.bool true) ∧ Below w.heap.size w w' := by
  have N1 := fun w => normalize_any [49, 50, 51, 52] [52, 57] [51, 48] w (by simp [maxLen]) (by simp [maxLen]) (by simp [maxLen])
  have N2 := fun w => normalize_any [48, 56, 57, 49, 50, 51, 52] [52, 57] [51, 48] w (by simp [maxLen]) (by simp [maxLen]) (by simp [maxLen])
  have N3 := fun w => normalize_any [48, 48, 51, 51, 49] [52, 57] [51, 48] w (by simp [maxLen]) (by simp [maxLen]) (by simp [maxLen])
  have N4 := fun w => normalize_any [48, 48] [52, 57] [51, 48] w (by simp [maxLen]) (by simp [maxLen]) (by simp [maxLen])
  have S1 := fun w => shorten_any [52, 57, 51, 48, 49, 50, 51, 52] [52, 57] [51, 48] w (by simp) (by simp) (by simp)
  have S2 := fun w => shorten_any [52, 57, 51, 48, 48, 49, 50, 51] [52, 57] [51, 48] w (by simp) (by simp) (by simp)
  have S3 := fun w => shorten_any [51, 51, 49] [52, 57] [51, 48] w (by simp) (by simp) (by simp)
  rw [n_1] at N1
  rw [n_2] at N2
  rw [n_3] at N3
  rw [n_4] at N4
  rw [s_1] at S1
  rw [s_2] at S2
  rw [s_3] at S3
  simp only [resN_some, resN_none] at N1 N2 N3 N4 S1 S2 S3
  unfold str at N1 N2 N3 N4 S1 S2 S3
  go_enter Try.func12, Try.ntmps12
  go_wp2_with fail
  refine (N1 _).mono ?_
  rintro e w1 ⟨rfl, b1⟩
  clear N1
  go_wp2_with fail
  refine (N2 _).mono ?_
  rintro e w2 ⟨rfl, b2⟩
  replace b2 := b1.trans (b2.mono b1.size)
  clear N2 b1
  go_wp2_with fail
  refine (N3 _).mono ?_
  rintro e w3 ⟨rfl, b3⟩
  replace b3 := b2.trans (b3.mono b2.size)
  clear N3 b2
  go_wp2_with fail
  refine (S1 _).mono ?_
  rintro e w4 ⟨rfl, b4⟩
  replace b4 := b3.trans (b4.mono b3.size)
  clear S1 b3
  go_wp2_with fail
  refine (S2 _).mono ?_
  rintro e w5 ⟨rfl, b5⟩
  replace b5 := b4.trans (b5.mono b4.size)
  clear S2 b4
  go_wp2_with fail
  refine (S3 _).mono ?_
  rintro e w6 ⟨rfl, b6⟩
  replace b6 := b5.trans (b6.mono b5.size)
  clear S3 b5
  go_wp2_with fail
  refine (minimal_ok _ [[49, 50], [49, 50, 51], [49]] [[49]] _ (lit_sl w6 [[49, 50], [49, 50, 51], [49]] 1000 (by simp) (by simp [maxLen])) (by simp) bad_a red_a).mono ?_
  rintro e w7 ⟨ua, rfl, ha7, b7⟩
  have c7 : Below w6.heap.size w6 w7 := ((Below.refl _ _).alloc (Nat.le_refl _) _ : Below w6.heap.size w6 (w6.alloc (.cells (([[49, 50], [49, 50, 51], [49]] : List Str).map str).toArray 9))).trans (b7.mono (by simp))
  replace b7 := b6.trans (c7.mono b6.size)
  clear b6 c7
  go_wp2_with fail
  refine (minimal_ok _ [[53, 48], [53, 49], [53, 50], [53, 51], [53, 52], [53, 53], [53, 54], [53, 55], [55], [53, 56], [53, 57]] [[53], [55]] _ (lit_sl w7 [[53, 48], [53, 49], [53, 50], [53, 51], [53, 52], [53, 53], [53, 54], [53, 55], [55], [53, 56], [53, 57]] 1000 (by simp) (by simp [maxLen])) (by simp) bad_b red_b).mono ?_
  rintro e w8 ⟨ub, rfl, hb8, b8⟩
  have c8 : Below w7.heap.size w7 w8 := ((Below.refl _ _).alloc (Nat.le_refl _) _ : Below w7.heap.size w7 (w7.alloc (.cells (([[53, 48], [53, 49], [53, 50], [53, 51], [53, 52], [53, 53], [53, 54], [53, 55], [55], [53, 56], [53, 57]] : List Str).map str).toArray 9))).trans (b8.mono (by simp))
  have ha8 := ha7.past c8
  replace b8 := b7.trans (c8.mono b7.size)
  clear b7 c8 ha7
  go_wp2_with fail
  refine (N4 _).mono ?_
  rintro e w9 ⟨rfl, b9⟩
  have ha9 := ha8.past b9
  have hb9 := hb8.past b9
  replace b9 := b8.trans (b9.mono b8.size)
  clear N4 b8 ha8 hb8
  go_wp2_with fail
  refine (strings_same ua _ [[49]] _ ((ha9.past ((Below.refl _ _).alloc (Nat.le_refl _) _ : Below w9.heap.size w9 (w9.alloc (.cells (([[49]] : List Str).map str).toArray 9)))).wide (by omega)) (lit_sl w9 [[49]] 1000 (by simp) (by simp [maxLen])) (by simp)).mono ?_
  rintro e w10 ⟨rfl, b10⟩
  have c10 : Below w9.heap.size w9 w10 := ((Below.refl _ _).alloc (Nat.le_refl _) _ : Below w9.heap.size w9 (w9.alloc (.cells (([[49]] : List Str).map str).toArray 9))).trans (b10.mono (by simp))
  have hb10 := hb9.past c10
  replace b10 := b9.trans (c10.mono b9.size)
  clear b9 c10 ha9 hb9
  go_wp2_with fail
  refine (strings_same ub _ [[53], [55]] _ ((hb10.past ((Below.refl _ _).alloc (Nat.le_refl _) _ : Below w10.heap.size w10 (w10.alloc (.cells (([[53], [55]] : List Str).map str).toArray 9)))).wide (by omega)) (lit_sl w10 [[53], [55]] 1000 (by simp) (by simp [maxLen])) (by simp)).mono ?_
  rintro e w11 ⟨rfl, b11⟩
  have c11 : Below w10.heap.size w10 w11 := ((Below.refl _ _).alloc (Nat.le_refl _) _ : Below w10.heap.size w10 (w10.alloc (.cells (([[53], [55]] : List Str).map str).toArray 9))).trans (b11.mono (by simp))
  replace b11 := b10.trans (c11.mono b10.size)
  clear b10 c11 hb10
  have V1 := valid_any [55] w11 (by simp [maxLen])
  rw [v_1] at V1
  go_wp2_with fail
  refine V1.mono ?_
  rintro e w12 ⟨rfl, b12⟩
  clear V1
  replace b12 := b11.trans (b12.mono b11.size)
  have V2 := valid_any [] w12 (by simp [maxLen])
  rw [v_2] at V2
  go_wp2_with fail
  refine V2.mono ?_
  rintro e w13 ⟨rfl, b13⟩
  clear V2 b11
  replace b13 := b12.trans (b13.mono b12.size)
  have V3 := valid_any [55, 120] w13 (by simp [maxLen])
  rw [v_3] at V3
  go_wp2_with fail
  refine V3.mono ?_
  rintro e w14 ⟨rfl, b14⟩
  clear V3 b12
  replace b14 := b13.trans (b14.mono b13.size)
  have C1 := common_any [49, 50, 51, 52] [49, 50, 56, 57] w14 (by simp) (by simp)
  rw [c_1] at C1
  go_wp2_with fail
  refine C1.mono ?_
  rintro e w15 ⟨rfl, b15⟩
  clear C1 b13
  replace b15 := b14.trans (b15.mono b14.size)
  have M1 := matches_any [49, 50, 51] _ [[49, 50]] _ (by simp) (lit_sl w15 [[49, 50]] 1000 (by simp) (by simp [maxLen])) (by simp)
  rw [m_1] at M1
  go_wp2_with fail
  refine M1.mono ?_
  rintro e w16 ⟨rfl, b16⟩
  have c16 : Below w15.heap.size w15 w16 := ((Below.refl _ _).alloc (Nat.le_refl _) _ : Below w15.heap.size w15 (w15.alloc (.cells (([[49, 50]] : List Str).map str).toArray 9))).trans (b16.mono (by simp))
  clear M1 b14
  replace b16 := b15.trans (c16.mono b15.size)
  clear c16
  have M2 := matches_any [49] _ [[49, 50]] _ (by simp) (lit_sl w16 [[49, 50]] 1000 (by simp) (by simp [maxLen])) (by simp)
  rw [m_2] at M2
  go_wp2_with fail
  refine M2.mono ?_
  rintro e w17 ⟨rfl, b17⟩
  have c17 : Below w16.heap.size w16 w17 := ((Below.refl _ _).alloc (Nat.le_refl _) _ : Below w16.heap.size w16 (w16.alloc (.cells (([[49, 50]] : List Str).map str).toArray 9))).trans (b17.mono (by simp))
  clear M2 b15
  replace b17 := b16.trans (c17.mono b16.size)
  clear c17
  go_wp2_with fail
  go_ret
  exact ⟨rfl, b17⟩

end Go.Proofs.Ytblgcefaikoejaa
