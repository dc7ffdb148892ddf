/-
  The helpers of the laws of layer 2: sane.
-/
import Derived.Test.YtokjlcajcflhgaaHdG
import Derived.Test.YtokjlcajcflhgaaHrD
import Derived.Lib.SlBytesConst
namespace Go.Proofs.Ytokjlcajcflhgaa
open Go.RowKit
set_option linter.unusedVariables false
set_option linter.unusedSimpArgs false

theorem ret_bool {a b : Bool} (h : a = b) : Ending.returned (.bool a) = .returned (.bool b) := by rw [h]

theorem f_empty : frm [] (fcsN []) = [126, 0, 0, 126] := by decide +kernel
theorem f_one : frm [126] (fcsN [126]) = [126, 125, 94, 129, 106, 126] := by decide +kernel
theorem d_one : dcd [125, 94, 129, 106] = some [126] := by decide +kernel
theorem s_one : scanP [126, 125, 94, 129, 106, 126] = [[126]] := by decide +kernel
theorem l_one : lastF [126, 125, 94, 129, 106, 126] = 5 := by decide +kernel
theorem f_nine : fcsN [49, 50, 51, 52, 53, 54, 55, 56, 57] = 36974 := by decide +kernel
theorem bare_one : Bare [125, 94, 129, 106] := by
  intro c hc
  simp at hc
  rcases hc with rfl | rfl | rfl | rfl <;> decide

theorem lit_marked (w : World) (l : List UInt8) (hl : l.length ≤ maxLen) (m : Nat × Nat) : Bs (w.alloc (.cells (u8s l).toArray 5 m)) (w.alloc (.cells (u8s l).toArray 5 m)).heap.size (.slice (some ⟨w.heap.size, 0, none⟩) l.length l.length) l := by
  refine ⟨some ⟨w.heap.size, 0, none⟩, _, rfl, Nat.le_refl _, hl, (fun h => by cases h), by simp [u8s_length], fun a ha _ => ?_⟩
  obtain rfl : (⟨w.heap.size, 0, none⟩ : Addr) = a := by injection ha
  refine ⟨by simp, fun i u hu => ?_⟩
  have hadd : (⟨w.heap.size, 0, none⟩ : Addr).add i = ⟨w.heap.size, i, none⟩ := by unfold Addr.add; split <;> simp_all
  rw [hadd]
  have h := heap_alloc_new w (.cells (u8s l).toArray 5 m)
  unfold World.cell?
  rw [h]
  simp only [Option.isSome_none, Bool.false_eq_true, if_false]
  simpa using hu

set_option maxRecDepth 100000 in
set_option maxHeartbeats 1600000 in
theorem sane_any (w : World) : Calls Try.prog 11 #[] w fun e w' => e = .returned (.bool true) ∧ Below w.heap.size w w' := by
  go_enter Try.func11, Try.ntmps11
  go_wp2_with fail
  refine (encode_yes _ [] _ (Bs.nil_ _ _) (by simp)).mono ?_
  rintro e w1 ⟨v1, rfl, o1, b1⟩
  rw [f_empty] at o1
  go_wp2_with fail
  refine (encode_yes _ [126] _ (own_lit_n w1 [126] (by simp [maxLen])).bs (by simp)).mono ?_
  rintro e w2 ⟨v2, rfl, o2, b2⟩
  rw [f_one] at o2
  have b12 : Below w1.heap.size w1 w2 := ((Below.refl _ _).alloc (Nat.le_refl _) _).trans (b2.mono (by simp))
  have hb2 := b1.trans (b12.mono b1.size)
  have r1 := o1.past b12
  obtain ⟨A2, c2, rfl⟩ := o2.bs.form
  have r2 := o2.bs
  clear o1 b1 b2 b12
  go_wp2_with fail
  refine (decode_any A2 c2 [126, 125, 94, 129, 106, 126] [125, 94, 129, 106] [] _ rfl bare_one r2 (by simp)).mono ?_
  rintro e w3 ⟨b3, hor⟩
  have hor' : ∃ v, e = .returned (.tuple #[v, .int .i64 6, .int .i64 0]) ∧ Own w3 w2.heap.size v [126] := by
    rcases hor with ⟨p, v, hd, he, ho⟩ | ⟨hd, _⟩ | ⟨hd, _⟩
    · rw [d_one] at hd; injection hd with hd; subst hd; exact ⟨v, he, ho⟩
    · rw [d_one] at hd; cases hd
    · rw [d_one] at hd; cases hd
  obtain ⟨v3, rfl, o3⟩ := hor'
  clear hor
  have r13 := r1.past b3
  have r23 := r2.past b3
  have hb3 := hb2.trans (b3.mono hb2.size)
  clear hb2 b3 r1 r2
  go_wp2_with fail
  refine (scan_any A2 c2 [126, 125, 94, 129, 106, 126] _ r23 (by simp)).mono ?_
  rintro e w4 ⟨v4, rfl, o4, b4⟩
  rw [s_one] at o4
  rw [l_one]
  have r14 := r13.past b4
  have r24 := r23.past b4
  have r34 := o3.past b4
  have hb4 := hb3.trans (b4.mono hb3.size)
  obtain ⟨A4, c4, rfl⟩ := o4.ls.form
  clear hb3 b4 r13 r23 o3
  have kc := fun (w : World) (C : Array Value) (n c : Nat) => Lib.run_convert_bytes_const (P := Try.prog) w 22 5 C n c Try.underlying22 Try.underlying5
  go_wp2_with fail
  clear kc
  refine (fcs_any _ [49, 50, 51, 52, 53, 54, 55, 56, 57] _ (lit_marked w4 [49, 50, 51, 52, 53, 54, 55, 56, 57] (by simp [maxLen]) (9, 10)) (by simp)).mono ?_
  rintro e w5 ⟨rfl, b5⟩
  rw [f_nine]
  have bl5 : Below w4.heap.size w4 w5 := ((Below.refl _ _).alloc (Nat.le_refl _) _).trans (b5.mono (by simp))
  have r15 := r14.past bl5
  have r25 := r24.past bl5
  have r35 := r34.past bl5
  have hb5 := hb4.trans (bl5.mono hb4.size)
  clear b5 bl5 r14 r24 r34 hb4 o4
  go_wp2_with fail
  have bl6 : Below w5.heap.size w5 (w5.alloc (.cells (u8s [126, 0, 0, 126]).toArray 5)) := (Below.refl _ _).alloc (Nat.le_refl _) _
  refine (same_any _ _ [126, 0, 0, 126] [126, 0, 0, 126] _ _ _ (r15.past bl6).bs (own_lit_n w5 [126, 0, 0, 126] (by simp [maxLen])).bs).mono ?_
  rintro e w6 ⟨rfl, hw6⟩
  rw [show (([126, 0, 0, 126] : List UInt8) == [126, 0, 0, 126]) = true by decide]
  have bl6' : Below w5.heap.size w5 w6 := by rw [← hw6]; exact bl6
  have r26 := r25.past bl6'
  have r36 := r35.past bl6'
  have hb6 := hb5.trans (bl6'.mono hb5.size)
  clear hw6 bl6 bl6' r15 r25 r35 hb5
  go_wp2_with fail
  have bl7 : Below w6.heap.size w6 (w6.alloc (.cells (u8s [126, 125, 94, 129, 106, 126]).toArray 5)) := (Below.refl _ _).alloc (Nat.le_refl _) _
  refine (same_any _ _ [126, 125, 94, 129, 106, 126] [126, 125, 94, 129, 106, 126] _ _ _ (r26.past bl7) (own_lit_n w6 [126, 125, 94, 129, 106, 126] (by simp [maxLen])).bs).mono ?_
  rintro e w7 ⟨rfl, hw7⟩
  rw [show (([126, 125, 94, 129, 106, 126] : List UInt8) == [126, 125, 94, 129, 106, 126]) = true by decide]
  have bl7' : Below w6.heap.size w6 w7 := by rw [← hw7]; exact bl7
  have r37 := r36.past bl7'
  have hb7 := hb6.trans (bl7'.mono hb6.size)
  clear hw7 bl7 bl7' r26 r36 hb6
  go_wp2_with fail
  have bl8 : Below w7.heap.size w7 (w7.alloc (.cells (u8s [126]).toArray 5)) := (Below.refl _ _).alloc (Nat.le_refl _) _
  refine (same_any _ _ [126] [126] _ _ _ (r37.past bl8).bs (own_lit_n w7 [126] (by simp [maxLen])).bs).mono ?_
  rintro e w8 ⟨rfl, hw8⟩
  rw [show (([126] : List UInt8) == [126]) = true by decide]
  have hb8 : Below w.heap.size w w8 := by rw [← hw8]; exact hb7.trans (bl8.mono hb7.size)
  clear hw8 bl8 r37 hb7
  go_wp2_with fail
  go_ret
  exact ⟨rfl, hb8⟩
end Go.Proofs.Ytokjlcajcflhgaa
