/-
  The walk of the law HdlcStream.
-/
import Derived.Test.YtokjlcajcflhgaaHdM
import Derived.Test.YtokjlcajcflhgaaOpL
namespace Go.Proofs.Ytokjlcajcflhgaa
open Go.RowKit
set_option linter.unusedVariables false
set_option linter.unusedSimpArgs false

theorem scan_v4 (v : Value) (b : List UInt8) (w : World) (hv : Bs w w.heap.size v b) (hl : b.length ≤ 1000000) :
    Calls Try.prog 12 #[v] w fun e w' => ∃ v', e = .returned (.tuple #[v', .int .i64 (lastF b)]) ∧ Lst w' w.heap.size v' (scanP b) ∧ Below w.heap.size w w' := by
  obtain ⟨A, cap, rfl⟩ := hv.form
  exact scan_any A cap b w hv hl

theorem strm_length (sh : Bool) : ∀ (ls : List (List UInt8)) (acc : List UInt8), (∀ x ∈ ls, x.length ≤ 400) → (ls.foldl (strm1 sh) acc).length ≤ acc.length + 1000 * ls.length
  | [], acc, _ => by simp
  | x :: ls, acc, h => by
    have h1 := strm_length sh ls (strm1 sh acc x) (fun y hy => h y (by simp [hy]))
    have h2 := strm1_length sh acc x
    have h3 := h x (by simp)
    show (ls.foldl (strm1 sh) (strm1 sh acc x)).length ≤ _
    rw [List.length_cons]
    omega

set_option maxRecDepth 100000 in
set_option maxHeartbeats 1600000 in
theorem hdlcStream_walk (v : Value) (ls : List (List UInt8)) (sh : Bool) (w : World) (hv : Ls w w.heap.size v ls) :
    Calls Try.prog 7 #[v, .bool sh] w fun e w' => e = .returned (.bool true) ∧ Below w.heap.size w w' := by
  have hll := hv.le
  have HV := Lib.hid hv
  obtain ⟨A, cap, rfl⟩ := hv.form
  clear hv
  cases hf : fewB ls 10 with
  | false =>
    have HF := Lib.hid hf
    clear hf
    go_enter Try.func7, Try.ntmps7
    go_wp2_with fail
    refine (sane_any _).mono ?_
    rintro e w1 ⟨rfl, b1⟩
    have s1 := HV.out.past b1
    go_wp2_with fail
    refine (few_wide _ ls 10 _ _ s1 hll (by omega)).mono ?_
    rintro e w2 ⟨rfl, rfl⟩
    rw [HF.out]
    go_wp2_with fail
    go_ret
    exact ⟨rfl, b1⟩
  | true =>
    obtain ⟨hn, hx⟩ := few_true hf
    obtain ⟨T, hT⟩ : ∃ T, T = strm sh ls := ⟨_, rfl⟩
    have hTl : T.length ≤ 10000 := by
      have := strm_length sh ls [] (fun x h => by have := hx x h; omega)
      rw [hT]
      unfold strm
      simp at this
      omega
    obtain ⟨hr1, hr2⟩ := reads_strm sh ls (fun x h => by have := hx x h; omega)
    rw [← hT] at hr1 hr2
    have HF := Lib.hid hf
    have HX := Lib.hid hx
    have HT := Lib.hid hT
    have HR1 := Lib.hid hr1
    have HR2 := Lib.hid (show ((lastF T : Nat) : Int) = (T.length - 1 : Nat) by rw [hr2])
    clear hf hx hT hr1 hr2
    go_enter Try.func7, Try.ntmps7
    go_wp2_with fail
    refine (sane_any _).mono ?_
    rintro e w1 ⟨rfl, b1⟩
    have s1 := HV.out.past b1
    go_wp2_with fail
    refine (few_wide _ ls 10 _ _ s1 hll (by omega)).mono ?_
    rintro e w2 ⟨rfl, rfl⟩
    rw [HF.out]
    go_wp2_with fail
    refine (stream_any _ ls sh _ s1 hn HX.out).mono ?_
    rintro e w3 ⟨v3, rfl, o3, b3⟩
    rw [← HT.out] at o3
    have s3 := s1.past b3
    have hb3 := b1.trans (b3.mono b1.size)
    have r3 := o3.bs
    obtain ⟨A3, c3, rfl⟩ := r3.form
    clear s1 b1 b3 o3
    go_wp2_with fail
    refine (scan_v4 _ T _ r3 (by omega)).mono ?_
    rintro e w4 ⟨v4, rfl, o4, b4⟩
    rw [HR1.out] at o4
    have s4 := s3.past b4
    have hb4 := hb3.trans (b4.mono hb3.size)
    clear s3 b4 hb3 r3
    go_wp2_with fail
    refine (sameAll_any _ _ ls ls _ _ _ o4.ls s4 (by omega) (by omega)).mono ?_
    rintro e w5 ⟨rfl, m, rfl⟩
    rw [show (ls == ls) = true by simp]
    obtain ⟨z, hz⟩ : ∃ z : Int, z = (lastF T : Int) := ⟨_, rfl⟩
    rw [← hz]
    have HZ := Lib.hid (hz.trans HR2.out)
    clear hz o4 s4
    go_wp2_with fail
    all_goals
      go_ret
      refine ⟨ret_bool ?_, below_drewN hb4 m⟩
      rw [HZ.out]
      simp
      omega
end Go.Proofs.Ytokjlcajcflhgaa
