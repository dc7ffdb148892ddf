/-
  Package trie: strings of digits (isDigits).
-/
import Derived.Test.YtippbkooaonajaaTrk
import Derived.Test.YtippbkooaonajaaMem
import Derived.Test.YtippbkooaonajaaGen
import Derived.Test.YtippbkooaonajaaPlk
import Derived.Lib.OthersKept
import Derived.Lib.TrimU
import Derived.Deep.LoopGhost
namespace Go.Proofs.Ytippbkooaonajaa
open Go.RowKit Dg
set_option linter.unusedVariables false
set_option linter.unusedSimpArgs false

theorem ret_bool {a b : Bool} (h : a = b) : Ending.returned (.bool a) = .returned (.bool b) := by rw [h]
theorem str_size (l : Str) : (⟨l.toArray⟩ : ByteArray).size = l.length := by simp [ByteArray.size]
theorem str_cut (l : Str) (i j : Nat) : (⟨l.toArray⟩ : ByteArray).extract i j = ⟨((l.take j).drop i).toArray⟩ := by
  apply ByteArray.ext
  rw [ByteArray.data_extract]
  simp [List.drop_take]
theorem str_list (l : Str) : (⟨l.toArray⟩ : ByteArray).toList = l := by simp
theorem str_add (l m : Str) : (⟨l.toArray⟩ : ByteArray) ++ ⟨m.toArray⟩ = ⟨(l ++ m).toArray⟩ := by
  apply ByteArray.ext
  simp

theorem str_get (l : Str) (i : Nat) (b : UInt8) (h : l[i]? = some b) : (⟨l.toArray⟩ : ByteArray).get! i = b := by
  show (l.toArray)[i]! = b
  obtain ⟨hi, rfl⟩ := List.getElem?_eq_some_iff.1 h
  simp [hi]

theorem decode_digit (l : Str) (i : Nat) (b : UInt8) (h : l[i]? = some b) (hb : isD b = true) : Utf8.decode ⟨l.toArray⟩ i = (b.toNat, 1) := by
  rw [Lib.decode_at, str_get l i b h]
  unfold isD at hb
  simp only [Bool.and_eq_true, decide_eq_true_eq] at hb
  unfold Lib.decodeN
  rw [if_pos (by omega)]

theorem decode_other (l : Str) (i : Nat) (b : UInt8) (h : l[i]? = some b) (hb : isD b = false) : (Utf8.decode ⟨l.toArray⟩ i).1 < 48 ∨ 57 < (Utf8.decode ⟨l.toArray⟩ i).1 := by
  rw [Lib.decode_at, str_get l i b h]
  have hb : ¬ (48 ≤ b.toNat ∧ b.toNat ≤ 57) := by
    intro hc
    unfold isD at hb
    simp [hc.1, hc.2] at hb
  unfold Lib.decodeN
  repeat' split
  all_goals (simp only; omega)

/-! ### The predicates -/
set_option maxRecDepth 100000 in
theorem notDigit_any (r : Nat) (w : World) (hr : r ≤ 1114111) :
    Calls Try.prog 49 #[.int .i32 (r : Int)] w fun e w' => e = .returned (.bool (decide (r < 48) || decide (57 < r))) ∧ w' = w := by
  by_cases h : r < 48
  · have hb : decide (r < 48) = true := decide_eq_true h
    go_enter Try.func49, Try.ntmps49
    go_wp2_with fail
    go_ret
    exact ⟨ret_bool (by first | simp [hb]; done | (rw [Bool.eq_iff_iff]; simp only [Bool.or_eq_true, decide_eq_true_eq, Bool.true_eq, true_iff, Bool.false_eq_true, false_iff]; omega)), rfl⟩
  · have hb : decide (r < 48) = false := decide_eq_false h
    go_enter Try.func49, Try.ntmps49
    go_wp2_with fail
    go_ret
    exact ⟨ret_bool (by first | simp [hb]; done | (rw [Bool.eq_iff_iff]; simp only [Bool.or_eq_true, decide_eq_true_eq, Bool.true_eq, true_iff, Bool.false_eq_true, false_iff]; omega)), rfl⟩

set_option maxHeartbeats 2000000 in
set_option maxRecDepth 1000000 in
theorem indexFunc_any (l : Str) (w : World) (hl : l.length ≤ maxLen) :
    Calls Try.prog 55 #[str l, .func (.func 49) #[] #[], .bool true] w fun e w' =>
      ∃ r : Int, e = .returned (.int .i64 r) ∧ decide (0 ≤ r) = !l.all isD ∧ Below w.heap.size w w' := by
  unfold str
  obtain ⟨s, hs⟩ : ∃ s : ByteArray, s = ⟨l.toArray⟩ := ⟨_, rfl⟩
  have hsz : s.size = l.length := by rw [hs]; exact str_size l
  rw [← hs]
  have HS := Lib.hid hs
  have HZ := Lib.hid hsz
  clear hs hsz
  go_enter Try.func55, Try.ntmps55
  go_wp2
  go_loopg [] s.size (fun gf wx => ∃ pos : Nat, wx.heap[w.heap.size]? = some (.stringIter s pos) ∧ Below w.heap.size w wx ∧ (∀ i b, i < pos → l[i]? = some b → isD b = true) ∧ pos ≤ s.size ∧ s.size ≤ pos + gf)
  case atStart => exact ⟨0, World.iter_heap w s 0, (Below.refl _ w).alloc (Nat.le_refl _) _, fun i b hi => absurd hi (by omega), Nat.zero_le _, by omega⟩
  case round =>
    obtain ⟨pos, hit, hbw, hall, hle, hfu⟩ := hrel
    have hs := HS.out
    have hsz := HZ.out
    by_cases hps : pos < s.size
    · obtain ⟨g', rfl⟩ : ∃ g', gk = g' + 1 := ⟨gk - 1, by omega⟩
      have hnx : ∀ ty, (Instr.next (.pointer (some ⟨w.heap.size, 0, none⟩)) true ty).run Try.prog wr = _ := fun ty => Lib.run_next_any_at wr w.heap.size s pos ty hit hps
      have hrl := Lib.rune_le s pos
      have hwd := Lib.width_pos s pos
      obtain ⟨b, hb⟩ : ∃ b, l[pos]? = some b := ⟨l[pos]'(by omega), List.getElem?_eq_getElem (by omega)⟩
      have hdd : isD b = true → (Utf8.decode s pos).1 = b.toNat ∧ (Utf8.decode s pos).2 = 1 := fun h => by rw [hs, decode_digit l pos b hb h]; exact ⟨rfl, rfl⟩
      have hdo : isD b = false → (Utf8.decode s pos).1 < 48 ∨ 57 < (Utf8.decode s pos).1 := fun h => by rw [hs]; exact decode_other l pos b hb h
      obtain ⟨R, hR⟩ : ∃ R, (Utf8.decode s pos).1 = R := ⟨_, rfl⟩
      obtain ⟨K, hK⟩ : ∃ K, (Utf8.decode s pos).2 = K := ⟨_, rfl⟩
      rw [hR, hK] at hnx hdd
      rw [hR] at hrl hdo
      have hit2 := Lib.iterAt_heap wr w.heap.size s pos (pos + K) hit
      have hbw2 := Lib.below_iterAt hbw (k := w.heap.size) (Nat.le_refl _) s (pos + K)
      obtain ⟨W, hWd⟩ : ∃ W, wr.iterAt w.heap.size s (pos + K) = W := ⟨_, rfl⟩
      rw [hWd] at hnx hit2 hbw2
      have cS := notDigit_any R W hrl
      clear hR hK hwd hWd
      cases hsp : isD b
      · have ho := hdo hsp
        have hp : (decide (R < 48) || decide (57 < R)) = true := by simpa using ho
        rw [hp] at cS
        have hfin : decide ((0 : Int) ≤ (pos : Int)) = !l.all isD := by
          have : l.all isD = false := by
            rw [List.all_eq_false]
            exact ⟨b, List.mem_of_getElem? hb, by rw [hsp]; simp⟩
          rw [this]; simp
        clear hdd hdo ho hp hb hs hsz
        go_wp2_with fail
        refine cS.mono ?_
        rintro e W' ⟨rfl, rfl⟩
        go_wp2_with fail
        go_ret
        exact ⟨_, rfl, hfin, hbw2⟩
      · obtain ⟨hR1, hK1⟩ := hdd hsp
        have hp : (decide (R < 48) || decide (57 < R)) = false := by
          unfold isD at hsp
          simp only [Bool.and_eq_true, decide_eq_true_eq] at hsp
          simp; omega
        rw [hp] at cS
        have hall2 : ∀ i c, i < pos + K → l[i]? = some c → isD c = true := by
          intro i c hi hc
          by_cases hip : i < pos
          · exact hall i c hip hc
          · have : i = pos := by omega
            subst this
            rw [hb] at hc; injection hc with hc; subst hc; exact hsp
        have HK := Lib.hid hK1
        clear hdd hdo hp hb hs hR1 hK1 hall hsz
        go_wp2_with fail
        refine cS.mono ?_
        rintro e W' ⟨rfl, rfl⟩
        go_wp2_with fail
        go_roundg g'
        case measure => omega
        case rel => have hK1 := HK.out; exact ⟨pos + K, hit2, hbw2, hall2, by omega, by omega⟩
    · have hnx : ∀ ty, (Instr.next (.pointer (some ⟨w.heap.size, 0, none⟩)) true ty).run Try.prog wr = _ := fun ty => Lib.run_next_end_at wr w.heap.size s pos ty hit hps
      have hfin : decide ((0 : Int) ≤ -1) = !l.all isD := by
        have : l.all isD = true := by
          rw [List.all_eq_true]
          intro b hb
          obtain ⟨i, hi⟩ := List.mem_iff_getElem?.1 hb
          have := (List.getElem?_eq_some_iff.1 hi).1
          exact hall i b (by omega) hi
        rw [this]; rfl
      clear hs hsz
      go_wp2
      go_ret
      exact ⟨_, rfl, hfin, hbw⟩

set_option maxRecDepth 100000 in
theorem indexFuncTop_any (l : Str) (w : World) (hl : l.length ≤ maxLen) :
    Calls Try.prog 54 #[str l, .func (.func 49) #[] #[]] w fun e w' =>
      ∃ r : Int, e = .returned (.int .i64 r) ∧ decide (0 ≤ r) = !l.all isD ∧ Below w.heap.size w w' := by
  have hc := indexFunc_any l w hl
  unfold str at hc ⊢
  obtain ⟨q, hq⟩ : ∃ q : Bool, (!l.all isD) = q := ⟨_, rfl⟩
  rw [hq] at hc ⊢
  clear hq
  go_enter Try.func54, Try.ntmps54
  go_wp2_with fail
  refine hc.mono ?_
  rintro e w' ⟨r, rfl, hr, hb⟩
  have HR := Lib.hid hr
  clear hr hc
  go_wp2_with fail
  go_ret
  exact ⟨r, rfl, HR.out, hb⟩

set_option maxRecDepth 100000 in
theorem containsFunc_any (l : Str) (w : World) (hl : l.length ≤ maxLen) :
    Calls Try.prog 50 #[str l, .func (.func 49) #[] #[]] w fun e w' =>
      e = .returned (.bool (!l.all isD)) ∧ Below w.heap.size w w' := by
  have hc := indexFuncTop_any l w hl
  unfold str at hc ⊢
  obtain ⟨q, hq⟩ : ∃ q : Bool, (!l.all isD) = q := ⟨_, rfl⟩
  rw [hq] at hc ⊢
  clear hq
  go_enter Try.func50, Try.ntmps50
  go_wp2_with fail
  refine hc.mono ?_
  rintro e w' ⟨r, rfl, hr, hb⟩
  have HR := Lib.hid hr
  clear hr hc
  go_wp2_with fail
  go_ret
  exact ⟨ret_bool HR.out, hb⟩


set_option maxRecDepth 100000 in
theorem isDigits_any (l : Str) (w : World) (hl : l.length ≤ maxLen) :
    Calls Try.prog 44 #[str l] w fun e w' => e = .returned (.bool (l.all isD)) ∧ Below w.heap.size w w' := by
  have hc := containsFunc_any l w hl
  unfold str at hc ⊢
  obtain ⟨q, hq⟩ : ∃ q : Bool, l.all isD = q := ⟨_, rfl⟩
  rw [hq] at hc ⊢
  clear hq
  go_enter Try.func44, Try.ntmps44
  go_wp2_with fail
  refine hc.mono ?_
  rintro e w' ⟨rfl, hb⟩
  go_wp2_with fail
  go_ret
  exact ⟨ret_bool (by cases q <;> rfl), hb⟩
end Go.Proofs.Ytippbkooaonajaa
