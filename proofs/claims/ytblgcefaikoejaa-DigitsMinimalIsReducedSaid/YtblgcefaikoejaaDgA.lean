/-
  Walks of the program's functions on strings of digits: the predicates, prefixes, Valid, reached, Normalize.
-/
import Derived.Test.YtblgcefaikoejaaDig
import Derived.Test.YtblgcefaikoejaaMem
import Derived.Test.YtblgcefaikoejaaGen
import Derived.Test.YtblgcefaikoejaaPlk
import Derived.Lib.OthersKept
import Derived.Lib.TrimU
import Derived.Deep.LoopGhost
namespace Go.Proofs.Ytblgcefaikoejaa
open Go.RowKit Dg
set_option linter.unusedVariables false
set_option linter.unusedSimpArgs false

theorem ret_bool {a b : Bool} (h : a = b) : Ending.returned (.bool a) = .returned (.bool b) := by rw [h]
theorem str_size (l : Str) : (⟨l.toArray⟩ : ByteArray).size = l.length := by simp [ByteArray.size]
theorem str_cut (l : Str) (i j : Nat) : (⟨l.toArray⟩ : ByteArray).extract i j = ⟨((l.take j).drop i).toArray⟩ := by
  apply ByteArray.ext
  rw [ByteArray.data_extract]
  simp [List.drop_take]
theorem str_list (l : Str) : (⟨l.toArray⟩ : ByteArray).toList = l := by simp
theorem str_add (l m : Str) : (⟨l.toArray⟩ : ByteArray) ++ ⟨m.toArray⟩ = ⟨(l ++ m).toArray⟩ := by
  apply ByteArray.ext
  simp

theorem str_get (l : Str) (i : Nat) (b : UInt8) (h : l[i]? = some b) : (⟨l.toArray⟩ : ByteArray).get! i = b := by
  show (l.toArray)[i]! = b
  obtain ⟨hi, rfl⟩ := List.getElem?_eq_some_iff.1 h
  simp [hi]

theorem decode_digit (l : Str) (i : Nat) (b : UInt8) (h : l[i]? = some b) (hb : isD b = true) : Utf8.decode ⟨l.toArray⟩ i = (b.toNat, 1) := by
  rw [Lib.decode_at, str_get l i b h]
  unfold isD at hb
  simp only [Bool.and_eq_true, decide_eq_true_eq] at hb
  unfold Lib.decodeN
  rw [if_pos (by omega)]

theorem decode_other (l : Str) (i : Nat) (b : UInt8) (h : l[i]? = some b) (hb : isD b = false) : (Utf8.decode ⟨l.toArray⟩ i).1 < 48 ∨ 57 < (Utf8.decode ⟨l.toArray⟩ i).1 := by
  rw [Lib.decode_at, str_get l i b h]
  have hb : ¬ (48 ≤ b.toNat ∧ b.toNat ≤ 57) := by
    intro hc
    unfold isD at hb
    simp [hc.1, hc.2] at hb
  unfold Lib.decodeN
  repeat' split
  all_goals (simp only; omega)

set_option maxRecDepth 100000 in
theorem hasPrefixLite_any (s p : Str) (w : World) (hs : s.length ≤ maxLen) (hp : p.length ≤ maxLen) :
    Calls Try.prog 57 #[str s, str p] w fun e w' => e = .returned (.bool (pre p s)) ∧ w' = w := by
  unfold str
  by_cases h : p.length ≤ s.length
  · go_enter Try.func57, Try.ntmps57
    go_wp2_with fail
    rw [str_cut]
    go_ret
    refine ⟨?_, rfl⟩
    unfold pre
    simp [h]
  · go_enter Try.func57, Try.ntmps57
    go_wp2_with fail
    go_ret
    refine ⟨?_, rfl⟩
    unfold pre
    simp [h]

set_option maxRecDepth 100000 in
theorem hasPrefix_any (s p : Str) (w : World) (hs : s.length ≤ maxLen) (hp : p.length ≤ maxLen) :
    Calls Try.prog 42 #[str s, str p] w fun e w' => e = .returned (.bool (pre p s)) ∧ w' = w := by
  have hc := hasPrefixLite_any s p w hs hp
  unfold str at hc ⊢
  go_enter Try.func42, Try.ntmps42
  go_wp2_with fail
  refine hc.mono ?_
  rintro e w' ⟨rfl, rfl⟩
  go_wp2_with fail
  go_ret
  exact ⟨rfl, rfl⟩

/-- What strings.CutPrefix answers. -/
def cutp (p s : Str) : Value := .tuple #[str (if pre p s = true then s.drop p.length else s), .bool (pre p s)]

set_option maxRecDepth 100000 in
theorem cutPrefixLite_any (s p : Str) (w : World) (hs : s.length ≤ maxLen) (hp : p.length ≤ maxLen) :
    Calls Try.prog 59 #[str s, str p] w fun e w' => e = .returned (cutp p s) ∧ w' = w := by
  have hc := hasPrefixLite_any s p w hs hp
  unfold cutp
  by_cases h : pre p s = true
  · rw [h] at hc ⊢
    have hl : p.length ≤ s.length := (pre_iff.1 h).length_le
    unfold str at hc ⊢
    go_enter Try.func59, Try.ntmps59
    go_wp2_with fail
    refine hc.mono ?_
    rintro e w' ⟨rfl, rfl⟩
    go_wp2_with fail
    rw [str_cut]
    go_ret2
    refine ⟨?_, rfl⟩
    simp
  · have h' : pre p s = false := by simpa using h
    rw [h'] at hc ⊢
    unfold str at hc ⊢
    go_enter Try.func59, Try.ntmps59
    go_wp2_with fail
    refine hc.mono ?_
    rintro e w' ⟨rfl, rfl⟩
    go_wp2_with fail
    go_ret2
    exact ⟨rfl, rfl⟩

set_option maxRecDepth 100000 in
theorem cutPrefix_any (s p : Str) (w : World) (hs : s.length ≤ maxLen) (hp : p.length ≤ maxLen) :
    Calls Try.prog 46 #[str s, str p] w fun e w' => e = .returned (cutp p s) ∧ w' = w := by
  have hc := cutPrefixLite_any s p w hs hp
  unfold cutp str at hc ⊢
  obtain ⟨q, hq⟩ : ∃ q : Str, (if pre p s = true then s.drop p.length else s) = q := ⟨_, rfl⟩
  obtain ⟨b, hb⟩ : ∃ b, pre p s = b := ⟨_, rfl⟩
  rw [hq, hb] at hc ⊢
  clear hq hb
  go_enter Try.func46, Try.ntmps46
  go_wp2_with fail
  refine hc.mono ?_
  rintro e w' ⟨rfl, rfl⟩
  go_wp2_with fail
  go_ret2
  exact ⟨rfl, rfl⟩

/-! ### The predicates -/
set_option maxRecDepth 100000 in
theorem notDigit_any (r : Nat) (w : World) (hr : r ≤ 1114111) :
    Calls Try.prog 43 #[.int .i32 (r : Int)] w fun e w' => e = .returned (.bool (decide (r < 48) || decide (57 < r))) ∧ w' = w := by
  by_cases h : r < 48
  · have hb : decide (r < 48) = true := decide_eq_true h
    go_enter Try.func43, Try.ntmps43
    go_wp2_with fail
    go_ret
    exact ⟨ret_bool (by first | simp [hb]; done | (rw [Bool.eq_iff_iff]; simp only [Bool.or_eq_true, decide_eq_true_eq, Bool.true_eq, true_iff, Bool.false_eq_true, false_iff]; omega)), rfl⟩
  · have hb : decide (r < 48) = false := decide_eq_false h
    go_enter Try.func43, Try.ntmps43
    go_wp2_with fail
    go_ret
    exact ⟨ret_bool (by first | simp [hb]; done | (rw [Bool.eq_iff_iff]; simp only [Bool.or_eq_true, decide_eq_true_eq, Bool.true_eq, true_iff, Bool.false_eq_true, false_iff]; omega)), rfl⟩

set_option maxHeartbeats 2000000 in
set_option maxRecDepth 1000000 in
theorem indexFunc_any (l : Str) (w : World) (hl : l.length ≤ maxLen) :
    Calls Try.prog 64 #[str l, .func (.func 43) #[] #[], .bool true] w fun e w' =>
      ∃ r : Int, e = .returned (.int .i64 r) ∧ decide (0 ≤ r) = !l.all isD ∧ Below w.heap.size w w' := by
  unfold str
  obtain ⟨s, hs⟩ : ∃ s : ByteArray, s = ⟨l.toArray⟩ := ⟨_, rfl⟩
  have hsz : s.size = l.length := by rw [hs]; exact str_size l
  rw [← hs]
  have HS := Lib.hid hs
  have HZ := Lib.hid hsz
  clear hs hsz
  go_enter Try.func64, Try.ntmps64
  go_wp2
  go_loopg [] s.size (fun gf wx => ∃ pos : Nat, wx.heap[w.heap.size]? = some (.stringIter s pos) ∧ Below w.heap.size w wx ∧ (∀ i b, i < pos → l[i]? = some b → isD b = true) ∧ pos ≤ s.size ∧ s.size ≤ pos + gf)
  case atStart => exact ⟨0, World.iter_heap w s 0, (Below.refl _ w).alloc (Nat.le_refl _) _, fun i b hi => absurd hi (by omega), Nat.zero_le _, by omega⟩
  case round =>
    obtain ⟨pos, hit, hbw, hall, hle, hfu⟩ := hrel
    have hs := HS.out
    have hsz := HZ.out
    by_cases hps : pos < s.size
    · obtain ⟨g', rfl⟩ : ∃ g', gk = g' + 1 := ⟨gk - 1, by omega⟩
      have hnx : ∀ ty, (Instr.next (.pointer (some ⟨w.heap.size, 0, none⟩)) true ty).run Try.prog wr = _ := fun ty => Lib.run_next_any_at wr w.heap.size s pos ty hit hps
      have hrl := Lib.rune_le s pos
      have hwd := Lib.width_pos s pos
      obtain ⟨b, hb⟩ : ∃ b, l[pos]? = some b := ⟨l[pos]'(by omega), List.getElem?_eq_getElem (by omega)⟩
      have hdd : isD b = true → (Utf8.decode s pos).1 = b.toNat ∧ (Utf8.decode s pos).2 = 1 := fun h => by rw [hs, decode_digit l pos b hb h]; exact ⟨rfl, rfl⟩
      have hdo : isD b = false → (Utf8.decode s pos).1 < 48 ∨ 57 < (Utf8.decode s pos).1 := fun h => by rw [hs]; exact decode_other l pos b hb h
      obtain ⟨R, hR⟩ : ∃ R, (Utf8.decode s pos).1 = R := ⟨_, rfl⟩
      obtain ⟨K, hK⟩ : ∃ K, (Utf8.decode s pos).2 = K := ⟨_, rfl⟩
      rw [hR, hK] at hnx hdd
      rw [hR] at hrl hdo
      have hit2 := Lib.iterAt_heap wr w.heap.size s pos (pos + K) hit
      have hbw2 := Lib.below_iterAt hbw (k := w.heap.size) (Nat.le_refl _) s (pos + K)
      obtain ⟨W, hWd⟩ : ∃ W, wr.iterAt w.heap.size s (pos + K) = W := ⟨_, rfl⟩
      rw [hWd] at hnx hit2 hbw2
      have cS := notDigit_any R W hrl
      clear hR hK hwd hWd
      cases hsp : isD b
      · have ho := hdo hsp
        have hp : (decide (R < 48) || decide (57 < R)) = true := by simpa using ho
        rw [hp] at cS
        have hfin : decide ((0 : Int) ≤ (pos : Int)) = !l.all isD := by
          have : l.all isD = false := by
            rw [List.all_eq_false]
            exact ⟨b, List.mem_of_getElem? hb, by rw [hsp]; simp⟩
          rw [this]; simp
        clear hdd hdo ho hp hb hs hsz
        go_wp2_with fail
        refine cS.mono ?_
        rintro e W' ⟨rfl, rfl⟩
        go_wp2_with fail
        go_ret
        exact ⟨_, rfl, hfin, hbw2⟩
      · obtain ⟨hR1, hK1⟩ := hdd hsp
        have hp : (decide (R < 48) || decide (57 < R)) = false := by
          unfold isD at hsp
          simp only [Bool.and_eq_true, decide_eq_true_eq] at hsp
          simp; omega
        rw [hp] at cS
        have hall2 : ∀ i c, i < pos + K → l[i]? = some c → isD c = true := by
          intro i c hi hc
          by_cases hip : i < pos
          · exact hall i c hip hc
          · have : i = pos := by omega
            subst this
            rw [hb] at hc; injection hc with hc; subst hc; exact hsp
        have HK := Lib.hid hK1
        clear hdd hdo hp hb hs hR1 hK1 hall hsz
        go_wp2_with fail
        refine cS.mono ?_
        rintro e W' ⟨rfl, rfl⟩
        go_wp2_with fail
        go_roundg g'
        case measure => omega
        case rel => have hK1 := HK.out; exact ⟨pos + K, hit2, hbw2, hall2, by omega, by omega⟩
    · have hnx : ∀ ty, (Instr.next (.pointer (some ⟨w.heap.size, 0, none⟩)) true ty).run Try.prog wr = _ := fun ty => Lib.run_next_end_at wr w.heap.size s pos ty hit hps
      have hfin : decide ((0 : Int) ≤ -1) = !l.all isD := by
        have : l.all isD = true := by
          rw [List.all_eq_true]
          intro b hb
          obtain ⟨i, hi⟩ := List.mem_iff_getElem?.1 hb
          have := (List.getElem?_eq_some_iff.1 hi).1
          exact hall i b (by omega) hi
        rw [this]; rfl
      clear hs hsz
      go_wp2
      go_ret
      exact ⟨_, rfl, hfin, hbw⟩

set_option maxRecDepth 100000 in
theorem indexFuncTop_any (l : Str) (w : World) (hl : l.length ≤ maxLen) :
    Calls Try.prog 58 #[str l, .func (.func 43) #[] #[]] w fun e w' =>
      ∃ r : Int, e = .returned (.int .i64 r) ∧ decide (0 ≤ r) = !l.all isD ∧ Below w.heap.size w w' := by
  have hc := indexFunc_any l w hl
  unfold str at hc ⊢
  obtain ⟨q, hq⟩ : ∃ q : Bool, (!l.all isD) = q := ⟨_, rfl⟩
  rw [hq] at hc ⊢
  clear hq
  go_enter Try.func58, Try.ntmps58
  go_wp2_with fail
  refine hc.mono ?_
  rintro e w' ⟨r, rfl, hr, hb⟩
  have HR := Lib.hid hr
  clear hr hc
  go_wp2_with fail
  go_ret
  exact ⟨r, rfl, HR.out, hb⟩

set_option maxRecDepth 100000 in
theorem containsFunc_any (l : Str) (w : World) (hl : l.length ≤ maxLen) :
    Calls Try.prog 45 #[str l, .func (.func 43) #[] #[]] w fun e w' =>
      e = .returned (.bool (!l.all isD)) ∧ Below w.heap.size w w' := by
  have hc := indexFuncTop_any l w hl
  unfold str at hc ⊢
  obtain ⟨q, hq⟩ : ∃ q : Bool, (!l.all isD) = q := ⟨_, rfl⟩
  rw [hq] at hc ⊢
  clear hq
  go_enter Try.func45, Try.ntmps45
  go_wp2_with fail
  refine hc.mono ?_
  rintro e w' ⟨r, rfl, hr, hb⟩
  have HR := Lib.hid hr
  clear hr hc
  go_wp2_with fail
  go_ret
  exact ⟨ret_bool HR.out, hb⟩

theorem size_fn : (Try.prog.info? 54).map (·.size) = some 1 := by kernel_rfl
set_option maxRecDepth 100000 in
theorem ds_any (l : Str) (a b c lo hi : Nat) (w : World) (hl : l.length ≤ maxLen) (hlo : lo ≤ 1) (hhi : hi ≤ 20) (h1 : w.cell? ⟨a, 0, none⟩ = some (.int .i64 lo)) (h2 : w.cell? ⟨b, 0, none⟩ = some (.int .i64 hi))
    (h3 : w.cell? ⟨c, 0, none⟩ = some (.func (.func 43) #[] #[])) :
    Calls Try.prog 44 #[str l, .pointer (some ⟨a, 0, none⟩), .pointer (some ⟨b, 0, none⟩), .pointer (some ⟨c, 0, none⟩)] w fun e w' => e = .returned (.bool (num lo hi l)) ∧ Below w.heap.size w w' := by
  have hc := containsFunc_any l w hl
  unfold str at hc ⊢
  unfold num
  by_cases k1 : lo ≤ l.length
  · by_cases k2 : l.length ≤ hi
    · rw [decide_eq_true k1, decide_eq_true k2, Bool.true_and, Bool.true_and]
      obtain ⟨q, hq⟩ : ∃ q : Bool, l.all isD = q := ⟨_, rfl⟩
      rw [hq] at hc ⊢
      clear hq
      go_enter Try.func44, Try.ntmps44
      go_wp2_with fail
      refine hc.mono ?_
      rintro e w' ⟨rfl, hb⟩
      go_wp2_with fail
      go_ret
      exact ⟨ret_bool (by cases q <;> rfl), hb⟩
    · rw [decide_eq_false k2, Bool.false_and, Bool.and_false]
      clear hc
      go_enter Try.func44, Try.ntmps44
      go_wp2_with fail
      go_ret
      exact ⟨rfl, Below.refl _ _⟩
  · rw [decide_eq_false k1, Bool.false_and]
    clear hc
    go_enter Try.func44, Try.ntmps44
    go_wp2_with fail
    go_ret
    exact ⟨rfl, Below.refl _ _⟩

set_option maxRecDepth 100000 in
theorem digitString_any (lo hi : Nat) (w : World) (hlo : lo ≤ 1) (hhi : hi ≤ 20) :
    Calls Try.prog 29 #[.int .i64 (lo : Int), .int .i64 (hi : Int)] w fun e w' => ∃ a b c : Nat, e = .returned (.func (.func 44) #[] #[.pointer (some ⟨a, 0, none⟩), .pointer (some ⟨b, 0, none⟩), .pointer (some ⟨c, 0, none⟩)]) ∧
      w'.cell? ⟨a, 0, none⟩ = some (.int .i64 lo) ∧ w'.cell? ⟨b, 0, none⟩ = some (.int .i64 hi) ∧ w'.cell? ⟨c, 0, none⟩ = some (.func (.func 43) #[] #[]) ∧ Below w.heap.size w w' := by
  go_enter Try.func29, Try.ntmps29
  go_wp2_with (refine wp_storeC 54 (.tmp 5) (.func 43) rfl rfl (w.heap.size + 1 + 1) 0 rfl 54 [.nilFunc] (.func (.func 43) #[] #[]) rfl rfl rfl (by simpa using Blk.new ((w.alloc (.cells #[.int .i64 (lo : Int)] 3)).alloc (.cells #[.int .i64 (hi : Int)] 3)) 54 [.nilFunc]) (by simp) size_fn rfl ?_; intro w3 k3 kp3)
  go_ret
  have hA : Blk (w.alloc (.cells #[.int .i64 (lo : Int)] 3)) w.heap.size 3 [.int .i64 (lo : Int)] := Blk.new _ _ _
  have hB : Blk ((w.alloc (.cells #[.int .i64 (lo : Int)] 3)).alloc (.cells #[.int .i64 (hi : Int)] 3)) (w.heap.size + 1) 3 [.int .i64 (hi : Int)] := by
    have := Blk.new (w.alloc (.cells #[.int .i64 (lo : Int)] 3)) 3 [.int .i64 (hi : Int)]
    simpa using this
  have a1 := (Below.refl (w.heap.size + 1) (w.alloc (.cells #[.int .i64 (lo : Int)] 3))).alloc (by simp) (.cells #[.int .i64 (hi : Int)] 3)
  have hA2 := hA.past a1 (by omega)
  have a2 := (Below.refl (w.heap.size + 1 + 1) ((w.alloc (.cells #[.int .i64 (lo : Int)] 3)).alloc (.cells #[.int .i64 (hi : Int)] 3))).alloc (by simp) (.cells #[.nilFunc] 54)
  refine ⟨_, _, _, rfl, ((hA2.past a2 (by omega)).keep kp3 (by omega)).cell rfl, ((hB.past a2 (by omega)).keep kp3 (by omega)).cell rfl, k3.cell rfl, ?_⟩
  exact ((((Below.refl _ w).alloc (Nat.le_refl _) _).alloc (by simp) _).alloc (by simp; omega) _).trans (kp3.below (fun k hk => by omega) (by simp; omega))

set_option maxRecDepth 100000 in
theorem valid_any (l : Str) (w : World) (hl : l.length ≤ maxLen) :
    Calls Try.prog 18 #[str l] w fun e w' => e = .returned (.bool (num 1 15 l)) ∧ Below w.heap.size w w' := by
  unfold str
  go_enter Try.func18, Try.ntmps18
  go_wp2_with fail
  refine (digitString_any 1 15 w (by omega) (by omega)).mono ?_
  rintro e w1 ⟨a, b, c, rfl, c1, c2, c3, b1⟩
  have hc := ds_any l a b c 1 15 w1 hl (by omega) (by omega) c1 c2 c3
  clear c1 c2 c3
  unfold str at hc
  go_wp2_with fail
  refine hc.mono ?_
  rintro e w2 ⟨rfl, b2⟩
  go_wp2_with fail
  go_ret
  exact ⟨rfl, b1.trans (b2.mono b1.size)⟩

set_option maxRecDepth 100000 in
theorem reached_any (d c a : Str) (w : World) (hd : d.length ≤ 1000) (hc : c.length ≤ 1000) (ha : a.length ≤ 1000) :
    Calls Try.prog 30 #[str d, str c, str a] w fun e w' => e = .returned (str (reached d c a)) ∧ w' = w := by
  have c2 := cutPrefix_any d [48, 48] w (by simp only [maxLen]; omega) (by simp [maxLen])
  have c1 := cutPrefix_any d [48] w (by simp only [maxLen]; omega) (by simp [maxLen])
  unfold reached
  unfold cutp at c1 c2
  by_cases h2 : pre [48, 48] d = true
  · rw [if_pos h2]
    rw [h2, if_pos rfl] at c2
    clear c1
    unfold str at c2 ⊢
    go_enter Try.func30, Try.ntmps30
    go_wp2_with fail
    refine c2.mono ?_
    rintro e w' ⟨rfl, rfl⟩
    go_wp2_with fail
    go_ret
    exact ⟨rfl, rfl⟩
  · have h2' : pre [48, 48] d = false := by simpa using h2
    rw [if_neg h2]
    rw [h2', if_neg (by simp)] at c2
    by_cases h1 : pre [48] d = true
    · rw [if_pos h1]
      rw [h1, if_pos rfl] at c1
      have hd1 : (d.drop 1).length ≤ 1000 := by simp; omega
      have e1 : d.drop ([48] : Str).length = d.drop 1 := rfl
      rw [e1] at c1
      obtain ⟨q, hq⟩ : ∃ q, d.drop 1 = q := ⟨_, rfl⟩
      rw [hq] at c1 hd1 ⊢
      clear hq e1
      unfold str at c1 c2 ⊢
      go_enter Try.func30, Try.ntmps30
      go_wp2_with fail
      refine c2.mono ?_
      rintro e w' ⟨rfl, rfl⟩
      go_wp2_with fail
      refine c1.mono ?_
      rintro e w' ⟨rfl, rfl⟩
      go_wp2_with fail
      simp only [str_add]
      go_ret
      exact ⟨rfl, rfl⟩
    · have h1' : pre [48] d = false := by simpa using h1
      rw [if_neg h1]
      rw [h1', if_neg (by simp)] at c1
      unfold str at c1 c2 ⊢
      go_enter Try.func30, Try.ntmps30
      go_wp2_with fail
      refine c2.mono ?_
      rintro e w' ⟨rfl, rfl⟩
      go_wp2_with fail
      refine c1.mono ?_
      rintro e w' ⟨rfl, rfl⟩
      go_wp2_with fail
      simp only [str_add]
      go_ret
      exact ⟨rfl, rfl⟩

end Go.Proofs.Ytblgcefaikoejaa
