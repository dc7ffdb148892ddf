/-
  Plain mathematics of byte-stuffed frames: stuffing, unstuffing, the contents between flags, what a scan of a stream gives.
-/
import Derived.Test.YtokjlcajcflhgaaCrc
namespace Go.Proofs.Ytokjlcajcflhgaa
set_option linter.unusedVariables false
set_option linter.unusedSimpArgs false

def spec (c : UInt8) : Bool := c == 126 || c == 125
def one (c : UInt8) : List UInt8 := if spec c = true then [125, c ^^^ 32] else [c]
def stuff : List UInt8 → List UInt8
  | [] => []
  | c :: l => one c ++ stuff l
def tail2 (n : Nat) : List UInt8 := [b8 (n % 256), b8 (n / 256)]
/-- The frame of l with check sequence n. -/
def frm (l : List UInt8) (n : Nat) : List UInt8 := 126 :: (stuff (l ++ tail2 n) ++ [126])

theorem spec_or {c : UInt8} (h : spec c = true) : c = 126 ∨ c = 125 := by simpa [spec] using h
theorem spec_no {c : UInt8} (h : spec c = false) : c ≠ 126 ∧ c ≠ 125 := by simpa [spec] using h
theorem xor32_back (c : UInt8) : (c ^^^ 32) ^^^ 32 = c := by rw [UInt8.xor_assoc, UInt8.xor_self, UInt8.xor_zero]

theorem one_length (c : UInt8) : 1 ≤ (one c).length ∧ (one c).length ≤ 2 := by unfold one; split <;> simp
theorem stuff_append : ∀ (l m : List UInt8), stuff (l ++ m) = stuff l ++ stuff m
  | [], _ => rfl
  | c :: l, m => by simp [stuff, stuff_append l m]
theorem stuff_snoc (l : List UInt8) (c : UInt8) : stuff (l ++ [c]) = stuff l ++ one c := by rw [stuff_append]; simp [stuff]
theorem stuff_length : ∀ (l : List UInt8), l.length ≤ (stuff l).length ∧ (stuff l).length ≤ 2 * l.length
  | [] => by simp [stuff]
  | c :: l => by
    have h := stuff_length l
    have h1 := one_length c
    simp only [stuff, List.length_append, List.length_cons]; omega
theorem stuff_take {l : List UInt8} {k : Nat} {c : UInt8} (h : l[k]? = some c) : stuff (l.take (k + 1)) = stuff (l.take k) ++ one c := by
  rw [List.take_add_one, h]; exact stuff_snoc _ _

/-- No flag. -/
def Bare (l : List UInt8) : Prop := ∀ c ∈ l, c ≠ 126
theorem Bare.nil : Bare [] := fun c h => by cases h
theorem Bare.append {l m : List UInt8} (h : Bare l) (k : Bare m) : Bare (l ++ m) := fun c hc => by
  rcases List.mem_append.1 hc with h1 | h1
  · exact h c h1
  · exact k c h1
theorem one_bare (c : UInt8) : Bare (one c) := by
  unfold one
  by_cases h : spec c = true
  · rw [if_pos h]
    rcases spec_or h with rfl | rfl <;> (intro c hc; simp at hc; rcases hc with rfl | rfl <;> decide)
  · rw [if_neg h]
    intro d hd
    simp at hd; subst hd
    exact (spec_no (by simpa using h)).1
theorem stuff_bare : ∀ (l : List UInt8), Bare (stuff l)
  | [] => Bare.nil
  | c :: l => (one_bare c).append (stuff_bare l)

/-! ### Unstuffing -/
/-- As the program does it: with the room of 4098 bytes. -/
def un : Bool → List UInt8 → List UInt8 → Option (List UInt8)
  | e, acc, [] => if e = true then none else some acc
  | e, acc, c :: l => if acc.length = 4098 then none else if e = true then (if spec (c ^^^ 32) = true then un false (acc ++ [c ^^^ 32]) l else none) else if c = 125 then un true acc l else un false (acc ++ [c]) l
/-- Without a bound. -/
def un0 : Bool → List UInt8 → List UInt8 → Option (List UInt8)
  | e, acc, [] => if e = true then none else some acc
  | e, acc, c :: l => if e = true then (if spec (c ^^^ 32) = true then un0 false (acc ++ [c ^^^ 32]) l else none) else if c = 125 then un0 true acc l else un0 false (acc ++ [c]) l

theorem un0_long : ∀ (l : List UInt8) (e : Bool) (acc r : List UInt8), un0 e acc l = some r → acc.length ≤ r.length ∧ (l ≠ [] → acc.length < r.length)
  | [], e, acc, r, h => by
    unfold un0 at h
    cases e <;> simp at h
    subst h; exact ⟨Nat.le_refl _, fun h => absurd rfl h⟩
  | c :: l, e, acc, r, h => by
    unfold un0 at h
    cases e with
    | true =>
      simp only [if_true] at h
      by_cases hs : spec (c ^^^ 32) = true
      · rw [if_pos hs] at h
        have := (un0_long l _ _ _ h).1
        simp at this
        exact ⟨by omega, fun _ => by omega⟩
      · rw [if_neg hs] at h; cases h
    | false =>
      simp only [Bool.false_eq_true, if_false] at h
      by_cases hc : c = 125
      · rw [if_pos hc] at h
        have h1 := un0_long l _ _ _ h
        have hl : l ≠ [] := by intro e; subst e; simp [un0] at h
        exact ⟨h1.1, fun _ => h1.2 hl⟩
      · rw [if_neg hc] at h
        have := (un0_long l _ _ _ h).1
        simp at this
        exact ⟨by omega, fun _ => by omega⟩

theorem un_bound : ∀ (l : List UInt8) (e : Bool) (acc : List UInt8), acc.length ≤ 4098 → (e = true → acc.length < 4098) →
    un e acc l = (un0 e acc l).bind fun r => if r.length ≤ 4098 then some r else none
  | [], e, acc, h, _ => by unfold un un0; cases e <;> simp [h]
  | c :: l, e, acc, h, he => by
    by_cases h98 : acc.length = 4098
    · have e0 : e = false := by cases e with | false => rfl | true => have := he rfl; omega
      subst e0
      have : un false acc (c :: l) = none := by unfold un; rw [if_pos h98]
      rw [this]
      cases hr : un0 false acc (c :: l) with
      | none => rfl
      | some r =>
        have := (un0_long _ _ _ _ hr).2 (by simp)
        simp; omega
    · have hlt : acc.length < 4098 := by omega
      unfold un un0
      rw [if_neg h98]
      cases e with
      | true =>
        simp only [if_true]
        by_cases hs : spec (c ^^^ 32) = true
        · rw [if_pos hs, if_pos hs]; exact un_bound l _ _ (by simp; omega) (by simp)
        · rw [if_neg hs, if_neg hs]; rfl
      | false =>
        simp only [Bool.false_eq_true, if_false]
        by_cases hc : c = 125
        · rw [if_pos hc, if_pos hc]; exact un_bound l _ _ h (fun _ => hlt)
        · rw [if_neg hc, if_neg hc]; exact un_bound l _ _ (by simp; omega) (by simp)

/-- The well-formed content's plain form. -/
def unst (l : List UInt8) : Option (List UInt8) := (un false [] l).bind fun r => if r.length < 2 then none else some r
def unst0 (l : List UInt8) : Option (List UInt8) := (un0 false [] l).bind fun r => if r.length < 2 ∨ 4098 < r.length then none else some r
theorem unst_eq (l : List UInt8) : unst l = unst0 l := by
  unfold unst unst0
  rw [un_bound l false [] (by simp) (by simp)]
  cases un0 false [] l with
  | none => rfl
  | some r =>
    simp only [Option.bind_some]
    by_cases h : r.length ≤ 4098
    · rw [if_pos h]
      simp only [Option.bind_some]
      by_cases h2 : r.length < 2
      · rw [if_pos h2, if_pos (Or.inl h2)]
      · rw [if_neg h2, if_neg (by omega)]
    · rw [if_neg h, if_pos (Or.inr (by omega))]; rfl

theorem unst_length {l w : List UInt8} (h : unst l = some w) : 2 ≤ w.length ∧ w.length ≤ 4098 := by
  rw [unst_eq] at h
  unfold unst0 at h
  cases hu : un0 false [] l with
  | none => rw [hu] at h; cases h
  | some r =>
    rw [hu] at h
    simp only [Option.bind_some] at h
    by_cases hc : r.length < 2 ∨ 4098 < r.length
    · rw [if_pos hc] at h; cases h
    · rw [if_neg hc] at h; injection h with h; subst h; omega

/-- The payload of a plain form, if its last two bytes check it. -/
def pay (w : List UInt8) : Option (List UInt8) :=
  if (w.getD (w.length - 2) 0).toNat + 256 * (w.getD (w.length - 1) 0).toNat = fcsN (w.take (w.length - 2)) then some (w.take (w.length - 2)) else none
def dcd (l : List UInt8) : Option (List UInt8) := (unst l).bind pay

theorem un_stuff : ∀ (l acc : List UInt8), acc.length + l.length ≤ 4098 → un false acc (stuff l) = some (acc ++ l)
  | [], acc, _ => by simp [stuff, un]
  | c :: l, acc, h => by
    rw [List.length_cons] at h
    have hne : ¬ acc.length = 4098 := by omega
    have ih := un_stuff l (acc ++ [c]) (by simp; omega)
    rw [List.append_assoc] at ih
    unfold stuff one
    by_cases hs : spec c = true
    · rw [if_pos hs]
      show un false acc (125 :: (c ^^^ 32) :: stuff l) = _
      unfold un
      rw [if_neg hne]
      simp only [Bool.false_eq_true, if_false, if_true]
      unfold un
      rw [if_neg hne, xor32_back, if_pos rfl, if_pos hs]
      exact ih
    · rw [if_neg hs]
      show un false acc (c :: stuff l) = _
      unfold un
      rw [if_neg hne]
      simp only [Bool.false_eq_true, if_false]
      rw [if_neg (spec_no (by simpa using hs)).2]
      exact ih

theorem tail2_length (n : Nat) : (tail2 n).length = 2 := rfl
theorem unst_stuff (p : List UInt8) (n : Nat) (hp : p.length ≤ 4096) : unst (stuff (p ++ tail2 n)) = some (p ++ tail2 n) := by
  unfold unst
  rw [un_stuff _ [] (by simp [tail2_length]; omega)]
  simp [tail2_length]

theorem pay_form (p : List UInt8) (a b : UInt8) : pay (p ++ [a, b]) = if a.toNat + 256 * b.toNat = fcsN p then some p else none := by
  unfold pay
  have h1 : (p ++ [a, b]).length - 2 = p.length := by simp
  have h2 : (p ++ [a, b]).length - 1 = p.length + 1 := by simp
  rw [h1, h2]
  have e1 : (p ++ [a, b]).getD p.length 0 = a := by simp [List.getD]
  have e2 : (p ++ [a, b]).getD (p.length + 1) 0 = b := by simp [List.getD, List.getElem?_append]
  have e3 : (p ++ [a, b]).take p.length = p := by simp
  rw [e1, e2, e3]

theorem dcd_stuff (p : List UInt8) (n : Nat) (hp : p.length ≤ 4096) (hn : n < 65536) : dcd (stuff (p ++ tail2 n)) = if n = fcsN p then some p else none := by
  unfold dcd
  rw [unst_stuff p n hp]
  show pay (p ++ [b8 (n % 256), b8 (n / 256)]) = _
  rw [pay_form, b8_low (by omega), b8_low (by omega)]
  have : n % 256 + 256 * (n / 256) = n := by omega
  rw [this]

/-! ### The contents between flags -/
def cts : List UInt8 → List UInt8 → List (List UInt8)
  | _, [] => []
  | acc, c :: l => if c = 126 then acc :: cts [] l else cts (acc ++ [c]) l
def cont : List UInt8 → List (List UInt8)
  | [] => []
  | c :: l => if c = 126 then cts [] l else cont l
/-- The number of bytes ahead of the first flag. -/
def fi : List UInt8 → Nat
  | [] => 0
  | c :: l => if c = 126 then 0 else fi l + 1

theorem fi_le : ∀ l : List UInt8, fi l ≤ l.length
  | [] => Nat.le_refl _
  | c :: l => by have := fi_le l; unfold fi; split <;> simp <;> omega
theorem fi_bare : ∀ l : List UInt8, Bare (l.take (fi l))
  | [] => by simp [fi]; exact Bare.nil
  | c :: l => by
    unfold fi
    split
    · exact Bare.nil
    · rename_i h
      intro d hd
      rw [List.take_succ_cons] at hd
      rcases List.mem_cons.1 hd with rfl | hd
      · exact h
      · exact fi_bare l d hd
theorem fi_at : ∀ l : List UInt8, fi l < l.length → l[fi l]? = some 126
  | [], h => by simp at h
  | c :: l, h => by
    unfold fi at h ⊢
    split
    · rename_i hc; subst hc; rfl
    · rename_i hc
      rw [if_neg hc] at h
      simp at h ⊢
      exact fi_at l h
theorem fi_split {l : List UInt8} (h : fi l < l.length) : l = l.take (fi l) ++ 126 :: l.drop (fi l + 1) := by
  have h1 := fi_at l h
  have h2 : l.drop (fi l) = 126 :: l.drop (fi l + 1) := by
    rw [List.drop_eq_getElem_cons h]
    congr 1
    have := (List.getElem?_eq_some_iff.1 h1).2
    exact this
  rw [← h2, List.take_append_drop]
theorem fi_of {p r : List UInt8} (h : Bare p) : fi (p ++ 126 :: r) = p.length := by
  induction p with
  | nil => rfl
  | cons c p ih =>
    have hc := h c (by simp)
    show (if c = 126 then 0 else fi (p ++ 126 :: r) + 1) = _
    rw [if_neg hc, ih (fun d hd => h d (by simp [hd]))]
    simp
theorem fi_none {l : List UInt8} (h : Bare l) : fi l = l.length := by
  induction l with
  | nil => rfl
  | cons c l ih =>
    unfold fi
    rw [if_neg (h c (by simp)), ih (fun d hd => h d (by simp [hd]))]
    simp
theorem bare_of_fi {l : List UInt8} (h : ¬ fi l < l.length) : Bare l := by
  have h1 := fi_bare l
  have h2 := fi_le l
  rwa [List.take_of_length_le (by omega)] at h1

theorem cts_cons (acc : List UInt8) (c : UInt8) (l : List UInt8) : cts acc (c :: l) = if c = 126 then acc :: cts [] l else cts (acc ++ [c]) l := rfl
theorem cts_bare : ∀ (q acc : List UInt8), Bare q → cts acc q = []
  | [], _, _ => rfl
  | c :: q, acc, h => by
    unfold cts
    rw [if_neg (h c (by simp))]
    exact cts_bare q _ (fun d hd => h d (by simp [hd]))
theorem cts_flag : ∀ (q acc r : List UInt8), Bare q → cts acc (q ++ 126 :: r) = (acc ++ q) :: cts [] r
  | [], acc, r, _ => by simp [cts]
  | c :: q, acc, r, h => by
    show cts acc (c :: (q ++ 126 :: r)) = _
    rw [cts_cons, if_neg (h c (by simp)), cts_flag q _ r (fun d hd => h d (by simp [hd]))]
    simp
theorem cts_fi (l : List UInt8) : cts [] l = if fi l < l.length then l.take (fi l) :: cts [] (l.drop (fi l + 1)) else [] := by
  by_cases h : fi l < l.length
  · rw [if_pos h]
    have h1 := fi_split h
    conv => lhs; rw [h1]
    rw [cts_flag _ _ _ (fi_bare l)]
    rfl
  · rw [if_neg h]; exact cts_bare l [] (bare_of_fi h)
theorem cont_bare : ∀ (q : List UInt8), Bare q → cont q = []
  | [], _ => rfl
  | c :: q, h => by
    unfold cont
    rw [if_neg (h c (by simp))]
    exact cont_bare q (fun d hd => h d (by simp [hd]))
theorem cont_flag : ∀ (q r : List UInt8), Bare q → cont (q ++ 126 :: r) = cts [] r
  | [], r, _ => by simp [cont]
  | c :: q, r, h => by
    show cont (c :: (q ++ 126 :: r)) = _
    unfold cont
    rw [if_neg (h c (by simp))]
    exact cont_flag q r (fun d hd => h d (by simp [hd]))
theorem cont_fi (l : List UInt8) : cont l = if fi l < l.length then cts [] (l.drop (fi l + 1)) else [] := by
  by_cases h : fi l < l.length
  · rw [if_pos h]
    have h1 := fi_split h
    conv => lhs; rw [h1]
    exact cont_flag _ _ (fi_bare l)
  · rw [if_neg h]; exact cont_bare l (bare_of_fi h)
theorem cts_more : ∀ (p acc r : List UInt8), cts acc (p ++ 126 :: r) = cts acc (p ++ [126]) ++ cts [] r
  | [], acc, r => by simp [cts]
  | c :: p, acc, r => by
    show cts acc (c :: (p ++ 126 :: r)) = cts acc (c :: (p ++ [126])) ++ cts [] r
    rw [cts_cons, cts_cons]
    split
    · rw [cts_more p [] r]; rfl
    · exact cts_more p _ r
theorem cont_more : ∀ (p r : List UInt8), cont (p ++ 126 :: r) = cont (p ++ [126]) ++ cts [] r
  | [], r => by simp [cont, cts]
  | c :: p, r => by
    show cont (c :: (p ++ 126 :: r)) = cont (c :: (p ++ [126])) ++ _
    unfold cont
    split
    · exact cts_more p [] r
    · exact cont_more p r

/-! ### What a scan gives -/
def scanP (l : List UInt8) : List (List UInt8) := (cont l).filterMap dcd
/-- The offset of the last flag, or the length. -/
def lastF : List UInt8 → Nat
  | [] => 0
  | c :: l => if c = 126 ∧ l.contains 126 = false then 0 else lastF l + 1

theorem bare_iff {l : List UInt8} : l.contains 126 = false ↔ Bare l := by
  unfold Bare
  constructor
  · intro h c hc e
    subst e
    have : l.contains 126 = true := by simpa using hc
    rw [h] at this; cases this
  · intro h
    cases hb : l.contains 126 with
    | false => rfl
    | true =>
      have : (126 : UInt8) ∈ l := by simpa using hb
      exact absurd rfl (h 126 this)
theorem lastF_bare : ∀ {l : List UInt8}, Bare l → lastF l = l.length
  | [], _ => rfl
  | c :: l, h => by
    unfold lastF
    rw [if_neg (fun k => h c (by simp) k.1), lastF_bare (fun d hd => h d (by simp [hd]))]
    simp
theorem lastF_flag : ∀ (p : List UInt8) {q : List UInt8}, Bare q → lastF (p ++ 126 :: q) = p.length
  | [], q, h => by
    show (if (126 : UInt8) = 126 ∧ q.contains 126 = false then 0 else lastF q + 1) = 0
    rw [if_pos ⟨rfl, bare_iff.2 h⟩]
  | c :: p, q, h => by
    show (if c = 126 ∧ (p ++ 126 :: q).contains 126 = false then 0 else lastF (p ++ 126 :: q) + 1) = _
    have hc : (p ++ 126 :: q).contains 126 = true := by simp
    rw [if_neg (by rw [hc]; simp), lastF_flag p h]
    simp
theorem lastF_le : ∀ l : List UInt8, lastF l ≤ l.length
  | [] => Nat.le_refl _
  | c :: l => by have := lastF_le l; unfold lastF; split <;> simp <;> omega
theorem last_split : ∀ (l : List UInt8), ¬ Bare l → ∃ p q, l = p ++ 126 :: q ∧ Bare q
  | [], h => absurd Bare.nil h
  | c :: l, h => by
    by_cases hl : Bare l
    · have hc : c = 126 := by
        refine Classical.byContradiction fun hne => h ?_
        intro d hd
        rcases List.mem_cons.1 hd with rfl | hd
        · exact hne
        · exact hl d hd
      subst hc
      exact ⟨[], l, rfl, hl⟩
    · obtain ⟨p, q, rfl, hq⟩ := last_split l hl
      exact ⟨c :: p, q, rfl, hq⟩

theorem drop_last (p q y : List UInt8) : (p ++ 126 :: q ++ y).drop p.length = 126 :: q ++ y := by
  rw [List.append_assoc, List.drop_left]
  try rfl

/-- A stream scanned in two pieces. -/
theorem scan_pieces (x y : List UInt8) : scanP (x ++ y) = scanP x ++ scanP ((x ++ y).drop (lastF x)) ∧ lastF (x ++ y) = lastF x + lastF ((x ++ y).drop (lastF x)) := by
  by_cases hx : Bare x
  · have h0 := lastF_bare hx
    rw [h0, List.drop_left]
    refine ⟨?_, ?_⟩
    · have hc : cont (x ++ y) = cont y := by
        by_cases hy : Bare y
        · rw [cont_bare _ (hx.append hy), cont_bare _ hy]
        · rw [cont_fi y]
          have hlt : fi y < y.length := Classical.byContradiction fun h => hy (bare_of_fi h)
          rw [if_pos hlt]
          have := fi_split hlt
          conv => lhs; rw [this]
          rw [← List.append_assoc, cont_flag _ _ (hx.append (fi_bare y))]
      unfold scanP
      rw [hc, cont_bare _ hx]
      rfl
    · by_cases hy : Bare y
      · rw [lastF_bare (hx.append hy), lastF_bare hy]; simp
      · obtain ⟨p, q, rfl, hq⟩ := last_split y hy
        rw [← List.append_assoc, lastF_flag _ hq, lastF_flag _ hq, List.length_append]
  · obtain ⟨p, q, rfl, hq⟩ := last_split x hx
    rw [lastF_flag _ hq, drop_last]
    refine ⟨?_, ?_⟩
    · unfold scanP
      rw [← List.filterMap_append]
      congr 1
      have e : p ++ 126 :: q ++ y = p ++ 126 :: (q ++ y) := by simp
      rw [e, cont_more, cont_more p q, cts_bare q [] hq, List.append_nil]
      rfl
    · by_cases hy : Bare y
      · have e : p ++ 126 :: q ++ y = p ++ 126 :: (q ++ y) := by simp
        rw [e, lastF_flag _ (hq.append hy)]
        have := lastF_flag [] (hq.append hy)
        simp only [List.nil_append] at this
        show p.length = p.length + lastF (126 :: (q ++ y))
        rw [this]; simp
      · obtain ⟨p', q', rfl, hq'⟩ := last_split y hy
        have e1 : p ++ 126 :: q ++ (p' ++ 126 :: q') = (p ++ 126 :: q ++ p') ++ 126 :: q' := by simp
        have e2 : 126 :: q ++ (p' ++ 126 :: q') = (126 :: q ++ p') ++ 126 :: q' := by simp
        rw [e1, e2, lastF_flag _ hq', lastF_flag _ hq']
        simp
        try omega

/-- Frames one behind the other: their contents, and the empty ones between. -/
theorem scan_frame (p : List UInt8) (hp : p.length ≤ 4096) (r : List UInt8) : (cts [] (stuff (p ++ tail2 (fcsN p)) ++ 126 :: r)).filterMap dcd = p :: (cts [] r).filterMap dcd := by
  rw [cts_flag _ _ _ (stuff_bare _), List.nil_append, List.filterMap_cons, dcd_stuff p _ hp (fcsN_lt p), if_pos rfl]
theorem dcd_nil : dcd [] = none := by simp [dcd, unst, un]
/-- A frame whose check sequence is another's. -/
theorem scan_bad (p : List UInt8) (n : Nat) (hp : p.length ≤ 4096) (hn : n < 65536) (h : n ≠ fcsN p) : scanP (frm p n) = [] := by
  unfold scanP frm
  have : cont (126 :: (stuff (p ++ tail2 n) ++ [126])) = cts [] (stuff (p ++ tail2 n) ++ 126 :: []) := by simp [cont]
  rw [this, cts_flag _ _ _ (stuff_bare _)]
  simp only [List.nil_append, cts, List.filterMap_cons, dcd_stuff p n hp hn, if_neg h, List.filterMap_nil]
theorem frm_length (p : List UInt8) (n : Nat) : p.length + 4 ≤ (frm p n).length ∧ (frm p n).length ≤ 2 * p.length + 6 := by
  have h := stuff_length (p ++ tail2 n)
  simp only [List.length_append, tail2_length] at h
  unfold frm
  simp only [List.length_cons, List.length_append, List.length_nil]
  omega
theorem last_frm (x p : List UInt8) (n : Nat) : lastF (x ++ frm p n) = (x ++ frm p n).length - 1 := by
  have e : x ++ frm p n = (x ++ 126 :: stuff (p ++ tail2 n)) ++ 126 :: [] := by simp [frm]
  rw [e, lastF_flag _ Bare.nil]
  simp
end Go.Proofs.Ytokjlcajcflhgaa
