/-
  The encoding of numbers in groups of seven bits, as plain lists. Nothing of a program is named here.
-/
import Derived.Below
namespace Go.Proofs.YtccepoeenkpifaaDoor

/-- One byte out of a number. -/
def b8 (n : Nat) : UInt8 := UInt8.ofNat n

/-- The groups of x, the lowest first. -/
def leb (x : Nat) : List UInt8 := if h : x < 128 then [b8 x] else b8 (x % 128 + 128) :: leb (x / 128)
  termination_by x
  decreasing_by omega

theorem leb_small {x : Nat} (h : x < 128) : leb x = [b8 x] := by rw [leb]; simp [h]
theorem leb_big {x : Nat} (h : ¬ x < 128) : leb x = b8 (x % 128 + 128) :: leb (x / 128) := by rw [leb]; simp [h]

theorem leb_pos (x : Nat) : 0 < (leb x).length := by
  by_cases h : x < 128
  · simp [leb_small h]
  · simp [leb_big h]

theorem leb_short (k : Nat) : ∀ x, x < 128 ^ (k + 1) → (leb x).length ≤ k + 1 := by
  induction k with
  | zero => intro x h; rw [leb_small (by simpa using h)]; simp
  | succ k ih =>
    intro x h
    by_cases hx : x < 128
    · simp [leb_small hx]
    · rw [leb_big hx]
      have : x / 128 < 128 ^ (k + 1) := by
        rw [Nat.div_lt_iff_lt_mul (by omega)]
        rwa [Nat.pow_succ] at h
      have := ih _ this
      simp only [List.length_cons]; omega

/-- 2 ^ 64, kept behind a name. -/
def M64 : Nat := 2 ^ 64

theorem leb_ten {x : Nat} (h : x < M64) : (leb x).length ≤ 10 :=
  leb_short 9 x (Nat.lt_of_lt_of_le h (by decide))

theorem b8_toNat {n : Nat} (h : n < 256) : (b8 n).toNat = n := by simp [b8]; omega

/-- The zigzag value of an integer. -/
def zz (v : Int) : Nat := if 0 ≤ v then (2 * v).toNat else (-2 * v - 1).toNat

theorem zz_lt {v : Int} (h1 : -9223372036854775808 ≤ v) (h2 : v ≤ 9223372036854775807) : zz v < M64 := by
  unfold zz M64; split <;> omega

/-- Reading groups: f groups may still come, k have been read, they make acc. The answer: the value, how many bytes, the error's number. -/
def dgo : Nat → Nat → Nat → List UInt8 → Nat × Nat × Nat
  | 0, _, _, _ => (0, 0, 11)
  | _ + 1, _, _, [] => (0, 0, 10)
  | f + 1, k, acc, c :: r =>
    if 128 ≤ c.toNat then dgo f (k + 1) (acc + (c.toNat - 128) * 128 ^ k) r
    else if k = 9 ∧ 1 < c.toNat then (0, 0, 11)
    else if 0 < k ∧ c.toNat = 0 then (0, 0, 12)
    else (acc + c.toNat * 128 ^ k, k + 1, 0)

/-- What decoding an unsigned integer at an offset answers: value, offset behind, error. -/
def uS (l : List UInt8) (i : Int) : Nat × Int × Int :=
  if i < 0 ∨ (l.length : Int) < i then (0, 0, 1)
  else if (dgo 10 0 0 (l.drop i.toNat)).2.2 = 0 then ((dgo 10 0 0 (l.drop i.toNat)).1, i + (dgo 10 0 0 (l.drop i.toNat)).2.1, 0)
  else (0, 0, (dgo 10 0 0 (l.drop i.toNat)).2.2)

theorem uS_bad {l : List UInt8} {i : Int} (h : i < 0 ∨ (l.length : Int) < i) : uS l i = (0, 0, 1) := by unfold uS; rw [if_pos h]
theorem uS_good {l : List UInt8} {i v n : Nat} (h : i ≤ l.length) (hd : dgo 10 0 0 (l.drop i) = (v, n, 0)) : uS l i = (v, (i : Int) + n, 0) := by
  unfold uS; rw [if_neg (by omega)]; simp [hd]
theorem uS_err {l : List UInt8} {i a b e : Nat} (h : i ≤ l.length) (hd : dgo 10 0 0 (l.drop i) = (a, b, e)) (he : e ≠ 0) : uS l i = (0, 0, (e : Int)) := by
  unfold uS; rw [if_neg (by omega)]; simp [hd, he]

theorem pow_bound {k x : Nat} (h : x * 128 ^ k < M64) (hx : 128 ≤ x) : k + 1 ≤ 9 := by
  rcases Nat.lt_or_ge k 9 with h1 | h1
  · exact h1
  · exfalso
    have h2 : 128 ^ 9 ≤ 128 ^ k := Nat.pow_le_pow_right (by omega) h1
    have h3 : 128 * 128 ^ 9 ≤ x * 128 ^ k := Nat.mul_le_mul hx h2
    unfold M64 at h
    have h4 : (2 : Nat) ^ 64 < 128 * 128 ^ 9 := by decide
    omega

theorem split_mul (x p : Nat) : x % 128 * p + x / 128 * (p * 128) = x * p := by
  have h := Nat.div_add_mod x 128
  have e : x / 128 * (p * 128) = 128 * (x / 128) * p := by
    rw [Nat.mul_comm p 128, ← Nat.mul_assoc, Nat.mul_comm (x / 128) 128]
  rw [e, ← Nat.add_mul, Nat.add_comm, h]

theorem dgo_leb (f : Nat) : ∀ (k acc x : Nat) (r : List UInt8), f + k = 10 → x * 128 ^ k < M64 → (0 < k → 0 < x) → dgo f k acc (leb x ++ r) = (acc + x * 128 ^ k, k + (leb x).length, 0) := by
  induction f with
  | zero =>
    intro k acc x r hf hb hx
    exfalso
    obtain rfl : k = 10 := by omega
    have := hx (by omega)
    have h1 : 1 * 128 ^ 10 ≤ x * 128 ^ 10 := Nat.mul_le_mul_right _ (by omega)
    unfold M64 at hb
    have h4 : (2 : Nat) ^ 64 < 1 * 128 ^ 10 := by decide
    omega
  | succ f ih =>
    intro k acc x r hf hb hx
    by_cases h : x < 128
    · rw [leb_small h, List.singleton_append, dgo, b8_toNat (by omega), if_neg (by omega), if_neg, if_neg (by omega)]
      · simp
      · rintro ⟨rfl, h1⟩
        have h2 : 2 * 128 ^ 9 ≤ x * 128 ^ 9 := Nat.mul_le_mul_right _ h1
        unfold M64 at hb
        have h4 : (2 : Nat) ^ 64 ≤ 2 * 128 ^ 9 := by decide
        omega
    · have hk := pow_bound hb (by omega)
      rw [leb_big h, List.cons_append, dgo, b8_toNat (by omega), if_pos (by omega), ih (k + 1) _ _ _ (by omega) _ (by omega)]
      · rw [show x % 128 + 128 - 128 = x % 128 by omega, Nat.pow_succ, Nat.add_assoc, split_mul]
        simp only [List.length_cons]
        congr 2; omega
      · rw [Nat.pow_succ]
        have := split_mul x (128 ^ k)
        omega

theorem dgo_trunc (f : Nat) : ∀ (k acc x m : Nat), f + k = 10 → x * 128 ^ k < M64 → (0 < k → 0 < x) → m < (leb x).length → dgo f k acc ((leb x).take m) = (0, 0, 10) := by
  induction f with
  | zero =>
    intro k acc x m hf hb hx _
    exfalso
    obtain rfl : k = 10 := by omega
    have := hx (by omega)
    have h1 : 1 * 128 ^ 10 ≤ x * 128 ^ 10 := Nat.mul_le_mul_right _ (by omega)
    unfold M64 at hb
    have h4 : (2 : Nat) ^ 64 < 1 * 128 ^ 10 := by decide
    omega
  | succ f ih =>
    intro k acc x m hf hb hx hm
    cases m with
    | zero => simp [dgo]
    | succ m =>
      by_cases h : x < 128
      · rw [leb_small h] at hm; simp at hm
      · have hk := pow_bound hb (by omega)
        rw [leb_big h] at hm ⊢
        simp only [List.length_cons] at hm
        rw [List.take_succ_cons, dgo, b8_toNat (by omega), if_pos (by omega)]
        refine ih (k + 1) _ _ _ (by omega) ?_ (by omega) (by omega)
        rw [Nat.pow_succ]
        have := split_mul x (128 ^ k)
        omega

theorem dgo_canon (f : Nat) : ∀ (k acc : Nat) (l : List UInt8) (v n : Nat), f + k = 10 → dgo f k acc l = (v, n, 0) →
    ∃ x, v = acc + x * 128 ^ k ∧ x * 128 ^ k < M64 ∧ (0 < k → 0 < x) ∧ l.take (n - k) = leb x ∧ k < n ∧ n - k ≤ l.length ∧ n ≤ 10 := by
  induction f with
  | zero => intro k acc l v n _ h; simp [dgo] at h
  | succ f ih =>
    intro k acc l v n hf h
    cases l with
    | nil => simp [dgo] at h
    | cons c r =>
      have hc := c.toNat_lt
      rw [dgo] at h
      by_cases hb : 128 ≤ c.toNat
      · rw [if_pos hb] at h
        obtain ⟨x, rfl, h2, h3, h4, h5, h6, h7⟩ := ih (k + 1) _ r v n (by omega) h
        have hx := h3 (by omega)
        have hs := split_mul (128 * x + (c.toNat - 128)) (128 ^ k)
        rw [show (128 * x + (c.toNat - 128)) % 128 = c.toNat - 128 by omega, show (128 * x + (c.toNat - 128)) / 128 = x by omega] at hs
        rw [Nat.pow_succ] at h2 ⊢
        have hk8 : k ≤ 8 := by
          rcases Nat.lt_or_ge k 9 with h1 | h1
          · omega
          · exfalso
            have e2 : 128 ^ 9 * 128 ≤ 128 ^ k * 128 := Nat.mul_le_mul_right _ (Nat.pow_le_pow_right (by omega) h1)
            have e3 : 1 * (128 ^ k * 128) ≤ x * (128 ^ k * 128) := Nat.mul_le_mul_right _ hx
            unfold M64 at h2
            have h4 : (2 : Nat) ^ 64 < 128 ^ 9 * 128 := by decide
            omega
        refine ⟨128 * x + (c.toNat - 128), by omega, ?_, fun _ => by omega, ?_, by omega, by simp only [List.length_cons]; omega, h7⟩
        · rw [← hs]
          have e1 : (c.toNat - 128) * 128 ^ k < 128 ^ k * 128 := by
            rw [Nat.mul_comm]
            exact Nat.mul_lt_mul_of_pos_left (by omega) (Nat.pow_pos (by omega))
          -- x * 128 ^ (k + 1) is below 2 ^ 64, which is a multiple of 128 ^ (k + 1)
          have e2 : ∃ q, M64 = q * (128 ^ k * 128) := ⟨2 ^ (64 - 7 * (k + 1)), by
            unfold M64
            rw [← Nat.pow_succ, show (128 : Nat) = 2 ^ 7 from rfl, ← Nat.pow_mul, ← Nat.pow_add]
            congr 1; omega⟩
          obtain ⟨q, hq⟩ := e2
          rw [hq] at h2 ⊢
          generalize 128 ^ k * 128 = P at *
          generalize (c.toNat - 128) * 128 ^ k = R at *
          have hxq : x < q := Nat.lt_of_mul_lt_mul_right h2
          have h9 : (x + 1) * P ≤ q * P := Nat.mul_le_mul_right _ hxq
          rw [Nat.add_mul] at h9
          omega
        · clear hs h2 h
          have hnb : ¬ 128 * x + (c.toNat - 128) < 128 := by omega
          have e1 : b8 ((128 * x + (c.toNat - 128)) % 128 + 128) = c := by rw [← UInt8.toNat_inj, b8_toNat (by omega)]; omega
          have e2 : (128 * x + (c.toNat - 128)) / 128 = x := by omega
          rw [leb_big hnb, e1, e2, show n - k = (n - (k + 1)) + 1 by omega, List.take_succ_cons, h4]
      · rw [if_neg hb] at h
        by_cases h1 : k = 9 ∧ 1 < c.toNat
        · rw [if_pos h1] at h; simp at h
        · rw [if_neg h1] at h
          by_cases h2 : 0 < k ∧ c.toNat = 0
          · rw [if_pos h2] at h; simp at h
          · rw [if_neg h2] at h
            simp only [Prod.mk.injEq, and_true] at h
            obtain ⟨rfl, rfl⟩ := h
            refine ⟨c.toNat, rfl, ?_, by omega, ?_, by omega, by simp, by omega⟩
            · unfold M64
              rcases Nat.lt_or_ge k 9 with h9 | h9
              · have e1 : 128 ^ k ≤ 128 ^ 8 := Nat.pow_le_pow_right (by omega) (by omega)
                have e2 : c.toNat * 128 ^ k ≤ 127 * 128 ^ 8 := Nat.mul_le_mul (by omega) e1
                exact Nat.lt_of_le_of_lt e2 (by decide)
              · obtain rfl : k = 9 := by omega
                have e2 : c.toNat * 128 ^ 9 ≤ 1 * 128 ^ 9 := Nat.mul_le_mul_right _ (by omega)
                exact Nat.lt_of_le_of_lt e2 (by decide)
            · rw [leb_small (by omega), show k + 1 - k = 1 by omega]
              simp only [List.take_succ_cons, List.take_zero, List.cons.injEq, and_true]
              rw [← UInt8.toNat_inj, b8_toNat (by omega)]

/-- What a good answer says. -/
theorem uS_ok {l : List UInt8} {i : Int} (h : (uS l i).2.2 = 0) : ∃ (j v n : Nat), i = (j : Int) ∧ j ≤ l.length ∧ uS l i = (v, (j : Int) + n, 0) ∧ v < M64 ∧ 0 < n ∧ j + n ≤ l.length ∧ (l.drop j).take n = leb v := by
  unfold uS at h ⊢
  by_cases h0 : i < 0 ∨ (l.length : Int) < i
  · rw [if_pos h0] at h; simp at h
  · rw [if_neg h0] at h ⊢
    obtain ⟨j, rfl⟩ := Int.eq_ofNat_of_zero_le (show 0 ≤ i by omega)
    by_cases h1 : (dgo 10 0 0 (l.drop (j : Int).toNat)).2.2 = 0
    · rw [if_pos h1]
      simp only [Int.toNat_natCast] at h1 ⊢
      obtain ⟨v, n, e, hd⟩ : ∃ v n e, dgo 10 0 0 (l.drop j) = (v, n, e) := ⟨_, _, _, rfl⟩
      rw [hd] at h1 ⊢
      simp only at h1
      subst h1
      obtain ⟨x, e1, e2, _, e4, e5, e6, _⟩ := dgo_canon 10 0 0 _ v n rfl hd
      simp only [Nat.pow_zero, Nat.mul_one, Nat.zero_add, Nat.sub_zero] at e1 e2 e4 e6
      subst e1
      exact ⟨j, v, n, rfl, by omega, rfl, e2, e5, by rw [List.length_drop] at e6; omega, e4⟩
    · rw [if_neg h1] at h
      simp at h
      exact absurd h h1

theorem uS_leb (l r : List UInt8) (x : Nat) (hx : x < M64) : uS (l ++ leb x ++ r) l.length = (x, ((l.length + (leb x).length : Nat) : Int), 0) := by
  have h := dgo_leb 10 0 0 x r rfl (by simpa using hx) (by omega)
  have h2 := uS_good (l := l ++ leb x ++ r) (i := l.length) (v := x) (n := (leb x).length) (by simp) (by rw [List.append_assoc, List.drop_left, h]; simp)
  rw [h2]; rfl

theorem uS_trunc (x m : Nat) (hx : x < M64) (hm : m < (leb x).length) : uS ((leb x).take m) 0 = (0, 0, 10) := by
  have h := dgo_trunc 10 0 0 x m rfl (by simpa using hx) (by omega) hm
  exact uS_err (l := (leb x).take m) (i := 0) (by omega) (by simpa using h) (by decide)

/-- The integer of a zigzag value. -/
def unzz (u : Nat) : Int := if u % 2 = 0 then ((u / 2 : Nat) : Int) else -((u / 2 : Nat) : Int) - 1
theorem unzz_zz (v : Int) : unzz (zz v) = v := by
  unfold unzz zz
  split <;> split <;> omega
theorem zz_unzz (u : Nat) : zz (unzz u) = u := by
  unfold unzz zz
  split <;> split <;> omega

/-- What decoding a byte string at an offset answers. -/
def bS (l : List UInt8) (i m : Int) : List UInt8 × Int × Int :=
  if m < 0 then ([], 0, 1)
  else if (uS l i).2.2 ≠ 0 then ([], 0, (uS l i).2.2)
  else if m < ((uS l i).1 : Int) then ([], 0, 2)
  else if (l.length : Int) - (uS l i).2.1 < ((uS l i).1 : Int) then ([], 0, 10)
  else ((l.drop (uS l i).2.1.toNat).take (uS l i).1, (uS l i).2.1 + (uS l i).1, 0)

end Go.Proofs.YtccepoeenkpifaaDoor
