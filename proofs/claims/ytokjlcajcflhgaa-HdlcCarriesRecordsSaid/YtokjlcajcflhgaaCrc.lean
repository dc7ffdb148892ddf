/-
  Plain mathematics of the frame check sequence CRC-16/X-25: bitwise, by table, its constant residue, and that a change of two consecutive bytes changes it.
-/
import Derived.Test.YtokjlcajcflhgaaLeb
namespace Go.Proofs.Ytokjlcajcflhgaa
set_option linter.unusedVariables false
set_option linter.unusedSimpArgs false

/-- One bit. -/
def st1 (x : Nat) : Nat := (x / 2) ^^^ (x % 2 * 33800)
def stn : Nat → Nat → Nat
  | 0, x => x
  | n + 1, x => stn n (st1 x)

theorem xor_lt16 {x y : Nat} (hx : x < 65536) (hy : y < 65536) : x ^^^ y < 65536 := Nat.xor_lt_two_pow (n := 16) hx hy
theorem st1_lt {x : Nat} (h : x < 65536) : st1 x < 65536 := by
  unfold st1
  refine xor_lt16 (by omega) ?_
  have : x % 2 < 2 := Nat.mod_lt _ (by omega)
  have : x % 2 * 33800 ≤ 1 * 33800 := Nat.mul_le_mul_right _ (by omega)
  omega
theorem stn_lt : ∀ (n : Nat) {x : Nat}, x < 65536 → stn n x < 65536
  | 0, _, h => h
  | n + 1, _, h => stn_lt n (st1_lt h)

theorem xor_half (x y : Nat) : (x ^^^ y) / 2 = (x / 2) ^^^ (y / 2) := by
  have h := Nat.shiftRight_xor_distrib (a := x) (b := y) (i := 1)
  simpa [Nat.shiftRight_eq_div_pow] using h
theorem xor_odd (x y : Nat) : (x ^^^ y) % 2 = (x % 2) ^^^ (y % 2) := by
  have h := Nat.xor_mod_two_pow (a := x) (b := y) (n := 1)
  simpa using h
theorem xor_swap (a b c d : Nat) : (a ^^^ b) ^^^ (c ^^^ d) = (a ^^^ c) ^^^ (b ^^^ d) := by
  rw [Nat.xor_assoc, Nat.xor_assoc]; congr 1; rw [← Nat.xor_assoc, ← Nat.xor_assoc, Nat.xor_comm b c]
theorem st1_xor (x y : Nat) : st1 (x ^^^ y) = st1 x ^^^ st1 y := by
  unfold st1
  rw [xor_half, xor_odd, xor_swap]
  congr 1
  rcases Nat.mod_two_eq_zero_or_one x with hx | hx <;> rcases Nat.mod_two_eq_zero_or_one y with hy | hy <;> rw [hx, hy] <;> rfl
theorem stn_xor : ∀ (n x y : Nat), stn n (x ^^^ y) = stn n x ^^^ stn n y
  | 0, _, _ => rfl
  | n + 1, x, y => by unfold stn; rw [st1_xor, stn_xor n]
theorem stn_add : ∀ (m n x : Nat), stn n (stn m x) = stn (m + n) x
  | 0, n, x => by simp [stn]
  | m + 1, n, x => by
    rw [Nat.succ_add]
    show stn n (stn m (st1 x)) = stn (m + n) (st1 x)
    exact stn_add m n _
theorem xor_cancel (a b : Nat) : a ^^^ (a ^^^ b) = b := by rw [← Nat.xor_assoc, Nat.xor_self, Nat.zero_xor]
theorem xor_zero_eq {a b : Nat} (h : a ^^^ b = 0) : a = b := by
  have := xor_cancel a b
  rw [h, Nat.xor_zero] at this
  exact this

theorem st1_zero {x : Nat} (h : x < 65536) (h0 : st1 x = 0) : x = 0 := by
  unfold st1 at h0
  have h1 := xor_zero_eq h0
  omega
theorem stn_zero : ∀ (n : Nat) {x : Nat}, x < 65536 → stn n x = 0 → x = 0
  | 0, _, _, h => h
  | n + 1, _, h, h0 => st1_zero h (stn_zero n (st1_lt h) h0)

theorem hi_byte : ∀ h : Fin 256, stn 8 (h.val * 256) = h.val := by decide +kernel

theorem split16 (x : Nat) (h : x < 65536) : x = (x / 256 * 256) ^^^ (x % 256) := by
  have h2 : x % 256 < 2 ^ 8 := Nat.mod_lt _ (by omega)
  have h3 := Nat.two_pow_add_eq_or_of_lt h2 (x / 256)
  apply Nat.eq_of_testBit_eq
  intro i
  have e : x / 256 * 256 = x / 2 ^ 8 * 2 ^ 8 := rfl
  rw [Nat.testBit_xor, e, Nat.testBit_mul_two_pow, Nat.testBit_div_two_pow, show (256 : Nat) = 2 ^ 8 from rfl, Nat.testBit_mod_two_pow]
  by_cases hi : i < 8
  · have h8 : ¬ 8 ≤ i := by omega
    simp [hi, h8]
  · have h8 : 8 ≤ i := by omega
    simp [hi, h8, Nat.sub_add_cancel h8]

/-- One byte, bit by bit, and by the table. -/
def byt (v : Nat) (c : Nat) : Nat := stn 8 (v ^^^ c)
theorem byt_lt {v c : Nat} (hv : v < 65536) (hc : c < 256) : byt v c < 65536 := stn_lt 8 (xor_lt16 hv (by omega))
theorem byt_tab {v c : Nat} (hv : v < 65536) (hc : c < 256) : byt v c = (v / 256) ^^^ stn 8 ((v % 256) ^^^ c) := by
  unfold byt
  have h := split16 v hv
  have h1 : v ^^^ c = (v / 256 * 256) ^^^ ((v % 256) ^^^ c) := by rw [← Nat.xor_assoc, ← h]
  rw [h1, stn_xor, hi_byte ⟨v / 256, by omega⟩]

/-- The register behind a byte string, from v on. -/
def crun (v : Nat) : List UInt8 → Nat
  | [] => v
  | c :: l => crun (byt v c.toNat) l
theorem crun_lt : ∀ (l : List UInt8) {v : Nat}, v < 65536 → crun v l < 65536
  | [], _, h => h
  | c :: l, _, h => crun_lt l (byt_lt h c.toNat_lt)
theorem crun_append : ∀ (l m : List UInt8) (v : Nat), crun v (l ++ m) = crun (crun v l) m
  | [], _, _ => rfl
  | c :: l, m, v => crun_append l m _
theorem crun_snoc (l : List UInt8) (c : UInt8) (v : Nat) : crun v (l ++ [c]) = byt (crun v l) c.toNat := by
  rw [crun_append]; rfl
theorem crun_take {l : List UInt8} {k : Nat} {c : UInt8} (h : l[k]? = some c) (v : Nat) : crun v (l.take (k + 1)) = byt (crun v (l.take k)) c.toNat := by
  rw [List.take_add_one, h]; exact crun_snoc _ _ _

/-- The frame check sequence. -/
def fcsN (l : List UInt8) : Nat := 65535 ^^^ crun 65535 l
theorem fcsN_lt (l : List UInt8) : fcsN l < 65536 := xor_lt16 (by omega) (crun_lt l (by omega))

theorem two_bytes (v n : Nat) (hn : n < 65536) : byt (byt v (n % 256)) (n / 256) = stn 16 (v ^^^ n) := by
  unfold byt
  have h : n / 256 = stn 8 (n / 256 * 256) := (hi_byte ⟨n / 256, by omega⟩).symm
  have h2 := split16 n hn
  have e : stn 8 (v ^^^ n % 256) ^^^ n / 256 = stn 8 (v ^^^ n) := by
    have e1 : v ^^^ n = (v ^^^ n % 256) ^^^ (n / 256 * 256) := by
      rw [Nat.xor_assoc]; congr 1; rw [Nat.xor_comm]; exact h2
    rw [e1, stn_xor 8 _ (n / 256 * 256), ← h]
  rw [e, stn_add]

theorem residue16 : stn 16 65535 = 61624 := by decide +kernel

theorem b8_low {n : Nat} (h : n < 256) : (b8 n).toNat = n := b8_toNat h

/-- The residue: a byte string and its own frame check sequence. -/
theorem fcs_residue (l : List UInt8) : fcsN (l ++ [b8 (fcsN l % 256), b8 (fcsN l / 256)]) = 3911 := by
  have hn := fcsN_lt l
  have h : crun 65535 (l ++ [b8 (fcsN l % 256), b8 (fcsN l / 256)]) = 61624 := by
    rw [crun_append]
    show byt (byt (crun 65535 l) (b8 (fcsN l % 256)).toNat) (b8 (fcsN l / 256)).toNat = 61624
    rw [b8_low (by omega), b8_low (by omega), two_bytes _ _ hn]
    have e : crun 65535 l ^^^ fcsN l = 65535 := by
      unfold fcsN; rw [Nat.xor_comm 65535, xor_cancel]
    rw [e]; exact residue16
  have hu : ∀ m, fcsN m = 65535 ^^^ crun 65535 m := fun _ => rfl
  rw [hu, h]
  rfl

/-- The difference of two registers behind n equal bytes. -/
theorem crun_diff : ∀ (l : List UInt8) (v d : Nat), crun (v ^^^ d) l = crun v l ^^^ stn (8 * l.length) d
  | [], v, d => rfl
  | c :: l, v, d => by
    have e : byt (v ^^^ d) c.toNat = byt v c.toNat ^^^ stn 8 d := by
      unfold byt
      rw [← stn_xor]; congr 1
      rw [Nat.xor_assoc, Nat.xor_assoc, Nat.xor_comm d]
    show crun (byt (v ^^^ d) c.toNat) l = crun (byt v c.toNat) l ^^^ _
    rw [e, crun_diff l, stn_add]
    congr 2
    simp [Nat.mul_add, Nat.add_comm]

theorem xor_ne_self {a d : Nat} (h : a ^^^ d = a) : d = 0 := by
  have := congrArg (a ^^^ ·) h
  simpa [xor_cancel] using this

theorem u8_xor_toNat (a b : UInt8) : (a ^^^ b).toNat = a.toNat ^^^ b.toNat := UInt8.toNat_xor a b

/-- A change of one or two consecutive bytes changes the frame check sequence. -/
theorem fcs_burst (l m : List UInt8) (x y a b : UInt8) (h : ¬ (a = 0 ∧ b = 0)) : fcsN (l ++ (x ^^^ a) :: (y ^^^ b) :: m) ≠ fcsN (l ++ x :: y :: m) := by
  intro he
  have ha := a.toNat_lt
  have hb := b.toNat_lt
  have hc : crun 65535 (l ++ (x ^^^ a) :: (y ^^^ b) :: m) = crun 65535 (l ++ x :: y :: m) := by
    have := congrArg (65535 ^^^ ·) he
    simpa [fcsN, xor_cancel] using this
  rw [crun_append, crun_append] at hc
  have e : ∀ v : Nat, byt (byt v (x ^^^ a).toNat) (y ^^^ b).toNat = byt (byt v x.toNat) y.toNat ^^^ stn 8 (stn 8 a.toNat ^^^ b.toNat) := by
    intro v
    unfold byt
    rw [u8_xor_toNat, u8_xor_toNat, ← stn_xor]
    congr 1
    rw [← Nat.xor_assoc v, stn_xor 8 (v ^^^ x.toNat), xor_swap]
  have hc' : crun (byt (byt (crun 65535 l) (x ^^^ a).toNat) (y ^^^ b).toNat) m = crun (byt (byt (crun 65535 l) x.toNat) y.toNat) m := hc
  rw [e, crun_diff] at hc'
  have h1 := xor_ne_self hc'
  have l1 : stn 8 a.toNat < 65536 := stn_lt 8 (by omega)
  have l2 : stn 8 a.toNat ^^^ b.toNat < 65536 := xor_lt16 l1 (by omega)
  have h2 := stn_zero _ (stn_lt 8 l2) h1
  have h3 := stn_zero _ l2 h2
  have h4 := xor_zero_eq h3
  -- the second byte alone cannot undo the first
  have h5 : b.toNat = stn 8 (b.toNat * 256) := (hi_byte ⟨b.toNat, hb⟩).symm
  have h6 : stn 8 (a.toNat ^^^ b.toNat * 256) = 0 := by
    rw [stn_xor, ← h5, h4, Nat.xor_self]
  have h7 := stn_zero 8 (xor_lt16 (show a.toNat < 65536 by omega) (show b.toNat * 256 < 65536 by omega)) h6
  have h8 := xor_zero_eq h7
  have h9 : b.toNat = 0 := by omega
  have h10 : a.toNat = 0 := by omega
  exact h ⟨by apply UInt8.toNat_inj.1; simpa using h10, by apply UInt8.toNat_inj.1; simpa using h9⟩

end Go.Proofs.Ytokjlcajcflhgaa
