/-
  Plain mathematics of SHA-256, on natural numbers and lists of bytes. Nothing of a program is named here.
-/
import Derived.KernelRfl
namespace Go.Proofs.YtccepoeenkpifaaDoor.Sha
set_option linter.unusedVariables false
set_option linter.unusedSimpArgs false

/-- Sums and rotations of 32-bit words. -/
def ad (a b : Nat) : Nat := (a + b) % 4294967296
def rr (n x : Nat) : Nat := (x / 2 ^ n) ||| (x * 2 ^ (32 - n) % 4294967296)
def ss0 (x : Nat) : Nat := (rr 7 x ^^^ rr 18 x) ^^^ x / 8
def ss1 (x : Nat) : Nat := (rr 17 x ^^^ rr 19 x) ^^^ x / 1024
def bs0 (x : Nat) : Nat := (rr 2 x ^^^ rr 13 x) ^^^ rr 22 x
def bs1 (x : Nat) : Nat := (rr 6 x ^^^ rr 11 x) ^^^ rr 25 x
def chh (x y z : Nat) : Nat := (x &&& y) ^^^ ((4294967295 ^^^ x) &&& z)
def maj (x y z : Nat) : Nat := ((x &&& y) ^^^ (x &&& z)) ^^^ (y &&& z)
/-- A word of four bytes. -/
def wd (a b c d : Nat) : Nat := ((a * 16777216 ||| b * 65536) ||| c * 256) ||| d

def Kl : List Nat := [0x428a2f98, 0x71374491, 0xb5c0fbcf, 0xe9b5dba5, 0x3956c25b, 0x59f111f1, 0x923f82a4, 0xab1c5ed5,
  0xd807aa98, 0x12835b01, 0x243185be, 0x550c7dc3, 0x72be5d74, 0x80deb1fe, 0x9bdc06a7, 0xc19bf174,
  0xe49b69c1, 0xefbe4786, 0x0fc19dc6, 0x240ca1cc, 0x2de92c6f, 0x4a7484aa, 0x5cb0a9dc, 0x76f988da,
  0x983e5152, 0xa831c66d, 0xb00327c8, 0xbf597fc7, 0xc6e00bf3, 0xd5a79147, 0x06ca6351, 0x14292967,
  0x27b70a85, 0x2e1b2138, 0x4d2c6dfc, 0x53380d13, 0x650a7354, 0x766a0abb, 0x81c2c92e, 0x92722c85,
  0xa2bfe8a1, 0xa81a664b, 0xc24b8b70, 0xc76c51a3, 0xd192e819, 0xd6990624, 0xf40e3585, 0x106aa070,
  0x19a4c116, 0x1e376c08, 0x2748774c, 0x34b0bcb5, 0x391c0cb3, 0x4ed8aa4a, 0x5b9cca4f, 0x682e6ff3,
  0x748f82ee, 0x78a5636f, 0x84c87814, 0x8cc70208, 0x90befffa, 0xa4506ceb, 0xbef9a3f7, 0xc67178f2]
def Kn (t : Nat) : Nat := Kl.getD t 0

/-- The state. -/
structure St where
  a : Nat
  b : Nat
  c : Nat
  d : Nat
  e : Nat
  f : Nat
  g : Nat
  h : Nat
def init : St := ⟨0x6a09e667, 0xbb67ae85, 0x3c6ef372, 0xa54ff53a, 0x510e527f, 0x9b05688c, 0x1f83d9ab, 0x5be0cd19⟩
def St.list (s : St) : List Nat := [s.a, s.b, s.c, s.d, s.e, s.f, s.g, s.h]

/-- The first 16 words of a block; the schedule. -/
def word (l : List UInt8) (t : Nat) : Nat := wd (l.getD (4 * t) 0).toNat (l.getD (4 * t + 1) 0).toNat (l.getD (4 * t + 2) 0).toNat (l.getD (4 * t + 3) 0).toNat
def w16 (l : List UInt8) : List Nat := (List.range 16).map (word l)
def nxt (l : List Nat) : Nat := ad (ad (ad (ss1 (l.getD (l.length - 2) 0)) (l.getD (l.length - 7) 0)) (ss0 (l.getD (l.length - 15) 0))) (l.getD (l.length - 16) 0)
def ext : Nat → List Nat → List Nat
  | 0, l => l
  | k + 1, l => ext k (l ++ [nxt l])
def sch (l : List UInt8) : List Nat := ext 48 (w16 l)

/-- One round; the rounds; the compression. -/
def tm (k w : Nat) (s : St) : Nat := ad (ad (ad (ad s.h (bs1 s.e)) (chh s.e s.f s.g)) k) w
def tn (s : St) : Nat := ad (bs0 s.a) (maj s.a s.b s.c)
def rnd (k w : Nat) (s : St) : St := ⟨ad (tm k w s) (tn s), s.a, s.b, s.c, ad s.d (tm k w s), s.e, s.f, s.g⟩
def rnds (W : List Nat) (s : St) : Nat → St
  | 0 => s
  | t + 1 => rnd (Kn t) (W.getD t 0) (rnds W s t)
def plus (s v : St) : St := ⟨ad s.a v.a, ad s.b v.b, ad s.c v.c, ad s.d v.d, ad s.e v.e, ad s.f v.f, ad s.g v.g, ad s.h v.h⟩
def cmp (s : St) (l : List UInt8) : St := plus s (rnds (sch l) s 64)

/-- n blocks. -/
def blks : Nat → St → List UInt8 → St
  | 0, s, _ => s
  | n + 1, s, l => blks n (cmp s (l.take 64)) (l.drop 64)

/-- Bytes of numbers; the padding; the hash. -/
def b8 (n : Nat) : UInt8 := UInt8.ofNat n
def be4 (x : Nat) : List UInt8 := [b8 (x / 16777216), b8 (x / 65536), b8 (x / 256), b8 x]
def be8 (x : Nat) : List UInt8 := be4 (x / 4294967296) ++ be4 (x % 4294967296)
def zs (n : Nat) : Nat := (119 - n % 64) % 64
def pad (n : Nat) : List UInt8 := 128 :: (List.replicate (zs n) 0 ++ be8 (n * 8))
def dgs (s : St) : List UInt8 := be4 s.a ++ be4 s.b ++ be4 s.c ++ be4 s.d ++ be4 s.e ++ be4 s.f ++ be4 s.g ++ be4 s.h
def fin (l : List UInt8) : St := blks ((l.length + (pad l.length).length) / 64) init (l ++ pad l.length)
def sum (l : List UInt8) : List UInt8 := dgs (fin l)

/-! ### Bounds -/
theorem ad_lt (a b : Nat) : ad a b < 4294967296 := Nat.mod_lt _ (by omega)
theorem or_lt {x y : Nat} (hx : x < 4294967296) (hy : y < 4294967296) : x ||| y < 4294967296 := Nat.or_lt_two_pow (n := 32) hx hy
theorem xor_lt {x y : Nat} (hx : x < 4294967296) (hy : y < 4294967296) : x ^^^ y < 4294967296 := Nat.xor_lt_two_pow (n := 32) hx hy
theorem and_lt {x y : Nat} (hx : x < 4294967296) : x &&& y < 4294967296 := Nat.lt_of_le_of_lt Nat.and_le_left hx
theorem div_lt {x : Nat} (n : Nat) (hx : x < 4294967296) : x / n < 4294967296 := Nat.lt_of_le_of_lt (Nat.div_le_self _ _) hx
theorem rr_lt (n : Nat) {x : Nat} (hx : x < 4294967296) : rr n x < 4294967296 := or_lt (div_lt _ hx) (Nat.mod_lt _ (by omega))
theorem ss0_lt {x : Nat} (hx : x < 4294967296) : ss0 x < 4294967296 := xor_lt (xor_lt (rr_lt _ hx) (rr_lt _ hx)) (div_lt _ hx)
theorem ss1_lt {x : Nat} (hx : x < 4294967296) : ss1 x < 4294967296 := xor_lt (xor_lt (rr_lt _ hx) (rr_lt _ hx)) (div_lt _ hx)
theorem bs0_lt {x : Nat} (hx : x < 4294967296) : bs0 x < 4294967296 := xor_lt (xor_lt (rr_lt _ hx) (rr_lt _ hx)) (rr_lt _ hx)
theorem bs1_lt {x : Nat} (hx : x < 4294967296) : bs1 x < 4294967296 := xor_lt (xor_lt (rr_lt _ hx) (rr_lt _ hx)) (rr_lt _ hx)
theorem chh_lt {x y z : Nat} (hx : x < 4294967296) : chh x y z < 4294967296 := xor_lt (and_lt hx) (and_lt (xor_lt (by omega) hx))
theorem maj_lt {x y z : Nat} (hx : x < 4294967296) (hy : y < 4294967296) : maj x y z < 4294967296 := xor_lt (xor_lt (and_lt hx) (and_lt hx)) (and_lt hy)
theorem wd_lt {a b c d : Nat} (ha : a < 256) (hb : b < 256) (hc : c < 256) (hd : d < 256) : wd a b c d < 4294967296 := or_lt (or_lt (or_lt (by omega) (by omega)) (by omega)) (by omega)
theorem word_lt (l : List UInt8) (t : Nat) : word l t < 4294967296 := wd_lt (UInt8.toNat_lt _) (UInt8.toNat_lt _) (UInt8.toNat_lt _) (UInt8.toNat_lt _)
theorem Kn_lt (t : Nat) : Kn t < 4294967296 := by
  have h : ∀ x ∈ Kl, x < 4294967296 := by decide
  unfold Kn
  by_cases ht : t < Kl.length
  · rw [List.getD_eq_getElem?_getD, List.getElem?_eq_getElem ht]; exact h _ (List.getElem_mem ht)
  · rw [List.getD_eq_getElem?_getD, List.getElem?_eq_none (by omega)]; decide

/-- All words of a list are words. -/
def Ws (l : List Nat) : Prop := ∀ x ∈ l, x < 4294967296
theorem Ws.getD {l : List Nat} (h : Ws l) (i : Nat) : l.getD i 0 < 4294967296 := by
  rw [List.getD_eq_getElem?_getD]
  by_cases ht : i < l.length
  · rw [List.getElem?_eq_getElem ht]; exact h _ (List.getElem_mem ht)
  · rw [List.getElem?_eq_none (by omega)]; decide
theorem w16_ws (l : List UInt8) : Ws (w16 l) := by
  intro x hx
  simp only [w16, List.mem_map] at hx
  obtain ⟨t, _, rfl⟩ := hx
  exact word_lt l t
theorem w16_len (l : List UInt8) : (w16 l).length = 16 := by simp [w16]
theorem ext_len : ∀ (k : Nat) (l : List Nat), (ext k l).length = l.length + k
  | 0, _ => rfl
  | k + 1, l => by show (ext k _).length = _; rw [ext_len k]; simp; omega
theorem ext_snoc : ∀ (k : Nat) (l : List Nat), ext (k + 1) l = ext k l ++ [nxt (ext k l)]
  | 0, _ => rfl
  | k + 1, l => by show ext (k + 1) (l ++ [nxt l]) = _; rw [ext_snoc k]; rfl
theorem nxt_lt (l : List Nat) : nxt l < 4294967296 := ad_lt _ _
theorem ext_ws : ∀ (k : Nat) {l : List Nat}, Ws l → Ws (ext k l)
  | 0, _, h => h
  | k + 1, l, h => by
    refine ext_ws k (l := l ++ [nxt l]) ?_
    intro x hx
    rcases List.mem_append.1 hx with hx | hx
    · exact h x hx
    · obtain rfl : x = nxt l := by simpa using hx
      exact nxt_lt l
theorem sch_ws (l : List UInt8) : Ws (sch l) := ext_ws 48 (w16_ws l)
theorem sch_len (l : List UInt8) : (sch l).length = 64 := by unfold sch; rw [ext_len, w16_len]

/-- All parts of the state are words. -/
def St.ok (s : St) : Prop := s.a < 4294967296 ∧ s.b < 4294967296 ∧ s.c < 4294967296 ∧ s.d < 4294967296 ∧ s.e < 4294967296 ∧ s.f < 4294967296 ∧ s.g < 4294967296 ∧ s.h < 4294967296
theorem init_ok : init.ok := by unfold St.ok; decide
theorem rnd_ok {s : St} (k w : Nat) (h : s.ok) : (rnd k w s).ok := ⟨ad_lt _ _, h.1, h.2.1, h.2.2.1, ad_lt _ _, h.2.2.2.2.1, h.2.2.2.2.2.1, h.2.2.2.2.2.2.1⟩
theorem rnds_ok (W : List Nat) {s : St} (h : s.ok) : ∀ t, (rnds W s t).ok
  | 0 => h
  | t + 1 => rnd_ok _ _ (rnds_ok W h t)
theorem cmp_ok (s : St) (l : List UInt8) : (cmp s l).ok := ⟨ad_lt _ _, ad_lt _ _, ad_lt _ _, ad_lt _ _, ad_lt _ _, ad_lt _ _, ad_lt _ _, ad_lt _ _⟩
theorem blks_ok : ∀ (n : Nat) {s : St} (l : List UInt8), s.ok → (blks n s l).ok
  | 0, _, _, h => h
  | n + 1, s, l, _ => blks_ok n _ (cmp_ok s _)

/-! ### Blocks of a longer text -/
theorem blks_add : ∀ (m n : Nat) (s : St) (l : List UInt8), blks (m + n) s l = blks n (blks m s l) (l.drop (64 * m))
  | 0, n, s, l => by simp [blks]
  | m + 1, n, s, l => by
    rw [show m + 1 + n = (m + n) + 1 by omega]
    show blks (m + n) _ _ = blks n (blks m _ _) _
    rw [blks_add m n]
    congr 1
    rw [List.drop_drop]
    congr 1; omega
theorem blks_snoc (m : Nat) (s : St) (l : List UInt8) : blks (m + 1) s l = cmp (blks m s l) ((l.drop (64 * m)).take 64) := by
  rw [blks_add]; rfl
theorem blks_app : ∀ (n : Nat) (s : St) (l x : List UInt8), 64 * n ≤ l.length → blks n s (l ++ x) = blks n s l
  | 0, _, _, _, _ => rfl
  | n + 1, s, l, x, h => by
    show blks n _ _ = blks n _ _
    rw [List.take_append_of_le_length (by omega), List.drop_append_of_le_length (by omega), blks_app n _ _ _ (by rw [List.length_drop]; omega)]

theorem be8_len (x : Nat) : (be8 x).length = 8 := rfl
theorem pad_len (n : Nat) : (pad n).length = 9 + zs n := by simp [pad, be8_len]; omega
theorem pad_mod (n : Nat) : (n + (pad n).length) % 64 = 0 := by rw [pad_len]; unfold zs; omega

/-- A text whose blocks are taken whole first, then the rest with the padding. -/
theorem fin_parts (l : List UInt8) : fin l = blks ((l.length % 64 + (pad l.length).length) / 64) (blks (l.length / 64) init (l.take (l.length - l.length % 64))) (l.drop (l.length - l.length % 64) ++ pad l.length) := by
  unfold fin
  have hm := pad_mod l.length
  rw [show (l.length + (pad l.length).length) / 64 = l.length / 64 + (l.length % 64 + (pad l.length).length) / 64 by omega, blks_add]
  have e : l.length - l.length % 64 = 64 * (l.length / 64) := by omega
  rw [e]
  congr 1
  · rw [blks_app _ _ _ _ (by omega)]
    have h := blks_app (l.length / 64) init (l.take (64 * (l.length / 64))) (l.drop (64 * (l.length / 64))) (by rw [List.length_take]; omega)
    rw [List.take_append_drop] at h
    exact h
  · rw [List.drop_append_of_le_length (by omega)]

/-! ### The state out of the digest -/
theorem b8_nat (n : Nat) : (b8 n).toNat = n % 256 := by simp [b8]
theorem wd_sum {a b c d : Nat} (hb : b < 256) (hc : c < 256) (hd : d < 256) : wd a b c d = a * 16777216 + b * 65536 + c * 256 + d := by
  unfold wd
  have h1 := Nat.two_pow_add_eq_or_of_lt (i := 24) (b := b * 65536) (by omega) a
  have h2 := Nat.two_pow_add_eq_or_of_lt (i := 16) (b := c * 256) (by omega) (a * 256 + b)
  have h3 := Nat.two_pow_add_eq_or_of_lt (i := 8) (b := d) (by omega) (a * 65536 + b * 256 + c)
  have e1 : a * 16777216 ||| b * 65536 = 2 ^ 16 * (a * 256 + b) := by
    rw [show a * 16777216 = 2 ^ 24 * a by omega, ← h1]; omega
  rw [e1, ← h2, show 2 ^ 16 * (a * 256 + b) + c * 256 = 2 ^ 8 * (a * 65536 + b * 256 + c) by omega, ← h3]
  omega
theorem wd_be4 {x : Nat} (hx : x < 4294967296) : wd (b8 (x / 16777216)).toNat (b8 (x / 65536)).toNat (b8 (x / 256)).toNat (b8 x).toNat = x := by
  simp only [b8_nat]
  rw [wd_sum (by omega) (by omega) (by omega)]
  omega
theorem dgs_len (s : St) : (dgs s).length = 32 := rfl
theorem sum_len (l : List UInt8) : (sum l).length = 32 := rfl
/-- The state whose bytes are the list. -/
def stt (l : List UInt8) : St := ⟨word l 0, word l 1, word l 2, word l 3, word l 4, word l 5, word l 6, word l 7⟩
theorem stt_dgs {s : St} (h : s.ok) : stt (dgs s) = s := by
  obtain ⟨a, b, c, d, e, f, g, i⟩ := s
  obtain ⟨h1, h2, h3, h4, h5, h6, h7, h8⟩ := h
  simp only at h1 h2 h3 h4 h5 h6 h7 h8
  have e1 := wd_be4 h1
  have e2 := wd_be4 h2
  have e3 := wd_be4 h3
  have e4 := wd_be4 h4
  have e5 := wd_be4 h5
  have e6 := wd_be4 h6
  have e7 := wd_be4 h7
  have e8 := wd_be4 h8
  show St.mk (wd (b8 (a / 16777216)).toNat (b8 (a / 65536)).toNat (b8 (a / 256)).toNat (b8 a).toNat) (wd (b8 (b / 16777216)).toNat (b8 (b / 65536)).toNat (b8 (b / 256)).toNat (b8 b).toNat)
    (wd (b8 (c / 16777216)).toNat (b8 (c / 65536)).toNat (b8 (c / 256)).toNat (b8 c).toNat) (wd (b8 (d / 16777216)).toNat (b8 (d / 65536)).toNat (b8 (d / 256)).toNat (b8 d).toNat)
    (wd (b8 (e / 16777216)).toNat (b8 (e / 65536)).toNat (b8 (e / 256)).toNat (b8 e).toNat) (wd (b8 (f / 16777216)).toNat (b8 (f / 65536)).toNat (b8 (f / 256)).toNat (b8 f).toNat)
    (wd (b8 (g / 16777216)).toNat (b8 (g / 65536)).toNat (b8 (g / 256)).toNat (b8 g).toNat) (wd (b8 (i / 16777216)).toNat (b8 (i / 65536)).toNat (b8 (i / 256)).toNat (b8 i).toNat) = _
  rw [e1, e2, e3, e4, e5, e6, e7, e8]

theorem fin_ok (l : List UInt8) : (fin l).ok := blks_ok _ _ init_ok
/-- The hash of a padded text with more behind it, out of the hash of the text. -/
theorem sum_more (l m : List UInt8) : sum (l ++ pad l.length ++ m) =
    dgs (blks ((m.length + (pad (l.length + (pad l.length).length + m.length)).length) / 64) (stt (sum l)) (m ++ pad (l.length + (pad l.length).length + m.length))) := by
  unfold sum
  rw [stt_dgs (fin_ok l)]
  congr 1
  have h1 := pad_mod l.length
  have hl : (l ++ pad l.length ++ m).length = l.length + (pad l.length).length + m.length := by simp [Nat.add_assoc]
  obtain ⟨N, hN⟩ : ∃ N, N = l.length + (pad l.length).length := ⟨_, rfl⟩
  rw [← hN] at h1 hl
  unfold fin
  rw [hl, ← hN, show (N + m.length + (pad (N + m.length)).length) / 64 = N / 64 + (m.length + (pad (N + m.length)).length) / 64 by omega, blks_add]
  have hlp : (l ++ pad l.length).length = N := by rw [hN]; simp
  rw [List.append_assoc (l ++ pad l.length)]
  congr 1
  · rw [blks_app _ _ _ _ (by omega)]
  · rw [List.drop_append_of_le_length (by omega), List.drop_of_length_le (by omega)]; rfl

/-! ### The tagged hashes -/
def tag (t : List UInt8) (l : List UInt8) : List UInt8 := sum (b8 (t.take 255).length :: (t.take 255 ++ l))
def pairT : List UInt8 := [112, 97, 105, 114]
def stepT : List UInt8 := [115, 116, 101, 112]
def chain (x : List UInt8) : Nat → List UInt8
  | 0 => x
  | n + 1 => tag stepT (chain x n)
theorem tag_len (t l : List UInt8) : (tag t l).length = 32 := rfl
theorem chain_len {x : List UInt8} (h : x.length = 32) : ∀ n, (chain x n).length = 32
  | 0 => h
  | n + 1 => rfl
theorem chain_add (x : List UInt8) (m : Nat) : ∀ n, chain (chain x m) n = chain x (m + n)
  | 0 => rfl
  | n + 1 => by show tag stepT _ = tag stepT _; rw [chain_add x m n]; rfl

theorem fin_empty : fin [] = ⟨0xe3b0c442, 0x98fc1c14, 0x9afbf4c8, 0x996fb924, 0x27ae41e4, 0x649b934c, 0xa495991b, 0x7852b855⟩ := by kernel_rfl
theorem fin_abc : fin [97, 98, 99] = ⟨0xba7816bf, 0x8f01cfea, 0x414140de, 0x5dae2223, 0xb00361a3, 0x96177a9c, 0xb410ff61, 0xf20015ad⟩ := by kernel_rfl
theorem sum_empty : sum [] = [0xe3, 0xb0, 0xc4, 0x42, 0x98, 0xfc, 0x1c, 0x14, 0x9a, 0xfb, 0xf4, 0xc8, 0x99, 0x6f, 0xb9, 0x24, 0x27, 0xae, 0x41, 0xe4, 0x64, 0x9b, 0x93, 0x4c, 0xa4, 0x95, 0x99, 0x1b, 0x78, 0x52, 0xb8, 0x55] := by
  unfold sum; rw [fin_empty]; kernel_rfl
theorem sum_abc : sum [97, 98, 99] = [0xba, 0x78, 0x16, 0xbf, 0x8f, 0x01, 0xcf, 0xea, 0x41, 0x41, 0x40, 0xde, 0x5d, 0xae, 0x22, 0x23, 0xb0, 0x03, 0x61, 0xa3, 0x96, 0x17, 0x7a, 0x9c, 0xb4, 0x10, 0xff, 0x61, 0xf2, 0x00, 0x15, 0xad] := by
  unfold sum; rw [fin_abc]; kernel_rfl
end Go.Proofs.YtccepoeenkpifaaDoor.Sha
