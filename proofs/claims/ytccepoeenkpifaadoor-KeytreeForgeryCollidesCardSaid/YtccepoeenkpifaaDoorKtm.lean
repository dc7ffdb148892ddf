/-
  Plain mathematics of Merkle trees: levels, roots, paths, climbing. A row of digests is the list of its bytes (Wt.el, Wt.cat). Nothing of a program is named here.
-/
import Derived.Test.YtccepoeenkpifaaDoorWts
namespace Go.Proofs.YtccepoeenkpifaaDoor
set_option linter.unusedVariables false
set_option linter.unusedSimpArgs false
namespace Kt
def P (x y : List UInt8) : List UInt8 := Sha.tag Sha.pairT (x ++ y)
theorem P_len (x y : List UInt8) : (P x y).length = 32 := Sha.tag_len _ _
/-- The i-th node of level k above the leaves f. -/
def nd (f : Nat → List UInt8) : Nat → Nat → List UInt8
  | 0, i => f i
  | k + 1, i => P (nd f k (2 * i)) (nd f k (2 * i + 1))
theorem nd_len {f : Nat → List UInt8} {k i : Nat} (h : k = 0 → (f i).length = 32) : (nd f k i).length = 32 := by
  cases k with
  | zero => exact h rfl
  | succ k => exact P_len _ _
theorem pow_pos (k : Nat) : 0 < 2 ^ k := Nat.two_pow_pos k
theorem pow_two {k : Nat} : 2 ^ (k + 1) = 2 * 2 ^ k := by rw [Nat.pow_succ, Nat.mul_comm]
theorem nd_congr {f g : Nat → List UInt8} : ∀ (k i : Nat), (∀ j, j < 2 ^ k * (i + 1) → f j = g j) → nd f k i = nd g k i
  | 0, i, h => h i (by simp)
  | k + 1, i, h => by
    have e : 2 ^ (k + 1) * (i + 1) = 2 ^ k * (2 * i + 1 + 1) := by rw [pow_two, Nat.mul_comm 2, Nat.mul_assoc]; congr 1
    rw [e] at h
    have h2 : 2 ^ k * (2 * i + 1) ≤ 2 ^ k * (2 * i + 1 + 1) := Nat.mul_le_mul_left _ (by omega)
    simp only [nd, nd_congr k (2 * i) (fun j hj => h j (by omega)), nd_congr k (2 * i + 1) h]
theorem nd_shift {f : Nat → List UInt8} : ∀ (k o i : Nat), nd (fun j => f (o * 2 ^ k + j)) k i = nd f k (o + i)
  | 0, o, i => by simp [nd]
  | k + 1, o, i => by
    have e : (fun j => f (o * 2 ^ (k + 1) + j)) = fun j => f ((2 * o) * 2 ^ k + j) := by
      funext j; rw [pow_two, ← Nat.mul_assoc, Nat.mul_comm o 2]
    simp only [nd]
    rw [e, nd_shift k (2 * o) (2 * i), nd_shift k (2 * o) (2 * i + 1)]
    congr 1
    · congr 1; omega
    · congr 1; omega

/-- The level above m pairs. -/
def parE (F : List UInt8) (i : Nat) : List UInt8 := P (Wt.el F (2 * i)) (Wt.el F (2 * i + 1))
theorem parE_len (F : List UInt8) (i : Nat) : (parE F i).length = 32 := P_len _ _
def par (F : List UInt8) (m : Nat) : List UInt8 := Wt.cat (parE F) m
/-- Level k of 2 ^ K leaves. -/
def lv (F : List UInt8) (K k : Nat) : List UInt8 := Wt.cat (nd (Wt.el F) k) (2 ^ (K - k))
theorem nd_el_len {F : List UInt8} {K k i : Nat} (hF : F.length = 32 * 2 ^ K) (hi : i < 2 ^ (K - k)) : (nd (Wt.el F) k i).length = 32 :=
  nd_len fun h => by subst h; exact Wt.el_len hF (by simpa using hi)
theorem lv_len {F : List UInt8} {K k : Nat} (hF : F.length = 32 * 2 ^ K) : (lv F K k).length = 32 * 2 ^ (K - k) := Wt.cat_len _ fun i hi => nd_el_len hF hi
theorem el_lv {F : List UInt8} {K k i : Nat} (hF : F.length = 32 * 2 ^ K) (hi : i < 2 ^ (K - k)) : Wt.el (lv F K k) i = nd (Wt.el F) k i := Wt.el_cat (fun j hj => nd_el_len hF hj) hi
theorem lv_zero {F : List UInt8} {K : Nat} (hF : F.length = 32 * 2 ^ K) : lv F K 0 = F := Wt.cat_el (2 ^ K) hF
theorem lv_pow {K k : Nat} (hk : k < K) : 2 ^ (K - k) = 2 * 2 ^ (K - (k + 1)) := by
  rw [← pow_two]; congr 1; omega
theorem par_lv {F : List UInt8} {K k : Nat} (hF : F.length = 32 * 2 ^ K) (hk : k < K) : par (lv F K k) (2 ^ (K - (k + 1))) = lv F K (k + 1) := by
  refine Wt.cat_congr _ fun i hi => ?_
  have hp := lv_pow hk
  unfold parE
  rw [el_lv hF (by omega), el_lv hF (by omega)]
  rfl
theorem lv_top {F : List UInt8} {K : Nat} : lv F K K = nd (Wt.el F) K 0 := by
  unfold lv; rw [Nat.sub_self]; simp [Wt.cat]

/-- The first k of n digests, zeros behind. -/
def fillTo (f : Nat → List UInt8) (n k : Nat) : List UInt8 := Wt.cat f k ++ List.replicate (32 * (n - k)) 0
theorem fillTo_len {f : Nat → List UInt8} {n k : Nat} (hf : ∀ i, (f i).length = 32) (hk : k ≤ n) : (fillTo f n k).length = 32 * n := by
  unfold fillTo
  rw [List.length_append, Wt.cat_len k (fun i _ => hf i), List.length_replicate]; omega
theorem fillTo_zero (f : Nat → List UInt8) (n : Nat) : fillTo f n 0 = List.replicate (32 * n) 0 := by simp [fillTo, Wt.cat]
theorem fillTo_done (f : Nat → List UInt8) (n : Nat) : fillTo f n n = Wt.cat f n := by unfold fillTo; simp
theorem fillTo_put {f : Nat → List UInt8} {n k : Nat} (hf : ∀ i, (f i).length = 32) (hk : k < n) :
    (fillTo f n k).take (32 * k) ++ f k ++ (fillTo f n k).drop (32 * k + 32) = fillTo f n (k + 1) := by
  have hl := Wt.cat_len k (fun i _ => hf i)
  unfold fillTo
  rw [List.take_append_of_le_length (by omega), List.take_of_length_le (by omega), List.drop_append, List.drop_of_length_le (by omega), List.nil_append, List.drop_replicate, hl]
  simp only [Wt.cat]
  congr 2
  omega

/-! ### Roots -/
def mrk (F : List UInt8) (k : Nat) : List UInt8 := nd (Wt.el F) k 0
theorem mrk_len {F : List UInt8} {k : Nat} (hF : F.length = 32 * 2 ^ k) : (mrk F k).length = 32 := nd_el_len hF (Nat.two_pow_pos _)
theorem el_cut {F : List UInt8} {a n j : Nat} (hj : j < n) : Wt.el ((F.drop (32 * a)).take (32 * n)) j = Wt.el F (a + j) := by
  unfold Wt.el
  rw [List.drop_take, List.drop_drop, List.take_take]
  congr 1
  · omega
  · congr 1; omega
theorem mrk_cut {F : List UInt8} {k o : Nat} : mrk ((F.drop (32 * (o * 2 ^ k))).take (32 * 2 ^ k)) k = nd (Wt.el F) k o := by
  unfold mrk
  rw [nd_congr (g := fun j => Wt.el F (o * 2 ^ k + j)) k 0 (fun j hj => el_cut (by simpa using hj)), nd_shift k o 0]
  rfl
theorem mrk_succ {F : List UInt8} {k : Nat} (hF : F.length = 32 * 2 ^ (k + 1)) : mrk F (k + 1) = P (mrk (F.take (32 * 2 ^ k)) k) (mrk (F.drop (32 * 2 ^ k)) k) := by
  have h0 := mrk_cut (F := F) (k := k) (o := 0)
  have h1 := mrk_cut (F := F) (k := k) (o := 1)
  rw [Nat.zero_mul, Nat.mul_zero, List.drop_zero] at h0
  rw [Nat.one_mul, List.take_of_length_le (by rw [List.length_drop, hF, pow_two]; omega)] at h1
  rw [h0, h1]
  rfl

/-! ### Paths and climbing -/
def sib (i : Nat) : Nat := if i % 2 = 0 then i + 1 else i - 1
theorem sib_lt {i m : Nat} (h : i < 2 * m) : sib i < 2 * m := by unfold sib; split <;> omega
def pthE (F : List UInt8) (ix k : Nat) : List UInt8 := nd (Wt.el F) k (sib (ix / 2 ^ k))
def pth (F : List UInt8) (ix K : Nat) : List UInt8 := Wt.cat (pthE F ix) K
theorem ix_lt {ix K k : Nat} (h : ix < 2 ^ K) (hk : k ≤ K) : ix / 2 ^ k < 2 ^ (K - k) := by
  rw [Nat.div_lt_iff_lt_mul (Nat.two_pow_pos _), ← Nat.pow_add]
  rwa [show K - k + k = K by omega]
theorem pthE_len {F : List UInt8} {ix K k : Nat} (hF : F.length = 32 * 2 ^ K) (hi : ix < 2 ^ K) (hk : k < K) : (pthE F ix k).length = 32 := by
  have h := ix_lt hi (Nat.le_of_lt hk)
  rw [lv_pow hk] at h
  refine nd_el_len hF ?_
  rw [lv_pow hk]
  exact sib_lt h
theorem pth_len {F : List UInt8} {ix K : Nat} (hF : F.length = 32 * 2 ^ K) (hi : ix < 2 ^ K) : (pth F ix K).length = 32 * K := Wt.cat_len K fun k hk => pthE_len hF hi hk
theorem half_pow (i k : Nat) : i / 2 ^ (k + 1) = i / 2 ^ k / 2 := by rw [Nat.pow_succ, Nat.div_div_eq_div_mul]
theorem half_pow' (i k : Nat) : i / 2 ^ (k + 1) = i / 2 / 2 ^ k := by rw [pow_two, Nat.div_div_eq_div_mul]
/-- One step: the current value, the element, the index. -/
def stp (x y : List UInt8) (i : Nat) : List UInt8 := if i % 2 = 0 then P x y else P y x
theorem stp_len (x y : List UInt8) (i : Nat) : (stp x y i).length = 32 := by unfold stp; split <;> exact P_len _ _
def clm (x : List UInt8) (i : Nat) (p : Nat → List UInt8) : Nat → List UInt8
  | 0 => x
  | k + 1 => stp (clm x i p k) (p k) (i / 2 ^ k)
theorem clm_len {x : List UInt8} (hx : x.length = 32) (i : Nat) (p : Nat → List UInt8) (k : Nat) : (clm x i p k).length = 32 := by
  cases k with
  | zero => exact hx
  | succ k => exact stp_len _ _ _
theorem clm_congr {x : List UInt8} {i : Nat} {p q : Nat → List UInt8} : ∀ k, (∀ j, j < k → p j = q j) → clm x i p k = clm x i q k
  | 0, _ => rfl
  | k + 1, h => by simp only [clm, clm_congr k (fun j hj => h j (by omega)), h k (by omega)]
theorem clm_tail (x : List UInt8) (i : Nat) (p : Nat → List UInt8) : ∀ k, clm x i p (k + 1) = clm (stp x (p 0) i) (i / 2) (fun j => p (j + 1)) k
  | 0 => by simp [clm]
  | k + 1 => by
    have h := clm_tail x i p k
    rw [clm, h, half_pow']
    rfl
theorem clm_path (f : Nat → List UInt8) (i : Nat) : ∀ k, clm (f i) i (fun k => nd f k (sib (i / 2 ^ k))) k = nd f k (i / 2 ^ k)
  | 0 => by simp [clm, nd]
  | k + 1 => by
    rw [clm, clm_path f i k, half_pow]
    obtain ⟨j, hj⟩ : ∃ j, j = i / 2 ^ k := ⟨_, rfl⟩
    rw [← hj]
    unfold stp sib
    simp only [nd]
    by_cases h : j % 2 = 0
    · rw [if_pos h, if_pos h, show 2 * (j / 2) = j by omega]
    · rw [if_neg h, if_neg h, show 2 * (j / 2) = j - 1 by omega, show j - 1 + 1 = j by omega]
/-- The climb of a row of digests. -/
def climb (x : List UInt8) (i : Nat) (G : List UInt8) (n : Nat) : List UInt8 := clm x i (Wt.el G) n
theorem climb_len {x : List UInt8} (hx : x.length = 32) (i : Nat) (G : List UInt8) (n : Nat) : (climb x i G n).length = 32 := clm_len hx _ _ _
theorem climb_path {F : List UInt8} {ix K : Nat} (hF : F.length = 32 * 2 ^ K) (hi : ix < 2 ^ K) : climb (Wt.el F ix) ix (pth F ix K) K = mrk F K := by
  unfold climb pth
  rw [clm_congr (q := pthE F ix) K (fun j hj => Wt.el_cat (fun k hk => pthE_len hF hi hk) hj)]
  have h := clm_path (Wt.el F) ix K
  rw [Nat.div_eq_of_lt hi] at h
  exact h
theorem climb_succ (x : List UInt8) (i : Nat) (G : List UInt8) (n : Nat) : climb x i G (n + 1) = stp (climb x i G n) (Wt.el G n) (i / 2 ^ n) := rfl
theorem climb_tail (x : List UInt8) (i : Nat) (G : List UInt8) (n : Nat) : climb x i G (n + 1) = climb (stp x (Wt.el G 0) i) (i / 2) (G.drop 32) n := by
  unfold climb
  rw [clm_tail]
  refine clm_congr n fun j hj => ?_
  unfold Wt.el
  rw [List.drop_drop]
  congr 2; omega
theorem stp_inj_ne {x y a b : List UInt8} {i : Nat} (hxy : x ≠ y) (h : stp x a i = stp y b i) : (i % 2 = 0 → P x a = P y b) ∧ (¬ i % 2 = 0 → P a x = P b y) := by
  unfold stp at h
  exact ⟨fun h0 => by simpa [h0] using h, fun h0 => by simpa [h0] using h⟩

/-! ### Widths -/
/-- A tree may have n leaves. -/
def isw (n : Nat) : Bool := n == 1 || n == 2 || n == 4 || n == 8 || n == 16 || n == 32 || n == 64
theorem isw_pow {n : Nat} (h : isw n = true) : ∃ K, K ≤ 6 ∧ n = 2 ^ K := by
  unfold isw at h
  simp only [Bool.or_eq_true, beq_iff_eq] at h
  rcases h with ((((((rfl | rfl) | rfl) | rfl) | rfl) | rfl) | rfl)
  · exact ⟨0, by omega, rfl⟩
  · exact ⟨1, by omega, rfl⟩
  · exact ⟨2, by omega, rfl⟩
  · exact ⟨3, by omega, rfl⟩
  · exact ⟨4, by omega, rfl⟩
  · exact ⟨5, by omega, rfl⟩
  · exact ⟨6, by omega, rfl⟩
theorem isw_of_pow {K : Nat} (h : K ≤ 6) : isw (2 ^ K) = true := by
  have h2 : K = 0 ∨ K = 1 ∨ K = 2 ∨ K = 3 ∨ K = 4 ∨ K = 5 ∨ K = 6 := by omega
  rcases h2 with rfl | rfl | rfl | rfl | rfl | rfl | rfl <;> rfl
theorem pow_le {K : Nat} (h : K ≤ 6) : 2 ^ K ≤ 64 := Nat.pow_le_pow_right (n := 2) (by omega) h
end Kt
end Go.Proofs.YtccepoeenkpifaaDoor
