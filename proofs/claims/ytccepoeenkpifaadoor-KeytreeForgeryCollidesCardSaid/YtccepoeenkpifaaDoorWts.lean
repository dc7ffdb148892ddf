/-
  Plain mathematics of Winternitz signatures: chain lengths, rows of digests, keys. Nothing of a program is named here.
  Memory words for rows of digests and of ints: the middle of a block loaded and stored, elements of a slice whose elements are arrays, an array out of an array of arrays; '== ' of digests with its answer.
-/
import Derived.Test.YtccepoeenkpifaaDoorSha
import Derived.Test.YtccepoeenkpifaaDoorLeb
import Derived.Test.YtccepoeenkpifaaDoorAgg
import Derived.Test.YtccepoeenkpifaaDoorShX
import Derived.Great.BuildSlice
namespace Go.Proofs.YtccepoeenkpifaaDoor
section
set_option linter.unusedVariables false
set_option linter.unusedSimpArgs false

/-- Numbers as cells of type int. -/
def in64 (n : Nat) : Value := .int .i64 (n : Int)
def ins (l : List Nat) : List Value := l.map in64
theorem ins_length (l : List Nat) : (ins l).length = l.length := by simp [ins]
theorem ins_one (l : List Nat) : ∀ u ∈ ins l, u.oneCell' = true := by
  intro u hu; simp only [ins, List.mem_map] at hu; obtain ⟨b, _, rfl⟩ := hu; rfl
theorem ins_get {l : List Nat} {i n : Nat} (h : l[i]? = some n) : (ins l)[i]? = some (.int .i64 (n : Int)) := by simp [ins, h, in64]
theorem ins_append (l m : List Nat) : ins (l ++ m) = ins l ++ ins m := by simp [ins]

namespace Wt
/-- The i-th half of the digest's bytes. -/
def byt (d : List UInt8) (i : Nat) : Nat := (d.getD i 0).toNat
theorem byt_lt (d : List UInt8) (i : Nat) : byt d i < 256 := UInt8.toNat_lt _
def nib (d : List UInt8) (i : Nat) : Nat := if i % 2 = 0 then byt d (i / 2) / 16 else byt d (i / 2) % 16
theorem nib_le (d : List UInt8) (i : Nat) : nib d i ≤ 15 := by
  have := byt_lt d (i / 2)
  unfold nib; split <;> omega
/-- The checksum of the first k bytes. -/
def cs (d : List UInt8) : Nat → Nat
  | 0 => 0
  | k + 1 => cs d k + (15 - byt d k / 16) + (15 - byt d k % 16)
theorem cs_le (d : List UInt8) : ∀ k, cs d k ≤ 30 * k
  | 0 => by simp [cs]
  | k + 1 => by have := cs_le d k; simp only [cs]; omega
/-- The i-th chain length. -/
def nn (d : List UInt8) (i : Nat) : Nat := if i < 16 then nib d i else if i = 16 then cs d 8 / 16 else cs d 8 % 16
theorem nn_le (d : List UInt8) (i : Nat) : nn d i ≤ 15 := by
  have h := cs_le d 8
  unfold nn
  split
  · exact nib_le d i
  · split <;> omega
def ns (d : List UInt8) : List Nat := (List.range 18).map (nn d)
theorem ns_len (d : List UInt8) : (ns d).length = 18 := by simp [ns]
theorem ns_get (d : List UInt8) {i : Nat} (h : i < 18) : (ns d)[i]? = some (nn d i) := by simp [ns, h]
/-- The lengths after k bytes. -/
def part (d : List UInt8) (k : Nat) : List Nat := (List.range 18).map fun i => if i < 2 * k then nib d i else 0
theorem part_len (d : List UInt8) (k : Nat) : (part d k).length = 18 := by simp [part]
theorem part_zero (d : List UInt8) : part d 0 = [0, 0, 0, 0, 0, 0, 0, 0, 0, 0, 0, 0, 0, 0, 0, 0, 0, 0] := rfl
theorem part_succ (d : List UInt8) (k : Nat) (hk : k < 8) : ((part d k).set (2 * k) (byt d k / 16)).set (2 * k + 1) (byt d k % 16) = part d (k + 1) := by
  apply List.ext_getElem?
  intro i
  by_cases hi : i < 18
  · simp only [List.getElem?_set, List.length_set, List.length_map, List.length_range, part, List.getElem?_map, List.getElem?_range hi, Option.map_some]
    by_cases h1 : 2 * k + 1 = i
    · subst h1
      rw [if_pos rfl, if_pos hi, if_pos (by omega)]
      unfold nib
      rw [if_neg (by omega), show (2 * k + 1) / 2 = k by omega]
    · rw [if_neg h1]
      by_cases h2 : 2 * k = i
      · subst h2
        rw [if_pos rfl, if_pos (by omega), if_pos (by omega)]
        unfold nib
        rw [if_pos (by omega), show 2 * k / 2 = k by omega]
      · rw [if_neg h2]
        by_cases h3 : i < 2 * k
        · rw [if_pos h3, if_pos (by omega)]
        · rw [if_neg h3, if_neg (by omega)]
  · rw [List.getElem?_eq_none (by simp [part_len]; omega), List.getElem?_eq_none (by rw [part_len]; omega)]
theorem part_done (d : List UInt8) : ((part d 8).set 16 (cs d 8 / 16)).set 17 (cs d 8 % 16) = ns d := by
  apply List.ext_getElem?
  intro i
  by_cases hi : i < 18
  · simp only [List.getElem?_set, List.length_set, part_len, part, ns, List.getElem?_map, List.getElem?_range hi, Option.map_some]
    unfold nn
    by_cases h1 : 17 = i
    · subst h1; simp
    · by_cases h2 : 16 = i
      · subst h2; simp
      · have : i < 16 := by omega
        simp [h1, h2, this]
  · rw [List.getElem?_eq_none (by simp [part_len]; omega), List.getElem?_eq_none (by rw [ns_len]; omega)]
/-- The lengths as a list that grows. -/
def grow (d : List UInt8) : Nat → List Nat
  | 0 => []
  | k + 1 => grow d k ++ [byt d k / 16] ++ [byt d k % 16]
theorem grow_len (d : List UInt8) : ∀ k, (grow d k).length = 2 * k
  | 0 => rfl
  | k + 1 => by simp [grow, grow_len d k]; omega

/-! ### Which digests have the same lengths -/
theorem nib_pair (d : List UInt8) (k : Nat) : nib d (2 * k) = byt d k / 16 ∧ nib d (2 * k + 1) = byt d k % 16 := by
  unfold nib
  rw [if_pos (by omega), if_neg (by omega), show 2 * k / 2 = k by omega, show (2 * k + 1) / 2 = k by omega]
  exact ⟨rfl, rfl⟩
theorem cs_mono {a b : List UInt8} : ∀ k, (∀ i, i < 2 * k → nib b i ≤ nib a i) → cs a k ≤ cs b k ∧ (cs a k = cs b k → ∀ i, i < 2 * k → nib a i = nib b i)
  | 0, _ => ⟨Nat.le_refl _, fun _ i h => by omega⟩
  | k + 1, h => by
    obtain ⟨h1, h2⟩ := cs_mono k (fun i hi => h i (by omega))
    have a1 := h (2 * k) (by omega)
    have a2 := h (2 * k + 1) (by omega)
    obtain ⟨e1, e2⟩ := nib_pair a k
    obtain ⟨e3, e4⟩ := nib_pair b k
    have l1 := byt_lt a k
    have l2 := byt_lt b k
    simp only [cs]
    rw [e1, e3] at a1
    rw [e2, e4] at a2
    refine ⟨by omega, fun he i hi => ?_⟩
    by_cases c1 : i < 2 * k
    · exact h2 (by omega) i c1
    · by_cases c2 : i = 2 * k
      · subst c2; rw [e1, e3]; omega
      · obtain rfl : i = 2 * k + 1 := by omega
        rw [e2, e4]; omega
/-- No length of a is less than b's: all are the same. -/
theorem nn_same {a b : List UInt8} (h : ∀ i, i < 18 → nn b i ≤ nn a i) : ∀ i, i < 16 → nib a i = nib b i := by
  have h1 : ∀ i, i < 16 → nib b i ≤ nib a i := fun i hi => by
    have := h i (by omega)
    simpa [nn, hi] using this
  obtain ⟨m1, m2⟩ := cs_mono (a := a) (b := b) 8 (fun i hi => h1 i (by omega))
  refine fun i hi => m2 ?_ i (by omega)
  have g1 := h 16 (by omega)
  have g2 := h 17 (by omega)
  simp only [nn, Nat.lt_irrefl, if_false, if_true, show ¬ (17 : Nat) < 16 by omega, show ¬ (17 : Nat) = 16 by omega] at g1 g2
  omega
theorem byt_of_nib {a b : List UInt8} (h : ∀ i, i < 16 → nib a i = nib b i) (k : Nat) (hk : k < 8) : byt a k = byt b k := by
  have h1 := h (2 * k) (by omega)
  have h2 := h (2 * k + 1) (by omega)
  rw [(nib_pair a k).1, (nib_pair b k).1] at h1
  rw [(nib_pair a k).2, (nib_pair b k).2] at h2
  omega
theorem take_of_byt {a b : List UInt8} (ha : a.length = 32) (hb : b.length = 32) (h : ∀ k, k < 8 → byt a k = byt b k) : a.take 8 = b.take 8 := by
  apply List.ext_getElem?
  intro i
  by_cases hi : i < 8
  · rw [List.getElem?_take, List.getElem?_take, if_pos hi, if_pos hi]
    have h1 := h i hi
    unfold byt at h1
    have e1 : a[i]? = some (a[i]'(by omega)) := List.getElem?_eq_getElem _
    have e2 : b[i]? = some (b[i]'(by omega)) := List.getElem?_eq_getElem _
    rw [List.getD_eq_getElem?_getD, List.getD_eq_getElem?_getD, e1, e2, Option.getD_some, Option.getD_some] at h1
    rw [e1, e2, UInt8.toNat_inj.1 h1]
  · rw [List.getElem?_eq_none (by simp; omega), List.getElem?_eq_none (by simp; omega)]
theorem byt_of_take {a b : List UInt8} (h : a.take 8 = b.take 8) (k : Nat) (hk : k < 8) : byt a k = byt b k := by
  have h1 := congrArg (fun l => l[k]?) h
  simp only [List.getElem?_take, if_pos hk] at h1
  unfold byt
  rw [List.getD_eq_getElem?_getD, List.getD_eq_getElem?_getD, h1]
theorem cs_congr {a b : List UInt8} (h : ∀ k, k < 8 → byt a k = byt b k) : ∀ k, k ≤ 8 → cs a k = cs b k
  | 0, _ => rfl
  | k + 1, hk => by simp only [cs, cs_congr h k (by omega), h k (by omega)]
theorem nib_congr {a b : List UInt8} (h : ∀ k, k < 8 → byt a k = byt b k) (i : Nat) (hi : i < 16) : nib a i = nib b i := by
  unfold nib; rw [h (i / 2) (by omega)]
theorem nn_congr {a b : List UInt8} (h : a.take 8 = b.take 8) : nn a = nn b := by
  have hb := byt_of_take h
  funext i
  unfold nn
  by_cases h1 : i < 16
  · rw [if_pos h1, if_pos h1, nib_congr hb i h1]
  · rw [if_neg h1, if_neg h1, cs_congr hb 8 (Nat.le_refl _)]
theorem ns_congr {a b : List UInt8} (h : a.take 8 = b.take 8) : ns a = ns b := by unfold ns; rw [nn_congr h]
theorem covers_iff {a b : List UInt8} (ha : a.length = 32) (hb : b.length = 32) : (∀ i, i < 18 → nn b i ≤ nn a i) ↔ a.take 8 = b.take 8 := by
  constructor
  · intro h; exact take_of_byt ha hb (byt_of_nib (nn_same h))
  · intro h i _; rw [nn_congr h]; exact Nat.le_refl _
theorem ns_iff {a b : List UInt8} (ha : a.length = 32) (hb : b.length = 32) : ns a = ns b ↔ a.take 8 = b.take 8 := by
  constructor
  · intro h
    refine (covers_iff ha hb).1 fun i hi => ?_
    have h1 := congrArg (fun l => l[i]?) h
    simp only [ns_get a hi, ns_get b hi, Option.some.injEq] at h1
    omega
  · exact ns_congr

theorem grow_eq (d : List UInt8) : ∀ k, grow d k = (List.range (2 * k)).map (nib d)
  | 0 => rfl
  | k + 1 => by
    rw [grow, grow_eq d k, show 2 * (k + 1) = 2 * k + 1 + 1 by omega, List.range_succ, List.range_succ, List.map_append, List.map_append, List.map_cons, List.map_nil, List.map_cons, List.map_nil, (nib_pair d k).1, (nib_pair d k).2]
theorem grow_done (d : List UInt8) : grow d 8 ++ [cs d 8 / 16] ++ [cs d 8 % 16] = ns d := by
  have h : (List.range (2 * 8)).map (nib d) = (List.range 16).map (nn d) := List.map_congr_left fun i hi => by
    have : i < 16 := by simpa using hi
    simp [nn, this]
  have h2 : List.range 18 = List.range 16 ++ [16, 17] := by decide
  rw [grow_eq, h, ns, h2, List.map_append, List.append_assoc]
  rfl

/-! ### Rows of digests, as their bytes -/
def el (F : List UInt8) (i : Nat) : List UInt8 := (F.drop (32 * i)).take 32
theorem el_len {F : List UInt8} {n i : Nat} (h : F.length = 32 * n) (hi : i < n) : (el F i).length = 32 := by simp [el, h]; omega
def cat (f : Nat → List UInt8) : Nat → List UInt8
  | 0 => []
  | n + 1 => cat f n ++ f n
theorem cat_len {f : Nat → List UInt8} : ∀ n, (∀ i, i < n → (f i).length = 32) → (cat f n).length = 32 * n
  | 0, _ => rfl
  | n + 1, h => by simp [cat, cat_len n (fun i hi => h i (by omega)), h n (by omega)]; omega
theorem cat_congr {f g : Nat → List UInt8} : ∀ n, (∀ i, i < n → f i = g i) → cat f n = cat g n
  | 0, _ => rfl
  | n + 1, h => by simp only [cat, cat_congr n (fun i hi => h i (by omega)), h n (by omega)]
theorem el_cat {f : Nat → List UInt8} : ∀ {n i : Nat}, (∀ j, j < n → (f j).length = 32) → i < n → el (cat f n) i = f i
  | n + 1, i, h, hi => by
    have hl := cat_len n (fun j hj => h j (by omega))
    unfold el cat
    by_cases hc : i < n
    · have ih := el_cat (n := n) (fun j hj => h j (by omega)) hc
      rw [List.drop_append_of_le_length (by rw [hl]; omega), List.take_append_of_le_length (by simp [hl]; omega)]
      exact ih
    · obtain rfl : i = n := by omega
      rw [List.drop_append, hl, List.drop_of_length_le (by omega), List.nil_append, Nat.sub_self, List.drop_zero, List.take_of_length_le (by rw [h i (by omega)]; omega)]
theorem cat_el {F : List UInt8} : ∀ n, F.length = 32 * n → cat (el F) n = F := by
  have key : ∀ n, 32 * n ≤ F.length → cat (el F) n = F.take (32 * n) := by
    intro n
    induction n with
    | zero => intro _; rfl
    | succ n ih =>
      intro h
      rw [cat, ih (by omega), el, show 32 * (n + 1) = 32 * n + 32 by omega, List.take_add]
  intro n h
  rw [key n (by omega), List.take_of_length_le (by omega)]
theorem el_ext {F G : List UInt8} {n : Nat} (hF : F.length = 32 * n) (hG : G.length = 32 * n) (h : ∀ i, i < n → el F i = el G i) : F = G := by
  rw [← cat_el n hF, ← cat_el n hG, cat_congr n h]

/-! ### Keys -/
def startT : List UInt8 := [119, 111, 116, 115]
def pubT : List UInt8 := [119, 111, 116, 115, 112, 117, 98]
def start (s : List UInt8) (ix i : Nat) : List UInt8 := Sha.tag startT (leb ix ++ leb i ++ s)
theorem start_len (s : List UInt8) (ix i : Nat) : (start s ix i).length = 32 := Sha.tag_len _ _
def pubE (s : List UInt8) (ix : Nat) (i : Nat) : List UInt8 := Sha.chain (start s ix i) 15
def sigE (s : List UInt8) (ix : Nat) (d : List UInt8) (i : Nat) : List UInt8 := Sha.chain (start s ix i) (nn d i)
def recE (d F : List UInt8) (i : Nat) : List UInt8 := Sha.chain (el F i) (15 - nn d i)
def key (F : List UInt8) : List UInt8 := Sha.tag pubT F
def pub (s : List UInt8) (ix : Nat) : List UInt8 := key (cat (pubE s ix) 18)
def sig (s : List UInt8) (ix : Nat) (d : List UInt8) : List UInt8 := cat (sigE s ix d) 18
def rec_ (d F : List UInt8) : List UInt8 := key (cat (recE d F) 18)
theorem key_len (F : List UInt8) : (key F).length = 32 := Sha.tag_len _ _
theorem pub_len (s : List UInt8) (ix : Nat) : (pub s ix).length = 32 := key_len _
theorem rec_len (d F : List UInt8) : (rec_ d F).length = 32 := key_len _
theorem pubE_len (s : List UInt8) (ix i : Nat) : (pubE s ix i).length = 32 := Sha.chain_len (start_len _ _ _) _
theorem sigE_len (s : List UInt8) (ix : Nat) (d : List UInt8) (i : Nat) : (sigE s ix d i).length = 32 := Sha.chain_len (start_len _ _ _) _
theorem recE_len {d F : List UInt8} (hF : F.length = 576) {i : Nat} (hi : i < 18) : (recE d F i).length = 32 := Sha.chain_len (el_len (n := 18) hF hi) _
theorem sig_len (s : List UInt8) (ix : Nat) (d : List UInt8) : (sig s ix d).length = 576 := cat_len 18 fun i _ => sigE_len s ix d i
theorem el_sig (s : List UInt8) (ix : Nat) (d : List UInt8) {i : Nat} (hi : i < 18) : el (sig s ix d) i = sigE s ix d i := el_cat (fun j _ => sigE_len s ix d j) hi
theorem recE_sig (s : List UInt8) (ix : Nat) (d : List UInt8) {i : Nat} (hi : i < 18) : recE d (sig s ix d) i = pubE s ix i := by
  have h := nn_le d i
  unfold recE pubE
  rw [el_sig s ix d hi, sigE, Sha.chain_add]
  congr 1; omega
theorem ends_sig (s : List UInt8) (ix : Nat) (d : List UInt8) : cat (recE d (sig s ix d)) 18 = cat (pubE s ix) 18 := cat_congr 18 fun i hi => recE_sig s ix d hi
theorem rec_sig (s : List UInt8) (ix : Nat) (d : List UInt8) : rec_ d (sig s ix d) = pub s ix := by unfold rec_ pub; rw [ends_sig]
theorem sig_congr (s : List UInt8) (ix : Nat) {d x : List UInt8} (h : d.take 8 = x.take 8) : sig s ix d = sig s ix x := by unfold sig sigE; rw [nn_congr h]
theorem rec_congr (F : List UInt8) {d x : List UInt8} (h : d.take 8 = x.take 8) : rec_ d F = rec_ x F := by unfold rec_ recE; rw [nn_congr h]
theorem advance (s : List UInt8) (ix : Nat) (a b : List UInt8) (i : Nat) (h : nn a i ≤ nn b i) : Sha.chain (sigE s ix a i) (nn b i - nn a i) = sigE s ix b i := by
  unfold sigE
  rw [Sha.chain_add]
  congr 1; omega
/-- Two rows of ends that differ, or the same ends out of an element that differs. -/
theorem forged {d F G : List UInt8} (hF : F.length = 576) (hG : G.length = 576) (hne : F ≠ G) (he : cat (recE d F) 18 = cat (recE d G) 18) : ∃ i, i < 18 ∧ el F i ≠ el G i ∧ (∀ j, j < i → el F j = el G j) ∧ recE d F i = recE d G i := by
  have hex : ∃ i, i < 18 ∧ el F i ≠ el G i := by
    refine Classical.byContradiction fun h => hne (el_ext (n := 18) hF hG fun i hi => Classical.byContradiction fun h2 => h ⟨i, hi, h2⟩)
  have hmin : ∀ n, (∃ i, i < n ∧ el F i ≠ el G i) → ∃ i, i < n ∧ el F i ≠ el G i ∧ ∀ j, j < i → el F j = el G j := by
    intro n
    induction n with
    | zero => rintro ⟨i, hi, _⟩; omega
    | succ n ih =>
      intro h
      by_cases hn : ∃ i, i < n ∧ el F i ≠ el G i
      · obtain ⟨i, h1, h2⟩ := ih hn
        exact ⟨i, by omega, h2⟩
      · obtain ⟨i, h1, h2⟩ := h
        refine ⟨i, h1, h2, fun j hj => Classical.byContradiction fun h3 => hn ⟨j, by omega, h3⟩⟩
  obtain ⟨i, h1, h2, h3⟩ := hmin 18 hex
  refine ⟨i, h1, h2, h3, ?_⟩
  rw [← el_cat (f := recE d F) (n := 18) (fun j hj => recE_len hF hj) h1, he, el_cat (f := recE d G) (n := 18) (fun j hj => recE_len hG hj) h1]
end Wt
end

section
open Go.RowKit
set_option linter.unusedVariables false
set_option linter.unusedSimpArgs false

theorem Blk.range {w : World} {g : Nat} {t : TypeId} {l : List Value} (h : Blk w g t l) (o n : Nat) : w.rangeAt g o ((l.drop o).take n) := fun j v hv => by
  refine h.cell ?_
  rw [List.getElem?_take] at hv
  split at hv
  · rw [← hv, List.getElem?_drop]
  · cases hv
theorem Blk.there {w : World} {g : Nat} {t : TypeId} {l : List Value} (h : Blk w g t l) (o n : Nat) (hn : o + n ≤ l.length) : w.there g o n := fun j hj => by
  refine ⟨?_, h.frozen _⟩
  rw [h.cell (List.getElem?_eq_getElem (by omega : o + j < l.length))]; rfl

theorem take_set_at (l : List Value) (o : Nat) (v : Value) (ho : o < l.length) : (l.set o v).take (o + 1) = l.take o ++ [v] := by
  rw [List.take_add_one, List.take_set_of_le (Nat.le_refl _)]
  simp [ho]

theorem Blk.setCells {g : Nat} {t : TypeId} : ∀ (vs : List Value) (o : Nat) (w : World) (l : List Value), Blk w g t l → o + vs.length ≤ l.length → Blk (w.setCells g o vs) g t (l.take o ++ vs ++ l.drop (o + vs.length))
  | [], o, w, l, h, _ => by simpa [World.setCells] using h
  | v :: r, o, w, l, h, hl => by
    have h1 := Blk.setCells r (o + 1) _ _ (h.set o v) (by simp only [List.length_set]; simp only [List.length_cons] at hl; omega)
    have ho : o < l.length := by simp only [List.length_cons] at hl; omega
    rw [take_set_at l o v ho] at h1
    have e : (l.set o v).drop (o + 1 + r.length) = l.drop (o + (v :: r).length) := by
      rw [List.drop_set_of_lt (by omega)]
      congr 1
      simp only [List.length_cons]; omega
    rw [e] at h1
    have e2 : l.take o ++ [v] ++ r = l.take o ++ v :: r := by simp
    rw [e2] at h1
    exact h1

theorem keep_setCells (g : Nat) : ∀ (vs : List Value) (o : Nat) (w : World), Keep (fun k => k ≠ g) w (w.setCells g o vs)
  | [], _, w => Keep.refl _ _
  | v :: r, o, w => (Keep.setCell w ⟨g, o, none⟩ v (fun h => h rfl)).trans (keep_setCells g r (o + 1) _)

section
variable {P : Program}

/-- The load of an array out of the middle of a block. -/
theorem exec_loadM {o : Oper} {a : Act} {w : World} (ty : TypeId) {x : Operand} (ho : o.op = .load ty x) (g k m : Nat) (hx : a.eval x = .pointer (some ⟨g, k, none⟩)) (t : TypeId) (l : List Value) (n : Nat) (e : TypeId) (hg : Blk w g t l)
    (hu : P.underlying ty = some (.array n e)) (hm : k + m ≤ l.length) (hi : (P.info? ty).map (·.size) = some m) : (execOp a.eval o).run P w = .ok (.value (.agg ((l.drop k).take m).toArray)) w := by
  unfold execOp
  simp only [ho, hx, Instr.loadAt, Instr.sureAddr, Sem.run_bind, Sem.run_pure, Result.andThen_ok, run_loadVar_mid w g k ty ((l.drop k).take m) _ (hg.range k m) hu rfl (by rw [hi]; simp; omega)]

/-- The store of an array into the middle of a block. -/
theorem wp_storeM {ops : Array Oper} {rest : List Oper} {o : Oper} {a : Act} {w : World} {Q : Exit → Act → World → Prop} (ty : TypeId) (x y : Operand) (ho : o.op = .store ty x y) (hgd : o.guard = none)
    (g k : Nat) (hx : a.eval x = .pointer (some ⟨g, k, none⟩)) (t : TypeId) (l l' : List Value) (hy : a.eval y = .agg l'.toArray) (hg : Blk w g t l)
    (hi : (P.info? ty).map (·.size) = some l'.length) (hl : k + l'.length ≤ l.length) (h1 : ∀ v ∈ l', v.oneCell' = true)
    (hdst : o.dst = none) (h : ∀ w', Blk w' g t (l.take k ++ l' ++ l.drop (k + l'.length)) → Keep (fun k => k ≠ g) w w' → wpList P ops Q rest a w') : wpList P ops Q (o :: rest) a w := by
  refine wpList_store_mid hgd ty x y ho g k l'.toArray hx hy (by simpa using hg.there k l'.length hl) (by simpa using hi) (all_oneCell_toArray h1) ?_
  have hp : a.put o.dst undef = a := by rw [hdst]; rfl
  rw [hp]
  exact h _ (by simpa using Blk.setCells l' k w l hg hl) (keep_setCells g _ _ w)

/-- The load of an array at any address whose cells are known. -/
theorem exec_loadP {o : Oper} {a : Act} {w : World} (ty : TypeId) {x : Operand} (ho : o.op = .load ty x) (p : Addr) (hx : a.eval x = .pointer (some p)) (cs : List Value) (n : Nat) (e : TypeId) (hc : ∀ i u, cs[i]? = some u → w.cell? (p.add i) = some u)
    (hu : P.underlying ty = some (.array n e)) (hi : (P.info? ty).map (·.size) = some cs.length) : (execOp a.eval o).run P w = .ok (.value (.agg cs.toArray)) w := by
  have hl : (loadCells p cs.length).run P w = .ok cs.toArray w := run_loadCells_list (P := P) w p cs hc
  obtain ⟨i, hq, hs⟩ := Option.map_eq_some_iff.1 hi
  have hagg : (isAgg ty).run P w = .ok true w := by
    unfold isAgg
    rw [Sem.run_bind, run_underlying hu w]
    rfl
  have hload : (loadVar ty p).run P w = .ok (.agg cs.toArray) w := by
    simp [loadVar, Sem.run_bind, hagg, sizeOf, typeInfo, hq, hs, hl]
  unfold execOp
  simp only [ho, hx, Instr.loadAt, Instr.sureAddr, Sem.run_bind, Sem.run_pure, Result.andThen_ok, hload]

/-- '&x[i]' of a slice of elements of 's' cells at a known address. -/
theorem exec_ixS (t e : TypeId) (s : Nat) (ht : P.underlying t = some (.slice e)) (hz : (P.info? e).map (·.size) = some s) {o : Oper} {a : Act} (w : World) {x y : Operand} (ho : o.op = .indexAddr t x y) {ad : Addr} {n cap : Nat} (hx : a.eval x = .slice (some ad) n cap)
    (k : IntKind) (I : Int) (i : Nat) (hy : a.eval y = .int k I) (hI : I = (i : Int)) (hi : i < n) {q : Addr} (hq : q = ad.add (i * s)) : (execOp a.eval o).run P w = .ok (.value (.pointer (some q))) w := by
  subst hI hq
  have hel : P.elem t = e := by simp [Program.elem, ht]
  have ht' : P.underlying t = some (.slice (P.elem t)) := by rw [hel]; exact ht
  obtain ⟨info, hin, hsz⟩ := Option.map_eq_some_iff.1 hz
  unfold execOp
  simp only [ho, hx, hy, Sem.run_bind, Sem.run_pure, run_indexAt_slice (h := ht'), hel, sizeOf, typeInfo, run_program, hin, hsz, Result.andThen_ok]
  rw [if_pos ⟨by omega, by omega⟩]
  simp

/-- '&x[i]' of an array of elements of 's' cells in memory. -/
theorem exec_ixA (t e : TypeId) (n s : Nat) (ht : P.underlying t = some (.array n e)) (hz : (P.info? e).map (·.size) = some s) {o : Oper} {a : Act} (w : World) {x y : Operand} (ho : o.op = .indexAddr t x y) (g : Nat) (hx : a.eval x = .pointer (some ⟨g, 0, none⟩))
    (k : IntKind) (I : Int) (i : Nat) (hy : a.eval y = .int k I) (hI : I = (i : Int)) (hi : i < n) {q : Nat} (hq : q = i * s) : (execOp a.eval o).run P w = .ok (.value (.pointer (some ⟨g, q, none⟩))) w := by
  subst hI hq
  have hel : P.elem t = e := by simp [Program.elem, ht]
  have hal : P.arrayLen t = n := by simp [Program.arrayLen, ht]
  have ht' : P.underlying t = some (.array (P.arrayLen t) (P.elem t)) := by rw [hel, hal]; exact ht
  obtain ⟨info, hin, hsz⟩ := Option.map_eq_some_iff.1 hz
  unfold execOp
  simp only [ho, hx, hy, Sem.run_bind, Sem.run_pure, run_indexAt_array (h := ht'), hel, hal, sizeOf, typeInfo, run_program, hin, hsz, Result.andThen_ok]
  rw [if_pos ⟨by omega, by omega⟩]
  simp [add_zero_addr]

/-- 'x[:]' of an array of elements of 's' cells in memory. -/
theorem exec_sliceAll (t e : TypeId) (n s : Nat) (ht : P.underlying t = some (.array n e)) (hz : (P.info? e).map (·.size) = some s) {o : Oper} {a : Act} (x : Operand) (ho : o.op = .slice t x none none none) (g : Nat) (hx : a.eval x = .pointer (some ⟨g, 0, none⟩)) (w : World) :
    (execOp a.eval o).run P w = .ok (.value (.slice (some ⟨g, 0, none⟩) n n)) w := by
  have hel : P.elem t = e := by simp [Program.elem, ht]
  have hal : P.arrayLen t = n := by simp [Program.arrayLen, ht]
  have ht' : P.underlying t = some (.array (P.arrayLen t) (P.elem t)) := by rw [hel, hal]; exact ht
  obtain ⟨info, hin, hsz⟩ := Option.map_eq_some_iff.1 hz
  have hrun : (Instr.sliceAt t (.pointer (some ⟨g, 0, none⟩)) none none none).run P w = .ok (.slice (some ⟨g, 0, none⟩) n n) w := by
    rw [run_sliceAt_array_all (ht := ht')]
    simp [hel, hal, sizeOf, typeInfo, hin, hsz, Result.andThen, slicedAt, add_zero_addr]
  exact exec_slice ho (by rw [hx]; exact hrun)

/-- The store of one integer into a block. -/
theorem wp_store1 {ops : Array Oper} {rest : List Oper} {o : Oper} {a : Act} {w : World} {Q : Exit → Act → World → Prop} (ty : TypeId) (q : IntKind) (x y : Operand) (ho : o.op = .store ty x y) (hgd : o.guard = none)
    (g k : Nat) (hx : a.eval x = .pointer (some ⟨g, k, none⟩)) (t : TypeId) (l : List Value) (I : Int) (hy : a.eval y = .int q I) (hg : Blk w g t l) (hk : k < l.length)
    (hz : (P.info? ty).map (·.size) = some 1) (hdst : o.dst = none) (h : ∀ w', Blk w' g t (l.set k (.int q I)) → Keep (fun k => k ≠ g) w w' → wpList P ops Q rest a w') : wpList P ops Q (o :: rest) a w := by
  have hp : a.put o.dst undef = a := by rw [hdst]; rfl
  rw [← hp] at h
  have hc : w.cell? ⟨g, k, none⟩ = some l[k] := hg.cell (List.getElem?_eq_getElem hk)
  have hf := hg.frozen k
  have hst := run_storeCells_cells (P := P) g k [.int q I] 0 w (fun j hj => by
      obtain rfl : j = 0 := by simpa using hj
      simp [hc]) (fun j hj => by
      obtain rfl : j = 0 := by simpa using hj
      simpa using hf) (fun v hv => by simp at hv; subst hv; rfl)
  obtain ⟨i, hq, hs⟩ := Option.map_eq_some_iff.1 hz
  have hrun : (storeVar ty ⟨g, k, none⟩ (.int q I)).run P w = .ok () (w.setCell ⟨g, k, none⟩ (.int q I)) := by
    simp only [Nat.add_zero, World.setCells] at hst
    simp [storeVar, sizeOf, typeInfo, hq, hs, Value.cells, hst]
  refine wpList_plain hgd fun K hK => ?_
  unfold Oper.wp execOp
  simp only [ho, hx, hy, hp, Instr.storeAt, Instr.sureAddr, Sem.run_bind, Sem.run_pure, Result.andThen_ok, hrun]
  exact hK _ _ (by have h := h _ (hg.set k _) (Keep.setCell w ⟨g, k, none⟩ _ (fun h => h rfl)); rwa [hp] at h ⊢)

/-- An array by value out of an array of arrays by value. -/
theorem run_indexAA (t e : TypeId) (n m n2 : Nat) (e2 : TypeId) (ht : P.underlying t = some (.array n e)) (he : P.underlying e = some (.array n2 e2)) (hz : (P.info? e).map (·.size) = some m) (cs : List Value) (q : IntKind) (i : Nat) (hi : i < n) (hl : cs.length = n * m) (w : World) :
    (Instr.index t (.agg cs.toArray) (.int q (i : Int))).run P w = .ok (.agg ((cs.drop (i * m)).take m).toArray) w := by
  obtain ⟨info, hin, hsz⟩ := Option.map_eq_some_iff.1 hz
  have hagg : (isAgg e).run P w = .ok true w := by
    unfold isAgg
    rw [Sem.run_bind, run_underlying he w]
    simp
  unfold Instr.index
  simp only [asIntOf, Sem.run_bind, Sem.run_pure, Result.andThen_ok, run_underlying ht w]
  have hi' : (0 : Int) ≤ (i : Int) ∧ (i : Int) < (n : Int) := ⟨by omega, by omega⟩
  have hlm : i * m + m ≤ cs.length := by
    rw [hl, ← Nat.succ_mul]
    exact Nat.mul_le_mul_right _ hi
  simp only [hi', and_self, if_true, if_pos, Sem.run_bind, sizeOf, typeInfo, run_program, hin, hsz, Result.andThen_ok, Sem.run_pure, part, hagg, Int.toNat_natCast]
  congr 2
  apply Array.ext'
  simp
theorem exec_indexAA (t e : TypeId) (n m n2 : Nat) (e2 : TypeId) (ht : P.underlying t = some (.array n e)) (he : P.underlying e = some (.array n2 e2)) (hz : (P.info? e).map (·.size) = some m) {o : Oper} {a : Act} {x y : Operand} (ho : o.op = .index t x y) (cs r : List Value) (hx : a.eval x = .agg cs.toArray)
    (q : IntKind) (I : Int) (i : Nat) (hy : a.eval y = .int q I) (hI : I = (i : Int)) (hi : i < n) (hl : cs.length = n * m) (hr : (cs.drop (i * m)).take m = r) (w : World) : (execOp a.eval o).run P w = .ok (.value (.agg r.toArray)) w := by
  subst hI hr
  unfold execOp
  simp only [ho, hx, hy, Sem.run_bind, Sem.run_pure, Result.andThen_ok, run_indexAA t e n m n2 e2 ht he hz cs q i hi hl w]
end
end
end Go.Proofs.YtccepoeenkpifaaDoor
