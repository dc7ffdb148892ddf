/-
  A map from strings to bools in which every element is true, read as a set of strings.
-/
import Derived.Test.YtblgcefaikoejaaDgA
import Derived.Maps.RangeWalk
import Derived.Maps.OwnIn
import Derived.Sort.KeysCollected
import Derived.Sort.MapsRangeIn
namespace Go.Proofs.Ytblgcefaikoejaa
open Go.RowKit Go.Maps Dg
set_option linter.unusedVariables false
set_option linter.unusedSimpArgs false

theorem law : Keyed Try.prog 9 := string_keyed Try.underlying9
theorem zeroB (w : World) : (zeroValue 4).run Try.prog w = .ok (.bool false) w := by kernel_rfl

/-- An element: true. -/
def isT : Value → Option (DataW Unit × List MemPlace)
  | .bool true => some (.lit (.bool true), [])
  | _ => none
theorem isT_inv {v : Value} {y : DataW Unit × List MemPlace} (h : isT v = some y) : v = .bool true := by
  unfold isT at h
  split at h
  · rfl
  · cases h

theorem hkey {l : Str} (hl : l.length ≤ maxLen) : keyOf Try.prog 9 (str l) = some (.string l) := by
  have h : (⟨l.toArray⟩ : ByteArray).size ≤ maxLen := by rw [str_size]; exact hl
  unfold str
  simp [keyOf, Try.underlying9, mapKey]
  exact hl

/-- The datum D is the set K. -/
def Is (D : DataW Unit) (K : List Str) : Prop := (∀ l : Str, l ∈ K ↔ has D (.string l) = true) ∧ K.Nodup ∧ Maps.size D = K.length
/-- Block b is a map of at most n entries whose keys are just those of the list K. -/
def Mp (w : World) (b n : Nat) (K : List Str) : Prop := ∃ D : DataW Unit, w.ownsMap Try.prog 9 isT b n D ∧ Is D K

theorem Mp.lt {w : World} {b n : Nat} {K : List Str} (h : Mp w b n K) : b < w.heap.size := by obtain ⟨D, h, _⟩ := h; exact h.lt
theorem Mp.kept {w w' : World} {b n : Nat} {K : List Str} {row : Option Nat} (h : Mp w b n K) (hg : w.grownBy w' row) (hne : some b ≠ row) : Mp w' b n K := by
  obtain ⟨D, h, hi⟩ := h; exact ⟨D, h.kept hg hne, hi⟩
theorem ownsMap_block {w w' : World} {b n : Nat} {D : DataW Unit} (h : w.ownsMap Try.prog 9 isT b n D) (he : w'.heap[b]? = w.heap[b]?) : w'.ownsMap Try.prog 9 isT b n D := by
  obtain ⟨es, clock, hb, r⟩ := h; exact ⟨es, clock, he.trans hb, r⟩
theorem Mp.block {w w' : World} {b n : Nat} {K : List Str} (h : Mp w b n K) (he : w'.heap[b]? = w.heap[b]?) : Mp w' b n K := by
  obtain ⟨D, h, hi⟩ := h; exact ⟨D, ownsMap_block h he, hi⟩
theorem Mp.past {w w' : World} {b n B : Nat} {K : List Str} (h : Mp w b n K) (hb : Below B w w') (hl : b < B) : Mp w' b n K := h.block (hb.block b hl)
theorem Mp.nodup {w : World} {b n : Nat} {K : List Str} (h : Mp w b n K) : K.Nodup := by obtain ⟨D, _, hi⟩ := h; exact hi.2.1
theorem Mp.le {w : World} {b n : Nat} {K : List Str} (h : Mp w b n K) : K.length ≤ n := by obtain ⟨D, h, hi⟩ := h; rw [← hi.2.2]; exact h.size_le

theorem is_empty : Is (.map []) [] := ⟨fun l => by simp [has], List.nodup_nil, rfl⟩
theorem Mp.made (w : World) : Mp (w.alloc (.map #[] 0)) w.heap.size 0 [] := ⟨_, World.ownsMap_made w _ _ _, is_empty⟩

theorem Is.put {D : DataW Unit} {K : List Str} (h : Is D K) (ht : Tidy D) (l : Str) (d : DataW Unit) : Is (D.put (.string l) d) (K.insert l) := by
  obtain ⟨h1, h2, h3⟩ := h
  refine ⟨fun x => ?_, ?_, ?_⟩
  · rw [List.mem_insert_iff]
    by_cases hx : x = l
    · subst hx
      simp [has_put_same ht.isMap (show WideAt.IsKeyLit (.string x) from trivial) d]
    · rw [has_put_other (by simpa using hx), ← h1 x]
      simp [hx]
  · by_cases hm : l ∈ K
    · rw [List.insert_of_mem hm]; exact h2
    · rw [List.insert_of_not_mem hm]; exact List.nodup_cons.2 ⟨hm, h2⟩
  · rw [size_put ht d, h3]
    by_cases hm : l ∈ K
    · rw [if_pos ((h1 l).1 hm), List.insert_of_mem hm]
    · rw [if_neg (fun e => hm ((h1 l).2 e)), List.insert_of_not_mem hm]; rfl

theorem Is.del {D : DataW Unit} {K : List Str} (h : Is D K) (ht : Tidy D) (l : Str) : Is (D.del (.string l)) (K.erase l) := by
  obtain ⟨h1, h2, h3⟩ := h
  refine ⟨fun x => ?_, h2.erase l, ?_⟩
  · rw [h2.mem_erase_iff]
    by_cases hx : x = l
    · subst hx
      simp [has_del_same]
    · rw [has_del_other (by simpa using hx), ← h1 x]
      simp [hx]
  · have := size_del (k := .string l) ht
    by_cases hm : l ∈ K
    · rw [if_pos ((h1 l).1 hm)] at this
      rw [List.length_erase_of_mem hm]
      omega
    · rw [if_neg (fun e => hm ((h1 l).2 e))] at this
      rw [List.erase_of_not_mem hm]
      omega

theorem Mp.of_del {w w' : World} {b n : Nat} {D : DataW Unit} {K : List Str} (h : w.ownsMap Try.prog 9 isT b n D) (hi : Is D K) {l : Str} (h' : w'.ownsMap Try.prog 9 isT b n (D.del (.string l))) : Mp w' b n (K.erase l) :=
  ⟨_, h', hi.del (h.tidy law) l⟩
theorem Mp.of_put {w w' : World} {b n m : Nat} {D : DataW Unit} {K : List Str} (h : w.ownsMap Try.prog 9 isT b n D) (hi : Is D K) {l : Str} {d : DataW Unit} (h' : w'.ownsMap Try.prog 9 isT b m (D.put (.string l) d)) : Mp w' b m (K.insert l) :=
  ⟨_, h', hi.put (h.tidy law) l d⟩

/-- 'm[l]'. -/
theorem Mp.look {w : World} {b n : Nat} {K : List Str} (h : Mp w b n K) (l : Str) (hl : l.length ≤ maxLen) :
    (Instr.lookup 46 (.map (some b)) (str l) false).run Try.prog w = .ok (.bool (decide (l ∈ K))) w := by
  obtain ⟨D, ⟨es, clock, hb, F, hs, rfl⟩, hi⟩ := h
  rcases Maps.fit_look false law Try.underlying46 (zeroB w) hb F (hkey hl) with ⟨hrun, _, hat⟩ | ⟨e0, y, _, _, hrun, hR, hat, _⟩
  · have hn := has_false_of_atKey hat
    have : ¬ l ∈ K := fun hm => by rw [(hi.1 l).1 hm] at hn; cases hn
    rw [hrun, decide_eq_false this]; rfl
  · have hy := has_true_of_atKey hat
    rw [hrun, decide_eq_true ((hi.1 l).2 hy), isT_inv hR]; rfl

section
variable {ops : Array Oper} {rest : List Oper} {o : Oper} {a : Act} {Q : Exit → Act → World → Prop} {w : World}

/-- 'm[l] = true'. -/
theorem wp_put (hg : o.guard = none) (m x v : Operand) (hop : o.op = Op.mapUpdate 46 m x v) (b n : Nat) (K : List Str) (hm : a.eval m = .map (some b)) (h : Mp w b n K) (hn : n < maxLen)
    (l : Str) (hl : l.length ≤ maxLen) (hx : a.eval x = str l) (hv : a.eval v = .bool true) (hd : o.dst = none)
    (hK : ∀ w', Mp w' b (n + 1) (K.insert l) → w.grownBy w' (some b) → wpList Try.prog ops Q rest a w') : wpList Try.prog ops Q (o :: rest) a w := by
  obtain ⟨D, hown, hi⟩ := h
  have hp : a.put o.dst undef = a := by rw [hd]; rfl
  refine wpList_mapUpdate_in w hg m x v _ hop 9 4 law Try.underlying46 isT b n D hm hown hn (str l) (.bool true) (.string l) hx hv (hkey hl) (.lit (.bool true)) [] rfl fun w' h1 h2 => ?_
  rw [hp]
  exact hK w' (Mp.of_put hown hi h1) h2.grown

/-- 'delete(m, l)', in a round. -/
theorem wpi_del {F : Fence} {nF : Nat} (hg : o.guard = none) (m x : Operand) (hop : o.op = Op.call { callee := Callee.builtin Builtin.delete, args := #[m, x], argTypes := #[46, 9] }) (b n : Nat) (K : List Str) (hm : a.eval m = .map (some b)) (h : Mp w b n K)
    (l : Str) (hl : l.length ≤ maxLen) (hx : a.eval x = str l) (hd : o.dst = none)
    (hK : ∀ w', Mp w' b n (K.erase l) → w.grownBy w' (some b) → wpListIn F nF Try.prog ops Q rest a w') : wpListIn F nF Try.prog ops Q (o :: rest) a w := by
  obtain ⟨D, hown, hi⟩ := h
  have hp : a.put o.dst (.tuple #[]) = a := by rw [hd]; rfl
  refine wpListIn_delete_own (w := w) (F := F) hg m x _ _ hop 4 law Try.underlying46 isT b n D hm hown (str l) (.string l) hx (hkey hl) fun w' h1 h2 => ?_
  rw [hp]
  exact hK w' (Mp.of_del hown hi h1) h2.grown
end
end Go.Proofs.Ytblgcefaikoejaa
