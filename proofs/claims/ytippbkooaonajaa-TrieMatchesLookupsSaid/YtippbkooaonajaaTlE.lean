/-
  The law's without.
-/
import Derived.Test.YtippbkooaonajaaTlD
namespace Go.Proofs.Ytippbkooaonajaa
open Go.RowKit Dg Tr
set_option linter.unusedVariables false
set_option linter.unusedSimpArgs false

theorem str_beq (a b : Str) : ((⟨a.toArray⟩ : ByteArray) == ⟨b.toArray⟩) = decide (a = b) := by
  show (a.toArray == b.toArray) = decide (a = b)
  rw [Bool.eq_iff_iff]
  simp
theorem str_beqL (a b : Str) : ((⟨a.toArray⟩ : ByteArray).toList == b) = decide (a = b) := by rw [str_list, Bool.eq_iff_iff]; simp
theorem str_beqLL (a b : Str) : ((⟨a.toArray⟩ : ByteArray).toList == (⟨b.toArray⟩ : ByteArray).toList) = decide (a = b) := by rw [str_list, str_list, Bool.eq_iff_iff]; simp
theorem add_nil (q : Addr) : q.add 0 = q := by simp [Addr.add]

section
variable {ops : Array Oper} {rest : List Oper} {o : Oper} {a : Act} {Q : Exit → Act → World → Prop}
/-- 'append(s, x)', x one element: only the row itself turns. -/
theorem wp_appP {w w0 : World} (base : Nat) (s x : Operand) (ho : o.op = .call { callee := .builtin .append, args := #[s, x], argTypes := #[38, 38] }) (hgd : o.guard = none)
    (v : Value) (l : List (Str × Int)) (y : Str × Int) (pc : List Value) (hpc : pc = pvc y) (hw : w = w0.alloc (.cells pc.toArray 45)) (hs : a.eval s = v) (hx : a.eval x = .slice (some ⟨w0.heap.size, 0, none⟩) 1 1)
    (hown : OwnP w0 base v l) (hbase : base ≤ w0.heap.size) (hl : l.length + 1 ≤ 1000000)
    (h : ∀ v' w', OwnP w' base v' (l ++ [y]) → Grew w w' v v' → wpList Try.prog ops Q rest (a.put o.dst v') w') :
    wpList Try.prog ops Q (o :: rest) a w := by
  subst hpc hw
  obtain ⟨i0, hi, hz0, hz1, hz2⟩ := info_parts info_pv
  refine wpList_append_own_at _ hgd s x 38 ho base 45 i0 (.agg #[.string ⟨#[]⟩, .int .i64 0]) 2 24 Try.underlying38 hi hz0 hz1 hz2 rfl (by decide) v l.length (pvs l) hs (World.ownsRow.alloc hown _)
    ⟨w0.heap.size, 0, none⟩ 1 1 (pvc y) hx rfl ?_ (by intro u hu; simp only [pvc, List.mem_cons, List.not_mem_nil, or_false] at hu; rcases hu with rfl | rfl <;> rfl) (by simp only [maxLen]; omega) (by omega) (by simp; omega) ?_
  · intro j u hu
    rw [add_zero_addr]
    exact (Blk.new w0 45 (pvc y)).cell hu
  · intro v' w' h1 h2 _ h4
    refine h v' w' ?_ ⟨h2, ?_⟩
    · unfold OwnP
      rw [pvs_append, List.length_append, show pvs [y] = pvc y by simp [pvs]]
      exact h1
    · rcases h4 with h4 | h4
      · exact Or.inl h4
      · refine Or.inr fun k hk => ?_
        rw [h4] at hk; injection hk with hk; omega
end

def wout (l : List (Str × Int)) (p : Str) : List (Str × Int) := l.filter fun x => !decide (x.1 = p)
theorem wout_snoc (l : List (Str × Int)) (x : Str × Int) (p : Str) : wout (l ++ [x]) p = wout l p ++ if x.1 = p then [] else [x] := by
  unfold wout
  rw [List.filter_append]
  by_cases h : x.1 = p <;> simp [h]
theorem wout_len (l : List (Str × Int)) (p : Str) : (wout l p).length ≤ l.length := List.length_filter_le _ _

/-- Element i: where it lies, past the walk's beginning. -/
theorem Pl.elem {w W : World} {A : Option Addr} {cap i : Nat} {l : List (Str × Int)} {x : Str × Int} (h : Pl w w.heap.size (.slice A l.length cap) l) (hb : Below w.heap.size w W) (hi : l[i]? = some x) :
    ∃ ad q px, A = some ad ∧ q = ad.add (i * 2) ∧ px = pvc x ∧ px.length = 2 ∧ q.block < w.heap.size ∧ (∀ j u, px[j]? = some u → W.cell? (q.add j) = some u) ∧ W.cell? q = some (str x.1) ∧ W.cell? ⟨q.block, q.off + 1, none⟩ = some (.int .i64 x.2) := by
  obtain ⟨ad, rfl, hab, hac⟩ := h.at_ (by have := (List.getElem?_eq_some_iff.1 hi).1; omega)
  have hc : ∀ j u, (pvc x)[j]? = some u → W.cell? ((ad.add (i * 2)).add j) = some u := fun j u hu => (hb.cell (by rw [add_block, add_block]; exact hab)).trans (hac i x hi j u hu)
  refine ⟨ad, _, _, rfl, rfl, rfl, rfl, by rw [add_block]; exact hab, hc, ?_, ?_⟩
  · have := hc 0 (str x.1) rfl
    rwa [add_nil] at this
  · have := hc 1 (.int .i64 x.2) rfl
    rwa [show (ad.add (i * 2)).add 1 = ⟨(ad.add (i * 2)).block, (ad.add (i * 2)).off + 1, none⟩ by simp [Addr.add]] at this

set_option maxRecDepth 100000 in
set_option maxHeartbeats 2000000 in
theorem without_any (v : Value) (l : List (Str × Int)) (p : Str) (w : World) (hv : Pl w w.heap.size v l) (hl : l.length ≤ 100000) (hp : p.length ≤ 100000) :
    Calls Try.prog 31 #[v, str p] w fun e w' => (∃ u, e = .returned u ∧ OwnP w' w.heap.size u (wout l p)) ∧ Below w.heap.size w w' := by
  obtain ⟨A, c, rfl⟩ := row_form hv
  have HV := Lib.hid hv
  obtain ⟨i0, hi0, hz0n, hz1n, hz2n⟩ := info_parts info_pv
  clear hv
  unfold str
  go_enter Try.func31, Try.ntmps31
  go_wp2_with fail
  go_loopw [5, 6] (fun vo vi wr => ∃ i : Nat, vi = .int .i64 (i : Int) ∧ i ≤ l.length ∧ OwnP wr w.heap.size vo (wout (l.take i) p) ∧ Below w.heap.size w wr) (fun vo vi wr => ixn l.length vi)
  case atStart => exact ⟨0, rfl, Nat.zero_le _, OwnP.nil_ _ _, Below.refl _ _⟩
  case round =>
    obtain ⟨i, rfl, hi', hown, hbw⟩ := hrel
    by_cases hlt : i < l.length
    · obtain ⟨x, hx⟩ : ∃ x, l[i]? = some x := ⟨l[i], List.getElem?_eq_getElem hlt⟩
      obtain ⟨ad, q, px, hA, hqe, hpx, hpx2, hqb, hcx, hcs, _⟩ := HV.out.elem hbw hx
      subst hA
      have hsn := wout_snoc (l.take i) x p
      have htk : l.take (i + 1) = l.take i ++ [x] := by rw [List.take_add_one, hx]; rfl
      rw [← htk] at hsn
      have HSN := Lib.hid hsn
      have HQE := Lib.hid hqe
      have HCX := Lib.hid hcx
      have HPX := Lib.hid hpx
      have HPX2 := Lib.hid hpx2
      have hbe := str_beqL x.1 p
      have hbf := str_beqLL x.1 p
      obtain ⟨bx, hbx⟩ : ∃ bx : ByteArray, bx = ⟨x.1.toArray⟩ := ⟨_, rfl⟩
      unfold str at hcs
      rw [← hbx] at hcs hbe hbf
      obtain ⟨L, hL⟩ : ∃ L, L = wout (l.take i) p := ⟨_, rfl⟩
      have hLl : L.length ≤ 100000 := by
        have h1 := wout_len (l.take i) p
        rw [hL]
        simp at h1; omega
      rw [← hL] at hown HSN
      clear hqe hcx hpx hpx2 hx hsn htk hbx hL
      by_cases hxp : x.1 = p
      · rw [decide_eq_true hxp] at hbe hbf
        have HS2 : Hid (wout (l.take (i + 1)) p = L) := Lib.hid (by rw [HSN.out, if_pos hxp, List.append_nil])
        clear hxp
        go_wp2_with (first | (refine wp_run rfl (exec_ixS 38 45 2 Try.underlying38 info_pv2 _ rfl rfl .i64 (i : Int) i rfl rfl hlt HQE.out) ?_))
        go_roundw
        case measure => show l.length - ((i : Int) + 1).toNat < l.length - ((i : Int)).toNat; omega
        case rel => exact ⟨i + 1, by simp, by omega, by rw [HS2.out]; exact hown, hbw⟩
      · rw [decide_eq_false hxp] at hbe hbf
        have HS2 : Hid (wout (l.take (i + 1)) p = L ++ [x]) := Lib.hid (by rw [HSN.out, if_neg hxp])
        have HO := Lib.hid hown
        have hgbw : w.heap.size ≤ wr.heap.size := hbw.size
        obtain ⟨Ao, co, rfl⟩ := own_form hown
        clear hxp hown
        go_wp2_with (first | (refine wp_run rfl (exec_ixS 38 45 2 Try.underlying38 info_pv2 _ rfl rfl .i64 (i : Int) i rfl rfl hlt HQE.out) ?_) | (refine wp_run rfl (exec_loadPS 45 rfl q rfl px _ HCX.out Try.underlying45 (by rw [info_pv2, HPX2.out])) ?_) | (refine wp_run rfl (exec_build1 38 45 2 i0 _ (by decide) (by decide) Try.underlying38 hi0 hz0n hz1n px HPX2.out (.tmp 24) rfl rfl _) ?_) | (refine wp_appP w.heap.size (.tmp 20) (.tmp 25) rfl rfl (.slice Ao L.length co) L x px HPX.out rfl rfl rfl HO.out hgbw (by omega) ?_; intro v7 w7 o7 g7))
        have hbal : Below wr.heap.size wr (wr.alloc (.cells px.toArray 45)) := (Below.refl _ _).alloc (Nat.le_refl _) _
        have b7 : Below w.heap.size w w7 := hbw.trans ((hbal.mono hgbw).trans (below_ownP (World.ownsRow.alloc HO.out _) (by simp; omega) g7.1))
        go_roundw
        case measure => show l.length - ((i : Int) + 1).toNat < l.length - ((i : Int)).toNat; omega
        case rel => exact ⟨i + 1, by simp, by omega, by rw [HS2.out]; exact o7, b7⟩
    · obtain rfl : i = l.length := by omega
      have HO := Lib.hid hown
      clear hown
      go_wp2_with fail
      go_ret
      exact ⟨⟨_, rfl, by have h := HO.out; rw [List.take_length] at h; exact h⟩, hbw⟩
end Go.Proofs.Ytippbkooaonajaa
