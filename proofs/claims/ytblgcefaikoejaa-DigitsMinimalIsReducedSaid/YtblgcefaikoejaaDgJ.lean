/-
  The walk of joinExtensions.
-/
import Derived.Test.YtblgcefaikoejaaDgH
import Derived.Test.YtblgcefaikoejaaDgR
import Derived.Test.YtblgcefaikoejaaDgS
import Derived.Test.YtblgcefaikoejaaIter
import Derived.Deep.RegionWith
import Derived.Sort.OwnSorted
namespace Go.Proofs.Ytblgcefaikoejaa
open Go.RowKit Go.Maps Dg
attribute [local go_sem] Oper.semAt_some
set_option linter.unusedVariables false
set_option linter.unusedSimpArgs false

/-- The sorted keys of a set. -/
def srt (K : List Str) : List Str := K.mergeSort fun x y => decide (x ≤ y)
theorem srt_perm (K : List Str) : (srt K).Perm K := List.mergeSort_perm K _

theorem Mp.tight {w : World} {b n : Nat} {K : List Str} (h : Mp w b n K) {m : Nat} (hm : K.length ≤ m) : Mp w b m K := by
  obtain ⟨D, ⟨es, clock, hb, F, hs, rfl⟩, hi⟩ := h
  refine ⟨_, ⟨es, clock, hb, F, ?_, rfl⟩, hi⟩
  have := hi.2.2
  rw [size_eq, length_read] at this
  omega

theorem Is.perm {w : World} {b n : Nat} {D : DataW Unit} {K ss : List Str} (hown : w.ownsMap Try.prog 9 isT b n D) (hi : Is D K) (hp : ss.Perm (strKeys D)) : ss.Perm K := by
  obtain ⟨es, hD, hpw, _⟩ := hown.entries law
  obtain ⟨es', hD', hko⟩ := hown.keysOf
  obtain rfl : es = es' := by rw [hD] at hD'; simpa using hD'
  subst hD
  exact hp.trans (perm_strKeys hpw (fun p hp => by obtain ⟨v, hv⟩ := hko p hp; obtain ⟨x, _, hx, _⟩ := Maps.keyOf_str Try.underlying9 hv; exact ⟨x, hx⟩) hi.2.1 (fun x => hi.1 x)).symm

/-- The sorted keys of a set: a new list. -/
theorem sortedKeys_in (b n : Nat) (K : List Str) (w : World) (h : Mp w b n K) (hmax : K.length ≤ 2000) :
    CallsIn Fence.wide 5 Try.prog 36 #[.func (.func 54) #[] #[.pointer (some ⟨w.heap.size, 0, none⟩)]] (w.alloc (.cells #[.map (some b)] 46)) fun e w' =>
      ∃ v, e = .returned v ∧ w'.ownsRow (w.heap.size + 1) 9 1 v K.length ((srt K).map str) ∧ Below (w.heap.size + 1) (w.alloc (.cells #[.map (some b)] 46)) w' := by
  obtain ⟨D, hown, hi⟩ := h
  have hs := hi.2.2
  refine (Try.slices_Sorted_keys_36_37 b n D isT w hown (by rw [hs]; simp only [maxLen]; omega) (by rw [hs]; omega)).mono ?_
  rintro e w' ⟨v, ss, rfl, hp, hrow, _, hb⟩
  have hpk := Is.perm hown hi hp
  have h1 : ss.length = K.length := hpk.length_eq
  have h2 : (ss.mergeSort fun x y => decide (x ≤ y)) = srt K := mergeSort_of_perm hpk
  rw [h1, h2, World.size_alloc] at hrow
  rw [World.size_alloc] at hb
  exact ⟨v, rfl, hrow, hb⟩

/-- A list of strings that is read. -/
def Ss (w : World) (B : Nat) (v : Value) (l : List Str) : Prop := Row w B 1 l.length v (l.map str)
theorem size_str : (Try.prog.info? 9).map (·.size) = some 1 := by kernel_rfl

section
variable {F : Fence} {n : Nat} {ops : Array Oper} {rest : List Oper} {o : Oper} {a : Act} {Q : Exit → Act → World → Prop} {w : World}
/-- '&x[i]' of a list of strings, in a round. -/
theorem wpi_atS (x y : Operand) (ho : o.op = .indexAddr 28 x y) (hgd : o.guard = none) {B m : Nat} {v : Value} {xs : List Value} (hx : a.eval x = v) (hr : Row w B 1 m v xs)
    (k : IntKind) (I : Int) (i : Nat) (u : Value) (hy : a.eval y = .int k I) (hI : I = (i : Int)) (hu : xs[i]? = some u)
    (h : ∀ p : Addr, p.block < B → w.cell? p = some u → wpListIn F n Try.prog ops Q rest (a.put o.dst (.pointer (some p))) w) : wpListIn F n Try.prog ops Q (o :: rest) a w := by
  obtain ⟨A, cap, rfl, h1, h2, h3, h4, h5⟩ := hr
  have hi : i < m := by have := (List.getElem?_eq_some_iff.1 hu).1; omega
  cases A with
  | none => have := h3 rfl; omega
  | some ad =>
    have hrun := exec_ix 28 9 Try.underlying28 size_str w ho hx k I i hy hI hi rfl
    have hb := (h5 ad rfl (by omega)).1
    have hab : o.about Try.prog w a.eval = none := by
      unfold Oper.about; rw [ho]
    refine wpListIn_plain hgd fun K hK => ?_
    unfold Oper.wpIn
    refine ⟨fun f hf => (by rw [hab] at hf; cases hf), ?_⟩
    rw [Oper.semAt_plain F _ _ (fun c hc => by rw [ho] at hc; cases hc), hrun]
    simp only [Oper.uponIn_value]
    exact hK _ _ (h _ (by rw [add_block]; exact hb) ((h5 ad rfl (by omega)).2 _ u hu))
end

theorem grown_below {w w' : World} (h : Below w.heap.size w w') : w.grownBy w' none := ⟨h.os, h.tape, h.output, h.size, fun i hi _ => h.block i hi⟩
theorem keep_grown {w w' : World} {b : Nat} (h : w.grownBy w' (some b)) : Keep (fun k => k ≠ b) w w' := ⟨h.os, h.tape, h.output, h.size, fun k hk hl => h.block k hl (by simpa using hk)⟩
theorem grown_keep {w w' : World} {b : Nat} (h : Keep (fun k => k ≠ b) w w') : w.grownBy w' (some b) := ⟨h.os, h.tape, h.output, h.size, fun k hl hk => h.block k (by simpa using hk) hl⟩

section
variable {ops : Array Oper} {rest : List Oper} {o : Oper} {a : Act} {Q : Exit → Act → World → Prop} {w : World}
/-- 'm[l] = true', inside a fence. -/
theorem wpi_put {F : Fence} {nF : Nat} (hg : o.guard = none) (m x v : Operand) (hop : o.op = Op.mapUpdate 46 m x v) (b n : Nat) (K : List Str) (hm : a.eval m = .map (some b)) (h : Mp w b n K) (hn : n < maxLen)
    (l : Str) (hl : l.length ≤ maxLen) (hx : a.eval x = str l) (hv : a.eval v = .bool true) (hd : o.dst = none)
    (hK : ∀ w', Mp w' b (n + 1) (K.insert l) → w.grownBy w' (some b) → wpListIn F nF Try.prog ops Q rest a w') : wpListIn F nF Try.prog ops Q (o :: rest) a w := by
  obtain ⟨D, hown, hi⟩ := h
  have hp : a.put o.dst undef = a := by rw [hd]; rfl
  refine wpListIn_mapUpdate_in (w := w) (F := F) hg m x v _ hop 9 4 law Try.underlying46 isT b n D hm hown hn (str l) (.bool true) (.string l) hx hv (hkey hl) (.lit (.bool true)) [] rfl fun w' h1 h2 => ?_
  rw [hp]
  exact hK w' (Mp.of_put hown hi h1) h2.grown
end

/-- Measures: what an index has before it, a string's length. -/
def ixm (n : Nat) : Value → Nat
  | .int _ z => n - z.toNat
  | _ => 0
def slm : Value → Nat
  | .string s => s.size
  | _ => 0

/-- The marks that ranges over functions leave behind. -/
def mk (D : Nat) : Deferred := { target := .collected D, args := #[] }
structure Marks (B : Nat) (Ds : List Nat) (W : World) : Prop where
  nodup : Ds.Nodup
  low : ∀ D ∈ Ds, B ≤ D
  held : ∀ D ∈ Ds, W.heap[D]? = some (.deferred (some []))
theorem Marks.lt {B : Nat} {Ds : List Nat} {W : World} (h : Marks B Ds W) : ∀ D ∈ Ds, D < W.heap.size := fun D hD => (Array.getElem?_eq_some_iff.1 (h.held D hD)).1
theorem Marks.keep {B : Nat} {Ds : List Nat} {W W' : World} {O : Nat → Prop} (h : Marks B Ds W) (hk : Keep O W W') (hO : ∀ D ∈ Ds, O D) : Marks B Ds W' :=
  ⟨h.nodup, h.low, fun D hD => hk.heap (hO D hD) (h.held D hD)⟩
theorem leaves_marks {F : Fence} {n : Nat} {P : Program} {fn : Func} {tmps : Array Value} {R : Ending → World → Prop} (hfn : fn.results = #[]) : ∀ (Ds : List Nat) (W : World), Ds.Nodup → (∀ D ∈ Ds, W.heap[D]? = some (.deferred (some []))) →
    (∀ W', Keep (fun k => k ∉ Ds) W W' → R (.returned (.tuple #[])) W') → LeavesInM F n P fn tmps R (Ds.map mk) .returning W
  | [], W, _, _, h => ⟨_, results_none hfn _ _ _, h W (Keep.refl _ _)⟩
  | D :: Ds, W, hn, hD, h => by
    have h1 := List.nodup_cons.1 hn
    have hk : Keep (fun k => k ≠ D) W (W.putObj D (.deferred none)) := Keep.putObj _ _ _ (fun h => h rfl)
    refine ⟨by simp, .inl ⟨D, _, rfl, run_takeDeferred (hD D (by simp)), leaves_marks hfn Ds _ h1.2 (fun E hE => hk.heap (fun e => h1.1 (by rw [← e]; exact hE)) (hD E (by simp [hE]))) (fun W' hk' => h W' ?_)⟩⟩
    exact (hk.mono (fun k hk => by simp at hk; exact hk.1)).trans (hk'.mono (fun k hk => by simp at hk; exact hk.2))

/-- The set that joining leaves. -/
def Joined (w : World) (b : Nat) (K0 : List Str) : Prop := ∃ K, Mp w b 1024 K ∧ JI K0 (fun _ => False) K

set_option maxRecDepth 100000 in
set_option maxHeartbeats 2000000 in
theorem joinExtensions_any (b n : Nat) (K0 : List Str) (w : World) (hK : Mp w b n K0) (hl : K0.length ≤ 1024) (ha : Anti K0) (hs : Short K0) :
    Calls Try.prog 35 #[.map (some b)] w fun e w' => e = .returned (.tuple #[]) ∧ w.grownBy w' (some b) ∧ Joined w' b K0 := by
  have hbl := hK.lt
  have hb1 : Below w.heap.size w (w.alloc (.cells #[.map (some b)] 46)) := (Below.refl _ _).alloc (Nat.le_refl _) _
  have hK1 := hK.past hb1 hbl
  have hc1 : (w.alloc (.cells #[.map (some b)] 46)).cell? ⟨w.heap.size, 0, none⟩ = some (.map (some b)) := by
    rw [cell_of_row _ _ 0 _ _ _ (heap_alloc_new _ _)]; rfl
  have hBk : Blk (w.alloc (.cells #[.map (some b)] 46)) w.heap.size 46 [.map (some b)] := Blk.new _ _ _
  obtain ⟨w1, hw1⟩ : ∃ w1, w.alloc (.cells #[.map (some b)] 46) = w1 := ⟨_, rfl⟩
  have hs1 : w1.heap.size = w.heap.size + 1 := by rw [← hw1]; simp
  have HS1 := Lib.hid hs1
  refine (callsIn_wide (n := 6)).1 ?_
  refine callsIn_of_wp_marks Try.func35 rfl trivial ?_ rfl
  simp only [Try.ntmps35, List.size_toArray, List.length_cons, List.length_nil, Nat.reduceAdd, Nat.reduceSub, Array.replicate_succ, Array.replicate_zero, List.push_toArray, List.append_toArray, List.nil_append, List.cons_append]
  rw [hw1] at hc1 hK1 hBk hb1
  clear hs1
  have HW1 := Lib.hid hw1
  gi_wp2_with fail
  refine ⟨trivial, (Try.maps_Keys_37 (some b) w1).mono ?_⟩
  rintro e w2 ⟨rfl, rfl⟩
  gi_wp2_with fail
  refine ⟨trivial, (sortedKeys_in b n K0 w1 hK1 (by omega)).mono ?_⟩
  rintro e W ⟨v, rfl, hrow, hbW⟩
  have hlen : (srt K0).length = K0.length := (srt_perm K0).length_eq
  have hbW1 : Below w1.heap.size w1 W := ((Below.refl _ _).alloc (Nat.le_refl _) _).trans (hbW.mono (by omega))
  have hKW := hK1.past hbW1 (by have := HS1.out; omega)
  have hBW := hBk.past hbW1 (by have := HS1.out; omega)
  have hJ := JI.start ha hs (srt_perm K0)
  have hpm := srt_perm K0
  obtain ⟨ss, hss⟩ : ∃ ss, srt K0 = ss := ⟨_, rfl⟩
  rw [hss] at hrow hlen hJ hpm
  rw [← hlen] at hrow
  have HLEN := Lib.hid hlen
  have HPM := Lib.hid hpm
  obtain ⟨v', hv'⟩ : ∃ v', v = v' := ⟨_, rfl⟩
  obtain ⟨A, cap, rfl, _⟩ := (Row.of_own hrow)
  have HB1 := Lib.hid hb1
  have HBW := Lib.hid hbW1
  have hgW : w.grownBy W none := (grown_below hb1).andThen (grown_below hbW1) (fun j hj => by cases hj)
  have hKt := hKW.tight (m := 1024) (by omega)
  have HBL := Lib.hid (show b < W.heap.size by have := hgW.size; omega)
  clear hpm hbW hss hv' hK1 hKW hBk hb1 hbW1 hw1 hK hlen
  gi_wp2_with fail
  refine wpIn_loop (fun a' wr => ∃ u3 u4 u9 u10 u11 u12 u13 u14 u15 u16 u17 u18 u19 u20 u21 u22 u23 u24 u25 u26 u27 u28 u29 u30 u32 u33 u34 u35 u36 ds, (∃ (i : Nat) (K : List Str) (Ds : List Nat), u9 = .int .i64 (i : Int) ∧ i ≤ ss.length ∧ Mp wr b 1024 K ∧ JI K0 (· ∈ ss.drop i) K ∧ Keep (fun k => k ≠ b) W wr ∧ ds = Ds.map mk ∧ Marks W.heap.size Ds wr) ∧
      a' = { tmps := #[.map (some b), .pointer (some ⟨w.heap.size, 0, none⟩), undef, u3, u4, .map (some b), .func (.func 54) #[] #[.pointer (some ⟨w1.heap.size, 0, none⟩)], .slice A ss.length cap, .int .i64 (ss.length : Int), u9, u10, u11, u12, u13, u14, u15, u16, u17, u18, u19, u20, u21, u22, u23, u24, u25, u26, u27, u28, u29, u30, undef, u32, u33, u34, u35, u36], defers := ds })
    (fun a' wr => ixm ss.length (a'.tmps.getD 9 undef)) ?_ ?_
  · (repeat apply Exists.intro)
    refine ⟨?_, rfl⟩
    exact ⟨0, K0, [], rfl, Nat.zero_le _, hKt, hJ, Keep.refl _ _, rfl, List.nodup_nil, (fun D hD => by simp at hD), (fun D hD => by simp at hD)⟩
  · rintro a' wr ⟨u3, u4, u9, u10, u11, u12, u13, u14, u15, u16, u17, u18, u19, u20, u21, u22, u23, u24, u25, u26, u27, u28, u29, u30, u32, u33, u34, u35, u36, ds, ⟨i, K, Ds, rfl, hi, hM, hj, hkp, rfl, hmk⟩, rfl⟩
    dsimp only
    have hil : ss.length ≤ 1024 := by have := HLEN.out; omega
    by_cases hlt : i < ss.length
    · obtain ⟨p, hp⟩ : ∃ p, ss[i]? = some p := ⟨ss[i], List.getElem?_eq_getElem hlt⟩
      have hdrop : ss.drop i = p :: ss.drop (i + 1) := by
        obtain ⟨h, rfl⟩ := List.getElem?_eq_some_iff.1 hp
        exact List.drop_eq_getElem_cons h
      have hpK : p ∈ K0 := HPM.out.mem_iff.1 (List.mem_of_getElem? hp)
      have hps := hs p hpK
      have hj1 : JI K0 (fun x => x ∈ ss.drop (i + 1) ∨ x = p) K := hj.imp (fun x hx => by rw [hdrop] at hx; rcases List.mem_cons.1 hx with rfl | hx; exact Or.inr rfl; exact Or.inl hx)
      have hxp : (ss.map str)[i]? = some (str p) := by rw [List.getElem?_map, hp]; rfl
      have hrw : Row wr wr.heap.size 1 ss.length (.slice A ss.length cap) (ss.map str) := Row.of_own (hkp.own (fun k hk => by have := HS1.out; omega) hrow)
      have HHI := Lib.hid hil
      clear hp hdrop hpK hj hil
      gi_wp2_with (refine wpi_atS (.tmp 7) (.tmp 9) rfl rfl rfl hrw .i64 _ i (str p) rfl rfl hxp ?_; intro ad had hcad; go_frame)
      clear had hcad hrw hxp
      refine wpIn_loop (fun a' wr => ∃ u3 u4 u13 u14 u15 u16 u17 u18 u19 u20 u21 u22 u23 u24 u25 u26 u27 u28 u29 u30 u32 u33 u34 u35 ds, (∃ (q : Str) (K : List Str) (Ds : List Nat), u3 = str q ∧ digits q ∧ q.length ≤ 14 ∧ Mp wr b 1024 K ∧ JI K0 (fun x => x ∈ ss.drop (i + 1) ∨ x = q) K ∧ Keep (fun k => k ≠ b) W wr ∧ ds = Ds.map mk ∧ Marks W.heap.size Ds wr) ∧
          a' = { tmps := #[.map (some b), .pointer (some ⟨w.heap.size, 0, none⟩), undef, u3, u4, .map (some b), .func (.func 54) #[] #[.pointer (some ⟨w1.heap.size, 0, none⟩)], .slice A ss.length cap, .int .i64 (ss.length : Int), .int .i64 (i : Int), .bool true, .pointer (some ad), str p, u13, u14, u15, u16, u17, u18, u19, u20, u21, u22, u23, u24, u25, u26, u27, u28, u29, u30, undef, u32, u33, u34, u35, u36], defers := ds })
        (fun a' wr => slm (a'.tmps.getD 3 undef)) ?_ ?_
      · (repeat apply Exists.intro)
        refine ⟨?_, rfl⟩
        exact ⟨p, K, Ds, rfl, hps.1, hps.2, hM, hj1, hkp, rfl, hmk⟩
      · clear hM hj1 hkp hmk hps K Ds wr
        rintro a' wr ⟨u3, u4, u13, u14, u15, u16, u17, u18, u19, u20, u21, u22, u23, u24, u25, u26, u27, u28, u29, u30, u32, u33, u34, u35, ds, ⟨q, K, Ds, rfl, hqd, hql, hM, hj, hkp, rfl, hmk⟩, rfl⟩
        dsimp only
        have hcr : wr.cell? ⟨w.heap.size, 0, none⟩ = some (.map (some b)) := (hBW.keep hkp (by omega)).cell rfl
        by_cases hq0 : q = []
        · subst hq0
          have hj2 := hj.leave (Or.inl rfl)
          have HJ2 := Lib.hid hj2
          have hil := HHI.out
          clear hj hj2
          unfold str
          refine wpIn_seq ?_
          gi_wp2_with fail
          refine wpIn_wide.2 ?_
          go_region
          gi_wp2_with fail
          go_roundw
          case measure => show ss.length - ((i : Int) + 1).toNat < ss.length - ((i : Int)).toNat; omega
          case rel =>
            (repeat apply Exists.intro)
            refine ⟨?_, rfl⟩
            exact ⟨i + 1, K, Ds, by simp, by omega, heap_mp hM rfl, HJ2.out, hkp.trans (Keep.of_below (Below.refl _ _).drew), rfl, hmk.keep (Keep.of_below (O := fun _ => True) (Below.refl _ _).drew) (fun _ _ => trivial)⟩
        · obtain ⟨L, hL⟩ : ∃ L, q.length = L + 1 := ⟨q.length - 1, by
            have : 0 < q.length := List.length_pos_iff.2 hq0
            omega⟩
          have hne : (q == ([] : Str)) = false := by simpa using hq0
          have hcut := str_cut q 0 L
          have hpar : q.take L = par q := by unfold par; rw [hL]; rfl
          rw [List.drop_zero, hpar] at hcut
          have hpl : (par q).length = L := by rw [← hpar, List.length_take]; omega
          have hpd : digits (par q) := digits_pre hqd (by rw [← hpar]; exact List.take_prefix _ _)
          have hil := HHI.out
          obtain ⟨r, hr⟩ : ∃ r, par q = r := ⟨_, rfl⟩
          have HPL := Lib.hid hpl
          have HQ0 := Lib.hid hq0
          have HWL := Lib.hid (show w.heap.size < wr.heap.size by have := (hBW.keep hkp (by omega)).lt; omega)
          have HL := Lib.hid hL
          have HH := hasExtensions_any b 1024 K (par q) wr.drew (heap_mp hM rfl) (by omega)
          have HR := Lib.hid hr
          clear hpar hpl hq0
          by_cases hall : ∀ x ∈ exts (par q), x ∈ K
          · have hj2 := hj.step hM.nodup hall
            have hdc : decide (∀ x ∈ exts (par q), x ∈ K) = true := decide_eq_true hall
            rw [hdc] at HH
            rw [hr] at HH hj2 hcut hpd
            have HJ2 := Lib.hid hj2
            clear hj hj2 hall hdc hr
            unfold str
            refine wpIn_seq ?_
            gi_wp2_with fail
            refine wpIn_wide.2 ?_
            refine wp_region_pt wr.heap.size (.take 0 (.take 1 (.take 2 (.take 3 (.take 4 (.take 5 (.take 6 (.take 7 (.take 8 (.step 9 (.take 10 .done))))))))))) (by kernel_rfl) (by kernel_rfl) (by kernel_rfl) (fun _ _ h => h) ?_
            obtain ⟨w0, hw0⟩ : ∃ w0, w0 = wr.drew := ⟨_, rfl⟩
            have e1 : w0.cell? ⟨w.heap.size, 0, none⟩ = some (.map (some b)) := by rw [hw0]; simpa using hcr
            have b0 : Below wr.heap.size wr w0 := by rw [hw0]; exact (Below.refl _ _).drew
            have z0 : wr.heap.size ≤ w0.heap.size := b0.size
            have hwl : w.heap.size < wr.heap.size := HWL.out
            rw [← hw0] at HH ⊢
            have HW0 := Lib.hid hw0
            clear hw0 hcr
            first | refine pt_skip rfl rfl rfl rfl ?_ | (refine pt_take rfl rfl rfl rfl ?_; apply Exists.intro; refine ⟨fun w' hw' => ?_, ?_⟩; focus ((repeat (first | go_skip | go_guarded | go_step | go_upon | go_back)); exact ⟨rfl, rfl, rfl⟩))
            first | refine pt_skip rfl rfl rfl rfl ?_ | (refine pt_take rfl rfl rfl rfl ?_; apply Exists.intro; refine ⟨fun w' hw' => ?_, ?_⟩; focus ((repeat (first | go_skip | go_guarded | go_step | go_upon | go_back)); exact ⟨rfl, rfl, rfl⟩))
            first | refine pt_skip rfl rfl rfl rfl ?_ | (refine pt_take rfl rfl rfl rfl ?_; apply Exists.intro; refine ⟨fun w' hw' => ?_, ?_⟩; focus ((repeat (first | go_skip | go_guarded | go_step | go_upon | go_back)); exact ⟨rfl, rfl, rfl⟩))
            refine pt_take rfl rfl rfl rfl ?_
            apply Exists.intro
            refine ⟨fun w' hw' => ?_, ?_⟩
            · have hcell := (hw'.cell (p := ⟨w.heap.size, 0, none⟩) hwl).trans e1
              focus ((repeat (first | go_skip | go_guarded | go_step | go_upon | go_back)); exact ⟨rfl, rfl, rfl⟩)
            first | refine pt_skip rfl rfl rfl rfl ?_ | (refine pt_take rfl rfl rfl rfl ?_; apply Exists.intro; refine ⟨fun w' hw' => ?_, ?_⟩; focus ((repeat (first | go_skip | go_guarded | go_step | go_upon | go_back)); exact ⟨rfl, rfl, rfl⟩))
            first | refine pt_skip rfl rfl rfl rfl ?_ | (refine pt_take rfl rfl rfl rfl ?_; apply Exists.intro; refine ⟨fun w' hw' => ?_, ?_⟩; focus ((repeat (first | go_skip | go_guarded | go_step | go_upon | go_back)); exact ⟨rfl, rfl, rfl⟩))
            first | refine pt_skip rfl rfl rfl rfl ?_ | (refine pt_take rfl rfl rfl rfl ?_; apply Exists.intro; refine ⟨fun w' hw' => ?_, ?_⟩; focus ((repeat (first | go_skip | go_guarded | go_step | go_upon | go_back)); exact ⟨rfl, rfl, rfl⟩))
            first | refine pt_skip rfl rfl rfl rfl ?_ | (refine pt_take rfl rfl rfl rfl ?_; apply Exists.intro; refine ⟨fun w' hw' => ?_, ?_⟩; focus ((repeat (first | go_skip | go_guarded | go_step | go_upon | go_back)); exact ⟨rfl, rfl, rfl⟩))
            first | refine pt_skip rfl rfl rfl rfl ?_ | (refine pt_take rfl rfl rfl rfl ?_; apply Exists.intro; refine ⟨fun w' hw' => ?_, ?_⟩; focus ((repeat (first | go_skip | go_guarded | go_step | go_upon | go_back)); exact ⟨rfl, rfl, rfl⟩))
            refine pt_step rfl ?_
            go_wp2_with fail
            refine HH.mono ?_
            rintro e W2 ⟨rfl, hb2⟩
            clear HH
            go_wp2_with fail
            refine ⟨rfl, hb2.mono z0, ?_⟩
            have b02 : Below wr.heap.size wr W2 := b0.trans (hb2.mono z0)
            first | refine pt_skip rfl rfl rfl rfl ?_ | (refine pt_take rfl rfl rfl rfl ?_; apply Exists.intro; refine ⟨fun w' hw' => ?_, ?_⟩; focus ((repeat (first | go_skip | go_guarded | go_step | go_upon | go_back)); exact ⟨rfl, rfl, rfl⟩))
            change Exit.then _ _ Exit.normal _ _
            gi_wp2_with fail
            refine ⟨trivial, (callsIn_wide.2 (extensions_any r W2)).mono ?_⟩
            rintro e W3 ⟨rfl, hW3⟩
            have hb3 : Below W2.heap.size W2 W3 := by rw [hW3]; exact (Below.refl _ _).alloc (Nat.le_refl _) _
            have k3 : W3.heap[W2.heap.size]? = some (.cells #[str r] 9 (0, 0)) := by rw [hW3]; exact heap_alloc_new _ _
            have b03 : Below wr.heap.size wr W3 := b02.trans (hb3.mono b02.size)
            have hM3 := hM.past b03 hM.lt
            have hkp3 := hkp.trans (Keep.of_below (O := fun k => k ≠ b) b03)
            have hBW3 := hBW.keep hkp3 (by omega)
            have hmk3 := hmk.keep (Keep.of_below (O := fun _ => True) b03) (fun _ _ => trivial)
            have hbl3 := hM3.lt
            have hs23 : W2.heap.size < W3.heap.size := by rw [hW3]; simp
            have hrl : r.length ≤ 1000 := by have := HPL.out; rw [HR.out] at this; omega
            have hnd := hM.nodup
            have hW2l : w.heap.size < W2.heap.size := by have := b02.size; omega
            clear hW3 hM hkp hmk e1 b0 hb2 hb3 b02 hL hne hcut
            gi_wp2_with fail
            refine wpIn_rangeFunc_ownG rfl (by omega) (gf := 60) (lb := #[.pointer (some ⟨W2.heap.size, 0, none⟩)]) rfl trivial (enters_of Try.func60 (by kernel_rfl) rfl)
              (ext_stops W2.heap.size r W3 5 (by omega) k3 hrl) kpO_t (kpO_b (fun k hk => by omega)) (Below.refl _ _) (fun _ => rfl)
              (fun pre X => Blk X w.heap.size 46 [.map (some b)] ∧ Mp X b 1024 (strike (pre.map clip) K) ∧ Keep (fun k => k ≠ b ∧ k < W3.heap.size) W3 X ∧ Marks W.heap.size Ds X)
              (fun _ _ _ => False)
              (own_keep fun s X X' ⟨h1, h2, h3, h4⟩ hk => ⟨h1.keep hk hBW3.lt, h2.keep hk hbl3, h3.trans (hk.mono fun k hk => hk.2), h4.keep hk hmk3.lt⟩)
              (fun c => own_keep fun _ _ _ h _ => h)
              ⟨hBW3, hM3, Keep.refl _ _, hmk3⟩
              (fun x => { tmps := #[.map (some b), .pointer (some ⟨w.heap.size, 0, none⟩), undef, .string ⟨r.toArray⟩, str (clip x), .map (some b), .func (.func 54) #[] #[.pointer (some ⟨w1.heap.size, 0, none⟩)], .slice A ss.length cap, .int .i64 (ss.length : Int), .int .i64 (i : Int), .bool true, .pointer (some ad), .string ⟨p.toArray⟩, .string ⟨q.toArray⟩, .bool true, .bool true, .map (some b), .string ⟨q.toArray⟩, .string ⟨q.toArray⟩, .int .i64 ((L : Int) + 1), .int .i64 (L : Int), .string ⟨r.toArray⟩, .bool true, .bool true, .string ⟨q.toArray⟩, .string ⟨q.toArray⟩, .int .i64 ((L : Int) + 1), .int .i64 (L : Int), .string ⟨r.toArray⟩, .string ⟨r.toArray⟩, .func (.func 60) #[] #[.pointer (some ⟨W2.heap.size, 0, none⟩)], str (clip x), u32, u33, u34, u35, u36], defers := [] }) ?assign ?body ?done ?stop
            case assign =>
              intro l x X K hK
              gi_wp2_with fail
              exact hK
            case body =>
              rintro l pre x X ⟨h1, h2, h3, h4⟩ _
              have hc1 := h1.cell (j := 0) rfl
              have hyl : (clip x).length ≤ maxLen := by have := clip_len x; simp only [maxLen]; omega
              obtain ⟨y, hy⟩ : ∃ y, clip x = y := ⟨_, rfl⟩
              have HY := Lib.hid hy
              rw [hy] at hyl ⊢
              unfold str
              clear hy
              gi_wp2_with (refine wpi_del rfl (.tmp 32) (.tmp 33) rfl b 1024 _ rfl h2 y hyl rfl rfl ?_; intro w5 m5 g5)
              have hne5 : ∀ k (o : Obj), X.heap[k]? = some o → k ≠ b → w5.heap[k]? = some o := fun k o ho hk => (g5.block k (Array.getElem?_eq_some_iff.1 ho).1 (by simpa using hk)).trans ho
              have hbX : ∃ es clock, X.heap[b]? = some (.map es clock) := by obtain ⟨D, ⟨es, clock, hb, _⟩, _⟩ := h2; exact ⟨es, clock, hb⟩
              have hk5 := keep_grown g5
              refine ⟨KeepsFrom.of_grownBy g5 (fun j e => by cases e; omega), ⟨fun k s c ho => hne5 k _ ho (fun e => ?_), fun k hk => ?_⟩, h1.keep hk5 (by omega), ?_, h3.trans (hk5.mono fun k hk => hk.1), h4.keep hk5 (fun D hD => by have := h4.low D hD; have := HBL.out; omega)⟩
              · obtain ⟨es, clock, hb⟩ := hbX
                rw [e, hb] at ho
                injection ho with ho
                cases ho
              · have hk : k = W2.heap.size := hk
                exact g5.block k (by have := h3.size; omega) (fun e => by injection e with e; omega)
              · rw [List.map_append, List.map_cons, List.map_nil, strike_snoc, HY.out]; exact m5
            case done =>
              rintro D xs X hD rfl ⟨h1, h2, h3, h4⟩ hKD
              have hc1 := h1.cell (j := 0) rfl
              have hcl : (exts r).map clip = exts r := by
                have h : ∀ x ∈ exts r, clip x = id x := fun x hx => clip_id (by rw [exts_len hx]; omega)
                rw [List.map_congr_left h, List.map_id]
              rw [hcl] at h2
              clear hcl
              gi_wp2_with (refine wpi_put rfl (.tmp 34) (.tmp 35) (.const (.bool true)) rfl b 1024 _ rfl h2 (by simp only [maxLen]; omega) r (by simp only [maxLen]; omega) rfl rfl rfl ?_; intro w5 m5 g5)
              have hk5 := keep_grown g5
              have hlen5 := HJ2.out.len
              have hDb : D ≠ b := by omega
              go_roundw
              case measure =>
                show (⟨r.toArray⟩ : ByteArray).size < (⟨q.toArray⟩ : ByteArray).size
                rw [str_size, str_size, HL.out]
                have := HPL.out
                rw [HR.out] at this
                omega
              case rel =>
              (repeat apply Exists.intro)
              refine ⟨?_, rfl⟩
              refine ⟨r, _, D :: Ds, rfl, hpd, by have := HPL.out; rw [HR.out] at this; have := HL.out; omega, m5.tight (by have := HLEN.out; omega), HJ2.out, ?_, rfl, ?_⟩
              · have hkX : Keep (fun k => k ≠ b) W X := ⟨h3.os.trans hkp3.os, h3.tape.trans hkp3.tape, h3.output.trans hkp3.output, Nat.le_trans hkp3.size h3.size, fun k hk hl => (h3.block k ⟨hk, by have := hkp3.size; omega⟩ (by have := hkp3.size; omega)).trans (hkp3.block k hk hl)⟩
                exact hkX.trans hk5
              · have h5 := h4.keep hk5 (fun D hD => by have := h4.low D hD; have := HBL.out; omega)
                refine ⟨List.nodup_cons.2 ⟨fun hm => by have := hmk3.lt D hm; omega, h5.nodup⟩, fun E hE => ?_, fun E hE => ?_⟩
                · rcases List.mem_cons.1 hE with rfl | hE
                  · have := hkp3.size; omega
                  · exact h5.low E hE
                · rcases List.mem_cons.1 hE with rfl | hE
                  · exact hk5.heap hDb hKD
                  · exact h5.held E hE
            case stop =>
              rintro D c pre X _ _ h _
              exact h.elim
          · have hj2 := hj.leave (Or.inr hall)
            have hdc : decide (∀ x ∈ exts (par q), x ∈ K) = false := decide_eq_false hall
            rw [hdc] at HH
            rw [hr] at HH hcut hpd
            have HJ2 := Lib.hid hj2
            clear hj hj2 hall hdc hr
            unfold str
            refine wpIn_seq ?_
            gi_wp2_with fail
            refine wpIn_wide.2 ?_
            refine wp_region_pt wr.heap.size (.take 0 (.take 1 (.take 2 (.take 3 (.take 4 (.take 5 (.take 6 (.take 7 (.take 8 (.step 9 (.take 10 .done))))))))))) (by kernel_rfl) (by kernel_rfl) (by kernel_rfl) (fun _ _ h => h) ?_
            obtain ⟨w0, hw0⟩ : ∃ w0, w0 = wr.drew := ⟨_, rfl⟩
            have e1 : w0.cell? ⟨w.heap.size, 0, none⟩ = some (.map (some b)) := by rw [hw0]; simpa using hcr
            have b0 : Below wr.heap.size wr w0 := by rw [hw0]; exact (Below.refl _ _).drew
            have z0 : wr.heap.size ≤ w0.heap.size := b0.size
            have hwl : w.heap.size < wr.heap.size := HWL.out
            rw [← hw0] at HH ⊢
            have HW0 := Lib.hid hw0
            clear hw0 hcr
            first | refine pt_skip rfl rfl rfl rfl ?_ | (refine pt_take rfl rfl rfl rfl ?_; apply Exists.intro; refine ⟨fun w' hw' => ?_, ?_⟩; focus ((repeat (first | go_skip | go_guarded | go_step | go_upon | go_back)); exact ⟨rfl, rfl, rfl⟩))
            first | refine pt_skip rfl rfl rfl rfl ?_ | (refine pt_take rfl rfl rfl rfl ?_; apply Exists.intro; refine ⟨fun w' hw' => ?_, ?_⟩; focus ((repeat (first | go_skip | go_guarded | go_step | go_upon | go_back)); exact ⟨rfl, rfl, rfl⟩))
            first | refine pt_skip rfl rfl rfl rfl ?_ | (refine pt_take rfl rfl rfl rfl ?_; apply Exists.intro; refine ⟨fun w' hw' => ?_, ?_⟩; focus ((repeat (first | go_skip | go_guarded | go_step | go_upon | go_back)); exact ⟨rfl, rfl, rfl⟩))
            refine pt_take rfl rfl rfl rfl ?_
            apply Exists.intro
            refine ⟨fun w' hw' => ?_, ?_⟩
            · have hcell := (hw'.cell (p := ⟨w.heap.size, 0, none⟩) hwl).trans e1
              focus ((repeat (first | go_skip | go_guarded | go_step | go_upon | go_back)); exact ⟨rfl, rfl, rfl⟩)
            first | refine pt_skip rfl rfl rfl rfl ?_ | (refine pt_take rfl rfl rfl rfl ?_; apply Exists.intro; refine ⟨fun w' hw' => ?_, ?_⟩; focus ((repeat (first | go_skip | go_guarded | go_step | go_upon | go_back)); exact ⟨rfl, rfl, rfl⟩))
            first | refine pt_skip rfl rfl rfl rfl ?_ | (refine pt_take rfl rfl rfl rfl ?_; apply Exists.intro; refine ⟨fun w' hw' => ?_, ?_⟩; focus ((repeat (first | go_skip | go_guarded | go_step | go_upon | go_back)); exact ⟨rfl, rfl, rfl⟩))
            first | refine pt_skip rfl rfl rfl rfl ?_ | (refine pt_take rfl rfl rfl rfl ?_; apply Exists.intro; refine ⟨fun w' hw' => ?_, ?_⟩; focus ((repeat (first | go_skip | go_guarded | go_step | go_upon | go_back)); exact ⟨rfl, rfl, rfl⟩))
            first | refine pt_skip rfl rfl rfl rfl ?_ | (refine pt_take rfl rfl rfl rfl ?_; apply Exists.intro; refine ⟨fun w' hw' => ?_, ?_⟩; focus ((repeat (first | go_skip | go_guarded | go_step | go_upon | go_back)); exact ⟨rfl, rfl, rfl⟩))
            first | refine pt_skip rfl rfl rfl rfl ?_ | (refine pt_take rfl rfl rfl rfl ?_; apply Exists.intro; refine ⟨fun w' hw' => ?_, ?_⟩; focus ((repeat (first | go_skip | go_guarded | go_step | go_upon | go_back)); exact ⟨rfl, rfl, rfl⟩))
            refine pt_step rfl ?_
            go_wp2_with fail
            refine HH.mono ?_
            rintro e W2 ⟨rfl, hb2⟩
            clear HH
            go_wp2_with fail
            refine ⟨rfl, hb2.mono z0, ?_⟩
            have b02 : Below wr.heap.size wr W2 := b0.trans (hb2.mono z0)
            first | refine pt_skip rfl rfl rfl rfl ?_ | (refine pt_take rfl rfl rfl rfl ?_; apply Exists.intro; refine ⟨fun w' hw' => ?_, ?_⟩; focus ((repeat (first | go_skip | go_guarded | go_step | go_upon | go_back)); exact ⟨rfl, rfl, rfl⟩))
            change Exit.then _ _ Exit.normal _ _
            gi_wp2_with fail
            have b02' := b02
            go_roundw
            case measure => show ss.length - ((i : Int) + 1).toNat < ss.length - ((i : Int)).toNat; omega
            case rel =>
            (repeat apply Exists.intro)
            refine ⟨?_, rfl⟩
            exact ⟨i + 1, K, Ds, by simp, by omega, hM.past b02 hM.lt, HJ2.out, hkp.trans (Keep.of_below b02), rfl, hmk.keep (Keep.of_below (O := fun _ => True) b02) (fun _ _ => trivial)⟩
    · have hd0 : ss.drop i = [] := List.drop_eq_nil_of_le (by omega)
      rw [hd0] at hj
      have hj2 : JI K0 (fun _ => False) K := hj.imp (fun x hx => by simp at hx)
      gi_wp2_with fail
      show LeavesInM _ _ _ _ _ _ _ _ _
      refine leaves_marks rfl Ds wr hmk.nodup hmk.held fun W' hk' => ⟨rfl, ?_, K, ?_, hj2⟩
      · refine (hgW.but (some b)).andThen (grown_keep (b := b) ⟨hk'.os.trans hkp.os, hk'.tape.trans hkp.tape, hk'.output.trans hkp.output, Nat.le_trans hkp.size hk'.size, fun k hk hl => (hk'.block k (fun hm => by have := hmk.low k hm; omega) (by have := hkp.size; omega)).trans (hkp.block k hk hl)⟩) (fun j hj => by cases hj; exact Or.inr rfl)
      · exact hM.keep hk' (fun hm => by have := hmk.low b hm; have := HBL.out; omega)

end Go.Proofs.Ytblgcefaikoejaa
