/-
  The iterators: the ten extensions of a prefix, the candidates for a number.
-/
import Derived.Test.YtblgcefaikoejaaDgB
import Derived.Test.YtblgcefaikoejaaKep
import Derived.RangeFuncWrites
namespace Go.Proofs.Ytblgcefaikoejaa
open Go.RowKit Dg
attribute [local go_sem] Oper.semAt_some
set_option linter.unusedVariables false
set_option linter.unusedSimpArgs false

/-- No more than so many bytes of a string: what a body is handed is short. -/
def clip (x : Str) : Str := x.take 2000
theorem clip_id {x : Str} (h : x.length ≤ 2000) : clip x = x := List.take_of_length_le h
theorem clip_len (x : Str) : (clip x).length ≤ 2000 := by unfold clip; rw [List.length_take]; omega

/-- What a round leaves as it was: the iterators that walk, and the blocks of the captured variables. -/
def KpO (O : Nat → Prop) (W W' : World) : Prop := (∀ (k : Nat) (s : ByteArray) (p : Nat), W.heap[k]? = some (Obj.stringIter s p) → W'.heap[k]? = some (Obj.stringIter s p)) ∧ ∀ k, O k → W'.heap[k]? = W.heap[k]?
theorem kpO_t {O : Nat → Prop} {A B C : World} (h : KpO O A B) (k : KpO O B C) : KpO O A C := ⟨fun i s p hi => k.1 i s p (h.1 i s p hi), fun i hi => (k.2 i hi).trans (h.2 i hi)⟩
theorem kpO_b {O : Nat → Prop} {w : World} (hO : ∀ k, O k → k < w.heap.size) (W : World) (l : Nat) (o o' : Obj) (hl : w.heap.size ≤ l) (h : W.heap[l]? = some o) (_ : o.isCells = false) (hw : o.isWalk = false) : KpO O W (W.putObj l o') :=
  ⟨fun k s p hk => by
    by_cases e : k = l
    · subst e
      rw [h] at hk
      injection hk with hk
      subst hk
      cases hw
    · rw [World.putObj_heap_other e]; exact hk, fun k hk => World.putObj_heap_other (by have := hO k hk; omega)⟩

/-- How far an iterator over a string has come. -/
def ipos (w : World) (r : Nat) : Nat := match w.heap[r]? with | some (.stringIter _ p) => p | _ => 0
theorem ipos_eq {w : World} {r : Nat} {s : ByteArray} {p : Nat} (h : w.heap[r]? = some (.stringIter s p)) : ipos w r = p := by unfold ipos; rw [h]

theorem grownBy_iterAt (w : World) (k : Nat) (s : ByteArray) (pos : Nat) : w.grownBy (w.iterAt k s pos) (some k) :=
  ⟨rfl, rfl, rfl, by rw [Lib.iterAt_size]; exact Nat.le_refl _, fun i _ hi => Lib.iterAt_other w k i s pos (fun e => hi (by rw [e]))⟩

theorem digs_at (k : Nat) (hk : k < 10) : digs[k]? = some (UInt8.ofNat (48 + k)) ∧ isD (UInt8.ofNat (48 + k)) = true ∧ (UInt8.ofNat (48 + k)).toNat = 48 + k := by
  rcases (by omega : k = 0 ∨ k = 1 ∨ k = 2 ∨ k = 3 ∨ k = 4 ∨ k = 5 ∨ k = 6 ∨ k = 7 ∨ k = 8 ∨ k = 9) with rfl | rfl | rfl | rfl | rfl | rfl | rfl | rfl | rfl | rfl <;> decide

theorem encode_digit (k : Nat) (hk : k < 10) : Utf8.encode ((48 + k : Nat) : Int) = ⟨#[UInt8.ofNat (48 + k)]⟩ := by
  rcases (by omega : k = 0 ∨ k = 1 ∨ k = 2 ∨ k = 3 ∨ k = 4 ∨ k = 5 ∨ k = 6 ∨ k = 7 ∨ k = 8 ∨ k = 9) with rfl | rfl | rfl | rfl | rfl | rfl | rfl | rfl | rfl | rfl <;> rfl

theorem exts_take (p : Str) (k : Nat) (hk : k < 10) : (exts p).take (k + 1) = (exts p).take k ++ [p ++ [UInt8.ofNat (48 + k)]] := by
  have h : (exts p)[k]? = some (p ++ [UInt8.ofNat (48 + k)]) := by unfold exts; rw [List.getElem?_map, (digs_at k hk).1]; rfl
  rw [List.take_add_one, h]; rfl

set_option maxRecDepth 100000 in
set_option maxHeartbeats 1000000 in
theorem ext_stops (b : Nat) (p : Str) (w : World) (n : Nat) (hn : 1 ≤ n) (hb : w.heap[b]? = some (.cells #[str p] 9 (0, 0))) (hp : p.length ≤ 1000) :
    SeqStopsK Fence.wide n Try.prog 60 #[.pointer (some ⟨b, 0, none⟩)] (fun x : Str => #[str (clip x)]) (KpO (· = b)) (fun xs => xs = exts p) (fun pre => pre <+: exts p) 10 w := by
  intro l J Jx W hW hJ hJx hY h0
  have hbw := hW.block b (Array.getElem?_eq_some_iff.1 hb).1
  rw [hb] at hbw
  have hbl := (Array.getElem?_eq_some_iff.1 hbw).1
  clear hb
  refine callsIn_of_wp Try.func60 rfl trivial ?_ rfl
  simp only [Try.ntmps60, List.size_toArray, List.length_cons, List.length_nil, Nat.reduceAdd, Nat.reduceSub, Array.replicate_succ, Array.replicate_zero, List.push_toArray, List.append_toArray, List.nil_append, List.cons_append]
  obtain ⟨s, hs⟩ : ∃ s : ByteArray, s = ⟨digs.toArray⟩ := ⟨_, rfl⟩
  have hs2 : (⟨#[48, 49, 50, 51, 52, 53, 54, 55, 56, 57]⟩ : ByteArray) = s := hs.symm
  have hsz : s.size = 10 := by rw [hs]; rfl
  have HS := Lib.hid hs
  clear hs
  gi_wp2_with fail
  gi_loopw [] (fun wr => ∃ pos : Nat, pos ≤ 10 ∧ wr.heap[W.heap.size]? = some (.stringIter s pos) ∧ J ((exts p).take pos) wr ∧ wr.heap[b]? = some (.cells #[str p] 9 (0, 0)))
    (fun wr => 10 - ipos wr W.heap.size)
  case atStart =>
    have h1 : (W.iter s 0).heap[W.heap.size]? = some (.stringIter s 0) := World.iter_heap W s 0
    exact ⟨0, Nat.zero_le _, h1, hJ _ W _ none h0 (World.grownBy_alloc W _ none) (fun r e => by cases e), (Below.heap_alloc W _ b hbl).trans hbw⟩
  case round =>
    obtain ⟨pos, hpos, hit, hJr, hbr⟩ := hrel
    by_cases hps : pos < 10
    · have hnx : ∀ ty, (Instr.next (.pointer (some ⟨W.heap.size, 0, none⟩)) true ty).run Try.prog wr = _ := fun ty => Lib.run_next_any_at wr W.heap.size s pos ty hit (by omega)
      obtain ⟨hd1, hd2, hd3⟩ := digs_at pos hps
      have hdec : Utf8.decode s pos = (48 + pos, 1) := by rw [HS.out, decode_digit digs pos _ hd1 hd2, hd3]
      rw [hdec] at hnx
      have hen := encode_digit pos hps
      have hit2 := Lib.iterAt_heap wr W.heap.size s pos (pos + 1) hit
      have hg2 := grownBy_iterAt wr W.heap.size s (pos + 1)
      have hbr2 : (wr.iterAt W.heap.size s (pos + 1)).heap[b]? = some (.cells #[str p] 9 (0, 0)) := (hg2.block b (Array.getElem?_eq_some_iff.1 hbr).1 (by simp; omega)).trans hbr
      have hJ2 := hJ _ wr _ _ hJr hg2 (fun r e => by cases e; exact ⟨Nat.le_refl _, _, hit, rfl⟩)
      obtain ⟨W2, hWd⟩ : ∃ W2, wr.iterAt W.heap.size s (pos + 1) = W2 := ⟨_, rfl⟩
      rw [hWd] at hnx hit2 hbr2 hJ2
      have hcell : W2.cell? ⟨b, 0, none⟩ = some (str p) := by rw [cell_of_row _ _ 0 _ _ _ hbr2]; rfl
      obtain ⟨fn, tmps, assign, body, hy, hR⟩ := hY _ (p ++ [UInt8.ofNat (48 + pos)]) W2 hJ2 (by rw [List.length_take]; omega)
      rw [← exts_take p pos hps] at hR
      rw [clip_id (by simp; omega)] at hy
      have HIT0 := Lib.hid hit
      clear hWd hg2 hJr hit hdec
      unfold str at hcell hy
      obtain ⟨d, hD⟩ : ∃ d, UInt8.ofNat (48 + pos) = d := ⟨_, rfl⟩
      rw [hD] at hy hd3 hen
      obtain ⟨R, hR'⟩ : ∃ R, 48 + pos = R := ⟨_, rfl⟩
      have hnx2 : ∀ ty, (Instr.next (.pointer (some ⟨W.heap.size, 0, none⟩)) true ty).run Try.prog wr = .ok (.tuple #[.bool true, .int .i64 (pos : Int), .int .i32 (R : Int)]) W2 := fun ty => by rw [hnx ty, hR']
      rw [hR'] at hen
      have hadd := str_add p [d]
      clear hnx hR'
      have H3 := Lib.hid hd3
      have HIT := Lib.hid hit2
      have HBR := Lib.hid hbr2
      clear hD hd1 hd2 hd3 hit2 hbr2 hbr
      gi_wp2_with fail
      refine hR.mono ?_
      rintro e W' (⟨rfl, hJ', hk⟩ | ⟨rfl, hJx'⟩)
      · have hit3 := hk.1 _ _ _ HIT.out
        have hbr3 := (hk.2 b rfl).trans HBR.out
        have HI3 := Lib.hid hit3
        have HB3 := Lib.hid hbr3
        clear hit3 hbr3 hk
        gi_wp2_with fail
        go_roundw
        case rel => exact ⟨pos + 1, by omega, HI3.out, hJ', HB3.out⟩
        case measure => rw [ipos_eq HI3.out, ipos_eq HIT0.out]; omega
      · gi_wp2_with fail
        try simp only [Exit.inBlock, Exit.then]
        refine bodyPost_ret (results_none rfl _ _ _) rfl ?_
        exact ⟨⟨_, rfl⟩, .inr ⟨_, List.take_prefix _ _, hJx'⟩⟩
    · have hnx : ∀ ty, (Instr.next (.pointer (some ⟨W.heap.size, 0, none⟩)) true ty).run Try.prog wr = _ := fun ty => Lib.run_next_end_at wr W.heap.size s pos ty hit (by omega)
      have he : (exts p).take pos = exts p := by rw [List.take_of_length_le]; rw [exts_ten]; omega
      rw [he] at hJr
      gi_wp2_with fail
      go_end0
      exact ⟨⟨_, rfl⟩, .inl ⟨_, rfl, hJr⟩⟩

set_option maxRecDepth 100000 in
theorem extensions_any (p : Str) (w : World) :
    Calls Try.prog 51 #[str p] w fun e w' => e = .returned (.func (.func 60) #[] #[.pointer (some ⟨w.heap.size, 0, none⟩)]) ∧ w' = w.alloc (.cells #[str p] 9) := by
  unfold str
  go_enter Try.func51, Try.ntmps51
  go_wp2_with fail
  go_ret
  exact ⟨rfl, rfl⟩

set_option maxRecDepth 100000 in
theorem candidates_any (n c a : Str) (w : World) :
    Calls Try.prog 33 #[str n, str c, str a] w fun e w' => e = .returned (.func (.func 47) #[] #[.pointer (some ⟨w.heap.size, 0, none⟩), .pointer (some ⟨w.heap.size + 1, 0, none⟩), .pointer (some ⟨w.heap.size + 1 + 1, 0, none⟩)]) ∧
      w' = ((w.alloc (.cells #[str n] 9)).alloc (.cells #[str c] 9)).alloc (.cells #[str a] 9) := by
  unfold str
  go_enter Try.func33, Try.ntmps33
  go_wp2_with fail
  go_ret
  exact ⟨rfl, rfl⟩

theorem cutp_in (m : Nat) (s p : Str) (w : World) (hs : s.length ≤ maxLen) (hp : p.length ≤ maxLen) (b : Bool) (hb : pre p s = b) (r : Str) (hr : (if b = true then s.drop p.length else s) = r) :
    CallsIn Fence.wide m Try.prog 46 #[str s, str p] w fun e w' => e = .returned (.tuple #[str r, .bool b]) ∧ w' = w := by
  refine callsIn_wide.2 ((cutPrefix_any s p w hs hp).mono ?_)
  rintro e w' ⟨rfl, rfl⟩
  unfold cutp
  rw [hb, hr]
  exact ⟨rfl, rfl⟩

set_option maxRecDepth 100000 in
set_option maxHeartbeats 1000000 in
theorem cand_stops (b1 b2 b3 : Nat) (n c a : Str) (w : World) (m : Nat) (hm : 1 ≤ m) (h1 : w.heap[b1]? = some (.cells #[str n] 9 (0, 0))) (h2 : w.heap[b2]? = some (.cells #[str c] 9 (0, 0))) (h3 : w.heap[b3]? = some (.cells #[str a] 9 (0, 0)))
    (hn : n.length ≤ 1000) (hc : c.length ≤ 1000) (ha : a.length ≤ 1000) :
    SeqStopsK Fence.wide m Try.prog 47 #[.pointer (some ⟨b1, 0, none⟩), .pointer (some ⟨b2, 0, none⟩), .pointer (some ⟨b3, 0, none⟩)] (fun x : Str => #[str (clip x)]) (KpO fun k => k = b1 ∨ k = b2 ∨ k = b3) (fun xs => xs = cands n c a) (fun pre => pre <+: cands n c a) 3 w := by
  intro l J Jx W hW hJ hJx hY h0
  have k1 := (hW.block b1 (Array.getElem?_eq_some_iff.1 h1).1).trans h1
  have k2 := (hW.block b2 (Array.getElem?_eq_some_iff.1 h2).1).trans h2
  have k3 := (hW.block b3 (Array.getElem?_eq_some_iff.1 h3).1).trans h3
  have c1 : W.cell? ⟨b1, 0, none⟩ = some (str n) := by rw [cell_of_row _ _ 0 _ _ _ k1]; rfl
  have c2 : W.cell? ⟨b2, 0, none⟩ = some (str c) := by rw [cell_of_row _ _ 0 _ _ _ k2]; rfl
  have c3 : W.cell? ⟨b3, 0, none⟩ = some (str a) := by rw [cell_of_row _ _ 0 _ _ _ k3]; rfl
  have K1 := Lib.hid k1
  have K2 := Lib.hid k2
  have K3 := Lib.hid k3
  clear k1 k2 k3 h1 h2 h3
  refine callsIn_of_wp Try.func47 rfl trivial ?_ rfl
  simp only [Try.ntmps47, List.size_toArray, List.length_cons, List.length_nil, Nat.reduceAdd, Nat.reduceSub, Array.replicate_succ, Array.replicate_zero, List.push_toArray, List.append_toArray, List.nil_append, List.cons_append]
  have hadd := str_add c a
  obtain ⟨q1, hq1⟩ : ∃ b, pre (c ++ a) n = b := ⟨_, rfl⟩
  obtain ⟨q2, hq2⟩ : ∃ b, pre c n = b := ⟨_, rfl⟩
  obtain ⟨r1, hr1⟩ : ∃ r, (if q1 = true then n.drop (c ++ a).length else n) = r := ⟨_, rfl⟩
  obtain ⟨r2, hr2⟩ : ∃ r, (if q2 = true then n.drop c.length else n) = r := ⟨_, rfl⟩
  have hrl : r2.length ≤ 1000 := by rw [← hr2]; split <;> first | (simp only [List.length_drop]; omega) | omega
  have hrl1 : r1.length ≤ 1000 := by rw [← hr1]; split <;> first | (simp only [List.length_drop]; omega) | omega
  have hC : cands n c a = (if q1 = true then [r1] else []) ++ ((if q2 = true then [48 :: r2] else []) ++ [48 :: 48 :: n]) := by
    unfold cands
    rw [hq1, hq2]
    cases q1 <;> cases q2 <;> simp_all
  have HC := Lib.hid hC
  have G1 := cutp_in
  have H1 := Lib.hid hq1
  have H2 := Lib.hid hq2
  have R1 := Lib.hid hr1
  have R2 := Lib.hid hr2
  clear hq1 hq2 hr1 hr2 hC G1
  have hl : (c ++ a).length ≤ maxLen := by simp only [List.length_append, maxLen]; omega
  unfold str at c1 c2 c3
  gi_wp2_with fail
  refine ⟨trivial, (cutp_in _ n (c ++ a) W (by simp only [maxLen]; omega) hl q1 H1.out r1 R1.out).mono ?_⟩
  rintro e w' ⟨rfl, rfl⟩
  have A1 := str_add [48] r2
  have A2 := str_add [48, 48] n
  have e1 : [48] ++ r2 = 48 :: r2 := rfl
  have e2 : [48, 48] ++ n = 48 :: 48 :: n := rfl
  rw [e1] at A1
  rw [e2] at A2
  clear e1 e2
  unfold str
  cases q1
  · gi_wp2_with fail
    refine ⟨fun _ h => (by cases h), ?_⟩
    gi_wp2_with fail
    refine ⟨trivial, (cutp_in _ n c _ (by simp only [maxLen]; omega) (by simp only [maxLen]; omega) q2 H2.out r2 R2.out).mono ?_⟩
    rintro e w' ⟨rfl, rfl⟩
    unfold str
    cases q2
    · obtain ⟨fn, tmps, assign, body, hy, hR⟩ := hY [] (48 :: 48 :: n) _ h0 (by simp)
      rw [clip_id (by first | omega | (simp; omega))] at hy
      unfold str at hy
      gi_wp2_with fail
      try (refine ⟨fun _ h => (by cases h), ?_⟩; gi_wp2_with fail)
      refine hR.mono ?_
      rintro e W9 (⟨rfl, hJ9, hk9⟩ | ⟨rfl, hJ9⟩)
      · gi_wp2_with fail
        go_end0
        exact ⟨⟨_, rfl⟩, .inl ⟨_, by rw [HC.out]; simp, hJ9⟩⟩
      · gi_wp2_with fail
        go_end0
        exact ⟨⟨_, rfl⟩, .inr ⟨_, by rw [HC.out]; simp, hJ9⟩⟩
    · obtain ⟨fn, tmps, assign, body, hy, hR⟩ := hY [] (48 :: r2) _ h0 (by simp)
      rw [clip_id (by first | omega | (simp; omega))] at hy
      unfold str at hy
      gi_wp2_with fail
      refine hR.mono ?_
      rintro e W5 (⟨rfl, hJ5, hk⟩ | ⟨rfl, hJ5⟩)
      · have K1 := Lib.hid ((hk.2 b1 (.inl rfl)).trans K1.out)
        have K2 := Lib.hid ((hk.2 b2 (.inr (.inl rfl))).trans K2.out)
        have K3 := Lib.hid ((hk.2 b3 (.inr (.inr rfl))).trans K3.out)
        clear hk c1 c2 c3 hR
        have c1 : W5.cell? ⟨b1, 0, none⟩ = some (.string ⟨n.toArray⟩) := by rw [cell_of_row _ _ 0 _ _ _ K1.out]; rfl
        have c2 : W5.cell? ⟨b2, 0, none⟩ = some (.string ⟨c.toArray⟩) := by rw [cell_of_row _ _ 0 _ _ _ K2.out]; rfl
        have c3 : W5.cell? ⟨b3, 0, none⟩ = some (.string ⟨a.toArray⟩) := by rw [cell_of_row _ _ 0 _ _ _ K3.out]; rfl
        obtain ⟨fn, tmps, assign, body, hy, hR⟩ := hY ([] ++ [48 :: r2]) (48 :: 48 :: n) _ hJ5 (by simp)
        rw [clip_id (by first | omega | (simp; omega))] at hy
        unfold str at hy
        gi_wp2_with fail
        refine hR.mono ?_
        rintro e W9 (⟨rfl, hJ9, hk9⟩ | ⟨rfl, hJ9⟩)
        · gi_wp2_with fail
          go_end0
          exact ⟨⟨_, rfl⟩, .inl ⟨_, by rw [HC.out]; simp, hJ9⟩⟩
        · gi_wp2_with fail
          go_end0
          exact ⟨⟨_, rfl⟩, .inr ⟨_, by rw [HC.out]; simp, hJ9⟩⟩
      · gi_wp2_with fail
        try simp only [Exit.inBlock, Exit.then]
        refine bodyPost_ret (results_none rfl _ _ _) rfl ?_
        exact ⟨⟨_, rfl⟩, .inr ⟨_, by rw [HC.out]; simp, hJ5⟩⟩
  · obtain ⟨fn, tmps, assign, body, hy, hR⟩ := hY [] r1 _ h0 (by simp)
    rw [clip_id (by first | omega | (simp; omega))] at hy
    unfold str at hy
    gi_wp2_with fail
    refine hR.mono ?_
    rintro e W4 (⟨rfl, hJ4, hk⟩ | ⟨rfl, hJ4⟩)
    · have K1 := Lib.hid ((hk.2 b1 (.inl rfl)).trans K1.out)
      have K2 := Lib.hid ((hk.2 b2 (.inr (.inl rfl))).trans K2.out)
      have K3 := Lib.hid ((hk.2 b3 (.inr (.inr rfl))).trans K3.out)
      clear hk c1 c2 c3 hR
      have c1 : W4.cell? ⟨b1, 0, none⟩ = some (.string ⟨n.toArray⟩) := by rw [cell_of_row _ _ 0 _ _ _ K1.out]; rfl
      have c2 : W4.cell? ⟨b2, 0, none⟩ = some (.string ⟨c.toArray⟩) := by rw [cell_of_row _ _ 0 _ _ _ K2.out]; rfl
      have c3 : W4.cell? ⟨b3, 0, none⟩ = some (.string ⟨a.toArray⟩) := by rw [cell_of_row _ _ 0 _ _ _ K3.out]; rfl
      gi_wp2_with fail
      refine ⟨trivial, (cutp_in _ n c _ (by simp only [maxLen]; omega) (by simp only [maxLen]; omega) q2 H2.out r2 R2.out).mono ?_⟩
      rintro e w' ⟨rfl, rfl⟩
      unfold str
      cases q2
      · obtain ⟨fn, tmps, assign, body, hy, hR⟩ := hY ([] ++ [r1]) (48 :: 48 :: n) _ hJ4 (by simp)
        rw [clip_id (by first | omega | (simp; omega))] at hy
        unfold str at hy
        gi_wp2_with fail
        try (refine ⟨fun _ h => (by cases h), ?_⟩; gi_wp2_with fail)
        refine hR.mono ?_
        rintro e W9 (⟨rfl, hJ9, hk9⟩ | ⟨rfl, hJ9⟩)
        · gi_wp2_with fail
          go_end0
          exact ⟨⟨_, rfl⟩, .inl ⟨_, by rw [HC.out]; simp, hJ9⟩⟩
        · gi_wp2_with fail
          go_end0
          exact ⟨⟨_, rfl⟩, .inr ⟨_, by rw [HC.out]; simp, hJ9⟩⟩
      · obtain ⟨fn, tmps, assign, body, hy, hR⟩ := hY ([] ++ [r1]) (48 :: r2) _ hJ4 (by simp)
        rw [clip_id (by first | omega | (simp; omega))] at hy
        unfold str at hy
        gi_wp2_with fail
        refine hR.mono ?_
        rintro e W5 (⟨rfl, hJ5, hk⟩ | ⟨rfl, hJ5⟩)
        · have K1 := Lib.hid ((hk.2 b1 (.inl rfl)).trans K1.out)
          have K2 := Lib.hid ((hk.2 b2 (.inr (.inl rfl))).trans K2.out)
          have K3 := Lib.hid ((hk.2 b3 (.inr (.inr rfl))).trans K3.out)
          clear hk c1 c2 c3 hR
          have c1 : W5.cell? ⟨b1, 0, none⟩ = some (.string ⟨n.toArray⟩) := by rw [cell_of_row _ _ 0 _ _ _ K1.out]; rfl
          have c2 : W5.cell? ⟨b2, 0, none⟩ = some (.string ⟨c.toArray⟩) := by rw [cell_of_row _ _ 0 _ _ _ K2.out]; rfl
          have c3 : W5.cell? ⟨b3, 0, none⟩ = some (.string ⟨a.toArray⟩) := by rw [cell_of_row _ _ 0 _ _ _ K3.out]; rfl
          obtain ⟨fn, tmps, assign, body, hy, hR⟩ := hY (([] ++ [r1]) ++ [48 :: r2]) (48 :: 48 :: n) _ hJ5 (by simp)
          rw [clip_id (by first | omega | (simp; omega))] at hy
          unfold str at hy
          gi_wp2_with fail
          refine hR.mono ?_
          rintro e W9 (⟨rfl, hJ9, hk9⟩ | ⟨rfl, hJ9⟩)
          · gi_wp2_with fail
            go_end0
            exact ⟨⟨_, rfl⟩, .inl ⟨_, by rw [HC.out]; simp, hJ9⟩⟩
          · gi_wp2_with fail
            go_end0
            exact ⟨⟨_, rfl⟩, .inr ⟨_, by rw [HC.out]; simp, hJ9⟩⟩
        · gi_wp2_with fail
          try simp only [Exit.inBlock, Exit.then]
          refine bodyPost_ret (results_none rfl _ _ _) rfl ?_
          exact ⟨⟨_, rfl⟩, .inr ⟨_, by rw [HC.out]; simp, hJ5⟩⟩
    · gi_wp2_with fail
      try simp only [Exit.inBlock, Exit.then]
      refine bodyPost_ret (results_none rfl _ _ _) rfl ?_
      exact ⟨⟨_, rfl⟩, .inr ⟨_, by rw [HC.out]; simp, hJ4⟩⟩

end Go.Proofs.Ytblgcefaikoejaa
