/-
  Walks of package bytes: IndexByte, LastIndexByte, Index and Cut at a separator of one byte, the flag.
-/
import Derived.Test.YtokjlcajcflhgaaHdB
import Derived.Lib.BytesEntry
namespace Go.Proofs.Ytokjlcajcflhgaa
open Go.RowKit
set_option linter.unusedVariables false
set_option linter.unusedSimpArgs false

/-- The index of the first flag, or -1. -/
def idx (l : List UInt8) : Int := if fi l < l.length then (fi l : Int) else -1
theorem idx_eq : ∀ l : List UInt8, Lib.indexByte l 126 = idx l
  | [] => rfl
  | c :: l => by
    have ih := idx_eq l
    have hL : Lib.indexByte (c :: l) 126 = if (c == 126) = true then 0 else if (Lib.indexByte l 126 == -1) = true then -1 else Lib.indexByte l 126 + 1 := rfl
    rw [hL, ih]
    by_cases hc : c = 126
    · subst hc; rfl
    · have hb : ¬ (c == (126 : UInt8)) = true := by simpa using hc
      have hf : fi (c :: l) = fi l + 1 := by show (if c = 126 then 0 else fi l + 1) = _; rw [if_neg hc]
      have hg : idx (c :: l) = if fi l + 1 < l.length + 1 then ((fi l + 1 : Nat) : Int) else -1 := by unfold idx; rw [hf]; rfl
      rw [if_neg hb, hg]
      by_cases h : fi l < l.length
      · have hi : idx l = (fi l : Int) := by unfold idx; rw [if_pos h]
        rw [hi, if_neg (by simp), if_pos (by omega)]; rfl
      · have hi : idx l = -1 := by unfold idx; rw [if_neg h]
        rw [hi, if_pos (by rfl), if_neg (by omega)]

theorem bytes_back (l : List UInt8) : Lib.bytesOf (l.map fun b => (b.toNat : Int)) = l := by
  unfold Lib.bytesOf
  rw [List.map_map]
  have : ((fun n : Int => n.toNat.toUInt8) ∘ fun b : UInt8 => (b.toNat : Int)) = id := by funext b; simp
  first | (rw [this]; simp) | simp

theorem run_index {w : World} {B : Nat} {A : Option Addr} {cap : Nat} {l : List UInt8} (h : Bs w B (.slice A l.length cap) l) :
    (Extern.BytealgIndexByte.indexByte #[.slice A l.length cap, .int .u8 126]).run Try.prog w = .ok (.int .i64 (idx l)) w := by
  rw [← idx_eq]
  cases A with
  | none =>
    obtain ⟨A', cap', hv, h1, _, h3, _⟩ := h
    injection hv with e1 _ e2
    subst e1 e2
    have hc := h3 rfl
    have : l = [] := by cases l <;> simp_all
    subst this
    exact Lib.run_indexByteNil w 0 cap 126
  | some a =>
    have hl := Lib.run_loadBytesX (P := Try.prog) w (l.map fun b => (b.toNat : Int)) a .empty (fun j x hj => by
      refine Row.cells h j _ ?_
      rw [List.getElem?_map] at hj
      obtain ⟨b, hb, rfl⟩ := Option.map_eq_some_iff.1 hj
      simp [u8s, u8, hb])
    rw [List.length_map, bytes_back] at hl
    have hs := Lib.run_indexByteString (P := Try.prog) ⟨l.toArray⟩ 126 w
    have he : (⟨ByteArray.empty.data ++ l.toArray⟩ : ByteArray) = ⟨l.toArray⟩ := by
      apply ByteArray.ext
      show (#[] : Array UInt8) ++ l.toArray = l.toArray
      simp
    rw [he] at hl
    change Sem.run Try.prog (do
      let b ← Extern.Bytes.bytesOf (.slice (some a) l.length cap)
      let c ← Extern.Bytes.asByte (.int .u8 126)
      match (List.range b.size).find? fun i => b[i]! == c with
      | some i => pure (goInt i)
      | none => pure (goInt (-1))) w = _
    change Sem.run Try.prog (do
      let b ← Extern.Bytes.bytesOf (.string ⟨l.toArray⟩)
      let c ← Extern.Bytes.asByte (.int .u8 126)
      match (List.range b.size).find? fun i => b[i]! == c with
      | some i => pure (goInt i)
      | none => pure (goInt (-1))) w = _ at hs
    simp only [Extern.Bytes.bytesOf, Sem.run_bind, Sem.run_pure, hl, Result.andThen] at hs ⊢
    exact hs

theorem run_native {w : World} {B : Nat} {A : Option Addr} {cap : Nat} {l : List UInt8} (h : Bs w B (.slice A l.length cap) l) :
    (callFunc 50 #[.slice A l.length cap, .int .u8 126]).run Try.prog w = .ok (.value (.int .i64 (idx l))) w := by
  rw [run_callFunc_extern Try.func50 (by kernel_rfl) (by kernel_rfl) (by kernel_rfl) (e := Extern.BytealgIndexByte.indexByte) (by kernel_rfl), run_index h]
  rfl

theorem indexByte_any (A : Option Addr) (cap : Nat) (l : List UInt8) (w : World) (B : Nat) (hv : Bs w B (.slice A l.length cap) l) :
    Calls Try.prog 36 #[.slice A l.length cap, .int .u8 126] w fun e w' => e = .returned (.int .i64 (idx l)) ∧ w = w' := by
  have hr := run_native hv
  go_enter Try.func36, Try.ntmps36
  go_wp2
  go_ret
  exact ⟨rfl, rfl⟩

/-- The offset of the last flag, or -1. -/
def lidx (l : List UInt8) : Int := if lastF l < l.length then (lastF l : Int) else -1
theorem lidx_step {l : List UInt8} {k : Nat} (hk : k < l.length) (hc : l[k]? = some 126) (hb : Bare (l.drop (k + 1))) : lastF l = k := by
  have h : l = l.take k ++ 126 :: l.drop (k + 1) := by
    have h2 : l.drop k = 126 :: l.drop (k + 1) := by
      rw [List.drop_eq_getElem_cons hk]
      congr 1
      exact (List.getElem?_eq_some_iff.1 hc).2
    rw [← h2, List.take_append_drop]
  have := lastF_flag (l.take k) hb
  rw [← h] at this
  rw [this]; simp; omega
theorem lidx_none {l : List UInt8} (hb : Bare l) : lidx l = -1 := by
  unfold lidx; rw [lastF_bare hb, if_neg (by omega)]

set_option maxHeartbeats 400000 in
theorem lastNative_any (A : Option Addr) (cap : Nat) (l : List UInt8) (w : World) (B : Nat) (hv : Bs w B (.slice A l.length cap) l) (hl : l.length ≤ 1000000000) :
    Calls Try.prog 47 #[.slice A l.length cap, .int .u8 126] w fun e w' => e = .returned (.int .i64 (lidx l)) ∧ w = w' := by
  go_enter Try.func47, Try.ntmps47
  go_wp2
  go_loop [5] (fun i => ∃ k : Nat, i = .int .i64 ((k : Int) - 1) ∧ k ≤ l.length ∧ Bare (l.drop k)) (fun i => (intOf i + 1).toNat)
  case atStart => exact ⟨l.length, rfl, Nat.le_refl _, by rw [List.drop_length]; exact Bare.nil⟩
  case round =>
    obtain ⟨k, rfl, hk, hb⟩ := hrel
    by_cases h0 : k = 0
    · subst h0
      have HB := Lib.hid (lidx_none (by simpa using hb))
      go_wp2
      go_ret
      exact ⟨by rw [HB.out]; rfl, rfl⟩
    · obtain ⟨j, rfl⟩ : ∃ j, k = j + 1 := ⟨k - 1, by omega⟩
      have hj : ((j + 1 : Nat) : Int) - 1 = (j : Int) := by omega
      rw [hj]
      obtain ⟨c, hc⟩ : ∃ c, l[j]? = some c := ⟨_, List.getElem?_eq_getElem (by omega)⟩
      have hjl : j < l.length := by omega
      clear hj h0
      by_cases hf : c = 126
      · subst hf
        have HB := Lib.hid (show lidx l = (j : Int) by unfold lidx; rw [lidx_step hjl hc hb, if_pos hjl])
        go_wp2_with (refine wp_at 22 5 Try.underlying22 size_u8 (.tmp 13) (.tmp 14) rfl rfl rfl hv _ _ j _ rfl rfl (hv.at_ j 126 hc) ?_; intro p hp hcell)
        go_ret
        exact ⟨by rw [HB.out]; rfl, rfl⟩
      · have hne : ((c.toNat : Int) == 126) = false := toNat_ne (n := 126) (by omega) hf
        have hb2 : Bare (l.drop j) := by
          rw [List.drop_eq_getElem_cons hjl]
          have e := (List.getElem?_eq_some_iff.1 hc).2
          rw [e]
          intro d hd
          rcases List.mem_cons.1 hd with rfl | hd
          · exact hf
          · exact hb d hd
        clear hf
        go_wp2_with (refine wp_at 22 5 Try.underlying22 size_u8 (.tmp 13) (.tmp 14) rfl rfl rfl hv _ _ j _ rfl rfl (hv.at_ j c hc) ?_; intro p hp hcell)
        go_round
        case rel => exact ⟨j, rfl, by omega, hb2⟩
        case measure => simp [intOf]

theorem lastIndexByte_any (A : Option Addr) (cap : Nat) (l : List UInt8) (w : World) (B : Nat) (hv : Bs w B (.slice A l.length cap) l) (hl : l.length ≤ 1000000000) :
    Calls Try.prog 30 #[.slice A l.length cap, .int .u8 126] w fun e w' => e = .returned (.int .i64 (lidx l)) ∧ w = w' := by
  go_enter Try.func30, Try.ntmps30
  go_wp2_with fail
  refine (lastNative_any A cap l _ B hv hl).mono ?_
  rintro e w' ⟨rfl, rfl⟩
  go_wp2_with fail
  go_ret
  exact ⟨rfl, rfl⟩

set_option maxRecDepth 100000 in
set_option maxHeartbeats 400000 in
theorem index_any (A : Option Addr) (cap : Nat) (l : List UInt8) (S : Addr) (c2 : Nat) (w : World) (B : Nat) (hv : Bs w B (.slice A l.length cap) l) (hs : w.cell? S = some (.int .u8 126)) :
    Calls Try.prog 53 #[.slice A l.length cap, .slice (some S) 1 c2] w fun e w' => e = .returned (.int .i64 (idx l)) ∧ w = w' := by
  obtain ⟨b, off, sp⟩ := S
  go_enter Try.func53, Try.ntmps53
  go_wp2_with fail
  refine (indexByte_any A cap l _ B hv).mono ?_
  rintro e w' ⟨rfl, rfl⟩
  go_wp2_with fail
  go_ret
  exact ⟨rfl, rfl⟩

/-- The slice behind the first k bytes. -/
def behind (A : Option Addr) (n cap k : Nat) : Value := .slice (if cap = k then A else A.map (·.add k)) (n - k) (cap - k)
/-- 'x[k:]': where it lies. -/
theorem exec_from {o : Oper} {a : Act} (w : World) {x lo : Operand} (ho : o.op = .slice 22 x (some lo) none none) {n cap : Nat} {A : Option Addr} (hx : a.eval x = .slice A n cap)
    (k : Nat) (q : IntKind) (I : Int) (hlo : a.eval lo = .int q I) (hI : I = (k : Int)) (hk : k ≤ n) (hn : n ≤ cap) {v : Value} (hv : v = behind A n cap k) :
    (execOp a.eval o).run Try.prog w = .ok (.value v) w := by
  subst hI hv
  have ht := Try.underlying22
  have hel : Try.prog.elem 22 = 5 := by simp [Program.elem, ht]
  have ht' : Try.prog.underlying 22 = some (.slice (Try.prog.elem 22)) := by rw [hel]; exact ht
  obtain ⟨info, hin, hsz⟩ := Option.map_eq_some_iff.1 size_u8
  have hrun : (Instr.sliceAt 22 (.slice A n cap) (some (.int q k)) none none).run Try.prog w = .ok (sliced A k n cap 1) w := by
    rw [run_sliceAt_slice (h := ht'), run_slice_l (ht := ht') (h0 := by omega) (h1 := by omega)]
    simp [hel, sizeOf, typeInfo, hin, hsz, Result.andThen]
  unfold execOp
  simp only [ho, hx, hlo, Option.map_none, Option.map_some, Sem.run_bind, Sem.run_pure, Result.andThen_ok, hrun]
  simp [sliced, behind, Sem.run_pure]
/-- 'x[:k]' -/
theorem exec_to {o : Oper} {a : Act} (w : World) {x hi : Operand} (ho : o.op = .slice 22 x none (some hi) none) {n : Nat} {A : Option Addr} {cap : Nat} (hx : a.eval x = .slice A n cap)
    (k : Nat) (q : IntKind) (I : Int) (hhi : a.eval hi = .int q I) (hI : I = (k : Int)) (hk : k ≤ n) (hn : n ≤ cap) :
    (execOp a.eval o).run Try.prog w = .ok (.value (.slice A k cap)) w := by
  subst hI
  have ht := Try.underlying22
  have hel : Try.prog.elem 22 = 5 := by simp [Program.elem, ht]
  have ht' : Try.prog.underlying 22 = some (.slice (Try.prog.elem 22)) := by rw [hel]; exact ht
  obtain ⟨info, hin, hsz⟩ := Option.map_eq_some_iff.1 size_u8
  have hs : sliced A 0 k cap 1 = .slice A k cap := by
    have : A.map (fun y => y.add 0) = A := by cases A <;> simp [Addr.add]
    unfold sliced; simp [this]
  have hrun : (Instr.sliceAt 22 (.slice A n cap) none (some (.int q k)) none).run Try.prog w = .ok (.slice A k cap) w := by
    rw [run_sliceAt_slice (h := ht'), run_slice_h (ht := ht') (h0 := by omega) (h2 := by omega)]
    simp [hel, sizeOf, typeInfo, hin, hsz, Result.andThen, hs]
  unfold execOp
  simp only [ho, hx, hhi, Option.map_none, Option.map_some, Sem.run_bind, Sem.run_pure, Result.andThen_ok, hrun]

theorem Bs.take_ {w : World} {B : Nat} {A : Option Addr} {cap : Nat} {l : List UInt8} (h : Bs w B (.slice A l.length cap) l) (k : Nat) (hk : k ≤ l.length) : Bs w B (.slice A k cap) (l.take k) := by
  have hl : (l.take k).length = k := by simp; omega
  have h2 : Bs w B (.slice A (l.take k ++ l.drop k).length cap) (l.take k ++ l.drop k) := by rw [List.take_append_drop]; exact h
  have h3 := h2.to
  rw [hl] at h3
  exact h3
theorem Bs.behind {w : World} {B : Nat} {A : Option Addr} {cap : Nat} {l : List UInt8} (h : Bs w B (.slice A l.length cap) l) (k : Nat) (hk : k ≤ l.length) : Bs w B (behind A l.length cap k) (l.drop k) := by
  have h1 := Row.cut h hk (Nat.le_refl _)
  unfold Bs
  rw [List.length_drop]
  have e : (List.take ((l.length - k) * 1) (List.drop (k * 1) (u8s l))) = u8s (l.drop k) := by
    rw [Nat.mul_one, Nat.mul_one]
    unfold u8s
    rw [← List.map_drop, List.take_of_length_le (by simp)]
  rw [e] at h1
  simpa [Go.Proofs.Ytokjlcajcflhgaa.behind] using h1

set_option maxRecDepth 100000 in
set_option maxHeartbeats 800000 in
theorem cut_yes (A : Option Addr) (cap : Nat) (l : List UInt8) (S : Addr) (c2 : Nat) (w : World) (B : Nat) (hv : Bs w B (.slice A l.length cap) l) (hs : w.cell? S = some (.int .u8 126)) (hl : l.length ≤ 1000000000) (hf : fi l < l.length) :
    Calls Try.prog 52 #[.slice A l.length cap, .slice (some S) 1 c2] w fun e w' => e = .returned (.tuple #[.slice A (fi l) cap, behind A l.length cap (fi l + 1), .bool true]) ∧ ∃ n, w' = w.drewN n := by
  have hcap := Row.cap hv
  have hi : idx l = (fi l : Int) := by unfold idx; rw [if_pos hf]
  have HI := Lib.hid hi
  obtain ⟨k, hk⟩ : ∃ k, k = fi l := ⟨_, rfl⟩
  rw [← hk] at hf ⊢
  have HK := Lib.hid hk
  obtain ⟨v2, hv2⟩ : ∃ v, v = behind A l.length cap (k + 1) := ⟨_, rfl⟩
  rw [← hv2]
  have HV2 := Lib.hid hv2
  clear hi hk hv2
  go_enter Try.func52, Try.ntmps52
  go_wp2_with fail
  refine (index_any A cap l S c2 _ B hv hs).mono ?_
  rintro e w' ⟨rfl, rfl⟩
  rw [HI.out, ← HK.out]
  go_wp2_with fail
  refine wp_region_plan ((0, true) :: (1, true) :: (2, true) :: (3, true) :: (4, true) :: (5, true) :: (6, true) :: (7, true) :: (8, true) :: (9, true) :: (10, true) :: (11, true) :: []) (by kernel_rfl) (by kernel_rfl) (by kernel_rfl) rfl (fun _ _ h => h) ?_
  iterate 2 (first | refine plan_skip rfl rfl rfl rfl ?_ | (refine plan_take rfl rfl rfl rfl ?_; apply Exists.intro; refine ⟨fun w' hw' => ?_, ?_⟩; focus (go_wp2; exact ⟨rfl, rfl, rfl⟩)))
  refine plan_take rfl rfl rfl rfl ?_
  apply Exists.intro
  refine ⟨fun w' hw' => ?_, ?_⟩
  · refine wp_run rfl (exec_to _ rfl rfl k _ _ rfl rfl (by omega) hcap) ?_
    exact ⟨rfl, rfl, rfl⟩
  iterate 5 (first | refine plan_skip rfl rfl rfl rfl ?_ | (refine plan_take rfl rfl rfl rfl ?_; apply Exists.intro; refine ⟨fun w' hw' => ?_, ?_⟩; focus (go_wp2; exact ⟨rfl, rfl, rfl⟩)))
  refine plan_take rfl rfl rfl rfl ?_
  apply Exists.intro
  refine ⟨fun w' hw' => ?_, ?_⟩
  · refine wp_run rfl (exec_from _ rfl rfl (k + 1) _ _ rfl (by push_cast; rfl) (by omega) hcap HV2.out) ?_
    exact ⟨rfl, rfl, rfl⟩
  iterate 3 (first | refine plan_skip rfl rfl rfl rfl ?_ | (refine plan_take rfl rfl rfl rfl ?_; apply Exists.intro; refine ⟨fun w' hw' => ?_, ?_⟩; focus (go_wp2; exact ⟨rfl, rfl, rfl⟩)))
  show Exit.then _ _ _ _ _
  go_wp2_with fail
  go_ret3
  exact ⟨rfl, _, rfl⟩

set_option maxRecDepth 100000 in
set_option maxHeartbeats 400000 in
theorem cut_no (A : Option Addr) (cap : Nat) (l : List UInt8) (S : Addr) (c2 : Nat) (w : World) (B : Nat) (hv : Bs w B (.slice A l.length cap) l) (hs : w.cell? S = some (.int .u8 126)) (hf : ¬ fi l < l.length) :
    Calls Try.prog 52 #[.slice A l.length cap, .slice (some S) 1 c2] w fun e w' => e = .returned (.tuple #[.slice A l.length cap, .slice none 0 0, .bool false]) ∧ w = w' := by
  have hi : idx l = -1 := by unfold idx; rw [if_neg hf]
  have HI := Lib.hid hi
  clear hi
  go_enter Try.func52, Try.ntmps52
  go_wp2_with fail
  refine (index_any A cap l S c2 _ B hv hs).mono ?_
  rintro e w' ⟨rfl, rfl⟩
  rw [HI.out]
  go_wp2_with fail
  go_ret3
  exact ⟨rfl, rfl⟩
end Go.Proofs.Ytokjlcajcflhgaa
