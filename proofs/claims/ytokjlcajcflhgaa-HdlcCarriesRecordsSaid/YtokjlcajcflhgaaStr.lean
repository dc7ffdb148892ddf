/-
  Streams of frames.
-/
import Derived.Test.YtokjlcajcflhgaaFrm
namespace Go.Proofs.Ytokjlcajcflhgaa

/-- A frame behind a stream; sh: it shares its first flag with the stream's last. -/
def strm1 (sh : Bool) (acc x : List UInt8) : List UInt8 := acc ++ (if (sh && decide (0 < acc.length)) = true then (frm x (fcsN x)).drop 1 else frm x (fcsN x))
def strm (sh : Bool) (ls : List (List UInt8)) : List UInt8 := ls.foldl (strm1 sh) []
theorem strm_take {sh : Bool} {ls : List (List UInt8)} {k : Nat} {x : List UInt8} (h : ls[k]? = some x) : strm sh (ls.take (k + 1)) = strm1 sh (strm sh (ls.take k)) x := by
  unfold strm
  rw [List.take_add_one, h, List.foldl_append]
  rfl
/-- The stream ends in a flag, and reads as done. -/
def Reads (acc : List UInt8) (done : List (List UInt8)) : Prop := (acc = [] ∧ done = []) ∨ ((∃ X, acc = X ++ [126]) ∧ scanP acc = done)

theorem reads_new (x : List UInt8) (hx : x.length ≤ 4096) : Reads (frm x (fcsN x)) [x] := by
  refine Or.inr ⟨⟨126 :: stuff (x ++ tail2 (fcsN x)), by simp [frm]⟩, ?_⟩
  unfold scanP frm
  have : cont (126 :: (stuff (x ++ tail2 (fcsN x)) ++ [126])) = cts [] (stuff (x ++ tail2 (fcsN x)) ++ 126 :: []) := by simp [cont]
  rw [this, scan_frame x hx]
  rfl
theorem reads_step {sh : Bool} {acc x : List UInt8} {done : List (List UInt8)} (h : Reads acc done) (hx : x.length ≤ 4096) : Reads (strm1 sh acc x) (done ++ [x]) := by
  rcases h with ⟨rfl, rfl⟩ | ⟨⟨X, rfl⟩, hs⟩
  · have e : strm1 sh [] x = frm x (fcsN x) := by simp [strm1]
    rw [e]; exact reads_new x hx
  · unfold scanP at hs
    have e1 : (frm x (fcsN x)).drop 1 = stuff (x ++ tail2 (fcsN x)) ++ 126 :: [] := by simp [frm]
    cases sh with
    | true =>
      have e : strm1 true (X ++ [126]) x = X ++ 126 :: (stuff (x ++ tail2 (fcsN x)) ++ 126 :: []) := by
        unfold strm1
        rw [if_pos (by simp), e1]; simp
      rw [e]
      refine Or.inr ⟨⟨X ++ 126 :: stuff (x ++ tail2 (fcsN x)), by simp⟩, ?_⟩
      unfold scanP
      rw [cont_more, List.filterMap_append, hs, scan_frame x hx]
      rfl
    | false =>
      have e : strm1 false (X ++ [126]) x = X ++ 126 :: (126 :: (stuff (x ++ tail2 (fcsN x)) ++ 126 :: [])) := by
        unfold strm1
        rw [if_neg (by simp)]; simp [frm]
      rw [e]
      refine Or.inr ⟨⟨X ++ 126 :: (126 :: stuff (x ++ tail2 (fcsN x))), by simp⟩, ?_⟩
      unfold scanP
      have e2 : cts [] (126 :: (stuff (x ++ tail2 (fcsN x)) ++ 126 :: [])) = [] :: cts [] (stuff (x ++ tail2 (fcsN x)) ++ 126 :: []) := by simp [cts]
      rw [cont_more, List.filterMap_append, hs, e2, List.filterMap_cons, dcd_nil]
      show done ++ _ = _
      rw [scan_frame x hx]
      rfl
theorem reads_foldl {sh : Bool} : ∀ (ls : List (List UInt8)) (acc : List UInt8) (done : List (List UInt8)), (∀ x ∈ ls, x.length ≤ 4096) → Reads acc done → Reads (ls.foldl (strm1 sh) acc) (done ++ ls)
  | [], acc, done, _, h => by simpa using h
  | x :: ls, acc, done, hl, h => by
    have h1 := reads_foldl (sh := sh) ls (strm1 sh acc x) (done ++ [x]) (fun y hy => hl y (by simp [hy])) (reads_step h (hl x (by simp)))
    rw [List.append_assoc] at h1
    exact h1
theorem reads_strm (sh : Bool) (ls : List (List UInt8)) (hl : ∀ x ∈ ls, x.length ≤ 4096) : scanP (strm sh ls) = ls ∧ lastF (strm sh ls) = (strm sh ls).length - 1 := by
  have h := reads_foldl (sh := sh) ls [] [] hl (Or.inl ⟨rfl, rfl⟩)
  rw [List.nil_append] at h
  rcases h with ⟨h1, h2⟩ | ⟨⟨X, h1⟩, h2⟩
  · unfold strm
    rw [h1, h2]
    exact ⟨rfl, rfl⟩
  · refine ⟨h2, ?_⟩
    unfold strm
    rw [h1, show X ++ [126] = X ++ 126 :: [] from rfl, lastF_flag X Bare.nil]
    simp
theorem strm1_length (sh : Bool) (acc x : List UInt8) : (strm1 sh acc x).length ≤ acc.length + 2 * x.length + 6 := by
  have h := (frm_length x (fcsN x)).2
  unfold strm1
  rw [List.length_append]
  split
  · rw [List.length_drop]; omega
  · omega
end Go.Proofs.Ytokjlcajcflhgaa
