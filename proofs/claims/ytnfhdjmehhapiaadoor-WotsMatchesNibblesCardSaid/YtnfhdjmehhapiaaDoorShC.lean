/-
  Walks of package sha256: words of bytes, read and stored.
-/
import Derived.Test.YtnfhdjmehhapiaaDoorShB
import Derived.RegionTactic
import Derived.BigRegion
namespace Go.Proofs.YtnfhdjmehhapiaaDoor
open Go.RowKit
set_option linter.unusedVariables false
set_option linter.unusedSimpArgs false

theorem spot_none {w : World} {a : Addr} {v : Value} (h : w.cell? a = some v) : a.spot = none := by
  unfold World.cell? at h
  split at h
  · split at h
    · cases h
    · rename_i hs; simpa using hs
  · cases h

/-- A slice of at least one byte: its address. -/
theorem Bs.addr {w : World} {B : Nat} {v : Value} {l : List UInt8} (h : Bs w B v l) (hl : 0 < l.length) :
    ∃ b o cap, v = .slice (some ⟨b, o, none⟩) l.length cap ∧ b < B ∧ l.length ≤ cap ∧ ∀ i c, l[i]? = some c → w.cell? ⟨b, o + i, none⟩ = some (.int .u8 (c.toNat : Int)) := by
  obtain ⟨A, cap, rfl⟩ := h.form
  obtain ⟨⟨b, o, s⟩, rfl, hb, hc⟩ := Row.at_ h hl
  obtain ⟨c0, hc0⟩ : ∃ c, l[0]? = some c := ⟨_, List.getElem?_eq_getElem hl⟩
  have h0 := hc 0 _ (h.at_ 0 c0 hc0)
  have hs : s = none := by simpa [Addr.add] using spot_none h0
  subst hs
  refine ⟨b, o, cap, rfl, hb, Row.cap h, fun i c hi => ?_⟩
  have := hc i _ (h.at_ i c hi)
  rwa [add_addr] at this

theorem wd_val {a b c d : Nat} (ha : a < 256) (hb : b < 256) (hc : c < 256) (hd : d < 256) :
    bits .or .u32 (bits .or .u32 (bits .or .u32 ((a : Int) * 16777216) ((b : Int) * 65536)) ((c : Int) * 256)) (d : Int) = (Sha.wd a b c d : Int) := by
  rw [show (a : Int) * 16777216 = ((a * 16777216 : Nat) : Int) by omega, show (b : Int) * 65536 = ((b * 65536 : Nat) : Int) by omega, show (c : Int) * 256 = ((c * 256 : Nat) : Int) by omega]
  rw [or_n (by omega) (by omega), or_n (Sha.or_lt (by omega) (by omega)) (by omega), or_n (Sha.or_lt (Sha.or_lt (by omega) (by omega)) (by omega)) (by omega)]; rfl

theorem word_any (v : Value) (a b c d : UInt8) (l : List UInt8) (w : World) (B : Nat) (hv : Bs w B v (a :: b :: c :: d :: l)) :
    Calls Tryd.prog 64 #[v] w fun e w' => e = .returned (.int .u32 (Sha.wd a.toNat b.toNat c.toNat d.toNat)) ∧ ∃ n, w' = w.drewN n := by
  obtain ⟨g, o, cap, rfl, hg, hcap, hc⟩ := hv.addr (by simp)
  have c0 : w.cell? ⟨g, o, none⟩ = some (.int .u8 (a.toNat : Int)) := hc 0 a rfl
  have c1 := hc 1 b rfl
  have c2 := hc 2 c rfl
  have c3 := hc 3 d rfl
  have ha := a.toNat_lt
  have hb := b.toNat_lt
  have hc' := c.toNat_lt
  have hd := d.toNat_lt
  have R := Lib.hid (wd_val ha hb hc' hd)
  obtain ⟨n, hn⟩ : ∃ n, n = (a :: b :: c :: d :: l).length := ⟨_, rfl⟩
  have hn4 : 4 ≤ n := by rw [hn]; simp
  rw [← hn]
  clear hn hc hv hcap
  have q0 : 0 < n := by omega
  have q1 : (1 : Int) < (n : Int) := by omega
  have q2 : (2 : Int) < (n : Int) := by omega
  have q3 : (3 : Int) < (n : Int) := by omega
  go_enter Tryd.func64, Tryd.ntmps64
  go_wp2
  go_quiet (fail)
  go_wp2
  go_ret
  exact ⟨ret_u32 R.out, _, rfl⟩

theorem u8s_set (l : List UInt8) (i : Nat) (b : UInt8) : u8s (l.set i b) = (u8s l).set i (u8 b) := by simp [u8s, List.map_set]
theorem u8_b8 (n : Nat) : u8 (Sha.b8 n) = .int .u8 ((n % 256 : Nat) : Int) := by unfold u8; rw [Sha.b8_nat]
/-- Four bytes of l, from o on, turned. -/
def put4 (l : List UInt8) (o x : Nat) : List UInt8 := (((l.set o (Sha.b8 (x / 16777216))).set (o + 1) (Sha.b8 (x / 65536))).set (o + 2) (Sha.b8 (x / 256))).set (o + 3) (Sha.b8 x)

set_option maxHeartbeats 1000000 in
theorem putWord_nat (g o n cap x : Nat) (t : TypeId) (l : List UInt8) (w : World) (hg : Blk w g t (u8s l)) (ho : o + 4 ≤ l.length) (hn : 4 ≤ n) (hx : x < 4294967296) :
    Calls Tryd.prog 59 #[.slice (some ⟨g, o, none⟩) n cap, .int .u32 x] w fun e w' => (∃ v, e = .returned v) ∧ Blk w' g t (u8s (put4 l o x)) ∧ Keep (fun k => k ≠ g) w w' := by
  have hc : ∀ j, j < l.length → ∃ u, w.cell? ⟨g, j, none⟩ = some u := fun j hj => ⟨_, hg.cell (List.getElem?_eq_getElem (by rw [u8s_length]; exact hj))⟩
  obtain ⟨u0, c0⟩ := hc o (by omega)
  obtain ⟨u1, c1⟩ := hc (o + 1) (by omega)
  obtain ⟨u2, c2⟩ := hc (o + 2) (by omega)
  obtain ⟨u3, c3⟩ := hc (o + 3) (by omega)
  have f0 := hg.frozen o
  have f1 := hg.frozen (o + 1)
  have f2 := hg.frozen (o + 2)
  have f3 := hg.frozen (o + 3)
  have q0 : 0 < n := by omega
  have q1 : (1 : Int) < (n : Int) := by omega
  have q2 : (2 : Int) < (n : Int) := by omega
  have q3 : (3 : Int) < (n : Int) := by omega
  clear hc
  go_enter Tryd.func59, Tryd.ntmps59
  go_wp2
  go_end0
  refine ⟨⟨_, rfl⟩, ?_, ?_⟩
  · have h4 := (((hg.set o (u8 (Sha.b8 (x / 16777216)))).set (o + 1) (u8 (Sha.b8 (x / 65536)))).set (o + 2) (u8 (Sha.b8 (x / 256)))).set (o + 3) (u8 (Sha.b8 x))
    rw [← u8s_set, ← u8s_set, ← u8s_set, ← u8s_set] at h4
    rw [u8_b8, u8_b8, u8_b8, u8_b8] at h4
    have e0 : ((x / 16777216 % 256 : Nat) : Int) = (x : Int) / 16777216 := by omega
    have e1 : ((x / 65536 % 256 : Nat) : Int) = (x : Int) / 65536 % 256 := by omega
    have e2 : ((x / 256 % 256 : Nat) : Int) = (x : Int) / 256 % 256 := by omega
    have e3 : ((x % 256 : Nat) : Int) = (x : Int) % 256 := by omega
    rw [e0, e1, e2, e3] at h4
    exact h4
  · exact (((Keep.setCell _ _ _ (fun h => h rfl)).trans (Keep.setCell _ _ _ (fun h => h rfl))).trans (Keep.setCell _ _ _ (fun h => h rfl))).trans (Keep.setCell _ _ _ (fun h => h rfl))

theorem putWord_any (g o n cap x : Nat) (I : Int) (t : TypeId) (l : List UInt8) (w : World) (hg : Blk w g t (u8s l)) (ho : o + 4 ≤ l.length) (hn : 4 ≤ n) (hx : x < 4294967296) (hI : I = (x : Int)) :
    Calls Tryd.prog 59 #[.slice (some ⟨g, o, none⟩) n cap, .int .u32 I] w fun e w' => (∃ v, e = .returned v) ∧ Blk w' g t (u8s (put4 l o x)) ∧ Keep (fun k => k ≠ g) w w' := by
  subst hI
  exact putWord_nat g o n cap x t l w hg ho hn hx

theorem put4_mid (p q : List UInt8) (a b c d : UInt8) (x : Nat) : put4 (p ++ a :: b :: c :: d :: q) p.length x = p ++ Sha.be4 x ++ q := by
  unfold put4 Sha.be4
  rw [List.set_append_right (h := Nat.le_refl _), List.set_append_right (h := by omega), List.set_append_right (h := by omega), List.set_append_right (h := by omega)]
  simp
end Go.Proofs.YtnfhdjmehhapiaaDoor
