/-
  Words out of a row of bytes that is read, and what a message adds to the authenticator.
-/
import Derived.Test.YtpedajjmbdjfiaaPolyJ
namespace Go.Proofs.Ytpedajjmbdjfiaa
open Go.RowKit
set_option linter.unusedVariables false

theorem word_rd {w : World} {g off : Nat} {l : List Int} (hr : Rd w (some ⟨g, off, none⟩) l) (hB : Bytes l) (o n c : Nat) (hn : 4 ≤ n) (hm : n ≤ 9223372036854775807) (hl : o + 4 ≤ l.length) :
    Calls Try.prog 25 #[.slice (some ⟨g, off + o, none⟩) n c] w fun e w' => e = .returned (.int .u32 (w4 l o)) ∧ ∃ k, w' = w.drewN k := by
  have get : ∀ i, i < 4 → w.cell? ⟨g, off + o + i, none⟩ = some (.int .u8 (l.getD (o + i) 0)) := fun i hi => by
    have h := hr.cell (j := o + i) (x := l.getD (o + i) 0) (by rw [List.getD_eq_getElem?_getD, List.getElem?_eq_getElem (show o + i < l.length by omega)]; rfl)
    rw [Nat.add_assoc]
    exact h
  have h0 := get 0 (by omega)
  rw [Nat.add_zero] at h0
  exact word32_any g (off + o) n c _ _ _ _ w hn hm h0 (get 1 (by omega)) (get 2 (by omega)) (get 3 (by omega)) (getD_byte hB _) (getD_byte hB _) (getD_byte hB _) (getD_byte hB _)
theorem rd_heap {w W : World} (h : W.heap = w.heap) {A : Option Addr} {l : List Int} (hr : Rd w A l) : Rd W A l := by
  have k : Reads w w.heap.size 1 A l.length (U8 l) := hr
  have k' : Reads W w.heap.size 1 A l.length (U8 l) := k.keep fun p hp => by unfold World.cell? ; rw [h]
  exact k'.more (by rw [h]; exact Nat.le_refl _)
theorem word64_rd {w : World} {g off : Nat} {l : List Int} (hr : Rd w (some ⟨g, off, none⟩) l) (hB : Bytes l) (o n c : Nat) (hn : 8 ≤ n) (hc : n ≤ c) (hm : c ≤ 9223372036854775807) (hl : o + 8 ≤ l.length) :
    Calls Try.prog 37 #[.slice (some ⟨g, off + o, none⟩) n c] w fun e w' => e = .returned (.int .u64 (w8 l o)) ∧ ∃ k, w' = w.drewN k :=
  word64_any g (off + o) n c _ _ w hn hc hm (w4_ok hB _) (w4_ok hB _)
    (fun W hW => word_rd (rd_heap hW hr) hB o n c (by omega) (by omega) (by omega))
    (fun W hW => by rw [Nat.add_assoc]; exact word_rd (rd_heap hW hr) hB (o + 4) (n - 4) (c - 4) (by omega) (by omega) (by omega))

/-- A block of sixteen bytes at a place, as a number. -/
def blkN (l : List Int) (o : Nat) : Nat := (w8 l o).toNat + (w8 l (o + 8)).toNat * 18446744073709551616
/-- The accumulator behind k whole blocks of a message. -/
def absB (r acc : Nat) (l : List Int) : Nat → Nat
  | 0 => acc
  | k + 1 => (absB r acc l k + (blkN l (16 * k) + 340282366920938463463374607431768211456)) * r
/-- The last block of a message that does not fill it. -/
def lastB (l : List Int) : List Int := l ++ 1 :: List.replicate (15 - l.length) 0
/-- The accumulator behind a whole message. -/
def absorb (r acc : Nat) (l : List Int) : Nat :=
  if l.length % 16 = 0 then absB r acc l (l.length / 16) else (absB r acc l (l.length / 16) + blkN (lastB (l.drop (16 * (l.length / 16)))) 0) * r
theorem w8_drop (l : List Int) (k o : Nat) : w8 (l.drop k) o = w8 l (k + o) := by
  simp only [w8, w4, List.getD_eq_getElem?_getD, List.getElem?_drop, Nat.add_assoc]
theorem w8_nat {l : List Int} (hB : Bytes l) (o : Nat) : ((w8 l o).toNat : Int) = w8 l o ∧ (w8 l o).toNat < 18446744073709551616 := by
  have h := w8_ok hB o
  omega
end Go.Proofs.Ytpedajjmbdjfiaa
