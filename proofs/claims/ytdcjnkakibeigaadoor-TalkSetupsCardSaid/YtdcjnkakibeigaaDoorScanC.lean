/-
  The reader: New, Left, Byte, Bytes, Number.
-/
import Derived.Test.YtdcjnkakibeigaaDoorScanB
namespace Go.Proofs.YtdcjnkakibeigaaDoor
open Go.RowKit
set_option linter.unusedVariables false

theorem only_drew1 {a w : World} {row : Option Nat} (h : a.grownBy w row) : a.grownBy w.drew row := ⟨h.os, h.tape, h.output, h.size, h.block⟩
theorem SlB.rd_ {w : World} {B : Nat} {A : Option Addr} {c : Nat} {l : List Int} (h : SlB w B A c l) (hB : B ≤ w.heap.size) : Rd w A l := Reads.more h.rd hB


def leftV (p : List Int) (e : Int) : List Int := if e = 0 then p else []

def byteV (p : List Int) (e : Int) : Int := if e = 0 then p.headD 0 else 0


theorem rd_take8 (p : List Int) : rdS (p.take 8) = rdS p ∧ rdN (p.take 8) = rdN p := by
  match p with
  | [] => exact ⟨rfl, rfl⟩
  | x :: r =>
    have hv := vlen_bd x
    have e : (x :: r).take 8 = x :: r.take 7 := rfl
    rw [e]
    simp only [rdS, rdN, List.length_cons, List.length_take]
    by_cases h : r.length + 1 < vlen x
    · rw [if_pos h, if_pos h, if_pos (by omega), if_pos (by omega)]; exact ⟨rfl, rfl⟩
    · rw [if_neg h, if_neg h, if_neg (by omega), if_neg (by omega), List.take_take, Nat.min_eq_left (by omega)]; exact ⟨rfl, rfl⟩
theorem rdS_le8 (p : List Int) : rdS p ≤ 8 := by
  match p with
  | [] => simp [rdS]
  | x :: r => have := vlen_bd x; simp only [rdS]; split <;> omega
def numN (p : List Int) (e : Int) : Int := if e = 0 ∧ rdS p ≠ 0 then rdN p else 0
def numL (p : List Int) (e : Int) : List Int := if e = 0 then p.drop (rdS p) else p
def numE (p : List Int) (e : Int) : Int := if e = 0 ∧ rdS p = 0 then 2 else e
end Go.Proofs.YtdcjnkakibeigaaDoor
