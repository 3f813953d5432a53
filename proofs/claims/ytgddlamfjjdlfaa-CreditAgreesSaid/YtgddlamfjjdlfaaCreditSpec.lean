/-
  A purse and a till, as plain numbers.
-/
import Derived.Test.YtgddlamfjjdlfaaWords
namespace Go.Proofs.Ytgddlamfjjdlfaa
set_option linter.unusedVariables false

/-- What a number counts as. -/
def topN (n : Int) : Int := min n 4611686018427387903
theorem topN_ok {n : Int} (h : 0 ≤ n) : 0 ≤ topN n ∧ topN n ≤ 4611686018427387903 := by unfold topN; omega
structure PU where
  li : Int
  sp : Int
def PuOk (p : PU) : Prop := 0 ≤ p.sp ∧ p.sp ≤ p.li ∧ p.li ≤ 4611686018427387903
def puN (n : Int) : PU := ⟨topN n, 0⟩
theorem puN_ok {n : Int} (h : 0 ≤ n) : PuOk (puN n) := by unfold PuOk puN topN; simp only; omega
def pGrant (p : PU) (n : Int) : PU × Bool := if topN n ≤ p.li then (p, false) else (⟨topN n, p.sp⟩, true)
def pSpend (p : PU) (n : Int) : PU × Int := if p.li - p.sp < n then (p, 12) else (⟨p.li, p.sp + n⟩, 0)
theorem pGrant_ok {p : PU} {n : Int} (h : PuOk p) : PuOk (pGrant p n).1 := by
  unfold pGrant PuOk at *
  unfold topN
  split <;> simp only <;> omega
theorem pSpend_ok {p : PU} {n : Int} (h : PuOk p) (hn : 0 ≤ n) : PuOk (pSpend p n).1 := by
  unfold pSpend PuOk at *
  split <;> simp only <;> omega
structure TL where
  wi : Int
  li : Int
  ca : Int
  re : Int
def TlOk (t : TL) : Prop := 0 ≤ t.re ∧ t.re ≤ t.ca ∧ t.ca ≤ t.li ∧ t.li ≤ 4611686018427387903 ∧ 0 ≤ t.wi ∧ t.wi ≤ 4611686018427387903
def tlN (n : Int) : TL := ⟨topN n, topN n, 0, 0⟩
theorem tlN_ok {n : Int} (h : 0 ≤ n) : TlOk (tlN n) := by unfold TlOk tlN topN; simp only; omega
def tCame (t : TL) (h : Int) : TL × Int := if t.li < h then (t, 12) else (⟨t.wi, t.li, max t.ca h, t.re⟩, 0)
def tTook (t : TL) (n : Int) : TL × Int := if t.ca - t.re < n then (t, 6) else (⟨t.wi, t.li, t.ca, t.re + n⟩, 0)
def tNews (t : TL) : TL × Int × Bool :=
  if max (t.wi / 2) 1 ≤ t.li - t.re then (t, 0, false)
  else if topN (t.re + t.wi) ≤ t.li then (t, 0, false)
  else (⟨t.wi, topN (t.re + t.wi), t.ca, t.re⟩, topN (t.re + t.wi), true)
theorem tCame_ok {t : TL} {n : Int} (h : TlOk t) : TlOk (tCame t n).1 := by
  unfold tCame TlOk at *
  split <;> simp only <;> omega
theorem tTook_ok {t : TL} {n : Int} (h : TlOk t) (hn : 0 ≤ n) : TlOk (tTook t n).1 := by
  unfold tTook TlOk at *
  split <;> simp only <;> omega
theorem tNews_ok {t : TL} (h : TlOk t) : TlOk (tNews t).1 := by
  unfold tNews TlOk at *
  unfold topN
  split
  · simp only; omega
  · split <;> simp only <;> omega
end Go.Proofs.Ytgddlamfjjdlfaa
