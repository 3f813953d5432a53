/-
  CreditAgrees.
-/
import Derived.Test.YtgddlamfjjdlfaaCreditC
namespace Go.Proofs.Ytgddlamfjjdlfaa
open Go.RowKit
set_option linter.unusedVariables false

structure InvA (W0 : Int) (k : Nat) (T : TL) (P : PU) : Prop where
  wi : T.wi = W0
  ok : TlOk T
  pu : PuOk P
  sp : P.sp = T.ca
  li : P.li ≤ T.li
  top : T.li ≤ 65536 * ((k : Int) + 1)
theorem ag_send {W0 : Int} {k : Nat} {T : TL} {P : PU} {n : Int} (h : InvA W0 k T P) (h0 : 0 ≤ n) (h1 : n ≤ P.li - P.sp) :
    pSpend P n = (⟨P.li, P.sp + n⟩, 0) ∧ tCame T (P.sp + n) = (⟨T.wi, T.li, P.sp + n, T.re⟩, 0) ∧ InvA W0 (k + 1) ⟨T.wi, T.li, P.sp + n, T.re⟩ ⟨P.li, P.sp + n⟩ := by
  obtain ⟨a, b, c, d, e, f⟩ := h
  unfold TlOk at b
  unfold PuOk at c
  refine ⟨?_, ?_, ?_⟩
  · unfold pSpend; rw [if_neg (by omega)]
  · unfold tCame; rw [if_neg (by omega), show max T.ca (P.sp + n) = P.sp + n by omega]
  · refine ⟨a, ?_, ?_, rfl, e, by simp only; omega⟩
    · unfold TlOk; simp only; omega
    · unfold PuOk; simp only; omega
theorem ag_took {W0 : Int} {k : Nat} {T : TL} {P : PU} {n : Int} (h : InvA W0 k T P) (h0 : 0 ≤ n) (h1 : n ≤ T.ca - T.re) :
    tTook T n = (⟨T.wi, T.li, T.ca, T.re + n⟩, 0) ∧ InvA W0 k ⟨T.wi, T.li, T.ca, T.re + n⟩ P := by
  obtain ⟨a, b, c, d, e, f⟩ := h
  unfold TlOk at b
  refine ⟨?_, a, ?_, c, d, e, f⟩
  · unfold tTook; rw [if_neg (by omega)]
  · unfold TlOk; simp only; omega
theorem ag_news {W0 : Int} {k : Nat} {T : TL} {P : PU} (hw : W0 ≤ 65536) (h : InvA W0 k T P) : InvA W0 (k + 1) (tNews T).1 P := by
  have ok := tNews_ok h.ok
  obtain ⟨a, b, c, d, e, f⟩ := h
  unfold TlOk at b
  rcases tNews_ways T with ⟨e1, e2⟩ | ⟨h3, e1, e2⟩
  · rw [e1] at ok ⊢
    exact ⟨a, ok, c, d, e, by omega⟩
  · rw [e1] at ok ⊢
    refine ⟨a, ok, c, d, by simp only; omega, ?_⟩
    unfold topN
    simp only
    omega
theorem ag_told (T : TL) : (if (tNews T).2.2 = true then (tNews T).2.1 else T.li) = (tNews T).1.li := by
  rcases tNews_ways T with ⟨e1, e2⟩ | ⟨h3, e1, e2⟩
  · rw [e1, e2]; rfl
  · rw [e1, e2]; rfl
theorem ag_grant {W0 : Int} {k : Nat} {T : TL} {P : PU} (h : InvA W0 k T P) : InvA W0 (k + 1) T (pGrant P T.li).1 ∧ (pGrant P T.li).1.li = T.li := by
  have ok := pGrant_ok (n := T.li) h.pu
  obtain ⟨a, b, c, d, e, f⟩ := h
  obtain ⟨e1, e2⟩ := pGrant_li P T.li
  unfold TlOk at b
  have e3 : topN T.li = T.li := by unfold topN; omega
  rw [e3] at e1
  refine ⟨⟨a, by unfold TlOk; exact b, ok, by rw [e2, d], by rw [e1]; omega, by omega⟩, by rw [e1]; omega⟩
/-- At the end there is a window to spend. -/
theorem ag_end {W0 : Int} {k : Nat} {T : TL} {P : PU} (hw : 1 ≤ W0) (hw2 : W0 ≤ 65536) (hk : k ≤ 70) (h : InvA W0 k T P) (hf : T.re = T.ca) :
    max (W0 / 2) 1 ≤ (pGrant P (tNews T).1.li).1.li - (pGrant P (tNews T).1.li).1.sp := by
  obtain ⟨_, g2⟩ := ag_grant (ag_news hw2 h)
  rw [g2, (pGrant_li P _).2]
  obtain ⟨a, b, c, d, e, f⟩ := h
  unfold TlOk at b
  unfold tNews
  by_cases h1 : max (T.wi / 2) 1 ≤ T.li - T.re
  · rw [if_pos h1]; rw [a] at h1; simp only; omega
  · rw [if_neg h1]
    have e3 : topN (T.re + T.wi) = T.re + T.wi := by unfold topN; omega
    rw [e3]
    by_cases h2 : T.re + T.wi ≤ T.li
    · rw [if_pos h2]; simp only; omega
    · rw [if_neg h2]; simp only; omega
end Go.Proofs.Ytgddlamfjjdlfaa
