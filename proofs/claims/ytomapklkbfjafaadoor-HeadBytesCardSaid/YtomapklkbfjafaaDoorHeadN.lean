/-
  What Read answers on the whole bytes of a long head, whatever stands behind.
-/
import Derived.Test.YtomapklkbfjafaaDoorHeadL
namespace Go.Proofs.YtomapklkbfjafaaDoor
open Go.RowKit
set_option linter.unusedVariables false
set_option linter.unusedSimpArgs false

theorem nm_all (a R : List Int) (hal : a.length ≤ 20) : nmE ((a.length : Int) :: (a ++ R)) 0 = 0 ∧ nmL ((a.length : Int) :: (a ++ R)) 0 = R ∧ nmO ((a.length : Int) :: (a ++ R)) 0 = a := by
  have e1 : needE 0 ((a.length : Int) :: (a ++ R)).length 1 = 0 := by rw [needE, if_neg (by simp)]
  have e2 : byteV ((a.length : Int) :: (a ++ R)) 0 = a.length := rfl
  have hE1 : nmE1 ((a.length : Int) :: (a ++ R)) 0 = 0 := by rw [nmE1, e1, e2, mustE, if_neg (by simp; omega)]
  have hT : tkL ((a.length : Int) :: (a ++ R)) 0 1 = a ++ R := by rw [tkL, if_pos ⟨rfl, by simp⟩]; rfl
  have hB : (byteV ((a.length : Int) :: (a ++ R)) 0).toNat = a.length := rfl
  refine ⟨?_, ?_, ?_⟩
  · rw [nmE, hE1, hT, hB, needE, if_neg (by simp)]
  · rw [nmL, hE1, hT, hB, tkL, if_pos ⟨rfl, by simp⟩]; simp
  · rw [nmO, hE1, hT, hB, tkO, if_pos ⟨rfl, by simp⟩]; simp
theorem ln_all (M : Int) (T : List Int) (h0 : 0 ≤ M) (h1 : M < 16384) (hT : M ≤ T.length) : lnE (wenc M 2 ++ T) 0 = 0 ∧ lnV (wenc M 2 ++ T) 0 = M ∧ numL (wenc M 2 ++ T) 0 = T := by
  have hk : IsSize 2 2 16384 1 := by unfold IsSize; omega
  have hs : rdS (wenc M 2 ++ T) = 2 := rdS_wenc hk h0 h1 T
  have hn : rdN (wenc M 2 ++ T) = M := rdN_wenc hk h0 h1 T
  have e1 : numE (wenc M 2 ++ T) 0 = 0 := by rw [numE, if_neg (by rw [hs]; omega)]
  have e2 : numN (wenc M 2 ++ T) 0 = M := by rw [numN, if_pos ⟨rfl, by rw [hs]; omega⟩, hn]
  have e3 : numL (wenc M 2 ++ T) 0 = T := by rw [numL, if_pos rfl, hs]; exact drop_wenc hk T
  have e4 : lnE (wenc M 2 ++ T) 0 = 0 := by rw [lnE, e1, e2, e3, needE, if_neg (by omega)]
  exact ⟨e4, by rw [lnV, if_pos e4, e2], e3⟩
theorem tok_all (R : List Int) : mustE (numE ([0] ++ R) 0) (numN ([0] ++ R) 0 == 0) = 0 ∧ numL ([0] ++ R) 0 = R := by
  have hs : rdS ([0] ++ R) = 1 := rdS_wenc (n := 0) (b := 64) (t := 0) (k := 1) (by unfold IsSize; omega) (by omega) (by omega) R
  have hn : rdN ([0] ++ R) = 0 := rdN_wenc (n := 0) (b := 64) (t := 0) (k := 1) (by unfold IsSize; omega) (by omega) (by omega) R
  have e1 : numE ([0] ++ R) 0 = 0 := by rw [numE, if_neg (by rw [hs]; omega)]
  have e2 : numN ([0] ++ R) 0 = 0 := by rw [numN, if_pos ⟨rfl, by rw [hs]; omega⟩, hn]
  exact ⟨by rw [e1, e2]; rfl, by rw [numL, if_pos rfl, hs]; rfl⟩
theorem first_of (lv s : Int) (hlv : lv = 0 ∨ lv = 1) (hs : 1 ≤ s ∧ s ≤ 4) : ¬ 191 + 32 * lv + s < 128 ∧ fixOk (191 + 32 * lv + s) = true ∧ lvlOk (191 + 32 * lv + s) = true ∧ lvl (191 + 32 * lv + s) = lv := by
  have : s = 1 ∨ s = 2 ∨ s = 3 ∨ s = 4 := by omega
  rcases hlv with rfl | rfl <;> rcases this with rfl | rfl | rfl | rfl <;> exact ⟨by omega, by decide, by decide, by decide⟩
theorem long_all (lv s M : Int) (a b T : List Int) (hlv : lv = 0 ∨ lv = 1) (hs : 1 ≤ s ∧ s ≤ 4) (ha : a.length ≤ 20) (hb : b.length ≤ 20) (hM : 20 ≤ M ∧ M < 16384) (hT : M ≤ T.length) (q : List Int)
    (hq : q = [191 + 32 * lv + s] ++ ([0, 0, 0, 1] ++ ((a.length : Int) :: (a ++ ((b.length : Int) :: (b ++ ((if lv = 0 then [0] else []) ++ (wenc M 2 ++ T)))))))) :
    rdErr q = 0 ∧ hdV q 0 = M ∧ rdLeft q = T ∧ hdLong q 0 = true ∧ hdLvl q 0 = lv ∧ hdTo q 0 = a ∧ hdFr q 0 = b := by
  obtain ⟨f, hf⟩ : ∃ f, f = 191 + 32 * lv + s := ⟨_, rfl⟩
  obtain ⟨hlt, hfix, hok, hll⟩ := first_of lv s hlv hs
  rw [← hf] at hq hlt hfix hok hll
  obtain ⟨q1, hq1⟩ : ∃ q1, q1 = [0, 0, 0, 1] ++ ((a.length : Int) :: (a ++ ((b.length : Int) :: (b ++ ((if lv = 0 then [0] else []) ++ (wenc M 2 ++ T)))))) := ⟨_, rfl⟩
  rw [← hq1] at hq
  have hB : byteV q 0 = f := by rw [hq]; rfl
  have hn : needE 0 q.length 1 = 0 := by rw [needE, if_neg (by rw [hq]; simp)]
  have hE1 : hdE1 q 0 = 0 := by rw [hdE1, hB, hfix, hn]; rfl
  have hP1 : hdP1 q 0 = q1 := by rw [hdP1, tkL, if_pos ⟨rfl, by rw [hq]; simp⟩, hq]; rfl
  have g1 : lgE1 0 f = 0 := by rw [lgE1, hok]; rfl
  obtain ⟨q2, hq2⟩ : ∃ q2, q2 = (a.length : Int) :: (a ++ ((b.length : Int) :: (b ++ ((if lv = 0 then [0] else []) ++ (wenc M 2 ++ T))))) := ⟨_, rfl⟩
  rw [← hq2] at hq1
  have hP2 : lgP2 q1 0 f = q2 := by rw [lgP2, g1, hq1, tkL, if_pos ⟨rfl, by simp⟩]; rfl
  have hE3 : lgE3 q1 0 f = 0 := by
    have e : needE 0 q1.length 4 = 0 := by rw [needE, if_neg (by rw [hq1]; simp)]
    have e' : tkO q1 0 4 = [0, 0, 0, 1] := by rw [tkO, if_pos ⟨rfl, by rw [hq1]; simp⟩, hq1]; rfl
    rw [lgE3, g1, e, e']; rfl
  obtain ⟨q3, hq3⟩ : ∃ q3, q3 = (b.length : Int) :: (b ++ ((if lv = 0 then [0] else []) ++ (wenc M 2 ++ T))) := ⟨_, rfl⟩
  rw [← hq3] at hq2
  obtain ⟨n1, n2, n3⟩ := nm_all a q3 ha
  rw [← hq2] at n1 n2 n3
  have hE4 : lgE4 q1 0 f = 0 := by rw [lgE4, hP2, hE3]; exact n1
  have hP4 : lgP4 q1 0 f = q3 := by rw [lgP4, hP2, hE3]; exact n2
  have hTo : lgTo q1 0 f = a := by rw [lgTo, hP2, hE3]; exact n3
  obtain ⟨q4, hq4⟩ : ∃ q4, q4 = (if lv = 0 then [0] else []) ++ (wenc M 2 ++ T) := ⟨_, rfl⟩
  rw [← hq4] at hq3
  obtain ⟨m1, m2, m3⟩ := nm_all b q4 hb
  rw [← hq3] at m1 m2 m3
  have hE5 : lgE5 q1 0 f = 0 := by rw [lgE5, hP4, hE4]; exact m1
  have hP5 : lgP5 q1 0 f = q4 := by rw [lgP5, hP4, hE4]; exact m2
  have hFr : lgFr q1 0 f = b := by rw [lgFr, hP4, hE4]; exact m3
  obtain ⟨k1, k2, k3⟩ := ln_all M T (by omega) hM.2 hT
  have h6 : lgE6 q1 0 f = 0 ∧ lgP6 q1 0 f = wenc M 2 ++ T := by
    rcases hlv with rfl | rfl
    · rw [if_pos rfl] at hq4
      obtain ⟨t1, t2⟩ := tok_all (wenc M 2 ++ T)
      rw [← hq4] at t1 t2
      exact ⟨by rw [lgE6, if_pos hll, hP5, hE5]; exact t1, by rw [lgP6, if_pos hll, hP5, hE5]; exact t2⟩
    · rw [if_neg (by decide), List.nil_append] at hq4
      exact ⟨by rw [lgE6, if_neg (by rw [hll]; decide), hE5], by rw [lgP6, if_neg (by rw [hll]; decide), hP5, hq4]⟩
  have hE : hdE q 0 = 0 := by rw [hdE, hB, if_neg hlt, hE1, hP1, lgE, h6.1, h6.2]; exact k1
  have hV : hdV q 0 = M := by rw [hdV, hB, if_neg hlt, hE1, hP1, lgV, h6.1, h6.2]; exact k2
  have hP : hdP q 0 = T := by rw [hdP, hB, if_neg hlt, hE1, hP1, lgP, h6.1, h6.2]; exact k3
  have hR : rdErr q = 0 := by rw [rdErr, hE, hV, decide_eq_true hM.1]; rfl
  refine ⟨hR, hV, by rw [rdLeft, hR, hP]; rfl, ?_, ?_, ?_, ?_⟩
  · rw [hdLong, hB]; simp; omega
  · rw [hdLvl, hB, if_neg hlt, hll]
  · rw [hdTo, hB, if_neg hlt, hE1, hP1, hTo]
  · rw [hdFr, hB, if_neg hlt, hE1, hP1, hFr]
/-- The whole packet of a head with a number of four bytes, whatever stands behind it. -/
theorem longB_all (lv : Int) (a b : List Int) (pn L : Int) (Z R : List Int) (hlv : lv = 0 ∨ lv = 1) (ha : a.length ≤ 20) (hb : b.length ≤ 20) (hL : 16 ≤ L ∧ L ≤ 16379) (hZ : (Z.length : Int) = L) :
    rdErr (longB lv a b pn L ++ Z ++ R) = 0 ∧ rdAt (longB lv a b pn L ++ Z ++ R) + hdV (longB lv a b pn L ++ Z ++ R) 0 = ((longB lv a b pn L ++ Z).length : Int) := by
  have hbl : (be pn 4).length = 4 := be_length _ _
  obtain ⟨h1, h2, h3, _⟩ := long_all lv 4 (4 + L) a b (be pn 4 ++ (Z ++ R)) hlv (by omega) ha hb (by omega) (by simp only [List.length_append, hbl]; omega) (longB lv a b pn L ++ Z ++ R) (by
    rw [longB, show (195 + 32 * lv : Int) = 191 + 32 * lv + 4 by omega]
    simp)
  refine ⟨h1, ?_⟩
  rw [rdAt, h2, h3]
  simp only [List.length_append, hbl]
  omega
end Go.Proofs.YtomapklkbfjafaaDoor
