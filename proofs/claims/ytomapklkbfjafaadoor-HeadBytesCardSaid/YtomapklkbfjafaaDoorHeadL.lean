/-
  What Read answers on the bytes of a long head that is cut off.
-/
import Derived.Test.YtomapklkbfjafaaDoorHeadK
namespace Go.Proofs.YtomapklkbfjafaaDoor
open Go.RowKit
set_option linter.unusedVariables false
set_option linter.unusedSimpArgs false

def Pre (q F : List Int) : Prop := ∃ s, s ≠ [] ∧ q ++ s = F
theorem Pre.lt {q F : List Int} (h : Pre q F) : q.length < F.length := by
  obtain ⟨s, hs, rfl⟩ := h
  have : 0 < s.length := List.length_pos_iff.2 hs
  simp; omega
theorem Pre.of_take (F : List Int) (k : Nat) (h : k < F.length) : Pre (F.take k) F :=
  ⟨F.drop k, by intro e; have := congrArg List.length e; simp at this; omega, List.take_append_drop k F⟩
theorem tk_pre (X R q : List Int) (h : Pre q (X ++ R)) : q.length < X.length ∨ ∃ q', q = X ++ q' ∧ Pre q' R := by
  obtain ⟨s, hs, e⟩ := h
  rcases List.append_eq_append_iff.1 e with ⟨a', h1, h2⟩ | ⟨c', h1, h2⟩
  · by_cases ha : a' = []
    · subst ha
      exact .inr ⟨[], by simpa using h1.symm, s, hs, by simpa using h2⟩
    · left
      have : 0 < a'.length := List.length_pos_iff.2 ha
      rw [h1, List.length_append]; omega
  · exact .inr ⟨c', h1, s, hs, h2.symm⟩
theorem two_nm (p : List Int) : nmE p 2 = 2 := by simp [nmE, nmE1, mustE, needE]
theorem two_ln (p : List Int) : lnE p 2 = 2 := by simp [lnE, numE, needE]
theorem two_must (b : Bool) : mustE 2 b = 2 := by simp [mustE]
theorem nm_pre (a R q : List Int) (hal : a.length ≤ 20) (h : Pre q ((a.length : Int) :: (a ++ R))) : nmE q 0 = 2 ∨ ∃ q', nmE q 0 = 0 ∧ nmL q 0 = q' ∧ Pre q' R := by
  rcases tk_pre [(a.length : Int)] (a ++ R) q h with h1 | ⟨q1, rfl, h1⟩
  · have : q = [] := List.eq_nil_of_length_eq_zero (by simpa using h1)
    subst this
    left
    rfl
  · have hE1 : nmE1 ([(a.length : Int)] ++ q1) 0 = 0 := by
      have e1 : needE 0 ([(a.length : Int)] ++ q1).length 1 = 0 := by rw [needE, if_neg (by simp)]
      have e2 : byteV ([(a.length : Int)] ++ q1) 0 = a.length := rfl
      rw [nmE1, e1, e2, mustE, if_neg (by simp; omega)]
    have hT : tkL ([(a.length : Int)] ++ q1) 0 1 = q1 := by rw [tkL, if_pos ⟨rfl, by simp⟩]; rfl
    have hB : (byteV ([(a.length : Int)] ++ q1) 0).toNat = a.length := rfl
    rcases tk_pre a R q1 h1 with h2 | ⟨q2, rfl, h2⟩
    · left
      rw [nmE, hE1, hT, hB, needE, if_pos ⟨rfl, h2⟩]
    · right
      refine ⟨q2, ?_, ?_, h2⟩
      · rw [nmE, hE1, hT, hB, needE, if_neg (by simp)]
      · rw [nmL, hE1, hT, hB, tkL, if_pos ⟨rfl, by simp⟩]; simp
theorem ln_pre (T q : List Int) (hT : T.length = 20) (h : Pre q ([64, 20] ++ T)) : lnE q 0 = 2 := by
  rcases tk_pre [64, 20] T q h with h1 | ⟨q1, rfl, h1⟩
  · have hz : rdS q = 0 := by
      match q, h1 with
      | [], _ => rfl
      | [x], _ =>
        obtain ⟨s, _, e⟩ := h
        have : x = 64 := by injection e
        subst this
        decide
      | _ :: _ :: _, h => simp at h; omega
    rw [lnE, numE, if_pos ⟨rfl, hz⟩]; rfl
  · have hs : rdS ([64, 20] ++ q1) = 2 := rdS_wenc (n := 20) (b := 16384) (t := 1) (k := 2) (by unfold IsSize; omega) (by omega) (by omega) q1
    have hn : rdN ([64, 20] ++ q1) = 20 := rdN_wenc (n := 20) (b := 16384) (t := 1) (k := 2) (by unfold IsSize; omega) (by omega) (by omega) q1
    have hl := h1.lt
    have e1 : numE ([64, 20] ++ q1) 0 = 0 := by rw [numE, if_neg (by rw [hs]; omega)]
    have e2 : numN ([64, 20] ++ q1) 0 = 20 := by rw [numN, if_pos ⟨rfl, by rw [hs]; omega⟩, hn]
    have e3 : numL ([64, 20] ++ q1) 0 = q1 := by rw [numL, if_pos rfl, hs]; rfl
    rw [lnE, e1, e2, e3, needE, if_pos ⟨rfl, by show q1.length < 20; omega⟩]
theorem tok_pre (R q : List Int) (h : Pre q ([0] ++ R)) : mustE (numE q 0) (numN q 0 == 0) = 2 ∨ ∃ q', mustE (numE q 0) (numN q 0 == 0) = 0 ∧ numL q 0 = q' ∧ Pre q' R := by
  rcases tk_pre [0] R q h with h1 | ⟨q1, rfl, h1⟩
  · have : q = [] := List.eq_nil_of_length_eq_zero (by simpa using h1)
    subst this
    left
    rfl
  · have hs : rdS ([0] ++ q1) = 1 := rdS_wenc (n := 0) (b := 64) (t := 0) (k := 1) (by unfold IsSize; omega) (by omega) (by omega) q1
    have hn : rdN ([0] ++ q1) = 0 := rdN_wenc (n := 0) (b := 64) (t := 0) (k := 1) (by unfold IsSize; omega) (by omega) (by omega) q1
    have e1 : numE ([0] ++ q1) 0 = 0 := by rw [numE, if_neg (by rw [hs]; omega)]
    have e2 : numN ([0] ++ q1) 0 = 0 := by rw [numN, if_pos ⟨rfl, by rw [hs]; omega⟩, hn]
    have e3 : numL ([0] ++ q1) 0 = q1 := by rw [numL, if_pos rfl, hs]; rfl
    exact .inr ⟨q1, by rw [e1, e2]; rfl, e3, h1⟩
theorem long_cut (lv : Int) (a b T q : List Int) (hlv : lv = 0 ∨ lv = 1) (ha : a.length ≤ 20) (hb : b.length ≤ 20) (hT : T.length = 20)
    (h : Pre q ([195 + 32 * lv] ++ ([0, 0, 0, 1] ++ ((a.length : Int) :: (a ++ ((b.length : Int) :: (b ++ ((if lv = 0 then [0] else []) ++ ([64, 20] ++ T))))))))) : rdErr q = 2 := by
  rcases tk_pre [195 + 32 * lv] _ q h with h1 | ⟨q1, rfl, h1⟩
  · have : q = [] := List.eq_nil_of_length_eq_zero (by simpa using h1)
    subst this
    rfl
  obtain ⟨f, hf⟩ : ∃ f, f = 195 + 32 * lv := ⟨_, rfl⟩
  rw [← hf]
  have hB : byteV ([f] ++ q1) 0 = f := rfl
  have hlt : ¬ f < 128 := by omega
  have hfix : fixOk f = true := by rcases hlv with rfl | rfl <;> subst hf <;> decide
  have hok : lvlOk f = true := by rcases hlv with rfl | rfl <;> subst hf <;> decide
  have hn : needE 0 ([f] ++ q1).length 1 = 0 := by rw [needE, if_neg (by simp)]
  have hE1 : hdE1 ([f] ++ q1) 0 = 0 := by rw [hdE1, hB, hfix, hn]; rfl
  have hP1 : hdP1 ([f] ++ q1) 0 = q1 := by rw [hdP1, tkL, if_pos ⟨rfl, by simp⟩]; rfl
  have hE : hdE ([f] ++ q1) 0 = lgE q1 0 f := by rw [hdE, hB, if_neg hlt, hE1, hP1]
  suffices hs : lgE q1 0 f = 2 by rw [rdErr, hE, hs]; exact two_must _
  have g1 : lgE1 0 f = 0 := by rw [lgE1, hok]; rfl
  have t4 : lgE4 q1 0 f = 2 → lgE q1 0 f = 2 := fun h => by
    rw [lgE, lgE6, lgE5, h, two_nm]
    split
    · rw [show numE (lgP5 q1 0 f) 2 = 2 by simp [numE], two_must]; exact two_ln _
    · exact two_ln _
  have t5 : lgE5 q1 0 f = 2 → lgE q1 0 f = 2 := fun h => by
    rw [lgE, lgE6, h]
    split
    · rw [show numE (lgP5 q1 0 f) 2 = 2 by simp [numE], two_must]; exact two_ln _
    · exact two_ln _
  rcases tk_pre [0, 0, 0, 1] _ q1 h1 with h2 | ⟨q2, hq2, h2⟩
  · refine t4 ?_
    rw [lgE4, lgE3, g1, show needE 0 q1.length 4 = 2 by rw [needE, if_pos ⟨rfl, h2⟩], two_must]
    exact two_nm _
  have hP2 : lgP2 q1 0 f = q2 := by rw [lgP2, g1, hq2, tkL, if_pos ⟨rfl, by simp⟩]; rfl
  have hE3 : lgE3 q1 0 f = 0 := by
    have e : needE 0 q1.length 4 = 0 := by rw [needE, if_neg (by rw [hq2]; simp)]
    have e' : tkO q1 0 4 = [0, 0, 0, 1] := by rw [tkO, if_pos ⟨rfl, by rw [hq2]; simp⟩, hq2]; rfl
    rw [lgE3, g1, e, e']; rfl
  rcases nm_pre a _ q2 ha h2 with e4 | ⟨q3, e4, l4, h3⟩
  · exact t4 (by rw [lgE4, hP2, hE3]; exact e4)
  have hE4 : lgE4 q1 0 f = 0 := by rw [lgE4, hP2, hE3]; exact e4
  have hP4 : lgP4 q1 0 f = q3 := by rw [lgP4, hP2, hE3]; exact l4
  rcases nm_pre b _ q3 hb h3 with e5 | ⟨q4, e5, l5, h4⟩
  · exact t5 (by rw [lgE5, hP4, hE4]; exact e5)
  have hE5 : lgE5 q1 0 f = 0 := by rw [lgE5, hP4, hE4]; exact e5
  have hP5 : lgP5 q1 0 f = q4 := by rw [lgP5, hP4, hE4]; exact l5
  rcases hlv with rfl | rfl
  · have hl : lvl f = 0 := by subst hf; decide
    rw [if_pos rfl] at h4
    rcases tok_pre _ q4 h4 with e6 | ⟨q5, e6, l6, h5⟩
    · rw [lgE, lgE6, if_pos hl, hP5, hE5, e6]; exact two_ln _
    · rw [lgE, lgE6, lgP6, if_pos hl, if_pos hl, hP5, hE5, e6, l6]; exact ln_pre T q5 hT h5
  · have hl : ¬ lvl f = 0 := by subst hf; decide
    rw [if_neg (by decide), List.nil_append] at h4
    rw [lgE, lgE6, lgP6, if_neg hl, if_neg hl, hP5, hE5]
    exact ln_pre T q4 hT h4
theorem longB_cut (lv : Int) (a b : List Int) (pn : Int) (Z : List Int) (k : Nat) (hlv : lv = 0 ∨ lv = 1) (ha : a.length ≤ 20) (hb : b.length ≤ 20) (hZ : Z.length = 16) (hk : k < (longB lv a b pn 16 ++ Z).length) :
    rdErr ((longB lv a b pn 16 ++ Z).take k) = 2 := by
  refine long_cut lv a b (be pn 4 ++ Z) _ hlv ha hb (by rw [List.length_append, be_length, hZ]) ?_
  have h := Pre.of_take (longB lv a b pn 16 ++ Z) k hk
  have e : longB lv a b pn 16 ++ Z = [195 + 32 * lv] ++ ([0, 0, 0, 1] ++ ((a.length : Int) :: (a ++ ((b.length : Int) :: (b ++ ((if lv = 0 then [0] else []) ++ ([64, 20] ++ (be pn 4 ++ Z)))))))) := by
    have w : wenc (4 + 16) 2 = [64, 20] := by decide
    rw [longB, w]
    simp
  rw [← e]
  exact h
end Go.Proofs.YtomapklkbfjafaaDoor
