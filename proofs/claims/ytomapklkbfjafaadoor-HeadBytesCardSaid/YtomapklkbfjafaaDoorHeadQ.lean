/-
  The reference's Read of a head, by value: what the model answers, case by case.
-/
import Derived.Test.YtomapklkbfjafaaDoorHeadN
namespace Go.Proofs.YtomapklkbfjafaaDoor
open Go.RowKit
set_option linter.unusedVariables false
set_option linter.unusedSimpArgs false

theorem st_must {e : Int} (h : e ≠ 0) (b : Bool) : mustE e b = e := by rw [mustE, if_neg (by simp [h])]
theorem st_need {e : Int} (h : e ≠ 0) (m n : Nat) : needE e m n = e := by rw [needE, if_neg (by simp [h])]
theorem st_num {e : Int} (h : e ≠ 0) (p : List Int) : numE p e = e := by rw [numE, if_neg (by simp [h])]
theorem st_nm {e : Int} (h : e ≠ 0) (p : List Int) : nmE p e = e := by
  have h1 : nmE1 p e = e := by rw [nmE1, st_need h, st_must h]
  rw [nmE, h1, st_need h]
theorem st_ln {e : Int} (h : e ≠ 0) (p : List Int) : lnE p e = e := by rw [lnE, st_num h, st_need h]
theorem st_l6 {e : Int} (h : e ≠ 0) {p : List Int} {b : Int} (h5 : lgE5 p 0 b = e) : lgE p 0 b = e := by
  have h6 : lgE6 p 0 b = e := by
    rw [lgE6, h5]
    split
    · rw [st_num h, st_must h]
    · rfl
  rw [lgE, h6, st_ln h]
theorem st_l4 {e : Int} (h : e ≠ 0) {p : List Int} {b : Int} (h4 : lgE4 p 0 b = e) : lgE p 0 b = e := st_l6 h (by rw [lgE5, h4, st_nm h])
theorem st_l3 {e : Int} (h : e ≠ 0) {p : List Int} {b : Int} (h3 : lgE3 p 0 b = e) : lgE p 0 b = e := st_l4 h (by rw [lgE4, h3, st_nm h])

theorem nm_nil : nmE [] 0 = 2 := rfl
theorem nm_big {n : Int} {r : List Int} (h : 20 < n) : nmE (n :: r) 0 = 4 := by
  have e1 : nmE1 (n :: r) 0 = 4 := by
    rw [nmE1, show needE 0 (n :: r).length 1 = 0 by rw [needE, if_neg (by simp)], show byteV (n :: r) 0 = n from rfl, mustE, if_pos ⟨rfl, by simp; omega⟩]
  rw [nmE, e1, st_need (by decide)]
theorem nm_sh {n : Nat} {r : List Int} (h : n ≤ 20) (hl : r.length < n) : nmE ((n : Int) :: r) 0 = 2 := by
  have e1 : nmE1 ((n : Int) :: r) 0 = 0 := by
    rw [nmE1, show needE 0 ((n : Int) :: r).length 1 = 0 by rw [needE, if_neg (by simp)], show byteV ((n : Int) :: r) 0 = n from rfl, mustE, if_neg (by simp; omega)]
  have hT : tkL ((n : Int) :: r) 0 1 = r := by rw [tkL, if_pos ⟨rfl, by simp⟩]; rfl
  rw [nmE, e1, hT, show (byteV ((n : Int) :: r) 0).toNat = n from rfl, needE, if_pos ⟨rfl, hl⟩]
theorem nm_ok {n : Nat} {r : List Int} (h : n ≤ 20) (hl : n ≤ r.length) : nmE ((n : Int) :: r) 0 = 0 ∧ nmL ((n : Int) :: r) 0 = r.drop n ∧ nmO ((n : Int) :: r) 0 = r.take n := by
  have e := nm_all (r.take n) (r.drop n) (by rw [List.length_take]; omega)
  rw [List.take_append_drop, show (r.take n).length = n by rw [List.length_take]; omega] at e
  exact e

section
variable {f : Int} {r : List Int}
theorem fix_of (h : f / 64 % 2 = 0) : fixOk f = false := by unfold fixOk; simp; omega
theorem fix_of' (h : ¬ f / 64 % 2 = 0) : fixOk f = true := by unfold fixOk; simp; omega
theorem hd_one (f : Int) (r : List Int) : byteV (f :: r) 0 = f ∧ needE 0 (f :: r).length 1 = 0 ∧ hdP1 (f :: r) 0 = r :=
  ⟨rfl, by rw [needE, if_neg (by simp)], by rw [hdP1, tkL, if_pos ⟨rfl, by simp⟩]; rfl⟩
theorem rd_fix (h : f / 64 % 2 = 0) : rdErr (f :: r) = 4 := by
  obtain ⟨h1, h2, h3⟩ := hd_one f r
  have hE1 : hdE1 (f :: r) 0 = 4 := by rw [hdE1, h1, h2, fix_of h]; rfl
  have hE : hdE (f :: r) 0 = 4 := by
    rw [hdE, hE1]
    split
    · rw [shE, st_need (by decide)]
    · have g1 : lgE1 4 (byteV (f :: r) 0) = 4 := st_must (by decide) _
      have g3 : lgE3 (hdP1 (f :: r) 0) 4 (byteV (f :: r) 0) = 4 := by rw [lgE3, g1, st_need (by decide), st_must (by decide)]
      have g4 : lgE4 (hdP1 (f :: r) 0) 4 (byteV (f :: r) 0) = 4 := by rw [lgE4, g3, st_nm (by decide)]
      have g5 : lgE5 (hdP1 (f :: r) 0) 4 (byteV (f :: r) 0) = 4 := by rw [lgE5, g4, st_nm (by decide)]
      have g6 : lgE6 (hdP1 (f :: r) 0) 4 (byteV (f :: r) 0) = 4 := by
        rw [lgE6, g5]
        split
        · rw [st_num (by decide), st_must (by decide)]
        · rfl
      rw [lgE, g6, st_ln (by decide)]
  rw [rdErr, hE, st_must (by decide)]
theorem short_gen (hlt : f < 128) (hf : ¬ f / 64 % 2 = 0) :
    (r.length < 8 → rdErr (f :: r) = 2) ∧ (8 ≤ r.length → r.length < 28 → rdErr (f :: r) = 4) ∧
      (28 ≤ r.length → rdErr (f :: r) = 0 ∧ rdAt (f :: r) = 9 ∧ hdV (f :: r) 0 = (r.length : Int) - 8 ∧ hdLong (f :: r) 0 = false ∧ hdLvl (f :: r) 0 = 2 ∧ hdTo (f :: r) 0 = r.take 8 ∧ hdFr (f :: r) 0 = []) := by
  obtain ⟨hb, hn, hP1⟩ := hd_one f r
  have hE1 : hdE1 (f :: r) 0 = 0 := by rw [hdE1, hb, fix_of' hf, hn]; rfl
  have hE : hdE (f :: r) 0 = needE 0 r.length 8 := by rw [hdE, hb, if_pos hlt, shE, hE1, hP1]
  have hP : hdP (f :: r) 0 = tkL r 0 8 := by rw [hdP, hb, if_pos hlt, shL, hE1, hP1]
  have hV : hdV (f :: r) 0 = ((leftV (tkL r 0 8) (needE 0 r.length 8)).length : Int) := by rw [hdV, hb, if_pos hlt, shN, shL, shE, hE1, hP1]
  refine ⟨fun h => ?_, fun h1 h2 => ?_, fun h => ?_⟩
  · have e : needE 0 r.length 8 = 2 := by rw [needE, if_pos ⟨rfl, h⟩]
    rw [rdErr, hE, e, mustE, if_neg (by omega)]
  · have e : needE 0 r.length 8 = 0 := by rw [needE, if_neg (by omega)]
    have t : tkL r 0 8 = r.drop 8 := by rw [tkL, if_pos ⟨rfl, h1⟩]
    rw [rdErr, hE, hV, e, t, leftV, if_pos rfl, mustE, if_pos ⟨rfl, by simp; omega⟩]
  · have e : needE 0 r.length 8 = 0 := by rw [needE, if_neg (by omega)]
    have t : tkL r 0 8 = r.drop 8 := by rw [tkL, if_pos ⟨rfl, by omega⟩]
    have v : hdV (f :: r) 0 = (r.length : Int) - 8 := by rw [hV, e, t, leftV, if_pos rfl]; simp; omega
    have er : rdErr (f :: r) = 0 := by rw [rdErr, hE, v, e, mustE, if_neg (by simp; omega)]
    refine ⟨er, ?_, v, ?_, ?_, ?_, ?_⟩
    · rw [rdAt, rdLeft, er, hP, t, leftV, if_pos rfl]
      simp
      omega
    · rw [hdLong, hb]; simp [hlt]
    · rw [hdLvl, hb, if_pos hlt]
    · rw [hdTo, hb, if_pos hlt, hE1, hP1, tkO, if_pos ⟨rfl, by omega⟩]
    · rw [hdFr, hb, if_pos hlt]

/-- A long head's: what Read's model says, told by the parts behind the first byte. -/
theorem long_of (hlt : ¬ f < 128) (hf : ¬ f / 64 % 2 = 0) :
    hdE (f :: r) 0 = lgE r 0 f ∧ hdV (f :: r) 0 = lgV r 0 f ∧ hdP (f :: r) 0 = lgP r 0 f ∧ hdLong (f :: r) 0 = true ∧ hdLvl (f :: r) 0 = lvl f ∧ hdTo (f :: r) 0 = lgTo r 0 f ∧ hdFr (f :: r) 0 = lgFr r 0 f := by
  obtain ⟨hb, hn, hP1⟩ := hd_one f r
  have hE1 : hdE1 (f :: r) 0 = 0 := by rw [hdE1, hb, fix_of' hf, hn]; rfl
  exact ⟨by rw [hdE, hb, if_neg hlt, hE1, hP1], by rw [hdV, hb, if_neg hlt, hE1, hP1], by rw [hdP, hb, if_neg hlt, hE1, hP1], by rw [hdLong, hb]; simp; omega,
    by rw [hdLvl, hb, if_neg hlt], by rw [hdTo, hb, if_neg hlt, hE1, hP1], by rw [hdFr, hb, if_neg hlt, hE1, hP1]⟩
theorem rd_lg {e : Int} (hlt : ¬ f < 128) (hf : ¬ f / 64 % 2 = 0) (h : lgE r 0 f = e) (he : e ≠ 0) : rdErr (f :: r) = e := by
  rw [rdErr, (long_of hlt hf).1, h, st_must he]
theorem rd_lvl (hlt : ¬ f < 128) (hf : ¬ f / 64 % 2 = 0) (h0 : ¬ f / 16 % 4 = 0) (h2 : ¬ f / 16 % 4 = 2) : rdErr (f :: r) = 4 := by
  have g1 : lgE1 0 f = 4 := by rw [lgE1, show lvlOk f = false by unfold lvlOk; simp [h0, h2]]; rfl
  exact rd_lg hlt hf (st_l3 (by decide) (by rw [lgE3, g1, st_need (by decide), st_must (by decide)])) (by decide)
theorem lvl_ok (h : f / 16 % 4 = 0 ∨ f / 16 % 4 = 2) : lgE1 0 f = 0 := by
  rw [lgE1, show lvlOk f = true by unfold lvlOk; simpa using h]; rfl
theorem rd_four (hlt : ¬ f < 128) (hf : ¬ f / 64 % 2 = 0) (hl : f / 16 % 4 = 0 ∨ f / 16 % 4 = 2) (h : r.length < 4) : rdErr (f :: r) = 2 :=
  rd_lg hlt hf (st_l3 (by decide) (by rw [lgE3, lvl_ok hl, show needE 0 r.length 4 = 2 by rw [needE, if_pos ⟨rfl, h⟩], st_must (by decide)])) (by decide)
theorem lg_ver (hl : f / 16 % 4 = 0 ∨ f / 16 % 4 = 2) (h : 4 ≤ r.length) : lgE3 r 0 f = mustE 0 (sameB (r.take 4) [0, 0, 0, 1]) ∧ lgP2 r 0 f = r.drop 4 := by
  refine ⟨?_, ?_⟩
  · rw [lgE3, lvl_ok hl, show needE 0 r.length 4 = 0 by rw [needE, if_neg (by omega)], tkO, if_pos ⟨rfl, h⟩]
  · rw [lgP2, lvl_ok hl, tkL, if_pos ⟨rfl, h⟩]
end
/-- Behind the names: a length, that there is, or isn't. -/
theorem ln_no {q : List Int} (h : rdS q = 0) : lnE q 0 = 2 := by rw [lnE, numE, if_pos ⟨rfl, h⟩]; rfl
theorem ln_parts {q : List Int} (h : rdS q ≠ 0) : numE q 0 = 0 ∧ numN q 0 = rdN q ∧ numL q 0 = q.drop (rdS q) :=
  ⟨by rw [numE, if_neg (by simp [h])], by rw [numN, if_pos ⟨rfl, h⟩], by rw [numL, if_pos rfl]⟩
theorem ln_far {q : List Int} {n : Nat} (h : rdS q ≠ 0) (hn : rdN q = n) (hl : (q.drop (rdS q)).length < n) : lnE q 0 = 2 := by
  obtain ⟨h1, h2, h3⟩ := ln_parts h
  rw [lnE, h1, h2, h3, hn, needE, if_pos ⟨rfl, hl⟩]
theorem ln_yes {q : List Int} {n : Nat} (h : rdS q ≠ 0) (hn : rdN q = n) (hl : n ≤ (q.drop (rdS q)).length) : lnE q 0 = 0 ∧ lnV q 0 = n ∧ numL q 0 = q.drop (rdS q) := by
  obtain ⟨h1, h2, h3⟩ := ln_parts h
  have e : lnE q 0 = 0 := by rw [lnE, h1, h2, h3, hn, needE, if_neg (by simp; simp at hl; omega)]
  exact ⟨e, by rw [lnV, if_pos e, h2, hn], h3⟩
end Go.Proofs.YtomapklkbfjafaaDoor
