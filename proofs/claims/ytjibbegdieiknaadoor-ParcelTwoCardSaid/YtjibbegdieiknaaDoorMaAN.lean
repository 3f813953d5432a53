/-
  The reference's Read of a head, by value: what the model answers, case by case.
-/
import Derived.Test.YtjibbegdieiknaaDoorMaAL
import Derived.Test.YtjibbegdieiknaaDoorMaAM
import Derived.Test.YtjibbegdieiknaaDoorMaAH
namespace Go.Proofs.YtjibbegdieiknaaDoor
open Go.RowKit
set_option linter.unusedVariables false
set_option linter.unusedSimpArgs false

theorem st_must {e : Int} (h : e ≠ 0) (b : Bool) : mustE e b = e := by rw [mustE, if_neg (by simp [h])]
theorem st_need {e : Int} (h : e ≠ 0) (m n : Nat) : needE e m n = e := by rw [needE, if_neg (by simp [h])]
theorem st_num {e : Int} (h : e ≠ 0) (p : List Int) : numE p e = e := by rw [numE, if_neg (by simp [h])]
theorem st_nm {e : Int} (h : e ≠ 0) (p : List Int) : nmE p e = e := by
  have h1 : nmE1 p e = e := by rw [nmE1, st_need h, st_must h]
  rw [nmE, h1, st_need h]
theorem st_ln {e : Int} (h : e ≠ 0) (p : List Int) : lnE p e = e := by rw [lnE, st_num h, st_need h]
theorem st_l6 {e : Int} (h : e ≠ 0) {p : List Int} {b : Int} (h5 : lgE5 p 0 b = e) : lgE p 0 b = e := by
  have h6 : lgE6 p 0 b = e := by
    rw [lgE6, h5]
    split
    · rw [st_num h, st_must h]
    · rfl
  rw [lgE, h6, st_ln h]
theorem st_l4 {e : Int} (h : e ≠ 0) {p : List Int} {b : Int} (h4 : lgE4 p 0 b = e) : lgE p 0 b = e := st_l6 h (by rw [lgE5, h4, st_nm h])
theorem st_l3 {e : Int} (h : e ≠ 0) {p : List Int} {b : Int} (h3 : lgE3 p 0 b = e) : lgE p 0 b = e := st_l4 h (by rw [lgE4, h3, st_nm h])

theorem nm_nil : nmE [] 0 = 2 := rfl
theorem nm_big {n : Int} {r : List Int} (h : 20 < n) : nmE (n :: r) 0 = 4 := by
  have e1 : nmE1 (n :: r) 0 = 4 := by
    rw [nmE1, show needE 0 (n :: r).length 1 = 0 by rw [needE, if_neg (by simp)], show byteV (n :: r) 0 = n from rfl, mustE, if_pos ⟨rfl, by simp; omega⟩]
  rw [nmE, e1, st_need (by decide)]
theorem nm_sh {n : Nat} {r : List Int} (h : n ≤ 20) (hl : r.length < n) : nmE ((n : Int) :: r) 0 = 2 := by
  have e1 : nmE1 ((n : Int) :: r) 0 = 0 := by
    rw [nmE1, show needE 0 ((n : Int) :: r).length 1 = 0 by rw [needE, if_neg (by simp)], show byteV ((n : Int) :: r) 0 = n from rfl, mustE, if_neg (by simp; omega)]
  have hT : tkL ((n : Int) :: r) 0 1 = r := by rw [tkL, if_pos ⟨rfl, by simp⟩]; rfl
  rw [nmE, e1, hT, show (byteV ((n : Int) :: r) 0).toNat = n from rfl, needE, if_pos ⟨rfl, hl⟩]
theorem nm_ok {n : Nat} {r : List Int} (h : n ≤ 20) (hl : n ≤ r.length) : nmE ((n : Int) :: r) 0 = 0 ∧ nmL ((n : Int) :: r) 0 = r.drop n ∧ nmO ((n : Int) :: r) 0 = r.take n := by
  have e := nm_all (r.take n) (r.drop n) (by rw [List.length_take]; omega)
  rw [List.take_append_drop, show (r.take n).length = n by rw [List.length_take]; omega] at e
  exact e

section
variable {f : Int} {r : List Int}
theorem fix_of (h : f / 64 % 2 = 0) : fixOk f = false := by unfold fixOk; simp; omega
theorem fix_of' (h : ¬ f / 64 % 2 = 0) : fixOk f = true := by unfold fixOk; simp; omega
theorem hd_one (f : Int) (r : List Int) : byteV (f :: r) 0 = f ∧ needE 0 (f :: r).length 1 = 0 ∧ hdP1 (f :: r) 0 = r :=
  ⟨rfl, by rw [needE, if_neg (by simp)], by rw [hdP1, tkL, if_pos ⟨rfl, by simp⟩]; rfl⟩
theorem rd_fix (h : f / 64 % 2 = 0) : rdErr (f :: r) = 4 := by
  obtain ⟨h1, h2, h3⟩ := hd_one f r
  have hE1 : hdE1 (f :: r) 0 = 4 := by rw [hdE1, h1, h2, fix_of h]; rfl
  have hE : hdE (f :: r) 0 = 4 := by
    rw [hdE, hE1]
    split
    · rw [shE, st_need (by decide)]
    · have g1 : lgE1 4 (byteV (f :: r) 0) = 4 := st_must (by decide) _
      have g3 : lgE3 (hdP1 (f :: r) 0) 4 (byteV (f :: r) 0) = 4 := by rw [lgE3, g1, st_need (by decide), st_must (by decide)]
      have g4 : lgE4 (hdP1 (f :: r) 0) 4 (byteV (f :: r) 0) = 4 := by rw [lgE4, g3, st_nm (by decide)]
      have g5 : lgE5 (hdP1 (f :: r) 0) 4 (byteV (f :: r) 0) = 4 := by rw [lgE5, g4, st_nm (by decide)]
      have g6 : lgE6 (hdP1 (f :: r) 0) 4 (byteV (f :: r) 0) = 4 := by
        rw [lgE6, g5]
        split
        · rw [st_num (by decide), st_must (by decide)]
        · rfl
      rw [lgE, g6, st_ln (by decide)]
  rw [rdErr, hE, st_must (by decide)]
theorem short_gen (hlt : f < 128) (hf : ¬ f / 64 % 2 = 0) :
    (r.length < 8 → rdErr (f :: r) = 2) ∧ (8 ≤ r.length → r.length < 28 → rdErr (f :: r) = 4) ∧
      (28 ≤ r.length → rdErr (f :: r) = 0 ∧ rdAt (f :: r) = 9 ∧ hdV (f :: r) 0 = (r.length : Int) - 8 ∧ hdLong (f :: r) 0 = false ∧ hdLvl (f :: r) 0 = 2 ∧ hdTo (f :: r) 0 = r.take 8 ∧ hdFr (f :: r) 0 = []) := by
  obtain ⟨hb, hn, hP1⟩ := hd_one f r
  have hE1 : hdE1 (f :: r) 0 = 0 := by rw [hdE1, hb, fix_of' hf, hn]; rfl
  have hE : hdE (f :: r) 0 = needE 0 r.length 8 := by rw [hdE, hb, if_pos hlt, shE, hE1, hP1]
  have hP : hdP (f :: r) 0 = tkL r 0 8 := by rw [hdP, hb, if_pos hlt, shL, hE1, hP1]
  have hV : hdV (f :: r) 0 = ((leftV (tkL r 0 8) (needE 0 r.length 8)).length : Int) := by rw [hdV, hb, if_pos hlt, shN, shL, shE, hE1, hP1]
  refine ⟨fun h => ?_, fun h1 h2 => ?_, fun h => ?_⟩
  · have e : needE 0 r.length 8 = 2 := by rw [needE, if_pos ⟨rfl, h⟩]
    rw [rdErr, hE, e, mustE, if_neg (by omega)]
  · have e : needE 0 r.length 8 = 0 := by rw [needE, if_neg (by omega)]
    have t : tkL r 0 8 = r.drop 8 := by rw [tkL, if_pos ⟨rfl, h1⟩]
    rw [rdErr, hE, hV, e, t, leftV, if_pos rfl, mustE, if_pos ⟨rfl, by simp; omega⟩]
  · have e : needE 0 r.length 8 = 0 := by rw [needE, if_neg (by omega)]
    have t : tkL r 0 8 = r.drop 8 := by rw [tkL, if_pos ⟨rfl, by omega⟩]
    have v : hdV (f :: r) 0 = (r.length : Int) - 8 := by rw [hV, e, t, leftV, if_pos rfl]; simp; omega
    have er : rdErr (f :: r) = 0 := by rw [rdErr, hE, v, e, mustE, if_neg (by simp; omega)]
    refine ⟨er, ?_, v, ?_, ?_, ?_, ?_⟩
    · rw [rdAt, rdLeft, er, hP, t, leftV, if_pos rfl]
      simp
      omega
    · rw [hdLong, hb]; simp [hlt]
    · rw [hdLvl, hb, if_pos hlt]
    · rw [hdTo, hb, if_pos hlt, hE1, hP1, tkO, if_pos ⟨rfl, by omega⟩]
    · rw [hdFr, hb, if_pos hlt]

/-- A long head's: what Read's model says, told by the parts behind the first byte. -/
theorem long_of (hlt : ¬ f < 128) (hf : ¬ f / 64 % 2 = 0) :
    hdE (f :: r) 0 = lgE r 0 f ∧ hdV (f :: r) 0 = lgV r 0 f ∧ hdP (f :: r) 0 = lgP r 0 f ∧ hdLong (f :: r) 0 = true ∧ hdLvl (f :: r) 0 = lvl f ∧ hdTo (f :: r) 0 = lgTo r 0 f ∧ hdFr (f :: r) 0 = lgFr r 0 f := by
  obtain ⟨hb, hn, hP1⟩ := hd_one f r
  have hE1 : hdE1 (f :: r) 0 = 0 := by rw [hdE1, hb, fix_of' hf, hn]; rfl
  exact ⟨by rw [hdE, hb, if_neg hlt, hE1, hP1], by rw [hdV, hb, if_neg hlt, hE1, hP1], by rw [hdP, hb, if_neg hlt, hE1, hP1], by rw [hdLong, hb]; simp; omega,
    by rw [hdLvl, hb, if_neg hlt], by rw [hdTo, hb, if_neg hlt, hE1, hP1], by rw [hdFr, hb, if_neg hlt, hE1, hP1]⟩
theorem rd_lg {e : Int} (hlt : ¬ f < 128) (hf : ¬ f / 64 % 2 = 0) (h : lgE r 0 f = e) (he : e ≠ 0) : rdErr (f :: r) = e := by
  rw [rdErr, (long_of hlt hf).1, h, st_must he]
theorem rd_lvl (hlt : ¬ f < 128) (hf : ¬ f / 64 % 2 = 0) (h0 : ¬ f / 16 % 4 = 0) (h2 : ¬ f / 16 % 4 = 2) : rdErr (f :: r) = 4 := by
  have g1 : lgE1 0 f = 4 := by rw [lgE1, show lvlOk f = false by unfold lvlOk; simp [h0, h2]]; rfl
  exact rd_lg hlt hf (st_l3 (by decide) (by rw [lgE3, g1, st_need (by decide), st_must (by decide)])) (by decide)
theorem lvl_ok (h : f / 16 % 4 = 0 ∨ f / 16 % 4 = 2) : lgE1 0 f = 0 := by
  rw [lgE1, show lvlOk f = true by unfold lvlOk; simpa using h]; rfl
theorem rd_four (hlt : ¬ f < 128) (hf : ¬ f / 64 % 2 = 0) (hl : f / 16 % 4 = 0 ∨ f / 16 % 4 = 2) (h : r.length < 4) : rdErr (f :: r) = 2 :=
  rd_lg hlt hf (st_l3 (by decide) (by rw [lgE3, lvl_ok hl, show needE 0 r.length 4 = 2 by rw [needE, if_pos ⟨rfl, h⟩], st_must (by decide)])) (by decide)
theorem lg_ver (hl : f / 16 % 4 = 0 ∨ f / 16 % 4 = 2) (h : 4 ≤ r.length) : lgE3 r 0 f = mustE 0 (sameB (r.take 4) [0, 0, 0, 1]) ∧ lgP2 r 0 f = r.drop 4 := by
  refine ⟨?_, ?_⟩
  · rw [lgE3, lvl_ok hl, show needE 0 r.length 4 = 0 by rw [needE, if_neg (by omega)], tkO, if_pos ⟨rfl, h⟩]
  · rw [lgP2, lvl_ok hl, tkL, if_pos ⟨rfl, h⟩]
end
/-- Behind the names: a length, that there is, or isn't. -/
theorem ln_no {q : List Int} (h : rdS q = 0) : lnE q 0 = 2 := by rw [lnE, numE, if_pos ⟨rfl, h⟩]; rfl
theorem ln_parts {q : List Int} (h : rdS q ≠ 0) : numE q 0 = 0 ∧ numN q 0 = rdN q ∧ numL q 0 = q.drop (rdS q) :=
  ⟨by rw [numE, if_neg (by simp [h])], by rw [numN, if_pos ⟨rfl, h⟩], by rw [numL, if_pos rfl]⟩
theorem ln_far {q : List Int} {n : Nat} (h : rdS q ≠ 0) (hn : rdN q = n) (hl : (q.drop (rdS q)).length < n) : lnE q 0 = 2 := by
  obtain ⟨h1, h2, h3⟩ := ln_parts h
  rw [lnE, h1, h2, h3, hn, needE, if_pos ⟨rfl, hl⟩]
theorem ln_yes {q : List Int} {n : Nat} (h : rdS q ≠ 0) (hn : rdN q = n) (hl : n ≤ (q.drop (rdS q)).length) : lnE q 0 = 0 ∧ lnV q 0 = n ∧ numL q 0 = q.drop (rdS q) := by
  obtain ⟨h1, h2, h3⟩ := ln_parts h
  have e : lnE q 0 = 0 := by rw [lnE, h1, h2, h3, hn, needE, if_neg (by simp; simp at hl; omega)]
  exact ⟨e, by rw [lnV, if_pos e, h2, hn], h3⟩
end Go.Proofs.YtjibbegdieiknaaDoor

/-
  Bytes of a head: what both answer, for every head, number and size; and what Read makes of it.
-/
namespace Go.Proofs.YtjibbegdieiknaaDoor
open Go.RowKit
set_option linter.unusedVariables false
set_option linter.unusedSimpArgs false

def byE (lg : Bool) (lv : Int) (ph : Bool) (a b : List Int) (z L : Int) : Int :=
  if z < 1 ∨ 4 < z ∨ L < 0 then 1 else if lg = true ∧ 16383 - z < L then 3 else if rightB lg lv ph a b then 0 else 4
def byB (lg : Bool) (lv : Int) (ph : Bool) (a b : List Int) (pn z L : Int) : List Int :=
  if byE lg lv ph a b z L = 0 then (if lg then longS z.toNat lv a b pn L else shortS z.toNat ph a pn) else []
def ByQ (lg : Bool) (lv : Int) (ph : Bool) (a b : List Int) (pn z L : Int) (w : World) (r : Ending) (w' : World) : Prop :=
  ∃ A' c', r = .returned (.tuple #[.slice A' (byB lg lv ph a b pn z L).length c', .int .i64 (byE lg lv ph a b z L)]) ∧ Own w' w.heap.size A' c' (byB lg lv ph a b pn z L) ∧ Below w.heap.size w w'
theorem byq_no {lg : Bool} {lv : Int} {ph : Bool} {a b : List Int} {pn z L : Int} {w : World} {r : Ending} {w' : World} {E : Int} (h : byE lg lv ph a b z L = E) (hE : E ≠ 0) (hr : r = .returned (.tuple #[.slice none 0 0, .int .i64 E])) (hb : Below w.heap.size w w') : ByQ lg lv ph a b pn z L w r w' := by
  subst h
  refine ⟨none, 0, ?_, ?_, hb⟩
  · rw [hr, byB, if_neg hE]; rfl
  · rw [byB, if_neg hE]; exact Own.nil _ _
theorem byq_yes {lg : Bool} {lv : Int} {ph : Bool} {a b : List Int} {pn z L : Int} {w : World} {r : Ending} {w' : World} {O : List Int} (h : byE lg lv ph a b z L = 0) (hO : O = if lg then longS z.toNat lv a b pn L else shortS z.toNat ph a pn)
    (hr : ∃ A' c', r = .returned (.tuple #[.slice A' O.length c', .int .i64 0]) ∧ Own w' w.heap.size A' c' O ∧ Below w.heap.size w w') : ByQ lg lv ph a b pn z L w r w' := by
  subst hO
  unfold ByQ byB
  rw [h, if_pos rfl]
  exact hr
/-- The five ways. -/
theorem by_ways (lg : Bool) (lv : Int) (ph : Bool) (a b : List Int) (z L : Int) :
    ((z < 1 ∨ (1 ≤ z ∧ 4 < z) ∨ (1 ≤ z ∧ z ≤ 4 ∧ L < 0)) ∧ byE lg lv ph a b z L = 1) ∨
    (1 ≤ z ∧ z ≤ 4 ∧ 0 ≤ L ∧ ((lg = true ∧ 16383 - z < L ∧ byE lg lv ph a b z L = 3) ∨ ((lg = true → L ≤ 16383 - z) ∧ ((rightB lg lv ph a b = false ∧ byE lg lv ph a b z L = 4) ∨ (rightB lg lv ph a b = true ∧ byE lg lv ph a b z L = 0))))) := by
  by_cases h : z < 1 ∨ 4 < z ∨ L < 0
  · exact .inl ⟨by omega, by rw [byE, if_pos h]⟩
  · right
    refine ⟨by omega, by omega, by omega, ?_⟩
    by_cases h2 : lg = true ∧ 16383 - z < L
    · exact .inl ⟨h2.1, h2.2, by rw [byE, if_neg h, if_pos h2]⟩
    · refine .inr ⟨fun e => by have : ¬ 16383 - z < L := fun h3 => h2 ⟨e, h3⟩; omega, ?_⟩
      cases hr : rightB lg lv ph a b
      · exact .inl ⟨rfl, by rw [byE, if_neg h, if_neg h2, hr]; rfl⟩
      · exact .inr ⟨rfl, by rw [byE, if_neg h, if_neg h2, hr]; rfl⟩

/-- What Read makes of a head's bytes and so many zeros behind them. -/
theorem by_read {lg : Bool} {lv : Int} {ph : Bool} {a b : List Int} {pn z L : Int} (n : Nat) (hn : (n : Int) = L) (hE : byE lg lv ph a b z L = 0) (h20 : 20 ≤ L + z) (hl : L ≤ 2000) :
    rdErr (byB lg lv ph a b pn z L ++ List.replicate n 0) = 0 ∧ rdAt (byB lg lv ph a b pn z L ++ List.replicate n 0) = ((byB lg lv ph a b pn z L).length : Int) - z ∧
      rdAt (byB lg lv ph a b pn z L ++ List.replicate n 0) + hdV (byB lg lv ph a b pn z L ++ List.replicate n 0) 0 = ((byB lg lv ph a b pn z L ++ List.replicate n 0).length : Int) ∧
      hdLong (byB lg lv ph a b pn z L ++ List.replicate n 0) 0 = lg ∧ hdLvl (byB lg lv ph a b pn z L ++ List.replicate n 0) 0 = lv ∧ hdTo (byB lg lv ph a b pn z L ++ List.replicate n 0) 0 = a ∧ hdFr (byB lg lv ph a b pn z L ++ List.replicate n 0) 0 = b := by
  have hw := by_ways lg lv ph a b z L
  rw [hE] at hw
  have hz : 1 ≤ z ∧ z ≤ 4 ∧ 0 ≤ L ∧ (lg = true → L ≤ 16383 - z) ∧ rightB lg lv ph a b = true := by
    rcases hw with ⟨_, h⟩ | ⟨h1, h4, hL, ⟨_, _, h⟩ | ⟨hf, ⟨_, h⟩ | ⟨hr, _⟩⟩⟩
    · omega
    · omega
    · omega
    · exact ⟨h1, h4, hL, hf, hr⟩
  obtain ⟨h1, h4, hL, hf, hr⟩ := hz
  obtain ⟨s, rfl⟩ := Int.eq_ofNat_of_zero_le (show 0 ≤ z by omega)
  have hB : byB lg lv ph a b pn s L = if lg then longS s lv a b pn L else shortS s ph a pn := by rw [byB, hE, if_pos rfl]; rfl
  rw [hB]
  have hbe : (be pn s).length = s := be_length _ _
  cases lg
  · have hrr : lv = 2 ∧ a.length = 8 ∧ b = [] := by
      unfold rightB at hr
      simp at hr
      exact ⟨hr.1.1, by omega, hr.2⟩
    obtain ⟨rfl, ha8, rfl⟩ := hrr
    obtain ⟨f, hff⟩ : ∃ f, f = (if ph then 64 + (s : Int) - 1 + 4 else 64 + (s : Int) - 1) := ⟨_, rfl⟩
    have hq : shortS s ph a pn ++ List.replicate n 0 = f :: (a ++ be pn s ++ List.replicate n 0) := by rw [shortS, hff]; rfl
    have hlt : f < 128 := by rw [hff]; split <;> omega
    have hfx : ¬ f / 64 % 2 = 0 := by rw [hff]; split <;> omega
    have hrl : (a ++ be pn s ++ List.replicate n 0).length = 8 + s + n := by simp only [List.length_append, hbe, List.length_replicate, ha8]
    have h28 : 28 ≤ (a ++ be pn s ++ List.replicate n 0).length := by omega
    obtain ⟨m1, m2, m3, m4, m5, m6, m7⟩ := (short_gen (f := f) (r := a ++ be pn s ++ List.replicate n 0) hlt hfx).2.2 h28
    simp only [Bool.false_eq_true, if_false]
    rw [hq]
    have hsl : (shortS s ph a pn).length = 9 + s := by rw [shortS, List.length_cons, List.length_append, hbe, ha8]; omega
    refine ⟨m1, ?_, ?_, m4, m5, ?_, m7⟩
    · rw [m2, hsl]; omega
    · rw [m2, m3, List.length_cons, hrl]; omega
    · rw [m6, List.append_assoc, List.take_append_of_le_length (by omega), List.take_of_length_le (by omega)]
  · have hrr : ph = false ∧ (lv = 0 ∨ lv = 1) ∧ a.length ≤ 20 ∧ b.length ≤ 20 := by
      unfold rightB at hr
      simp at hr
      exact ⟨hr.2, by omega, by omega, by omega⟩
    obtain ⟨rfl, hlv, hal, hbl⟩ := hrr
    have hL2 := hf rfl
    simp only [if_true]
    obtain ⟨h1', h2', h3', h4', h5', h6', h7'⟩ := long_all lv s (s + L) a b (be pn s ++ List.replicate n 0) hlv (by omega) hal hbl (by omega) (by simp only [List.length_append, hbe, List.length_replicate]; omega) (longS s lv a b pn L ++ List.replicate n 0) (by
      rw [longS, show (192 + 32 * lv + (s : Int) - 1 : Int) = 191 + 32 * lv + s by omega]
      simp)
    have hlen : (longS s lv a b pn L ++ List.replicate n 0).length = (longS s lv a b pn L).length + n := by rw [List.length_append, List.length_replicate]
    refine ⟨h1', ?_, ?_, h4', h5', h6', h7'⟩
    · rw [rdAt, h3', hlen]; simp only [List.length_append, hbe, List.length_replicate]; omega
    · rw [rdAt, h2', h3', hlen]; simp only [List.length_append, hbe, List.length_replicate]; omega
end Go.Proofs.YtjibbegdieiknaaDoor

/-
  head.Bytes.
-/
namespace Go.Proofs.YtjibbegdieiknaaDoor
open Go.RowKit
set_option linter.unusedVariables false
set_option linter.unusedSimpArgs false

theorem Bytes_arg (lg : Bool) (lv : Int) (ph : Bool) (A : Option Addr) (a : List Int) (c : Nat) (B : Option Addr) (b : List Int) (d : Nat) (pn z L : Int) (w : World) (h : z < 1 ∨ (1 ≤ z ∧ 4 < z) ∨ (1 ≤ z ∧ z ≤ 4 ∧ L < 0)) :
    Calls Tryd.prog 23 #[HV lg lv ph A a c B b d, .int .u64 pn, .int .i64 z, .int .i64 L] w fun r w' => r = .returned (.tuple #[.slice none 0 0, .int .i64 1]) ∧ Below w.heap.size w w' := by
  unfold HV
  rcases h with h1 | ⟨h1, h2⟩ | ⟨h1, h2, h3⟩
  · go_enter Tryd.func23, Tryd.ntmps23
    go_wp2_with fail
    go_ret2
    exact ⟨rfl, (Below.refl _ _).alloc (Nat.le_refl _) _⟩
  · have q1 : decide (z < 1) = false := by simp; omega
    have q2 : decide (4 < z) = true := by simp; omega
    go_enter Tryd.func23, Tryd.ntmps23
    go_wp2_with fail
    go_ret2
    exact ⟨rfl, (Below.refl _ _).alloc (Nat.le_refl _) _⟩
  · have q1 : decide (z < 1) = false := by simp; omega
    have q2 : decide (4 < z) = false := by simp; omega
    have q3 : decide (L < 0) = true := by simp; omega
    go_enter Tryd.func23, Tryd.ntmps23
    go_wp2_with fail
    go_ret2
    exact ⟨rfl, (Below.refl _ _).alloc (Nat.le_refl _) _⟩
theorem Bytes_far (lv : Int) (ph : Bool) (A : Option Addr) (a : List Int) (c : Nat) (B : Option Addr) (b : List Int) (d : Nat) (pn z L : Int) (w : World) (hz : 1 ≤ z) (hz4 : z ≤ 4) (hL : 0 ≤ L) (h : 16383 - z < L) :
    Calls Tryd.prog 23 #[HV true lv ph A a c B b d, .int .u64 pn, .int .i64 z, .int .i64 L] w fun r w' => r = .returned (.tuple #[.slice none 0 0, .int .i64 3]) ∧ Below w.heap.size w w' := by
  unfold HV
  have q1 : decide (z < 1) = false := by simp; omega
  have q2 : decide (4 < z) = false := by simp; omega
  have q3 : decide (L < 0) = false := by simp; omega
  have q4 : decide (16383 - z < L) = true := by simp; omega
  go_enter Tryd.func23, Tryd.ntmps23
  go_wp2_with fail
  go_ret2
  exact ⟨rfl, (Below.refl _ _).alloc (Nat.le_refl _) _⟩
theorem Bytes_bad (lg : Bool) (lv : Int) (ph : Bool) (A : Option Addr) (a : List Int) (c : Nat) (B : Option Addr) (b : List Int) (d : Nat) (pn z L : Int) (w : World) (hz : 1 ≤ z) (hz4 : z ≤ 4) (hL : 0 ≤ L) (h : lg = true → L ≤ 16383 - z) (hr : rightB lg lv ph a b = false) :
    Calls Tryd.prog 23 #[HV lg lv ph A a c B b d, .int .u64 pn, .int .i64 z, .int .i64 L] w fun r w' => r = .returned (.tuple #[.slice none 0 0, .int .i64 4]) ∧ Below w.heap.size w w' := by
  have CV := (fun W => valid_any lg lv ph A a c B b d W)
  rw [hr] at CV
  unfold HV at CV ⊢
  have CV' := Lib.hid CV
  have q1 : decide (z < 1) = false := by simp; omega
  have q2 : decide (4 < z) = false := by simp; omega
  have q3 : decide (L < 0) = false := by simp; omega
  clear CV hr
  cases lg
  case' true => have q4 : decide (16383 - z < L) = false := by have := h rfl; simp; omega
  all_goals
    clear h
    go_enter Tryd.func23, Tryd.ntmps23
    go_wp2_with fail
    refine (CV'.out _).mono ?_
    rintro r w1 ⟨rfl, b1⟩
    have B1 := Lib.hid (below_al b1)
    clear b1
    go_wp2_with fail
    go_ret2
    exact ⟨rfl, B1.out⟩
set_option maxHeartbeats 1600000 in
theorem Bytes_ok (lg : Bool) (lv : Int) (ph : Bool) (A : Option Addr) (a : List Int) (c : Nat) (B : Option Addr) (b : List Int) (d : Nat) (pn L : Int) (s : Nat) (w : World) (hs1 : 1 ≤ s) (hs4 : s ≤ 4) (hL : 0 ≤ L) (h : lg = true → L ≤ 16383 - s) (hr : rightB lg lv ph a b = true)
    (ha : Sl w A c a) (hb : Sl w B d b) (hpn : 0 ≤ pn ∧ pn < 18446744073709551616) (ht : Tab w) (O : List Int) (hO : O = if lg then longS s lv a b pn L else shortS s ph a pn) :
    Calls Tryd.prog 23 #[HV lg lv ph A a c B b d, .int .u64 pn, .int .i64 (s : Int), .int .i64 L] w fun r w' => ∃ A' c', r = .returned (.tuple #[.slice A' O.length c', .int .i64 0]) ∧ Own w' w.heap.size A' c' O ∧ Below w.heap.size w w' := by
  have CV := (fun W => valid_any lg lv ph A a c B b d W)
  have CF := (fun W => firstByte_any lg lv ph A a c B b d (s : Int) W (by omega) hr)
  rw [hr] at CV
  have HR := Lib.hid hr
  have hal : a.length ≤ 20 ∧ b.length ≤ 20 ∧ (lg = true → ph = false ∧ (lv = 0 ∨ lv = 1)) := by
    unfold rightB at hr
    cases lg
    · simp at hr
      exact ⟨by omega, by simp [hr.2], fun h => by cases h⟩
    · simp at hr
      exact ⟨by omega, by omega, fun _ => ⟨hr.2, by omega⟩⟩
  obtain ⟨hal1, hal2, hal3⟩ := hal
  have HO := Lib.hid hO
  have q1 : decide ((s : Int) < 1) = false := by simp; omega
  have q2 : decide (4 < (s : Int)) = false := by simp; omega
  have q3 : decide (L < 0) = false := by simp; omega
  obtain ⟨F, hF⟩ : ∃ F, F = fB lg lv ph (s : Int) := ⟨_, rfl⟩
  rw [← hF] at CF
  have HF := Lib.hid hF
  have SA := Lib.hid ha
  have SB := Lib.hid hb
  have HT := Lib.hid ht
  have HPN := Lib.hid hpn
  have hg := ht.1
  unfold HV at CV CF ⊢
  have CV' := Lib.hid CV
  have CF' := Lib.hid CF
  have HG := Lib.hid hg
  clear CV CF hO hF ha hb ht hpn hr hg
  cases lg
  · clear h hal3
    go_enter Tryd.func23, Tryd.ntmps23
    go_wp2_with fail
    refine (CV'.out _).mono ?_
    rintro r w1 ⟨rfl, b1⟩
    have k1 := (Blk.new w 25 #[.bool false, .int .i64 lv, .bool ph, .slice A a.length c, .slice B b.length d]).below b1 (by simp)
    have B1 := Lib.hid (below_al b1)
    have K1 := Lib.hid k1
    have q0 := k1.cell 0
    have r1 := k1.cell 1
    have r2 := k1.cell 2
    have r3 := k1.cell 3
    have r4 := k1.cell 4
    clear b1 k1
    go_wp2_with fail
    refine (CF'.out _).mono ?_
    rintro r w2 ⟨rfl, b2⟩
    have k2 := K1.out.below b2 K1.out.lt
    have B2 := Lib.hid (B1.out.trans (b2.mono B1.out.size))
    have bl : Below w2.heap.size w2 (w2.alloc (.cells #[.int .u8 F] 5)) := (Below.refl _ _).alloc (Nat.le_refl _) _
    have O2 := Lib.hid (own_lit1 w2 F (Nat.le_refl _))
    have RA := Lib.hid ((SA.out.rd.below B2.out).below bl)
    have B3 := Lib.hid (B2.out.trans (bl.mono B2.out.size))
    have s0 := (k2.below bl k2.lt).cell 0
    have s3 := (k2.below bl k2.lt).cell 3
    have HZ := Lib.hid bl.size
    obtain ⟨X, hX⟩ : ∃ X, X = [F] ++ a := ⟨_, rfl⟩
    have hXl : X.length ≤ 21 := by rw [hX, List.length_append]; simp; omega
    have HX := Lib.hid hX
    clear b2 k2 bl q0 r1 r2 r3 r4 hX K1
    go_wp2_with (at_builtin
                 refine wpList_appX rfl (.tmp 44) (.tmp 46) rfl w2.heap.size (l := [F]) (news := a) X HX.out rfl rfl O2.out RA.out (by simp; omega) HZ.out ?_
                 intro A5 c5 w5 o5 g5 b5
                 have O5 := Lib.hid o5
                 have B5 := Lib.hid (B3.out.trans (b5.mono B2.out.size))
                 have H5 := Lib.hid (Nat.le_trans HZ.out b5.size)
                 clear o5 g5 b5)
    refine (appendNumber_any A5 c5 X pn s w2.heap.size w5 O5.out (by omega) H5.out HPN.out hs4).mono ?_
    rintro r w6 ⟨A6, c6, rfl, o6, b6⟩
    have hXO : X ++ be pn s = O := by
      rw [HX.out, HO.out, HF.out, shortS, fB]
      cases ph <;> rfl
    rw [hXO] at o6 ⊢
    have O6 := Lib.hid (o6.base_le B2.out.size)
    have B6 := Lib.hid (B5.out.trans (b6.mono B2.out.size))
    clear o6 b6 hXO
    go_wp2_with fail
    go_ret2
    exact ⟨_, _, rfl, O6.out, B6.out⟩
  · obtain ⟨rfl, hlv⟩ := hal3 rfl
    have hL2 := h rfl
    have q4 : decide (16383 - (s : Int) < L) = false := by simp; omega
    have HLV := Lib.hid hlv
    clear h hal3 hlv
    go_enter Tryd.func23, Tryd.ntmps23
    go_wp2_with fail
    refine (CV'.out _).mono ?_
    rintro r w1 ⟨rfl, b1⟩
    have k1 := (Blk.new w 25 #[.bool true, .int .i64 lv, .bool false, .slice A a.length c, .slice B b.length d]).below b1 (by simp)
    have B1 := Lib.hid (below_al b1)
    have K1 := Lib.hid k1
    have q0 := k1.cell 0
    have r1 := k1.cell 1
    have r2 := k1.cell 2
    have r3 := k1.cell 3
    have r4 := k1.cell 4
    clear b1 k1
    go_wp2_with fail
    refine (CF'.out _).mono ?_
    rintro r w2 ⟨rfl, b2⟩
    have k2 := K1.out.below b2 K1.out.lt
    have B2 := Lib.hid (B1.out.trans (b2.mono B1.out.size))
    have bl : Below w2.heap.size w2 (w2.alloc (.cells #[.int .u8 F] 5)) := (Below.refl _ _).alloc (Nat.le_refl _) _
    have O2 := own_lit1 w2 F (Nat.le_refl _)
    have B3 := Lib.hid (B2.out.trans (bl.mono B2.out.size))
    have sa : SlB (w2.alloc (.cells #[.int .u8 F] 5)) w2.heap.size A c a := by
      have := SA.out.below B2.out
      exact ⟨(Reads.below this.rd bl), this.le, this.max, this.nil⟩
    have sb : SlB (w2.alloc (.cells #[.int .u8 F] 5)) w2.heap.size B d b := by
      have := SB.out.below B2.out
      exact ⟨(Reads.below this.rd bl), this.le, this.max, this.nil⟩
    have CA := appendLong_any lv (some ⟨w2.heap.size, 0, none⟩) 1 [F] A c a B d b ((s : Int) + L) w2.heap.size (w2.alloc (.cells #[.int .u8 F] 5)) O2 (by simp) bl.size HLV.out hal1 hal2 sa sb (by omega) ((HT.out.below B2.out).below bl) (Nat.lt_of_lt_of_le HG.out B2.out.size)
    unfold HV at CA
    obtain ⟨X, hX⟩ : ∃ X, X = [F] ++ apL lv a b ((s : Int) + L) := ⟨_, rfl⟩
    rw [← hX] at CA
    have hXl : X.length ≤ 200 := by
      rw [hX, apL]
      simp only [List.length_append, wenc_length _ _ (show 1 ≤ 2 by omega)]
      have : ((if lv = 0 then [0] else []) : List Int).length ≤ 1 := by split <;> simp
      simp
      omega
    have HX := Lib.hid hX
    have CA' := Lib.hid CA
    have k3 := k2.below bl k2.lt
    have s0 := k3.cell 0
    have s1 := k3.cell 1
    have s2 := k3.cell 2
    have s3 := k3.cell 3
    have s4 := k3.cell 4
    have HZ := Lib.hid bl.size
    clear b2 k2 bl q0 r1 r2 r3 r4 hX K1 CA O2 sa sb k3
    go_wp2_with fail
    refine CA'.out.mono ?_
    rintro r w5 ⟨A5, c5, rfl, o5, b5⟩
    have O5 := Lib.hid o5
    have B5 := Lib.hid (B3.out.trans (b5.mono B2.out.size))
    have H5 := Lib.hid (Nat.le_trans HZ.out b5.size)
    clear o5 b5 CA'
    go_wp2_with fail
    refine (appendNumber_any A5 c5 X pn s w2.heap.size w5 O5.out (by omega) H5.out HPN.out hs4).mono ?_
    rintro r w6 ⟨A6, c6, rfl, o6, b6⟩
    have hXO : X ++ be pn s = O := by
      rw [HX.out, HO.out, HF.out, longS, fB, apL]
      simp
    rw [hXO] at o6 ⊢
    have O6 := Lib.hid (o6.base_le B2.out.size)
    have B6 := Lib.hid (B5.out.trans (b6.mono B2.out.size))
    clear o6 b6 hXO
    go_wp2_with fail
    go_ret2
    exact ⟨_, _, rfl, O6.out, B6.out⟩
theorem Bytes_u (lg : Bool) (lv : Int) (ph : Bool) (A : Option Addr) (a : List Int) (c : Nat) (B : Option Addr) (b : List Int) (d : Nat) (pn z L : Int) (w : World) (ha : Sl w A c a) (hb : Sl w B d b) (hpn : 0 ≤ pn ∧ pn < 18446744073709551616) (ht : Tab w) :
    Calls Tryd.prog 23 #[HV lg lv ph A a c B b d, .int .u64 pn, .int .i64 z, .int .i64 L] w fun r w' => ByQ lg lv ph a b pn z L w r w' := by
  rcases by_ways lg lv ph a b z L with ⟨h, hE⟩ | ⟨h1, h4, hL, ⟨hlg, hf, hE⟩ | ⟨hf, ⟨hr, hE⟩ | ⟨hr, hE⟩⟩⟩
  · exact (Bytes_arg lg lv ph A a c B b d pn z L w h).mono fun r w' h => byq_no hE (by decide) h.1 h.2
  · subst hlg
    exact (Bytes_far lv ph A a c B b d pn z L w h1 h4 hL hf).mono fun r w' h => byq_no hE (by decide) h.1 h.2
  · exact (Bytes_bad lg lv ph A a c B b d pn z L w h1 h4 hL hf hr).mono fun r w' h => byq_no hE (by decide) h.1 h.2
  · obtain ⟨s, rfl⟩ := Int.eq_ofNat_of_zero_le (show 0 ≤ z by omega)
    exact (Bytes_ok lg lv ph A a c B b d pn L s w (by omega) (by omega) hL hf hr ha hb hpn ht _ rfl).mono fun r w' h => byq_yes hE rfl h
end Go.Proofs.YtjibbegdieiknaaDoor

/-
  parcel's small functions: maskFirst, maskNumber, reserved, number.
-/
namespace Go.Proofs.YtjibbegdieiknaaDoor
open Go.RowKit
set_option maxRecDepth 100000
set_option linter.unusedVariables false
set_option linter.unusedSimpArgs false

/-- The first byte masked. -/
def mF (f m : Int) : Int := bits .xor .u8 f (bits .and .u8 m (if f < 128 then 31 else 15))
theorem and128n (b : Int) (h : 0 ≤ b ∧ b < 256) : (bits .and .u8 b 128 != 0) = decide (128 ≤ b) := by
  have := and128 b h
  rw [bne, this]
  by_cases h1 : b < 128
  · simp [h1]
  · simp [h1]; omega
set_option maxHeartbeats 800000 in
theorem maskFirst_any (f : Int) (m : List Int) (w : World) (hf : 0 ≤ f ∧ f < 256) (hm : m.length = 5) :
    Calls Tryd.prog 27 #[.int .u8 f, .agg (IV .u8 m).toArray] w fun r w' => r = .returned (.int .u8 (mF f (m.getD 0 0))) ∧ w' = w.alloc (.cells (IV .u8 m).toArray 59) := by
  obtain ⟨x, t, rfl⟩ : ∃ x t, m = x :: t := by
    cases m with
    | nil => cases hm
    | cons x t => exact ⟨x, t, rfl⟩
  have e1 := and128n f hf
  obtain ⟨M, hM⟩ : ∃ M, M = (IV .u8 (x :: t)).toArray := ⟨_, rfl⟩
  have c0 : (w.alloc (.cells M 59)).cell? ⟨w.heap.size, 0, none⟩ = some (.int .u8 x) := by
    rw [hM]; exact (Blk.new w 59 _).cell_i (l := x :: t) rfl
  rw [← hM, show (x :: t).getD 0 0 = x from rfl]
  clear hm
  by_cases h : f < 128
  · have e2 : decide (128 ≤ f) = false := by simp; omega
    have e3 : mF f x = bits .xor .u8 f (bits .and .u8 x 31) := by rw [mF, if_pos h]
    rw [e2] at e1
    rw [e3]
    clear hM e2 e3
    go_enter Tryd.func27, Tryd.ntmps27
    go_wp2_with fail
    go_ret
    exact ⟨rfl, rfl⟩
  · have e2 : decide (128 ≤ f) = true := by simp; omega
    have e3 : mF f x = bits .xor .u8 f (bits .and .u8 x 15) := by rw [mF, if_neg h]
    rw [e2] at e1
    rw [e3]
    clear hM e2 e3
    go_enter Tryd.func27, Tryd.ntmps27
    go_wp2_with fail
    go_ret
    exact ⟨rfl, rfl⟩

theorem reserved_any (lg : Bool) (w : World) : Calls Tryd.prog 32 #[.bool lg] w fun r w' => r = .returned (.int .u8 (if lg then 12 else 24)) ∧ w' = w := by
  cases lg
  · go_enter Tryd.func32, Tryd.ntmps32
    go_wp2_with fail
    go_ret
    exact ⟨rfl, rfl⟩
  · go_enter Tryd.func32, Tryd.ntmps32
    go_wp2_with fail
    go_ret
    exact ⟨rfl, rfl⟩

/-- The k bytes of L from a on, masked. -/
def xorK (L : List Int) (a : Nat) (m : List Int) (k : Nat) : List Int := L.mapIdx fun i x => if a ≤ i ∧ i < a + k then bits .xor .u8 x (m.getD (1 + i - a) 0) else x
theorem xorK_length (L : List Int) (a : Nat) (m : List Int) (k : Nat) : (xorK L a m k).length = L.length := by simp [xorK]
theorem xorK_at (L : List Int) (a : Nat) (m : List Int) (k i : Nat) : (xorK L a m k)[i]? = (L[i]?).map fun x => if a ≤ i ∧ i < a + k then bits .xor .u8 x (m.getD (1 + i - a) 0) else x := by simp [xorK]
theorem xorK_zero (L : List Int) (a : Nat) (m : List Int) : xorK L a m 0 = L := by
  apply List.ext_getElem?
  intro i
  rw [xorK_at]
  cases L[i]? with
  | none => rfl
  | some x => simp only [Option.map_some]; rw [if_neg (by omega)]
theorem xorK_next (L : List Int) (a : Nat) (m : List Int) (k : Nat) {x y : Int} (hx : L[a + k]? = some x) (hy : m.getD (1 + k) 0 = y) : (xorK L a m k).set (a + k) (bits .xor .u8 x y) = xorK L a m (k + 1) := by
  apply List.ext_getElem?
  intro i
  rw [List.getElem?_set, xorK_at, xorK_at, xorK_length]
  by_cases h : a + k = i
  · subst h
    have hl : a + k < L.length := by
      rcases Nat.lt_or_ge (a + k) L.length with h | h
      · exact h
      · rw [List.getElem?_eq_none h] at hx; cases hx
    rw [if_pos rfl, if_pos hl, hx, Option.map_some, if_pos (by omega), ← hy, show 1 + (a + k) - a = 1 + k by omega]
  · rw [if_neg h]
    cases L[i]? with
    | none => rfl
    | some x =>
      simp only [Option.map_some]
      by_cases h2 : a ≤ i ∧ i < a + k
      · rw [if_pos h2, if_pos (by omega)]
      · rw [if_neg h2, if_neg (by omega)]
theorem xorK_here (L : List Int) (a : Nat) (m : List Int) (k : Nat) {x : Int} (hx : L[a + k]? = some x) : (xorK L a m k)[a + k]? = some x := by
  rw [xorK_at, hx, Option.map_some, if_neg (by omega)]
theorem xorK_bytes {L : List Int} (hL : Bytes L) (a : Nat) {m : List Int} (hm : Bytes m) (k : Nat) : Bytes (xorK L a m k) := by
  intro x hx
  obtain ⟨i, hi⟩ := List.mem_iff_getElem?.1 hx
  rw [xorK_at] at hi
  cases hl : L[i]? with
  | none => rw [hl] at hi; cases hi
  | some y =>
    rw [hl, Option.map_some] at hi
    injection hi with hi
    have hy := hL y (List.mem_of_getElem? hl)
    subst hi
    split
    · exact xor8 hy (getD_byte hm _)
    · exact hy

theorem Own.frozen {w : World} {base c g : Nat} {l : List Int} (h : Own w base (some ⟨g, 0, none⟩) c l) (i : Nat) : w.frozen? ⟨g, i, none⟩ = false := by
  rcases h.2 with ⟨h2, _⟩ | ⟨g', cap, cur, hv, hg, hh, _⟩
  · cases h2
  · injection hv with e1 e2 e3
    injection e1 with e1
    injection e1 with e1
    subst e1
    exact (show Blk w g 5 cur from hh).frozen i
set_option maxHeartbeats 1600000 in
theorem maskNumber_any (g c' a s c base : Nat) (L m : List Int) (w : World) (own : Own w base (some ⟨g, 0, none⟩) c' L) (hs : s ≤ 4) (ha : a + s ≤ L.length) (hm : m.length = 5) (hc : s ≤ c) (h0 : 0 < L.length) :
    Calls Tryd.prog 28 #[.slice (some ⟨g, a, none⟩) s c, .agg (IV .u8 m).toArray] w fun r w' => r = .returned (.tuple #[]) ∧ Own w' base (some ⟨g, 0, none⟩) c' (xorK L a m s) ∧ w.grownBy w' (some g) := by
  obtain ⟨M, hM⟩ : ∃ M, M = (IV .u8 m).toArray := ⟨_, rfl⟩
  have bM : Blk (w.alloc (.cells M 59)) w.heap.size 59 (IV .u8 m).toArray := by rw [hM]; exact Blk.new _ _ _
  have hM5 : M.size = 5 := by rw [hM]; simp [IV, hm]
  rw [← hM]
  have hgl : g < w.heap.size := by
    obtain ⟨g', e, _, hl⟩ := own.form h0
    injection e with e; injection e with e; omega
  have O1 : Own (w.alloc (.cells M 59)) base (some ⟨g, 0, none⟩) c' (xorK L a m 0) := by rw [xorK_zero]; exact own.alloc _
  have G1 : w.grownBy (w.alloc (.cells M 59)) (some g) := World.grownBy_alloc w _ _
  have HM := Lib.hid hM
  clear own hM
  go_enter Tryd.func28, Tryd.ntmps28
  go_wp2_with fail
  go_loopw [7] (fun i wr => ∃ k : Nat, k ≤ s ∧ i = .int .i64 k ∧ Blk wr w.heap.size 59 (IV .u8 m).toArray ∧ Own wr base (some ⟨g, 0, none⟩) c' (xorK L a m k) ∧ w.grownBy wr (some g)) (fun i _ => s - (intOf i).toNat)
  case atStart => exact ⟨0, by omega, rfl, bM, O1, G1⟩
  case round =>
    obtain ⟨k, hk, rfl, b0, o0, g0⟩ := hrel
    by_cases hks : k < s
    · have hak : a + k < L.length := by omega
      have hx : L[a + k]? = some L[a + k] := List.getElem?_eq_getElem hak
      have hy : m[1 + k]? = some (m.getD (1 + k) 0) := by rw [List.getD_eq_getElem?_getD, List.getElem?_eq_getElem (by omega)]; rfl
      have cx := (Rd.of_own o0).cell (xorK_here L a m k hx)
      have cy := b0.cell_i hy
      have fx := o0.frozen (a + k)
      have O2 := Lib.hid (o0.store (a + k) (bits .xor .u8 L[a + k] (m.getD (1 + k) 0)) (by rw [xorK_length]; exact hak))
      rw [xorK_next L a m k hx rfl] at O2
      obtain ⟨x, hxx⟩ : ∃ x, x = L[a + k] := ⟨_, rfl⟩
      obtain ⟨y, hyy⟩ : ∃ y, y = m.getD (1 + k) 0 := ⟨_, rfl⟩
      rw [← hxx] at cx O2
      rw [← hyy] at cy O2
      rw [Nat.zero_add] at cx
      have B0 := Lib.hid b0
      have G0 := Lib.hid g0
      clear hx hy hxx hyy b0 o0 g0 bM O1 G1
      go_wp2_with fail
      go_region
      go_wp2_with fail
      go_roundw
      case rel => exact ⟨k + 1, by omega, by go_num, B0.out.far (p := ⟨g, a + k, none⟩) (by simp; omega) _, O2.out, only_drewN (only_setCell G0.out (Or.inl rfl) _) 1⟩
      case measure => simp [intOf]; omega
    · obtain rfl : k = s := by omega
      clear b0 bM O1 G1
      go_wp2_with fail
      go_end0
      exact ⟨rfl, o0, g0⟩

/-- Bytes as a number, the first the greatest. -/
def numB (l : List Int) : Int := l.foldl (fun n b => n * 256 + b) 0
theorem numB_snoc (l : List Int) (b : Int) : numB (l ++ [b]) = numB l * 256 + b := by simp [numB]
theorem numB_from : ∀ (l : List Int), Bytes l → ∀ n : Int, 0 ≤ n → 0 ≤ l.foldl (fun n b => n * 256 + b) n ∧ l.foldl (fun n b => n * 256 + b) n < (n + 1) * 256 ^ l.length
  | [], _, n, hn => by simp; omega
  | b :: l, h, n, hn => by
    have h2 := h b (by simp)
    have ih := numB_from l (fun x hx => h x (by simp [hx])) (n * 256 + b) (by omega)
    refine ⟨ih.1, Int.lt_of_lt_of_le ih.2 ?_⟩
    rw [List.length_cons, Int.pow_succ, show (n + 1) * (256 ^ l.length * 256) = ((n + 1) * 256) * 256 ^ l.length by rw [Int.mul_comm (256 ^ l.length) 256, ← Int.mul_assoc]]
    exact Int.mul_le_mul_of_nonneg_right (by omega) (Int.le_of_lt (Int.pow_pos (by decide)))
theorem numB_range (l : List Int) (h : Bytes l) : 0 ≤ numB l ∧ numB l < 256 ^ l.length := by
  have := numB_from l h 0 (by omega)
  rwa [Int.zero_add, Int.one_mul] at this
theorem or_shl (n b : Int) (hn : 0 ≤ n ∧ n < 16777216) (hb : 0 ≤ b ∧ b < 256) : bits .or .u64 (n * 256) b = n * 256 + b := by
  obtain ⟨x, rfl⟩ := Int.eq_ofNat_of_zero_le hn.1
  obtain ⟨y, rfl⟩ := Int.eq_ofNat_of_zero_le hb.1
  have h := u64_or_nat (x * 256) y (by omega) (by omega)
  rw [show ((x * 256 : Nat) : Int) = (x : Int) * 256 by simp] at h
  rw [h, show x * 256 = x <<< 8 by rw [Nat.shiftLeft_eq], ← Nat.shiftLeft_add_eq_or_of_lt (by omega), Nat.shiftLeft_eq]
  simp
set_option maxHeartbeats 800000 in
theorem number_any (A : Option Addr) (c : Nat) (l : List Int) (w : World) (h : Rd w A l) (hb : Bytes l) (hl : l.length ≤ 4) :
    Calls Tryd.prog 44 #[.slice A l.length c] w fun r w' => r = .returned (.int .u64 (numB l)) ∧ w' = w := by
  go_enter Tryd.func44, Tryd.ntmps44
  go_wp2_with fail
  go_loop [3, 8] (fun n i => ∃ k : Nat, k ≤ l.length ∧ i = .int .i64 k ∧ n = .int .u64 (numB (l.take k))) (fun _ i => l.length - (intOf i).toNat)
  case atStart => exact ⟨0, by omega, rfl, rfl⟩
  case round =>
    obtain ⟨k, hk, rfl, rfl⟩ := hrel
    by_cases hkl : k < l.length
    · obtain ⟨b, off, x, rfl, hbw, hx, cx⟩ := RdI.at_ (k := .u8) h hkl
      have hx2 := hb x (List.mem_of_getElem? hx)
      have e1 : numB (l.take (k + 1)) = numB (l.take k) * 256 + x := by
        rw [List.take_add_one, hx]; exact numB_snoc _ _
      have h1 := numB_range (l.take k) (hb.take k)
      have h2 : numB (l.take k) < 16777216 := by
        have : (l.take k).length ≤ 3 := by simp; omega
        refine Int.lt_of_lt_of_le h1.2 ?_
        obtain h | h | h | h : (l.take k).length = 0 ∨ (l.take k).length = 1 ∨ (l.take k).length = 2 ∨ (l.take k).length = 3 := by omega
        all_goals rw [h]; decide
      have e2 := or_shl (numB (l.take k)) x ⟨h1.1, h2⟩ hx2
      obtain ⟨n, hn⟩ : ∃ n, n = numB (l.take k) := ⟨_, rfl⟩
      rw [← hn] at e1 e2 h1 h2 ⊢
      have E1 := Lib.hid e1
      clear e1 hn
      go_wp2_with fail
      go_round
      case rel => exact ⟨k + 1, by omega, by go_num, by rw [E1.out, ← e2]⟩
      case measure => simp [intOf]; omega
    · obtain rfl : k = l.length := by omega
      rw [List.take_length]
      go_wp2_with fail
      go_ret
      exact ⟨rfl, rfl⟩
end Go.Proofs.YtjibbegdieiknaaDoor
