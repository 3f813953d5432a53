/-
  The reference's Read of a long head.
-/
import Derived.Test.YtomapklkbfjafaaHeadR
namespace Go.Proofs.Ytomapklkbfjafaa
open Go.RowKit
set_option linter.unusedVariables false

def Stg (r : List Int) (f : Int) (k : Nat) (q To Fr : List Int) : Prop :=
  (k = 0 ∧ lgE3 r 0 f = 0 ∧ lgP2 r 0 f = q ∧ To = [] ∧ Fr = []) ∨ (k = 1 ∧ lgE4 r 0 f = 0 ∧ lgP4 r 0 f = q ∧ lgTo r 0 f = To ∧ Fr = []) ∨ (k = 2 ∧ lgE5 r 0 f = 0 ∧ lgP5 r 0 f = q ∧ lgTo r 0 f = To ∧ lgFr r 0 f = Fr)
theorem Stg.bad {r : List Int} {f : Int} {k : Nat} {q To Fr : List Int} (h : Stg r f k q To Fr) (hk : k < 2) {e : Int} (he : e ≠ 0) (hn : nmE q 0 = e) : lgE r 0 f = e := by
  rcases h with ⟨rfl, h1, h2, _⟩ | ⟨rfl, h1, h2, _⟩ | ⟨rfl, _⟩
  · exact st_l4 he (by rw [lgE4, h1, h2, hn])
  · exact st_l6 he (by rw [lgE5, h1, h2, hn])
  · omega
theorem Stg.next {r : List Int} {f : Int} {k : Nat} {q To Fr q' N : List Int} (h : Stg r f k q To Fr) (hk : k < 2) (h1 : nmE q 0 = 0) (h2 : nmL q 0 = q') (h3 : nmO q 0 = N) :
    (k = 0 → Stg r f 1 q' N []) ∧ (k = 1 → Stg r f 2 q' To N) := by
  rcases h with ⟨rfl, g1, g2, g3, g4⟩ | ⟨rfl, g1, g2, g3, g4⟩ | ⟨rfl, _⟩
  · exact ⟨fun _ => .inr (.inl ⟨rfl, by rw [lgE4, g1, g2, h1], by rw [lgP4, g1, g2, h2], by rw [lgTo, g1, g2, h3], rfl⟩), fun h => by omega⟩
  · exact ⟨fun h => by omega, fun _ => .inr (.inr ⟨rfl, by rw [lgE5, g1, g2, h1], by rw [lgP5, g1, g2, h2], g3, by rw [lgFr, g1, g2, h3]⟩)⟩
  · omega
theorem Stg.fr {r : List Int} {f : Int} {q To Fr : List Int} {k : Nat} (h : Stg r f k q To Fr) (hk : k < 2) : Fr = [] ∧ (k = 0 → To = []) := by
  rcases h with ⟨rfl, g1, g2, g3, g4⟩ | ⟨rfl, g1, g2, g3, g4⟩ | ⟨rfl, _⟩
  · exact ⟨g4, fun _ => g3⟩
  · exact ⟨g4, fun h => by omega⟩
  · omega
/-- What is left behind the names and the token. -/
def Tl (r : List Int) (f : Int) (q : List Int) : Prop := lgE6 r 0 f = 0 ∧ lgP6 r 0 f = q
theorem Stg.tok0 {r : List Int} {f : Int} {q To Fr : List Int} (h : Stg r f 2 q To Fr) (hl : lvl f = 0) :
    (rdS q = 0 → lgE r 0 f = 2) ∧ (rdS q ≠ 0 → rdN q ≠ 0 → lgE r 0 f = 4) ∧ (rdS q ≠ 0 → rdN q = 0 → Tl r f (q.drop (rdS q))) := by
  rcases h with ⟨h, _⟩ | ⟨h, _⟩ | ⟨_, g1, g2, g3, g4⟩
  · omega
  · omega
  · refine ⟨fun h => ?_, fun h hn => ?_, fun h hn => ?_⟩
    · have h6 : lgE6 r 0 f = 2 := by rw [lgE6, if_pos hl, g1, g2, numE, if_pos ⟨rfl, h⟩, st_must (by decide)]
      rw [lgE, h6, st_ln (by decide)]
    · obtain ⟨p1, p2, p3⟩ := ln_parts h
      have h6 : lgE6 r 0 f = 4 := by rw [lgE6, if_pos hl, g1, g2, p1, p2, mustE, if_pos ⟨rfl, by simpa using hn⟩]
      rw [lgE, h6, st_ln (by decide)]
    · obtain ⟨p1, p2, p3⟩ := ln_parts h
      exact ⟨by rw [lgE6, if_pos hl, g1, g2, p1, p2, hn]; rfl, by rw [lgP6, if_pos hl, g1, g2, p3]⟩
theorem Stg.tok1 {r : List Int} {f : Int} {q To Fr : List Int} (h : Stg r f 2 q To Fr) (hl : lvl f ≠ 0) : Tl r f q := by
  rcases h with ⟨h, _⟩ | ⟨h, _⟩ | ⟨_, g1, g2, g3, g4⟩
  · omega
  · omega
  · exact ⟨by rw [lgE6, if_neg hl, g1], by rw [lgP6, if_neg hl, g2]⟩
theorem Stg.names {r : List Int} {f : Int} {q To Fr : List Int} (h : Stg r f 2 q To Fr) : lgTo r 0 f = To ∧ lgFr r 0 f = Fr := by
  rcases h with ⟨h, _⟩ | ⟨h, _⟩ | ⟨_, g1, g2, g3, g4⟩
  · omega
  · omega
  · exact ⟨g3, g4⟩
theorem Tl.no {r : List Int} {f : Int} {q : List Int} (h : Tl r f q) (h0 : rdS q = 0) : lgE r 0 f = 2 := by rw [lgE, h.1, h.2, ln_no h0]
theorem Tl.far {r : List Int} {f : Int} {q : List Int} {n : Nat} (h : Tl r f q) (h0 : rdS q ≠ 0) (hn : rdN q = n) (hl : (q.drop (rdS q)).length < n) : lgE r 0 f = 2 := by rw [lgE, h.1, h.2, ln_far h0 hn hl]
theorem Tl.yes {r : List Int} {f : Int} {q : List Int} {n : Nat} (h : Tl r f q) (h0 : rdS q ≠ 0) (hn : rdN q = n) (hl : n ≤ (q.drop (rdS q)).length) : lgE r 0 f = 0 ∧ lgV r 0 f = n ∧ lgP r 0 f = q.drop (rdS q) := by
  obtain ⟨h1, h2, h3⟩ := ln_yes h0 hn hl
  exact ⟨by rw [lgE, h.1, h.2, h1], by rw [lgV, h.1, h.2, h2], by rw [lgP, h.1, h.2, h3]⟩
theorem long_few {f : Int} {r : List Int} (hlt : ¬ f < 128) (hf : ¬ f / 64 % 2 = 0) (h : lgE r 0 f = 0) (hv : lgV r 0 f < 20) : rdErr (f :: r) = 4 := by
  obtain ⟨h1, h2, _⟩ := long_of (r := r) hlt hf
  rw [rdErr, h1, h2, h, mustE, if_pos ⟨rfl, by simp; omega⟩]
theorem long_ok {f : Int} {r q : List Int} (hlt : ¬ f < 128) (hf : ¬ f / 64 % 2 = 0) (h : lgE r 0 f = 0) (hv : 20 ≤ lgV r 0 f) (hp : lgP r 0 f = q) : rdErr (f :: r) = 0 ∧ rdAt (f :: r) = ((f :: r).length : Int) - q.length := by
  obtain ⟨h1, h2, h3, _⟩ := long_of (r := r) hlt hf
  have e : rdErr (f :: r) = 0 := by rw [rdErr, h1, h2, h, mustE, if_neg (by simp; omega)]
  exact ⟨e, by rw [rdAt, rdLeft, e, h3, hp]; rfl⟩
/-- What the reference's Read answers. -/
def RdAns (p : List Int) (w : World) (r : Ending) (w' : World) : Prop := (rdErr p ≠ 0 ∧ RdNo (rdErr p) w r w') ∨ (rdErr p = 0 ∧ RdYes p w r w')
theorem RdAns.no {p : List Int} {w : World} {r : Ending} {w' : World} {E : Int} (h : rdErr p = E) (hE : E ≠ 0) (hb : Below w.heap.size w w')
    (hr : r = .returned (.tuple #[.agg #[.bool false, .int .i64 0, .bool false, .slice none 0 0, .slice none 0 0], .int .i64 0, .int .i64 0, .int .i64 E])) : RdAns p w r w' := by
  subst h
  exact .inl ⟨hE, hr, hb⟩
def ZZ (w wr : World) : Prop := Blk wr w.heap.size 27 #[.bool false, .int .i64 0, .bool false, .slice none 0 0, .slice none 0 0] ∧ Blk wr (w.heap.size + 1) 27 #[.bool false, .int .i64 0, .bool false, .slice none 0 0, .slice none 0 0] ∧ Below w.heap.size w wr
theorem ZZ.below {w a b : World} (h : ZZ w a) (hb : Below a.heap.size a b) : ZZ w b := ⟨h.1.below hb h.1.lt, h.2.1.below hb h.2.1.lt, h.2.2.trans (hb.mono h.2.2.size)⟩
theorem ZZ.set_ {w a : World} (h : ZZ w a) (j : Nat) (u : Value) : ZZ w (a.setCell ⟨w.heap.size + 2, j, none⟩ u) := by
  refine ⟨?_, ?_, h.2.2.setCell (p := ⟨w.heap.size + 2, j, none⟩) (by show w.heap.size ≤ w.heap.size + 2; omega) u⟩
  · exact h.1.far (p := ⟨w.heap.size + 2, j, none⟩) (by show w.heap.size ≠ w.heap.size + 2; omega) u
  · exact h.2.1.far (p := ⟨w.heap.size + 2, j, none⟩) (by show w.heap.size + 1 ≠ w.heap.size + 2; omega) u
theorem zz_start (w : World) (x : Array Value) : ZZ w (((w.alloc (.cells #[.bool false, .int .i64 0, .bool false, .slice none 0 0, .slice none 0 0] 27)).alloc (.cells #[.bool false, .int .i64 0, .bool false, .slice none 0 0, .slice none 0 0] 27)).alloc (.cells x 27)) ∧
    Blk (((w.alloc (.cells #[.bool false, .int .i64 0, .bool false, .slice none 0 0, .slice none 0 0] 27)).alloc (.cells #[.bool false, .int .i64 0, .bool false, .slice none 0 0, .slice none 0 0] 27)).alloc (.cells x 27)) (w.heap.size + 2) 27 x := by
  obtain ⟨h1, h2, h3⟩ := z5_start w
  refine ⟨⟨h1.alloc _, h2.alloc _, h3.alloc (by simp; omega) _⟩, ?_⟩
  have := Blk.new ((w.alloc (.cells #[.bool false, .int .i64 0, .bool false, .slice none 0 0, .slice none 0 0] 27)).alloc (.cells #[.bool false, .int .i64 0, .bool false, .slice none 0 0, .slice none 0 0] 27)) 27 x
  simpa using this
theorem zz_ret {w wr : World} (h : ZZ w wr) : Blk (set5 wr w.heap.size (.bool false) (.int .i64 0) (.bool false) (.slice none 0 0) (.slice none 0 0)) w.heap.size 27 #[.bool false, .int .i64 0, .bool false, .slice none 0 0, .slice none 0 0] ∧
    Below w.heap.size w (set5 wr w.heap.size (.bool false) (.int .i64 0) (.bool false) (.slice none 0 0) (.slice none 0 0)) :=
  ⟨set5_blk h.1 _ _ _ _ _, below_set5 h.2.2 (Nat.le_refl _) _ _ _ _ _⟩
theorem SlB.below {w w' : World} {B : Nat} {A : Option Addr} {c : Nat} {l : List Int} (h : SlB w B A c l) {n : Nat} (hb : Below n w w') (hn : B ≤ n) : SlB w' B A c l := h.keep fun p hp => hb.cell (by omega)
theorem SlB.sl {w : World} {B : Nat} {A : Option Addr} {c : Nat} {l : List Int} (h : SlB w B A c l) (hn : B ≤ w.heap.size) : Sl w A c l := ⟨Reads.more h.rd hn, h.le, h.max, h.nil⟩

theorem own_set1 {w : World} {base c' : Nat} {A : Option Addr} {l : List Int} {q : Nat} {cs : Array Value} (o : Own w base A c' l) (k : Blk w q 27 cs) (j : Nat) (u : Value) : Own (w.setCell ⟨q, j, none⟩ u) base A c' l := by
  refine o.grown (row := some q) (only_set (only_refl w (some q)) (p := ⟨q, j, none⟩) rfl u) (fun g' cur k' e => ?_)
  injection e with e
  subst e
  exact absurd rfl (k.ne_ k' (by decide))

set_option maxRecDepth 100000 in
set_option maxHeartbeats 3200000 in
theorem refRead_long (A : Option Addr) (c : Nat) (f : Int) (r : List Int) (w : World) (h : Sl w A c (f :: r)) (hb : Bytes (f :: r)) (hl : (f :: r).length ≤ 300)
    (hf : ¬ f / 64 % 2 = 0) (hlt : ¬ f < 128) (hlv : f / 16 % 4 = 0 ∨ f / 16 % 4 = 2) (hr : 4 ≤ r.length) :
    Calls Try.prog 11 #[.slice A (f :: r).length c] w fun e w' => RdAns (f :: r) w e w' := by
  have h5 : 5 ≤ (f :: r).length := by rw [List.length_cons]; omega
  obtain ⟨A', s1, s2, _⟩ := slice_both A c (f :: r) 1 5 .i64 .i64 (by omega) h5 h.le
  have e1 : ((f :: r).take 5).drop 1 = r.take 4 := rfl
  rw [e1] at s1 s2
  have s1' : ∀ w, (Instr.slice 22 (.slice A (f :: r).length c) (some (.int .i64 1)) (some (.int .i64 5)) none).run Try.prog w = .ok (.slice A' (r.take 4).length (c - 1)) w := s1
  have s3 := slice_from_is A c (f :: r).length 5 .i64 5 rfl h5 h.le
  have hS5 := SlB.from_ (w := w) (B := w.heap.size) ⟨h.rd, h.le, h.max, h.nil⟩ h5
  obtain ⟨A5, hA5⟩ : ∃ A5, A5 = (if c = 5 then A else A.map (·.add (5 * 1))) := ⟨_, rfl⟩
  rw [← hA5] at s3 hS5
  have HS5 := Lib.hid (show ∀ w', Below w.heap.size w w' → SlB w' w.heap.size A5 (c - 5) (r.drop 4) from fun w' hb => hS5.below hb (Nat.le_refl _))
  have HR4 := Lib.hid (show ∀ w', Below w.heap.size w w' → Rd w' A' (r.take 4) from fun w' hb => s2 w' (h.rd.below hb))
  obtain ⟨b, off, rfl, hbw⟩ := h.rd.some_ (by simp)
  have h00 := h.rd.cell (j := 0) (x := f) rfl
  simp only [Nat.add_zero] at h00
  obtain ⟨hf0, hf1⟩ := bytes_head hb
  obtain ⟨n, hn⟩ : ∃ n, n = (f :: r).length := ⟨_, rfl⟩
  rw [← hn] at s1' s3 hl h5 ⊢
  obtain ⟨T, hT⟩ : ∃ T, T = r.take 4 := ⟨_, rfl⟩
  rw [← hT] at s1' HR4
  have hd4 : (r.drop 4).length = n - 5 := by rw [hn, List.length_drop, List.length_cons]; omega
  have hbd : Bytes (r.drop 4) := by intro x hx; exact hb x (List.mem_cons_of_mem _ (List.mem_of_mem_drop hx))
  have hbt : Bytes T := by rw [hT]; intro x hx; exact hb x (List.mem_cons_of_mem _ (List.mem_of_mem_take hx))
  have hver := lg_ver hlv hr
  rw [← hT] at hver
  obtain ⟨Q, hQ⟩ : ∃ Q, Q = r.drop 4 := ⟨_, rfl⟩
  rw [← hQ] at HS5 hd4 hbd hver
  have HN := Lib.hid hn
  have HVER := Lib.hid hver
  have HBD := Lib.hid hbd
  have HD4 := Lib.hid hd4
  have HBT := Lib.hid hbt
  have HLT := Lib.hid hlt
  have HF := Lib.hid hf
  have hz : ((n : Int) == 0) = false := by simp; omega
  obtain ⟨y, hy⟩ : ∃ y, y = f / 64 % 2 := ⟨_, rfl⟩
  rw [← hy] at hf
  have gy : f / 64 % 2 = y := hy.symm
  have hy2 : 0 ≤ y ∧ y < 2 := by omega
  have my : (y == 0) = false := by simp; omega
  have n5 : ¬ n < 5 := by omega
  clear h hb s1 s2 e1 hS5 hA5 hn hT hd4 hbd hbt hver hQ hr hf hy
  rcases hlv with gx | gx
  all_goals
    have HLVL := Lib.hid gx
    go_enter Try.func11, Try.ntmps11
    go_wp2_with fail
  · have Z := Lib.hid (zz_start w #[.bool true, .int .i64 0, .bool false, .slice none 0 0, .slice none 0 0])
    have HLV := Lib.hid (show lvl f = 0 by rw [lvl, HLVL.out]; rfl)
    have q0 : List.replicate 0 0 = ([] : List Int) := rfl
    clear q0
    have hw3 : (((w.alloc (.cells #[.bool false, .int .i64 0, .bool false, .slice none 0 0, .slice none 0 0] 27)).alloc (.cells #[.bool false, .int .i64 0, .bool false, .slice none 0 0, .slice none 0 0] 27)).alloc (.cells #[.bool true, .int .i64 0, .bool false, .slice none 0 0, .slice none 0 0] 27)).heap.size = w.heap.size + 1 + 1 + 1 := by simp
    generalize ((w.alloc (.cells #[.bool false, .int .i64 0, .bool false, .slice none 0 0, .slice none 0 0] 27)).alloc (.cells #[.bool false, .int .i64 0, .bool false, .slice none 0 0, .slice none 0 0] 27)).alloc (.cells #[.bool true, .int .i64 0, .bool false, .slice none 0 0, .slice none 0 0] 27) = w3 at Z hw3 ⊢
    rw [← hw3]
    clear hw3
    have bA : Below w3.heap.size w3 (w3.alloc (.cells #[.int .u8 0, .int .u8 0, .int .u8 0, .int .u8 1] 5)) := (Below.refl _ _).alloc (Nat.le_refl _) _
    have oA : Own (w3.alloc (.cells #[.int .u8 0, .int .u8 0, .int .u8 0, .int .u8 1] 5)) w3.heap.size (some ⟨w3.heap.size, 0, none⟩) 4 [0, 0, 0, 1] := own_lit4 w3 [0, 0, 0, 1] (Nat.le_refl _) (by decide)
    have CS : Calls Try.prog 13 #[.slice A' T.length (c - 1), .slice (some ⟨w3.heap.size, 0, none⟩) 4 4] (w3.alloc (.cells #[.int .u8 0, .int .u8 0, .int .u8 0, .int .u8 1] 5)) (fun e w' => e = .returned (.bool (sameB T [0, 0, 0, 1])) ∧ (w3.alloc (.cells #[.int .u8 0, .int .u8 0, .int .u8 0, .int .u8 1] 5)) = w') := same_any A' (some ⟨w3.heap.size, 0, none⟩) (c - 1) 4 T [0, 0, 0, 1] (w3.alloc (.cells #[.int .u8 0, .int .u8 0, .int .u8 0, .int .u8 1] 5)) (HR4.out _ (Z.out.1.2.2.trans (bA.mono Z.out.1.2.2.size))) (Rd.of_own oA) HBT.out (by intro x hx; simp at hx; rcases hx with rfl | rfl <;> omega)
    have ZA := Lib.hid (Z.out.1.below bA)
    have KA := Lib.hid (Z.out.2.below bA Z.out.2.lt)
    have CS' := Lib.hid CS
    clear CS bA oA
    refine CS'.out.mono ?_
    rintro e w4 ⟨rfl, rfl⟩
    cases hsb : sameB T [0, 0, 0, 1]
    · have HE := Lib.hid (rd_lg (Int.not_lt.2 HLT.out) HF.out (st_l3 (e := 4) (by decide) (by rw [HVER.out.1, hsb]; rfl)) (by decide))
      clear hsb
      generalize w3.alloc (.cells #[.int .u8 0, .int .u8 0, .int .u8 0, .int .u8 1] 5) = w4 at ZA ⊢
      have z0 := ZA.out.1
      have z1 := ZA.out.2.1
      have a0 := z0.frozen 0
      have a1 := z0.frozen 1
      have a2 := z0.frozen 2
      have a3 := z0.frozen 3
      have a4 := z0.frozen 4
      have b0 := z0.cell 0
      have b1 := z0.cell 1
      have b2 := z0.cell 2
      have b3 := z0.cell 3
      have b4 := z0.cell 4
      have d0 := z1.cell 0
      have d1 := z1.cell 1
      have d2 := z1.cell 2
      have d3 := z1.cell 3
      have d4 := z1.cell 4
      clear z0 z1
      go_wp2_with fail
      show bodyPost _ _ _ _ _ (set5 w4 w.heap.size _ _ _ _ _)
      refine bodyPost_ret (results_row_tmp3 rfl _ _ w.heap.size 27 _ (0, 0) _ rfl (zz_ret ZA.out).1 Try.underlying27 rfl (by kernel_rfl)) rfl ?_
      exact RdAns.no (HE.out) (by decide) (zz_ret ZA.out).2 rfl
    · have ST0 := Lib.hid (show Stg r f 0 Q [] [] from .inl ⟨rfl, by rw [HVER.out.1, hsb]; rfl, HVER.out.2, rfl, rfl⟩)
      clear hsb
      generalize w3.alloc (.cells #[.int .u8 0, .int .u8 0, .int .u8 0, .int .u8 1] 5) = w4 at ZA KA ⊢
      go_wp2_with fail
      go_loopw [9, 70] (fun rest i wr => ∃ (k : Nat) (q To Fr : List Int) (A1 : Option Addr) (c1 : Nat) (A2 : Option Addr) (c2 : Nat) (A3 : Option Addr) (c3 : Nat), k ≤ 2 ∧ i = .int .i64 k ∧ rest = .slice A3 q.length c3 ∧ SlB wr w.heap.size A3 c3 q ∧ q.length ≤ 300 ∧ Bytes q ∧ Stg r f k q To Fr ∧
        Blk wr (w.heap.size + 2) 27 #[.bool true, .int .i64 0, .bool false, .slice A1 To.length c1, .slice A2 Fr.length c2] ∧ Own wr w.heap.size A1 c1 To ∧ Own wr w.heap.size A2 c2 Fr ∧ ZZ w wr) (fun _ i _ => 2 - (intOf i).toNat)
      case atStart => exact ⟨0, Q, [], [], none, 0, none, 0, A5, c - 5, by omega, rfl, by rw [HD4.out], HS5.out _ ZA.out.2.2, by rw [HD4.out]; omega, HBD.out, ST0.out, KA.out, Own.nil _ _, Own.nil _ _, ZA.out⟩
      case round =>
        obtain ⟨k, q, To, Fr, A1, c1, A2, c2, A3, c3, hk, rfl, rfl, hsq, hql, hqb, hst, kh, ot, ofr, zz⟩ := hrel
        have HST := Lib.hid hst
        have KH := Lib.hid kh
        have OT := Lib.hid ot
        have OF := Lib.hid ofr
        have HZZ := Lib.hid zz
        have SB := Lib.hid hsq
        have hsq := SB.out.sl zz.2.2.size
        clear hst kh ot ofr zz ST0 ZA KA
        by_cases hk2 : k < 2
        · have SQ := Lib.hid hsq
          have HQB := Lib.hid hqb
          match q, SQ, SB, HQB, hql, HST with
          | [], SQ, SB, HQB, hql, HST =>
            clear hsq hqb
            have HE := Lib.hid (rd_lg (Int.not_lt.2 HLT.out) HF.out (HST.out.bad hk2 (by decide) nm_nil) (by decide))
            have z0 := HZZ.out.1
            have z1 := HZZ.out.2.1
            have a0 := z0.frozen 0
            have a1 := z0.frozen 1
            have a2 := z0.frozen 2
            have a3 := z0.frozen 3
            have a4 := z0.frozen 4
            have b0 := z0.cell 0
            have b1 := z0.cell 1
            have b2 := z0.cell 2
            have b3 := z0.cell 3
            have b4 := z0.cell 4
            have d0 := z1.cell 0
            have d1 := z1.cell 1
            have d2 := z1.cell 2
            have d3 := z1.cell 3
            have d4 := z1.cell 4
            clear z0 z1
            go_wp2_with fail
            show bodyPost _ _ _ _ _ (set5 wr w.heap.size _ _ _ _ _)
            refine bodyPost_ret (results_row_tmp3 rfl _ _ w.heap.size 27 _ (0, 0) _ rfl (zz_ret HZZ.out).1 Try.underlying27 rfl (by kernel_rfl)) rfl ?_
            exact RdAns.no (HE.out) (by decide) (zz_ret HZZ.out).2 rfl
          | v :: q1, SQ, SB, HQB, hql, HST =>
            obtain ⟨hv0, hv1⟩ := bytes_head HQB.out
            obtain ⟨m, rfl⟩ := Int.eq_ofNat_of_zero_le hv0
            obtain ⟨bq, oq, rfl, hbq⟩ := SQ.out.rd.some_ (by simp)
            have hc0 := SQ.out.rd.cell (j := 0) (x := (m : Int)) rfl
            simp only [Nat.add_zero] at hc0
            have hql1 : (((m : Int) :: q1).length : Int) = (q1.length : Int) + 1 := by rw [List.length_cons]; omega
            obtain ⟨nq, hnq⟩ : ∃ nq, nq = ((m : Int) :: q1).length := ⟨_, rfl⟩
            rw [← hnq] at hql hql1
            have hne0 : ((nq : Int) == 0) = false := by simp; omega
            have hne1 : ¬ nq = 0 := by omega
            by_cases h20 : 20 < m
            · have HE := Lib.hid (rd_lg (Int.not_lt.2 HLT.out) HF.out (HST.out.bad hk2 (by decide) (nm_big (by omega))) (by decide))
              have h20' : (20 : Int) < (m : Int) := by omega
              clear hsq hqb
              rw [← hnq]
              have z0 := HZZ.out.1
              have z1 := HZZ.out.2.1
              have a0 := z0.frozen 0
              have a1 := z0.frozen 1
              have a2 := z0.frozen 2
              have a3 := z0.frozen 3
              have a4 := z0.frozen 4
              have b0 := z0.cell 0
              have b1 := z0.cell 1
              have b2 := z0.cell 2
              have b3 := z0.cell 3
              have b4 := z0.cell 4
              have d0 := z1.cell 0
              have d1 := z1.cell 1
              have d2 := z1.cell 2
              have d3 := z1.cell 3
              have d4 := z1.cell 4
              clear z0 z1
              go_wp2_with fail
              show bodyPost _ _ _ _ _ (set5 wr w.heap.size _ _ _ _ _)
              refine bodyPost_ret (results_row_tmp3 rfl _ _ w.heap.size 27 _ (0, 0) _ rfl (zz_ret HZZ.out).1 Try.underlying27 rfl (by kernel_rfl)) rfl ?_
              exact RdAns.no (HE.out) (by decide) (zz_ret HZZ.out).2 rfl
            · have h20' : ¬ (20 : Int) < (m : Int) := by omega
              by_cases hsh : q1.length < m
              · have HE := Lib.hid (rd_lg (Int.not_lt.2 HLT.out) HF.out (HST.out.bad hk2 (by decide) (nm_sh (by omega) hsh)) (by decide))
                have hsh' : ((nq : Int) < 1 + (m : Int)) := by omega
                clear hsq hqb
                rw [← hnq]
                have z0 := HZZ.out.1
                have z1 := HZZ.out.2.1
                have a0 := z0.frozen 0
                have a1 := z0.frozen 1
                have a2 := z0.frozen 2
                have a3 := z0.frozen 3
                have a4 := z0.frozen 4
                have b0 := z0.cell 0
                have b1 := z0.cell 1
                have b2 := z0.cell 2
                have b3 := z0.cell 3
                have b4 := z0.cell 4
                have d0 := z1.cell 0
                have d1 := z1.cell 1
                have d2 := z1.cell 2
                have d3 := z1.cell 3
                have d4 := z1.cell 4
                clear z0 z1
                go_wp2_with fail
                show bodyPost _ _ _ _ _ (set5 wr w.heap.size _ _ _ _ _)
                refine bodyPost_ret (results_row_tmp3 rfl _ _ w.heap.size 27 _ (0, 0) _ rfl (zz_ret HZZ.out).1 Try.underlying27 rfl (by kernel_rfl)) rfl ?_
                exact RdAns.no (HE.out) (by decide) (zz_ret HZZ.out).2 rfl
              · have hsh' : ¬ ((nq : Int) < 1 + (m : Int)) := by omega
                obtain ⟨x1, x2, x3⟩ := nm_ok (n := m) (r := q1) (by omega) (by omega)
                have hnx := HST.out.next hk2 x1 x2 x3
                have hfr := HST.out.fr hk2
                obtain ⟨A7, u1, u2, _⟩ := slice_both (some ⟨bq, oq, none⟩) c3 ((m : Int) :: q1) 1 (1 + m) .i64 .i64 (by omega) (by rw [← hnq]; omega) SQ.out.le
                have ee : (((m : Int) :: q1).take (1 + m)).drop 1 = q1.take m := by rw [Nat.add_comm]; rfl
                rw [ee] at u1 u2
                have e1m : (((1 + m : Nat)) : Int) = 1 + (m : Int) := by omega
                rw [e1m] at u1
                have u1' : ∀ w, (Instr.slice 22 (.slice (some ⟨bq, oq, none⟩) ((m : Int) :: q1).length c3) (some (.int .i64 1)) (some (.int .i64 (1 + (m : Int)))) none).run Try.prog w = .ok (.slice A7 (q1.take m).length (c3 - 1)) w := u1
                have u3 := slice_from_is (some ⟨bq, oq, none⟩) c3 ((m : Int) :: q1).length (1 + m) .i64 (1 + (m : Int)) e1m.symm (by rw [← hnq]; omega) SQ.out.le
                have hS8 := SB.out.from_ (k := 1 + m) (by rw [← hnq]; omega)
                have hd8 : ((m : Int) :: q1).drop (1 + m) = q1.drop m := by rw [Nat.add_comm]; rfl
                rw [hd8] at hS8
                obtain ⟨A8, hA8⟩ : ∃ A8, A8 = (if c3 = 1 + m then some (⟨bq, oq, none⟩ : Addr) else (some (⟨bq, oq, none⟩ : Addr)).map (·.add ((1 + m) * 1))) := ⟨_, rfl⟩
                rw [← hA8] at u3 hS8
                obtain ⟨N, hN⟩ : ∃ N, N = q1.take m := ⟨_, rfl⟩
                obtain ⟨q2, hq2⟩ : ∃ q2, q2 = q1.drop m := ⟨_, rfl⟩
                have hql2 : nq - (1 + m) = q2.length := by rw [hq2, List.length_drop]; omega
                have hNl : N.length ≤ 300 := by rw [hN, List.length_take]; omega
                have hb2 : Bytes q2 := by rw [hq2]; intro x hx; exact HQB.out x (List.mem_cons_of_mem _ (List.mem_of_mem_drop hx))
                rw [← hN] at u1' u2 hnx
                rw [← hq2] at hS8 hnx
                rw [← hnq] at u1' u3
                rw [hql2] at u3
                have hq2l : q2.length ≤ 300 := by omega
                have RN := Lib.hid (u2 _ SQ.out.rd)
                have S8 := Lib.hid hS8
                have HNX := Lib.hid hnx
                have HFR := Lib.hid hfr
                have HB2 := Lib.hid hb2
                have CC := Lib.hid (copy_any A7 (c3 - 1) N _ RN.out (by omega))
                clear hsq hqb hnx hfr ee u1 u2 hS8 hd8 hA8 hN hq2 hb2 x1 x2 x3 e1m hql2 RN
                rw [← hnq]
                clear hnq
                have hk01 : k = 0 ∨ k = 1 := by omega
                rcases hk01 with rfl | rfl
                · have ht0 := HFR.out.2 rfl
                  have hf0' := HFR.out.1
                  subst ht0 hf0'
                  have kz : (((0 : Nat) : Int) == 0) = true := rfl
                  go_wp2_with fail
                  refine CC.out.mono ?_
                  rintro e w6 ⟨A9, c9, rfl, o9, b9⟩
                  have k9 := KH.out.below b9 KH.out.lt
                  have g3 := k9.cell 3
                  have j3 := k9.frozen 3
                  have K9 := Lib.hid k9
                  have O9 := Lib.hid (o9.base_le HZZ.out.2.2.size)
                  have OF9 := Lib.hid (OF.out.below b9)
                  have Z9 := Lib.hid (HZZ.out.below b9)
                  have S9 := Lib.hid (S8.out.below b9 HZZ.out.2.2.size)
                  clear k9 o9 b9 CC
                  go_wp2_with fail
                  go_roundw
                  case rel => exact ⟨1, q2, N, [], A9, c9, A2, c2, A8, c3 - (1 + m), by omega, by go_num, rfl, S9.out.setCell (p := ⟨w.heap.size + 2, _, none⟩) (by show w.heap.size ≤ w.heap.size + 2; omega) _, hq2l, HB2.out, HNX.out.1 trivial, by simpa using K9.out.set_ 3 (.slice A9 N.length c9), own_set1 O9.out K9.out _ _, own_set1 OF9.out K9.out _ _, Z9.out.set_ 3 _⟩
                  case measure => simp [intOf]
                · have hf0' := HFR.out.1
                  subst hf0'
                  have kz : (((1 : Nat) : Int) == 0) = false := rfl
                  go_wp2_with fail
                  refine CC.out.mono ?_
                  rintro e w6 ⟨A9, c9, rfl, o9, b9⟩
                  have k9 := KH.out.below b9 KH.out.lt
                  have g3 := k9.cell 4
                  have j3 := k9.frozen 4
                  have K9 := Lib.hid k9
                  have O9 := Lib.hid (o9.base_le HZZ.out.2.2.size)
                  have OF9 := Lib.hid (OT.out.below b9)
                  have Z9 := Lib.hid (HZZ.out.below b9)
                  have S9 := Lib.hid (S8.out.below b9 HZZ.out.2.2.size)
                  clear k9 o9 b9 CC
                  go_wp2_with fail
                  go_roundw
                  case rel => exact ⟨2, q2, To, N, A1, c1, A9, c9, A8, c3 - (1 + m), by omega, by go_num, rfl, S9.out.setCell (p := ⟨w.heap.size + 2, _, none⟩) (by show w.heap.size ≤ w.heap.size + 2; omega) _, hq2l, HB2.out, HNX.out.2 trivial, by simpa using K9.out.set_ 4 (.slice A9 N.length c9), own_set1 OF9.out K9.out _ _, own_set1 O9.out K9.out _ _, Z9.out.set_ 4 _⟩
                  case measure => simp [intOf]
        · obtain rfl : k = 2 := by omega
          have kh := KH.out
          have l1 := kh.cell 1
          clear kh
          have hTok := HST.out.tok0 HLV.out
          have SQ0 := Lib.hid hsq
          have HQB0 := Lib.hid hqb
          have HTOK := Lib.hid hTok
          clear hsq hqb hTok
          go_wp2_with fail
          by_cases hs0 : rdS q = 0
          · refine (refTake_no A3 c3 q wr SQ0.out.rd HQB0.out SQ0.out.le (by omega) hs0).mono ?_
            rintro e w5 ⟨rfl, b5⟩
            have ZC := Lib.hid (HZZ.out.below b5)
            have HE := Lib.hid (rd_lg (Int.not_lt.2 HLT.out) HF.out (HTOK.out.1 hs0) (by decide))
            clear b5 hs0
            have z0 := ZC.out.1
            have z1 := ZC.out.2.1
            have a0 := z0.frozen 0
            have a1 := z0.frozen 1
            have a2 := z0.frozen 2
            have a3 := z0.frozen 3
            have a4 := z0.frozen 4
            have b0 := z0.cell 0
            have b1 := z0.cell 1
            have b2 := z0.cell 2
            have b3 := z0.cell 3
            have b4 := z0.cell 4
            have d0 := z1.cell 0
            have d1 := z1.cell 1
            have d2 := z1.cell 2
            have d3 := z1.cell 3
            have d4 := z1.cell 4
            clear z0 z1
            go_wp2_with fail
            show bodyPost _ _ _ _ _ (set5 w5 w.heap.size _ _ _ _ _)
            refine bodyPost_ret (results_row_tmp3 rfl _ _ w.heap.size 27 _ (0, 0) _ rfl (zz_ret ZC.out).1 Try.underlying27 rfl (by kernel_rfl)) rfl ?_
            exact RdAns.no (HE.out) (by decide) (zz_ret ZC.out).2 rfl
          · refine (refTake_yes A3 c3 q wr SQ0.out.rd HQB0.out SQ0.out.le (by omega) hs0).mono ?_
            rintro e w5 ⟨A5, c5, rfl, o5, b5⟩
            have ZC := Lib.hid (HZZ.out.below b5)
            have kh5 := KH.out.below b5 KH.out.lt
            have ot5 := OT.out.below b5
            have of5 := OF.out.below b5
            obtain ⟨t, ht⟩ : ∃ t, t = rdN q := ⟨_, rfl⟩
            have ht62 := rdN_range HQB0.out
            rw [← ht] at ht62 ⊢
            by_cases ht0 : t = 0
            · have hTl := HTOK.out.2.2 hs0 (by rw [← ht]; exact ht0)
              have htz : (t != 0) = false := by simp [ht0]
              have hz5 := HZZ.out.below b5
              obtain ⟨q', hq'⟩ : ∃ q', q' = q.drop (rdS q) := ⟨_, rfl⟩
              have hql' : q'.length ≤ 300 := by rw [hq', List.length_drop]; omega
              have hqb' : Bytes q' := by rw [hq']; exact HQB0.out.drop _
              rw [← hq'] at o5 hTl ⊢
              have hsq' := Sl.of_own o5
              have HST2 := HST
              clear ZC hq' ht ht0 hs0 o5 b5 SQ0 HQB0 HTOK KH OT OF HZZ hql
              have KH := Lib.hid kh5
              have OT := Lib.hid ot5
              have OF := Lib.hid of5
              have HZZ := Lib.hid hz5
              have HTl' := Lib.hid hTl
              have HSQ' := Lib.hid hsq'
              have HQB' := Lib.hid hqb'
              clear kh5 ot5 of5 hz5 hTl hsq' hqb'
              go_wp2_with fail
              have hTl := HTl'.out
              have hsq := HSQ'.out
              have hqb := HQB'.out
              clear HTl' HSQ' HQB'
              have HT := Lib.hid hTl
              have SQ := Lib.hid hsq
              have HQB := Lib.hid hqb
              clear hTl hsq hqb
              by_cases hs : rdS q' = 0
              · refine (refTake_no A5 c5 q' w5 SQ.out.rd HQB.out SQ.out.le (by omega) hs).mono ?_
                rintro e w7 ⟨rfl, b5⟩
                have ZC := Lib.hid (HZZ.out.below b5)
                have HE := Lib.hid (rd_lg (Int.not_lt.2 HLT.out) HF.out (HT.out.no hs) (by decide))
                clear b5 hs
                have z0 := ZC.out.1
                have z1 := ZC.out.2.1
                have a0 := z0.frozen 0
                have a1 := z0.frozen 1
                have a2 := z0.frozen 2
                have a3 := z0.frozen 3
                have a4 := z0.frozen 4
                have b0 := z0.cell 0
                have b1 := z0.cell 1
                have b2 := z0.cell 2
                have b3 := z0.cell 3
                have b4 := z0.cell 4
                have d0 := z1.cell 0
                have d1 := z1.cell 1
                have d2 := z1.cell 2
                have d3 := z1.cell 3
                have d4 := z1.cell 4
                clear z0 z1
                go_wp2_with fail
                show bodyPost _ _ _ _ _ (set5 w7 w.heap.size _ _ _ _ _)
                refine bodyPost_ret (results_row_tmp3 rfl _ _ w.heap.size 27 _ (0, 0) _ rfl (zz_ret ZC.out).1 Try.underlying27 rfl (by kernel_rfl)) rfl ?_
                exact RdAns.no (HE.out) (by decide) (zz_ret ZC.out).2 rfl
              · refine (refTake_yes A5 c5 q' w5 SQ.out.rd HQB.out SQ.out.le (by omega) hs).mono ?_
                rintro e w7 ⟨A6, c6, rfl, o5, b5⟩
                have ZC := Lib.hid (HZZ.out.below b5)
                have KH5 := Lib.hid (KH.out.below b5 KH.out.lt)
                have OT5 := Lib.hid (OT.out.below b5)
                have OF5 := Lib.hid (OF.out.below b5)
                obtain ⟨m, hm⟩ := Int.eq_ofNat_of_zero_le (rdN_range HQB.out).1
                have hm62 := (rdN_range HQB.out).2
                obtain ⟨M, hM⟩ : ∃ M, M = q'.drop (rdS q') := ⟨_, rfl⟩
                have hMl : M.length ≤ 300 := by rw [hM, List.length_drop]; omega
                rw [hm] at hm62 ⊢
                rw [← hM]
                have hs0 : rdS q' ≠ 0 := hs
                have FAR := Lib.hid (fun (h : M.length < m) => rd_lg (Int.not_lt.2 HLT.out) HF.out (HT.out.far hs0 hm (by rw [← hM]; exact h)) (by decide))
                have YES := Lib.hid (fun (h : m ≤ M.length) => HT.out.yes hs0 hm (by rw [← hM]; exact h))
                have HM := Lib.hid hM
                clear o5 b5 hs hs0 hm hM
                by_cases hfar : M.length < m
                · have HE := Lib.hid (FAR.out hfar)
                  have hgt : ((M.length : Int) < (m : Int)) := by omega
                  have z0 := ZC.out.1
                  have z1 := ZC.out.2.1
                  have a0 := z0.frozen 0
                  have a1 := z0.frozen 1
                  have a2 := z0.frozen 2
                  have a3 := z0.frozen 3
                  have a4 := z0.frozen 4
                  have b0 := z0.cell 0
                  have b1 := z0.cell 1
                  have b2 := z0.cell 2
                  have b3 := z0.cell 3
                  have b4 := z0.cell 4
                  have d0 := z1.cell 0
                  have d1 := z1.cell 1
                  have d2 := z1.cell 2
                  have d3 := z1.cell 3
                  have d4 := z1.cell 4
                  clear z0 z1
                  go_wp2_with fail
                  show bodyPost _ _ _ _ _ (set5 w7 w.heap.size _ _ _ _ _)
                  refine bodyPost_ret (results_row_tmp3 rfl _ _ w.heap.size 27 _ (0, 0) _ rfl (zz_ret ZC.out).1 Try.underlying27 rfl (by kernel_rfl)) rfl ?_
                  exact RdAns.no (HE.out) (by decide) (zz_ret ZC.out).2 rfl
                · have hle : m ≤ M.length := by omega
                  have hgt : ¬ ((M.length : Int) < (m : Int)) := by omega
                  obtain ⟨y1, y2, y3⟩ := YES.out hle
                  rw [← HM.out] at y3
                  by_cases h20 : m < 20
                  · have HE := Lib.hid (long_few (Int.not_lt.2 HLT.out) HF.out y1 (by rw [y2]; omega))
                    have h20' : (m : Int) < 20 := by omega
                    clear y1 y2 y3
                    have z0 := ZC.out.1
                    have z1 := ZC.out.2.1
                    have a0 := z0.frozen 0
                    have a1 := z0.frozen 1
                    have a2 := z0.frozen 2
                    have a3 := z0.frozen 3
                    have a4 := z0.frozen 4
                    have b0 := z0.cell 0
                    have b1 := z0.cell 1
                    have b2 := z0.cell 2
                    have b3 := z0.cell 3
                    have b4 := z0.cell 4
                    have d0 := z1.cell 0
                    have d1 := z1.cell 1
                    have d2 := z1.cell 2
                    have d3 := z1.cell 3
                    have d4 := z1.cell 4
                    clear z0 z1
                    go_wp2_with fail
                    show bodyPost _ _ _ _ _ (set5 w7 w.heap.size _ _ _ _ _)
                    refine bodyPost_ret (results_row_tmp3 rfl _ _ w.heap.size 27 _ (0, 0) _ rfl (zz_ret ZC.out).1 Try.underlying27 rfl (by kernel_rfl)) rfl ?_
                    exact RdAns.no (HE.out) (by decide) (zz_ret ZC.out).2 rfl
                  · have hok := long_ok (Int.not_lt.2 HLT.out) HF.out y1 (by rw [y2]; omega) y3
                    have h20' : ¬ (m : Int) < 20 := by omega
                    have hans : ∀ e w', (∃ A1 c1 A2 c2, e = .returned (.tuple #[.agg #[.bool true, .int .i64 0, .bool false, .slice A1 To.length c1, .slice A2 Fr.length c2], .int .i64 ((n : Int) - (M.length : Int)), .int .i64 ((n : Int) - (M.length : Int) + (m : Int)), .int .i64 0]) ∧
                        Own w' w.heap.size A1 c1 To ∧ Own w' w.heap.size A2 c2 Fr ∧ Below w.heap.size w w') → RdAns (f :: r) w e w' := by
                      rintro e w' ⟨A1, c1, A2, c2, rfl, o1, o2, bb⟩
                      obtain ⟨l1, l2, l3, l4, l5, l6, l7⟩ := long_of (r := r) (Int.not_lt.2 HLT.out) HF.out
                      obtain ⟨t1, t2⟩ := HST.out.names
                      refine .inr ⟨hok.1, A1, c1, A2, c2, ?_, by rw [l6, t1]; exact o1, by rw [l7, t2]; exact o2, bb⟩
                      rw [l4, l5, l6, l7, t1, t2, hok.2, l2, y2, HLV.out, ← HN.out]
                    have HANS := Lib.hid hans
                    have k5 := KH5.out
                    have e0 := k5.cell 0
                    have e1 := k5.cell 1
                    have e2 := k5.cell 2
                    have e3 := k5.cell 3
                    have e4 := k5.cell 4
                    have hms : (m : Int) ≤ 300 := by omega
                    clear y1 y2 y3 hok hans k5 hm62
                    have z0 := ZC.out.1
                    have z1 := ZC.out.2.1
                    have a0 := z0.frozen 0
                    have a1 := z0.frozen 1
                    have a2 := z0.frozen 2
                    have a3 := z0.frozen 3
                    have a4 := z0.frozen 4
                    have b0 := z0.cell 0
                    have b1 := z0.cell 1
                    have b2 := z0.cell 2
                    have b3 := z0.cell 3
                    have b4 := z0.cell 4
                    have d0 := z1.cell 0
                    have d1 := z1.cell 1
                    have d2 := z1.cell 2
                    have d3 := z1.cell 3
                    have d4 := z1.cell 4
                    clear z0 z1
                    go_wp2_with fail
                    show bodyPost _ _ _ _ _ (set5 w7 w.heap.size _ _ _ _ _)
                    refine bodyPost_ret (results_row_tmp3 rfl _ _ w.heap.size 27 _ (0, 0) _ rfl (set5_blk ZC.out.1 _ _ _ _ _) Try.underlying27 rfl (by kernel_rfl)) rfl ?_
                    exact HANS.out _ _ ⟨_, _, _, _, rfl, set5_own OT5.out ZC.out.1 (by decide) _ _ _ _ _, set5_own OF5.out ZC.out.1 (by decide) _ _ _ _ _, below_set5 ZC.out.2.2 (Nat.le_refl _) _ _ _ _ _⟩
            · have HE := Lib.hid (rd_lg (Int.not_lt.2 HLT.out) HF.out (HTOK.out.2.1 hs0 (by rw [← ht]; exact ht0)) (by decide))
              have htz : (t != 0) = true := by simp [ht0]
              clear b5 hs0 ht ht0 o5 kh5 ot5 of5
              have z0 := ZC.out.1
              have z1 := ZC.out.2.1
              have a0 := z0.frozen 0
              have a1 := z0.frozen 1
              have a2 := z0.frozen 2
              have a3 := z0.frozen 3
              have a4 := z0.frozen 4
              have b0 := z0.cell 0
              have b1 := z0.cell 1
              have b2 := z0.cell 2
              have b3 := z0.cell 3
              have b4 := z0.cell 4
              have d0 := z1.cell 0
              have d1 := z1.cell 1
              have d2 := z1.cell 2
              have d3 := z1.cell 3
              have d4 := z1.cell 4
              clear z0 z1
              go_wp2_with fail
              show bodyPost _ _ _ _ _ (set5 w5 w.heap.size _ _ _ _ _)
              refine bodyPost_ret (results_row_tmp3 rfl _ _ w.heap.size 27 _ (0, 0) _ rfl (zz_ret ZC.out).1 Try.underlying27 rfl (by kernel_rfl)) rfl ?_
              exact RdAns.no (HE.out) (by decide) (zz_ret ZC.out).2 rfl
  · have Z := Lib.hid (zz_start w #[.bool true, .int .i64 1, .bool false, .slice none 0 0, .slice none 0 0])
    have HLV := Lib.hid (show lvl f = 1 by rw [lvl, HLVL.out]; rfl)
    have q0 : List.replicate 0 0 = ([] : List Int) := rfl
    clear q0
    have hw3 : (((w.alloc (.cells #[.bool false, .int .i64 0, .bool false, .slice none 0 0, .slice none 0 0] 27)).alloc (.cells #[.bool false, .int .i64 0, .bool false, .slice none 0 0, .slice none 0 0] 27)).alloc (.cells #[.bool true, .int .i64 1, .bool false, .slice none 0 0, .slice none 0 0] 27)).heap.size = w.heap.size + 1 + 1 + 1 := by simp
    generalize ((w.alloc (.cells #[.bool false, .int .i64 0, .bool false, .slice none 0 0, .slice none 0 0] 27)).alloc (.cells #[.bool false, .int .i64 0, .bool false, .slice none 0 0, .slice none 0 0] 27)).alloc (.cells #[.bool true, .int .i64 1, .bool false, .slice none 0 0, .slice none 0 0] 27) = w3 at Z hw3 ⊢
    rw [← hw3]
    clear hw3
    have bA : Below w3.heap.size w3 (w3.alloc (.cells #[.int .u8 0, .int .u8 0, .int .u8 0, .int .u8 1] 5)) := (Below.refl _ _).alloc (Nat.le_refl _) _
    have oA : Own (w3.alloc (.cells #[.int .u8 0, .int .u8 0, .int .u8 0, .int .u8 1] 5)) w3.heap.size (some ⟨w3.heap.size, 0, none⟩) 4 [0, 0, 0, 1] := own_lit4 w3 [0, 0, 0, 1] (Nat.le_refl _) (by decide)
    have CS : Calls Try.prog 13 #[.slice A' T.length (c - 1), .slice (some ⟨w3.heap.size, 0, none⟩) 4 4] (w3.alloc (.cells #[.int .u8 0, .int .u8 0, .int .u8 0, .int .u8 1] 5)) (fun e w' => e = .returned (.bool (sameB T [0, 0, 0, 1])) ∧ (w3.alloc (.cells #[.int .u8 0, .int .u8 0, .int .u8 0, .int .u8 1] 5)) = w') := same_any A' (some ⟨w3.heap.size, 0, none⟩) (c - 1) 4 T [0, 0, 0, 1] (w3.alloc (.cells #[.int .u8 0, .int .u8 0, .int .u8 0, .int .u8 1] 5)) (HR4.out _ (Z.out.1.2.2.trans (bA.mono Z.out.1.2.2.size))) (Rd.of_own oA) HBT.out (by intro x hx; simp at hx; rcases hx with rfl | rfl <;> omega)
    have ZA := Lib.hid (Z.out.1.below bA)
    have KA := Lib.hid (Z.out.2.below bA Z.out.2.lt)
    have CS' := Lib.hid CS
    clear CS bA oA
    refine CS'.out.mono ?_
    rintro e w4 ⟨rfl, rfl⟩
    cases hsb : sameB T [0, 0, 0, 1]
    · have HE := Lib.hid (rd_lg (Int.not_lt.2 HLT.out) HF.out (st_l3 (e := 4) (by decide) (by rw [HVER.out.1, hsb]; rfl)) (by decide))
      clear hsb
      generalize w3.alloc (.cells #[.int .u8 0, .int .u8 0, .int .u8 0, .int .u8 1] 5) = w4 at ZA ⊢
      have z0 := ZA.out.1
      have z1 := ZA.out.2.1
      have a0 := z0.frozen 0
      have a1 := z0.frozen 1
      have a2 := z0.frozen 2
      have a3 := z0.frozen 3
      have a4 := z0.frozen 4
      have b0 := z0.cell 0
      have b1 := z0.cell 1
      have b2 := z0.cell 2
      have b3 := z0.cell 3
      have b4 := z0.cell 4
      have d0 := z1.cell 0
      have d1 := z1.cell 1
      have d2 := z1.cell 2
      have d3 := z1.cell 3
      have d4 := z1.cell 4
      clear z0 z1
      go_wp2_with fail
      show bodyPost _ _ _ _ _ (set5 w4 w.heap.size _ _ _ _ _)
      refine bodyPost_ret (results_row_tmp3 rfl _ _ w.heap.size 27 _ (0, 0) _ rfl (zz_ret ZA.out).1 Try.underlying27 rfl (by kernel_rfl)) rfl ?_
      exact RdAns.no (HE.out) (by decide) (zz_ret ZA.out).2 rfl
    · have ST0 := Lib.hid (show Stg r f 0 Q [] [] from .inl ⟨rfl, by rw [HVER.out.1, hsb]; rfl, HVER.out.2, rfl, rfl⟩)
      clear hsb
      generalize w3.alloc (.cells #[.int .u8 0, .int .u8 0, .int .u8 0, .int .u8 1] 5) = w4 at ZA KA ⊢
      go_wp2_with fail
      go_loopw [9, 70] (fun rest i wr => ∃ (k : Nat) (q To Fr : List Int) (A1 : Option Addr) (c1 : Nat) (A2 : Option Addr) (c2 : Nat) (A3 : Option Addr) (c3 : Nat), k ≤ 2 ∧ i = .int .i64 k ∧ rest = .slice A3 q.length c3 ∧ SlB wr w.heap.size A3 c3 q ∧ q.length ≤ 300 ∧ Bytes q ∧ Stg r f k q To Fr ∧
        Blk wr (w.heap.size + 2) 27 #[.bool true, .int .i64 1, .bool false, .slice A1 To.length c1, .slice A2 Fr.length c2] ∧ Own wr w.heap.size A1 c1 To ∧ Own wr w.heap.size A2 c2 Fr ∧ ZZ w wr) (fun _ i _ => 2 - (intOf i).toNat)
      case atStart => exact ⟨0, Q, [], [], none, 0, none, 0, A5, c - 5, by omega, rfl, by rw [HD4.out], HS5.out _ ZA.out.2.2, by rw [HD4.out]; omega, HBD.out, ST0.out, KA.out, Own.nil _ _, Own.nil _ _, ZA.out⟩
      case round =>
        obtain ⟨k, q, To, Fr, A1, c1, A2, c2, A3, c3, hk, rfl, rfl, hsq, hql, hqb, hst, kh, ot, ofr, zz⟩ := hrel
        have HST := Lib.hid hst
        have KH := Lib.hid kh
        have OT := Lib.hid ot
        have OF := Lib.hid ofr
        have HZZ := Lib.hid zz
        have SB := Lib.hid hsq
        have hsq := SB.out.sl zz.2.2.size
        clear hst kh ot ofr zz ST0 ZA KA
        by_cases hk2 : k < 2
        · have SQ := Lib.hid hsq
          have HQB := Lib.hid hqb
          match q, SQ, SB, HQB, hql, HST with
          | [], SQ, SB, HQB, hql, HST =>
            clear hsq hqb
            have HE := Lib.hid (rd_lg (Int.not_lt.2 HLT.out) HF.out (HST.out.bad hk2 (by decide) nm_nil) (by decide))
            have z0 := HZZ.out.1
            have z1 := HZZ.out.2.1
            have a0 := z0.frozen 0
            have a1 := z0.frozen 1
            have a2 := z0.frozen 2
            have a3 := z0.frozen 3
            have a4 := z0.frozen 4
            have b0 := z0.cell 0
            have b1 := z0.cell 1
            have b2 := z0.cell 2
            have b3 := z0.cell 3
            have b4 := z0.cell 4
            have d0 := z1.cell 0
            have d1 := z1.cell 1
            have d2 := z1.cell 2
            have d3 := z1.cell 3
            have d4 := z1.cell 4
            clear z0 z1
            go_wp2_with fail
            show bodyPost _ _ _ _ _ (set5 wr w.heap.size _ _ _ _ _)
            refine bodyPost_ret (results_row_tmp3 rfl _ _ w.heap.size 27 _ (0, 0) _ rfl (zz_ret HZZ.out).1 Try.underlying27 rfl (by kernel_rfl)) rfl ?_
            exact RdAns.no (HE.out) (by decide) (zz_ret HZZ.out).2 rfl
          | v :: q1, SQ, SB, HQB, hql, HST =>
            obtain ⟨hv0, hv1⟩ := bytes_head HQB.out
            obtain ⟨m, rfl⟩ := Int.eq_ofNat_of_zero_le hv0
            obtain ⟨bq, oq, rfl, hbq⟩ := SQ.out.rd.some_ (by simp)
            have hc0 := SQ.out.rd.cell (j := 0) (x := (m : Int)) rfl
            simp only [Nat.add_zero] at hc0
            have hql1 : (((m : Int) :: q1).length : Int) = (q1.length : Int) + 1 := by rw [List.length_cons]; omega
            obtain ⟨nq, hnq⟩ : ∃ nq, nq = ((m : Int) :: q1).length := ⟨_, rfl⟩
            rw [← hnq] at hql hql1
            have hne0 : ((nq : Int) == 0) = false := by simp; omega
            have hne1 : ¬ nq = 0 := by omega
            by_cases h20 : 20 < m
            · have HE := Lib.hid (rd_lg (Int.not_lt.2 HLT.out) HF.out (HST.out.bad hk2 (by decide) (nm_big (by omega))) (by decide))
              have h20' : (20 : Int) < (m : Int) := by omega
              clear hsq hqb
              rw [← hnq]
              have z0 := HZZ.out.1
              have z1 := HZZ.out.2.1
              have a0 := z0.frozen 0
              have a1 := z0.frozen 1
              have a2 := z0.frozen 2
              have a3 := z0.frozen 3
              have a4 := z0.frozen 4
              have b0 := z0.cell 0
              have b1 := z0.cell 1
              have b2 := z0.cell 2
              have b3 := z0.cell 3
              have b4 := z0.cell 4
              have d0 := z1.cell 0
              have d1 := z1.cell 1
              have d2 := z1.cell 2
              have d3 := z1.cell 3
              have d4 := z1.cell 4
              clear z0 z1
              go_wp2_with fail
              show bodyPost _ _ _ _ _ (set5 wr w.heap.size _ _ _ _ _)
              refine bodyPost_ret (results_row_tmp3 rfl _ _ w.heap.size 27 _ (0, 0) _ rfl (zz_ret HZZ.out).1 Try.underlying27 rfl (by kernel_rfl)) rfl ?_
              exact RdAns.no (HE.out) (by decide) (zz_ret HZZ.out).2 rfl
            · have h20' : ¬ (20 : Int) < (m : Int) := by omega
              by_cases hsh : q1.length < m
              · have HE := Lib.hid (rd_lg (Int.not_lt.2 HLT.out) HF.out (HST.out.bad hk2 (by decide) (nm_sh (by omega) hsh)) (by decide))
                have hsh' : ((nq : Int) < 1 + (m : Int)) := by omega
                clear hsq hqb
                rw [← hnq]
                have z0 := HZZ.out.1
                have z1 := HZZ.out.2.1
                have a0 := z0.frozen 0
                have a1 := z0.frozen 1
                have a2 := z0.frozen 2
                have a3 := z0.frozen 3
                have a4 := z0.frozen 4
                have b0 := z0.cell 0
                have b1 := z0.cell 1
                have b2 := z0.cell 2
                have b3 := z0.cell 3
                have b4 := z0.cell 4
                have d0 := z1.cell 0
                have d1 := z1.cell 1
                have d2 := z1.cell 2
                have d3 := z1.cell 3
                have d4 := z1.cell 4
                clear z0 z1
                go_wp2_with fail
                show bodyPost _ _ _ _ _ (set5 wr w.heap.size _ _ _ _ _)
                refine bodyPost_ret (results_row_tmp3 rfl _ _ w.heap.size 27 _ (0, 0) _ rfl (zz_ret HZZ.out).1 Try.underlying27 rfl (by kernel_rfl)) rfl ?_
                exact RdAns.no (HE.out) (by decide) (zz_ret HZZ.out).2 rfl
              · have hsh' : ¬ ((nq : Int) < 1 + (m : Int)) := by omega
                obtain ⟨x1, x2, x3⟩ := nm_ok (n := m) (r := q1) (by omega) (by omega)
                have hnx := HST.out.next hk2 x1 x2 x3
                have hfr := HST.out.fr hk2
                obtain ⟨A7, u1, u2, _⟩ := slice_both (some ⟨bq, oq, none⟩) c3 ((m : Int) :: q1) 1 (1 + m) .i64 .i64 (by omega) (by rw [← hnq]; omega) SQ.out.le
                have ee : (((m : Int) :: q1).take (1 + m)).drop 1 = q1.take m := by rw [Nat.add_comm]; rfl
                rw [ee] at u1 u2
                have e1m : (((1 + m : Nat)) : Int) = 1 + (m : Int) := by omega
                rw [e1m] at u1
                have u1' : ∀ w, (Instr.slice 22 (.slice (some ⟨bq, oq, none⟩) ((m : Int) :: q1).length c3) (some (.int .i64 1)) (some (.int .i64 (1 + (m : Int)))) none).run Try.prog w = .ok (.slice A7 (q1.take m).length (c3 - 1)) w := u1
                have u3 := slice_from_is (some ⟨bq, oq, none⟩) c3 ((m : Int) :: q1).length (1 + m) .i64 (1 + (m : Int)) e1m.symm (by rw [← hnq]; omega) SQ.out.le
                have hS8 := SB.out.from_ (k := 1 + m) (by rw [← hnq]; omega)
                have hd8 : ((m : Int) :: q1).drop (1 + m) = q1.drop m := by rw [Nat.add_comm]; rfl
                rw [hd8] at hS8
                obtain ⟨A8, hA8⟩ : ∃ A8, A8 = (if c3 = 1 + m then some (⟨bq, oq, none⟩ : Addr) else (some (⟨bq, oq, none⟩ : Addr)).map (·.add ((1 + m) * 1))) := ⟨_, rfl⟩
                rw [← hA8] at u3 hS8
                obtain ⟨N, hN⟩ : ∃ N, N = q1.take m := ⟨_, rfl⟩
                obtain ⟨q2, hq2⟩ : ∃ q2, q2 = q1.drop m := ⟨_, rfl⟩
                have hql2 : nq - (1 + m) = q2.length := by rw [hq2, List.length_drop]; omega
                have hNl : N.length ≤ 300 := by rw [hN, List.length_take]; omega
                have hb2 : Bytes q2 := by rw [hq2]; intro x hx; exact HQB.out x (List.mem_cons_of_mem _ (List.mem_of_mem_drop hx))
                rw [← hN] at u1' u2 hnx
                rw [← hq2] at hS8 hnx
                rw [← hnq] at u1' u3
                rw [hql2] at u3
                have hq2l : q2.length ≤ 300 := by omega
                have RN := Lib.hid (u2 _ SQ.out.rd)
                have S8 := Lib.hid hS8
                have HNX := Lib.hid hnx
                have HFR := Lib.hid hfr
                have HB2 := Lib.hid hb2
                have CC := Lib.hid (copy_any A7 (c3 - 1) N _ RN.out (by omega))
                clear hsq hqb hnx hfr ee u1 u2 hS8 hd8 hA8 hN hq2 hb2 x1 x2 x3 e1m hql2 RN
                rw [← hnq]
                clear hnq
                have hk01 : k = 0 ∨ k = 1 := by omega
                rcases hk01 with rfl | rfl
                · have ht0 := HFR.out.2 rfl
                  have hf0' := HFR.out.1
                  subst ht0 hf0'
                  have kz : (((0 : Nat) : Int) == 0) = true := rfl
                  go_wp2_with fail
                  refine CC.out.mono ?_
                  rintro e w6 ⟨A9, c9, rfl, o9, b9⟩
                  have k9 := KH.out.below b9 KH.out.lt
                  have g3 := k9.cell 3
                  have j3 := k9.frozen 3
                  have K9 := Lib.hid k9
                  have O9 := Lib.hid (o9.base_le HZZ.out.2.2.size)
                  have OF9 := Lib.hid (OF.out.below b9)
                  have Z9 := Lib.hid (HZZ.out.below b9)
                  have S9 := Lib.hid (S8.out.below b9 HZZ.out.2.2.size)
                  clear k9 o9 b9 CC
                  go_wp2_with fail
                  go_roundw
                  case rel => exact ⟨1, q2, N, [], A9, c9, A2, c2, A8, c3 - (1 + m), by omega, by go_num, rfl, S9.out.setCell (p := ⟨w.heap.size + 2, _, none⟩) (by show w.heap.size ≤ w.heap.size + 2; omega) _, hq2l, HB2.out, HNX.out.1 trivial, by simpa using K9.out.set_ 3 (.slice A9 N.length c9), own_set1 O9.out K9.out _ _, own_set1 OF9.out K9.out _ _, Z9.out.set_ 3 _⟩
                  case measure => simp [intOf]
                · have hf0' := HFR.out.1
                  subst hf0'
                  have kz : (((1 : Nat) : Int) == 0) = false := rfl
                  go_wp2_with fail
                  refine CC.out.mono ?_
                  rintro e w6 ⟨A9, c9, rfl, o9, b9⟩
                  have k9 := KH.out.below b9 KH.out.lt
                  have g3 := k9.cell 4
                  have j3 := k9.frozen 4
                  have K9 := Lib.hid k9
                  have O9 := Lib.hid (o9.base_le HZZ.out.2.2.size)
                  have OF9 := Lib.hid (OT.out.below b9)
                  have Z9 := Lib.hid (HZZ.out.below b9)
                  have S9 := Lib.hid (S8.out.below b9 HZZ.out.2.2.size)
                  clear k9 o9 b9 CC
                  go_wp2_with fail
                  go_roundw
                  case rel => exact ⟨2, q2, To, N, A1, c1, A9, c9, A8, c3 - (1 + m), by omega, by go_num, rfl, S9.out.setCell (p := ⟨w.heap.size + 2, _, none⟩) (by show w.heap.size ≤ w.heap.size + 2; omega) _, hq2l, HB2.out, HNX.out.2 trivial, by simpa using K9.out.set_ 4 (.slice A9 N.length c9), own_set1 OF9.out K9.out _ _, own_set1 O9.out K9.out _ _, Z9.out.set_ 4 _⟩
                  case measure => simp [intOf]
        · obtain rfl : k = 2 := by omega
          have kh := KH.out
          have l1 := kh.cell 1
          clear kh
          have hTl := HST.out.tok1 (by rw [HLV.out]; decide)
          have SQ0 := Lib.hid hsq
          have HQB0 := Lib.hid hqb
          have HTl0 := Lib.hid hTl
          clear hsq hqb hTl
          go_wp2_with fail
          have hsq := SQ0.out
          have hqb := HQB0.out
          have hTl := HTl0.out
          clear SQ0 HQB0 HTl0
          have HT := Lib.hid hTl
          have SQ := Lib.hid hsq
          have HQB := Lib.hid hqb
          clear hTl hsq hqb
          by_cases hs : rdS q = 0
          · refine (refTake_no A3 c3 q wr SQ.out.rd HQB.out SQ.out.le (by omega) hs).mono ?_
            rintro e w5 ⟨rfl, b5⟩
            have ZC := Lib.hid (HZZ.out.below b5)
            have HE := Lib.hid (rd_lg (Int.not_lt.2 HLT.out) HF.out (HT.out.no hs) (by decide))
            clear b5 hs
            have z0 := ZC.out.1
            have z1 := ZC.out.2.1
            have a0 := z0.frozen 0
            have a1 := z0.frozen 1
            have a2 := z0.frozen 2
            have a3 := z0.frozen 3
            have a4 := z0.frozen 4
            have b0 := z0.cell 0
            have b1 := z0.cell 1
            have b2 := z0.cell 2
            have b3 := z0.cell 3
            have b4 := z0.cell 4
            have d0 := z1.cell 0
            have d1 := z1.cell 1
            have d2 := z1.cell 2
            have d3 := z1.cell 3
            have d4 := z1.cell 4
            clear z0 z1
            go_wp2_with fail
            show bodyPost _ _ _ _ _ (set5 w5 w.heap.size _ _ _ _ _)
            refine bodyPost_ret (results_row_tmp3 rfl _ _ w.heap.size 27 _ (0, 0) _ rfl (zz_ret ZC.out).1 Try.underlying27 rfl (by kernel_rfl)) rfl ?_
            exact RdAns.no (HE.out) (by decide) (zz_ret ZC.out).2 rfl
          · refine (refTake_yes A3 c3 q wr SQ.out.rd HQB.out SQ.out.le (by omega) hs).mono ?_
            rintro e w5 ⟨A5, c5, rfl, o5, b5⟩
            have ZC := Lib.hid (HZZ.out.below b5)
            have KH5 := Lib.hid (KH.out.below b5 KH.out.lt)
            have OT5 := Lib.hid (OT.out.below b5)
            have OF5 := Lib.hid (OF.out.below b5)
            obtain ⟨m, hm⟩ := Int.eq_ofNat_of_zero_le (rdN_range HQB.out).1
            have hm62 := (rdN_range HQB.out).2
            obtain ⟨M, hM⟩ : ∃ M, M = q.drop (rdS q) := ⟨_, rfl⟩
            have hMl : M.length ≤ 300 := by rw [hM, List.length_drop]; omega
            rw [hm] at hm62 ⊢
            rw [← hM]
            have hs0 : rdS q ≠ 0 := hs
            have FAR := Lib.hid (fun (h : M.length < m) => rd_lg (Int.not_lt.2 HLT.out) HF.out (HT.out.far hs0 hm (by rw [← hM]; exact h)) (by decide))
            have YES := Lib.hid (fun (h : m ≤ M.length) => HT.out.yes hs0 hm (by rw [← hM]; exact h))
            have HM := Lib.hid hM
            clear o5 b5 hs hs0 hm hM
            by_cases hfar : M.length < m
            · have HE := Lib.hid (FAR.out hfar)
              have hgt : ((M.length : Int) < (m : Int)) := by omega
              have z0 := ZC.out.1
              have z1 := ZC.out.2.1
              have a0 := z0.frozen 0
              have a1 := z0.frozen 1
              have a2 := z0.frozen 2
              have a3 := z0.frozen 3
              have a4 := z0.frozen 4
              have b0 := z0.cell 0
              have b1 := z0.cell 1
              have b2 := z0.cell 2
              have b3 := z0.cell 3
              have b4 := z0.cell 4
              have d0 := z1.cell 0
              have d1 := z1.cell 1
              have d2 := z1.cell 2
              have d3 := z1.cell 3
              have d4 := z1.cell 4
              clear z0 z1
              go_wp2_with fail
              show bodyPost _ _ _ _ _ (set5 w5 w.heap.size _ _ _ _ _)
              refine bodyPost_ret (results_row_tmp3 rfl _ _ w.heap.size 27 _ (0, 0) _ rfl (zz_ret ZC.out).1 Try.underlying27 rfl (by kernel_rfl)) rfl ?_
              exact RdAns.no (HE.out) (by decide) (zz_ret ZC.out).2 rfl
            · have hle : m ≤ M.length := by omega
              have hgt : ¬ ((M.length : Int) < (m : Int)) := by omega
              obtain ⟨y1, y2, y3⟩ := YES.out hle
              rw [← HM.out] at y3
              by_cases h20 : m < 20
              · have HE := Lib.hid (long_few (Int.not_lt.2 HLT.out) HF.out y1 (by rw [y2]; omega))
                have h20' : (m : Int) < 20 := by omega
                clear y1 y2 y3
                have z0 := ZC.out.1
                have z1 := ZC.out.2.1
                have a0 := z0.frozen 0
                have a1 := z0.frozen 1
                have a2 := z0.frozen 2
                have a3 := z0.frozen 3
                have a4 := z0.frozen 4
                have b0 := z0.cell 0
                have b1 := z0.cell 1
                have b2 := z0.cell 2
                have b3 := z0.cell 3
                have b4 := z0.cell 4
                have d0 := z1.cell 0
                have d1 := z1.cell 1
                have d2 := z1.cell 2
                have d3 := z1.cell 3
                have d4 := z1.cell 4
                clear z0 z1
                go_wp2_with fail
                show bodyPost _ _ _ _ _ (set5 w5 w.heap.size _ _ _ _ _)
                refine bodyPost_ret (results_row_tmp3 rfl _ _ w.heap.size 27 _ (0, 0) _ rfl (zz_ret ZC.out).1 Try.underlying27 rfl (by kernel_rfl)) rfl ?_
                exact RdAns.no (HE.out) (by decide) (zz_ret ZC.out).2 rfl
              · have hok := long_ok (Int.not_lt.2 HLT.out) HF.out y1 (by rw [y2]; omega) y3
                have h20' : ¬ (m : Int) < 20 := by omega
                have hans : ∀ e w', (∃ A1 c1 A2 c2, e = .returned (.tuple #[.agg #[.bool true, .int .i64 1, .bool false, .slice A1 To.length c1, .slice A2 Fr.length c2], .int .i64 ((n : Int) - (M.length : Int)), .int .i64 ((n : Int) - (M.length : Int) + (m : Int)), .int .i64 0]) ∧
                    Own w' w.heap.size A1 c1 To ∧ Own w' w.heap.size A2 c2 Fr ∧ Below w.heap.size w w') → RdAns (f :: r) w e w' := by
                  rintro e w' ⟨A1, c1, A2, c2, rfl, o1, o2, bb⟩
                  obtain ⟨l1, l2, l3, l4, l5, l6, l7⟩ := long_of (r := r) (Int.not_lt.2 HLT.out) HF.out
                  obtain ⟨t1, t2⟩ := HST.out.names
                  refine .inr ⟨hok.1, A1, c1, A2, c2, ?_, by rw [l6, t1]; exact o1, by rw [l7, t2]; exact o2, bb⟩
                  rw [l4, l5, l6, l7, t1, t2, hok.2, l2, y2, HLV.out, ← HN.out]
                have HANS := Lib.hid hans
                have k5 := KH5.out
                have e0 := k5.cell 0
                have e1 := k5.cell 1
                have e2 := k5.cell 2
                have e3 := k5.cell 3
                have e4 := k5.cell 4
                have hms : (m : Int) ≤ 300 := by omega
                clear y1 y2 y3 hok hans k5 hm62
                have z0 := ZC.out.1
                have z1 := ZC.out.2.1
                have a0 := z0.frozen 0
                have a1 := z0.frozen 1
                have a2 := z0.frozen 2
                have a3 := z0.frozen 3
                have a4 := z0.frozen 4
                have b0 := z0.cell 0
                have b1 := z0.cell 1
                have b2 := z0.cell 2
                have b3 := z0.cell 3
                have b4 := z0.cell 4
                have d0 := z1.cell 0
                have d1 := z1.cell 1
                have d2 := z1.cell 2
                have d3 := z1.cell 3
                have d4 := z1.cell 4
                clear z0 z1
                go_wp2_with fail
                show bodyPost _ _ _ _ _ (set5 w5 w.heap.size _ _ _ _ _)
                refine bodyPost_ret (results_row_tmp3 rfl _ _ w.heap.size 27 _ (0, 0) _ rfl (set5_blk ZC.out.1 _ _ _ _ _) Try.underlying27 rfl (by kernel_rfl)) rfl ?_
                exact HANS.out _ _ ⟨_, _, _, _, rfl, set5_own OT5.out ZC.out.1 (by decide) _ _ _ _ _, set5_own OF5.out ZC.out.1 (by decide) _ _ _ _ _, below_set5 ZC.out.2.2 (Nat.le_refl _) _ _ _ _ _⟩
end Go.Proofs.Ytomapklkbfjafaa
