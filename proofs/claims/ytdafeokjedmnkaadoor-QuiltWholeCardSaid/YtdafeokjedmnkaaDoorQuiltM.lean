/-
  A quilt: Put and Take whatever comes; what the laws ask first.
-/
import Derived.Test.YtdafeokjedmnkaaDoorQuiltL
import Derived.Lib.SmallJoins
namespace Go.Proofs.YtdafeokjedmnkaaDoor
open Go.RowKit Go.Maps
set_option linter.unusedVariables false
set_option linter.unusedSimpArgs false
theorem Qlt.mono {w : World} {base g n n' : Nat} {s : QS} (h : Qlt w base g n s) (hn : n ≤ n') : Qlt w base g n' s := by
  obtain ⟨M, h1, h2⟩ := h.q
  have := (StQ.mono (w := w) (hi := s.hi) (en := s.en) (hd := s.T.length - s.rd) (wh := s.wh) ⟨h1, h2, KeepT.refl _ _, Below.refl _ _⟩ hn)
  exact ⟨⟨M, this.q, this.pat⟩, h.ok, h.hg⟩
def putCode (s : QS) (off : Int) (len : Nat) (e : Bool) : Int := if 4611686018427387903 < off ∨ 4611686018427387903 - off < len then 1 else if qFits s (off + len) e = true then 0 else 4
theorem Put_any (base g n : Nat) (s : QS) (off : Int) (A : Option Addr) (c : Nat) (p : List Int) (e : Bool) (w : World) (h : Qlt w base g n s) (hs : Src w base g A c p) (ht : TabT w) (hgl : 0 < base) (hbase : base ≤ w.heap.size) (hn : n ≤ 1000000000) (hw : (Lit.int .u64 off).wf = true) (hl : p.length ≤ 100000)
    (hTl : (s.T.length : Int) ≤ 4611686018427387903) :
    Calls Tryd.prog 18 #[.pointer (some ⟨g, 0, none⟩), .int .u64 off, .slice A p.length c, .bool e] w fun r w' => r = .returned (.int .i64 (putCode s off p.length e)) ∧ (∃ s', (putCode s off p.length e = 0 → PutTo s off p e s') ∧ (putCode s off p.length e ≠ 0 → s' = s) ∧ Qlt w' base g (n + p.length) s') ∧ KeepT w w' g ∧ Below base w w' := by
  have hb := bounds_u64 hw
  by_cases h1 : 4611686018427387903 < off ∨ 4611686018427387903 - off < p.length
  · have hc : putCode s off p.length e = 1 := if_pos h1
    refine (Put_arg base g n s off A c p e w hw hl h1).mono ?_
    rintro r w' ⟨rfl, rfl⟩
    rw [hc]
    exact ⟨rfl, ⟨s, (fun h => by cases h), (fun _ => rfl), h.mono (by omega)⟩, KeepT.refl _ _, Below.refl _ _⟩
  · by_cases h2 : qFits s (off + p.length) e = true
    · have hc : putCode s off p.length e = 0 := by unfold putCode; rw [if_neg h1, if_pos h2]
      refine (Put_ok base g n s off A c p e w h hs ht hgl hbase hn (by omega) hl (by omega) hTl h2).mono ?_
      rintro r w' ⟨rfl, ⟨s', a1, a2⟩, a3, a4⟩
      rw [hc]
      exact ⟨rfl, ⟨s', (fun _ => a1), (fun h => absurd rfl h), a2⟩, a3, a4⟩
    · have hc : putCode s off p.length e = 4 := by unfold putCode; rw [if_neg h1, if_neg h2]
      refine (Put_form base g n s off A c p e w h (by omega) hl (by omega) (by simpa using h2)).mono ?_
      rintro r w' ⟨rfl, rfl⟩
      rw [hc]
      exact ⟨rfl, ⟨s, (fun h => by cases h), (fun _ => rfl), h.mono (by omega)⟩, KeepT.refl _ _, Below.refl _ _⟩
theorem qTake_0 (s : QS) : qTake s 0 = s := by simp [qTake]
theorem Take_any (base g n : Nat) (s : QS) (most : Int) (N : Nat) (w : World) (h : Qlt w base g n s) (hm : (Lit.int .i64 most).wf = true) (hbase : base ≤ w.heap.size) (hT : s.T.length ≤ 1000000) (hN : N = takeN s most) :
    Calls Tryd.prog 15 #[.pointer (some ⟨g, 0, none⟩), .int .i64 most] w fun r w' => (∃ A c, r = .returned (.tuple #[.slice A N c, .bool (s.en && decide (s.rd + N = s.hi))]) ∧ Own w' w.heap.size A c (tk s.f s.rd N)) ∧ Qlt w' base g n (qTake s N) ∧ KeepT w w' g ∧ Below base w w' := by
  have r1 := h.ok.r1
  have hN' : (N : Int) = min (max most 0) (s.wh - s.rd) := by rw [hN]; unfold takeN; omega
  by_cases h0 : N = 0
  · subst h0
    refine (Take_none base g n s most w h hbase hT (by omega)).mono ?_
    rintro r w' ⟨rfl, k, rfl⟩
    rw [qTake_0]
    refine ⟨⟨none, 0, by simp, ?_⟩, h.drewN k, (show KeepT w (w.drewN k) g from KeepT.refl w g), below_drewN (Below.refl _ _) k⟩
    exact OwnV.nil _ _ _ _
  · exact Take_some base g n s most N w h hm hbase hT hN' h0
theorem wh_is {s : QS} (ok : QOk s) (k : Int) (h0 : 0 ≤ k) (h1 : ∀ x, 0 ≤ x → x < k → s.f x ≠ none) (h2 : s.f k = none) : s.wh = k := by
  have a := ok.r0
  have b := ok.r1
  rcases Int.lt_trichotomy s.wh k with h | h | h
  · exact absurd ok.stop (h1 s.wh (by omega) h)
  · exact h
  · exact absurd h2 (ok.whl k h0 h)
theorem src_row {w : World} {base g gl : Nat} {l : List Int} {fr : Nat × Nat} (h : Row w gl 5 (U8 l).toArray fr) (hg : gl ≠ g) (hb : Bytes l) (hl : l.length ≤ 1000000) : Src w base g (some ⟨gl, 0, none⟩) l.length l := by
  refine ⟨⟨by simp [U8], fun _ => ⟨_, rfl, h.lt, fun j u hu => ?_⟩⟩, hb, Nat.le_refl _, by omega, fun ad e => .inr ⟨5, (U8 l).toArray, fr, ?_, by decide, ?_⟩⟩
  · rw [Addr.add_mid, Nat.zero_add, cell_of_row w gl j _ 5 fr h, ← hu]
    simp
  · injection e with e
    subst e
    exact h
  · injection e with e
    subst e
    exact hg
theorem row_new (w : World) (t : TypeId) (cs : Array Value) (fr : Nat × Nat) : Row (w.alloc (.cells cs t fr)) w.heap.size t cs fr := heap_alloc_new w _
def sA : Int → Option Int := fput (fun _ => none) 2 [99, 100] 2
def sB : Int → Option Int := fput sA 0 [97, 98, 120] 3
def sC : Int → Option Int := fput sB 4 [101] 1
theorem str_is (l : List Int) : (strOfNums l).toList = l.map (fun n : Int => UInt8.ofNat n.toNat) := by
  rw [ByteArray.toList_eq, ← strOfNums_data]
/-- A piece that the text itself holds. -/
theorem put_lit {w w1 : World} {base g n : Nat} {s : QS} (q1 : Qlt w1 base g n s) (b1 : Below base w w1) (ht : TabT w1) (hgl : 0 < base) (hbase : base ≤ w1.heap.size) (off : Int) (hw : (Lit.int .u64 off).wf = true) (l : List Int) (cells : Array Value) (hc : cells = (U8 l).toArray) (k : Nat) (hk : l.length = k) (fr : Nat × Nat) (e : Bool)
    (hb : Bytes l) (hl : k ≤ 1000) (hn : n ≤ 1000000000) (hT : s.T.length ≤ 1000000) (code : Int) (hcode : putCode s off k e = code) :
    Calls Tryd.prog 18 #[.pointer (some ⟨g, 0, none⟩), .int .u64 off, .slice (some ⟨w1.heap.size, 0, none⟩) k k, .bool e] (w1.alloc (.cells cells 5 fr)) fun r w' => r = .returned (.int .i64 code) ∧ (∃ s', (code = 0 → PutTo s off l e s') ∧ (code ≠ 0 → s' = s) ∧ Qlt w' base g (n + k) s') ∧ KeepT w1 w' g ∧ Below base w w' := by
  subst hk
  subst hc
  have hg := q1.lt
  have hb2 : Below base w1 (w1.alloc (.cells (U8 l).toArray 5 fr)) := (Below.refl _ _).alloc hbase _
  refine (Put_any base g n s off (some ⟨w1.heap.size, 0, none⟩) l.length l e _ (q1.alloc _) (src_row (row_new w1 5 (U8 l).toArray fr) (by omega) hb (by omega)) (ht.keep hgl hb2) hgl (Nat.le_trans hbase hb2.size) hn hw (by omega) (by omega)).mono ?_
  rintro r w' ⟨rfl, h2, h3, h4⟩
  rw [hcode] at h2
  rw [hcode]
  exact ⟨rfl, h2, (keepT_alloc w1 g hg _).trans h3, (b1.trans hb2).trans h4⟩
theorem by_of {l : List Int} (h : l.all (fun x => decide (0 ≤ x ∧ x < 256)) = true) : Bytes l := by
  intro x hx
  simpa using (List.all_eq_true.1 h x hx)
theorem own_keepT {w w' : World} {b base g n c : Nat} {s : QS} {A : Option Addr} {l : List Int} (h : Own w b A c l) (q : Qlt w base g n s) (k : KeepT w w' g) : Own w' b A c l := by
  obtain ⟨M, hq, _⟩ := q.q
  obtain ⟨h1, h2⟩ := h
  refine ⟨h1, ?_⟩
  rcases h2 with h2 | ⟨r, cap, cur, hv, hb, hh, z⟩
  · exact .inl h2
  · exact .inr ⟨r, cap, cur, hv, hb, k.blk (Blk.ne_ hh hq (by decide)) (by decide) hh, z⟩
set_option maxHeartbeats 1600000 in
theorem awake10_any (w : World) (ht : TabT w) : Calls Tryd.prog 8 #[] w fun r w' => r = .returned (.bool true) ∧ Below w.heap.size w w' := by
  have kc := fun (w : World) (C : Array Value) (n c g : Nat) (hg : g = w.heap.size) => Joins.run_convert_bytes_const_at (P := Tryd.prog) w 29 5 C n c g hg Tryd.underlying29 Tryd.underlying5
  have hgl := ht.1
  have HT := Lib.hid ht
  clear ht
  go_enter Tryd.func8, Tryd.ntmps8
  go_wp2_with fail
  refine (QNew_any w).mono ?_
  rintro r w1 ⟨g, rfl, q1, b1⟩
  have P1 := Lib.hid (put_lit q1 b1 (HT.out.keep hgl b1) hgl b1.size 2 (by decide) [99, 100] #[.int .u8 99, .int .u8 100] rfl 2 rfl (2, 3) false (by_of (by decide)) (by decide) (by decide) (by decide) 0 (by decide))
  clear b1 q1
  go_wp2_with fail
  refine P1.out.mono ?_
  rintro r w2 ⟨rfl, ⟨s1, hs1, _, q2⟩, _, b2⟩
  obtain ⟨f1, T1, rd1, hi1, en1⟩ := hs1 trivial
  have T1l : s1.T.length = 2 := by rw [T1]; decide
  have hc2 : putCode s1 0 3 false = 0 := by
    unfold putCode qFits
    rw [en1, hi1]
    decide
  have P2 := Lib.hid (put_lit q2 b2 (HT.out.keep hgl b2) hgl b2.size 0 (by decide) [97, 98, 120] #[.int .u8 97, .int .u8 98, .int .u8 120] rfl 3 rfl (3, 4) false (by_of (by decide)) (by decide) (by decide) (by omega) 0 hc2)
  clear b2 q2 P1 hs1
  go_wp2_with fail
  refine P2.out.mono ?_
  rintro r w3 ⟨rfl, ⟨s2, hs2, _, q3⟩, _, b3⟩
  obtain ⟨f2, T2, rd2, hi2, en2⟩ := hs2 trivial
  rw [f1] at f2 T2
  rw [T1] at T2
  rw [rd1] at rd2
  rw [hi1] at hi2
  rw [en1] at en2
  have T2l : s2.T.length = 4 := by rw [T2]; decide
  have hi2' : s2.hi = 4 := by rw [hi2]; decide
  have rd2' : s2.rd = 0 := rd2
  have en2' : s2.en = false := by rw [en2]; decide
  have f2' : s2.f = sB := f2
  have wh2 : s2.wh = 4 := wh_is q3.ok 4 (by omega) (fun x h0 h1 => by
    rw [f2']
    obtain rfl | rfl | rfl | rfl : x = 0 ∨ x = 1 ∨ x = 2 ∨ x = 3 := by omega
    all_goals decide) (by rw [f2']; decide)
  have t3 := Take_any w.heap.size g _ s2 9 4 w3 q3 (by decide) b3.size (by omega) (by unfold takeN; rw [wh2, rd2']; rfl)
  rw [en2', hi2', rd2', f2'] at t3
  rw [show tk sB 0 4 = [97, 98, 99, 100] by decide] at t3
  have T3 := Lib.hid t3
  have B3 := Lib.hid b3
  clear t3 b3 q3 P2 hs2
  go_wp2_with fail
  refine T3.out.mono ?_
  rintro r w4 ⟨⟨A, c, rfl, o4⟩, q4, k4, b4⟩
  have O4 := Lib.hid o4
  have b4' := B3.out.trans b4
  have hz3 := B3.out.size
  have hs2f : (qTake s2 4).f = sB := f2'
  have hs2h : (qTake s2 4).hi = 4 := hi2'
  have hs2e : (qTake s2 4).en = false := en2'
  have hs2T : (qTake s2 4).T = s2.T := rfl
  have hs2r : (qTake s2 4).rd = 4 := by show s2.rd + ((4 : Nat) : Int) = 4; rw [rd2']; rfl
  have hc3 : putCode (qTake s2 4) 4 1 true = 0 := by
    unfold putCode qFits
    rw [hs2e, hs2h]
    decide
  have P4 := Lib.hid (put_lit q4 b4' (HT.out.keep hgl b4') hgl b4'.size 4 (by decide) [101] #[.int .u8 101] rfl 1 rfl (1, 2) true (by_of (by decide)) (by decide) (by decide) (by rw [hs2T]; omega) 0 hc3)
  have QQ4 := Lib.hid q4
  clear o4 q4 k4 b4 b4' T3
  go_wp2_with fail
  refine P4.out.mono ?_
  rintro r w5 ⟨rfl, ⟨s3, hs3, _, q5⟩, k5, b5⟩
  obtain ⟨f3, T3, rd3, hi3, en3⟩ := hs3 trivial
  rw [hs2f] at f3 T3
  rw [hs2r] at rd3
  rw [hs2h] at hi3
  rw [hs2T, T2] at T3
  have T3l : s3.T.length = 5 := by rw [T3]; decide
  have hi3' : s3.hi = 5 := by rw [hi3]; decide
  have en3' : s3.en = true := by rw [en3]; simp
  have f3' : s3.f = sC := f3
  have wh3 : s3.wh = 5 := wh_is q5.ok 5 (by omega) (fun x h0 h1 => by
    rw [f3']
    obtain rfl | rfl | rfl | rfl | rfl : x = 0 ∨ x = 1 ∨ x = 2 ∨ x = 3 ∨ x = 4 := by omega
    all_goals decide) (by rw [f3']; decide)
  have O5 := Lib.hid (own_keepT O4.out QQ4.out k5)
  have hc4 : putCode s3 9 1 false = 4 := by
    unfold putCode qFits
    rw [en3', hi3']
    decide
  have P5 := Lib.hid (put_lit q5 b5 (HT.out.keep hgl b5) hgl b5.size 9 (by decide) [122] #[.int .u8 122] rfl 1 rfl (1, 2) false (by_of (by decide)) (by decide) (by decide) (by omega) 4 hc4)
  have QQ5 := Lib.hid q5
  clear q5 k5 b5 P4 hs3 O4 QQ4
  go_wp2_with fail
  refine P5.out.mono ?_
  rintro r w6 ⟨rfl, ⟨s4, _, hs4, q6⟩, k6, b6⟩
  obtain rfl : s4 = s3 := hs4 (by decide)
  have O6 := Lib.hid (own_keepT O5.out QQ5.out k6)
  have t6 := Take_any w.heap.size g _ s4 9 1 w6 q6 (by decide) b6.size (by omega) (by unfold takeN; rw [wh3, rd3]; rfl)
  rw [en3', hi3', rd3, f3'] at t6
  rw [show tk sC 4 1 = [101] by decide] at t6
  have T6 := Lib.hid t6
  have B6 := Lib.hid b6
  have QQ6 := Lib.hid q6
  clear t6 b6 q6 P5 hs4 O5 QQ5 k6
  go_wp2_with fail
  refine T6.out.mono ?_
  rintro r w7 ⟨⟨A2, c2, rfl, o7⟩, q7, k7, b7⟩
  have B7 := Lib.hid (B6.out.trans b7)
  have r1 := Rd.of_own (own_keepT O6.out QQ6.out k7)
  have r2 := Rd.of_own o7
  obtain ⟨S1, hS1, hS1'⟩ : ∃ S1 : ByteArray, (convert 29 9 (.slice A 4 c)).run Tryd.prog w7 = .ok (.string S1) w7 ∧ S1.toList = [97, 98, 99, 100] := ⟨_, run_str w7 A c r1, by rw [str_is]; decide⟩
  obtain ⟨S2, hS2, hS2'⟩ : ∃ S2 : ByteArray, (convert 29 9 (.slice A2 1 c2)).run Tryd.prog w7 = .ok (.string S2) w7 ∧ S2.toList = [101] := ⟨_, run_str w7 A2 c2 r2, by rw [str_is]; decide⟩
  clear r1 r2 o7 q7 k7 b7 T6 O6 QQ6
  go_wp2_with fail
  go_ret
  exact ⟨rfl, B7.out⟩
end Go.Proofs.YtdafeokjedmnkaaDoor
