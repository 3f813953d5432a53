/-
  QuiltFirst: of a byte that comes more than once the first counts.
-/
import Derived.Test.YtdafeokjedmnkaaDoorQuiltM
namespace Go.Proofs.YtdafeokjedmnkaaDoor
open Go.RowKit Go.Maps
set_option linter.unusedVariables false
set_option linter.unusedSimpArgs false
/-- Two pieces, the first from 0 on. -/
def wantW (a b : List Int) (at_ : Nat) : List Int := if at_ ≤ a.length ∧ a.length < at_ + b.length then a ++ b.drop (a.length - at_) else a
theorem one_is (a : List Int) (x : Nat) : fput (fun _ => none) 0 a a.length (x : Int) = a[x]? := by
  by_cases h : x < a.length
  · rw [fput_at (by omega) (by omega) rfl]
    congr 1
  · rw [fput_far (by omega), List.getElem?_eq_none (by omega)]
theorem none_len {a : List Int} {x : Nat} : a[x]? = none ↔ a.length ≤ x := List.getElem?_eq_none_iff
theorem two_is (a b : List Int) (at_ x : Nat) : fput (fput (fun _ => none) 0 a a.length) (at_ : Int) b b.length (x : Int) = if at_ ≤ x ∧ x < at_ + b.length ∧ a.length ≤ x then b[x - at_]? else a[x]? := by
  have h1 := one_is a x
  by_cases h : at_ ≤ x ∧ x < at_ + b.length ∧ a.length ≤ x
  · rw [if_pos h, fput_at (by omega) (by omega) (by rw [h1, List.getElem?_eq_none h.2.2])]
    congr 1
    omega
  · rw [if_neg h]
    by_cases h2 : at_ ≤ x ∧ x < at_ + b.length
    · rw [fput_old (by rw [h1]; exact fun h3 => h ⟨h2.1, h2.2, none_len.1 h3⟩), h1]
    · rw [fput_far (by omega), h1]
theorem wantW_is (a b : List Int) (at_ x : Nat) : fput (fput (fun _ => none) 0 a a.length) (at_ : Int) b b.length (x : Int) = (wantW a b at_)[x]? ∨ (wantW a b at_).length < x := by
  rw [two_is]
  unfold wantW
  by_cases h : at_ ≤ a.length ∧ a.length < at_ + b.length
  · rw [if_pos h]
    left
    by_cases hx : x < a.length
    · rw [if_neg (by omega), List.getElem?_append_left hx]
    · rw [List.getElem?_append_right (by omega), List.getElem?_drop]
      by_cases h2 : x < at_ + b.length
      · rw [if_pos (by omega)]
        congr 1
        omega
      · rw [if_neg (by omega), List.getElem?_eq_none (by omega), List.getElem?_eq_none (by omega)]
  · rw [if_neg h]
    by_cases hx : x ≤ a.length
    · left
      rw [if_neg (by omega)]
    · right
      omega
theorem tk_is {f : Int → Option Int} {l : List Int} (h : ∀ x : Nat, x < l.length → f (x : Int) = l[x]?) : tk f 0 l.length = l := by
  apply List.ext_getElem?
  intro i
  by_cases hi : i < l.length
  · rw [tk_get f 0 _ i hi, show (0 : Int) + (i : Int) = (i : Int) by omega, h i hi, List.getElem?_eq_getElem hi]
    rfl
  · rw [List.getElem?_eq_none (by rw [tk_len]; omega), List.getElem?_eq_none (by omega)]
theorem putCode_ok {s : QS} {off : Int} {len : Nat} (he : s.en = false) (h1 : off + (len : Int) ≤ 4611686018427387903) (h0 : 0 ≤ off) : putCode s off len false = 0 := by
  unfold putCode qFits
  rw [if_neg (by omega), he, if_pos (by simp)]
theorem src_own {w : World} {b base g n c : Nat} {s : QS} {A : Option Addr} {l : List Int} (h : Own w b A c l) (q : Qlt w base g n s) (hb : Bytes l) : Src w base g A c l := by
  obtain ⟨M, hq, _⟩ := q.q
  have hc := h.cap
  unfold maxLen at hc
  refine ⟨Rd.of_own h, hb, hc.1, hc.2, fun ad e => ?_⟩
  rcases OwnV.row_is h with ⟨rfl, _⟩ | ⟨r, cur, rfl, _, hbl, _⟩
  · cases e
  · injection e with e
    subst e
    exact .inr ⟨5, cur, (0, 0), hbl.toRow, by decide, Blk.ne_ hbl hq (by decide)⟩
theorem u8_range' {n : Int} (h : (Lit.int .u8 n).wf = true) : 0 ≤ n ∧ n < 256 := by
  simp [Lit.wf, IntKind.min, IntKind.max, IntKind.signed, IntKind.bits] at h; omega
theorem bytes_take {l : List Int} (h : Bytes l) (k : Nat) : Bytes (l.take k) := fun x hx => h x (List.mem_of_mem_take hx)
theorem bytes_drop {l : List Int} (h : Bytes l) (k : Nat) : Bytes (l.drop k) := fun x hx => h x (List.mem_of_mem_drop hx)
theorem cut60 (A : Option Addr) (c : Nat) (l P : List Int) (hP : P = l.take 60) (w : World) (hr : Rd w A l) (hl : l.length ≤ c) (hc : c ≤ 9223372036854775807) :
    Calls Tryd.prog 11 #[.slice A l.length c, .int .i64 60] w fun e w' => ∃ A' c', e = .returned (.slice A' P.length c') ∧ Own w' w.heap.size A' c' P ∧ Below w.heap.size w w' := by
  subst hP
  exact cut_any A c l 60 w hr (by omega) hl (by omega) (by omega)
theorem cut_len {l P : List Int} (hP : P = l.take 60) : P.length ≤ 60 := by
  rw [hP, List.length_take]
  omega
set_option maxHeartbeats 1600000 in
theorem first_walk (A : Option Addr) (ca : Nat) (a : List Int) (B : Option Addr) (cb : Nat) (b : List Int) (off : Int) (w : World) (ht : TabT w)
    (ra : Rd w A a) (ba : Bytes a) (la : a.length ≤ ca) (ma : ca ≤ 9223372036854775807) (na : A = none → ca = 0)
    (rb : Rd w B b) (bb : Bytes b) (lb : b.length ≤ cb) (mb : cb ≤ 9223372036854775807) (nb : B = none → cb = 0) (wo : (Lit.int .u8 off).wf = true) :
    Calls Tryd.prog 6 #[.slice A a.length ca, .slice B b.length cb, .int .u8 off] w fun r w' => r = .returned (.bool true) ∧ Below w.heap.size w w' := by
  have hgl := ht.1
  have HT := Lib.hid ht
  have HA := Lib.hid ra
  have HB := Lib.hid rb
  have AW := awake10_any w ht
  have ho := u8_range' wo
  obtain ⟨at_, hat⟩ : ∃ at_ : Nat, (at_ : Int) = off % 40 := ⟨(off % 40).toNat, by omega⟩
  clear ht ra rb na nb
  obtain ⟨P, hP⟩ : ∃ P, P = a.take 60 := ⟨_, rfl⟩
  obtain ⟨R, hR⟩ : ∃ R, R = b.take 60 := ⟨_, rfl⟩
  have hP6 := cut_len hP
  have hR6 := cut_len hR
  have hPb := Lib.hid (show Bytes P by rw [hP]; exact bytes_take ba 60)
  have hRb := Lib.hid (show Bytes R by rw [hR]; exact bytes_take bb 60)
  have CA := Lib.hid (fun W h => cut60 A ca a P hP W h la ma)
  have CB := Lib.hid (fun W h => cut60 B cb b R hR W h lb mb)
  clear hP hR ba bb
  have w20 : IntKind.u64.wrap (off % 40) = (at_ : Int) := by rw [← hat]; exact IntWalk.u64_in _ (by omega)
  have w21 : IntKind.u8.wrap (off % 40) = (at_ : Int) := by rw [← hat]; exact IntWalk.u8_in _ (by omega)
  have wi : IntKind.i64.wrap (at_ : Int) = (at_ : Int) := IntWalk.i64_in _ (by omega)
  have wu : IntKind.u64.wrap (at_ : Int) = (at_ : Int) := IntWalk.u64_in _ (by omega)
  go_enter Tryd.func6, Tryd.ntmps6
  go_wp2_with fail
  refine AW.mono ?_
  rintro r w1 ⟨rfl, b1⟩
  go_wp2_with fail
  refine (CA.out w1 (HA.out.below b1)).mono ?_
  rintro r w2 ⟨A1, c1, rfl, o1, b2⟩
  go_wp2_with fail
  refine (CB.out w2 (HB.out.below (b1.trans (b2.mono b1.size)))).mono ?_
  rintro r w3 ⟨B1, d1, rfl, p1, b3⟩
  have B3 := Lib.hid ((b1.trans (b2.mono b1.size)).trans (b3.mono (by have := b1.size; have := b2.size; omega)))
  have O3 := Lib.hid (o1.below b3)
  have hz3 := B3.out.size
  clear b1 b2 b3 o1
  go_wp2_with fail
  refine (QNew_any w3).mono ?_
  rintro r w4 ⟨g, rfl, q4, b4⟩
  have O4 := Lib.hid (O3.out.below b4)
  have R4 := Lib.hid (p1.below b4)
  have B4 := Lib.hid (B3.out.trans (b4.mono hz3))
  have hgl4 : 0 < w3.heap.size := Nat.lt_of_lt_of_le hgl hz3
  have HT4 := Lib.hid (HT.out.keep hgl B4.out)
  have hz4 := b4.size
  clear O3 p1 B3 b4
  have hc1 : putCode qs0 0 P.length false = 0 := putCode_ok rfl (by omega) (by omega)
  have P1 := Put_any w3.heap.size g 0 qs0 0 A1 c1 P false w4 q4 (src_own O4.out q4 hPb.out) HT4.out hgl4 hz4 (by omega) (by decide) (by omega) (by decide)
  rw [hc1] at P1
  have HP1 := Lib.hid P1
  have Q4 := Lib.hid q4
  clear P1 q4
  go_wp2_with fail
  refine HP1.out.mono ?_
  rintro r w5 ⟨rfl, ⟨s1, hs1, _, q5⟩, k5, b5⟩
  obtain ⟨f1, T1, rd1, hi1, en1⟩ := hs1 trivial
  have O5 := Lib.hid (own_keepT O4.out Q4.out k5)
  have R5 := Lib.hid (own_keepT R4.out Q4.out k5)
  have B5 := Lib.hid (B4.out.trans (b5.mono hz3))
  have HT5 := Lib.hid (HT.out.keep hgl B5.out)
  have hz5 : w3.heap.size ≤ w5.heap.size := Nat.le_trans hz4 b5.size
  have T1l : s1.T.length ≤ 60 := by
    rw [T1, List.length_append]
    have := news_len qs0.f 0 P.length
    simp [qs0] at this ⊢
    omega
  have hc2 : putCode s1 at_ R.length false = 0 := putCode_ok (by rw [en1]; rfl) (by omega) (by omega)
  have P2 := Put_any w3.heap.size g _ s1 at_ B1 d1 R false w5 q5 (src_own R5.out q5 hRb.out) HT5.out hgl4 hz5 (by omega) (WalkArith.wf_u64 (by omega)) (by omega) (by omega)
  rw [hc2, hat] at P2
  have HP2 := Lib.hid P2
  have Q5 := Lib.hid q5
  clear P2 q5 k5 b5 HP1 Q4 O4 R4 HT4 hs1
  obtain ⟨W, hW⟩ : ∃ W, W = wantW P R at_ := ⟨_, rfl⟩
  have hWl : W.length ≤ 120 := by
    rw [hW]
    unfold wantW
    split
    · rw [List.length_append, List.length_drop]
      omega
    · omega
  have hWb : Bytes W := by
    rw [hW]
    unfold wantW
    split
    · exact hPb.out.append (bytes_drop hRb.out _)
    · exact hPb.out
  have hWi : ∀ x : Nat, x ≤ W.length → fput (fput (fun _ => none) 0 P P.length) (at_ : Int) R R.length (x : Int) = W[x]? := fun x hx => by
    rcases wantW_is P R at_ x with h | h
    · rw [hW]; exact h
    · rw [← hW] at h
      omega
  have hWf : ∀ x : Nat, x < W.length → fput (fput (fun _ => none) 0 P P.length) (at_ : Int) R R.length (x : Int) = W[x]? := fun x hx => hWi x (by omega)
  go_wp2_with fail
  refine HP2.out.mono ?_
  rintro r w6 ⟨rfl, ⟨s2, hs2, _, q6⟩, k6, b6⟩
  obtain ⟨f2, T2, rd2, hi2, en2⟩ := hs2 trivial
  rw [f1] at f2
  have f2' : s2.f = fput (fput (fun _ => none) 0 P P.length) (at_ : Int) R R.length := by rw [hat]; exact f2
  have rd2' : s2.rd = 0 := by rw [rd2, rd1]; rfl
  have en2' : s2.en = false := by rw [en2, en1]; rfl
  have wh2 : s2.wh = W.length := wh_is q6.ok _ (by omega) (fun x h0 h1 => by
    obtain ⟨y, rfl⟩ := Int.eq_ofNat_of_zero_le h0
    rw [f2', hWf y (by omega), List.getElem?_eq_getElem (by omega)]
    simp) (by rw [f2', hWi _ (Nat.le_refl _), List.getElem?_eq_none (Nat.le_refl _)])
  have HN := Lib.hid (show W.length = takeN s2 1000 by unfold takeN; rw [wh2, rd2']; omega)
  clear wh2
  have T2l : s2.T.length ≤ 1000000 := by
    rw [T2, List.length_append]
    have := news_len s1.f (off % 40) R.length
    omega
  have O6 := Lib.hid (own_keepT O5.out Q5.out k6)
  have R6 := Lib.hid (own_keepT R5.out Q5.out k6)
  have B6 := Lib.hid (B5.out.trans (b6.mono hz3))
  have hz6 : w3.heap.size ≤ w6.heap.size := Nat.le_trans hz5 b6.size
  have Q6 := Lib.hid q6
  clear q6 k6 b6 HP2 Q5 O5 R5 B5 HT5 hs2 f2 T2 rd2 hi2 en2 f1 T1 rd1 hi1 en1 CA CB
  have CP := copy_any A1 c1 P w6 (Rd.of_own O6.out) (by omega)
  go_wp2_with fail
  refine CP.mono ?_
  rintro r w7 ⟨A2, c2, rfl, o7, b7⟩
  have Q7 := Lib.hid (Q6.out.keep b7)
  have R7 := Lib.hid (R6.out.below b7)
  have B7 := Lib.hid (B6.out.trans (b7.mono B6.out.size))
  have hz7 : w3.heap.size ≤ w7.heap.size := Nat.le_trans hz6 b7.size
  have hz67 := b7.size
  have O7 := Lib.hid o7
  clear CP b7 o7 Q6 O6 R6 B6
  by_cases hc : at_ ≤ P.length ∧ P.length < at_ + R.length
  · have hd1 : decide (off % 40 ≤ (P.length : Int)) = true := by simp; omega
    have hd2 : decide ((P.length : Int) < off % 40 + (R.length : Int)) = true := by simp; omega
    have ws1 : IntKind.i64.wrap (off % 40 + (R.length : Int)) = off % 40 + (R.length : Int) := IntWalk.i64_in _ (by omega)
    have ws2 : IntKind.i64.wrap ((P.length : Int) - off % 40) = (P.length : Int) - off % 40 := IntWalk.i64_in _ (by omega)
    have hWe : W = P ++ R.drop (P.length - at_) := by rw [hW]; exact if_pos hc
    have hcap := R7.out.cap
    obtain ⟨B2, k, SF, RS⟩ : ∃ B2 k, (∀ W0, (Instr.slice 29 (.slice B1 R.length d1) (some (.int .i64 ((P.length : Int) - off % 40))) none none).run Tryd.prog W0 = .ok (.slice B2 (R.drop (P.length - at_)).length k) W0) ∧ Rd w7 B2 (R.drop (P.length - at_)) := by
      have e : (R.drop (P.length - at_)).length = R.length - (P.length - at_) := by simp
      rw [e]
      exact ⟨_, _, fun W0 => slice_from_is B1 d1 R.length (P.length - at_) .i64 _ (by omega) (by omega) hcap.1 W0, (Rd.of_own R7.out).cut (by omega) hcap.1⟩
    obtain ⟨Z, hZ⟩ : ∃ Z, Z = R.drop (P.length - at_) := ⟨_, rfl⟩
    have hZl : Z.length ≤ 60 := by rw [hZ]; simp; omega
    rw [← hZ] at SF RS hWe
    have HWE := Lib.hid hWe
    have HZ := Lib.hid hZ
    clear hWe hZ hW hcap
    go_wp2_with (at_builtin; go_must (refine wpList_appX2 rfl (.tmp 50) (.tmp 57) rfl w6.heap.size (l := P) (news := Z) W HWE.out rfl rfl O7.out RS (by omega) hz67 ?_); intro A8 c8 w8 o8 g8 b8 r8; have Q8 := Lib.hid (Q7.out.grown g8 (fun r e => by obtain ⟨_, cs, hbl⟩ := own_row O7.out e; exact ⟨_, cs, hbl, by decide, by decide⟩)); have O8 := Lib.hid o8; have B8 := Lib.hid (B7.out.trans (b8.mono (Nat.le_trans hz3 hz6))); have hz8 : w3.heap.size ≤ w8.heap.size := Nat.le_trans hz7 b8.size; clear o8 g8 b8 r8; have HTK := Lib.hid (Take_any w3.heap.size g _ s2 1000 W.length w8 Q8.out (by decide) hz8 (by omega) HN.out))
    refine HTK.out.mono ?_
    rintro r w9 ⟨⟨A3, c3, rfl, o9⟩, q9, k9, b9⟩
    rw [rd2', f2'] at o9
    rw [tk_is hWf] at o9
    rw [en2', Bool.false_and]
    have OW9 := own_keepT O8.out Q8.out k9
    have SM := same_any A3 A8 c3 c8 W W w9 (Rd.of_own o9) (Rd.of_own OW9) hWb hWb
    have B9 := Lib.hid (B8.out.trans (b9.mono hz3))
    clear OW9 o9 q9 k9 b9 HTK
    go_wp2_with fail
    refine SM.mono ?_
    rintro r w10 ⟨rfl, rfl⟩
    rw [show sameB W W = true by simp [sameB]]
    go_wp2_with fail
    go_ret
    exact ⟨rfl, B9.out⟩
  · have hWP : W = P := by rw [hW]; exact if_neg hc
    clear hW
    subst hWP
    have HTK := Lib.hid (Take_any w3.heap.size g _ s2 1000 W.length w7 Q7.out (by decide) hz7 (by omega) HN.out)
    by_cases hc1 : at_ ≤ W.length
    · have hd1 : decide (off % 40 ≤ (W.length : Int)) = true := by simp; omega
      have hd2 : decide ((W.length : Int) < off % 40 + (R.length : Int)) = false := by simp; omega
      have ws1 : IntKind.i64.wrap (off % 40 + (R.length : Int)) = off % 40 + (R.length : Int) := IntWalk.i64_in _ (by omega)
      go_wp2_with fail
      refine HTK.out.mono ?_
      rintro r w9 ⟨⟨A3, c3, rfl, o9⟩, q9, k9, b9⟩
      rw [rd2', f2'] at o9
      rw [tk_is hWf] at o9
      rw [en2', Bool.false_and]
      have OW9 := own_keepT O7.out Q7.out k9
      have SM := same_any A3 A2 c3 c2 W W w9 (Rd.of_own o9) (Rd.of_own OW9) hWb hWb
      have B9 := Lib.hid (B7.out.trans (b9.mono hz3))
      clear OW9 o9 q9 k9 b9 HTK
      go_wp2_with fail
      refine SM.mono ?_
      rintro r w10 ⟨rfl, rfl⟩
      rw [show sameB W W = true by simp [sameB]]
      go_wp2_with fail
      go_ret
      exact ⟨rfl, B9.out⟩
    · have hd1 : decide (off % 40 ≤ (W.length : Int)) = false := by simp; omega
      go_wp2_with fail
      refine HTK.out.mono ?_
      rintro r w9 ⟨⟨A3, c3, rfl, o9⟩, q9, k9, b9⟩
      rw [rd2', f2'] at o9
      rw [tk_is hWf] at o9
      rw [en2', Bool.false_and]
      have OW9 := own_keepT O7.out Q7.out k9
      have SM := same_any A3 A2 c3 c2 W W w9 (Rd.of_own o9) (Rd.of_own OW9) hWb hWb
      have B9 := Lib.hid (B7.out.trans (b9.mono hz3))
      clear OW9 o9 q9 k9 b9 HTK
      go_wp2_with fail
      refine SM.mono ?_
      rintro r w10 ⟨rfl, rfl⟩
      rw [show sameB W W = true by simp [sameB]]
      go_wp2_with fail
      go_ret
      exact ⟨rfl, B9.out⟩
end Go.Proofs.YtdafeokjedmnkaaDoor
