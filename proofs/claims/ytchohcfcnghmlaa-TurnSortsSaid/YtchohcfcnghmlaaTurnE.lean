/-
  TurnLate; TurnRanks and TurnOrders with the bounds in the shell's spelling.
-/
import Derived.Test.YtchohcfcnghmlaaTurnD
namespace Go.Proofs.Ytchohcfcnghmlaa
open Go.RowKit
set_option linter.unusedVariables false
set_option linter.unusedSimpArgs false
theorem slice_uptoL (T E : TypeId) (size : Nat) (hT : Try.prog.underlying T = some (.slice E)) (hel : Try.prog.elem T = E) (hs : ∀ w, (sizeOf E).run Try.prog w = .ok size w) (A : Option Addr) (n c k : Nat) (kd : IntKind) (hk : k ≤ c) (w : World) :
    (Instr.slice T (.slice A n c) none (some (.int kd (k : Int))) none).run Try.prog w = .ok (.slice A k c) w := by
  rw [run_slice_h (P := Try.prog) w T A n c (by rw [hel]; exact hT) kd (k : Int) (by omega) (by omega), hel, hs]
  cases A <;> simp [sliced, Addr.add]
theorem size_u64L (w : World) : (sizeOf 23).run Try.prog w = .ok 1 w := by
  have h : (Try.prog.info? 23).map (·.size) = some 1 := by kernel_rfl
  obtain ⟨i, hi⟩ : ∃ i, Try.prog.info? 23 = some i := by
    cases h' : Try.prog.info? 23 with
    | none => rw [h'] at h; cases h
    | some i => exact ⟨i, rfl⟩
  have hsz : i.size = 1 := by rw [hi] at h; injection h
  simp [sizeOf, typeInfo, hi, hsz]
theorem own_0L (w : World) {base : Nat} (hb : base ≤ w.heap.size) : OwnV (w.alloc (.cells #[] 23)) base 23 1 (some ⟨w.heap.size, 0, none⟩) 0 0 [] :=
  ⟨rfl, .inr ⟨w.heap.size, 0, #[], rfl, hb, Blk.new w _ _, Nat.le_refl _, by simp, by simp, by simp⟩⟩
theorem late_at {L : List Int} {t win x : Int} {k : Nat} (hx : L[k]? = some x) (hs : staleB x t win 1 = true) : (lateOf L t win)[(lateOf (L.take k) t win).length]? = some x := by
  have hk : k < L.length := by
    rcases Nat.lt_or_ge k L.length with h | h
    · exact h
    · rw [List.getElem?_eq_none h] at hx; cases hx
  have e : L = L.take k ++ x :: L.drop (k + 1) := by
    rw [List.getElem?_eq_getElem hk] at hx
    injection hx with hx
    rw [← hx, ← List.drop_eq_getElem_cons hk, List.take_append_drop]
  have e2 : lateOf L t win = lateOf (L.take k) t win ++ x :: lateOf (L.drop (k + 1)) t win := by
    conv => lhs; rw [e]
    simp [lateOf, hs]
  rw [e2, List.getElem?_append_right (Nat.le_refl _)]
  simp
theorem late_less (L : List Int) (t win win' : Int) (h : win ≤ win') : (lateOf L t win').length ≤ (lateOf L t win).length := by
  have e : lateOf L t win' = (lateOf L t win).filter fun g => staleB g t win' 1 := by
    unfold lateOf
    rw [List.filter_filter]
    congr 1
    funext g
    unfold staleB
    by_cases h1 : win' < t - g
    · have : win < t - g := by omega
      simp [h1, this]
    · simp [h1]
  rw [e]
  exact List.length_filter_le _ _
theorem OwnV.more_base {w : World} {base : Nat} {e : TypeId} {size n : Nat} {A : Option Addr} {c : Nat} {xs : List Value} (h : OwnV w base e size A c n xs) : OwnV w base e size A c n xs := h
theorem IV_at {l : List Int} {j : Nat} {u : Value} (h : (IV .u64 l)[j]? = some u) : ∃ x, l[j]? = some x ∧ u = .int .u64 x := by
  simp only [IV, List.getElem?_map, Option.map_eq_some_iff] at h
  obtain ⟨x, h1, h2⟩ := h
  exact ⟨x, h1, h2.symm⟩
set_option maxHeartbeats 3200000 in
theorem late_walk (g n win o : Int) (A : Option Addr) (c : Nat) (l : List Int) (w : World) (g0 : 0 ≤ g) (n0 : 0 ≤ n) (n1 : n < 18446744073709551616) (w0 : 0 ≤ win) (hr : RdI .u64 w A l) (hb : ∀ x ∈ l, 0 ≤ x ∧ x < 18446744073709551616) (hlc : l.length ≤ c) :
    Calls Try.prog 5 #[.int .u64 g, .int .u64 n, .int .u64 win, .int .u8 o, .slice A l.length c] w fun r w' => r = .returned (.bool true) ∧ Below w.heap.size w w' := by
  obtain ⟨L, hL⟩ : ∃ L, L = l.take 60 := ⟨_, rfl⟩
  have hLl : L.length = min 60 l.length := by rw [hL, List.length_take]
  have hbL : ∀ x ∈ L, 0 ≤ x ∧ x < 18446744073709551616 := fun x hx => hb x (by rw [hL] at hx; exact List.mem_of_mem_take hx)
  have HS1 := Lib.hid (fun W => Stale_any g n win o W g0 n0 n1)
  have HS2 := Lib.hid (fun W => refStale_any g n win o W g0 n0 n1)
  obtain ⟨M, hM⟩ : ∃ M, M = maxL L := ⟨_, rfl⟩
  have mb := maxL_b L hbL
  rw [← hM] at mb
  have HS3 := Lib.hid (fun (x : Int) W (hx : 0 ≤ x) => refStale_any x M win 1 W hx mb.1 mb.2)
  have RL := Lib.hid (show Reads w w.heap.size 1 A L.length (IV .u64 L) from by
    have e60 : l.take L.length = L := by
      rw [hLl]
      rcases Nat.le_total 60 l.length with h | h
      · rw [Nat.min_eq_left h, hL]
      · rw [Nat.min_eq_right h, hL, List.take_length, List.take_of_length_le h]
    have := Reads.upto hr (k := L.length) (by omega)
    simpa [IV, ← List.map_take, e60] using this)
  have SL := Lib.hid (fun W => slice_uptoL 33 23 1 Try.underlying33 (by kernel_rfl) size_u64L A l.length c L.length .i64 (by omega) W)
  have Z1 : (if (l.length : Int) < 60 then (l.length : Int) else 60) = (L.length : Int) := by split <;> omega
  have Z2 : (if (60 : Int) < l.length then (60 : Int) else (l.length : Int)) = (L.length : Int) := by split <;> omega
  have Z3 : min (l.length : Int) 60 = (L.length : Int) := by omega
  have Z4 : min (60 : Int) (l.length : Int) = (L.length : Int) := by omega
  have h60 : L.length ≤ 60 := by omega
  have HZ := Lib.hid (And.intro Z1 (And.intro Z2 (And.intro Z3 Z4)))
  have HM := Lib.hid hM
  have HBL := Lib.hid hbL
  clear hr hb hL hLl hbL hM Z1 Z2 Z3 Z4
  go_enter Try.func5, Try.ntmps5
  go_wp2_with fail
  refine (awake19_any _).mono ?_
  rintro e w1 ⟨rfl, b1⟩
  have B1 := Lib.hid b1
  have z1 := b1.size
  clear b1
  go_wp2_with fail
  refine (HS1.out _).mono ?_
  rintro e w2 ⟨rfl, rfl⟩
  go_wp2_with fail
  refine (HS2.out _).mono ?_
  rintro e w2 ⟨rfl, rfl⟩
  go_upto_region 5 with (fail)
  obtain ⟨Z1, Z2, Z3, Z4⟩ := HZ.out
  have sl := SL.out (w1.alloc (.cells #[] 23))
  go_wp2_with (at_builtin; go_must (refine wpList_appV2 rfl (.tmp 31) (.tmp 36) 33 23 1 8 (.int .u64 0) rfl Try.underlying33 info_u64 rfl (by omega) w.heap.size (n := 0) (m := L.length) (xs := []) (news := IV .u64 L) (d := c) rfl rfl (own_0L _ z1) ((RL.out.below (B1.out.alloc z1 _)).more (by simp; omega)) (IV_oneCell _ _) (by unfold maxLen; omega) (by omega) (by simp; omega) ?_); intro A1 c1 w2 hown hg hb hrow)
  have hown' : OwnV w2 w.heap.size 23 1 A1 c1 L.length (IV .u64 L) := by simpa using hown
  have B2 := Lib.hid ((B1.out.alloc z1 _).trans hb)
  have R2 := Lib.hid (show RdI .u64 w2 A1 L from (by have := OwnV.reads hown'; rwa [show L.length = L.length from rfl] at this))
  have z2 := B2.out.size
  clear hown hown' hg hb hrow sl Z1 Z2 Z3 Z4 HS1 HS2 RL SL HZ B1
  go_loopw [40, 11, 13] (fun i m q wr => ∃ (k : Nat) (z : Value), k ≤ L.length ∧ i = .int .i64 k ∧ m = .int .u64 (maxL (L.take k)) ∧ q = z ∧ w2 = wr) (fun i _ _ _ => L.length - (intOf i).toNat)
  case atStart => exact ⟨0, _, by omega, rfl, by simp [maxL], rfl, rfl⟩
  case round =>
    obtain ⟨k, z, hk, rfl, rfl, rfl, rfl⟩ := hrel
    by_cases hlt : k < L.length
    · obtain ⟨b, off, x, rfl, hb, hx, hc⟩ := R2.out.at_ hlt
      obtain ⟨m, hm⟩ : ∃ m, m = maxL (L.take k) := ⟨_, rfl⟩
      have hs := maxL_snoc (L.take k) x
      rw [← take_snoc hx] at hs
      rw [← hm] at hs ⊢
      go_wp2_with fail
      all_goals (go_roundw; case rel => exact ⟨k + 1, _, by omega, by go_num, by rw [hs]; congr 1; omega, rfl, by first | rfl | trivial⟩)
      all_goals (simp [intOf]; omega)
    · have hd : decide (k < L.length) = false := by simpa using hlt
      have hk2 : k = L.length := by omega
      rw [show maxL (L.take k) = M by rw [hk2, List.take_length]; exact HM.out.symm]
      subst hk2
      have CL := Late_any A1 c1 L win w2 R2.out HBL.out (by omega)
      rw [← HM.out] at CL
      have HCL := Lib.hid CL
      clear CL hlt hk
      go_wp2_with fail
      refine HCL.out.mono ?_
      rintro e w3 ⟨A3, c3, rfl, o3, b3⟩
      have O3 := Lib.hid (OwnV.more_base o3)
      have R3 := Lib.hid (R2.out.below b3)
      have B3 := Lib.hid (B2.out.trans (b3.mono z2))
      have z3 := B3.out.size
      clear HCL b3 o3
      go_wp2_with fail
      go_loopw [53, 14, 17] (fun i m q wr => ∃ (k : Nat) (z : Value), k ≤ L.length ∧ i = .int .i64 k ∧ m = .int .i64 ((lateOf (L.take k) M win).length : Int) ∧ q = z ∧ w3 = wr) (fun i _ _ _ => L.length - (intOf i).toNat)
      case atStart => exact ⟨0, _, by omega, rfl, rfl, rfl, rfl⟩
      case round =>
        obtain ⟨k, z, hk, rfl, rfl, rfl, rfl⟩ := hrel
        by_cases hlt : k < L.length
        · obtain ⟨b, off, x, rfl, hb, hx, hc⟩ := R3.out.at_ hlt
          have hx0 := (HBL.out x (List.mem_of_getElem? hx)).1
          have ts := take_snoc hx
          have C := HS3.out x w3 hx0
          have HTS := Lib.hid ts
          clear ts
          by_cases hst : staleB x M win 1 = true
          · have la := late_at hx hst
            rw [hst] at C
            have HCa := Lib.hid C
            clear C
            have hf : (lateOf (L.take (k + 1)) M win).length = (lateOf (L.take k) M win).length + 1 := by rw [HTS.out]; simp [lateOf, hst]
            obtain ⟨N, hN⟩ : ∃ N, N = (lateOf (L.take k) M win).length := ⟨_, rfl⟩
            rw [← hN] at la hf ⊢
            have HF := Lib.hid hf
            have hNl : N < (lateOf L M win).length := by
              rcases Nat.lt_or_ge N (lateOf L M win).length with h | h
              · exact h
              · rw [List.getElem?_eq_none h] at la; cases la
            have nb : (lateOf L M win).length ≤ 60 := Nat.le_trans (List.length_filter_le _ _) h60
            obtain ⟨gq, u, e3, hg3, hu3, hc3⟩ := OwnV.at_ O3.out hNl
            obtain ⟨x', hx', rfl⟩ := IV_at hu3
            obtain rfl : x' = x := by rw [hx'] at la; injection la
            subst e3
            clear la hf hu3 hx' hN
            generalize (lateOf L M win).length = K at *
            have hdN : decide ((K : Int) ≤ N) = false := by simp; omega
            go_wp2_with fail
            refine HCa.out.mono ?_
            rintro e w4 ⟨rfl, rfl⟩
            go_wp2_with fail
            go_roundw
            case rel => exact ⟨k + 1, _, by omega, by go_num, by rw [HF.out]; go_num, rfl, by first | rfl | trivial⟩
            case measure => simp [intOf]; omega
          · have hst2 : staleB x M win 1 = false := by simpa using hst
            rw [hst2] at C
            have HCa := Lib.hid C
            clear C
            have hf : lateOf (L.take (k + 1)) M win = lateOf (L.take k) M win := by rw [HTS.out]; simp [lateOf, hst2]
            rw [← hf]
            go_wp2_with fail
            refine HCa.out.mono ?_
            rintro e w4 ⟨rfl, rfl⟩
            go_wp2_with fail
            go_roundw
            case rel => exact ⟨k + 1, _, by omega, by go_num, by rw [hf], rfl, by first | rfl | trivial⟩
            case measure => simp [intOf]; omega
        · have hd : decide (k < L.length) = false := by simpa using hlt
          have hk2 : k = L.length := by omega
          rw [hk2, List.take_length]
          have hm := late_less L M win (max win 1099511627776) (by omega)
          have CL := Late_any A1 c1 L (max win 1099511627776) w3 R3.out HBL.out (by omega)
          rw [← HM.out] at CL
          obtain ⟨win', hw'⟩ : ∃ v, v = max win 1099511627776 := ⟨_, rfl⟩
          rw [← hw'] at CL hm
          have HCL := Lib.hid CL
          have Z1 : (if win < 1099511627776 then (1099511627776 : Int) else win) = win' := by rw [hw']; split <;> omega
          have Z2 : (if (1099511627776 : Int) < win then win else (1099511627776 : Int)) = win' := by rw [hw']; split <;> omega
          clear CL hw'
          generalize (lateOf L M win).length = K at *
          go_wp2_with fail
          refine HCL.out.mono ?_
          rintro e w4 ⟨A4, c4, rfl, o4, b4⟩
          have B4 := Lib.hid (B3.out.trans (b4.mono z3))
          generalize (lateOf L M win').length = K2 at *
          have hm2 : (K2 : Int) ≤ K := by omega
          clear o4 b4
          go_wp2_with fail
          go_ret
          exact ⟨by simp [hm2], B4.out⟩
theorem wf_u64L {n : Int} (h : (Lit.int .u64 n).wf = true) : 0 ≤ n ∧ n < 18446744073709551616 := by
  have := bounds_u64 h
  omega
theorem late_walkF (g n win o : Int) (A : Option Addr) (c : Nat) (l : List Int) (w : World) (wg : (Lit.int .u64 g).wf = true) (wn : (Lit.int .u64 n).wf = true) (ww : (Lit.int .u64 win).wf = true) (wo : (Lit.int .u8 o).wf = true)
    (hr : RdI .u64 w A l) (hw : WF .u64 l) (hlc : l.length ≤ c) (hcm : c ≤ 9223372036854775807) (hA : A = none → c = 0) :
    Calls Try.prog 5 #[.int .u64 g, .int .u64 n, .int .u64 win, .int .u8 o, .slice A l.length c] w fun r w' => r = .returned (.bool true) ∧ Below w.heap.size w w' :=
  late_walk g n win o A c l w (wf_u64L wg).1 (wf_u64L wn).1 (wf_u64L wn).2 (wf_u64L ww).1 hr (fun x hx => wf_u64L (hw x hx)) hlc
theorem wf_u8L {n : Int} (h : (Lit.int .u8 n).wf = true) : 0 ≤ n ∧ n < 256 := by
  have := bounds_u8 h
  omega
theorem orders_walkF (s p a b : Int) (w : World) (ws : (Lit.int .u8 s).wf = true) (wp : (Lit.int .u8 p).wf = true) (wa : (Lit.int .u64 a).wf = true) (wb : (Lit.int .u64 b).wf = true) :
    Calls Try.prog 6 #[.int .u8 s, .int .u8 p, .int .u64 a, .int .u64 b] w fun r w' => r = .returned (.bool true) ∧ Below w.heap.size w w' :=
  orders_walk s p a b w (wf_u8L ws).1 (wf_u8L ws).2 (wf_u8L wp).1 (wf_u8L wp).2 (wf_u64L wa).1 (wf_u64L wb).1
theorem list3T {l : List Int} (h : l.length = 3) : ∃ a b c, l = [a, b, c] := by
  match l, h with
  | [a, b, c], _ => exact ⟨a, b, c, rfl⟩
theorem ranks_walkF (l0 l1 : List Int) (g h : Int) (w : World) (n0 : l0.length = 3) (b0 : Bytes l0) (n1 : l1.length = 3) (b1 : Bytes l1) (wg : (Lit.int .u64 g).wf = true) (wh : (Lit.int .u64 h).wf = true) :
    Calls Try.prog 3 #[.agg (IV .u8 l0).toArray, .agg (IV .u8 l1).toArray, .int .u64 g, .int .u64 h] w fun r w' => r = .returned (.bool true) ∧ Below w.heap.size w w' := by
  obtain ⟨a0, a1, a2, rfl⟩ := list3T n0
  obtain ⟨c0, c1, c2, rfl⟩ := list3T n1
  have p0 := b0 a0 (by simp)
  have p1 := b0 a1 (by simp)
  have q0 := b1 c0 (by simp)
  have q1 := b1 c1 (by simp)
  have t := less3_tri ⟨a0, a1, gV a2 g⟩ ⟨c0, c1, gV c2 h⟩
  refine ranks_walk0 a0 a1 a2 c0 c1 c2 g h a0 a1 (gV a2 g) c0 c1 (gV c2 h) (less3 ⟨a0, a1, gV a2 g⟩ ⟨c0, c1, gV c2 h⟩) (less3 ⟨c0, c1, gV c2 h⟩ ⟨a0, a1, gV a2 g⟩) w ?_ ?_ ?_ ?_ ?_ ?_ ?_
  · exact Lib.hid fun W => Rank_any a0 a1 a2 g W p0.1 p0.2 p1.1 p1.2 (wf_u64L wg).1
  · exact Lib.hid fun W => refRank_any a0 a1 a2 g W p0.1 p0.2 p1.1 p1.2 (wf_u64L wg).1
  · exact Lib.hid fun W => Rank_any c0 c1 c2 h W q0.1 q0.2 q1.1 q1.2 (wf_u64L wh).1
  · exact Lib.hid fun W => Less_any ⟨a0, a1, gV a2 g⟩ ⟨c0, c1, gV c2 h⟩ W
  · exact Lib.hid fun W => refLess_any ⟨a0, a1, gV a2 g⟩ ⟨c0, c1, gV c2 h⟩ W
  · exact Lib.hid fun W => Less_any ⟨c0, c1, gV c2 h⟩ ⟨a0, a1, gV a2 g⟩ W
  · rcases t with t | t | ⟨t1, t2, t3⟩
    · exact .inl t
    · exact .inr (.inl t)
    · injection t3 with e1 e2 e3
      exact .inr (.inr ⟨t1, t2, e1, e2, e3⟩)
end Go.Proofs.Ytchohcfcnghmlaa
