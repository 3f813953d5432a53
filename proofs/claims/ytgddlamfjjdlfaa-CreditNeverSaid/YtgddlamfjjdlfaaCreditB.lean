/-
  CreditNever.
-/
import Derived.Test.YtgddlamfjjdlfaaCreditA
import Derived.Test.YtgddlamfjjdlfaaOpenCreditOp
namespace Go.Proofs.Ytgddlamfjjdlfaa
open Go.RowKit
set_option linter.unusedVariables false

theorem Top_any (n : Int) (w : World) (h0 : 0 ≤ n) : Calls Try.prog 10 #[.int .u64 n] w fun r w' => r = .returned (.int .u64 (topN n)) ∧ w = w' := by
  by_cases h : 4611686018427387903 < n
  · rw [show topN n = 4611686018427387903 by unfold topN; omega]
    go_enter Try.func10, Try.ntmps10
    go_wp2_with fail
    go_ret
    exact ⟨rfl, rfl⟩
  · have hd : decide (4611686018427387903 < n) = false := by simpa using h
    rw [show topN n = n by unfold topN; omega]
    go_enter Try.func10, Try.ntmps10
    go_wp2_with fail
    go_ret
    exact ⟨rfl, rfl⟩
theorem pGrant_li (p : PU) (n : Int) : (pGrant p n).1.li = max p.li (topN n) ∧ (pGrant p n).1.sp = p.sp := by
  unfold pGrant
  by_cases h : topN n ≤ p.li
  · rw [if_pos h]; exact ⟨show p.li = max p.li (topN n) by omega, rfl⟩
  · rw [if_neg h]; exact ⟨show topN n = max p.li (topN n) by omega, rfl⟩

theorem never_walk (n : Int) (A : Option Addr) (c : Nat) (l : List CreditOp) (w : World) (hn0 : 0 ≤ n) (hn1 : n < 18446744073709551616) (hr : RdT 2 CreditOpC CreditOpOk w A l) (hlc : l.length ≤ c) (hcm : c ≤ 9223372036854775807) (hA : A = none → c = 0) :
    Calls Try.prog 6 #[.int .u64 n, .slice A l.length c] w fun r w' => r = .returned (.bool true) ∧ Below w.heap.size w w' := by
  have HR := Lib.hid hr
  clear hr hA
  have HT := fun W => Top_any n W hn0
  have ok0 := puN_ok hn0
  have e0 : (puN n).li = topN n ∧ (puN n).sp = 0 := ⟨rfl, rfl⟩
  have hNP := fun W => NewPurse_any n W hn0
  generalize puN n = P0 at *
  generalize topN n = L0 at *
  obtain ⟨rfl, e1⟩ := e0
  go_enter Try.func6, Try.ntmps6
  go_wp2_with fail
  refine (awake11_any _).mono ?_
  rintro e w1 ⟨rfl, b1⟩
  go_wp2_with fail
  refine (hNP _).mono ?_
  rintro e w2 ⟨g, rfl, j0, l1, b2⟩
  have hz := b1.size
  have bb := b1.trans (b2.mono hz)
  have hm : w.heap.size ≤ g := by omega
  clear b1 b2
  go_wp2_with fail
  refine (HT _).mono ?_
  rintro e w3 ⟨rfl, rfl⟩
  clear HT hNP
  go_wp2_with fail
  go_loopw [18, 6, 7] (fun i m s wr => ∃ (k : Nat) (P : PU), k ≤ l.length ∧ i = .int .i64 k ∧ m = .int .u64 P.li ∧ s = .int .u64 P.sp ∧ Pur wr g P ∧ PuOk P ∧ Below w.heap.size w wr) (fun i _ _ _ => l.length - (intOf i).toNat)
  case atStart => exact ⟨0, P0, by omega, rfl, rfl, by rw [e1], j0, ok0, bb⟩
  case round =>
    obtain ⟨k, P, hk, rfl, rfl, rfl, j1, ok1, b1⟩ := hrel
    by_cases hlt : k < l.length
    · obtain ⟨b, off, x, rfl, hb, hx, hok, hc⟩ := (HR.out.below b1).at_ hlt
      have q0 := hc 0 (by omega)
      have q1 := hc 1 (by omega)
      clear hc hx
      obtain ⟨d, x⟩ := x
      obtain ⟨w0, w1, _⟩ := hok
      simp [CreditOpC] at q0 q1 w0 w1
      have d0 := wf_u8 w0
      have x0 := wf_u64 w1
      by_cases h60 : k < 40
      · have J := Lib.hid j1
        have OK := Lib.hid ok1
        have BB := Lib.hid b1
        clear j1 ok1 b1 j0 bb ok0
        obtain ⟨o0, o1, o2⟩ := OK.out
        have hT := topN_ok x0.1
        have KB := Blk.new wr 32 #[.int .u8 d, .int .u64 x]
        rcases (show d % 2 = 0 ∨ d % 2 = 1 by omega) with hq | hq
        · have GC := Grant_any g P x _ (Blk.alloc J.out (.cells #[.int .u8 d, .int .u64 x] 32)) x0.1 OK.out
          have ok2 : PuOk (pGrant P x).1 := pGrant_ok OK.out
          have e2 := pGrant_li P x
          generalize (pGrant P x).1 = P2 at GC ok2 e2
          generalize (pGrant P x).2 = E2 at GC
          have TC := fun W => Top_any x W x0.1
          generalize topN x = T at TC e2 hT
          obtain ⟨Z, hZ⟩ : ∃ Z, Z = max P.li T := ⟨_, rfl⟩
          have Z1 : (if T < P.li then P.li else T) = Z := by rw [hZ]; split <;> omega
          have Z2 : (if P.li < T then T else P.li) = Z := by rw [hZ]; split <;> omega
          rw [← hZ] at e2
          have HGC := Lib.hid GC
          have HTC := Lib.hid TC
          clear GC TC
          go_wp2_with fail
          refine HGC.out.mono ?_
          rintro e w4 ⟨rfl, j2, g2⟩
          have KB2 := KB.grown g2 (by intro h; injection h; have := J.out.lt; omega)
          have bb2 := below_gb (BB.out.alloc BB.out.size (.cells #[.int .u8 d, .int .u64 x] 32)) g2 hm (by have := BB.out.size; simp; omega)
          clear q0 q1 g2 KB HGC
          have q1 := KB2.cell 1
          have z4 := KB2.lt
          have f1 := KB2.frozen 1
          simp at q1
          have J2 := Lib.hid j2
          have BB2 := Lib.hid bb2
          clear KB2 j2 bb2
          go_wp2_with fail
          refine (HTC.out _).mono ?_
          rintro e w5 ⟨rfl, rfl⟩
          have hd2 : decide (Z < P.sp) = false := by simp; omega
          have hw2 : IntKind.u64.wrap (Z - P.sp) = Z - P.sp := IntWalk.u64_in _ (by omega)
          have HL := fun W h => PLeft_any g P2 W h ok2
          rw [e2.1, e2.2] at HL
          have HLh := Lib.hid HL
          clear HL
          go_wp2_with fail
          refine (HLh.out _ J2.out).mono ?_
          rintro e w6 ⟨rfl, q6, rfl⟩
          go_wp2_with fail
          go_roundw
          case rel => exact ⟨k + 1, P2, by omega, by go_num, by rw [e2.1, hZ], by rw [e2.2], J2.out.drewN _, ok2, below_drewN BB2.out _⟩
          case measure => simp [intOf]; omega
        · have GC := PSpend_any g P x _ (Blk.alloc J.out (.cells #[.int .u8 d, .int .u64 x] 32)) x0.1 OK.out
          by_cases hs : P.li - P.sp < x
          · have e2 : pSpend P x = (P, 12) := if_pos hs
            rw [e2] at GC
            simp only at GC
            have HGC := Lib.hid GC
            clear GC e2
            go_wp2_with fail
            refine HGC.out.mono ?_
            rintro e w4 ⟨rfl, j2, g2⟩
            have bb2 := below_gb (BB.out.alloc BB.out.size (.cells #[.int .u8 d, .int .u64 x] 32)) g2 hm (by have := BB.out.size; simp; omega)
            clear q0 q1 g2 KB HGC
            have J2 := Lib.hid j2
            have BB2 := Lib.hid bb2
            have ok2 := OK.out
            clear j2 bb2
            obtain ⟨P2, e2⟩ : ∃ P2, P2 = P := ⟨_, rfl⟩
            subst e2
            obtain ⟨p0, p1, p2⟩ := ok2
            have ok2 : PuOk P2 := ⟨p0, p1, p2⟩
            have hd2 : decide (P2.li < P2.sp) = false := by simp; omega
            have hw2 : IntKind.u64.wrap (P2.li - P2.sp) = P2.li - P2.sp := IntWalk.u64_in _ (by omega)
            have HL := fun W h => PLeft_any g P2 W h ok2
            have HLh := Lib.hid HL
            clear HL
            go_wp2_with fail
            refine (HLh.out _ J2.out).mono ?_
            rintro e w6 ⟨rfl, q6, rfl⟩
            go_wp2_with fail
            go_roundw
            case rel => exact ⟨k + 1, P2, by omega, by go_num, rfl, rfl, J2.out.drewN _, ok2, below_drewN BB2.out _⟩
            case measure => simp [intOf]; omega
          · have e2 : pSpend P x = (⟨P.li, P.sp + x⟩, 0) := if_neg hs
            have ok2 := pSpend_ok OK.out (n := x) x0.1
            rw [e2] at GC ok2
            simp only at GC ok2
            obtain ⟨P2, e3⟩ : ∃ P2 : PU, P2 = ⟨P.li, P.sp + x⟩ := ⟨_, rfl⟩
            rw [← e3] at GC ok2
            have HGC := Lib.hid GC
            clear GC e2
            go_wp2_with fail
            refine HGC.out.mono ?_
            rintro e w4 ⟨rfl, j2, g2⟩
            have KB2 := KB.grown g2 (by intro h; injection h; have := J.out.lt; omega)
            have bb2 := below_gb (BB.out.alloc BB.out.size (.cells #[.int .u8 d, .int .u64 x] 32)) g2 hm (by have := BB.out.size; simp; omega)
            clear q0 q1 g2 KB HGC
            have q1 := KB2.cell 1
            have z4 := KB2.lt
            have f1 := KB2.frozen 1
            simp at q1
            have J2 := Lib.hid j2
            have BB2 := Lib.hid bb2
            clear KB2 j2 bb2
            have e4 : IntKind.u64.wrap (P.sp + x) = P2.sp := by rw [e3]; exact IntWalk.u64_in _ (by omega)
            have e5 : P.li = P2.li := by rw [e3]
            clear e3
            obtain ⟨p0, p1, p2⟩ := ok2
            have ok2 : PuOk P2 := ⟨p0, p1, p2⟩
            have hd2 : decide (P2.li < P2.sp) = false := by simp; omega
            have hw2 : IntKind.u64.wrap (P2.li - P2.sp) = P2.li - P2.sp := IntWalk.u64_in _ (by omega)
            have HL := fun W h => PLeft_any g P2 W h ok2
            have HLh := Lib.hid HL
            clear HL
            go_wp2_with fail
            refine (HLh.out _ J2.out).mono ?_
            rintro e w6 ⟨rfl, q6, rfl⟩
            go_wp2_with fail
            go_roundw
            case rel => exact ⟨k + 1, P2, by omega, by go_num, rfl, rfl, J2.out.drewN _, ok2, below_drewN BB2.out _⟩
            case measure => simp [intOf]; omega
      · have h61 : (40 : Int) ≤ k := by omega
        go_wp2_with fail
        go_ret
        exact ⟨rfl, b1.alloc b1.size _⟩
    · have hd : decide (k < l.length) = false := by simpa using hlt
      go_wp2_with fail
      go_ret
      exact ⟨rfl, b1⟩
end Go.Proofs.Ytgddlamfjjdlfaa
