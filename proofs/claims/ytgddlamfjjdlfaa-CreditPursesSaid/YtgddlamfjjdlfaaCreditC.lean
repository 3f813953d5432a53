/-
  CreditNews.
-/
import Derived.Test.YtgddlamfjjdlfaaCreditB
namespace Go.Proofs.Ytgddlamfjjdlfaa
open Go.RowKit
set_option linter.unusedVariables false

theorem tCame_wi (t : TL) (n : Int) : (tCame t n).1.wi = t.wi ∧ (tCame t n).1.li = t.li := by
  unfold tCame
  by_cases h : t.li < n
  · rw [if_pos h]; exact ⟨rfl, rfl⟩
  · rw [if_neg h]; exact ⟨rfl, rfl⟩
theorem tTook_wi (t : TL) (n : Int) : (tTook t n).1.wi = t.wi ∧ (tTook t n).1.li = t.li := by
  unfold tTook
  by_cases h : t.ca - t.re < n
  · rw [if_pos h]; exact ⟨rfl, rfl⟩
  · rw [if_neg h]; exact ⟨rfl, rfl⟩
theorem tNews_ways (t : TL) : ((tNews t).1 = t ∧ (tNews t).2 = (0, false)) ∨ (t.li < topN (t.re + t.wi) ∧ (tNews t).1 = ⟨t.wi, topN (t.re + t.wi), t.ca, t.re⟩ ∧ (tNews t).2 = (topN (t.re + t.wi), true)) := by
  unfold tNews
  by_cases h : max (t.wi / 2) 1 ≤ t.li - t.re
  · rw [if_pos h]; exact .inl ⟨rfl, rfl⟩
  · rw [if_neg h]
    by_cases h2 : topN (t.re + t.wi) ≤ t.li
    · rw [if_pos h2]; exact .inl ⟨rfl, rfl⟩
    · rw [if_neg h2]; exact .inr ⟨by omega, rfl, rfl⟩

theorem news_walk (n : Int) (A : Option Addr) (c : Nat) (l : List CreditOp) (w : World) (hn0 : 0 ≤ n) (hn1 : n < 18446744073709551616) (hr : RdT 2 CreditOpC CreditOpOk w A l) (hlc : l.length ≤ c) (hcm : c ≤ 9223372036854775807) (hA : A = none → c = 0) :
    Calls Try.prog 7 #[.int .u64 n, .slice A l.length c] w fun r w' => r = .returned (.bool true) ∧ Below w.heap.size w w' := by
  have HR := Lib.hid hr
  clear hr hA
  have HT := fun W => Top_any n W hn0
  have ok0 := tlN_ok hn0
  have e0 : (tlN n).li = topN n ∧ (tlN n).wi = topN n := ⟨rfl, rfl⟩
  have hNP := fun W => NewTill_any n W hn0
  generalize tlN n = T0 at *
  generalize topN n = L0 at *
  obtain ⟨e1, e2⟩ := e0
  have HHT := Lib.hid HT
  clear HT
  go_enter Try.func7, Try.ntmps7
  go_wp2_with fail
  refine (awake11_any _).mono ?_
  rintro e w1 ⟨rfl, b1⟩
  go_wp2_with fail
  refine (hNP _).mono ?_
  rintro e w2 ⟨g, rfl, j0, l1, b2⟩
  have hz := b1.size
  have bb := b1.trans (b2.mono hz)
  have hm : w.heap.size ≤ g := by omega
  clear b1 b2
  go_wp2_with fail
  refine (HHT.out _).mono ?_
  rintro e w3 ⟨rfl, rfl⟩
  clear hNP
  go_wp2_with fail
  go_loopw [25, 6] (fun i m wr => ∃ (k : Nat) (T : TL), k ≤ l.length ∧ i = .int .i64 k ∧ m = .int .u64 T.li ∧ T.wi = L0 ∧ Til wr g T ∧ TlOk T ∧ Below w.heap.size w wr) (fun i _ _ => l.length - (intOf i).toNat)
  case atStart => exact ⟨0, T0, by omega, rfl, by rw [e1], e2, j0, ok0, bb⟩
  case round =>
    obtain ⟨k, T, hk, rfl, rfl, hwi, j1, ok1, b1⟩ := hrel
    by_cases hlt : k < l.length
    · obtain ⟨b, off, x, rfl, hb, hx, hok, hc⟩ := (HR.out.below b1).at_ hlt
      have q0 := hc 0 (by omega)
      have q1 := hc 1 (by omega)
      clear hc hx
      obtain ⟨d, x⟩ := x
      obtain ⟨w0, w1, _⟩ := hok
      simp [CreditOpC] at q0 q1 w0 w1
      have d0 := wf_u8 w0
      have x0 := wf_u64 w1
      by_cases h60 : k < 40
      · have OK := Lib.hid ok1
        obtain ⟨o0, o1, o2, o3, o4, o5⟩ := ok1
        have KB := Blk.new wr 32 #[.int .u8 d, .int .u64 x]
        have hgw := j1.lt
        obtain ⟨W, hW⟩ : ∃ W, W = wr.alloc (.cells #[.int .u8 d, .int .u64 x] 32) := ⟨_, rfl⟩
        have j2 : Til W g T := by rw [hW]; exact Blk.alloc j1 _
        have b2 : Below w.heap.size w W := by rw [hW]; exact b1.alloc b1.size _
        have KB : Blk W wr.heap.size 32 #[.int .u8 d, .int .u64 x] := by rw [hW]; exact KB
        have J := Lib.hid j2
        have BB := Lib.hid b2
        have KBh := Lib.hid KB
        clear j1 b1 j0 bb ok0 j2 b2 KB
        go_wp2_with fail
        rw [← hW]
        refine (TTold_any g T _ J.out).mono ?_
        rintro e w5 ⟨rfl, kk, hw5⟩
        have j2 : Til w5 g T := by rw [hw5]; exact J.out.drewN _
        have b2 : Below w.heap.size w w5 := by rw [hw5]; exact below_drewN BB.out _
        have KB : Blk w5 wr.heap.size 32 #[.int .u8 d, .int .u64 x] := by rw [hw5]; exact KBh.out
        clear hw5 hW J BB KBh q0 q1
        have k0 := KB.cell 0
        have k1 := KB.cell 1
        have f1 := KB.frozen 1
        have z1 := KB.lt
        simp at k0 k1
        have J := Lib.hid j2
        have BB := Lib.hid b2
        clear j2 b2 KB
        rcases (show d % 3 = 0 ∨ d % 3 = 1 ∨ d % 3 = 2 by omega) with hq | hq | hq
        · obtain ⟨Z, hZ⟩ : ∃ Z, Z = min x T.li := ⟨_, rfl⟩
          have Z1 : (if x < T.li then x else T.li) = Z := by rw [hZ]; split <;> omega
          have Z2 : (if T.li < x then T.li else x) = Z := by rw [hZ]; split <;> omega
          have hz0 : 0 ≤ Z := by omega
          clear hZ
          have GC := Came_any g T Z _ J.out hz0 OK.out
          have e3 := tCame_wi T Z
          have ok2 := tCame_ok (n := Z) OK.out
          generalize (tCame T Z).1 = T2 at *
          generalize (tCame T Z).2 = E2 at *
          have HGC := Lib.hid GC
          clear GC
          go_wp2_with fail
          refine HGC.out.mono ?_
          rintro e w6 ⟨rfl, j3, g3⟩
          have bb2 := below_gb BB.out g3 hm BB.out.size
          clear k0 k1 f1 z1 g3
          go_wp2_with fail
          go_roundw
          case rel => exact ⟨k + 1, T2, by omega, by go_num, by rw [e3.2], by rw [e3.1, hwi], j3, ok2, bb2⟩
          case measure => simp [intOf]; omega
        · obtain ⟨Z, hZ⟩ : ∃ Z, Z = min x (T.ca - T.re) := ⟨_, rfl⟩
          have Z1 : (if x < T.ca - T.re then x else T.ca - T.re) = Z := by rw [hZ]; split <;> omega
          have Z2 : (if T.ca - T.re < x then T.ca - T.re else x) = Z := by rw [hZ]; split <;> omega
          have hz0 : 0 ≤ Z := by omega
          have hw7 : IntKind.u64.wrap (T.ca - T.re) = T.ca - T.re := IntWalk.u64_in _ (by omega)
          clear hZ
          have GC := Took_any g T Z _ J.out hz0 OK.out
          have e3 := tTook_wi T Z
          have ok2 := tTook_ok OK.out hz0
          generalize (tTook T Z).1 = T2 at *
          generalize (tTook T Z).2 = E2 at *
          have HGC := Lib.hid GC
          clear GC
          go_wp2_with fail
          refine HGC.out.mono ?_
          rintro e w6 ⟨rfl, j3, g3⟩
          have bb2 := below_gb BB.out g3 hm BB.out.size
          clear k0 k1 f1 z1 g3
          go_wp2_with fail
          go_roundw
          case rel => exact ⟨k + 1, T2, by omega, by go_num, by rw [e3.2], by rw [e3.1, hwi], j3, ok2, bb2⟩
          case measure => simp [intOf]; omega
        · have GC := News_any g T _ J.out OK.out
          have ok2 := tNews_ok OK.out
          rcases tNews_ways T with ⟨e3, e4⟩ | ⟨h3, e3, e4⟩
          · rw [e3, e4] at GC
            simp only at GC
            have HGC := Lib.hid GC
            clear GC e3 e4
            go_wp2_with fail
            refine HGC.out.mono ?_
            rintro e w6 ⟨rfl, j3, g3⟩
            have bb2 := below_gb BB.out g3 hm BB.out.size
            clear k0 k1 f1 z1 g3
            go_wp2_with fail
            go_roundw
            case rel => exact ⟨k + 1, T, by omega, by go_num, rfl, hwi, j3, OK.out, bb2⟩
            case measure => simp [intOf]; omega
          · have hTT := fun W => Top_any (T.re + T.wi) W (by omega)
            rw [e3] at ok2
            rw [e3, e4] at GC
            simp only at GC
            rw [hwi] at hTT GC h3 ok2
            have hw7 : IntKind.u64.wrap (T.re + L0) = T.re + L0 := IntWalk.u64_in _ (by omega)
            obtain ⟨X, hX⟩ : ∃ X, X = topN (T.re + L0) := ⟨_, rfl⟩
            have x1 := topN_ok (show 0 ≤ T.re + L0 by omega)
            rw [← hX] at hTT GC h3 ok2 x1
            have hd8 : decide (X ≤ T.li) = false := by simp; omega
            have HGC := Lib.hid GC
            have HTT := Lib.hid hTT
            have HWI := Lib.hid hwi
            clear GC e3 e4 hTT hwi hX
            go_wp2_with fail
            refine HGC.out.mono ?_
            rintro e w6 ⟨rfl, j3, g3⟩
            have bb2 := below_gb BB.out g3 hm BB.out.size
            clear k0 k1 f1 z1 g3
            go_wp2_with fail
            refine (HHT.out _).mono ?_
            rintro e w7 ⟨rfl, rfl⟩
            go_wp2_with fail
            refine (HTT.out _).mono ?_
            rintro e w7 ⟨rfl, rfl⟩
            go_wp2_with fail
            go_roundw
            case rel => exact ⟨k + 1, _, by omega, by go_num, rfl, rfl, j3, ok2, bb2⟩
            case measure => simp [intOf]; omega
      · have h61 : (40 : Int) ≤ k := by omega
        go_wp2_with fail
        refine (TTold_any g T _ (Blk.alloc j1 _)).mono ?_
        rintro e w5 ⟨rfl, kk, rfl⟩
        go_wp2_with fail
        go_ret
        exact ⟨rfl, below_drewN (b1.alloc b1.size _) _⟩
    · have hd : decide (k < l.length) = false := by simpa using hlt
      go_wp2_with fail
      refine (TTold_any g T _ j1).mono ?_
      rintro e w5 ⟨rfl, kk, rfl⟩
      go_wp2_with fail
      go_ret
      exact ⟨rfl, below_drewN b1 _⟩
end Go.Proofs.Ytgddlamfjjdlfaa
