/-
  QuiltPlays: nil quilts.
-/
import Derived.Test.YtdafeokjedmnkaaDoorQuiltX
import Derived.BigQuiet
namespace Go.Proofs.YtdafeokjedmnkaaDoor
open Go.RowKit Go.Maps
set_option linter.unusedVariables false
set_option linter.unusedSimpArgs false
theorem Calls.sq {f : FuncId} {args : Array Value} {W : World} {v : Value} (h : Calls Tryd.prog f args W fun e w' => e = .returned v ∧ W = w') : Calls Tryd.prog f args W fun e w' => e = .returned v ∧ ∃ m, w' = W.drewN m := h.mono fun _ _ ⟨a, b⟩ => ⟨a, 0, b.symm⟩
/-- Some row of n bytes, the call's own. -/
def Row8 (w : World) (b : Nat) (A : Option Addr) (c n : Nat) : Prop := ∃ l : List Int, l.length = n ∧ Own w b A c l
theorem Row8.cell {w : World} {b : Nat} {A : Option Addr} {c n i : Nat} (h : Row8 w b A c n) (hi : i < n) : ∃ g x cur, A = some ⟨g, 0, none⟩ ∧ b ≤ g ∧ w.cell? ⟨g, i, none⟩ = some (.int .u8 x) ∧ w.frozen? ⟨g, i, none⟩ = false ∧ Blk w g 5 cur := by
  obtain ⟨l, hl, ho⟩ := h
  exact own_cell ho (by omega)
theorem Row8.set {w : World} {b : Nat} {A : Option Addr} {c n i g : Nat} {cur : Array Value} (h : Row8 w b A c n) (k : Blk w g 5 cur) (y : Int) : Row8 (w.setCell ⟨g, i, none⟩ (.int .u8 y)) b A c n := by
  obtain ⟨l, hl, ho⟩ := h
  obtain ⟨l2, h1, h2⟩ := own_any (i := i) ho k y
  exact ⟨l2, h1.trans hl, h2⟩
theorem Row8.drewN {w : World} {b : Nat} {A : Option Addr} {c n : Nat} (h : Row8 w b A c n) (k : Nat) : Row8 (w.drewN k) b A c n := by
  obtain ⟨l, hl, ho⟩ := h
  exact ⟨l, hl, ho⟩
set_option maxRecDepth 100000 in
set_option maxHeartbeats 1600000 in
theorem plays_nil (A : Option Addr) (c : Nat) (l : List QuiltOp) (w : World) (ht : TabT w)
    (hr : RdT 5 QuiltOpC (QuiltOpOk w) w A l) (hlc : l.length ≤ c) (hcm : c ≤ 9223372036854775807) (hA : A = none → c = 0) :
    Calls Tryd.prog 3 #[.bool true, .slice A l.length c] w fun r w' => r = .returned (.bool true) ∧ Below w.heap.size w w' := by
  have HR := Lib.hid hr
  have AW := awake10_any w ht
  clear ht hr hA
  go_enter Tryd.func3, Tryd.ntmps3
  go_wp2_with fail
  refine AW.mono ?_
  rintro r w1 ⟨rfl, b1⟩
  go_wp2_with fail
  refine (QNew_any w1).mono ?_
  rintro r w2 ⟨g, rfl, q2, b2⟩
  go_wp2_with fail
  refine (rNew_any w2).mono ?_
  rintro r w3 ⟨x, B, rfl, r3, hx, hB, b3⟩
  have hz1 := b1.size
  have hz2 := b2.size
  have B3 := Lib.hid ((b1.trans (b2.mono hz1)).trans (b3.mono (Nat.le_trans hz1 hz2)))
  clear q2 r3 hx hB b1 b2 b3 hz1 hz2 AW
  go_wp2_with fail
  go_loopw [26] (fun i wr => ∃ k : Nat, k ≤ l.length ∧ i = .int .i64 k ∧ Hid (Below w.heap.size w wr)) (fun i _ => l.length - (intOf i).toNat)
  case atStart => exact ⟨0, by omega, rfl, B3⟩
  case round =>
    obtain ⟨k, hk, rfl, BB⟩ := hrel
    clear B3
    by_cases hlt : k < l.length
    · obtain ⟨b, off, x, rfl, hb, hx, hok, hc⟩ := (HR.out.below BB.out).at_ hlt
      have q0 := hc 0 (by omega)
      have q1 := hc 1 (by omega)
      have q2 := hc 2 (by omega)
      have q3 := hc 3 (by omega)
      have q4 := hc 4 (by omega)
      clear hc hx
      obtain ⟨d, o, pA, pc, pp, pe, pn⟩ := x
      obtain ⟨x0, x1, ⟨x2, x3⟩, x4, _⟩ := hok
      simp [QuiltOpC] at q0 q1 q2 q3 q4 x0 x1 x2 x3 x4
      have hd0 := u8_range' x0
      obtain ⟨W, hW⟩ : ∃ W, W = wr.alloc (.cells #[.int .u8 d, .int .u64 o, .slice pA pp.length pc, .bool pe, .int .i64 pn] 31) := ⟨_, rfl⟩
      have BW := Lib.hid (show Below w.heap.size w W by rw [hW]; exact BB.out.alloc BB.out.size _)
      by_cases h40 : k < 40
      · have hd : decide (40 ≤ (k : Int)) = false := by simp; omega
        obtain ⟨PP, hPP⟩ : ∃ P, P = pp.take 60 := ⟨_, rfl⟩
        have hPP6 := cut_len hPP
        have hPPb := Lib.hid (show Bytes PP by rw [hPP]; exact bytes_take x3 60)
        have CP := Lib.hid (fun W h => cut60 pA pc pp PP hPP W h x2.le x2.max)
        have RP := Lib.hid x2.rd
        clear hPP x2 x3
        obtain ⟨gx, hgx⟩ : ∃ gx, gx = wr.heap.size := ⟨_, rfl⟩
        have KW : Blk W gx 31 #[.int .u8 d, .int .u64 o, .slice pA pp.length pc, .bool pe, .int .i64 pn] := by rw [hW, hgx]; exact Blk.new wr _ _
        clear BB
        go_wp2_with fail
        rw [← hW, ← hgx]
        clear hW hgx q0 q1 q2 q3 q4
        refine (CP.out W (RP.out.below BW.out)).mono ?_
        rintro e6 w6 ⟨A6, c6, rfl, o6, b6⟩
        have CY := Lib.hid (copy_any A6 c6 PP w6 (Rd.of_own o6) (by omega))
        go_wp2_with fail
        refine CY.out.mono ?_
        rintro e7 w7 ⟨A7, c7, rfl, o7, b7⟩
        have B7 := Lib.hid ((BW.out.trans (b6.mono BW.out.size)).trans (b7.mono (Nat.le_trans BW.out.size b6.size)))
        have KW7 := (KW.below b6 KW.lt).below b7 (KW.below b6 KW.lt).lt
        have O6 := Lib.hid (o6.below b7)
        have O7 := Lib.hid o7
        have hz7 : w.heap.size ≤ w6.heap.size := Nat.le_trans BW.out.size b6.size
        have k70 := KW7.cell 0
        have k71 := KW7.cell 1
        have k73 := KW7.cell 3
        have k74 := KW7.cell 4
        simp at k70 k71 k73 k74
        have HKW := Lib.hid KW7
        have SN := fun W => same_yes none none 0 0 [] [] W (Rd.of_own (OwnV.nil W W.heap.size 5 1)) (Rd.of_own (OwnV.nil W W.heap.size 5 1)) (by intro x hx; cases hx) rfl
        have SY := Lib.hid (fun W h1 h2 => same_yes A7 A6 c7 c6 PP PP W h1 h2 hPPb.out rfl)
        clear CY KW KW7 o6 o7 b6 b7 BW RP CP
        have ways : d % 7 = 4 ∨ d % 7 = 5 ∨ d % 7 = 6 ∨ (d % 7 ≠ 4 ∧ d % 7 ≠ 5 ∧ d % 7 ≠ 6) := by omega
        obtain ⟨D7, hD7⟩ : ∃ D7, D7 = d % 7 := ⟨_, rfl⟩
        rw [← hD7] at ways
        have e7 : d % 7 = D7 := hD7.symm
        clear hD7
        rcases ways with rfl | rfl | rfl | ⟨h4, h5, h6⟩
        · go_wp2_with fail
          go_quiet (first | (go_at_call 13; exact Calls.quiet_of (Calls.sq (Close_nil _ _))) | (go_at_call 14; exact Calls.quiet_of (Calls.sq (rPut_nil _ _ _ _ _ _))))
          go_wp2_with fail
          refine (Ready_nil _).mono ?_
          rintro r9 w9 ⟨rfl, rfl⟩
          go_wp2_with fail
          refine (rReady_nil _).mono ?_
          rintro r9 w9 ⟨rfl, rfl⟩
          go_wp2_with fail
          refine (Held_nil _).mono ?_
          rintro r9 w9 ⟨rfl, rfl⟩
          go_wp2_with fail
          refine (rHeld_nil _).mono ?_
          rintro r9 w9 ⟨rfl, rfl⟩
          go_wp2_with fail
          refine (Done_nil _).mono ?_
          rintro r9 wD ⟨rfl, jj9, hw9⟩
          have BD := Lib.hid (show Below w.heap.size w wD by rw [hw9]; exact below_drewN (by repeat (first | exact B7.out | with_reducible refine below_drewN ?_ _)) jj9)
          clear hw9
          go_wp2_with fail
          refine (rDone_nil _).mono ?_
          rintro r9 wr ⟨rfl, jj9, hw9⟩
          have Br := Lib.hid (show Below w.heap.size w wr by rw [hw9]; exact below_drewN (by repeat (first | exact BD.out | with_reducible refine below_drewN ?_ _)) jj9)
          clear hw9
          go_wp2_with fail
          refine (End_nil _).mono ?_
          rintro r9 w9 ⟨rfl, rfl⟩
          go_wp2_with fail
          go_quiet (first | (go_at_call 26; exact Calls.quiet_of (Calls.sq (High_nil _))) | (go_at_call 27; exact Calls.quiet_of (Calls.sq (Read_nil _))))
          go_wp2_with fail
          go_roundw
          case rel => exact ⟨k + 1, by omega, by go_num, Lib.hid (by repeat (first | exact Br.out | with_reducible refine below_drewN ?_ _))⟩
          case measure => simp [intOf]; omega
        · go_wp2_with fail
          refine (Take_nil _ _).mono ?_
          rintro r9 w9 ⟨rfl, jt, rfl⟩
          go_wp2_with fail
          refine (rTake_nil _ _).mono ?_
          rintro r9 w9 ⟨rfl, rfl⟩
          go_wp2_with fail
          refine (SN _).mono ?_
          rintro r9 w9 ⟨rfl, rfl⟩
          go_wp2_with fail
          refine (Ready_nil _).mono ?_
          rintro r9 w9 ⟨rfl, rfl⟩
          go_wp2_with fail
          refine (rReady_nil _).mono ?_
          rintro r9 w9 ⟨rfl, rfl⟩
          go_wp2_with fail
          refine (Held_nil _).mono ?_
          rintro r9 w9 ⟨rfl, rfl⟩
          go_wp2_with fail
          refine (rHeld_nil _).mono ?_
          rintro r9 w9 ⟨rfl, rfl⟩
          go_wp2_with fail
          refine (Done_nil _).mono ?_
          rintro r9 wD ⟨rfl, jj9, hw9⟩
          have BD := Lib.hid (show Below w.heap.size w wD by rw [hw9]; exact below_drewN (by repeat (first | exact B7.out | with_reducible refine below_drewN ?_ _)) jj9)
          clear hw9
          go_wp2_with fail
          refine (rDone_nil _).mono ?_
          rintro r9 wr ⟨rfl, jj9, hw9⟩
          have Br := Lib.hid (show Below w.heap.size w wr by rw [hw9]; exact below_drewN (by repeat (first | exact BD.out | with_reducible refine below_drewN ?_ _)) jj9)
          clear hw9
          go_wp2_with fail
          refine (End_nil _).mono ?_
          rintro r9 w9 ⟨rfl, rfl⟩
          go_wp2_with fail
          go_quiet (first | (go_at_call 26; exact Calls.quiet_of (Calls.sq (High_nil _))) | (go_at_call 27; exact Calls.quiet_of (Calls.sq (Read_nil _))))
          go_wp2_with fail
          go_roundw
          case rel => exact ⟨k + 1, by omega, by go_num, Lib.hid (by repeat (first | exact Br.out | with_reducible refine below_drewN ?_ _))⟩
          case measure => simp [intOf]; omega
        · go_wp2_with fail
          refine (Take_nil _ _).mono ?_
          rintro r9 w9 ⟨rfl, jt, rfl⟩
          go_wp2_with fail
          refine (rTake_nil _ _).mono ?_
          rintro r9 w9 ⟨rfl, rfl⟩
          go_wp2_with fail
          refine (SN _).mono ?_
          rintro r9 w9 ⟨rfl, rfl⟩
          go_wp2_with fail
          refine (Ready_nil _).mono ?_
          rintro r9 w9 ⟨rfl, rfl⟩
          go_wp2_with fail
          refine (rReady_nil _).mono ?_
          rintro r9 w9 ⟨rfl, rfl⟩
          go_wp2_with fail
          refine (Held_nil _).mono ?_
          rintro r9 w9 ⟨rfl, rfl⟩
          go_wp2_with fail
          refine (rHeld_nil _).mono ?_
          rintro r9 w9 ⟨rfl, rfl⟩
          go_wp2_with fail
          refine (Done_nil _).mono ?_
          rintro r9 wD ⟨rfl, jj9, hw9⟩
          have BD := Lib.hid (show Below w.heap.size w wD by rw [hw9]; exact below_drewN (by repeat (first | exact B7.out | with_reducible refine below_drewN ?_ _)) jj9)
          clear hw9
          go_wp2_with fail
          refine (rDone_nil _).mono ?_
          rintro r9 wr ⟨rfl, jj9, hw9⟩
          have Br := Lib.hid (show Below w.heap.size w wr by rw [hw9]; exact below_drewN (by repeat (first | exact BD.out | with_reducible refine below_drewN ?_ _)) jj9)
          clear hw9
          go_wp2_with fail
          refine (End_nil _).mono ?_
          rintro r9 w9 ⟨rfl, rfl⟩
          go_wp2_with fail
          go_quiet (first | (go_at_call 26; exact Calls.quiet_of (Calls.sq (High_nil _))) | (go_at_call 27; exact Calls.quiet_of (Calls.sq (Read_nil _))))
          go_wp2_with fail
          go_roundw
          case rel => exact ⟨k + 1, by omega, by go_num, Lib.hid (by repeat (first | exact Br.out | with_reducible refine below_drewN ?_ _))⟩
          case measure => simp [intOf]; omega
        · have g4 : (D7 == 4) = false := by rw [beq_eq_false_iff_ne]; exact h4
          have g5 : (D7 == 5) = false := by rw [beq_eq_false_iff_ne]; exact h5
          have g6 : (D7 == 6) = false := by rw [beq_eq_false_iff_ne]; exact h6
          go_wp2_with fail
          go_quiet (first | (go_at_call 18; exact Calls.quiet_of (Calls.sq (Put_nil _ _ _ _ _ _))) | (go_at_call 14; exact Calls.quiet_of (Calls.sq (rPut_nil _ _ _ _ _ _))) | (go_at_call 17; exact Calls.quiet_of (Calls.sq (SY.out _ (Rd.of_own O7.out) (Rd.of_own O6.out)))))
          obtain ⟨nq, hnq⟩ : ∃ nq : World, nq = w7.drew := ⟨_, rfl⟩
          go_wp2_with fail
          go_loopw [63] (fun j wq => ∃ jj : Nat, jj ≤ PP.length ∧ j = .int .i64 jj ∧ Hid (Row8 wq w6.heap.size A7 c7 PP.length) ∧ Hid (Below w.heap.size w wq)) (fun j _ => PP.length - (intOf j).toNat)
          case atStart => exact ⟨0, by omega, rfl, Lib.hid (Row8.drewN ⟨PP, rfl, O7.out⟩ _), Lib.hid (below_drewN B7.out _)⟩
          case round =>
            obtain ⟨jj, hjj, rfl, R8, B8⟩ := hrel
            by_cases hjl : jj < PP.length
            · obtain ⟨g8, x8, cur8, rfl, hg8, c8, f8, k8⟩ := R8.out.cell hjl
              have K8 := Lib.hid k8
              clear k8
              go_wp2_with fail
              go_roundw
              case rel => exact ⟨jj + 1, by omega, by go_num, Lib.hid (R8.out.set K8.out _), Lib.hid (B8.out.setCell (p := ⟨g8, _, none⟩) (Nat.le_trans hz7 hg8) _)⟩
              case measure => simp [intOf]; omega
            · obtain rfl : jj = PP.length := by omega
              go_wp2_with fail
              refine (Ready_nil _).mono ?_
              rintro r9 w9 ⟨rfl, rfl⟩
              go_wp2_with fail
              refine (rReady_nil _).mono ?_
              rintro r9 w9 ⟨rfl, rfl⟩
              go_wp2_with fail
              refine (Held_nil _).mono ?_
              rintro r9 w9 ⟨rfl, rfl⟩
              go_wp2_with fail
              refine (rHeld_nil _).mono ?_
              rintro r9 w9 ⟨rfl, rfl⟩
              go_wp2_with fail
              refine (Done_nil _).mono ?_
              rintro r9 wD ⟨rfl, jj9, hw9⟩
              have BD := Lib.hid (show Below w.heap.size w wD by rw [hw9]; exact below_drewN (by repeat (first | exact B8.out | with_reducible refine below_drewN ?_ _)) jj9)
              clear hw9
              go_wp2_with fail
              refine (rDone_nil _).mono ?_
              rintro r9 wr ⟨rfl, jj9, hw9⟩
              have Br := Lib.hid (show Below w.heap.size w wr by rw [hw9]; exact below_drewN (by repeat (first | exact BD.out | with_reducible refine below_drewN ?_ _)) jj9)
              clear hw9
              go_wp2_with fail
              refine (End_nil _).mono ?_
              rintro r9 w9 ⟨rfl, rfl⟩
              go_wp2_with fail
              go_quiet (first | (go_at_call 26; exact Calls.quiet_of (Calls.sq (High_nil _))) | (go_at_call 27; exact Calls.quiet_of (Calls.sq (Read_nil _))))
              go_wp2_with fail
              go_roundw
              case rel => exact ⟨k + 1, by omega, by go_num, Lib.hid (by repeat (first | exact Br.out | with_reducible refine below_drewN ?_ _))⟩
              case measure => simp [intOf]; omega
      · have hd : decide (40 ≤ (k : Int)) = true := by simp; omega
        clear x2 x3 BB
        go_wp2_with fail
        go_ret
        rw [← hW]
        exact ⟨rfl, BW.out⟩
    · obtain rfl : k = l.length := by omega
      go_wp2_with fail
      go_ret
      exact ⟨rfl, BB.out⟩
end Go.Proofs.YtdafeokjedmnkaaDoor
