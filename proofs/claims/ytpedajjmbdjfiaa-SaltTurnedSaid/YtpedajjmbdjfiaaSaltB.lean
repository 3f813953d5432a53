import Derived.Test.YtpedajjmbdjfiaaSaltP
namespace Go.Proofs.Ytpedajjmbdjfiaa
open Go.RowKit
set_option linter.unusedVariables false

theorem index16 (a b c d e f g h i j k l m n o p : Int) (x : Nat) (hx : x < 16) (w : World) :
    (Instr.index 62 (.agg #[.int .u32 a, .int .u32 b, .int .u32 c, .int .u32 d, .int .u32 e, .int .u32 f, .int .u32 g, .int .u32 h, .int .u32 i, .int .u32 j, .int .u32 k, .int .u32 l, .int .u32 m, .int .u32 n, .int .u32 o, .int .u32 p]) (.int .i64 x)).run Try.prog w =
      .ok (.int .u32 ([a, b, c, d, e, f, g, h, i, j, k, l, m, n, o, p].getD x 0)) w := by
  rcases (show x = 0 ∨ x = 1 ∨ x = 2 ∨ x = 3 ∨ x = 4 ∨ x = 5 ∨ x = 6 ∨ x = 7 ∨ x = 8 ∨ x = 9 ∨ x = 10 ∨ x = 11 ∨ x = 12 ∨ x = 13 ∨ x = 14 ∨ x = 15 by omega) with rfl | rfl | rfl | rfl | rfl | rfl | rfl | rfl | rfl | rfl | rfl | rfl | rfl | rfl | rfl | rfl <;> kernel_rfl
theorem zero64 (w : World) : (zeroValue 64).run Try.prog w = .ok (.agg (IV .u8 (List.replicate 64 0)).toArray) w := rfl
theorem arr64_len : Try.prog.arrayLen 64 = 64 := by kernel_rfl
theorem arr64_elem : Try.prog.elem 64 = 5 := by kernel_rfl

theorem slice_arr64 (g lo : Nat) (kd : IntKind) (h1 : lo < 64) (w : World) :
    (Instr.sliceAt 64 (.pointer (some ⟨g, 0, none⟩)) (some (.int kd (lo : Int))) none none).run Try.prog w = .ok (.slice (some ⟨g, lo, none⟩) (64 - lo) (64 - lo)) w := by
  rw [run_sliceAt_array_l (P := Try.prog) w 64 ⟨g, 0, none⟩ (by rw [arr64_len, arr64_elem]; exact Try.underlying64) kd (lo : Int) (by omega) (by rw [arr64_len]; omega), arr64_elem, run_sizeOf_u8, arr64_len]
  simp only [Result.andThen_ok, slicedAt, Int.toNat_natCast]
  rw [if_neg (by omega)]
  simp only [Nat.mul_one, Addr.add]
  by_cases h : lo = 0
  · subst h; simp
  · simp [h]
def kb (x y : C16) (m : Nat) : List Int := (List.range m).flatMap fun i => le4 (ad32 (x.list.getD i 0) (y.list.getD i 0))
theorem kb_succ (x y : C16) (m : Nat) : kb x y (m + 1) = kb x y m ++ le4 (ad32 (x.list.getD m 0) (y.list.getD m 0)) := by
  unfold kb
  rw [List.range_succ, List.flatMap_append, List.flatMap_singleton]
theorem kb_length (x y : C16) : ∀ m, (kb x y m).length = 4 * m
  | 0 => rfl
  | m + 1 => by rw [kb_succ, List.length_append, kb_length x y m, le4_length]; omega
theorem kb_put (x y : C16) (m : Nat) (h : m < 16) : put4 (kb x y m ++ List.replicate (64 - 4 * m) 0) (4 * m) (ad32 (x.list.getD m 0) (y.list.getD m 0)) = kb x y (m + 1) ++ List.replicate (64 - 4 * (m + 1)) 0 := by
  have hl := kb_length x y m
  unfold put4
  rw [kb_succ, List.take_append_of_le_length (by omega), List.take_of_length_le (by omega), List.drop_append, List.drop_of_length_le (by omega), List.nil_append, hl, List.drop_replicate, show 64 - 4 * m - (4 * m + 4 - 4 * m) = 64 - 4 * (m + 1) by omega]

set_option maxRecDepth 100000 in
set_option maxHeartbeats 6400000 in
theorem keyBlock_any (X : C16) (w : World) (hok : X.ok) :
    Calls Try.prog 36 #[.agg (IV .u32 X.list).toArray] w fun e w' => e = .returned (.agg (IV .u8 (kblock X)).toArray) ∧ Below w.heap.size w w' := by
  obtain ⟨Z64, hZ64⟩ : ∃ Z, Z = (IV .u8 (List.replicate 64 0)).toArray := ⟨_, rfl⟩
  have hz64 : ∀ w, (zeroValue 64).run Try.prog w = .ok (.agg Z64) w := by rw [hZ64]; exact zero64
  have HZ64 := Lib.hid hZ64
  have HZS64 := Lib.hid (show Z64.size = 64 by rw [hZ64]; rfl)
  have HOK := Lib.hid hok
  obtain ⟨XA, hXA⟩ : ∃ XA, XA = (IV .u32 X.list).toArray := ⟨_, rfl⟩
  have HXA := Lib.hid hXA
  rw [← hXA]
  obtain ⟨OUT, hOUT⟩ : ∃ OUT, OUT = kblock X := ⟨_, rfl⟩
  rw [← hOUT]
  have HOUT := Lib.hid hOUT
  have SOUT := Lib.hid (show (IV .u8 OUT).toArray.size = 64 by rw [hOUT]; simp [IV, kblock_length])
  have AOUT := Lib.hid (show (IV .u8 OUT).toArray.all (·.oneCell') = true by simp [IV, Value.oneCell'])
  have I64 := Lib.hid (show (Try.prog.info? 64).map (·.size) = some 64 by kernel_rfl)
  clear hZ64 hok hXA hOUT
  go_enter Try.func36, Try.ntmps36
  go_wp2_with fail
  have h0 : Blk ((w.alloc (.cells XA 62)).alloc (.cells Z64 64)) w.heap.size 62 (IV .u32 X.list).toArray := by rw [← HXA.out]; exact (Blk.new _ _ _).alloc _
  have h1 : Blk ((w.alloc (.cells XA 62)).alloc (.cells Z64 64)) (w.heap.size + 1) 64 Z64 := blk_second _ _ _ _
  have hb : Below w.heap.size w ((w.alloc (.cells XA 62)).alloc (.cells Z64 64)) := ((Below.refl _ _).alloc (Nat.le_refl _) _).alloc (by simp) _
  generalize (w.alloc (.cells XA 62)).alloc (.cells Z64 64) = W at h0 h1 hb ⊢
  have c0 := h0.cell_i (i := 0) (x := X.p.a) rfl
  have c1 := h0.cell_i (i := 1) (x := X.q.a) rfl
  have c2 := h0.cell_i (i := 2) (x := X.r.a) rfl
  have c3 := h0.cell_i (i := 3) (x := X.s.a) rfl
  have c4 := h0.cell_i (i := 4) (x := X.p.b) rfl
  have c5 := h0.cell_i (i := 5) (x := X.q.b) rfl
  have c6 := h0.cell_i (i := 6) (x := X.r.b) rfl
  have c7 := h0.cell_i (i := 7) (x := X.s.b) rfl
  have c8 := h0.cell_i (i := 8) (x := X.p.c) rfl
  have c9 := h0.cell_i (i := 9) (x := X.q.c) rfl
  have c10 := h0.cell_i (i := 10) (x := X.r.c) rfl
  have c11 := h0.cell_i (i := 11) (x := X.s.c) rfl
  have c12 := h0.cell_i (i := 12) (x := X.p.d) rfl
  have c13 := h0.cell_i (i := 13) (x := X.q.d) rfl
  have c14 := h0.cell_i (i := 14) (x := X.r.d) rfl
  have c15 := h0.cell_i (i := 15) (x := X.s.d) rfl
  have H0 := Lib.hid h0
  have H1 := Lib.hid h1
  have BL := Lib.hid hb
  clear h0 h1 hb
  go_quiet (fail)
  go_wp2_with fail
  go_quiet (fail)
  go_wp2_with fail
  go_quiet (fail)
  go_wp2_with fail
  go_quiet (fail)
  clear c0 c1 c2 c3 c4 c5 c6 c7 c8 c9 c10 c11 c12 c13 c14 c15
  go_wp2_with fail
  go_loopw [3, 4, 5, 6, 7, 8, 9, 10, 11, 12, 13, 14, 15, 16, 17, 18, 54] (fun v3 v4 v5 v6 v7 v8 v9 v10 v11 v12 v13 v14 v15 v16 v17 v18 i wr => ∃ (k : Nat) (X1 : C16), k ≤ 10 ∧ i = .int .i64 k ∧ X1 = drounds X k ∧ X1.ok ∧ v3 = .int .u32 X1.p.a ∧ v4 = .int .u32 X1.q.a ∧ v5 = .int .u32 X1.r.a ∧ v6 = .int .u32 X1.s.a ∧ v7 = .int .u32 X1.p.b ∧ v8 = .int .u32 X1.q.b ∧ v9 = .int .u32 X1.r.b ∧ v10 = .int .u32 X1.s.b ∧ v11 = .int .u32 X1.p.c ∧ v12 = .int .u32 X1.q.c ∧ v13 = .int .u32 X1.r.c ∧ v14 = .int .u32 X1.s.c ∧ v15 = .int .u32 X1.p.d ∧ v16 = .int .u32 X1.q.d ∧ v17 = .int .u32 X1.r.d ∧ v18 = .int .u32 X1.s.d ∧ ∃ n, wr = W.drewN n) (fun _ _ _ _ _ _ _ _ _ _ _ _ _ _ _ _ i _ => 10 - (intOf i).toNat)
  case atStart => exact ⟨0, X, by omega, rfl, rfl, HOK.out, rfl, rfl, rfl, rfl, rfl, rfl, rfl, rfl, rfl, rfl, rfl, rfl, rfl, rfl, rfl, rfl, _, by simp only [World.drewN_drewN]; rfl⟩
  case round =>
    obtain ⟨k, X1, hk, rfl, hX1, hok, rfl, rfl, rfl, rfl, rfl, rfl, rfl, rfl, rfl, rfl, rfl, rfl, rfl, rfl, rfl, rfl, n0, hwn⟩ := hrel
    have HX1 := Lib.hid hX1
    have HOK1 := Lib.hid hok
    have HWN := Lib.hid hwn
    clear hX1 hok hwn
    by_cases hk10 : k < 10
    · obtain ⟨Y, hY⟩ : ∃ Y, Y = cols X1 := ⟨_, rfl⟩
      obtain ⟨V, hV⟩ : ∃ V, V = cols (todiag Y) := ⟨_, rfl⟩
      have hYok : Y.ok := by rw [hY]; exact cols_ok HOK1.out
      have hTok := todiag_ok hYok
      have hDR : drounds X (k + 1) = undiag V := by rw [drounds, dround, ← HX1.out, ← hY, ← hV]
      have hVok : (undiag V).ok := by rw [hV]; exact undiag_ok (cols_ok hTok)
      have C1 := Lib.hid (fun W => (show Calls Try.prog 45 #[.int .u32 X1.p.a, .int .u32 X1.p.b, .int .u32 X1.p.c, .int .u32 X1.p.d] W fun e w' => e = .returned (.tuple #[.int .u32 Y.p.a, .int .u32 Y.p.b, .int .u32 Y.p.c, .int .u32 Y.p.d]) ∧ W = w' by rw [hY]; exact quarter_any X1.p W HOK1.out.1))
      have C2 := Lib.hid (fun W => (show Calls Try.prog 45 #[.int .u32 X1.q.a, .int .u32 X1.q.b, .int .u32 X1.q.c, .int .u32 X1.q.d] W fun e w' => e = .returned (.tuple #[.int .u32 Y.q.a, .int .u32 Y.q.b, .int .u32 Y.q.c, .int .u32 Y.q.d]) ∧ W = w' by rw [hY]; exact quarter_any X1.q W HOK1.out.2.1))
      have C3 := Lib.hid (fun W => (show Calls Try.prog 45 #[.int .u32 X1.r.a, .int .u32 X1.r.b, .int .u32 X1.r.c, .int .u32 X1.r.d] W fun e w' => e = .returned (.tuple #[.int .u32 Y.r.a, .int .u32 Y.r.b, .int .u32 Y.r.c, .int .u32 Y.r.d]) ∧ W = w' by rw [hY]; exact quarter_any X1.r W HOK1.out.2.2.1))
      have C4 := Lib.hid (fun W => (show Calls Try.prog 45 #[.int .u32 X1.s.a, .int .u32 X1.s.b, .int .u32 X1.s.c, .int .u32 X1.s.d] W fun e w' => e = .returned (.tuple #[.int .u32 Y.s.a, .int .u32 Y.s.b, .int .u32 Y.s.c, .int .u32 Y.s.d]) ∧ W = w' by rw [hY]; exact quarter_any X1.s W HOK1.out.2.2.2))
      have D1 := Lib.hid (fun W => (show Calls Try.prog 45 #[.int .u32 Y.p.a, .int .u32 Y.q.b, .int .u32 Y.r.c, .int .u32 Y.s.d] W fun e w' => e = .returned (.tuple #[.int .u32 V.p.a, .int .u32 V.p.b, .int .u32 V.p.c, .int .u32 V.p.d]) ∧ W = w' by rw [hV]; exact quarter_any (todiag Y).p W hTok.1))
      have D2 := Lib.hid (fun W => (show Calls Try.prog 45 #[.int .u32 Y.q.a, .int .u32 Y.r.b, .int .u32 Y.s.c, .int .u32 Y.p.d] W fun e w' => e = .returned (.tuple #[.int .u32 V.q.a, .int .u32 V.q.b, .int .u32 V.q.c, .int .u32 V.q.d]) ∧ W = w' by rw [hV]; exact quarter_any (todiag Y).q W hTok.2.1))
      have D3 := Lib.hid (fun W => (show Calls Try.prog 45 #[.int .u32 Y.r.a, .int .u32 Y.s.b, .int .u32 Y.p.c, .int .u32 Y.q.d] W fun e w' => e = .returned (.tuple #[.int .u32 V.r.a, .int .u32 V.r.b, .int .u32 V.r.c, .int .u32 V.r.d]) ∧ W = w' by rw [hV]; exact quarter_any (todiag Y).r W hTok.2.2.1))
      have D4 := Lib.hid (fun W => (show Calls Try.prog 45 #[.int .u32 Y.s.a, .int .u32 Y.p.b, .int .u32 Y.q.c, .int .u32 Y.r.d] W fun e w' => e = .returned (.tuple #[.int .u32 V.s.a, .int .u32 V.s.b, .int .u32 V.s.c, .int .u32 V.s.d]) ∧ W = w' by rw [hV]; exact quarter_any (todiag Y).s W hTok.2.2.2))
      have HDR := Lib.hid hDR
      have HVO := Lib.hid hVok
      clear hY hV hYok hTok hDR hVok
      go_wp2_with fail
      refine (C1.out _).mono ?_
      rintro e w' ⟨rfl, rfl⟩
      go_wp2_with fail
      refine (C2.out _).mono ?_
      rintro e w' ⟨rfl, rfl⟩
      go_wp2_with fail
      refine (C3.out _).mono ?_
      rintro e w' ⟨rfl, rfl⟩
      go_wp2_with fail
      refine (C4.out _).mono ?_
      rintro e w' ⟨rfl, rfl⟩
      go_wp2_with fail
      refine (D1.out _).mono ?_
      rintro e w' ⟨rfl, rfl⟩
      go_wp2_with fail
      refine (D2.out _).mono ?_
      rintro e w' ⟨rfl, rfl⟩
      go_wp2_with fail
      refine (D3.out _).mono ?_
      rintro e w' ⟨rfl, rfl⟩
      go_wp2_with fail
      refine (D4.out _).mono ?_
      rintro e w' ⟨rfl, rfl⟩
      go_wp2_with fail
      go_roundw
      case rel => exact ⟨k + 1, undiag V, by omega, by go_num, HDR.out.symm, HVO.out, rfl, rfl, rfl, rfl, rfl, rfl, rfl, rfl, rfl, rfl, rfl, rfl, rfl, rfl, rfl, rfl, n0, HWN.out⟩
      case measure => simp [intOf]; omega
    · obtain rfl : k = 10 := by omega
      rename World => WF
      have HF := Lib.hid (show Blk WF w.heap.size 62 (IV .u32 X.list).toArray by rw [HWN.out]; exact H0.out)
      have HG := Lib.hid (show Blk WF (w.heap.size + 1) 64 Z64 by rw [HWN.out]; exact H1.out)
      have HL := Lib.hid (show Below w.heap.size w WF by rw [HWN.out]; exact ⟨BL.out.os, BL.out.tape, BL.out.output, BL.out.size, BL.out.block⟩)
      clear HWN H0 H1 BL
      go_wp2_with fail
      have hKB : OUT = kb X1 X 16 := by rw [HOUT.out, kblock, ← HX1.out]; rfl
      have HKB := Lib.hid hKB
      have hx1 := C16.list_ok HOK1.out
      have hx0 := C16.list_ok HOK.out
      have HX1O := Lib.hid hx1
      have HX0O := Lib.hid hx0
      have hO : Blk (WF.alloc (.cells Z64 64)) WF.heap.size 64 (IV .u8 (List.replicate 64 0)).toArray := by rw [← HZ64.out]; exact Blk.new _ _ _
      have hA : Blk (WF.alloc (.cells Z64 64)) w.heap.size 62 (IV .u32 X.list).toArray := HF.out.alloc _
      have hB : Blk (WF.alloc (.cells Z64 64)) (w.heap.size + 1) 64 Z64 := HG.out.alloc _
      have hL : Below w.heap.size w (WF.alloc (.cells Z64 64)) := HL.out.alloc HL.out.size _
      have ltA : w.heap.size < WF.heap.size := HF.out.lt
      have ltB : w.heap.size + 1 < WF.heap.size := HG.out.lt
      obtain ⟨gO, hgO⟩ : ∃ gO, gO = WF.heap.size := ⟨_, rfl⟩
      rw [← hgO] at hO ltA ltB ⊢
      generalize WF.alloc (.cells Z64 64) = WG at hO hA hB hL ⊢
      clear hKB hx1 hx0 HF HG HL hgO
      go_loopw [154] (fun i wr => ∃ (m : Nat), m ≤ 16 ∧ i = .int .i64 m ∧ Blk wr gO 64 (IV .u8 (kb X1 X m ++ List.replicate (64 - 4 * m) 0)).toArray ∧ Blk wr w.heap.size 62 (IV .u32 X.list).toArray ∧ Blk wr (w.heap.size + 1) 64 Z64 ∧ Below w.heap.size w wr) (fun i _ => 16 - (intOf i).toNat)
      case atStart => exact ⟨0, by omega, rfl, hO, hA, hB, hL⟩
      case round =>
        obtain ⟨m, hm, rfl, bO, bA, bB, bL⟩ := hrel
        have HO := Lib.hid bO
        have HA := Lib.hid bA
        have HB := Lib.hid bB
        have HL := Lib.hid bL
        by_cases hm16 : m < 16
        · have gx : X1.list[m]? = some (X1.list.getD m 0) := by rw [List.getD_eq_getElem?_getD, List.getElem?_eq_getElem (by rw [C16.list_length]; exact hm16)]; rfl
          have gy : X.list[m]? = some (X.list.getD m 0) := by rw [List.getD_eq_getElem?_getD, List.getElem?_eq_getElem (by rw [C16.list_length]; exact hm16)]; rfl
          have hix := index16 X1.p.a X1.q.a X1.r.a X1.s.a X1.p.b X1.q.b X1.r.b X1.s.b X1.p.c X1.q.c X1.r.c X1.s.c X1.p.d X1.q.d X1.r.d X1.s.d m hm16
          rw [show [X1.p.a, X1.q.a, X1.r.a, X1.s.a, X1.p.b, X1.q.b, X1.r.b, X1.s.b, X1.p.c, X1.q.c, X1.r.c, X1.s.c, X1.p.d, X1.q.d, X1.r.d, X1.s.d] = X1.list from rfl] at hix
          obtain ⟨x, hx⟩ : ∃ x, x = X1.list.getD m 0 := ⟨_, rfl⟩
          obtain ⟨y, hy⟩ : ∃ y, y = X.list.getD m 0 := ⟨_, rfl⟩
          rw [← hx] at hix gx
          rw [← hy] at gy
          have ox : W32 x := HX1O.out x (List.mem_of_getElem? gx)
          have oy : W32 y := HX0O.out y (List.mem_of_getElem? gy)
          have cy : wr.cell? ⟨w.heap.size, m, none⟩ = some (.int .u32 y) := bA.cell_i gy
          obtain ⟨v, hv⟩ : ∃ v, v = ad32 x y := ⟨_, rfl⟩
          have ov : 0 ≤ v ∧ v < 4294967296 := by rw [hv]; exact ad32_ok _ _
          have ev : (x + y) % 4294967296 = v := hv.symm
          have ev2 : IntKind.u32.wrap (x + y) = v := by rw [IntKind.wrap_u32]; exact hv.symm
          have hput := kb_put X1 X m hm16
          rw [← hx, ← hy, ← hv] at hput
          obtain ⟨a0, ha0⟩ : ∃ a0, a0 = 4 * m := ⟨_, rfl⟩
          have e1 : IntKind.i64.wrap (4 * (m : Int)) = (a0 : Int) := by rw [IntWalk.i64_in _ (by omega)]; omega
          have e4 : IntKind.i64.wrap (a0 : Int) = (a0 : Int) := IntWalk.i64_in _ (by omega)
          have hsl := slice_arr64 gO a0 .i64 (by omega)
          have hl : (kb X1 X m ++ List.replicate (64 - 4 * m) (0 : Int)).length = 64 := by rw [List.length_append, kb_length, List.length_replicate]; omega
          have CP := Lib.hid (fun W (h : Blk W gO 64 (IV .u8 (kb X1 X m ++ List.replicate (64 - 4 * m) 0)).toArray) => putWord32_any gO 64 _ a0 (64 - a0) (64 - a0) v W h ov (by omega) (by omega) (by rw [hl]; omega))
          have n1 : (m : Int) < 16 := by omega
          have n2 : (0 : Int) ≤ (m : Int) := by omega
          have n3 : m < 16 := hm16
          have HPUT := Lib.hid hput
          have HA0 := Lib.hid ha0
          clear gx gy hx hy hv ox oy hput ha0 hl ov bO bA bB bL
          go_wp2_with fail
          go_still_tail 8, (by kernel_rfl)
          have d1 : Blk wr.drew gO 64 (IV .u8 (kb X1 X m ++ List.replicate (64 - 4 * m) 0)).toArray := HO.out
          go_wp2_with fail
          refine (CP.out _ d1).mono ?_
          rintro e w5 ⟨rfl, b5, o5⟩
          rw [HA0.out, HPUT.out] at b5
          have HO5 := Lib.hid b5
          have HA5 := Lib.hid ((show Blk wr.drew w.heap.size 62 (IV .u32 X.list).toArray from HA.out).grown o5 (by simp; omega))
          have HB5 := Lib.hid ((show Blk wr.drew (w.heap.size + 1) 64 Z64 from HB.out).grown o5 (by simp; omega))
          have HL5 := Lib.hid (grown_below (show Below w.heap.size w wr.drew from ⟨HL.out.os, HL.out.tape, HL.out.output, HL.out.size, HL.out.block⟩) o5 HL.out.size (by omega))
          clear d1 b5 o5
          go_wp2_with fail
          refine ⟨⟨_, _, _, _, _, _, _, _, _, _, _, _, _, _, _, _, ⟨m + 1, by omega, ?_, HO5.out, HA5.out, HB5.out, HL5.out⟩, rfl⟩, ?_⟩
          · go_num
          · show 16 - ((m : Int) + 1).toNat < 16 - (m : Int).toNat
            omega
        · obtain rfl : m = 16 := by omega
          have hO' : Blk wr gO 64 (IV .u8 OUT).toArray := by
            have h := HO.out
            rw [show 64 - 4 * 16 = 0 from rfl, List.replicate_zero, List.append_nil, ← HKB.out] at h
            exact h
          have HOO := Lib.hid hO'
          clear hO' bO bA bB bL
          go_wp2_with (first
            | refine wpList_load_row rfl 64 (.tmp 19) rfl gO rfl 64 (IV .u8 OUT).toArray (0, 0) _ HOO.out Try.underlying64 rfl (by rw [SOUT.out]; exact I64.out) ?_
            | refine wpList_store_row rfl 64 (.tmp 2) (.tmp 168) rfl (w.heap.size + 1) (IV .u8 OUT).toArray rfl rfl 64 _ HB.out (by rw [SOUT.out]; exact I64.out) (by rw [SOUT.out, HZS64.out]) AOUT.out ?_)
          refine bodyPost_ret (v := .agg (IV .u8 OUT).toArray) (results_cell_row rfl _ _ (w.heap.size + 1) 64 _ (0, 0) _ rfl (Blk.row HB.out _) Try.underlying64 rfl (by rw [SOUT.out]; exact I64.out)) rfl ⟨rfl, ?_⟩
          exact below_setRow HL.out (by omega) _
end Go.Proofs.Ytpedajjmbdjfiaa
