/-
  Joined texts.
-/
import Derived.Test.YtjibbegdieiknaaDoorMaAE
import Derived.Test.YtjibbegdieiknaaDoorMaAD
import Derived.StillTailTactics
namespace Go.Proofs.YtjibbegdieiknaaDoor
set_option maxRecDepth 100000
open Go.RowKit
set_option linter.unusedVariables false
set_option linter.unusedSimpArgs false

/-- Nothing written: any slice of no bytes. -/
theorem write_nil (ga acc f0 f1 z0 z1 c : Nat) (A : Option Addr) (w : World) (ha : Au w ga acc f0 f1 z0 z1) :
    Calls Tryd.prog 57 #[.pointer (some ⟨ga, 0, none⟩), .slice A 0 c] w fun e w' =>
      e = .returned (.tuple #[]) ∧ Au w' ga acc f0 f1 z0 z1 ∧ w.grownBy w' (some ga) := by
  have HA := Lib.hid ha
  clear ha
  go_enter Tryd.func57, Tryd.ntmps57
  go_wp2_with fail
  go_loopw [1] (fun p wr => p = .slice A 0 c ∧ wr = w) (fun p _ => 0)
  case atStart => exact ⟨rfl, rfl⟩
  case round =>
    obtain ⟨rfl, rfl⟩ := hrel
    go_wp2_with fail
    exact bodyPost_end (v := .tuple #[]) (results_none (by rfl) _ _ _) (by rfl) ⟨rfl, HA.out, World.grownBy.refl _ _⟩
/-- 'write' of any row that is read and lies apart from the authenticator. -/
theorem write_all (ga acc f0 f1 z0 z1 c : Nat) (A : Option Addr) (l : List Int) (w : World) (ha : Au w ga acc f0 f1 z0 z1) (hr : Rd w A l) (hne : ∀ a, A = some a → 0 < l.length → a.block ≠ ga) (hB : Bytes l) (hc : l.length ≤ c) (hm : c ≤ 9223372036854775807)
    (h3 : f0 < 1152921504606846976) (h4 : f1 < 1152921504606846976) :
    Calls Tryd.prog 57 #[.pointer (some ⟨ga, 0, none⟩), .slice A l.length c] w fun e w' =>
      e = .returned (.tuple #[]) ∧ Au w' ga (absorb (f0 + f1 * 18446744073709551616) acc l) f0 f1 z0 z1 ∧ w.grownBy w' (some ga) := by
  by_cases h : l.length = 0
  · obtain rfl := List.eq_nil_of_length_eq_zero h
    exact write_nil ga acc f0 f1 z0 z1 c A w ha
  · obtain ⟨b, off, rfl, hb⟩ := hr.some_ (by omega)
    exact auWrite_any ga acc f0 f1 z0 z1 b off c l w ha hr (hne _ rfl (by omega)) hB hc hm h3 h4
theorem fw_lt (l : List Int) (o : Nat) (m : Nat) (hm : m < 1152921504606846976) : fw l o m < 1152921504606846976 := Nat.lt_of_le_of_lt Nat.and_le_right hm
/-- The tag of RFC 8439, by value. -/
def polyTag (key l : List Int) : List Int :=
  tg (absorb (fw key 0 1152921487695413247 + fw key 8 1152921487695413244 * 18446744073709551616) 0 l % 1361129467683753853853498429727072845819 % 340282366920938463463374607431768211456 + ((w8 key 16).toNat + (w8 key 24).toNat * 18446744073709551616))
theorem Au.new {w : World} {g : Nat} {key : List Int} (hB : Bytes key) (h : Blk w g 124 #[.int .u64 0, .int .u64 0, .int .u64 0, .int .u64 (fw key 0 1152921487695413247), .int .u64 (fw key 8 1152921487695413244), .int .u64 (w8 key 16), .int .u64 (w8 key 24)]) :
    Au w g 0 (fw key 0 1152921487695413247) (fw key 8 1152921487695413244) (w8 key 16).toNat (w8 key 24).toNat := by
  rw [← (w8_nat hB 16).1, ← (w8_nat hB 24).1] at h
  exact ⟨0, 0, 0, h, by omega, by omega, by omega, rfl⟩

theorem put8_length (l : List Int) (o : Nat) (v : Int) (h : o + 8 ≤ l.length) : (put8 l o v).length = l.length := by
  rw [put8, put4_length _ _ _ (by rw [put4_length _ _ _ (by omega)]; omega), put4_length _ _ _ (by omega)]
theorem tg_length (n : Nat) : (tg n).length = 16 := by
  rw [tg, put8_length _ _ _ (by rw [put8_length _ _ _ (by simp)]; simp), put8_length _ _ _ (by simp)]; simp

end Go.Proofs.YtjibbegdieiknaaDoor

namespace Go.Proofs.YtjibbegdieiknaaDoor
set_option maxRecDepth 100000
open Go.RowKit
set_option linter.unusedVariables false

theorem index16 (a b c d e f g h i j k l m n o p : Int) (x : Nat) (hx : x < 16) (w : World) :
    (Instr.index 91 (.agg #[.int .u32 a, .int .u32 b, .int .u32 c, .int .u32 d, .int .u32 e, .int .u32 f, .int .u32 g, .int .u32 h, .int .u32 i, .int .u32 j, .int .u32 k, .int .u32 l, .int .u32 m, .int .u32 n, .int .u32 o, .int .u32 p]) (.int .i64 x)).run Tryd.prog w =
      .ok (.int .u32 ([a, b, c, d, e, f, g, h, i, j, k, l, m, n, o, p].getD x 0)) w := by
  rcases (show x = 0 ∨ x = 1 ∨ x = 2 ∨ x = 3 ∨ x = 4 ∨ x = 5 ∨ x = 6 ∨ x = 7 ∨ x = 8 ∨ x = 9 ∨ x = 10 ∨ x = 11 ∨ x = 12 ∨ x = 13 ∨ x = 14 ∨ x = 15 by omega) with rfl | rfl | rfl | rfl | rfl | rfl | rfl | rfl | rfl | rfl | rfl | rfl | rfl | rfl | rfl | rfl <;> kernel_rfl
theorem slice_arr64 (g lo : Nat) (kd : IntKind) (h1 : lo < 64) (w : World) :
    (Instr.sliceAt 93 (.pointer (some ⟨g, 0, none⟩)) (some (.int kd (lo : Int))) none none).run Tryd.prog w = .ok (.slice (some ⟨g, lo, none⟩) (64 - lo) (64 - lo)) w := by
  rw [run_sliceAt_array_l (P := Tryd.prog) w 93 ⟨g, 0, none⟩ (by rw [arr64_len, arr64_elem]; exact Tryd.underlying93) kd (lo : Int) (by omega) (by rw [arr64_len]; omega), arr64_elem, run_sizeOf_u8, arr64_len]
  simp only [Result.andThen_ok, slicedAt, Int.toNat_natCast]
  rw [if_neg (by omega)]
  simp only [Nat.mul_one, Addr.add]
  by_cases h : lo = 0
  · subst h; simp
  · simp [h]
def kb (x y : C16) (m : Nat) : List Int := (List.range m).flatMap fun i => le4 (ad32 (x.list.getD i 0) (y.list.getD i 0))
theorem kb_succ (x y : C16) (m : Nat) : kb x y (m + 1) = kb x y m ++ le4 (ad32 (x.list.getD m 0) (y.list.getD m 0)) := by
  unfold kb
  rw [List.range_succ, List.flatMap_append, List.flatMap_singleton]
theorem kb_length (x y : C16) : ∀ m, (kb x y m).length = 4 * m
  | 0 => rfl
  | m + 1 => by rw [kb_succ, List.length_append, kb_length x y m, le4_length]; omega
theorem kb_put (x y : C16) (m : Nat) (h : m < 16) : put4 (kb x y m ++ List.replicate (64 - 4 * m) 0) (4 * m) (ad32 (x.list.getD m 0) (y.list.getD m 0)) = kb x y (m + 1) ++ List.replicate (64 - 4 * (m + 1)) 0 := by
  have hl := kb_length x y m
  unfold put4
  rw [kb_succ, List.take_append_of_le_length (by omega), List.take_of_length_le (by omega), List.drop_append, List.drop_of_length_le (by omega), List.nil_append, hl, List.drop_replicate, show 64 - 4 * m - (4 * m + 4 - 4 * m) = 64 - 4 * (m + 1) by omega]

set_option maxRecDepth 100000 in
set_option maxHeartbeats 6400000 in
theorem cBlock_any (X : C16) (w : World) (hok : X.ok) :
    Calls Tryd.prog 53 #[.agg (IV .u32 X.list).toArray] w fun e w' => e = .returned (.agg (IV .u8 (kblock X)).toArray) ∧ Below w.heap.size w w' := by
  obtain ⟨Z64, hZ64⟩ : ∃ Z, Z = (IV .u8 (List.replicate 64 0)).toArray := ⟨_, rfl⟩
  have hz64 : ∀ w, (zeroValue 93).run Tryd.prog w = .ok (.agg Z64) w := by rw [hZ64]; exact zero64
  have HZ64 := Lib.hid hZ64
  have HZS64 := Lib.hid (show Z64.size = 64 by rw [hZ64]; rfl)
  have HOK := Lib.hid hok
  obtain ⟨XA, hXA⟩ : ∃ XA, XA = (IV .u32 X.list).toArray := ⟨_, rfl⟩
  have HXA := Lib.hid hXA
  rw [← hXA]
  obtain ⟨OUT, hOUT⟩ : ∃ OUT, OUT = kblock X := ⟨_, rfl⟩
  rw [← hOUT]
  have HOUT := Lib.hid hOUT
  have SOUT := Lib.hid (show (IV .u8 OUT).toArray.size = 64 by rw [hOUT]; simp [IV, kblock_length])
  have AOUT := Lib.hid (show (IV .u8 OUT).toArray.all (·.oneCell') = true by simp [IV, Value.oneCell'])
  have I64 := Lib.hid (show (Tryd.prog.info? 93).map (·.size) = some 64 by kernel_rfl)
  clear hZ64 hok hXA hOUT
  go_enter Tryd.func53, Tryd.ntmps53
  go_wp2_with fail
  have h0 : Blk ((w.alloc (.cells XA 91)).alloc (.cells Z64 93)) w.heap.size 91 (IV .u32 X.list).toArray := by rw [← HXA.out]; exact (Blk.new _ _ _).alloc _
  have h1 : Blk ((w.alloc (.cells XA 91)).alloc (.cells Z64 93)) (w.heap.size + 1) 93 Z64 := blk_second _ _ _ _
  have hb : Below w.heap.size w ((w.alloc (.cells XA 91)).alloc (.cells Z64 93)) := ((Below.refl _ _).alloc (Nat.le_refl _) _).alloc (by simp) _
  generalize (w.alloc (.cells XA 91)).alloc (.cells Z64 93) = W at h0 h1 hb ⊢
  have c0 := h0.cell_i (i := 0) (x := X.p.a) rfl
  have c1 := h0.cell_i (i := 1) (x := X.q.a) rfl
  have c2 := h0.cell_i (i := 2) (x := X.r.a) rfl
  have c3 := h0.cell_i (i := 3) (x := X.s.a) rfl
  have c4 := h0.cell_i (i := 4) (x := X.p.b) rfl
  have c5 := h0.cell_i (i := 5) (x := X.q.b) rfl
  have c6 := h0.cell_i (i := 6) (x := X.r.b) rfl
  have c7 := h0.cell_i (i := 7) (x := X.s.b) rfl
  have c8 := h0.cell_i (i := 8) (x := X.p.c) rfl
  have c9 := h0.cell_i (i := 9) (x := X.q.c) rfl
  have c10 := h0.cell_i (i := 10) (x := X.r.c) rfl
  have c11 := h0.cell_i (i := 11) (x := X.s.c) rfl
  have c12 := h0.cell_i (i := 12) (x := X.p.d) rfl
  have c13 := h0.cell_i (i := 13) (x := X.q.d) rfl
  have c14 := h0.cell_i (i := 14) (x := X.r.d) rfl
  have c15 := h0.cell_i (i := 15) (x := X.s.d) rfl
  have H0 := Lib.hid h0
  have H1 := Lib.hid h1
  have BL := Lib.hid hb
  clear h0 h1 hb
  go_quiet (fail)
  go_wp2_with fail
  go_quiet (fail)
  go_wp2_with fail
  go_quiet (fail)
  go_wp2_with fail
  go_quiet (fail)
  clear c0 c1 c2 c3 c4 c5 c6 c7 c8 c9 c10 c11 c12 c13 c14 c15
  go_wp2_with fail
  go_loopw [3, 4, 5, 6, 7, 8, 9, 10, 11, 12, 13, 14, 15, 16, 17, 18, 54] (fun v3 v4 v5 v6 v7 v8 v9 v10 v11 v12 v13 v14 v15 v16 v17 v18 i wr => ∃ (k : Nat) (X1 : C16), k ≤ 10 ∧ i = .int .i64 k ∧ X1 = drounds X k ∧ X1.ok ∧ v3 = .int .u32 X1.p.a ∧ v4 = .int .u32 X1.q.a ∧ v5 = .int .u32 X1.r.a ∧ v6 = .int .u32 X1.s.a ∧ v7 = .int .u32 X1.p.b ∧ v8 = .int .u32 X1.q.b ∧ v9 = .int .u32 X1.r.b ∧ v10 = .int .u32 X1.s.b ∧ v11 = .int .u32 X1.p.c ∧ v12 = .int .u32 X1.q.c ∧ v13 = .int .u32 X1.r.c ∧ v14 = .int .u32 X1.s.c ∧ v15 = .int .u32 X1.p.d ∧ v16 = .int .u32 X1.q.d ∧ v17 = .int .u32 X1.r.d ∧ v18 = .int .u32 X1.s.d ∧ ∃ n, wr = W.drewN n) (fun _ _ _ _ _ _ _ _ _ _ _ _ _ _ _ _ i _ => 10 - (intOf i).toNat)
  case atStart => exact ⟨0, X, by omega, rfl, rfl, HOK.out, rfl, rfl, rfl, rfl, rfl, rfl, rfl, rfl, rfl, rfl, rfl, rfl, rfl, rfl, rfl, rfl, _, by simp only [World.drewN_drewN]; rfl⟩
  case round =>
    obtain ⟨k, X1, hk, rfl, hX1, hok, rfl, rfl, rfl, rfl, rfl, rfl, rfl, rfl, rfl, rfl, rfl, rfl, rfl, rfl, rfl, rfl, n0, hwn⟩ := hrel
    have HX1 := Lib.hid hX1
    have HOK1 := Lib.hid hok
    have HWN := Lib.hid hwn
    clear hX1 hok hwn
    by_cases hk10 : k < 10
    · obtain ⟨Y, hY⟩ : ∃ Y, Y = cols X1 := ⟨_, rfl⟩
      obtain ⟨V, hV⟩ : ∃ V, V = cols (todiag Y) := ⟨_, rfl⟩
      have hYok : Y.ok := by rw [hY]; exact cols_ok HOK1.out
      have hTok := todiag_ok hYok
      have hDR : drounds X (k + 1) = undiag V := by rw [drounds, dround, ← HX1.out, ← hY, ← hV]
      have hVok : (undiag V).ok := by rw [hV]; exact undiag_ok (cols_ok hTok)
      have C1 := Lib.hid (fun W => (show Calls Tryd.prog 73 #[.int .u32 X1.p.a, .int .u32 X1.p.b, .int .u32 X1.p.c, .int .u32 X1.p.d] W fun e w' => e = .returned (.tuple #[.int .u32 Y.p.a, .int .u32 Y.p.b, .int .u32 Y.p.c, .int .u32 Y.p.d]) ∧ W = w' by rw [hY]; exact quarter_any X1.p W HOK1.out.1))
      have C2 := Lib.hid (fun W => (show Calls Tryd.prog 73 #[.int .u32 X1.q.a, .int .u32 X1.q.b, .int .u32 X1.q.c, .int .u32 X1.q.d] W fun e w' => e = .returned (.tuple #[.int .u32 Y.q.a, .int .u32 Y.q.b, .int .u32 Y.q.c, .int .u32 Y.q.d]) ∧ W = w' by rw [hY]; exact quarter_any X1.q W HOK1.out.2.1))
      have C3 := Lib.hid (fun W => (show Calls Tryd.prog 73 #[.int .u32 X1.r.a, .int .u32 X1.r.b, .int .u32 X1.r.c, .int .u32 X1.r.d] W fun e w' => e = .returned (.tuple #[.int .u32 Y.r.a, .int .u32 Y.r.b, .int .u32 Y.r.c, .int .u32 Y.r.d]) ∧ W = w' by rw [hY]; exact quarter_any X1.r W HOK1.out.2.2.1))
      have C4 := Lib.hid (fun W => (show Calls Tryd.prog 73 #[.int .u32 X1.s.a, .int .u32 X1.s.b, .int .u32 X1.s.c, .int .u32 X1.s.d] W fun e w' => e = .returned (.tuple #[.int .u32 Y.s.a, .int .u32 Y.s.b, .int .u32 Y.s.c, .int .u32 Y.s.d]) ∧ W = w' by rw [hY]; exact quarter_any X1.s W HOK1.out.2.2.2))
      have D1 := Lib.hid (fun W => (show Calls Tryd.prog 73 #[.int .u32 Y.p.a, .int .u32 Y.q.b, .int .u32 Y.r.c, .int .u32 Y.s.d] W fun e w' => e = .returned (.tuple #[.int .u32 V.p.a, .int .u32 V.p.b, .int .u32 V.p.c, .int .u32 V.p.d]) ∧ W = w' by rw [hV]; exact quarter_any (todiag Y).p W hTok.1))
      have D2 := Lib.hid (fun W => (show Calls Tryd.prog 73 #[.int .u32 Y.q.a, .int .u32 Y.r.b, .int .u32 Y.s.c, .int .u32 Y.p.d] W fun e w' => e = .returned (.tuple #[.int .u32 V.q.a, .int .u32 V.q.b, .int .u32 V.q.c, .int .u32 V.q.d]) ∧ W = w' by rw [hV]; exact quarter_any (todiag Y).q W hTok.2.1))
      have D3 := Lib.hid (fun W => (show Calls Tryd.prog 73 #[.int .u32 Y.r.a, .int .u32 Y.s.b, .int .u32 Y.p.c, .int .u32 Y.q.d] W fun e w' => e = .returned (.tuple #[.int .u32 V.r.a, .int .u32 V.r.b, .int .u32 V.r.c, .int .u32 V.r.d]) ∧ W = w' by rw [hV]; exact quarter_any (todiag Y).r W hTok.2.2.1))
      have D4 := Lib.hid (fun W => (show Calls Tryd.prog 73 #[.int .u32 Y.s.a, .int .u32 Y.p.b, .int .u32 Y.q.c, .int .u32 Y.r.d] W fun e w' => e = .returned (.tuple #[.int .u32 V.s.a, .int .u32 V.s.b, .int .u32 V.s.c, .int .u32 V.s.d]) ∧ W = w' by rw [hV]; exact quarter_any (todiag Y).s W hTok.2.2.2))
      have HDR := Lib.hid hDR
      have HVO := Lib.hid hVok
      clear hY hV hYok hTok hDR hVok
      go_wp2_with fail
      refine (C1.out _).mono ?_
      rintro e w' ⟨rfl, rfl⟩
      go_wp2_with fail
      refine (C2.out _).mono ?_
      rintro e w' ⟨rfl, rfl⟩
      go_wp2_with fail
      refine (C3.out _).mono ?_
      rintro e w' ⟨rfl, rfl⟩
      go_wp2_with fail
      refine (C4.out _).mono ?_
      rintro e w' ⟨rfl, rfl⟩
      go_wp2_with fail
      refine (D1.out _).mono ?_
      rintro e w' ⟨rfl, rfl⟩
      go_wp2_with fail
      refine (D2.out _).mono ?_
      rintro e w' ⟨rfl, rfl⟩
      go_wp2_with fail
      refine (D3.out _).mono ?_
      rintro e w' ⟨rfl, rfl⟩
      go_wp2_with fail
      refine (D4.out _).mono ?_
      rintro e w' ⟨rfl, rfl⟩
      go_wp2_with fail
      go_roundw
      case rel => exact ⟨k + 1, undiag V, by omega, by go_num, HDR.out.symm, HVO.out, rfl, rfl, rfl, rfl, rfl, rfl, rfl, rfl, rfl, rfl, rfl, rfl, rfl, rfl, rfl, rfl, n0, HWN.out⟩
      case measure => simp [intOf]; omega
    · obtain rfl : k = 10 := by omega
      rename World => WF
      have HF := Lib.hid (show Blk WF w.heap.size 91 (IV .u32 X.list).toArray by rw [HWN.out]; exact H0.out)
      have HG := Lib.hid (show Blk WF (w.heap.size + 1) 93 Z64 by rw [HWN.out]; exact H1.out)
      have HL := Lib.hid (show Below w.heap.size w WF by rw [HWN.out]; exact ⟨BL.out.os, BL.out.tape, BL.out.output, BL.out.size, BL.out.block⟩)
      clear HWN H0 H1 BL
      go_wp2_with fail
      have hKB : OUT = kb X1 X 16 := by rw [HOUT.out, kblock, ← HX1.out]; rfl
      have HKB := Lib.hid hKB
      have hx1 := C16.list_ok HOK1.out
      have hx0 := C16.list_ok HOK.out
      have HX1O := Lib.hid hx1
      have HX0O := Lib.hid hx0
      have hO : Blk (WF.alloc (.cells Z64 93)) WF.heap.size 93 (IV .u8 (List.replicate 64 0)).toArray := by rw [← HZ64.out]; exact Blk.new _ _ _
      have hA : Blk (WF.alloc (.cells Z64 93)) w.heap.size 91 (IV .u32 X.list).toArray := HF.out.alloc _
      have hB : Blk (WF.alloc (.cells Z64 93)) (w.heap.size + 1) 93 Z64 := HG.out.alloc _
      have hL : Below w.heap.size w (WF.alloc (.cells Z64 93)) := HL.out.alloc HL.out.size _
      have ltA : w.heap.size < WF.heap.size := HF.out.lt
      have ltB : w.heap.size + 1 < WF.heap.size := HG.out.lt
      obtain ⟨gO, hgO⟩ : ∃ gO, gO = WF.heap.size := ⟨_, rfl⟩
      rw [← hgO] at hO ltA ltB ⊢
      generalize WF.alloc (.cells Z64 93) = WG at hO hA hB hL ⊢
      clear hKB hx1 hx0 HF HG HL hgO
      go_loopw [154] (fun i wr => ∃ (m : Nat), m ≤ 16 ∧ i = .int .i64 m ∧ Blk wr gO 93 (IV .u8 (kb X1 X m ++ List.replicate (64 - 4 * m) 0)).toArray ∧ Blk wr w.heap.size 91 (IV .u32 X.list).toArray ∧ Blk wr (w.heap.size + 1) 93 Z64 ∧ Below w.heap.size w wr) (fun i _ => 16 - (intOf i).toNat)
      case atStart => exact ⟨0, by omega, rfl, hO, hA, hB, hL⟩
      case round =>
        obtain ⟨m, hm, rfl, bO, bA, bB, bL⟩ := hrel
        have HO := Lib.hid bO
        have HA := Lib.hid bA
        have HB := Lib.hid bB
        have HL := Lib.hid bL
        by_cases hm16 : m < 16
        · have gx : X1.list[m]? = some (X1.list.getD m 0) := by rw [List.getD_eq_getElem?_getD, List.getElem?_eq_getElem (by rw [C16.list_length]; exact hm16)]; rfl
          have gy : X.list[m]? = some (X.list.getD m 0) := by rw [List.getD_eq_getElem?_getD, List.getElem?_eq_getElem (by rw [C16.list_length]; exact hm16)]; rfl
          have hix := index16 X1.p.a X1.q.a X1.r.a X1.s.a X1.p.b X1.q.b X1.r.b X1.s.b X1.p.c X1.q.c X1.r.c X1.s.c X1.p.d X1.q.d X1.r.d X1.s.d m hm16
          rw [show [X1.p.a, X1.q.a, X1.r.a, X1.s.a, X1.p.b, X1.q.b, X1.r.b, X1.s.b, X1.p.c, X1.q.c, X1.r.c, X1.s.c, X1.p.d, X1.q.d, X1.r.d, X1.s.d] = X1.list from rfl] at hix
          obtain ⟨x, hx⟩ : ∃ x, x = X1.list.getD m 0 := ⟨_, rfl⟩
          obtain ⟨y, hy⟩ : ∃ y, y = X.list.getD m 0 := ⟨_, rfl⟩
          rw [← hx] at hix gx
          rw [← hy] at gy
          have ox : W32 x := HX1O.out x (List.mem_of_getElem? gx)
          have oy : W32 y := HX0O.out y (List.mem_of_getElem? gy)
          have cy : wr.cell? ⟨w.heap.size, m, none⟩ = some (.int .u32 y) := bA.cell_i gy
          obtain ⟨v, hv⟩ : ∃ v, v = ad32 x y := ⟨_, rfl⟩
          have ov : 0 ≤ v ∧ v < 4294967296 := by rw [hv]; exact ad32_ok _ _
          have ev : (x + y) % 4294967296 = v := hv.symm
          have ev2 : IntKind.u32.wrap (x + y) = v := by rw [IntKind.wrap_u32]; exact hv.symm
          have hput := kb_put X1 X m hm16
          rw [← hx, ← hy, ← hv] at hput
          obtain ⟨a0, ha0⟩ : ∃ a0, a0 = 4 * m := ⟨_, rfl⟩
          have e1 : IntKind.i64.wrap (4 * (m : Int)) = (a0 : Int) := by rw [IntWalk.i64_in _ (by omega)]; omega
          have e4 : IntKind.i64.wrap (a0 : Int) = (a0 : Int) := IntWalk.i64_in _ (by omega)
          have hsl := slice_arr64 gO a0 .i64 (by omega)
          have hl : (kb X1 X m ++ List.replicate (64 - 4 * m) (0 : Int)).length = 64 := by rw [List.length_append, kb_length, List.length_replicate]; omega
          have CP := Lib.hid (fun W (h : Blk W gO 93 (IV .u8 (kb X1 X m ++ List.replicate (64 - 4 * m) 0)).toArray) => putWord32_any gO 93 _ a0 (64 - a0) (64 - a0) v W h ov (by omega) (by omega) (by rw [hl]; omega))
          have n1 : (m : Int) < 16 := by omega
          have n2 : (0 : Int) ≤ (m : Int) := by omega
          have n3 : m < 16 := hm16
          have HPUT := Lib.hid hput
          have HA0 := Lib.hid ha0
          clear gx gy hx hy hv ox oy hput ha0 hl ov bO bA bB bL
          go_wp2_with fail
          go_still_tail 8, (by kernel_rfl)
          have d1 : Blk wr.drew gO 93 (IV .u8 (kb X1 X m ++ List.replicate (64 - 4 * m) 0)).toArray := HO.out
          go_wp2_with fail
          refine (CP.out _ d1).mono ?_
          rintro e w5 ⟨rfl, b5, o5⟩
          rw [HA0.out, HPUT.out] at b5
          have HO5 := Lib.hid b5
          have HA5 := Lib.hid ((show Blk wr.drew w.heap.size 91 (IV .u32 X.list).toArray from HA.out).grown o5 (by simp; omega))
          have HB5 := Lib.hid ((show Blk wr.drew (w.heap.size + 1) 93 Z64 from HB.out).grown o5 (by simp; omega))
          have HL5 := Lib.hid (grown_below (show Below w.heap.size w wr.drew from ⟨HL.out.os, HL.out.tape, HL.out.output, HL.out.size, HL.out.block⟩) o5 HL.out.size (by omega))
          clear d1 b5 o5
          go_wp2_with fail
          refine ⟨⟨_, _, _, _, _, _, _, _, _, _, _, _, _, _, _, _, ⟨m + 1, by omega, ?_, HO5.out, HA5.out, HB5.out, HL5.out⟩, rfl⟩, ?_⟩
          · go_num
          · show 16 - ((m : Int) + 1).toNat < 16 - (m : Int).toNat
            omega
        · obtain rfl : m = 16 := by omega
          have hO' : Blk wr gO 93 (IV .u8 OUT).toArray := by
            have h := HO.out
            rw [show 64 - 4 * 16 = 0 from rfl, List.replicate_zero, List.append_nil, ← HKB.out] at h
            exact h
          have HOO := Lib.hid hO'
          clear hO' bO bA bB bL
          go_wp2_with (first
            | refine wpList_load_row rfl 93 (.tmp 19) rfl gO rfl 93 (IV .u8 OUT).toArray (0, 0) _ HOO.out Tryd.underlying93 rfl (by rw [SOUT.out]; exact I64.out) ?_
            | refine wpList_store_row rfl 93 (.tmp 2) (.tmp 168) rfl (w.heap.size + 1) (IV .u8 OUT).toArray rfl rfl 93 _ HB.out (by rw [SOUT.out]; exact I64.out) (by rw [SOUT.out, HZS64.out]) AOUT.out ?_)
          refine bodyPost_ret (v := .agg (IV .u8 OUT).toArray) (results_cell_row rfl _ _ (w.heap.size + 1) 93 _ (0, 0) _ rfl (Blk.row HB.out _) Tryd.underlying93 rfl (by rw [SOUT.out]; exact I64.out)) rfl ⟨rfl, ?_⟩
          exact below_setRow HL.out (by omega) _
end Go.Proofs.YtjibbegdieiknaaDoor

namespace Go.Proofs.YtjibbegdieiknaaDoor
set_option maxRecDepth 100000
open Go.RowKit
set_option linter.unusedVariables false

theorem xorb_length {l s : List Int} (h : l.length ≤ s.length) : (xorb l s).length = l.length := by simp [xorb]; omega
theorem xorb_bytes {l s : List Int} (hl : Bytes l) (hs : Bytes s) : Bytes (xorb l s) := by
  intro x hx
  unfold xorb at hx
  obtain ⟨i, hi, rfl⟩ := List.mem_iff_getElem.1 hx
  rw [List.getElem_zipWith]
  exact xor8 (hl _ (List.getElem_mem _)) (hs _ (List.getElem_mem _))
/-- A row under way: its first t bytes are done. -/
def half (l E rest : List Int) (t : Nat) : List Int := E.take t ++ l.drop t ++ rest
theorem half_length {l E : List Int} (h : E.length = l.length) (rest : List Int) (t : Nat) : (half l E rest t).length = l.length + rest.length := by
  simp only [half, List.length_append, List.length_take, List.length_drop]; omega
theorem half_at {l E rest : List Int} (h : E.length = l.length) {t : Nat} (ht : t < l.length) : (half l E rest t)[t]? = some l[t] := by
  unfold half
  rw [List.append_assoc, List.getElem?_append_right (by rw [List.length_take]; omega), List.length_take, show t - min t E.length = 0 by omega, List.getElem?_append_left (by rw [List.length_drop]; omega), List.getElem?_drop, Nat.add_zero, List.getElem?_eq_getElem ht]
theorem half_set {l E rest : List Int} (h : E.length = l.length) {t : Nat} (ht : t < l.length) {e : Int} (he : E[t]? = some e) : (half l E rest t).set t e = half l E rest (t + 1) := by
  unfold half
  obtain ⟨x, hx⟩ : ∃ x, l.drop t = x :: l.drop (t + 1) := ⟨l[t], List.drop_eq_getElem_cons ht⟩
  have e1 : (E.take t).length = t := by rw [List.length_take]; omega
  rw [hx, List.append_assoc, List.set_append_right _ _ (by omega), e1, Nat.sub_self, List.cons_append, List.set_cons_zero, List.take_add_one, he]
  simp
theorem half_zero (l E rest : List Int) : half l E rest 0 = l ++ rest := by simp [half]
theorem half_all {l E : List Int} (h : E.length = l.length) (rest : List Int) {t : Nat} (ht : l.length ≤ t) : half l E rest t = E ++ rest := by
  unfold half
  rw [List.take_of_length_le (by omega), List.drop_of_length_le ht]; simp
theorem xorb_at {l s : List Int} {t : Nat} {x : Int} (ht : t < l.length) (hs : s[t]? = some x) : (xorb l s)[t]? = some (bits .xor .u8 l[t] x) := by
  simp only [xorb, List.getElem?_zipWith, List.getElem?_eq_getElem ht, hs]
theorem stream_at_block (key nonce : List Int) (f : Int) (n k j : Nat) (hj : j < 64) (hn : 64 * k + j < n) : (stream key nonce f n)[64 * k + j]? = (cblock key nonce (f + k))[j]? := by
  unfold stream
  obtain ⟨d, hd⟩ : ∃ d, (n + 63) / 64 = k + (d + 1) := ⟨(n + 63) / 64 - k - 1, by omega⟩
  rw [List.getElem?_take, if_pos hn, hd, cblocks_split, List.getElem?_append_right (by rw [cblocks_length]; omega), cblocks_length, Nat.add_sub_cancel_left, cblocks, List.getElem?_append_left (by rw [cblock_length]; exact hj)]
theorem slice_adv (g q L c n : Nat) (kd : IntKind) (h1 : n ≤ L) (h2 : L ≤ c) : ∃ A', (∀ w, (Instr.slice 23 (.slice (some ⟨g, q, none⟩) L c) (some (.int kd (n : Int))) none none).run Tryd.prog w = .ok (.slice A' (L - n) (c - n)) w) ∧ (0 < L - n → A' = some ⟨g, q + n, none⟩) := by
  refine ⟨if c = n then some ⟨g, q, none⟩ else some ((⟨g, q, none⟩ : Addr).add (n * 1)), fun w => ?_, fun h => ?_⟩
  · rw [run_slice_l (P := Tryd.prog) w 23 (some ⟨g, q, none⟩) L c (by rw [elem_u8]; exact Tryd.underlying23) kd (n : Int) (by omega) (by omega), elem_u8]
    rw [run_sizeOf_u8]
    simp [sliced]
  · rw [if_neg (by omega), Nat.mul_one, Addr.add_mid]
theorem cstate_next (key nonce : List Int) (m : Int) : (cstate key nonce m).list.set 12 ((m + 1) % 4294967296) = (cstate key nonce ((m + 1) % 4294967296)).list := rfl
theorem cstate_at12 (key nonce : List Int) (m : Int) : (cstate key nonce m).list[12]? = some m := rfl
theorem zero16 (w : World) : (zeroValue 91).run Tryd.prog w = .ok (.agg (IV .u32 (List.replicate 16 0)).toArray) w := rfl

set_option maxRecDepth 100000 in
set_option maxHeartbeats 6400000 in
theorem xor_any (g : Nat) (t : TypeId) (l rest : List Int) (c : Nat) (key nonce : List Int) (f : Int) (w : World) (hg : Blk w g t (IV .u8 (l ++ rest)).toArray) (hlb : Bytes l) (hc : l.length ≤ c) (hm : c ≤ 9223372036854775807)
    (hk : key.length = 32) (hkb : Bytes key) (hn : nonce.length = 12) (hnb : Bytes nonce) (hf : W32 f) :
    Calls Tryd.prog 40 #[.slice (some ⟨g, 0, none⟩) l.length c, .agg (IV .u8 key).toArray, .agg (IV .u8 nonce).toArray, .int .u32 f] w fun e w' =>
      e = .returned (.tuple #[]) ∧ Blk w' g t (IV .u8 (xorb l (stream key nonce f l.length) ++ rest)).toArray ∧ w.grownBy w' (some g) := by
  have hgl := hg.lt
  obtain ⟨ST, hST⟩ : ∃ ST, ST = stream key nonce f l.length := ⟨_, rfl⟩
  have hSTl : ST.length = l.length := by rw [hST]; exact stream_length _ _ _ _
  obtain ⟨E, hE⟩ : ∃ E, E = xorb l ST := ⟨_, rfl⟩
  have hEl : E.length = l.length := by rw [hE]; exact xorb_length (by omega)
  rw [← hST, ← hE]
  obtain ⟨KA, hKA⟩ : ∃ KA, KA = (IV .u8 key).toArray := ⟨_, rfl⟩
  obtain ⟨NA, hNA⟩ : ∃ NA, NA = (IV .u8 nonce).toArray := ⟨_, rfl⟩
  have SK := Lib.hid (show KA.size = 32 by rw [hKA]; simp [IV, hk])
  have SN := Lib.hid (show NA.size = 12 by rw [hNA]; simp [IV, hn])
  have I32 := Lib.hid (show (Tryd.prog.info? 22).map (·.size) = some 32 by kernel_rfl)
  have I12 := Lib.hid (show (Tryd.prog.info? 32).map (·.size) = some 12 by kernel_rfl)
  have I16 := Lib.hid (show (Tryd.prog.info? 91).map (·.size) = some 16 by kernel_rfl)
  have I64 := Lib.hid (show (Tryd.prog.info? 93).map (·.size) = some 64 by kernel_rfl)
  have CN := Lib.hid (fun W => newState_any key nonce f W hk hkb hn hnb)
  rw [← hKA, ← hNA] at CN ⊢
  have COK := Lib.hid (fun (m : Int) (hm : W32 m) => cstate_ok hkb hnb hm)
  obtain ⟨Z16, hZ16⟩ : ∃ Z, Z = (IV .u32 (List.replicate 16 0)).toArray := ⟨_, rfl⟩
  obtain ⟨Z64, hZ64⟩ : ∃ Z, Z = (IV .u8 (List.replicate 64 0)).toArray := ⟨_, rfl⟩
  have hz16 : ∀ w, (zeroValue 91).run Tryd.prog w = .ok (.agg Z16) w := by rw [hZ16]; exact zero16
  have hz64 : ∀ w, (zeroValue 93).run Tryd.prog w = .ok (.agg Z64) w := by rw [hZ64]; exact zero64
  have ZS16 := Lib.hid (show Z16.size = 16 by rw [hZ16]; rfl)
  have ZS64 := Lib.hid (show Z64.size = 64 by rw [hZ64]; rfl)
  have HG := Lib.hid hg
  have HST := Lib.hid hST
  have HE := Lib.hid hE
  have HEL := Lib.hid hEl
  have HLB := Lib.hid hlb
  have HF := Lib.hid hf
  have hl63 : l.length ≤ 9223372036854775807 := by omega
  clear hg hlb hKA hNA hST hE hEl hk hkb hn hnb hf hZ16 hZ64 hSTl
  go_enter Tryd.func40, Tryd.ntmps40
  go_wp2_with (first
    | refine wpList_load_row rfl 22 (.tmp 5) rfl w.heap.size rfl 22 KA (0, 0) _ ((Blk.new w _ KA).alloc _) Tryd.underlying22 rfl (by rw [SK.out]; exact I32.out) ?_
    | refine wpList_load_row rfl 32 (.tmp 6) rfl (w.heap.size + 1) rfl 32 NA (0, 0) _ (blk_second w _ _ NA) Tryd.underlying32 rfl (by rw [SN.out]; exact I12.out) ?_)
  refine (CN.out _).mono ?_
  rintro e w1 ⟨rfl, b1⟩
  have G1 := Lib.hid (show Blk w1 g t (IV .u8 (half l E rest 0)).toArray by rw [half_zero]; exact ((HG.out.alloc _).alloc _).below b1 (by simp; omega))
  have OG1 := Lib.hid (show w.grownBy w1 (some g) from only_of_below ((((Below.refl _ _).alloc (Nat.le_refl _) _).alloc (by simp) _).trans (b1.mono (by simp; omega))) _)
  obtain ⟨SA, hSA⟩ : ∃ SA, SA = (IV .u32 (cstate key nonce f).list).toArray := ⟨_, rfl⟩
  rw [← hSA]
  have SSA := Lib.hid (show SA.size = 16 by rw [hSA]; rfl)
  have ASA := Lib.hid (show SA.all (·.oneCell') = true by rw [hSA]; simp [IV, Value.oneCell'])
  have HSA := Lib.hid hSA
  clear b1 CN hSA
  go_wp2_with (refine wpList_store_row rfl 91 (.tmp 8) (.tmp 15) rfl w1.heap.size SA rfl rfl 91 Z16 (Blk.new w1 _ _) (by rw [SSA.out]; exact I16.out) (by rw [SSA.out, ZS16.out]) ASA.out ?_
               have T2 := Lib.hid (Blk.row (Blk.new w1 91 Z16) SA)
               have B2 := Lib.hid (below_setRow ((Below.refl w1.heap.size w1).alloc (Nat.le_refl _) (.cells Z16 91)) (Nat.le_refl _) SA)
               generalize (w1.alloc (.cells Z16 91)).setRow w1.heap.size SA = w2 at T2 B2 ⊢)
  have hw1 : w.heap.size ≤ w1.heap.size := OG1.out.size
  have G2 := Lib.hid (G1.out.below B2.out (by omega))
  have OG2 := Lib.hid (only_trans OG1.out (only_of_below B2.out (some g)))
  have hT : w1.heap.size < w2.heap.size := T2.out.lt
  have T2' := Lib.hid (show Blk w2 w1.heap.size 91 (IV .u32 (cstate key nonce f).list).toArray by rw [← HSA.out]; exact T2.out)
  obtain ⟨gT, hgT⟩ : ∃ gT, gT = w1.heap.size := ⟨_, rfl⟩
  have hgT1 : g < gT := by omega
  rw [← hgT] at T2' ⊢
  have HGT := Lib.hid (show w.heap.size ≤ gT by omega)
  clear G1 OG1 B2 T2 hgT hT
  rw [show ∀ (a : Act) (v : Value), a.put none v = a from fun _ _ => rfl]
  go_loopw [0] (fun p wr => ∃ (k q : Nat) (A : Option Addr) (c1 : Nat) (m : Int), q = min (64 * k) l.length ∧ p = .slice A (l.length - q) c1 ∧ l.length - q ≤ c1 ∧ c1 ≤ c ∧ (0 < l.length - q → A = some ⟨g, q, none⟩) ∧ m = (f + k) % 4294967296 ∧ Blk wr g t (IV .u8 (half l E rest q)).toArray ∧ Blk wr gT 91 (IV .u32 (cstate key nonce m).list).toArray ∧ w.grownBy wr (some g)) (fun p _ => match p with | .slice _ n _ => n | _ => 0)
  case atStart =>
    have hf := HF.out
    exact ⟨0, 0, some ⟨g, 0, none⟩, c, f, by omega, rfl, by omega, Nat.le_refl _, fun _ => rfl, by rw [Int.natCast_zero, Int.add_zero]; exact (Int.emod_eq_of_lt hf.1 hf.2).symm, G2.out, T2'.out, OG2.out⟩
  case round =>
    obtain ⟨k, q, A, c1, m, hq, rfl, hc1, hc2, hA, hmm, bG, bT, og⟩ := hrel
    obtain ⟨L1, hL1⟩ : ∃ L1, L1 = l.length - q := ⟨_, rfl⟩
    rw [← hL1] at hA hc1 ⊢
    have BG := Lib.hid bG
    have BT := Lib.hid bT
    have OG := Lib.hid og
    have HQ := Lib.hid hq
    have HMM := Lib.hid hmm
    have HL1 := Lib.hid hL1
    clear bG bT og G2 T2' OG2
    by_cases hpos : 0 < L1
    · obtain rfl := hA hpos
      have hq64 : q = 64 * k := by omega
      have wm : W32 m := by rw [hmm]; exact W32.mod _
      have hzp : (0 : Int) < (L1 : Int) := by omega
      have hL63 : L1 ≤ 9223372036854775807 := by omega
      obtain ⟨KB, hKB⟩ : ∃ KB, KB = kblock (cstate key nonce m) := ⟨_, rfl⟩
      have hKBc : KB = cblock key nonce (f + k) := by rw [hKB, hmm]; rfl
      have hKBl : KB.length = 64 := by rw [hKB]; exact kblock_length _
      obtain ⟨SA2, hSA2⟩ : ∃ SA2, SA2 = (IV .u32 (cstate key nonce m).list).toArray := ⟨_, rfl⟩
      have CK : ∀ W, Calls Tryd.prog 53 #[.agg SA2] W fun e w' => e = .returned (.agg (IV .u8 KB).toArray) ∧ Below W.heap.size W w' := fun W => by rw [hSA2, hKB]; exact cBlock_any (cstate key nonce m) W (COK.out m wm)
      have CKH := Lib.hid CK
      have SSA2 := Lib.hid (show SA2.size = 16 by rw [hSA2]; rfl)
      have HT2 := Lib.hid (show Blk _ gT 91 SA2 by rw [hSA2]; exact BT.out)
      have SKB := Lib.hid (show (IV .u8 KB).toArray.size = 64 by simp [IV, hKBl])
      have AKB := Lib.hid (show (IV .u8 KB).toArray.all (·.oneCell') = true by simp [IV, Value.oneCell'])
      have HKBC := Lib.hid hKBc
      have HKBL := Lib.hid hKBl
      have HQ64 := Lib.hid hq64
      have HWM := Lib.hid wm
      clear CK hSA2 hKB hKBc hKBl hq hmm hL1 hq64 wm hA
      go_wp2_with (refine wpList_load_row rfl 91 (.tmp 8) rfl gT rfl 91 SA2 (0, 0) _ HT2.out Tryd.underlying91 rfl (by rw [SSA2.out]; exact I16.out) ?_)
      refine (CKH.out _).mono ?_
      rintro e w3 ⟨rfl, b3⟩
      have hgw : g < w.heap.size := hgl
      have hs1 := OG.out.size
      have G3 := Lib.hid (BG.out.below b3 BG.out.lt)
      have T3 := Lib.hid (BT.out.below b3 BT.out.lt)
      have OG3 := Lib.hid (only_trans OG.out (only_of_below (row := some g) (b3.mono (Nat.le_refl _)) |> fun h => h))
      clear b3 CKH
      by_cases hbig : L1 ≤ 64
      · have hz1 : (L1 : Int) ≤ 64 := by omega
        go_wp2_with (refine wpList_store_row rfl 93 (.tmp 9) (.tmp 20) rfl w3.heap.size (IV .u8 KB).toArray rfl rfl 93 Z64 (Blk.new w3 _ _) (by rw [SKB.out]; exact I64.out) (by rw [SKB.out, ZS64.out]) AKB.out ?_
                     have K4 := Lib.hid (Blk.row (Blk.new w3 93 Z64) (IV .u8 KB).toArray)
                     have B4 := Lib.hid (below_setRow ((Below.refl w3.heap.size w3).alloc (Nat.le_refl _) (.cells Z64 93)) (Nat.le_refl _) (IV .u8 KB).toArray)
                     generalize (w3.alloc (.cells Z64 93)).setRow w3.heap.size (IV .u8 KB).toArray = w4 at K4 B4 ⊢)
        have G4 := Lib.hid (G3.out.below B4.out G3.out.lt)
        have T4 := Lib.hid (T3.out.below B4.out T3.out.lt)
        have OG4 := Lib.hid (only_trans OG3.out (only_of_below B4.out (some g)))
        obtain ⟨gB, hgB⟩ : ∃ gB, gB = w3.heap.size := ⟨_, rfl⟩
        have hw3 : gT < gB := by have := T3.out.lt; omega
        have hw0 : w.heap.size ≤ gB := by have := HGT.out; omega
        rw [← hgB] at K4 ⊢
        clear G3 T3 OG3 B4 hgB
        go_loopw [25] (fun i wr => ∃ (j : Nat), j ≤ L1 ∧ i = .int .i64 j ∧ Blk wr g t (IV .u8 (half l E rest (q + j))).toArray ∧ Blk wr gT 91 (IV .u32 (cstate key nonce m).list).toArray ∧ Blk wr gB 93 (IV .u8 KB).toArray ∧ w.grownBy wr (some g)) (fun i _ => L1 - (intOf i).toNat)
        case atStart => exact ⟨0, by omega, rfl, G4.out, T4.out, K4.out, OG4.out⟩
        case round =>
          obtain ⟨j, hj, rfl, bG, bT, bK, og⟩ := hrel
          have G5 := Lib.hid bG
          have T5 := Lib.hid bT
          have K5 := Lib.hid bK
          have O5 := Lib.hid og
          clear bG bT bK og G4 T4 OG4 K4
          by_cases hjn : j < L1
          · have hqj : q + j < l.length := by have := HL1.out; omega
            have hj64 : j < 64 := by omega
            obtain ⟨x, gk⟩ : ∃ x, KB[j]? = some x := ⟨_, List.getElem?_eq_getElem (by rw [HKBL.out]; exact hj64)⟩
            obtain ⟨y, hy⟩ : ∃ y, y = l[q + j] := ⟨_, rfl⟩
            have cK : wr.cell? ⟨gB, j, none⟩ = some (.int .u8 x) := K5.out.cell_i gk
            have cG : wr.cell? ⟨g, q + j, none⟩ = some (.int .u8 y) := by rw [hy]; exact G5.out.cell_i (half_at HEL.out hqj)
            have fG := G5.out.frozen (q + j)
            have hsx : ST[q + j]? = some x := by
              rw [HST.out, HQ64.out, stream_at_block key nonce f l.length k j hj64 (by rw [← HQ64.out]; exact hqj), ← HKBC.out]
              exact gk
            have heq : E[q + j]? = some (bits .xor .u8 y x) := by rw [HE.out, hy]; exact xorb_at hqj hsx
            have hset := half_set (rest := rest) HEL.out hqj heq
            have hst := G5.out.store_i (q + j) (bits .xor .u8 y x)
            rw [hset] at hst
            have HSTO := Lib.hid hst
            have j1 : (0 : Int) ≤ (j : Int) := by omega
            have j2 : (j : Int) < (L1 : Int) := by omega
            have j3 : (j : Int) < 64 := by omega
            have j5 : (j : Int) < (L1 : Int) := by omega
            have j6 : j < L1 := by omega
            clear gk hy hsx heq hset hst
            go_wp2_with fail
            go_still_tail 9, (by kernel_rfl)
            go_wp2_with fail
            go_roundw
            case rel => exact ⟨j + 1, by omega, by go_num, HSTO.out, T5.out.far (p := ⟨g, q + j, none⟩) (by simp; omega) _, K5.out.far (p := ⟨g, q + j, none⟩) (by simp; omega) _, only_setCell (only_drewN O5.out 1) (p := ⟨g, q + j, none⟩) (.inl rfl) _⟩
            case measure => simp [intOf]; omega
          · have hjN : j = L1 := by omega
            have HJN := Lib.hid hjN
            obtain ⟨A9, v1, v2⟩ := slice_adv g q L1 c1 L1 .i64 (by omega) hc1
            have V2 := Lib.hid v2
            have c12 : wr.cell? ⟨gT, 12, none⟩ = some (.int .u32 m) := T5.out.cell_i (cstate_at12 _ _ _)
            have f12 := T5.out.frozen 12
            obtain ⟨m2, hm2⟩ : ∃ m2, m2 = (m + 1) % 4294967296 := ⟨_, rfl⟩
            have em : (m + 1) % 4294967296 = m2 := hm2.symm
            have hst := T5.out.store_i 12 m2
            rw [hm2, cstate_next, ← hm2] at hst
            have HSTO := Lib.hid hst
            have HM2 := Lib.hid hm2
            have hnl : ¬ ((j : Int) < (L1 : Int)) := by omega
            have hwm := HWM.out
            obtain ⟨m0, m1⟩ := hwm
            have hq' : q + j = min (64 * (k + 1)) l.length := by have := HL1.out; have := HQ64.out; omega
            have HQ' := Lib.hid hq'
            clear v2 hst hm2 hjN hq'
            go_wp2_with fail
            refine ⟨⟨k + 1, q + j, A9, c1 - L1, m2, HQ'.out, ?_, ?_, ?_, ?_, ?_, ?_, ?_, ?_⟩, ?_⟩
            · congr 1; have := HL1.out; have := HJN.out; omega
            · have := HL1.out; have := HJN.out; omega
            · omega
            · intro h
              rw [V2.out (by have := HL1.out; have := HJN.out; omega), HJN.out]
            · rw [HM2.out, HMM.out]; have := HWM.out; rw [Int.natCast_add]; omega
            · exact G5.out.far (p := ⟨gT, 12, none⟩) (by simp; omega) _
            · exact HSTO.out
            · exact only_setCell O5.out (p := ⟨gT, 12, none⟩) (.inr HGT.out) _
            · first
                | (show L1 - L1 < L1; omega)
                | (show 0 < L1; omega)
      · have hz1 : ¬ (L1 : Int) ≤ 64 := by omega
        have hz2 : (64 : Int) < (L1 : Int) := by omega
        go_wp2_with (refine wpList_store_row rfl 93 (.tmp 9) (.tmp 20) rfl w3.heap.size (IV .u8 KB).toArray rfl rfl 93 Z64 (Blk.new w3 _ _) (by rw [SKB.out]; exact I64.out) (by rw [SKB.out, ZS64.out]) AKB.out ?_
                     have K4 := Lib.hid (Blk.row (Blk.new w3 93 Z64) (IV .u8 KB).toArray)
                     have B4 := Lib.hid (below_setRow ((Below.refl w3.heap.size w3).alloc (Nat.le_refl _) (.cells Z64 93)) (Nat.le_refl _) (IV .u8 KB).toArray)
                     generalize (w3.alloc (.cells Z64 93)).setRow w3.heap.size (IV .u8 KB).toArray = w4 at K4 B4 ⊢)
        have G4 := Lib.hid (G3.out.below B4.out G3.out.lt)
        have T4 := Lib.hid (T3.out.below B4.out T3.out.lt)
        have OG4 := Lib.hid (only_trans OG3.out (only_of_below B4.out (some g)))
        obtain ⟨gB, hgB⟩ : ∃ gB, gB = w3.heap.size := ⟨_, rfl⟩
        have hw3 : gT < gB := by have := T3.out.lt; omega
        have hw0 : w.heap.size ≤ gB := by have := HGT.out; omega
        rw [← hgB] at K4 ⊢
        clear G3 T3 OG3 B4 hgB
        go_loopw [25] (fun i wr => ∃ (j : Nat), j ≤ 64 ∧ i = .int .i64 j ∧ Blk wr g t (IV .u8 (half l E rest (q + j))).toArray ∧ Blk wr gT 91 (IV .u32 (cstate key nonce m).list).toArray ∧ Blk wr gB 93 (IV .u8 KB).toArray ∧ w.grownBy wr (some g)) (fun i _ => 64 - (intOf i).toNat)
        case atStart => exact ⟨0, by omega, rfl, G4.out, T4.out, K4.out, OG4.out⟩
        case round =>
          obtain ⟨j, hj, rfl, bG, bT, bK, og⟩ := hrel
          have G5 := Lib.hid bG
          have T5 := Lib.hid bT
          have K5 := Lib.hid bK
          have O5 := Lib.hid og
          clear bG bT bK og G4 T4 OG4 K4
          by_cases hjn : j < 64
          · have hqj : q + j < l.length := by have := HL1.out; omega
            have hj64 : j < 64 := by omega
            obtain ⟨x, gk⟩ : ∃ x, KB[j]? = some x := ⟨_, List.getElem?_eq_getElem (by rw [HKBL.out]; exact hj64)⟩
            obtain ⟨y, hy⟩ : ∃ y, y = l[q + j] := ⟨_, rfl⟩
            have cK : wr.cell? ⟨gB, j, none⟩ = some (.int .u8 x) := K5.out.cell_i gk
            have cG : wr.cell? ⟨g, q + j, none⟩ = some (.int .u8 y) := by rw [hy]; exact G5.out.cell_i (half_at HEL.out hqj)
            have fG := G5.out.frozen (q + j)
            have hsx : ST[q + j]? = some x := by
              rw [HST.out, HQ64.out, stream_at_block key nonce f l.length k j hj64 (by rw [← HQ64.out]; exact hqj), ← HKBC.out]
              exact gk
            have heq : E[q + j]? = some (bits .xor .u8 y x) := by rw [HE.out, hy]; exact xorb_at hqj hsx
            have hset := half_set (rest := rest) HEL.out hqj heq
            have hst := G5.out.store_i (q + j) (bits .xor .u8 y x)
            rw [hset] at hst
            have HSTO := Lib.hid hst
            have j1 : (0 : Int) ≤ (j : Int) := by omega
            have j3 : (j : Int) < 64 := by omega
            have j5 : (j : Int) < (L1 : Int) := by omega
            have j6 : j < L1 := by omega
            clear gk hy hsx heq hset hst
            go_wp2_with fail
            go_still_tail 9, (by kernel_rfl)
            go_wp2_with fail
            go_roundw
            case rel => exact ⟨j + 1, by omega, by go_num, HSTO.out, T5.out.far (p := ⟨g, q + j, none⟩) (by simp; omega) _, K5.out.far (p := ⟨g, q + j, none⟩) (by simp; omega) _, only_setCell (only_drewN O5.out 1) (p := ⟨g, q + j, none⟩) (.inl rfl) _⟩
            case measure => simp [intOf]; omega
          · have hjN : j = 64 := by omega
            have HJN := Lib.hid hjN
            have c12 : wr.cell? ⟨gT, 12, none⟩ = some (.int .u32 m) := T5.out.cell_i (cstate_at12 _ _ _)
            have f12 := T5.out.frozen 12
            obtain ⟨m2, hm2⟩ : ∃ m2, m2 = (m + 1) % 4294967296 := ⟨_, rfl⟩
            have em : (m + 1) % 4294967296 = m2 := hm2.symm
            have hst := T5.out.store_i 12 m2
            rw [hm2, cstate_next, ← hm2] at hst
            have HSTO := Lib.hid hst
            have HM2 := Lib.hid hm2
            have hnl : ¬ ((j : Int) < 64) := by omega
            have hwm := HWM.out
            obtain ⟨m0, m1⟩ := hwm
            have hq' : q + j = min (64 * (k + 1)) l.length := by have := HL1.out; have := HQ64.out; omega
            have HQ' := Lib.hid hq'
            clear hst hm2 hjN hq'
            go_wp2_with fail
            refine ⟨⟨k + 1, q + j, some ⟨g, q + 64, none⟩, c1 - 64, m2, HQ'.out, ?_, ?_, ?_, ?_, ?_, ?_, ?_, ?_⟩, ?_⟩
            · rw [show l.length - (q + j) = L1 - 64 by have h1 := HL1.out; have h2 := HJN.out; omega]
            · have := HL1.out; have := HJN.out; omega
            · omega
            · intro h
              rw [HJN.out]
            · rw [HM2.out, HMM.out]; have := HWM.out; rw [Int.natCast_add]; omega
            · exact G5.out.far (p := ⟨gT, 12, none⟩) (by simp; omega) _
            · exact HSTO.out
            · exact only_setCell O5.out (p := ⟨gT, 12, none⟩) (.inr HGT.out) _
            · first
                | (show L1 - 64 < L1; omega)
                | (show 0 < L1; omega)
    · obtain rfl : L1 = 0 := by omega
      have hfin := BG.out
      rw [half_all HEL.out rest (by have := HL1.out; have := HQ.out; omega)] at hfin
      have HFIN := Lib.hid hfin
      clear hfin
      go_wp2_with fail
      exact bodyPost_end (v := .tuple #[]) (results_none (by rfl) _ _ _) (by rfl) ⟨rfl, HFIN.out, OG.out⟩
end Go.Proofs.YtjibbegdieiknaaDoor
