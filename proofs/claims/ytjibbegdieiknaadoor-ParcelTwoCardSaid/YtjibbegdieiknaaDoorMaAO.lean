/-
  Joined texts.
-/
import Derived.Test.YtjibbegdieiknaaDoorMaAB
import Derived.Laws.CopyOwn
namespace Go.Proofs.YtjibbegdieiknaaDoor
set_option maxRecDepth 100000
open Go.RowKit
set_option linter.unusedVariables false

set_option maxHeartbeats 400000 in
/-- The tables lie where the program's variables are. -/
def STab (w : World) : Prop := 0 < w.heap.size ∧ ∀ i x, shaH[i]? = some x → w.cell? ⟨0, i, none⟩ = some (.int .u32 x)
def KTab (w : World) : Prop := 3 < w.heap.size ∧ ∀ i x, shaK[i]? = some x → w.cell? ⟨3, i, none⟩ = some (.int .u32 x)
theorem STab.below {w w' : World} (h : STab w) (hb : Below w.heap.size w w') : STab w' := ⟨Nat.lt_of_lt_of_le h.1 hb.size, fun i x hx => (hb.cell (p := ⟨_, i, none⟩) h.1).trans (h.2 i x hx)⟩
theorem KTab.below {w w' : World} (h : KTab w) (hb : Below w.heap.size w w') : KTab w' := ⟨Nat.lt_of_lt_of_le h.1 hb.size, fun i x hx => (hb.cell (p := ⟨_, i, none⟩) h.1).trans (h.2 i x hx)⟩

set_option maxRecDepth 100000 in
set_option maxHeartbeats 1600000 in
theorem compress_any (s0 : St) (ws : List Int) (w : World) (hws : ws.length = 64) (hok : s0.ok) (hwk : ∀ x ∈ ws, W32 x) (hK : KTab w) :
    Calls Tryd.prog 96 #[.agg (IV .u32 s0.list).toArray, .agg (IV .u32 ws).toArray] w fun e w' => e = .returned (.agg (IV .u32 (compr s0 ws).list).toArray) ∧ Below w.heap.size w w' := by
  go_enter Tryd.func96, Tryd.ntmps96
  go_wp2_with fail
  have h0 : Blk (((w.alloc (.cells (IV .u32 s0.list).toArray 132)).alloc (.cells (IV .u32 ws).toArray 148)).alloc (.cells (IV .u32 [0, 0, 0, 0, 0, 0, 0, 0]).toArray 132)) w.heap.size 132 (IV .u32 s0.list).toArray := ((Blk.new _ _ _).alloc _).alloc _
  have h1 : Blk (((w.alloc (.cells (IV .u32 s0.list).toArray 132)).alloc (.cells (IV .u32 ws).toArray 148)).alloc (.cells (IV .u32 [0, 0, 0, 0, 0, 0, 0, 0]).toArray 132)) (w.heap.size + 1) 148 (IV .u32 ws).toArray := by
    have := (Blk.new (w.alloc (.cells (IV .u32 s0.list).toArray 132)) 148 (IV .u32 ws).toArray).alloc (.cells (IV .u32 [0, 0, 0, 0, 0, 0, 0, 0]).toArray 132)
    simpa using this
  have h2 : Blk (((w.alloc (.cells (IV .u32 s0.list).toArray 132)).alloc (.cells (IV .u32 ws).toArray 148)).alloc (.cells (IV .u32 [0, 0, 0, 0, 0, 0, 0, 0]).toArray 132)) (w.heap.size + 1 + 1) 132 (IV .u32 [0, 0, 0, 0, 0, 0, 0, 0]).toArray := by
    have := Blk.new ((w.alloc (.cells (IV .u32 s0.list).toArray 132)).alloc (.cells (IV .u32 ws).toArray 148)) 132 (IV .u32 [0, 0, 0, 0, 0, 0, 0, 0]).toArray
    simpa using this
  have hb : Below w.heap.size w (((w.alloc (.cells (IV .u32 s0.list).toArray 132)).alloc (.cells (IV .u32 ws).toArray 148)).alloc (.cells (IV .u32 [0, 0, 0, 0, 0, 0, 0, 0]).toArray 132)) :=
    (((Below.refl _ _).alloc (Nat.le_refl _) _).alloc (by simp) _).alloc (by simp; omega) _
  show Code.wp _ _ _ _ (((w.alloc (.cells (IV .u32 s0.list).toArray 132)).alloc (.cells (IV .u32 ws).toArray 148)).alloc (.cells (IV .u32 [0, 0, 0, 0, 0, 0, 0, 0]).toArray 132))
  generalize (((w.alloc (.cells (IV .u32 s0.list).toArray 132)).alloc (.cells (IV .u32 ws).toArray 148)).alloc (.cells (IV .u32 [0, 0, 0, 0, 0, 0, 0, 0]).toArray 132)) = W at h0 h1 h2 hb ⊢
  have c0 := h0.cell_i (i := 0) (x := s0.a) rfl
  have c1 := h0.cell_i (i := 1) (x := s0.b) rfl
  have c2 := h0.cell_i (i := 2) (x := s0.c) rfl
  have c3 := h0.cell_i (i := 3) (x := s0.d) rfl
  have c4 := h0.cell_i (i := 4) (x := s0.e) rfl
  have c5 := h0.cell_i (i := 5) (x := s0.f) rfl
  have c6 := h0.cell_i (i := 6) (x := s0.g) rfl
  have c7 := h0.cell_i (i := 7) (x := s0.h) rfl
  have HB0 := Lib.hid h0
  have HB1 := Lib.hid h1
  have HB2 := Lib.hid h2
  have HBL := Lib.hid hb
  have HKT := Lib.hid hK
  have HWS := Lib.hid hws
  have HWK := Lib.hid hwk
  have HOK := Lib.hid hok
  clear h0 h1 h2 hb hK hws hwk hok
  go_quiet (fail)
  go_wp2_with fail
  go_quiet (fail)
  clear c0 c1 c2 c3 c4 c5 c6 c7
  go_wp2_with fail
  go_loopw [5, 6, 7, 8, 9, 10, 11, 12, 37] (fun v5 v6 v7 v8 v9 v10 v11 v12 i wr => ∃ (j : Nat) (sa sb sc sd se sf sg sh : Int), j ≤ 64 ∧ i = .int .i64 j ∧ (⟨sa, sb, sc, sd, se, sf, sg, sh⟩ : St) = rnd s0 ws j ∧ St.ok ⟨sa, sb, sc, sd, se, sf, sg, sh⟩ ∧
      v5 = .int .u32 sa ∧ v6 = .int .u32 sb ∧ v7 = .int .u32 sc ∧ v8 = .int .u32 sd ∧ v9 = .int .u32 se ∧ v10 = .int .u32 sf ∧ v11 = .int .u32 sg ∧ v12 = .int .u32 sh ∧ ∃ n, wr = W.drewN n) (fun _ _ _ _ _ _ _ _ i _ => 64 - (intOf i).toNat)
  case atStart => exact ⟨0, s0.a, s0.b, s0.c, s0.d, s0.e, s0.f, s0.g, s0.h, by omega, rfl, rfl, HOK.out, rfl, rfl, rfl, rfl, rfl, rfl, rfl, rfl, ⟨_, by rw [World.drewN_drewN]⟩⟩
  case round =>
    obtain ⟨j, sa, sb, sc, sd, se, sf, sg, sh, hj, rfl, hs, hok, rfl, rfl, rfl, rfl, rfl, rfl, rfl, rfl, n0, rfl⟩ := hrel
    have HS := Lib.hid hs
    have HO := Lib.hid hok
    obtain ⟨⟨a0, a1⟩, ⟨b0, b1⟩, ⟨c0, c1⟩, ⟨d0, d1⟩, ⟨e0, e1⟩, ⟨f0, f1⟩, ⟨g0, g1⟩, ⟨h0, h1⟩⟩ : (0 ≤ sa ∧ sa < 4294967296) ∧ (0 ≤ sb ∧ sb < 4294967296) ∧ (0 ≤ sc ∧ sc < 4294967296) ∧ (0 ≤ sd ∧ sd < 4294967296) ∧ (0 ≤ se ∧ se < 4294967296) ∧ (0 ≤ sf ∧ sf < 4294967296) ∧ (0 ≤ sg ∧ sg < 4294967296) ∧ (0 ≤ sh ∧ sh < 4294967296) := hok
    clear hs
    by_cases hj64 : j < 64
    · obtain ⟨k, hk⟩ : ∃ k, shaK[j]? = some k := ⟨shaK[j]'(by simpa [shaK] using hj64), List.getElem?_eq_getElem _⟩
      obtain ⟨x, hx⟩ : ∃ x, ws[j]? = some x := ⟨ws[j]'(by rw [HWS.out]; exact hj64), List.getElem?_eq_getElem _⟩
      have ck : W.cell? ⟨3, j, none⟩ = some (.int .u32 k) := (HKT.out.below HBL.out).2 j k hk
      have cx : W.cell? ⟨w.heap.size + 1, j, none⟩ = some (.int .u32 x) := HB1.out.cell_i hx
      have HKX := Lib.hid (And.intro hk hx)
      clear hk hx
      go_wp2_with (go_at_call 86; go_must (refine (rot_any _ _ _ (by assumption) (by assumption)).mono ?_); rintro e w' ⟨rfl, rfl⟩)
      have hj0 : (0 : Int) ≤ (j : Int) := by omega
      have hj1 : (j : Int) < 64 := by omega
      go_quiet (fail)
      go_wp2
      go_roundw
      case rel =>
        have hst := HS.out
        have ho := HO.out
        have hnx : rnd s0 ws (j + 1) = stepR ⟨sa, sb, sc, sd, se, sf, sg, sh⟩ k x := by
          rw [rnd, ← hst, List.getD, List.getD, HKX.out.1, HKX.out.2]; rfl
        have q1 : bits .xor .u32 (bits .xor .u32 (rotl se (rotS (-6))) (rotl se (rotS (-11)))) (rotl se (rotS (-25))) = wS1 se := by
          rw [show rotS (-6) = 26 by kernel_rfl, show rotS (-11) = 21 by kernel_rfl, show rotS (-25) = 7 by kernel_rfl, rotl_rotr (t := 6) ho.2.2.2.2.1 rfl rfl, rotl_rotr (t := 11) ho.2.2.2.2.1 rfl rfl, rotl_rotr (t := 25) ho.2.2.2.2.1 rfl rfl]; rfl
        have q2 : bits .xor .u32 (bits .xor .u32 (rotl sa (rotS (-2))) (rotl sa (rotS (-13)))) (rotl sa (rotS (-22))) = wS0 sa := by
          rw [show rotS (-2) = 30 by kernel_rfl, show rotS (-13) = 19 by kernel_rfl, show rotS (-22) = 10 by kernel_rfl, rotl_rotr (t := 2) ho.1 rfl rfl, rotl_rotr (t := 13) ho.1 rfl rfl, rotl_rotr (t := 22) ho.1 rfl rfl]; rfl
        have q3 := pch_is ho.2.2.2.2.1 ho.2.2.2.2.2.1 ho.2.2.2.2.2.2.1
        have q4 := pmaj_is ho.1 ho.2.1 ho.2.2.1
        simp only at q3 q4
        rw [q1, q2, q3, q4]
        refine ⟨j + 1, (sh + wS1 se + wch se sf sg + k + x + wS0 sa + wmaj sa sb sc) % 4294967296, sa, sb, sc, (sd + (sh + wS1 se + wch se sf sg + k + x)) % 4294967296, se, sf, sg, by omega, by go_num, by rw [hnx]; rfl, stepR_ok ho k x, ?_, rfl, rfl, rfl, ?_, rfl, rfl, rfl, ⟨_, rfl⟩⟩
        · rw [Int.emod_add_emod]
        · rw [Int.add_emod_emod]
      case measure => simp [intOf]; omega
    · obtain rfl : j = 64 := by omega
      have ix0 : ∀ w, (Instr.index 132 (.agg #[.int .u32 sa, .int .u32 sb, .int .u32 sc, .int .u32 sd, .int .u32 se, .int .u32 sf, .int .u32 sg, .int .u32 sh]) (.int .i64 0)).run Tryd.prog w = .ok (.int .u32 sa) w := fun _ => by kernel_rfl
      have ix1 : ∀ w, (Instr.index 132 (.agg #[.int .u32 sa, .int .u32 sb, .int .u32 sc, .int .u32 sd, .int .u32 se, .int .u32 sf, .int .u32 sg, .int .u32 sh]) (.int .i64 1)).run Tryd.prog w = .ok (.int .u32 sb) w := fun _ => by kernel_rfl
      have ix2 : ∀ w, (Instr.index 132 (.agg #[.int .u32 sa, .int .u32 sb, .int .u32 sc, .int .u32 sd, .int .u32 se, .int .u32 sf, .int .u32 sg, .int .u32 sh]) (.int .i64 2)).run Tryd.prog w = .ok (.int .u32 sc) w := fun _ => by kernel_rfl
      have ix3 : ∀ w, (Instr.index 132 (.agg #[.int .u32 sa, .int .u32 sb, .int .u32 sc, .int .u32 sd, .int .u32 se, .int .u32 sf, .int .u32 sg, .int .u32 sh]) (.int .i64 3)).run Tryd.prog w = .ok (.int .u32 sd) w := fun _ => by kernel_rfl
      have ix4 : ∀ w, (Instr.index 132 (.agg #[.int .u32 sa, .int .u32 sb, .int .u32 sc, .int .u32 sd, .int .u32 se, .int .u32 sf, .int .u32 sg, .int .u32 sh]) (.int .i64 4)).run Tryd.prog w = .ok (.int .u32 se) w := fun _ => by kernel_rfl
      have ix5 : ∀ w, (Instr.index 132 (.agg #[.int .u32 sa, .int .u32 sb, .int .u32 sc, .int .u32 sd, .int .u32 se, .int .u32 sf, .int .u32 sg, .int .u32 sh]) (.int .i64 5)).run Tryd.prog w = .ok (.int .u32 sf) w := fun _ => by kernel_rfl
      have ix6 : ∀ w, (Instr.index 132 (.agg #[.int .u32 sa, .int .u32 sb, .int .u32 sc, .int .u32 sd, .int .u32 se, .int .u32 sf, .int .u32 sg, .int .u32 sh]) (.int .i64 6)).run Tryd.prog w = .ok (.int .u32 sg) w := fun _ => by kernel_rfl
      have ix7 : ∀ w, (Instr.index 132 (.agg #[.int .u32 sa, .int .u32 sb, .int .u32 sc, .int .u32 sd, .int .u32 se, .int .u32 sf, .int .u32 sg, .int .u32 sh]) (.int .i64 7)).run Tryd.prog w = .ok (.int .u32 sh) w := fun _ => by kernel_rfl
      have X0 := Lib.hid HOK.out
      go_wp2_with fail
      rename World => W1
      go_loopw [112] (fun i wr => ∃ (m : Nat) , m ≤ 8 ∧ i = .int .i64 m ∧ Blk wr w.heap.size 132 (IV .u32 (((s0.add ⟨sa, sb, sc, sd, se, sf, sg, sh⟩).list.take m) ++ s0.list.drop m)).toArray ∧ Blk wr (w.heap.size + 1 + 1) 132 (IV .u32 [0, 0, 0, 0, 0, 0, 0, 0]).toArray ∧ Below w.heap.size w wr) (fun i _ => 8 - (intOf i).toNat)
      case atStart => exact ⟨0, by omega, rfl, HB0.out, HB2.out, ⟨HBL.out.os, HBL.out.tape, HBL.out.output, HBL.out.size, HBL.out.block⟩⟩
      case round =>
        obtain ⟨m, hm, rfl, hblk, hblk2, bel⟩ := hrel
        have HBK2 := Lib.hid hblk2
        have HBEL := Lib.hid bel
        have HBK := Lib.hid hblk
        clear hblk2 bel hblk
        rcases (show m = 0 ∨ m = 1 ∨ m = 2 ∨ m = 3 ∨ m = 4 ∨ m = 5 ∨ m = 6 ∨ m = 7 ∨ m = 8 by omega) with rfl | rfl | rfl | rfl | rfl | rfl | rfl | rfl | rfl
        · have hc := HBK.out.cell_i (i := 0) (x := s0.a) rfl
          have hf := HBK.out.frozen 0
          go_wp2
          go_roundw
          case rel => exact ⟨1, by omega, rfl, HBK.out.store_i 0 _, HBK2.out.far (p := ⟨w.heap.size, 0, none⟩) (by show w.heap.size + 1 + 1 ≠ w.heap.size; omega) _, HBEL.out.setCell (Nat.le_refl _) _⟩
          case measure => simp [intOf]
        · have hc := HBK.out.cell_i (i := 1) (x := s0.b) rfl
          have hf := HBK.out.frozen 1
          go_wp2
          go_roundw
          case rel => exact ⟨2, by omega, rfl, HBK.out.store_i 1 _, HBK2.out.far (p := ⟨w.heap.size, 1, none⟩) (by show w.heap.size + 1 + 1 ≠ w.heap.size; omega) _, HBEL.out.setCell (Nat.le_refl _) _⟩
          case measure => simp [intOf]
        · have hc := HBK.out.cell_i (i := 2) (x := s0.c) rfl
          have hf := HBK.out.frozen 2
          go_wp2
          go_roundw
          case rel => exact ⟨3, by omega, rfl, HBK.out.store_i 2 _, HBK2.out.far (p := ⟨w.heap.size, 2, none⟩) (by show w.heap.size + 1 + 1 ≠ w.heap.size; omega) _, HBEL.out.setCell (Nat.le_refl _) _⟩
          case measure => simp [intOf]
        · have hc := HBK.out.cell_i (i := 3) (x := s0.d) rfl
          have hf := HBK.out.frozen 3
          go_wp2
          go_roundw
          case rel => exact ⟨4, by omega, rfl, HBK.out.store_i 3 _, HBK2.out.far (p := ⟨w.heap.size, 3, none⟩) (by show w.heap.size + 1 + 1 ≠ w.heap.size; omega) _, HBEL.out.setCell (Nat.le_refl _) _⟩
          case measure => simp [intOf]
        · have hc := HBK.out.cell_i (i := 4) (x := s0.e) rfl
          have hf := HBK.out.frozen 4
          go_wp2
          go_roundw
          case rel => exact ⟨5, by omega, rfl, HBK.out.store_i 4 _, HBK2.out.far (p := ⟨w.heap.size, 4, none⟩) (by show w.heap.size + 1 + 1 ≠ w.heap.size; omega) _, HBEL.out.setCell (Nat.le_refl _) _⟩
          case measure => simp [intOf]
        · have hc := HBK.out.cell_i (i := 5) (x := s0.f) rfl
          have hf := HBK.out.frozen 5
          go_wp2
          go_roundw
          case rel => exact ⟨6, by omega, rfl, HBK.out.store_i 5 _, HBK2.out.far (p := ⟨w.heap.size, 5, none⟩) (by show w.heap.size + 1 + 1 ≠ w.heap.size; omega) _, HBEL.out.setCell (Nat.le_refl _) _⟩
          case measure => simp [intOf]
        · have hc := HBK.out.cell_i (i := 6) (x := s0.g) rfl
          have hf := HBK.out.frozen 6
          go_wp2
          go_roundw
          case rel => exact ⟨7, by omega, rfl, HBK.out.store_i 6 _, HBK2.out.far (p := ⟨w.heap.size, 6, none⟩) (by show w.heap.size + 1 + 1 ≠ w.heap.size; omega) _, HBEL.out.setCell (Nat.le_refl _) _⟩
          case measure => simp [intOf]
        · have hc := HBK.out.cell_i (i := 7) (x := s0.h) rfl
          have hf := HBK.out.frozen 7
          go_wp2
          go_roundw
          case rel => exact ⟨8, by omega, rfl, HBK.out.store_i 7 _, HBK2.out.far (p := ⟨w.heap.size, 7, none⟩) (by show w.heap.size + 1 + 1 ≠ w.heap.size; omega) _, HBEL.out.setCell (Nat.le_refl _) _⟩
          case measure => simp [intOf]
        · have hfin : (s0.add ⟨sa, sb, sc, sd, se, sf, sg, sh⟩).list.take 8 ++ s0.list.drop 8 = (s0.add ⟨sa, sb, sc, sd, se, sf, sg, sh⟩).list := rfl
          have hc0 := HBK.out.cell_i (i := 0) (x := (s0.a + sa) % 4294967296) rfl
          have hd0 := HBK2.out.cell_i (i := 0) (x := 0) rfl
          have hf0 := HBK2.out.frozen 0
          have hc1 := HBK.out.cell_i (i := 1) (x := (s0.b + sb) % 4294967296) rfl
          have hd1 := HBK2.out.cell_i (i := 1) (x := 0) rfl
          have hf1 := HBK2.out.frozen 1
          have hc2 := HBK.out.cell_i (i := 2) (x := (s0.c + sc) % 4294967296) rfl
          have hd2 := HBK2.out.cell_i (i := 2) (x := 0) rfl
          have hf2 := HBK2.out.frozen 2
          have hc3 := HBK.out.cell_i (i := 3) (x := (s0.d + sd) % 4294967296) rfl
          have hd3 := HBK2.out.cell_i (i := 3) (x := 0) rfl
          have hf3 := HBK2.out.frozen 3
          have hc4 := HBK.out.cell_i (i := 4) (x := (s0.e + se) % 4294967296) rfl
          have hd4 := HBK2.out.cell_i (i := 4) (x := 0) rfl
          have hf4 := HBK2.out.frozen 4
          have hc5 := HBK.out.cell_i (i := 5) (x := (s0.f + sf) % 4294967296) rfl
          have hd5 := HBK2.out.cell_i (i := 5) (x := 0) rfl
          have hf5 := HBK2.out.frozen 5
          have hc6 := HBK.out.cell_i (i := 6) (x := (s0.g + sg) % 4294967296) rfl
          have hd6 := HBK2.out.cell_i (i := 6) (x := 0) rfl
          have hf6 := HBK2.out.frozen 6
          have hc7 := HBK.out.cell_i (i := 7) (x := (s0.h + sh) % 4294967296) rfl
          have hd7 := HBK2.out.cell_i (i := 7) (x := 0) rfl
          have hf7 := HBK2.out.frozen 7
          have hfb := ((((((((HBK2.out.store_i 0 ((s0.a + sa) % 4294967296)).store_i 1 ((s0.b + sb) % 4294967296)).store_i 2 ((s0.c + sc) % 4294967296)).store_i 3 ((s0.d + sd) % 4294967296)).store_i 4 ((s0.e + se) % 4294967296)).store_i 5 ((s0.f + sf) % 4294967296)).store_i 6 ((s0.g + sg) % 4294967296)).store_i 7 ((s0.h + sh) % 4294967296))
          have hfl := ((((((((HBEL.out.setCell (p := ⟨w.heap.size + 1 + 1, 0, none⟩) (by show w.heap.size ≤ w.heap.size + 1 + 1; omega) (.int .u32 ((s0.a + sa) % 4294967296))).setCell (p := ⟨w.heap.size + 1 + 1, 1, none⟩) (by show w.heap.size ≤ w.heap.size + 1 + 1; omega) (.int .u32 ((s0.b + sb) % 4294967296))).setCell (p := ⟨w.heap.size + 1 + 1, 2, none⟩) (by show w.heap.size ≤ w.heap.size + 1 + 1; omega) (.int .u32 ((s0.c + sc) % 4294967296))).setCell (p := ⟨w.heap.size + 1 + 1, 3, none⟩) (by show w.heap.size ≤ w.heap.size + 1 + 1; omega) (.int .u32 ((s0.d + sd) % 4294967296))).setCell (p := ⟨w.heap.size + 1 + 1, 4, none⟩) (by show w.heap.size ≤ w.heap.size + 1 + 1; omega) (.int .u32 ((s0.e + se) % 4294967296))).setCell (p := ⟨w.heap.size + 1 + 1, 5, none⟩) (by show w.heap.size ≤ w.heap.size + 1 + 1; omega) (.int .u32 ((s0.f + sf) % 4294967296))).setCell (p := ⟨w.heap.size + 1 + 1, 6, none⟩) (by show w.heap.size ≤ w.heap.size + 1 + 1; omega) (.int .u32 ((s0.g + sg) % 4294967296))).setCell (p := ⟨w.heap.size + 1 + 1, 7, none⟩) (by show w.heap.size ≤ w.heap.size + 1 + 1; omega) (.int .u32 ((s0.h + sh) % 4294967296)))
          have hcom : compr s0 ws = s0.add ⟨sa, sb, sc, sd, se, sf, sg, sh⟩ := by rw [compr, ← HS.out]
          go_wp2
          generalize hW : ((((((((wr.setCell _ _).setCell _ _).setCell _ _).setCell _ _).setCell _ _).setCell _ _).setCell _ _).setCell _ _) = Wf at hfb hfl ⊢
          clear hW
          have hr0 := hfb.cell_i (i := 0) (x := (s0.a + sa) % 4294967296) rfl
          have hr1 := hfb.cell_i (i := 1) (x := (s0.b + sb) % 4294967296) rfl
          have hr2 := hfb.cell_i (i := 2) (x := (s0.c + sc) % 4294967296) rfl
          have hr3 := hfb.cell_i (i := 3) (x := (s0.d + sd) % 4294967296) rfl
          have hr4 := hfb.cell_i (i := 4) (x := (s0.e + se) % 4294967296) rfl
          have hr5 := hfb.cell_i (i := 5) (x := (s0.f + sf) % 4294967296) rfl
          have hr6 := hfb.cell_i (i := 6) (x := (s0.g + sg) % 4294967296) rfl
          have hr7 := hfb.cell_i (i := 7) (x := (s0.h + sh) % 4294967296) rfl
          rw [hcom]
          refine bodyPost_ret (v := .agg (IV .u32 (s0.add ⟨sa, sb, sc, sd, se, sf, sg, sh⟩).list).toArray) ?_ rfl ⟨rfl, hfl⟩
          simp [results, Tryd.results96, go_sem, hr0, hr1, hr2, hr3, hr4, hr5, hr6, hr7]
          rfl
end Go.Proofs.YtjibbegdieiknaaDoor

namespace Go.Proofs.YtjibbegdieiknaaDoor
set_option maxRecDepth 100000
open Go.RowKit
set_option linter.unusedVariables false

/-- The digest under way, as its block holds it. -/
def Dg (w : World) (g : Nat) (st blk : List Int) (held total : Int) : Prop :=
  Blk w g 134 (IV .u32 st ++ IV .u8 blk ++ [Value.int .i64 held, Value.int .u64 total]).toArray ∧ st.length = 8 ∧ blk.length = 64
section
variable {w w' : World} {g : Nat} {st blk : List Int} {held total : Int}
theorem Dg.below {B : Nat} (h : Dg w g st blk held total) (hb : Below B w w') (hg : g < B) : Dg w' g st blk held total := ⟨h.1.below hb hg, h.2⟩
theorem Dg.atSt (h : Dg w g st blk held total) {i : Nat} {x : Int} (hx : st[i]? = some x) : w.cell? ⟨g, i, none⟩ = some (.int .u32 x) := by
  have hi : i < st.length := by
    rcases Nat.lt_or_ge i st.length with h | h
    · exact h
    · rw [List.getElem?_eq_none h] at hx; cases hx
  rw [h.1.cell, List.getElem?_toArray, List.append_assoc, List.getElem?_append_left (by rw [IV_length]; exact hi)]
  simp [IV, hx]
theorem Dg.atBlk (h : Dg w g st blk held total) {i : Nat} {x : Int} (hx : blk[i]? = some x) : w.cell? ⟨g, 8 + i, none⟩ = some (.int .u8 x) := by
  have hi : i < blk.length := by
    rcases Nat.lt_or_ge i blk.length with h | h
    · exact h
    · rw [List.getElem?_eq_none h] at hx; cases hx
  rw [h.1.cell, List.getElem?_toArray, List.append_assoc, List.getElem?_append_right (by rw [IV_length, h.2.1]; omega), IV_length, h.2.1, Nat.add_sub_cancel_left, List.getElem?_append_left (by rw [IV_length]; exact hi)]
  simp [IV, hx]
theorem Dg.atHeld (h : Dg w g st blk held total) : w.cell? ⟨g, 72, none⟩ = some (.int .i64 held) := by
  rw [h.1.cell, List.getElem?_toArray, List.getElem?_append_right (by rw [List.length_append, IV_length, IV_length, h.2.1, h.2.2]; omega), List.length_append, IV_length, IV_length, h.2.1, h.2.2]
  rfl
theorem Dg.atTotal (h : Dg w g st blk held total) : w.cell? ⟨g, 73, none⟩ = some (.int .u64 total) := by
  rw [h.1.cell, List.getElem?_toArray, List.getElem?_append_right (by rw [List.length_append, IV_length, IV_length, h.2.1, h.2.2]; omega), List.length_append, IV_length, IV_length, h.2.1, h.2.2]
  rfl
end

/-- A piece of the block in the digest. -/
theorem slice_arr (g o lo hi : Nat) (kd kd' : IntKind) (z z' : Int) (hz : z = lo) (hz' : z' = hi) (h1 : lo ≤ hi) (h2 : hi ≤ 64) (h3 : lo < 64) (w : World) :
    (Instr.sliceAt 93 (.pointer (some ⟨g, o, none⟩)) (some (.int kd z)) (some (.int kd' z')) none).run Tryd.prog w = .ok (.slice (some ⟨g, o + lo, none⟩) (hi - lo) (64 - lo)) w := by
  subst hz; subst hz'
  rw [run_sliceAt_array_lh (P := Tryd.prog) w 93 ⟨g, o, none⟩ (by rw [arr64_len, arr64_elem]; exact Tryd.underlying93) kd kd' (lo : Int) (hi : Int) (by omega) (by omega) (by rw [arr64_len]; omega), arr64_elem, run_sizeOf_u8, arr64_len]
  simp only [Result.andThen_ok, slicedAt, Int.toNat_natCast]
  rw [if_neg (by omega)]
  simp only [Nat.mul_one, Addr.add]
  by_cases h : lo = 0
  · subst h; simp
  · simp [h]

set_option maxRecDepth 100000 in
set_option maxHeartbeats 1600000 in
theorem schedule_any (g : Nat) (st blk : List Int) (held total : Int) (w : World) (hd : Dg w g st blk held total) (hb : Bytes blk) :
    Calls Tryd.prog 97 #[.pointer (some ⟨g, 0, none⟩)] w fun e w' => e = .returned (.agg (IV .u32 (sch blk 64)).toArray) ∧ Below w.heap.size w w' := by
  have hg := hd.1.lt
  have HD := Lib.hid hd
  have HB := Lib.hid hb
  obtain ⟨L, hL⟩ : ∃ L, L = sch blk 64 := ⟨_, rfl⟩
  have hLl : L.length = 64 := by rw [hL]; exact sch_length _ _
  rw [← hL]
  have HL := Lib.hid hL
  clear hd hb hL
  go_enter Tryd.func97, Tryd.ntmps97
  go_wp2_with fail
  have HZ : (w.alloc (.cells (IV .u32 (List.replicate 64 0)).toArray 148)).alloc (.cells (IV .u32 (List.replicate 64 0)).toArray 148) = (w.alloc (.cells (IV .u32 (List.replicate 64 0)).toArray 148)).alloc (.cells (IV .u32 (List.replicate 64 0)).toArray 148) := rfl
  have b1 : Blk ((w.alloc (.cells (IV .u32 (List.replicate 64 0)).toArray 148)).alloc (.cells (IV .u32 (List.replicate 64 0)).toArray 148)) w.heap.size 148 (IV .u32 (List.replicate 64 0)).toArray := (Blk.new _ _ _).alloc _
  have b2 : Blk ((w.alloc (.cells (IV .u32 (List.replicate 64 0)).toArray 148)).alloc (.cells (IV .u32 (List.replicate 64 0)).toArray 148)) (w.heap.size + 1) 148 (IV .u32 (List.replicate 64 0)).toArray := by
    have := Blk.new (w.alloc (.cells (IV .u32 (List.replicate 64 0)).toArray 148)) 148 (IV .u32 (List.replicate 64 0)).toArray
    simpa using this
  have bl : Below w.heap.size w ((w.alloc (.cells (IV .u32 (List.replicate 64 0)).toArray 148)).alloc (.cells (IV .u32 (List.replicate 64 0)).toArray 148)) := ((Below.refl _ _).alloc (Nat.le_refl _) _).alloc (by simp) _
  change Code.wp _ _ _ _ ((w.alloc (.cells (IV .u32 (List.replicate 64 0)).toArray 148)).alloc (.cells (IV .u32 (List.replicate 64 0)).toArray 148))
  generalize ((w.alloc (.cells (IV .u32 (List.replicate 64 0)).toArray 148)).alloc (.cells (IV .u32 (List.replicate 64 0)).toArray 148)) = W at b1 b2 bl ⊢
  clear HZ
  go_loopw [11] (fun i wr => ∃ (j : Nat), j ≤ 16 ∧ i = .int .i64 j ∧ Blk wr (w.heap.size + 1) 148 (IV .u32 (sch blk j ++ List.replicate (64 - j) 0)).toArray ∧ Blk wr w.heap.size 148 (IV .u32 (List.replicate 64 0)).toArray ∧ Below w.heap.size w wr) (fun i _ => 16 - (intOf i).toNat)
  case atStart => exact ⟨0, by omega, rfl, b2, b1, bl⟩
  case round =>
    obtain ⟨j, hj, rfl, k2, k1, bel⟩ := hrel
    by_cases hj16 : j < 16
    · have hlen := HD.out.2.2
      have hd := HD.out.below bel hg
      have get : ∀ t, t < 4 → ∃ x, blk[4 * j + t]? = some x ∧ wr.cell? ⟨g, 8 + 4 * j + t, none⟩ = some (.int .u8 x) ∧ 0 ≤ x ∧ x < 256 := by
        intro t ht
        have hx := List.getElem?_eq_getElem (l := blk) (i := 4 * j + t) (by omega)
        have := hd.atBlk hx
        rw [← Nat.add_assoc] at this
        exact ⟨_, hx, this, HB.out.at hx⟩
      obtain ⟨x0, y0, z0, p0, r0⟩ := get 0 (by omega)
      obtain ⟨x1, y1, z1, p1, r1⟩ := get 1 (by omega)
      obtain ⟨x2, y2, z2, p2, r2⟩ := get 2 (by omega)
      obtain ⟨x3, y3, z3, p3, r3⟩ := get 3 (by omega)
      have hwat : wat blk j = x0 * 16777216 + x1 * 65536 + x2 * 256 + x3 := by
        unfold wat
        simp only [List.getD, y1, y2, y3, Option.getD_some]
        rw [Nat.add_zero] at y0
        rw [y0]; rfl
      have HW := Lib.hid hwat
      have K2 := Lib.hid k2
      have K1 := Lib.hid k1
      have BEL := Lib.hid bel
      rw [Nat.add_zero] at z0
      have hfr := k2.frozen j
      have hcz : wr.cell? ⟨w.heap.size + 1, j, none⟩ = some (.int .u32 0) := k2.cell_i (by rw [List.getElem?_append_right (by rw [sch_length]; omega), sch_length, Nat.sub_self, List.getElem?_replicate, if_pos (by omega)])
      have hj1 : (j : Int) < 64 := by omega
      have hsl := fun w => slice_arr g 8 (4 * j) (4 * j + 4) .i64 .i64 (4 * (j : Int)) (4 * (j : Int) + 4) (by omega) (by omega) (by omega) (by omega) (by omega) w
      rw [Nat.add_sub_cancel_left] at hsl
      clear get y0 y1 y2 y3 hwat k1 k2 bel hd hlen
      go_wp2_with fail
      refine wp_region_still_tail 24 (by kernel_rfl) (by kernel_rfl) ?_
      simp only [List.take_succ_cons, List.take_zero, List.drop_succ_cons, List.drop_zero]
      obtain ⟨w2, hw2⟩ : ∃ w2, w2 = wr.drew := ⟨_, rfl⟩
      have K2' : Blk w2 (w.heap.size + 1) 148 (IV .u32 (sch blk j ++ List.replicate (64 - j) 0)).toArray := by rw [hw2]; exact K2.out
      have K1' : Blk w2 w.heap.size 148 (IV .u32 (List.replicate 64 0)).toArray := by rw [hw2]; exact K1.out
      have BEL' : Below w.heap.size w w2 := by rw [hw2]; exact BEL.out.drew
      have z0 : w2.cell? ⟨g, 8 + 4 * j, none⟩ = some (.int .u8 x0) := by rw [hw2]; exact z0
      have z1 : w2.cell? ⟨g, 8 + 4 * j + 1, none⟩ = some (.int .u8 x1) := by rw [hw2]; exact z1
      have z2 : w2.cell? ⟨g, 8 + 4 * j + 2, none⟩ = some (.int .u8 x2) := by rw [hw2]; exact z2
      have z3 : w2.cell? ⟨g, 8 + 4 * j + 3, none⟩ = some (.int .u8 x3) := by rw [hw2]; exact z3
      have hcz : w2.cell? ⟨w.heap.size + 1, j, none⟩ = some (.int .u32 0) := by rw [hw2]; exact hcz
      have hfr : w2.frozen? ⟨w.heap.size + 1, j, none⟩ = false := by rw [hw2]; exact hfr
      show wpStill _ _ wr.drew (fun a' => wpList _ _ _ _ a' wr.drew) _ _
      rw [← hw2]
      have HK2 := Lib.hid K2'
      have HK1 := Lib.hid K1'
      have HBEL := Lib.hid BEL'
      have hj64 : j < 64 := by omega
      clear hw2 K2' K1' BEL' K2 K1 BEL
      repeat still_step
      refine wpStill_nil ?_
      go_wp2
      go_roundw
      case rel =>
        rw [join4 _ _ _ _ ⟨p0, r0⟩ ⟨p1, r1⟩ ⟨p2, r2⟩ ⟨p3, r3⟩, ← HW.out]
        have hsch : sch blk (j + 1) = sch blk j ++ [wat blk j] := by rw [sch, if_pos hj16]
        have hst := HK2.out.store_i j (wat blk j)
        rw [sch_set blk j hj64 _ hsch] at hst
        exact ⟨j + 1, by omega, by go_num, hst, HK1.out.far (p := ⟨w.heap.size + 1, j, none⟩) (by show w.heap.size ≠ w.heap.size + 1; omega) _, HBEL.out.setCell (by show w.heap.size ≤ w.heap.size + 1; omega) _⟩
      case measure => simp [intOf]; omega
    · obtain rfl : j = 16 := by omega
      rename World => W1
      have e16 : ((16 : Nat) : Int) = 16 := rfl
      rw [e16]
      clear e16
      have K2 := Lib.hid k2
      have K1 := Lib.hid k1
      have BEL := Lib.hid bel
      clear k2 k1 bel b1 b2 bl
      go_wp2_with fail
      go_loopw [6] (fun i wr => ∃ (n : Nat), 16 ≤ n ∧ n ≤ 64 ∧ i = .int .i64 n ∧ Blk wr (w.heap.size + 1) 148 (IV .u32 (sch blk n ++ List.replicate (64 - n) 0)).toArray ∧ Blk wr w.heap.size 148 (IV .u32 (List.replicate 64 0)).toArray ∧ Below w.heap.size w wr) (fun i _ => 64 - (intOf i).toNat)
      case atStart => exact ⟨16, by omega, by omega, rfl, K2.out, K1.out, BEL.out⟩
      case round =>
        obtain ⟨n, hn16, hn, rfl, k2, k1, bel⟩ := hrel
        have hsl := sch_length blk n
        by_cases hn64 : n < 64
        · have get : ∀ t, 1 ≤ t → t ≤ 16 → ∃ x, (sch blk n).getD (n - t) 0 = x ∧ wr.cell? ⟨w.heap.size + 1, n - t, none⟩ = some (.int .u32 x) ∧ 0 ≤ x ∧ x < 4294967296 := by
            intro t h1 h2
            have hx := List.getElem?_eq_getElem (l := sch blk n) (i := n - t) (by omega)
            have hok := sch_ok HB.out n _ (List.mem_of_getElem? hx)
            refine ⟨_, rfl, ?_, ?_⟩
            · rw [List.getD, hx]
              exact k2.cell_i (by rw [List.getElem?_append_left (by omega)]; exact hx)
            · rw [List.getD, hx]; exact hok
          obtain ⟨x15, e15, z15, p15, r15⟩ := get 15 (by omega) (by omega)
          obtain ⟨x2, e2, z2, p2, r2⟩ := get 2 (by omega) (by omega)
          obtain ⟨x16, e16, z16, p16, r16⟩ := get 16 (by omega) (by omega)
          obtain ⟨x7, e7, z7, p7, r7⟩ := get 7 (by omega) (by omega)
          have hsch : sch blk (n + 1) = sch blk n ++ [(x16 + ws0 x15 + x7 + ws1 x2) % 4294967296] := by rw [sch, if_neg (by omega), e15, e2, e16, e7]
          have hcz : wr.cell? ⟨w.heap.size + 1, n, none⟩ = some (.int .u32 0) := k2.cell_i (by rw [List.getElem?_append_right (by omega), hsl, Nat.sub_self, List.getElem?_replicate, if_pos (by omega)])
          have hfr := k2.frozen n
          have HSCH := Lib.hid hsch
          have K2 := Lib.hid k2
          have K1 := Lib.hid k1
          have BEL := Lib.hid bel
          have i1 : (15 : Int) ≤ (n : Int) := by omega
          have i2 : (n : Int) < 64 := by omega
          clear get e15 e2 e16 e7 hsch k2 k1 bel hsl
          go_wp2_with fail
          go_quiet (fail)
          go_wp2_with (go_at_call 86; go_must (refine (rot_any _ _ _ (by assumption) (by assumption)).mono ?_); rintro e w' ⟨rfl, rfl⟩)
          refine wp_region_still_tail 15 (by kernel_rfl) (by kernel_rfl) ?_
          simp only [List.take_succ_cons, List.take_zero, List.drop_succ_cons, List.drop_zero]
          obtain ⟨w2, hw2⟩ : ∃ w2, w2 = (wr.drewN nq).drew := ⟨_, rfl⟩
          have K2' : Blk w2 (w.heap.size + 1) 148 (IV .u32 (sch blk n ++ List.replicate (64 - n) 0)).toArray := by rw [hw2]; exact K2.out
          have K1' : Blk w2 w.heap.size 148 (IV .u32 (List.replicate 64 0)).toArray := by rw [hw2]; exact K1.out
          have BEL' : Below w.heap.size w w2 := by rw [hw2]; exact ⟨BEL.out.os, BEL.out.tape, BEL.out.output, BEL.out.size, BEL.out.block⟩
          have z16 : w2.cell? ⟨w.heap.size + 1, n - 16, none⟩ = some (.int .u32 x16) := by rw [hw2]; exact z16
          have z7 : w2.cell? ⟨w.heap.size + 1, n - 7, none⟩ = some (.int .u32 x7) := by rw [hw2]; exact z7
          have hcz : w2.cell? ⟨w.heap.size + 1, n, none⟩ = some (.int .u32 0) := by rw [hw2]; exact hcz
          have hfr : w2.frozen? ⟨w.heap.size + 1, n, none⟩ = false := by rw [hw2]; exact hfr
          show wpStill _ _ (wr.drewN nq).drew (fun a' => wpList _ _ _ _ a' (wr.drewN nq).drew) _ _
          rw [← hw2]
          have HK2 := Lib.hid K2'
          have HK1 := Lib.hid K1'
          have HBEL := Lib.hid BEL'
          have i3 : n - 16 < 64 := by omega
          have i4 : n - 7 < 64 := by omega
          clear hw2 K2' K1' BEL' K2 K1 BEL z15 z2
          have v1 : IntKind.i64.wrap ((n : Int) - 16) = ((n - 16 : Nat) : Int) := by rw [IntWalk.i64_in _ (by omega)]; omega
          have v2 : IntKind.i64.wrap ((n : Int) - 7) = ((n - 7 : Nat) : Int) := by rw [IntWalk.i64_in _ (by omega)]; omega
          have i5 : ((n - 16 : Nat) : Int) < 64 := by omega
          have i6 : ((n - 7 : Nat) : Int) < 64 := by omega
          repeat still_step
          refine wpStill_nil ?_
          clear v1 v2
          go_wp2
          go_roundw
          case rel =>
            have o15 : W32 x15 := ⟨p15, r15⟩
            have o2 : W32 x2 := ⟨p2, r2⟩
            have q1 : bits .xor .u32 (bits .xor .u32 (rotl x15 (rotS (-7))) (rotl x15 (rotS (-18)))) (x15 / 8) = ws0 x15 := by
              rw [show rotS (-7) = 25 by kernel_rfl, show rotS (-18) = 14 by kernel_rfl, rotl_rotr (t := 7) o15 rfl rfl, rotl_rotr (t := 18) o15 rfl rfl]; rfl
            have q2 : bits .xor .u32 (bits .xor .u32 (rotl x2 (rotS (-17))) (rotl x2 (rotS (-19)))) (x2 / 1024) = ws1 x2 := by
              rw [show rotS (-17) = 15 by kernel_rfl, show rotS (-19) = 13 by kernel_rfl, rotl_rotr (t := 17) o2 rfl rfl, rotl_rotr (t := 19) o2 rfl rfl]; rfl
            have hst := HK2.out.store_i n ((x16 + ws0 x15 + x7 + ws1 x2) % 4294967296)
            rw [sch_set blk n hn64 _ HSCH.out] at hst
            rw [q1, q2]
            exact ⟨n + 1, by omega, by omega, by go_num, hst, HK1.out.far (p := ⟨w.heap.size + 1, n, none⟩) (by show w.heap.size ≠ w.heap.size + 1; omega) _, HBEL.out.setCell (by show w.heap.size ≤ w.heap.size + 1; omega) _⟩
          case measure => simp [intOf]; omega
        · obtain rfl : n = 64 := by omega
          rw [Nat.sub_self, List.replicate_zero, List.append_nil, ← HL.out] at k2
          have hsz : (IV .u32 L).toArray.size = 64 := by simp [IV, hLl]
          have hinfo : (Tryd.prog.info? 148).map (·.size) = some 64 := by kernel_rfl
          have hall : (IV .u32 L).toArray.all (·.oneCell') = true := by simp [IV, Value.oneCell']
          have k2' : wr.heap[w.heap.size + 1]? = some (.cells (IV .u32 L).toArray 148 (0, 0)) := k2
          have k1' : wr.heap[w.heap.size]? = some (.cells (IV .u32 (List.replicate 64 0)).toArray 148 (0, 0)) := k1
          have H2 := Lib.hid k2'
          have H1 := Lib.hid k1'
          have HSZ := Lib.hid hsz
          have HIN := Lib.hid hinfo
          have HAL := Lib.hid hall
          clear k2' k1' k1 k2 hsl hsz hinfo hall hLl
          rw [show ((64 : Nat) : Int) = 64 from rfl]
          go_wp2_with (first
            | refine wpList_load_row rfl 148 (.tmp 3) rfl (w.heap.size + 1) rfl 148 (IV .u32 L).toArray (0, 0) _ H2.out Tryd.underlying148 rfl (by rw [HSZ.out]; exact HIN.out) ?_
            | refine wpList_store_row rfl 148 (.tmp 2) (.tmp 91) rfl w.heap.size (IV .u32 L).toArray rfl rfl 148 _ H1.out (by rw [HSZ.out]; exact HIN.out) (by rw [HSZ.out]; simp [IV]) HAL.out ?_)
          refine bodyPost_ret (v := .agg (IV .u32 L).toArray) (results_cell_row rfl _ _ w.heap.size 148 _ (0, 0) _ rfl (Blk.row H1.out _) Tryd.underlying148 rfl (by rw [HSZ.out]; exact HIN.out)) rfl ⟨rfl, below_setRow bel (Nat.le_refl _) _⟩
end Go.Proofs.YtjibbegdieiknaaDoor

namespace Go.Proofs.YtjibbegdieiknaaDoor
set_option maxRecDepth 100000
open Go.RowKit
set_option linter.unusedVariables false

theorem Dg.setSt {w : World} {g : Nat} {st blk : List Int} {held total : Int} (h : Dg w g st blk held total) (i : Nat) (x : Int) (hi : i < 8) : Dg (w.setCell ⟨g, i, none⟩ (.int .u32 x)) g (st.set i x) blk held total := by
  refine ⟨?_, by rw [List.length_set]; exact h.2.1, h.2.2⟩
  have := h.1.set_ i (.int .u32 x)
  have e : (IV .u32 st ++ IV .u8 blk ++ [Value.int .i64 held, Value.int .u64 total]).toArray.setIfInBounds i (.int .u32 x) = (IV .u32 (st.set i x) ++ IV .u8 blk ++ [Value.int .i64 held, Value.int .u64 total]).toArray := by
    rw [List.setIfInBounds_toArray, List.append_assoc, List.append_assoc, List.set_append_left _ _ (by rw [IV_length, h.2.1]; exact hi)]
    simp [IV, List.map_set]
  rw [e] at this
  exact this
theorem Dg.setHeld {w : World} {g : Nat} {st blk : List Int} {held total : Int} (h : Dg w g st blk held total) (x : Int) : Dg (w.setCell ⟨g, 72, none⟩ (.int .i64 x)) g st blk x total := by
  refine ⟨?_, h.2.1, h.2.2⟩
  have := h.1.set_ 72 (.int .i64 x)
  have e : (IV .u32 st ++ IV .u8 blk ++ [Value.int .i64 held, Value.int .u64 total]).toArray.setIfInBounds 72 (.int .i64 x) = (IV .u32 st ++ IV .u8 blk ++ [Value.int .i64 x, Value.int .u64 total]).toArray := by
    rw [List.setIfInBounds_toArray, List.set_append_right _ _ (by rw [List.length_append, IV_length, IV_length, h.2.1, h.2.2]; omega), List.length_append, IV_length, IV_length, h.2.1, h.2.2]
    rfl
  rw [e] at this
  exact this
theorem Dg.setTotal {w : World} {g : Nat} {st blk : List Int} {held total : Int} (h : Dg w g st blk held total) (x : Int) : Dg (w.setCell ⟨g, 73, none⟩ (.int .u64 x)) g st blk held x := by
  refine ⟨?_, h.2.1, h.2.2⟩
  have := h.1.set_ 73 (.int .u64 x)
  have e : (IV .u32 st ++ IV .u8 blk ++ [Value.int .i64 held, Value.int .u64 total]).toArray.setIfInBounds 73 (.int .u64 x) = (IV .u32 st ++ IV .u8 blk ++ [Value.int .i64 held, Value.int .u64 x]).toArray := by
    rw [List.setIfInBounds_toArray, List.set_append_right _ _ (by rw [List.length_append, IV_length, IV_length, h.2.1, h.2.2]; omega), List.length_append, IV_length, IV_length, h.2.1, h.2.2]
    rfl
  rw [e] at this
  exact this
attribute [local irreducible] rnd sch compr
theorem compress_u (s0 : St) (ws : List Int) (w : World) (hws : ws.length = 64) (hok : s0.ok) (hwk : ∀ x ∈ ws, W32 x) (hK : KTab w) :
    Calls Tryd.prog 96 #[.agg #[.int .u32 s0.a, .int .u32 s0.b, .int .u32 s0.c, .int .u32 s0.d, .int .u32 s0.e, .int .u32 s0.f, .int .u32 s0.g, .int .u32 s0.h], .agg (IV .u32 ws).toArray] w fun e w' => ∃ s : St, s = compr s0 ws ∧
      e = .returned (.agg #[.int .u32 s.a, .int .u32 s.b, .int .u32 s.c, .int .u32 s.d, .int .u32 s.e, .int .u32 s.f, .int .u32 s.g, .int .u32 s.h]) ∧ Below w.heap.size w w' := by
  refine (compress_any s0 ws w hws hok hwk hK).mono ?_
  rintro e w' ⟨rfl, hb⟩
  exact ⟨_, rfl, rfl, hb⟩

set_option maxRecDepth 100000 in
set_option maxHeartbeats 400000 in
theorem mix_any (g : Nat) (s0 : St) (blk : List Int) (held total : Int) (w : World) (hd : Dg w g s0.list blk held total) (hb : Bytes blk) (hok : s0.ok) (hK : KTab w) (hg1 : 3 ≠ g) :
    Calls Tryd.prog 82 #[.pointer (some ⟨g, 0, none⟩)] w fun e w' => e = .returned (.tuple #[]) ∧ Dg w' g (compr s0 (sch blk 64)).list blk 0 total ∧ w.grownBy w' (some g) := by
  have hg := hd.1.lt
  have d1 : Dg w.drew g s0.list blk held total := hd
  have k1 : KTab w.drew := hK
  obtain ⟨L, hL⟩ : ∃ L, L = sch blk 64 := ⟨_, rfl⟩
  have hLl : L.length = 64 := by rw [hL]; exact sch_length _ _
  have hLk : ∀ x ∈ L, W32 x := by rw [hL]; exact sch_ok hb 64
  have C1 := Lib.hid fun W (h : Dg W g s0.list blk held total) => (schedule_any g s0.list blk held total W h hb)
  rw [← hL] at C1 ⊢
  have C2 := Lib.hid fun W (h : KTab W) => compress_u s0 L W hLl hok hLk h
  have c0 := hd.atSt (i := 0) (x := s0.a) rfl
  have c1 := hd.atSt (i := 1) (x := s0.b) rfl
  have c2 := hd.atSt (i := 2) (x := s0.c) rfl
  have c3 := hd.atSt (i := 3) (x := s0.d) rfl
  have c4 := hd.atSt (i := 4) (x := s0.e) rfl
  have c5 := hd.atSt (i := 5) (x := s0.f) rfl
  have c6 := hd.atSt (i := 6) (x := s0.g) rfl
  have c7 := hd.atSt (i := 7) (x := s0.h) rfl
  have hg1w : g < w.drew.heap.size := hg
  have HD1 := Lib.hid d1
  have HK1 := Lib.hid k1
  clear hd hK hL hLl hLk hb hok d1 k1
  go_enter Tryd.func82, Tryd.ntmps82
  go_wp2_with fail
  go_region_with (first
    | (go_at_call 97; refine (C1.out _ HD1.out).mono ?_; rintro e w1 ⟨rfl, hb1⟩; have e1 := HD1.out.below hb1 hg; have k1 := HK1.out.below hb1; have c10 := e1.atSt (i := 0) (x := s0.a) rfl; have c11 := e1.atSt (i := 1) (x := s0.b) rfl; have c12 := e1.atSt (i := 2) (x := s0.c) rfl; have c13 := e1.atSt (i := 3) (x := s0.d) rfl; have c14 := e1.atSt (i := 4) (x := s0.e) rfl; have c15 := e1.atSt (i := 5) (x := s0.f) rfl; have c16 := e1.atSt (i := 6) (x := s0.g) rfl; have c17 := e1.atSt (i := 7) (x := s0.h) rfl)
    | (go_at_call 96; refine (C2.out _ k1).mono ?_; rintro e w2 ⟨s, hs, rfl, hb2⟩; have HSS := Lib.hid hs; clear hs; have e2 := e1.below hb2 e1.1.lt; have f0 := e2.1.frozen 0; have f1 := e2.1.frozen 1; have f2 := e2.1.frozen 2; have f3 := e2.1.frozen 3; have f4 := e2.1.frozen 4; have f5 := e2.1.frozen 5; have f6 := e2.1.frozen 6; have f7 := e2.1.frozen 7; have c20 := e2.atSt (i := 0) (x := s0.a) rfl; have c21 := e2.atSt (i := 1) (x := s0.b) rfl; have c22 := e2.atSt (i := 2) (x := s0.c) rfl; have c23 := e2.atSt (i := 3) (x := s0.d) rfl; have c24 := e2.atSt (i := 4) (x := s0.e) rfl; have c25 := e2.atSt (i := 5) (x := s0.f) rfl; have c26 := e2.atSt (i := 6) (x := s0.g) rfl; have c27 := e2.atSt (i := 7) (x := s0.h) rfl))
  all_goals (
    rename_i Q' K hK
    have e3 : Dg ((((((((w2.setCell ⟨g, 0, none⟩ (.int .u32 s.a)).setCell ⟨g, 1, none⟩ (.int .u32 s.b)).setCell ⟨g, 2, none⟩ (.int .u32 s.c)).setCell ⟨g, 3, none⟩ (.int .u32 s.d)).setCell ⟨g, 4, none⟩ (.int .u32 s.e)).setCell ⟨g, 5, none⟩ (.int .u32 s.f)).setCell ⟨g, 6, none⟩ (.int .u32 s.g)).setCell ⟨g, 7, none⟩ (.int .u32 s.h)) g s.list blk held total :=
      (((((((e2.setSt 0 s.a (by decide)).setSt 1 s.b (by decide)).setSt 2 s.c (by decide)).setSt 3 s.d (by decide)).setSt 4 s.e (by decide)).setSt 5 s.f (by decide)).setSt 6 s.g (by decide)).setSt 7 s.h (by decide)
    have o3 : w.grownBy ((((((((w2.setCell ⟨g, 0, none⟩ (.int .u32 s.a)).setCell ⟨g, 1, none⟩ (.int .u32 s.b)).setCell ⟨g, 2, none⟩ (.int .u32 s.c)).setCell ⟨g, 3, none⟩ (.int .u32 s.d)).setCell ⟨g, 4, none⟩ (.int .u32 s.e)).setCell ⟨g, 5, none⟩ (.int .u32 s.f)).setCell ⟨g, 6, none⟩ (.int .u32 s.g)).setCell ⟨g, 7, none⟩ (.int .u32 s.h)) (some g) := by
      have o0 : w.grownBy w2 (some g) := only_trans (only_drewN (World.grownBy.refl w _) 1) (only_trans (only_of_below (a := w.drew) hb1 _) (only_of_below hb2 _))
      exact only_setCell (only_setCell (only_setCell (only_setCell (only_setCell (only_setCell (only_setCell (only_setCell o0 (.inl rfl) _) (.inl rfl) _) (.inl rfl) _) (.inl rfl) _) (.inl rfl) _) (.inl rfl) _) (.inl rfl) _) (.inl rfl) _
    refine hK _ _ ?_
    generalize ((((((((w2.setCell ⟨g, 0, none⟩ (.int .u32 s.a)).setCell ⟨g, 1, none⟩ (.int .u32 s.b)).setCell ⟨g, 2, none⟩ (.int .u32 s.c)).setCell ⟨g, 3, none⟩ (.int .u32 s.d)).setCell ⟨g, 4, none⟩ (.int .u32 s.e)).setCell ⟨g, 5, none⟩ (.int .u32 s.f)).setCell ⟨g, 6, none⟩ (.int .u32 s.g)).setCell ⟨g, 7, none⟩ (.int .u32 s.h)) = w3 at e3 o3 ⊢
    have c3 := e3.atHeld
    have f3 := e3.1.frozen 72
    clear hK e2 e1 hb1 hb2 f0 f1 f2 f4 f5 f6 f7 c20 c21 c22 c23 c24 c25 c26 c27 c10 c11 c12 c13 c14 c15 c16 c17
    go_wp2_with fail)
  all_goals (
    have o4 := only_setCell o3 (p := ⟨g, 72, none⟩) (.inl rfl) (.int .i64 0)
    have e4 := e3.setHeld 0
    have HS := HSS.out
    rw [← HS]
    exact bodyPost_end (v := .tuple #[]) (results_none (by rfl) _ _ _) (by rfl) ⟨rfl, e4, o4⟩)
end Go.Proofs.YtjibbegdieiknaaDoor
