import Derived.Test.YtfpgnaeiiponmaaDoorShaSpec
namespace Go.Proofs.YtfpgnaeiiponmaaDoor
open Go.RowKit
set_option linter.unusedVariables false

def rotS (k : Int) : Nat := (bits .and .u64 (IntKind.u64.wrap k) 31).toNat
theorem rotS_is (k : Int) : bits .and .u64 (IntKind.u64.wrap k) 31 = (rotS k : Int) ∧ rotS k < 32 := by
  unfold rotS
  rw [IntKind.wrap_u64, u64_and _ _ (by omega) (by omega) (by omega) (by omega)]
  have : ((31 : Int).toNat) = 31 := rfl
  rw [this, nat_mask5]
  omega
set_option maxHeartbeats 400000 in
theorem rot_any (x k : Int) (w : World) (h0 : 0 ≤ x) (h1 : x < 4294967296) :
    Calls Tryd.prog 38 #[.int .u32 x, .int .i64 k] w fun e w' => e = .returned (.int .u32 (rotl x (rotS k))) ∧ w = w' := by
  obtain ⟨hk, hs⟩ := rotS_is k
  generalize rotS k = s at hk hs ⊢
  go_enter Tryd.func38, Tryd.ntmps38
  go_wp2
  go_ret
  exact ⟨rfl, rfl⟩

/-- The tables lie where the program's variables are. -/
def STab (w : World) : Prop := 0 < w.heap.size ∧ ∀ i x, shaH[i]? = some x → w.cell? ⟨0, i, none⟩ = some (.int .u32 x)
def KTab (w : World) : Prop := 1 < w.heap.size ∧ ∀ i x, shaK[i]? = some x → w.cell? ⟨1, i, none⟩ = some (.int .u32 x)
theorem STab.below {w w' : World} (h : STab w) (hb : Below w.heap.size w w') : STab w' := ⟨Nat.lt_of_lt_of_le h.1 hb.size, fun i x hx => (hb.cell (p := ⟨_, i, none⟩) h.1).trans (h.2 i x hx)⟩
theorem KTab.below {w w' : World} (h : KTab w) (hb : Below w.heap.size w w') : KTab w' := ⟨Nat.lt_of_lt_of_le h.1 hb.size, fun i x hx => (hb.cell (p := ⟨_, i, none⟩) h.1).trans (h.2 i x hx)⟩

theorem Blk.store_i {w : World} {g : Nat} {t : TypeId} {k : IntKind} {l : List Int} (h : Blk w g t (IV k l).toArray) (i : Nat) (x : Int) : Blk (w.setCell ⟨g, i, none⟩ (.int k x)) g t (IV k (l.set i x)).toArray := by
  have := h.set_ i (.int k x)
  simpa [IV, List.map_set] using this
theorem Blk.cell_i {w : World} {g : Nat} {t : TypeId} {k : IntKind} {l : List Int} (h : Blk w g t (IV k l).toArray) {i : Nat} {x : Int} (hx : l[i]? = some x) : w.cell? ⟨g, i, none⟩ = some (.int k x) := by
  rw [h.cell]; simp [IV, hx]

set_option maxRecDepth 100000 in
set_option maxHeartbeats 1600000 in
theorem compress_any (s0 : St) (ws : List Int) (w : World) (hws : ws.length = 64) (hok : s0.ok) (hwk : ∀ x ∈ ws, W32 x) (hK : KTab w) :
    Calls Tryd.prog 36 #[.agg (IV .u32 s0.list).toArray, .agg (IV .u32 ws).toArray] w fun e w' => e = .returned (.agg (IV .u32 (compr s0 ws).list).toArray) ∧ Below w.heap.size w w' := by
  go_enter Tryd.func36, Tryd.ntmps36
  go_wp2_with fail
  have h0 : Blk (((w.alloc (.cells (IV .u32 s0.list).toArray 62)).alloc (.cells (IV .u32 ws).toArray 69)).alloc (.cells (IV .u32 [0, 0, 0, 0, 0, 0, 0, 0]).toArray 62)) w.heap.size 62 (IV .u32 s0.list).toArray := ((Blk.new _ _ _).alloc _).alloc _
  have h1 : Blk (((w.alloc (.cells (IV .u32 s0.list).toArray 62)).alloc (.cells (IV .u32 ws).toArray 69)).alloc (.cells (IV .u32 [0, 0, 0, 0, 0, 0, 0, 0]).toArray 62)) (w.heap.size + 1) 69 (IV .u32 ws).toArray := by
    have := (Blk.new (w.alloc (.cells (IV .u32 s0.list).toArray 62)) 69 (IV .u32 ws).toArray).alloc (.cells (IV .u32 [0, 0, 0, 0, 0, 0, 0, 0]).toArray 62)
    simpa using this
  have h2 : Blk (((w.alloc (.cells (IV .u32 s0.list).toArray 62)).alloc (.cells (IV .u32 ws).toArray 69)).alloc (.cells (IV .u32 [0, 0, 0, 0, 0, 0, 0, 0]).toArray 62)) (w.heap.size + 1 + 1) 62 (IV .u32 [0, 0, 0, 0, 0, 0, 0, 0]).toArray := by
    have := Blk.new ((w.alloc (.cells (IV .u32 s0.list).toArray 62)).alloc (.cells (IV .u32 ws).toArray 69)) 62 (IV .u32 [0, 0, 0, 0, 0, 0, 0, 0]).toArray
    simpa using this
  have hb : Below w.heap.size w (((w.alloc (.cells (IV .u32 s0.list).toArray 62)).alloc (.cells (IV .u32 ws).toArray 69)).alloc (.cells (IV .u32 [0, 0, 0, 0, 0, 0, 0, 0]).toArray 62)) :=
    (((Below.refl _ _).alloc (Nat.le_refl _) _).alloc (by simp) _).alloc (by simp; omega) _
  show Code.wp _ _ _ _ (((w.alloc (.cells (IV .u32 s0.list).toArray 62)).alloc (.cells (IV .u32 ws).toArray 69)).alloc (.cells (IV .u32 [0, 0, 0, 0, 0, 0, 0, 0]).toArray 62))
  generalize (((w.alloc (.cells (IV .u32 s0.list).toArray 62)).alloc (.cells (IV .u32 ws).toArray 69)).alloc (.cells (IV .u32 [0, 0, 0, 0, 0, 0, 0, 0]).toArray 62)) = W at h0 h1 h2 hb ⊢
  have c0 := h0.cell_i (i := 0) (x := s0.a) rfl
  have c1 := h0.cell_i (i := 1) (x := s0.b) rfl
  have c2 := h0.cell_i (i := 2) (x := s0.c) rfl
  have c3 := h0.cell_i (i := 3) (x := s0.d) rfl
  have c4 := h0.cell_i (i := 4) (x := s0.e) rfl
  have c5 := h0.cell_i (i := 5) (x := s0.f) rfl
  have c6 := h0.cell_i (i := 6) (x := s0.g) rfl
  have c7 := h0.cell_i (i := 7) (x := s0.h) rfl
  have HB0 := Lib.hid h0
  have HB1 := Lib.hid h1
  have HB2 := Lib.hid h2
  have HBL := Lib.hid hb
  have HKT := Lib.hid hK
  have HWS := Lib.hid hws
  have HWK := Lib.hid hwk
  have HOK := Lib.hid hok
  clear h0 h1 h2 hb hK hws hwk hok
  go_quiet (fail)
  go_wp2_with fail
  go_quiet (fail)
  clear c0 c1 c2 c3 c4 c5 c6 c7
  go_wp2_with fail
  go_loopw [5, 6, 7, 8, 9, 10, 11, 12, 37] (fun v5 v6 v7 v8 v9 v10 v11 v12 i wr => ∃ (j : Nat) (sa sb sc sd se sf sg sh : Int), j ≤ 64 ∧ i = .int .i64 j ∧ (⟨sa, sb, sc, sd, se, sf, sg, sh⟩ : St) = rnd s0 ws j ∧ St.ok ⟨sa, sb, sc, sd, se, sf, sg, sh⟩ ∧
      v5 = .int .u32 sa ∧ v6 = .int .u32 sb ∧ v7 = .int .u32 sc ∧ v8 = .int .u32 sd ∧ v9 = .int .u32 se ∧ v10 = .int .u32 sf ∧ v11 = .int .u32 sg ∧ v12 = .int .u32 sh ∧ ∃ n, wr = W.drewN n) (fun _ _ _ _ _ _ _ _ i _ => 64 - (intOf i).toNat)
  case atStart => exact ⟨0, s0.a, s0.b, s0.c, s0.d, s0.e, s0.f, s0.g, s0.h, by omega, rfl, rfl, HOK.out, rfl, rfl, rfl, rfl, rfl, rfl, rfl, rfl, ⟨_, by rw [World.drewN_drewN]⟩⟩
  case round =>
    obtain ⟨j, sa, sb, sc, sd, se, sf, sg, sh, hj, rfl, hs, hok, rfl, rfl, rfl, rfl, rfl, rfl, rfl, rfl, n0, rfl⟩ := hrel
    have HS := Lib.hid hs
    have HO := Lib.hid hok
    obtain ⟨⟨a0, a1⟩, ⟨b0, b1⟩, ⟨c0, c1⟩, ⟨d0, d1⟩, ⟨e0, e1⟩, ⟨f0, f1⟩, ⟨g0, g1⟩, ⟨h0, h1⟩⟩ : (0 ≤ sa ∧ sa < 4294967296) ∧ (0 ≤ sb ∧ sb < 4294967296) ∧ (0 ≤ sc ∧ sc < 4294967296) ∧ (0 ≤ sd ∧ sd < 4294967296) ∧ (0 ≤ se ∧ se < 4294967296) ∧ (0 ≤ sf ∧ sf < 4294967296) ∧ (0 ≤ sg ∧ sg < 4294967296) ∧ (0 ≤ sh ∧ sh < 4294967296) := hok
    clear hs
    by_cases hj64 : j < 64
    · obtain ⟨k, hk⟩ : ∃ k, shaK[j]? = some k := ⟨shaK[j]'(by simpa [shaK] using hj64), List.getElem?_eq_getElem _⟩
      obtain ⟨x, hx⟩ : ∃ x, ws[j]? = some x := ⟨ws[j]'(by rw [HWS.out]; exact hj64), List.getElem?_eq_getElem _⟩
      have ck : W.cell? ⟨1, j, none⟩ = some (.int .u32 k) := (HKT.out.below HBL.out).2 j k hk
      have cx : W.cell? ⟨w.heap.size + 1, j, none⟩ = some (.int .u32 x) := HB1.out.cell_i hx
      have HKX := Lib.hid (And.intro hk hx)
      clear hk hx
      go_wp2_with (go_at_call 38; go_must (refine (rot_any _ _ _ (by assumption) (by assumption)).mono ?_); rintro e w' ⟨rfl, rfl⟩)
      have hj0 : (0 : Int) ≤ (j : Int) := by omega
      have hj1 : (j : Int) < 64 := by omega
      go_quiet (fail)
      go_wp2
      go_roundw
      case rel =>
        have hst := HS.out
        have ho := HO.out
        have hnx : rnd s0 ws (j + 1) = stepR ⟨sa, sb, sc, sd, se, sf, sg, sh⟩ k x := by
          rw [rnd, ← hst, List.getD, List.getD, HKX.out.1, HKX.out.2]; rfl
        have q1 : bits .xor .u32 (bits .xor .u32 (rotl se (rotS (-6))) (rotl se (rotS (-11)))) (rotl se (rotS (-25))) = wS1 se := by
          rw [show rotS (-6) = 26 by kernel_rfl, show rotS (-11) = 21 by kernel_rfl, show rotS (-25) = 7 by kernel_rfl, rotl_rotr (t := 6) ho.2.2.2.2.1 rfl rfl, rotl_rotr (t := 11) ho.2.2.2.2.1 rfl rfl, rotl_rotr (t := 25) ho.2.2.2.2.1 rfl rfl]; rfl
        have q2 : bits .xor .u32 (bits .xor .u32 (rotl sa (rotS (-2))) (rotl sa (rotS (-13)))) (rotl sa (rotS (-22))) = wS0 sa := by
          rw [show rotS (-2) = 30 by kernel_rfl, show rotS (-13) = 19 by kernel_rfl, show rotS (-22) = 10 by kernel_rfl, rotl_rotr (t := 2) ho.1 rfl rfl, rotl_rotr (t := 13) ho.1 rfl rfl, rotl_rotr (t := 22) ho.1 rfl rfl]; rfl
        have q3 := pch_is ho.2.2.2.2.1 ho.2.2.2.2.2.1 ho.2.2.2.2.2.2.1
        have q4 := pmaj_is ho.1 ho.2.1 ho.2.2.1
        simp only at q3 q4
        rw [q1, q2, q3, q4]
        refine ⟨j + 1, (sh + wS1 se + wch se sf sg + k + x + wS0 sa + wmaj sa sb sc) % 4294967296, sa, sb, sc, (sd + (sh + wS1 se + wch se sf sg + k + x)) % 4294967296, se, sf, sg, by omega, by go_num, by rw [hnx]; rfl, stepR_ok ho k x, ?_, rfl, rfl, rfl, ?_, rfl, rfl, rfl, ⟨_, rfl⟩⟩
        · rw [Int.emod_add_emod]
        · rw [Int.add_emod_emod]
      case measure => simp [intOf]; omega
    · obtain rfl : j = 64 := by omega
      have ix0 : ∀ w, (Instr.index 62 (.agg #[.int .u32 sa, .int .u32 sb, .int .u32 sc, .int .u32 sd, .int .u32 se, .int .u32 sf, .int .u32 sg, .int .u32 sh]) (.int .i64 0)).run Tryd.prog w = .ok (.int .u32 sa) w := fun _ => by kernel_rfl
      have ix1 : ∀ w, (Instr.index 62 (.agg #[.int .u32 sa, .int .u32 sb, .int .u32 sc, .int .u32 sd, .int .u32 se, .int .u32 sf, .int .u32 sg, .int .u32 sh]) (.int .i64 1)).run Tryd.prog w = .ok (.int .u32 sb) w := fun _ => by kernel_rfl
      have ix2 : ∀ w, (Instr.index 62 (.agg #[.int .u32 sa, .int .u32 sb, .int .u32 sc, .int .u32 sd, .int .u32 se, .int .u32 sf, .int .u32 sg, .int .u32 sh]) (.int .i64 2)).run Tryd.prog w = .ok (.int .u32 sc) w := fun _ => by kernel_rfl
      have ix3 : ∀ w, (Instr.index 62 (.agg #[.int .u32 sa, .int .u32 sb, .int .u32 sc, .int .u32 sd, .int .u32 se, .int .u32 sf, .int .u32 sg, .int .u32 sh]) (.int .i64 3)).run Tryd.prog w = .ok (.int .u32 sd) w := fun _ => by kernel_rfl
      have ix4 : ∀ w, (Instr.index 62 (.agg #[.int .u32 sa, .int .u32 sb, .int .u32 sc, .int .u32 sd, .int .u32 se, .int .u32 sf, .int .u32 sg, .int .u32 sh]) (.int .i64 4)).run Tryd.prog w = .ok (.int .u32 se) w := fun _ => by kernel_rfl
      have ix5 : ∀ w, (Instr.index 62 (.agg #[.int .u32 sa, .int .u32 sb, .int .u32 sc, .int .u32 sd, .int .u32 se, .int .u32 sf, .int .u32 sg, .int .u32 sh]) (.int .i64 5)).run Tryd.prog w = .ok (.int .u32 sf) w := fun _ => by kernel_rfl
      have ix6 : ∀ w, (Instr.index 62 (.agg #[.int .u32 sa, .int .u32 sb, .int .u32 sc, .int .u32 sd, .int .u32 se, .int .u32 sf, .int .u32 sg, .int .u32 sh]) (.int .i64 6)).run Tryd.prog w = .ok (.int .u32 sg) w := fun _ => by kernel_rfl
      have ix7 : ∀ w, (Instr.index 62 (.agg #[.int .u32 sa, .int .u32 sb, .int .u32 sc, .int .u32 sd, .int .u32 se, .int .u32 sf, .int .u32 sg, .int .u32 sh]) (.int .i64 7)).run Tryd.prog w = .ok (.int .u32 sh) w := fun _ => by kernel_rfl
      have X0 := Lib.hid HOK.out
      go_wp2_with fail
      rename World => W1
      go_loopw [112] (fun i wr => ∃ (m : Nat) , m ≤ 8 ∧ i = .int .i64 m ∧ Blk wr w.heap.size 62 (IV .u32 (((s0.add ⟨sa, sb, sc, sd, se, sf, sg, sh⟩).list.take m) ++ s0.list.drop m)).toArray ∧ Blk wr (w.heap.size + 1 + 1) 62 (IV .u32 [0, 0, 0, 0, 0, 0, 0, 0]).toArray ∧ Below w.heap.size w wr) (fun i _ => 8 - (intOf i).toNat)
      case atStart => exact ⟨0, by omega, rfl, HB0.out, HB2.out, ⟨HBL.out.os, HBL.out.tape, HBL.out.output, HBL.out.size, HBL.out.block⟩⟩
      case round =>
        obtain ⟨m, hm, rfl, hblk, hblk2, bel⟩ := hrel
        have HBK2 := Lib.hid hblk2
        have HBEL := Lib.hid bel
        have HBK := Lib.hid hblk
        clear hblk2 bel hblk
        rcases (show m = 0 ∨ m = 1 ∨ m = 2 ∨ m = 3 ∨ m = 4 ∨ m = 5 ∨ m = 6 ∨ m = 7 ∨ m = 8 by omega) with rfl | rfl | rfl | rfl | rfl | rfl | rfl | rfl | rfl
        · have hc := HBK.out.cell_i (i := 0) (x := s0.a) rfl
          have hf := HBK.out.frozen 0
          go_wp2
          go_roundw
          case rel => exact ⟨1, by omega, rfl, HBK.out.store_i 0 _, HBK2.out.far (p := ⟨w.heap.size, 0, none⟩) (by show w.heap.size + 1 + 1 ≠ w.heap.size; omega) _, HBEL.out.setCell (Nat.le_refl _) _⟩
          case measure => simp [intOf]
        · have hc := HBK.out.cell_i (i := 1) (x := s0.b) rfl
          have hf := HBK.out.frozen 1
          go_wp2
          go_roundw
          case rel => exact ⟨2, by omega, rfl, HBK.out.store_i 1 _, HBK2.out.far (p := ⟨w.heap.size, 1, none⟩) (by show w.heap.size + 1 + 1 ≠ w.heap.size; omega) _, HBEL.out.setCell (Nat.le_refl _) _⟩
          case measure => simp [intOf]
        · have hc := HBK.out.cell_i (i := 2) (x := s0.c) rfl
          have hf := HBK.out.frozen 2
          go_wp2
          go_roundw
          case rel => exact ⟨3, by omega, rfl, HBK.out.store_i 2 _, HBK2.out.far (p := ⟨w.heap.size, 2, none⟩) (by show w.heap.size + 1 + 1 ≠ w.heap.size; omega) _, HBEL.out.setCell (Nat.le_refl _) _⟩
          case measure => simp [intOf]
        · have hc := HBK.out.cell_i (i := 3) (x := s0.d) rfl
          have hf := HBK.out.frozen 3
          go_wp2
          go_roundw
          case rel => exact ⟨4, by omega, rfl, HBK.out.store_i 3 _, HBK2.out.far (p := ⟨w.heap.size, 3, none⟩) (by show w.heap.size + 1 + 1 ≠ w.heap.size; omega) _, HBEL.out.setCell (Nat.le_refl _) _⟩
          case measure => simp [intOf]
        · have hc := HBK.out.cell_i (i := 4) (x := s0.e) rfl
          have hf := HBK.out.frozen 4
          go_wp2
          go_roundw
          case rel => exact ⟨5, by omega, rfl, HBK.out.store_i 4 _, HBK2.out.far (p := ⟨w.heap.size, 4, none⟩) (by show w.heap.size + 1 + 1 ≠ w.heap.size; omega) _, HBEL.out.setCell (Nat.le_refl _) _⟩
          case measure => simp [intOf]
        · have hc := HBK.out.cell_i (i := 5) (x := s0.f) rfl
          have hf := HBK.out.frozen 5
          go_wp2
          go_roundw
          case rel => exact ⟨6, by omega, rfl, HBK.out.store_i 5 _, HBK2.out.far (p := ⟨w.heap.size, 5, none⟩) (by show w.heap.size + 1 + 1 ≠ w.heap.size; omega) _, HBEL.out.setCell (Nat.le_refl _) _⟩
          case measure => simp [intOf]
        · have hc := HBK.out.cell_i (i := 6) (x := s0.g) rfl
          have hf := HBK.out.frozen 6
          go_wp2
          go_roundw
          case rel => exact ⟨7, by omega, rfl, HBK.out.store_i 6 _, HBK2.out.far (p := ⟨w.heap.size, 6, none⟩) (by show w.heap.size + 1 + 1 ≠ w.heap.size; omega) _, HBEL.out.setCell (Nat.le_refl _) _⟩
          case measure => simp [intOf]
        · have hc := HBK.out.cell_i (i := 7) (x := s0.h) rfl
          have hf := HBK.out.frozen 7
          go_wp2
          go_roundw
          case rel => exact ⟨8, by omega, rfl, HBK.out.store_i 7 _, HBK2.out.far (p := ⟨w.heap.size, 7, none⟩) (by show w.heap.size + 1 + 1 ≠ w.heap.size; omega) _, HBEL.out.setCell (Nat.le_refl _) _⟩
          case measure => simp [intOf]
        · have hfin : (s0.add ⟨sa, sb, sc, sd, se, sf, sg, sh⟩).list.take 8 ++ s0.list.drop 8 = (s0.add ⟨sa, sb, sc, sd, se, sf, sg, sh⟩).list := rfl
          have hc0 := HBK.out.cell_i (i := 0) (x := (s0.a + sa) % 4294967296) rfl
          have hd0 := HBK2.out.cell_i (i := 0) (x := 0) rfl
          have hf0 := HBK2.out.frozen 0
          have hc1 := HBK.out.cell_i (i := 1) (x := (s0.b + sb) % 4294967296) rfl
          have hd1 := HBK2.out.cell_i (i := 1) (x := 0) rfl
          have hf1 := HBK2.out.frozen 1
          have hc2 := HBK.out.cell_i (i := 2) (x := (s0.c + sc) % 4294967296) rfl
          have hd2 := HBK2.out.cell_i (i := 2) (x := 0) rfl
          have hf2 := HBK2.out.frozen 2
          have hc3 := HBK.out.cell_i (i := 3) (x := (s0.d + sd) % 4294967296) rfl
          have hd3 := HBK2.out.cell_i (i := 3) (x := 0) rfl
          have hf3 := HBK2.out.frozen 3
          have hc4 := HBK.out.cell_i (i := 4) (x := (s0.e + se) % 4294967296) rfl
          have hd4 := HBK2.out.cell_i (i := 4) (x := 0) rfl
          have hf4 := HBK2.out.frozen 4
          have hc5 := HBK.out.cell_i (i := 5) (x := (s0.f + sf) % 4294967296) rfl
          have hd5 := HBK2.out.cell_i (i := 5) (x := 0) rfl
          have hf5 := HBK2.out.frozen 5
          have hc6 := HBK.out.cell_i (i := 6) (x := (s0.g + sg) % 4294967296) rfl
          have hd6 := HBK2.out.cell_i (i := 6) (x := 0) rfl
          have hf6 := HBK2.out.frozen 6
          have hc7 := HBK.out.cell_i (i := 7) (x := (s0.h + sh) % 4294967296) rfl
          have hd7 := HBK2.out.cell_i (i := 7) (x := 0) rfl
          have hf7 := HBK2.out.frozen 7
          have hfb := ((((((((HBK2.out.store_i 0 ((s0.a + sa) % 4294967296)).store_i 1 ((s0.b + sb) % 4294967296)).store_i 2 ((s0.c + sc) % 4294967296)).store_i 3 ((s0.d + sd) % 4294967296)).store_i 4 ((s0.e + se) % 4294967296)).store_i 5 ((s0.f + sf) % 4294967296)).store_i 6 ((s0.g + sg) % 4294967296)).store_i 7 ((s0.h + sh) % 4294967296))
          have hfl := ((((((((HBEL.out.setCell (p := ⟨w.heap.size + 1 + 1, 0, none⟩) (by show w.heap.size ≤ w.heap.size + 1 + 1; omega) (.int .u32 ((s0.a + sa) % 4294967296))).setCell (p := ⟨w.heap.size + 1 + 1, 1, none⟩) (by show w.heap.size ≤ w.heap.size + 1 + 1; omega) (.int .u32 ((s0.b + sb) % 4294967296))).setCell (p := ⟨w.heap.size + 1 + 1, 2, none⟩) (by show w.heap.size ≤ w.heap.size + 1 + 1; omega) (.int .u32 ((s0.c + sc) % 4294967296))).setCell (p := ⟨w.heap.size + 1 + 1, 3, none⟩) (by show w.heap.size ≤ w.heap.size + 1 + 1; omega) (.int .u32 ((s0.d + sd) % 4294967296))).setCell (p := ⟨w.heap.size + 1 + 1, 4, none⟩) (by show w.heap.size ≤ w.heap.size + 1 + 1; omega) (.int .u32 ((s0.e + se) % 4294967296))).setCell (p := ⟨w.heap.size + 1 + 1, 5, none⟩) (by show w.heap.size ≤ w.heap.size + 1 + 1; omega) (.int .u32 ((s0.f + sf) % 4294967296))).setCell (p := ⟨w.heap.size + 1 + 1, 6, none⟩) (by show w.heap.size ≤ w.heap.size + 1 + 1; omega) (.int .u32 ((s0.g + sg) % 4294967296))).setCell (p := ⟨w.heap.size + 1 + 1, 7, none⟩) (by show w.heap.size ≤ w.heap.size + 1 + 1; omega) (.int .u32 ((s0.h + sh) % 4294967296)))
          have hcom : compr s0 ws = s0.add ⟨sa, sb, sc, sd, se, sf, sg, sh⟩ := by rw [compr, ← HS.out]
          go_wp2
          generalize hW : ((((((((wr.setCell _ _).setCell _ _).setCell _ _).setCell _ _).setCell _ _).setCell _ _).setCell _ _).setCell _ _) = Wf at hfb hfl ⊢
          clear hW
          have hr0 := hfb.cell_i (i := 0) (x := (s0.a + sa) % 4294967296) rfl
          have hr1 := hfb.cell_i (i := 1) (x := (s0.b + sb) % 4294967296) rfl
          have hr2 := hfb.cell_i (i := 2) (x := (s0.c + sc) % 4294967296) rfl
          have hr3 := hfb.cell_i (i := 3) (x := (s0.d + sd) % 4294967296) rfl
          have hr4 := hfb.cell_i (i := 4) (x := (s0.e + se) % 4294967296) rfl
          have hr5 := hfb.cell_i (i := 5) (x := (s0.f + sf) % 4294967296) rfl
          have hr6 := hfb.cell_i (i := 6) (x := (s0.g + sg) % 4294967296) rfl
          have hr7 := hfb.cell_i (i := 7) (x := (s0.h + sh) % 4294967296) rfl
          rw [hcom]
          refine bodyPost_ret (v := .agg (IV .u32 (s0.add ⟨sa, sb, sc, sd, se, sf, sg, sh⟩).list).toArray) ?_ rfl ⟨rfl, hfl⟩
          simp [results, Tryd.results36, go_sem, hr0, hr1, hr2, hr3, hr4, hr5, hr6, hr7]
          rfl
end Go.Proofs.YtfpgnaeiiponmaaDoor
