import Derived.Test.YtfpgnaeiiponmaaDoorShaA
import Derived.Laws.CopyOwn
namespace Go.Proofs.YtfpgnaeiiponmaaDoor
open Go.RowKit
set_option linter.unusedVariables false

/-- The digest under way, as its block holds it. -/
def Dg (w : World) (g : Nat) (st blk : List Int) (held total : Int) : Prop :=
  Blk w g 64 (IV .u32 st ++ IV .u8 blk ++ [Value.int .i64 held, Value.int .u64 total]).toArray ∧ st.length = 8 ∧ blk.length = 64
section
variable {w w' : World} {g : Nat} {st blk : List Int} {held total : Int}
theorem Dg.below {B : Nat} (h : Dg w g st blk held total) (hb : Below B w w') (hg : g < B) : Dg w' g st blk held total := ⟨h.1.below hb hg, h.2⟩
theorem Dg.atSt (h : Dg w g st blk held total) {i : Nat} {x : Int} (hx : st[i]? = some x) : w.cell? ⟨g, i, none⟩ = some (.int .u32 x) := by
  have hi : i < st.length := by
    rcases Nat.lt_or_ge i st.length with h | h
    · exact h
    · rw [List.getElem?_eq_none h] at hx; cases hx
  rw [h.1.cell, List.getElem?_toArray, List.append_assoc, List.getElem?_append_left (by rw [IV_length]; exact hi)]
  simp [IV, hx]
theorem Dg.atBlk (h : Dg w g st blk held total) {i : Nat} {x : Int} (hx : blk[i]? = some x) : w.cell? ⟨g, 8 + i, none⟩ = some (.int .u8 x) := by
  have hi : i < blk.length := by
    rcases Nat.lt_or_ge i blk.length with h | h
    · exact h
    · rw [List.getElem?_eq_none h] at hx; cases hx
  rw [h.1.cell, List.getElem?_toArray, List.append_assoc, List.getElem?_append_right (by rw [IV_length, h.2.1]; omega), IV_length, h.2.1, Nat.add_sub_cancel_left, List.getElem?_append_left (by rw [IV_length]; exact hi)]
  simp [IV, hx]
theorem Dg.atHeld (h : Dg w g st blk held total) : w.cell? ⟨g, 72, none⟩ = some (.int .i64 held) := by
  rw [h.1.cell, List.getElem?_toArray, List.getElem?_append_right (by rw [List.length_append, IV_length, IV_length, h.2.1, h.2.2]; omega), List.length_append, IV_length, IV_length, h.2.1, h.2.2]
  rfl
theorem Dg.atTotal (h : Dg w g st blk held total) : w.cell? ⟨g, 73, none⟩ = some (.int .u64 total) := by
  rw [h.1.cell, List.getElem?_toArray, List.getElem?_append_right (by rw [List.length_append, IV_length, IV_length, h.2.1, h.2.2]; omega), List.length_append, IV_length, IV_length, h.2.1, h.2.2]
  rfl
end

theorem Blk.row {w : World} {g : Nat} {t : TypeId} {cs : Array Value} (h : Blk w g t cs) (cs' : Array Value) : Blk (w.setRow g cs') g t cs' := by
  unfold Blk at h ⊢
  simp [World.setRow, Array.getElem?_modify, h]
theorem arr64_len : Tryd.prog.arrayLen 50 = 64 := by kernel_rfl
theorem arr64_elem : Tryd.prog.elem 50 = 5 := by kernel_rfl
/-- A piece of the block in the digest. -/
theorem slice_arr (g o lo hi : Nat) (kd kd' : IntKind) (z z' : Int) (hz : z = lo) (hz' : z' = hi) (h1 : lo ≤ hi) (h2 : hi ≤ 64) (h3 : lo < 64) (w : World) :
    (Instr.sliceAt 50 (.pointer (some ⟨g, o, none⟩)) (some (.int kd z)) (some (.int kd' z')) none).run Tryd.prog w = .ok (.slice (some ⟨g, o + lo, none⟩) (hi - lo) (64 - lo)) w := by
  subst hz; subst hz'
  rw [run_sliceAt_array_lh (P := Tryd.prog) w 50 ⟨g, o, none⟩ (by rw [arr64_len, arr64_elem]; exact Tryd.underlying50) kd kd' (lo : Int) (hi : Int) (by omega) (by omega) (by rw [arr64_len]; omega), arr64_elem, run_sizeOf_u8, arr64_len]
  simp only [Result.andThen_ok, slicedAt, Int.toNat_natCast]
  rw [if_neg (by omega)]
  simp only [Nat.mul_one, Addr.add]
  by_cases h : lo = 0
  · subst h; simp
  · simp [h]

set_option maxRecDepth 100000 in
set_option maxHeartbeats 1600000 in
theorem schedule_any (g : Nat) (st blk : List Int) (held total : Int) (w : World) (hd : Dg w g st blk held total) (hb : Bytes blk) :
    Calls Tryd.prog 37 #[.pointer (some ⟨g, 0, none⟩)] w fun e w' => e = .returned (.agg (IV .u32 (sch blk 64)).toArray) ∧ Below w.heap.size w w' := by
  have hg := hd.1.lt
  have HD := Lib.hid hd
  have HB := Lib.hid hb
  obtain ⟨L, hL⟩ : ∃ L, L = sch blk 64 := ⟨_, rfl⟩
  have hLl : L.length = 64 := by rw [hL]; exact sch_length _ _
  rw [← hL]
  have HL := Lib.hid hL
  clear hd hb hL
  go_enter Tryd.func37, Tryd.ntmps37
  go_wp2_with fail
  have HZ : (w.alloc (.cells (IV .u32 (List.replicate 64 0)).toArray 69)).alloc (.cells (IV .u32 (List.replicate 64 0)).toArray 69) = (w.alloc (.cells (IV .u32 (List.replicate 64 0)).toArray 69)).alloc (.cells (IV .u32 (List.replicate 64 0)).toArray 69) := rfl
  have b1 : Blk ((w.alloc (.cells (IV .u32 (List.replicate 64 0)).toArray 69)).alloc (.cells (IV .u32 (List.replicate 64 0)).toArray 69)) w.heap.size 69 (IV .u32 (List.replicate 64 0)).toArray := (Blk.new _ _ _).alloc _
  have b2 : Blk ((w.alloc (.cells (IV .u32 (List.replicate 64 0)).toArray 69)).alloc (.cells (IV .u32 (List.replicate 64 0)).toArray 69)) (w.heap.size + 1) 69 (IV .u32 (List.replicate 64 0)).toArray := by
    have := Blk.new (w.alloc (.cells (IV .u32 (List.replicate 64 0)).toArray 69)) 69 (IV .u32 (List.replicate 64 0)).toArray
    simpa using this
  have bl : Below w.heap.size w ((w.alloc (.cells (IV .u32 (List.replicate 64 0)).toArray 69)).alloc (.cells (IV .u32 (List.replicate 64 0)).toArray 69)) := ((Below.refl _ _).alloc (Nat.le_refl _) _).alloc (by simp) _
  change Code.wp _ _ _ _ ((w.alloc (.cells (IV .u32 (List.replicate 64 0)).toArray 69)).alloc (.cells (IV .u32 (List.replicate 64 0)).toArray 69))
  generalize ((w.alloc (.cells (IV .u32 (List.replicate 64 0)).toArray 69)).alloc (.cells (IV .u32 (List.replicate 64 0)).toArray 69)) = W at b1 b2 bl ⊢
  clear HZ
  go_loopw [11] (fun i wr => ∃ (j : Nat), j ≤ 16 ∧ i = .int .i64 j ∧ Blk wr (w.heap.size + 1) 69 (IV .u32 (sch blk j ++ List.replicate (64 - j) 0)).toArray ∧ Blk wr w.heap.size 69 (IV .u32 (List.replicate 64 0)).toArray ∧ Below w.heap.size w wr) (fun i _ => 16 - (intOf i).toNat)
  case atStart => exact ⟨0, by omega, rfl, b2, b1, bl⟩
  case round =>
    obtain ⟨j, hj, rfl, k2, k1, bel⟩ := hrel
    by_cases hj16 : j < 16
    · have hlen := HD.out.2.2
      have hd := HD.out.below bel hg
      have get : ∀ t, t < 4 → ∃ x, blk[4 * j + t]? = some x ∧ wr.cell? ⟨g, 8 + 4 * j + t, none⟩ = some (.int .u8 x) ∧ 0 ≤ x ∧ x < 256 := by
        intro t ht
        have hx := List.getElem?_eq_getElem (l := blk) (i := 4 * j + t) (by omega)
        have := hd.atBlk hx
        rw [← Nat.add_assoc] at this
        exact ⟨_, hx, this, HB.out.at hx⟩
      obtain ⟨x0, y0, z0, p0, r0⟩ := get 0 (by omega)
      obtain ⟨x1, y1, z1, p1, r1⟩ := get 1 (by omega)
      obtain ⟨x2, y2, z2, p2, r2⟩ := get 2 (by omega)
      obtain ⟨x3, y3, z3, p3, r3⟩ := get 3 (by omega)
      have hwat : wat blk j = x0 * 16777216 + x1 * 65536 + x2 * 256 + x3 := by
        unfold wat
        simp only [List.getD, y1, y2, y3, Option.getD_some]
        rw [Nat.add_zero] at y0
        rw [y0]; rfl
      have HW := Lib.hid hwat
      have K2 := Lib.hid k2
      have K1 := Lib.hid k1
      have BEL := Lib.hid bel
      rw [Nat.add_zero] at z0
      have hfr := k2.frozen j
      have hcz : wr.cell? ⟨w.heap.size + 1, j, none⟩ = some (.int .u32 0) := k2.cell_i (by rw [List.getElem?_append_right (by rw [sch_length]; omega), sch_length, Nat.sub_self, List.getElem?_replicate, if_pos (by omega)])
      have hj1 : (j : Int) < 64 := by omega
      have hsl := fun w => slice_arr g 8 (4 * j) (4 * j + 4) .i64 .i64 (4 * (j : Int)) (4 * (j : Int) + 4) (by omega) (by omega) (by omega) (by omega) (by omega) w
      rw [Nat.add_sub_cancel_left] at hsl
      clear get y0 y1 y2 y3 hwat k1 k2 bel hd hlen
      go_wp2_with fail
      refine wp_region_still_tail 24 (by kernel_rfl) (by kernel_rfl) ?_
      simp only [List.take_succ_cons, List.take_zero, List.drop_succ_cons, List.drop_zero]
      obtain ⟨w2, hw2⟩ : ∃ w2, w2 = wr.drew := ⟨_, rfl⟩
      have K2' : Blk w2 (w.heap.size + 1) 69 (IV .u32 (sch blk j ++ List.replicate (64 - j) 0)).toArray := by rw [hw2]; exact K2.out
      have K1' : Blk w2 w.heap.size 69 (IV .u32 (List.replicate 64 0)).toArray := by rw [hw2]; exact K1.out
      have BEL' : Below w.heap.size w w2 := by rw [hw2]; exact BEL.out.drew
      have z0 : w2.cell? ⟨g, 8 + 4 * j, none⟩ = some (.int .u8 x0) := by rw [hw2]; exact z0
      have z1 : w2.cell? ⟨g, 8 + 4 * j + 1, none⟩ = some (.int .u8 x1) := by rw [hw2]; exact z1
      have z2 : w2.cell? ⟨g, 8 + 4 * j + 2, none⟩ = some (.int .u8 x2) := by rw [hw2]; exact z2
      have z3 : w2.cell? ⟨g, 8 + 4 * j + 3, none⟩ = some (.int .u8 x3) := by rw [hw2]; exact z3
      have hcz : w2.cell? ⟨w.heap.size + 1, j, none⟩ = some (.int .u32 0) := by rw [hw2]; exact hcz
      have hfr : w2.frozen? ⟨w.heap.size + 1, j, none⟩ = false := by rw [hw2]; exact hfr
      show wpStill _ _ wr.drew (fun a' => wpList _ _ _ _ a' wr.drew) _ _
      rw [← hw2]
      have HK2 := Lib.hid K2'
      have HK1 := Lib.hid K1'
      have HBEL := Lib.hid BEL'
      have hj64 : j < 64 := by omega
      clear hw2 K2' K1' BEL' K2 K1 BEL
      repeat still_step
      refine wpStill_nil ?_
      go_wp2
      go_roundw
      case rel =>
        rw [join4 _ _ _ _ ⟨p0, r0⟩ ⟨p1, r1⟩ ⟨p2, r2⟩ ⟨p3, r3⟩, ← HW.out]
        have hsch : sch blk (j + 1) = sch blk j ++ [wat blk j] := by rw [sch, if_pos hj16]
        have hst := HK2.out.store_i j (wat blk j)
        rw [sch_set blk j hj64 _ hsch] at hst
        exact ⟨j + 1, by omega, by go_num, hst, HK1.out.far (p := ⟨w.heap.size + 1, j, none⟩) (by show w.heap.size ≠ w.heap.size + 1; omega) _, HBEL.out.setCell (by show w.heap.size ≤ w.heap.size + 1; omega) _⟩
      case measure => simp [intOf]; omega
    · obtain rfl : j = 16 := by omega
      rename World => W1
      have e16 : ((16 : Nat) : Int) = 16 := rfl
      rw [e16]
      clear e16
      have K2 := Lib.hid k2
      have K1 := Lib.hid k1
      have BEL := Lib.hid bel
      clear k2 k1 bel b1 b2 bl
      go_wp2_with fail
      go_loopw [6] (fun i wr => ∃ (n : Nat), 16 ≤ n ∧ n ≤ 64 ∧ i = .int .i64 n ∧ Blk wr (w.heap.size + 1) 69 (IV .u32 (sch blk n ++ List.replicate (64 - n) 0)).toArray ∧ Blk wr w.heap.size 69 (IV .u32 (List.replicate 64 0)).toArray ∧ Below w.heap.size w wr) (fun i _ => 64 - (intOf i).toNat)
      case atStart => exact ⟨16, by omega, by omega, rfl, K2.out, K1.out, BEL.out⟩
      case round =>
        obtain ⟨n, hn16, hn, rfl, k2, k1, bel⟩ := hrel
        have hsl := sch_length blk n
        by_cases hn64 : n < 64
        · have get : ∀ t, 1 ≤ t → t ≤ 16 → ∃ x, (sch blk n).getD (n - t) 0 = x ∧ wr.cell? ⟨w.heap.size + 1, n - t, none⟩ = some (.int .u32 x) ∧ 0 ≤ x ∧ x < 4294967296 := by
            intro t h1 h2
            have hx := List.getElem?_eq_getElem (l := sch blk n) (i := n - t) (by omega)
            have hok := sch_ok HB.out n _ (List.mem_of_getElem? hx)
            refine ⟨_, rfl, ?_, ?_⟩
            · rw [List.getD, hx]
              exact k2.cell_i (by rw [List.getElem?_append_left (by omega)]; exact hx)
            · rw [List.getD, hx]; exact hok
          obtain ⟨x15, e15, z15, p15, r15⟩ := get 15 (by omega) (by omega)
          obtain ⟨x2, e2, z2, p2, r2⟩ := get 2 (by omega) (by omega)
          obtain ⟨x16, e16, z16, p16, r16⟩ := get 16 (by omega) (by omega)
          obtain ⟨x7, e7, z7, p7, r7⟩ := get 7 (by omega) (by omega)
          have hsch : sch blk (n + 1) = sch blk n ++ [(x16 + ws0 x15 + x7 + ws1 x2) % 4294967296] := by rw [sch, if_neg (by omega), e15, e2, e16, e7]
          have hcz : wr.cell? ⟨w.heap.size + 1, n, none⟩ = some (.int .u32 0) := k2.cell_i (by rw [List.getElem?_append_right (by omega), hsl, Nat.sub_self, List.getElem?_replicate, if_pos (by omega)])
          have hfr := k2.frozen n
          have HSCH := Lib.hid hsch
          have K2 := Lib.hid k2
          have K1 := Lib.hid k1
          have BEL := Lib.hid bel
          have i1 : (15 : Int) ≤ (n : Int) := by omega
          have i2 : (n : Int) < 64 := by omega
          clear get e15 e2 e16 e7 hsch k2 k1 bel hsl
          go_wp2_with fail
          go_quiet (fail)
          go_wp2_with (go_at_call 38; go_must (refine (rot_any _ _ _ (by assumption) (by assumption)).mono ?_); rintro e w' ⟨rfl, rfl⟩)
          refine wp_region_still_tail 15 (by kernel_rfl) (by kernel_rfl) ?_
          simp only [List.take_succ_cons, List.take_zero, List.drop_succ_cons, List.drop_zero]
          obtain ⟨w2, hw2⟩ : ∃ w2, w2 = (wr.drewN nq).drew := ⟨_, rfl⟩
          have K2' : Blk w2 (w.heap.size + 1) 69 (IV .u32 (sch blk n ++ List.replicate (64 - n) 0)).toArray := by rw [hw2]; exact K2.out
          have K1' : Blk w2 w.heap.size 69 (IV .u32 (List.replicate 64 0)).toArray := by rw [hw2]; exact K1.out
          have BEL' : Below w.heap.size w w2 := by rw [hw2]; exact ⟨BEL.out.os, BEL.out.tape, BEL.out.output, BEL.out.size, BEL.out.block⟩
          have z16 : w2.cell? ⟨w.heap.size + 1, n - 16, none⟩ = some (.int .u32 x16) := by rw [hw2]; exact z16
          have z7 : w2.cell? ⟨w.heap.size + 1, n - 7, none⟩ = some (.int .u32 x7) := by rw [hw2]; exact z7
          have hcz : w2.cell? ⟨w.heap.size + 1, n, none⟩ = some (.int .u32 0) := by rw [hw2]; exact hcz
          have hfr : w2.frozen? ⟨w.heap.size + 1, n, none⟩ = false := by rw [hw2]; exact hfr
          show wpStill _ _ (wr.drewN nq).drew (fun a' => wpList _ _ _ _ a' (wr.drewN nq).drew) _ _
          rw [← hw2]
          have HK2 := Lib.hid K2'
          have HK1 := Lib.hid K1'
          have HBEL := Lib.hid BEL'
          have i3 : n - 16 < 64 := by omega
          have i4 : n - 7 < 64 := by omega
          clear hw2 K2' K1' BEL' K2 K1 BEL z15 z2
          have v1 : IntKind.i64.wrap ((n : Int) - 16) = ((n - 16 : Nat) : Int) := by rw [IntWalk.i64_in _ (by omega)]; omega
          have v2 : IntKind.i64.wrap ((n : Int) - 7) = ((n - 7 : Nat) : Int) := by rw [IntWalk.i64_in _ (by omega)]; omega
          have i5 : ((n - 16 : Nat) : Int) < 64 := by omega
          have i6 : ((n - 7 : Nat) : Int) < 64 := by omega
          repeat still_step
          refine wpStill_nil ?_
          clear v1 v2
          go_wp2
          go_roundw
          case rel =>
            have o15 : W32 x15 := ⟨p15, r15⟩
            have o2 : W32 x2 := ⟨p2, r2⟩
            have q1 : bits .xor .u32 (bits .xor .u32 (rotl x15 (rotS (-7))) (rotl x15 (rotS (-18)))) (x15 / 8) = ws0 x15 := by
              rw [show rotS (-7) = 25 by kernel_rfl, show rotS (-18) = 14 by kernel_rfl, rotl_rotr (t := 7) o15 rfl rfl, rotl_rotr (t := 18) o15 rfl rfl]; rfl
            have q2 : bits .xor .u32 (bits .xor .u32 (rotl x2 (rotS (-17))) (rotl x2 (rotS (-19)))) (x2 / 1024) = ws1 x2 := by
              rw [show rotS (-17) = 15 by kernel_rfl, show rotS (-19) = 13 by kernel_rfl, rotl_rotr (t := 17) o2 rfl rfl, rotl_rotr (t := 19) o2 rfl rfl]; rfl
            have hst := HK2.out.store_i n ((x16 + ws0 x15 + x7 + ws1 x2) % 4294967296)
            rw [sch_set blk n hn64 _ HSCH.out] at hst
            rw [q1, q2]
            exact ⟨n + 1, by omega, by omega, by go_num, hst, HK1.out.far (p := ⟨w.heap.size + 1, n, none⟩) (by show w.heap.size ≠ w.heap.size + 1; omega) _, HBEL.out.setCell (by show w.heap.size ≤ w.heap.size + 1; omega) _⟩
          case measure => simp [intOf]; omega
        · obtain rfl : n = 64 := by omega
          rw [Nat.sub_self, List.replicate_zero, List.append_nil, ← HL.out] at k2
          have hsz : (IV .u32 L).toArray.size = 64 := by simp [IV, hLl]
          have hinfo : (Tryd.prog.info? 69).map (·.size) = some 64 := by kernel_rfl
          have hall : (IV .u32 L).toArray.all (·.oneCell') = true := by simp [IV, Value.oneCell']
          have k2' : wr.heap[w.heap.size + 1]? = some (.cells (IV .u32 L).toArray 69 (0, 0)) := k2
          have k1' : wr.heap[w.heap.size]? = some (.cells (IV .u32 (List.replicate 64 0)).toArray 69 (0, 0)) := k1
          have H2 := Lib.hid k2'
          have H1 := Lib.hid k1'
          have HSZ := Lib.hid hsz
          have HIN := Lib.hid hinfo
          have HAL := Lib.hid hall
          clear k2' k1' k1 k2 hsl hsz hinfo hall hLl
          rw [show ((64 : Nat) : Int) = 64 from rfl]
          go_wp2_with (first
            | refine wpList_load_row rfl 69 (.tmp 3) rfl (w.heap.size + 1) rfl 69 (IV .u32 L).toArray (0, 0) _ H2.out Tryd.underlying69 rfl (by rw [HSZ.out]; exact HIN.out) ?_
            | refine wpList_store_row rfl 69 (.tmp 2) (.tmp 91) rfl w.heap.size (IV .u32 L).toArray rfl rfl 69 _ H1.out (by rw [HSZ.out]; exact HIN.out) (by rw [HSZ.out]; simp [IV]) HAL.out ?_)
          refine bodyPost_ret (v := .agg (IV .u32 L).toArray) (results_cell_row rfl _ _ w.heap.size 69 _ (0, 0) _ rfl (Blk.row H1.out _) Tryd.underlying69 rfl (by rw [HSZ.out]; exact HIN.out)) rfl ⟨rfl, below_setRow bel (Nat.le_refl _) _⟩
end Go.Proofs.YtfpgnaeiiponmaaDoor
