/-
  LossPlays: the walk.
-/
import Derived.Test.YtefhbiocddgijaaRLossJ
import Derived.Deep.DeepCutAuto
import Derived.Deep.CutBlock
import Derived.Deep.RegionHeld3
import Derived.Deep.QuietTactic
import Derived.BigQuiet
namespace Go.Proofs.Ytefhbiocddgijaa
open Go.RowKit
set_option linter.unusedVariables false
set_option linter.unusedSimpArgs false
theorem elem_rg' : Try.prog.elem 33 = 61 := by kernel_rfl
theorem run_sizeOf_rg' (w : World) : (sizeOf 61).run Try.prog w = .ok 2 w := by
  obtain ⟨i0, hi0, hz0, hz1, hz2⟩ := info_parts info_range
  simp [sizeOf, typeInfo, hi0, hz1]
theorem slice_rg' (A : Option Addr) (c n k : Nat) (z : Int) (hz : z = k) (hk : k ≤ n) (hc : n ≤ c) (w : World) :
    (Instr.slice 33 (.slice A n c) none (some (.int .i64 z)) none).run Try.prog w = .ok (.slice A k c) w := by
  subst hz
  rw [run_slice_h (P := Try.prog) w 33 A n c (by rw [elem_rg']; exact Try.underlying33) .i64 (k : Int) (by omega) (by omega), elem_rg', run_sizeOf_rg']
  cases A <;> simp [sliced, Addr.add]
theorem elem_rp : Try.prog.elem 27 = 32 := by kernel_rfl
theorem run_sizeOf_rp (w : World) : (sizeOf 32).run Try.prog w = .ok 5 w := by
  obtain ⟨i0, hi0, hz0, hz1, hz2⟩ := info_parts info_rpk
  simp [sizeOf, typeInfo, hi0, hz1]
theorem slice_rp (A : Option Addr) (c n k : Nat) (z : Int) (hz : z = k) (hk : k ≤ n) (hc : n ≤ c) (w : World) :
    (Instr.slice 27 (.slice A n c) none (some (.int .i64 z)) none).run Try.prog w = .ok (.slice A k c) w := by
  subst hz
  rw [run_slice_h (P := Try.prog) w 27 A n c (by rw [elem_rp]; exact Try.underlying27) .i64 (k : Int) (by omega) (by omega), elem_rp, run_sizeOf_rp]
  cases A <;> simp [sliced, Addr.add]
theorem OwnV.cap9 {w : World} {base c n : Nat} {A : Option Addr} {e : TypeId} {size : Nat} {xs : List Value} (h : OwnV w base e size A c n xs) : n ≤ c ∧ c ≤ 9223372036854775807 := by
  rcases h.2 with ⟨a1, a2⟩ | ⟨g, cap, cur, hv, _, _, h3, h4, _⟩
  · injection a1 with e1 e2 e3
    omega
  · injection hv with e1 e2 e3
    unfold maxLen at h4
    omega
theorem wfU8 {n : Int} (h : (Lit.int .u8 n).wf = true) : 0 ≤ n ∧ n < 256 := by
  simp [Lit.wf, IntKind.min, IntKind.max, IntKind.signed, IntKind.bits] at h; omega
theorem wfU64 {n : Int} (h : (Lit.int .u64 n).wf = true) : 0 ≤ n ∧ n < 18446744073709551616 := by
  simp [Lit.wf, IntKind.min, IntKind.max, IntKind.signed, IntKind.bits] at h; omega
theorem wfI64 {n : Int} (h : (Lit.int .i64 n).wf = true) : -9223372036854775808 ≤ n ∧ n ≤ 9223372036854775807 := by
  simp [Lit.wf, IntKind.min, IntKind.max, IntKind.signed, IntKind.bits] at h; omega
theorem alikeN : Alike rgN lgN := ⟨rfl, rfl, rfl, rfl⟩
/-- What holds between the steps. -/
structure PQ (no : Bool) (w wr : World) (pl px : Option Addr) (x : RG) (l : LG) : Prop where
  ex : ∃ ul ur, PP no w wr ul ur pl px x l
  al : Alike x l
theorem PQ.alloc {no : Bool} {w wr : World} {pl px : Option Addr} {x : RG} {l : LG} (h : PQ no w wr pl px x l) (o : Obj) : PQ no w (wr.alloc o) pl px x l := by
  obtain ⟨⟨ul, ur, h1⟩, h2⟩ := h
  exact ⟨⟨ul, ur, h1.alloc o⟩, h2⟩
theorem PQ.bel {no : Bool} {w wr : World} {pl px : Option Addr} {x : RG} {l : LG} (h : PQ no w wr pl px x l) : Below w.heap.size w wr := by
  obtain ⟨⟨ul, ur, h1⟩, h2⟩ := h
  exact h1.bel
theorem PQ.at_ {no : Bool} {w wr : World} {pl px : Option Addr} {x : RG} {l : LG} (h : PQ no w wr pl px x l) : PP no w wr wr.heap.size wr.heap.size pl px x l := by
  obtain ⟨⟨ul, ur, h1⟩, h2⟩ := h
  exact h1.topL.topR
set_option maxHeartbeats 64000000 in
set_option maxRecDepth 100000 in
theorem plays9_walk (no : Bool) (A0 : Option Addr) (c0 : Nat) (xs : List LossOp) (w : World) (hr : RdT 9 LossOpC (LossOpOk w) w A0 xs) (hxl : xs.length ≤ 9223372036854775807) :
    Calls Try.prog 3 #[.bool no, .slice A0 xs.length c0] w fun e w' => e = .returned (.bool true) ∧ Below w.heap.size w w' := by
  have HR := Lib.hid hr
  clear hr
  go_enter Try.func3, Try.ntmps3
  go_wp2_with fail
  refine (awake9_any _).mono ?_
  rintro e w1 ⟨rfl, b1⟩
  have B1 := Lib.hid b1
  clear b1
  go_wp2_with fail
  refine (LNew_any w1 w.heap.size B1.out.size).mono ?_
  rintro e w2 ⟨g, rfl, h2, hg, b2⟩
  have hz1 := B1.out.size
  have hz2 := b2.size
  have HL := Lib.hid h2
  have HB2 := Lib.hid (B1.out.trans (b2.mono hz1))
  clear h2 b2
  go_upto_if 35 with (fail)
  obtain ⟨W3, hW3⟩ : ∃ W3, W3 = w2.alloc (.cells #[.slice none 0 0, .int .u64 0, .int .u64 0, .bool false] 30) := ⟨_, rfl⟩
  rw [← hW3]
  have HP := Lib.hid (show PP false w W3 W3.heap.size W3.heap.size (some ⟨g, 0, none⟩) (some ⟨w2.heap.size, 0, none⟩) rgN lgN from by
    rw [hW3]
    have hb : Below w2.heap.size w2 (w2.alloc (.cells #[.slice none 0 0, .int .u64 0, .int .u64 0, .bool false] 30)) := (Below.refl _ _).alloc (Nat.le_refl _) _
    have hgl := HL.out.lt
    have e : ∀ q b, LedS q none b → b = q := fun q b hb => by rcases hb with h | h; exact h; cases h
    refine ⟨HB2.out.trans (hb.mono HB2.out.size), lgN_ok, (fun p hp => by cases hp), by decide, Nat.le_refl _, Nat.le_refl _, (fun e => by cases e), fun _ => ⟨g, none, 0, w2.heap.size, none, 0, rfl, rfl, HL.out.below hb, ⟨Blk.new _ _ _, OwnF.nil _ _, HB2.out.size⟩, ?_, ?_, ?_⟩⟩
    · intro b h1 h2; have := e _ _ h1; have := e _ _ h2; omega
    · intro b h1; have := e _ _ h1; simp; omega
    · intro b h1; have := e _ _ h1; simp; omega)
  have hz3 : w2.heap.size < W3.heap.size := by rw [hW3]; simp
  clear hW3
  go_cut [5, 6] (fun v u wx => ∃ pl px, v = .pointer pl ∧ u = .pointer px ∧ wx = W3 ∧ Hid (PP no w W3 W3.heap.size W3.heap.size pl px rgN lgN))
  case first =>
    cases no with
    | false =>
      go_wp2_with fail
      go_meet
      exact ⟨_, _, rfl, rfl, rfl, HP⟩
    | true =>
      go_wp2_with fail
      go_meet
      exact ⟨none, none, rfl, rfl, rfl, Lib.hid ⟨HP.out.bel, HP.out.ok, HP.out.rk, HP.out.rak, Nat.le_refl _, Nat.le_refl _, fun _ => ⟨rfl, rfl, rfl, rfl⟩, fun e => by cases e⟩⟩
  case rest =>
  obtain ⟨pl, px, rfl, rfl, hwx, HPn⟩ := hcut
  replace hwx := hwx.symm
  subst hwx
  clear HP HL HB2
  have S0 := Lib.hid (show PQ no w W3 pl px rgN lgN from ⟨⟨_, _, HPn.out⟩, alikeN⟩)
  clear HPn
  go_wp2_with fail
  go_loopw [38] (fun i wr => ∃ (k : Nat) (x : RG) (l : LG), k ≤ xs.length ∧ i = .int .i64 k ∧ k ≤ 50 ∧ x.op.length ≤ k ∧ Hid (PQ no w wr pl px x l)) (fun i _ => xs.length - (intOf i).toNat)
  case atStart => exact ⟨0, rgN, lgN, by omega, rfl, by omega, by decide, S0⟩
  case round =>
    obtain ⟨k, x, l, hk, rfl, hk50, hxk, HS⟩ := hrel
    clear S0
    by_cases hlt : k < xs.length
    · obtain ⟨b, off, x', rfl, hb, hx, hok, hc⟩ := (HR.out.below HS.out.bel).at_ hlt
      have q0 := hc 0 (by omega)
      have q1 := hc 1 (by omega)
      have q2 := hc 2 (by omega)
      have q3 := hc 3 (by omega)
      have q4 := hc 4 (by omega)
      have q5 := hc 5 (by omega)
      have q6 := hc 6 (by omega)
      have q7 := hc 7 (by omega)
      have q8 := hc 8 (by omega)
      clear hc hx
      obtain ⟨d, ⟨pn, ps, pz, pa, pg⟩, rA, rc, rr, nw, wt⟩ := x'
      obtain ⟨o0, ⟨o1, o2, o3⟩, o4, o5, o6⟩ := hok
      simp only at o0 o1 o2 o3 o4 o5 o6
      simp [LossOpC] at q0 q1 q2 q3 q4 q5 q6 q7 q8
      have hd0 := wfU8 o0
      obtain ⟨W, hW⟩ : ∃ W, W = wr.alloc (.cells #[.int .u8 d, .int .u64 pn, .int .u64 ps, .int .i64 pz, .bool pa, .bool pg, .slice rA rr.length rc, .int .u64 nw, .int .u64 wt] 35) := ⟨_, rfl⟩
      have HP := Lib.hid (show PP no w W wr.heap.size wr.heap.size pl px x l by rw [hW]; exact HS.out.at_.alloc _)
      have HAL := Lib.hid HS.out.al
      have hKW : Blk W wr.heap.size 35 #[.int .u8 d, .int .u64 pn, .int .u64 ps, .int .i64 pz, .bool pa, .bool pg, .slice rA rr.length rc, .int .u64 nw, .int .u64 wt] := by rw [hW]; exact Blk.new _ _ _
      have HBW := Lib.hid (show Below w.heap.size w W from HP.out.bel)
      have HW := Lib.hid hW
      have hll := HAL.out.len
      clear HS hW
      by_cases hk2 : 50 ≤ k
      · have hd : decide (50 ≤ (k : Int)) = true := by simp; omega
        clear hKW
        go_wp2_with fail
        rw [← HW.out]
        go_ret
        exact ⟨rfl, HBW.out⟩
      · have hd : decide (50 ≤ (k : Int)) = false := by simp; omega
        obtain ⟨D7, hD7⟩ : ∃ D7, D7 = d % 7 := ⟨_, rfl⟩
        have e7 : d % 7 = D7 := hD7.symm
        clear hD7
        go_upto_block 2 with (fail)
        rw [e7, ← HW.out]
        clear e7 q0 q1 q2 q3 q4 q5 q6 q7 q8
        have ways : ((D7 == 3) = true) ∨ ((D7 == 3) = false ∧ (D7 == 4) = true) ∨ ((D7 == 3) = false ∧ (D7 == 4) = false ∧ (D7 == 5) = true) ∨ ((D7 == 3) = false ∧ (D7 == 4) = false ∧ (D7 == 5) = false ∧ (D7 == 6) = true) ∨ ((D7 == 3) = false ∧ (D7 == 4) = false ∧ (D7 == 5) = false ∧ (D7 == 6) = false) := by
          cases h3 : (D7 == 3) <;> cases h4 : (D7 == 4) <;> cases h5 : (D7 == 5) <;> cases h6 : (D7 == 6) <;> simp
        have k1 := hKW.cell 1
        have k2 := hKW.cell 2
        have k3 := hKW.cell 3
        have k4 := hKW.cell 4
        have k5 := hKW.cell 5
        have k6 := hKW.cell 6
        have k7 := hKW.cell 7
        have k8 := hKW.cell 8
        have zW := hKW.lt
        simp at k1 k2 k3 k4 k5 k6 k7 k8
        have HKW := Lib.hid hKW
        obtain ⟨opb, hopb⟩ : ∃ opb : Array Value, opb = #[.int .u8 d, .int .u64 pn, .int .u64 ps, .int .i64 pz, .bool pa, .bool pg, .slice rA rr.length rc, .int .u64 nw, .int .u64 wt] := ⟨_, rfl⟩
        rw [← hopb] at HKW
        have HOPB := Lib.hid hopb
        clear hKW hopb HW
        go_cut [9] (fun ok wx => ok = .bool true ∧ Hid (∃ (x2 : RG) (l2 : LG), PQ no w wx pl px x2 l2 ∧ x2.op.length ≤ k + 1 ∧ Blk wx wr.heap.size 35 opb))
        case first =>
          rcases ways with g3 | ⟨g3, g4⟩ | ⟨g3, g4, g5⟩ | ⟨g3, g4, g5, g6⟩ | ⟨g3, g4, g5, g6⟩
          · as_aux_lemma =>
              skip
              have hz6 : min (rr.length : Int) 6 = ((min rr.length 6 : Nat) : Int) := by omega
              have hsl := fun w => slice_rg' rA rc rr.length (min rr.length 6) _ hz6 (Nat.min_le_left _ _) o4.le w
              have htl : (rr.take (min rr.length 6)).length = min rr.length 6 := by rw [List.length_take]; omega
              have hm6 : min rr.length 6 ≤ 6 := Nat.min_le_right _ _
              obtain ⟨m6, hm⟩ : ∃ m6, m6 = min rr.length 6 := ⟨_, rfl⟩
              rw [← hm] at hsl htl hm6
              have hr0 : RdG w rA (rr.take m6) := o4.rd.upto (by omega)
              obtain ⟨r7, hr7⟩ : ∃ r7, r7 = rr.take m6 := ⟨_, rfl⟩
              rw [← hr7] at hr0 htl
              have HOK := Lib.hid (show ∀ y ∈ r7, PairOk y from fun y hy => o4.ok y (List.mem_of_mem_take (by rw [hr7] at hy; exact hy)))
              have HTL := Lib.hid htl
              have HR0 := Lib.hid (hr0.below HBW.out)
              have HRD := Lib.hid (show Reads (W.alloc (.cells #[] 61)) (W.alloc (.cells #[] 61)).heap.size 2 rA m6 (RgV r7) by
                have := HR0.out.alloc (.cells #[] 61)
                unfold RdG at this
                rw [htl] at this
                exact this)
              clear hr0 htl hm hz6 o4 hr7
              go_wp2_with (at_builtin; go_must (refine wpList_appV rfl (.tmp 69) (.tmp 76) 33 61 2 16 (.agg #[.int .u64 0, .int .u64 0]) rfl Try.underlying33 info_range rfl (by omega) W.heap.size (n := 0) (m := m6) (xs := []) (news := RgV r7) (d := rc) rfl rfl (own_g0 W (Nat.le_refl _)) HRD.out (RgV_one _) (by unfold maxLen; omega) (by omega) (by simp) ?_); intro A6 c6 w5 hown hg hb; have HOWN := Lib.hid hown; have HB5 := Lib.hid hb; clear hown hg hb)
              have b5 : Below W.heap.size W w5 := ((Below.refl _ _).alloc (Nat.le_refl _) _).trans HB5.out
              have HB := Lib.hid b5
              have P5 := Lib.hid (HP.out.below b5)
              have K5 := Lib.hid (HKW.out.below b5 (by omega))
              have ho5 : OwnG w5 wr.heap.size A6 c6 r7 := by
                have h1 := HOWN.out
                rw [Nat.zero_add, List.nil_append, ← HTL.out] at h1
                exact OwnV.base_le h1 (by omega)
              have HO5 := Lib.hid ho5
              have hA := P5.out.ackL A6 c6 r7 ho5 HOK.out (by omega) (by rw [HTL.out]; omega)
              rw [HTL.out] at hA
              have hwz5 := b5.size
              clear ho5 b5
              refine hA.mono ?_
              rintro e w6 ⟨A7, c7, rfl, hT⟩
              clear hA
              have HT := Lib.hid hT
              obtain ⟨hal2, hout, herr⟩ := HAL.out.ackn (no := no) HP.out.ok r7 (fun y hy => (HOK.out y hy).2.1)
              have HAL2 := Lib.hid hal2
              have HOUT := Lib.hid hout
              have hL1 : (outLn no l r7).length ≤ 1000000 := by
                unfold outLn
                split
                · simp
                · unfold ackL
                  split
                  · exact Nat.le_trans (List.length_filter_le _ _) (by omega)
                  · simp
              have o6 : OwnG w6 wr.heap.size A6 c6 r7 := OwnV.frm HO5.out hT.fr (fun k hk hs => by have := OwnV.row_ge' HO5.out hk; omega)
              have hA := hT.pp.ackR A6 c6 r7 o6.reads (fun a ha hn => by
                rcases OwnV.row_is HO5.out with ⟨_, h2, _⟩ | ⟨g2, cur, h2, h3, _⟩
                · omega
                · rw [h2] at ha; injection ha with ha; subst ha; exact h3) (fun y hy => (HOK.out y hy).2.2) (by omega) (by rw [HTL.out]; omega)
              rw [HTL.out, ← herr] at hA
              have HA := Lib.hid hA
              obtain ⟨GL1, hGL1⟩ : ∃ GL1, GL1 = outLn no l r7 := ⟨_, rfl⟩
              obtain ⟨GR1, hGR1⟩ : ∃ GR1, GR1 = outRn no x r7 := ⟨_, rfl⟩
              obtain ⟨E, hE⟩ : ∃ E, E = ackEn no l r7 := ⟨_, rfl⟩
              obtain ⟨l2, hl2⟩ : ∃ l2, l2 = lAckn no l r7 := ⟨_, rfl⟩
              obtain ⟨x2, hx2⟩ : ∃ x2, x2 = rAckn no x r7 := ⟨_, rfl⟩
              have hx2l : x2.op.length = x.op.length := by rw [hx2]; exact ackn_len r7
              rw [← hGL1, ← hl2] at HT
              rw [← hGR1, ← hE, ← hl2, ← hx2] at HA
              rw [← hGL1, ← hGR1] at HOUT
              rw [← hGL1] at hL1
              rw [← hl2, ← hx2] at HAL2
              rw [← hGL1, ← hE]
              clear hA hT hal2 hout herr hGL1 hGR1 hE hl2 hx2 o6
              go_wp2_with fail
              refine HA.out.mono ?_
              rintro e w7 ⟨A8, c8, rfl, hT2⟩
              have HT2 := Lib.hid hT2
              have hS := samePk_any A7 c7 GL1 A8 c8 GR1 w7 (OwnF.reads (OwnP.keep HT.out.own hT2.fr (by omega))) hT2.rd hL1 HOUT.out
              have HS := Lib.hid hS
              clear hS hT2 HA
              go_wp2_with fail
              refine HS.out.mono ?_
              rintro e w8 ⟨rfl, b8⟩
              have HB8 := Lib.hid b8
              clear b8 HS
              go_wp2_with fail
              go_meet
              exact ⟨rfl, Lib.hid ⟨x2, l2, ⟨⟨_, _, HT2.out.pp.below HB8.out⟩, HAL2.out⟩, by omega, (HT2.out.fr.keep (HT.out.fr.keep K5.out (Nat.lt_irrefl _)) (Nat.lt_irrefl _)).below HB8.out (Blk.lt (HT2.out.fr.keep (HT.out.fr.keep K5.out (Nat.lt_irrefl _)) (Nat.lt_irrefl _)))⟩⟩
          · as_aux_lemma =>
              skip
              have hz6 : min (rr.length : Int) 6 = ((min rr.length 6 : Nat) : Int) := by omega
              have hsl := fun w => slice_rg' rA rc rr.length (min rr.length 6) _ hz6 (Nat.min_le_left _ _) o4.le w
              have htl : (rr.take (min rr.length 6)).length = min rr.length 6 := by rw [List.length_take]; omega
              have hm6 : min rr.length 6 ≤ 6 := Nat.min_le_right _ _
              obtain ⟨m6, hm⟩ : ∃ m6, m6 = min rr.length 6 := ⟨_, rfl⟩
              rw [← hm] at hsl htl hm6
              have hr0 : RdG w rA (rr.take m6) := o4.rd.upto (by omega)
              obtain ⟨r7, hr7⟩ : ∃ r7, r7 = rr.take m6 := ⟨_, rfl⟩
              rw [← hr7] at hr0 htl
              have HOK := Lib.hid (show ∀ y ∈ r7, PairOk y from fun y hy => o4.ok y (List.mem_of_mem_take (by rw [hr7] at hy; exact hy)))
              have HTL := Lib.hid htl
              have HR0 := Lib.hid (hr0.below HBW.out)
              have HRD := Lib.hid (show Reads (W.alloc (.cells #[] 61)) (W.alloc (.cells #[] 61)).heap.size 2 rA m6 (RgV r7) by
                have := HR0.out.alloc (.cells #[] 61)
                unfold RdG at this
                rw [htl] at this
                exact this)
              clear hr0 htl hm hz6 o4 hr7
              go_wp2_with (at_builtin; go_must (refine wpList_appV rfl (.tmp 69) (.tmp 76) 33 61 2 16 (.agg #[.int .u64 0, .int .u64 0]) rfl Try.underlying33 info_range rfl (by omega) W.heap.size (n := 0) (m := m6) (xs := []) (news := RgV r7) (d := rc) rfl rfl (own_g0 W (Nat.le_refl _)) HRD.out (RgV_one _) (by unfold maxLen; omega) (by omega) (by simp) ?_); intro A6 c6 w5 hown hg hb; have HOWN := Lib.hid hown; have HB5 := Lib.hid hb; clear hown hg hb)
              have b5 : Below W.heap.size W w5 := ((Below.refl _ _).alloc (Nat.le_refl _) _).trans HB5.out
              have HB := Lib.hid b5
              have P5 := Lib.hid (HP.out.below b5)
              have K5 := Lib.hid (HKW.out.below b5 (by omega))
              have ho5 : OwnG w5 wr.heap.size A6 c6 r7 := by
                have h1 := HOWN.out
                rw [Nat.zero_add, List.nil_append, ← HTL.out] at h1
                exact OwnV.base_le h1 (by omega)
              have HO5 := Lib.hid ho5
              have hA := P5.out.ackL A6 c6 r7 ho5 HOK.out (by omega) (by rw [HTL.out]; omega)
              rw [HTL.out] at hA
              have hwz5 := b5.size
              clear ho5 b5
              refine hA.mono ?_
              rintro e w6 ⟨A7, c7, rfl, hT⟩
              clear hA
              have HT := Lib.hid hT
              obtain ⟨hal2, hout, herr⟩ := HAL.out.ackn (no := no) HP.out.ok r7 (fun y hy => (HOK.out y hy).2.1)
              have HAL2 := Lib.hid hal2
              have HOUT := Lib.hid hout
              have hL1 : (outLn no l r7).length ≤ 1000000 := by
                unfold outLn
                split
                · simp
                · unfold ackL
                  split
                  · exact Nat.le_trans (List.length_filter_le _ _) (by omega)
                  · simp
              have o6 : OwnG w6 wr.heap.size A6 c6 r7 := OwnV.frm HO5.out hT.fr (fun k hk hs => by have := OwnV.row_ge' HO5.out hk; omega)
              have hA := hT.pp.ackR A6 c6 r7 o6.reads (fun a ha hn => by
                rcases OwnV.row_is HO5.out with ⟨_, h2, _⟩ | ⟨g2, cur, h2, h3, _⟩
                · omega
                · rw [h2] at ha; injection ha with ha; subst ha; exact h3) (fun y hy => (HOK.out y hy).2.2) (by omega) (by rw [HTL.out]; omega)
              rw [HTL.out, ← herr] at hA
              have HA := Lib.hid hA
              obtain ⟨GL1, hGL1⟩ : ∃ GL1, GL1 = outLn no l r7 := ⟨_, rfl⟩
              obtain ⟨GR1, hGR1⟩ : ∃ GR1, GR1 = outRn no x r7 := ⟨_, rfl⟩
              obtain ⟨E, hE⟩ : ∃ E, E = ackEn no l r7 := ⟨_, rfl⟩
              obtain ⟨l2, hl2⟩ : ∃ l2, l2 = lAckn no l r7 := ⟨_, rfl⟩
              obtain ⟨x2, hx2⟩ : ∃ x2, x2 = rAckn no x r7 := ⟨_, rfl⟩
              have hx2l : x2.op.length = x.op.length := by rw [hx2]; exact ackn_len r7
              rw [← hGL1, ← hl2] at HT
              rw [← hGR1, ← hE, ← hl2, ← hx2] at HA
              rw [← hGL1, ← hGR1] at HOUT
              rw [← hGL1] at hL1
              rw [← hl2, ← hx2] at HAL2
              rw [← hGL1, ← hE]
              clear hA hT hal2 hout herr hGL1 hGR1 hE hl2 hx2 o6
              go_wp2_with fail
              refine HA.out.mono ?_
              rintro e w7 ⟨A8, c8, rfl, hT2⟩
              have HT2 := Lib.hid hT2
              have hS := samePk_any A7 c7 GL1 A8 c8 GR1 w7 (OwnF.reads (OwnP.keep HT.out.own hT2.fr (by omega))) hT2.rd hL1 HOUT.out
              have HS := Lib.hid hS
              clear hS hT2 HA
              go_wp2_with fail
              refine HS.out.mono ?_
              rintro e w8 ⟨rfl, b8⟩
              have HB8 := Lib.hid b8
              clear b8 HS
              go_wp2_with fail
              go_meet
              exact ⟨rfl, Lib.hid ⟨x2, l2, ⟨⟨_, _, HT2.out.pp.below HB8.out⟩, HAL2.out⟩, by omega, (HT2.out.fr.keep (HT.out.fr.keep K5.out (Nat.lt_irrefl _)) (Nat.lt_irrefl _)).below HB8.out (Blk.lt (HT2.out.fr.keep (HT.out.fr.keep K5.out (Nat.lt_irrefl _)) (Nat.lt_irrefl _)))⟩⟩
          · as_aux_lemma =>
              skip
              have hn := wfU64 o5
              have Pd := Lib.hid HP.out.drew
              have C1 := Lib.hid (Pd.out.lostL nw wt hn (by omega))
              obtain ⟨hal2, hout⟩ := HAL.out.lost HP.out.ok nw wt (fun p hp => (HP.out.rk p hp).1)
              have hL1 : (l.op.filter (lostP l nw wt)).length ≤ 1000000 := Nat.le_trans (List.length_filter_le _ _) (by omega)
              have CR := Lib.hid (fun (w6 : World) (ul ur : Nat) (h : PP no w w6 ul ur pl px x (lLost l nw wt)) => h.lostR nw wt hn (by omega))
              obtain ⟨GL1, hGL1⟩ : ∃ GL1, GL1 = l.op.filter (lostP l nw wt) := ⟨_, rfl⟩
              obtain ⟨GR1, hGR1⟩ : ∃ GR1, GR1 = x.op.filter (GL x nw wt) := ⟨_, rfl⟩
              obtain ⟨l2, hl2⟩ : ∃ l2, l2 = lLost l nw wt := ⟨_, rfl⟩
              obtain ⟨x2, hx2⟩ : ∃ x2 : RG, x2 = ⟨x.op.map (markG (GL x nw wt)), x.nx, x.ak, x.hs⟩ := ⟨_, rfl⟩
              have hx2l : x2.op.length = x.op.length := by rw [hx2]; simp
              rw [← hGL1, ← hl2] at C1
              rw [← hGR1, ← hl2, ← hx2] at CR
              rw [← hGR1, ← hGL1] at hout
              rw [← hl2, ← hx2] at hal2
              rw [← hGL1] at hL1
              have HOUT := Lib.hid hout.symm
              have HAL2 := Lib.hid hal2
              have X0 : W.drew.cell? ⟨wr.heap.size, 7, none⟩ = some (.int .u64 nw) ∧ W.drew.cell? ⟨wr.heap.size, 8, none⟩ = some (.int .u64 wt) := ⟨k7, k8⟩
              have KC := Lib.hid (show ∀ w', Blk w' wr.heap.size 35 opb → w'.cell? ⟨wr.heap.size, 7, none⟩ = some (.int .u64 nw) ∧ w'.cell? ⟨wr.heap.size, 8, none⟩ = some (.int .u64 wt) from fun w' hb => by
                rw [HOPB.out] at hb
                exact ⟨hb.cell 7, hb.cell 8⟩)
              clear hGL1 hGR1 hl2 hx2 hout hal2 o4 hn
              go_upto_region 22 with (fail)
              go_region_held3 (fun w' => w'.cell? ⟨wr.heap.size, 7, none⟩ = some (.int .u64 nw) ∧ w'.cell? ⟨wr.heap.size, 8, none⟩ = some (.int .u64 wt)) (first
                | exact X8
                | exact X7
                | exact X6
                | exact X0
                | (go_keep; done)) (first
                | (go_at_call 9
                   refine C1.out.mono ?_
                   rintro e6 w6 ⟨A7, c7, rfl, hT⟩
                   have K6 := Lib.hid (hT.fr.keep HKW.out.drew (Nat.lt_irrefl _))
                   have X6 := KC.out _ K6.out
                   have HT := Lib.hid hT
                   have C2 := Lib.hid (CR.out _ _ _ hT.pp)
                   clear hT)
                | (go_at_call 10
                   (with_reducible refine C2.out.mono ?_)
                   rintro e7 w7 ⟨A8, c8, rfl, hT2⟩
                   have K7 := Lib.hid (hT2.fr.keep K6.out (Nat.lt_irrefl _))
                   have X7 := KC.out _ K7.out
                   have HT2 := Lib.hid hT2
                   have CS := Lib.hid (samePk_any A7 c7 GL1 A8 c8 GR1 w7 (OwnF.reads (OwnP.keep HT.out.own hT2.fr (by simp; omega))) hT2.rd hL1 HOUT.out)
                   clear hT2)
                | (go_at_call 8
                   (with_reducible refine CS.out.mono ?_)
                   rintro e8 w8 ⟨rfl, b8⟩
                   have K8 := Lib.hid (K7.out.below b8 K7.out.lt)
                   have X8 := KC.out _ K8.out
                   have HB8 := Lib.hid b8
                   clear b8))
              all_goals (
                go_wp2_with fail
                go_meet
                exact ⟨rfl, Lib.hid ⟨x2, l2, ⟨⟨_, _, HT2.out.pp.below HB8.out⟩, HAL2.out⟩, by omega, K8.out⟩⟩)
          · as_aux_lemma =>
              skip
              have C1 := Lib.hid (HP.out.clearL (by omega))
              obtain ⟨hal2, hout⟩ := HAL.out.clear
              have hL1 : l.op.length ≤ 1000000 := by omega
              have CR := Lib.hid (fun (w6 : World) (ul ur : Nat) (h : PP no w w6 ul ur pl px x ⟨[], l.nx, l.ak, l.hs⟩) => h.clearR (by omega))
              obtain ⟨GR1, hGR1⟩ : ∃ GR1, GR1 = x.op.filter live := ⟨_, rfl⟩
              obtain ⟨l2, hl2⟩ : ∃ l2 : LG, l2 = ⟨[], l.nx, l.ak, l.hs⟩ := ⟨_, rfl⟩
              obtain ⟨x2, hx2⟩ : ∃ x2 : RG, x2 = ⟨x.op.map mkR, x.nx, x.ak, x.hs⟩ := ⟨_, rfl⟩
              have hx2l : x2.op.length = x.op.length := by rw [hx2]; simp
              rw [← hl2] at C1
              rw [← hGR1, ← hl2, ← hx2] at CR
              rw [← hGR1] at hout
              rw [← hl2, ← hx2] at hal2
              have HOUT := Lib.hid hout.symm
              have HAL2 := Lib.hid hal2
              clear hGR1 hl2 hx2 hout hal2 o4
              go_wp2_with fail
              refine C1.out.mono ?_
              rintro e6 w6 ⟨A7, c7, rfl, hT⟩
              have K6 := Lib.hid (hT.fr.keep HKW.out (Nat.lt_irrefl _))
              have HT := Lib.hid hT
              have C2 := Lib.hid (CR.out _ _ _ hT.pp)
              clear hT C1 CR
              go_wp2_with fail
              refine C2.out.mono ?_
              rintro e7 w7 ⟨A8, c8, rfl, hT2⟩
              have K7 := Lib.hid (hT2.fr.keep K6.out (Nat.lt_irrefl _))
              have HT2 := Lib.hid hT2
              have CS := Lib.hid (samePk_any A7 c7 l.op A8 c8 GR1 w7 (OwnF.reads (OwnP.keep HT.out.own hT2.fr (by omega))) hT2.rd hL1 HOUT.out)
              clear hT2 C2
              go_wp2_with fail
              refine CS.out.mono ?_
              rintro e8 w8 ⟨rfl, b8⟩
              have K8 := Lib.hid (K7.out.below b8 K7.out.lt)
              have HB8 := Lib.hid b8
              clear b8 CS
              go_wp2_with fail
              go_meet
              exact ⟨rfl, Lib.hid ⟨x2, l2, ⟨⟨_, _, HT2.out.pp.below HB8.out⟩, HAL2.out⟩, by omega, K8.out⟩⟩
          · as_aux_lemma =>
              skip
              clear o4
              have hpn := wfU64 o1
              have hps := wfU64 o2
              have hpz := wfI64 o3
              go_upto_region 14 with (fail)
              obtain ⟨W5, hW5⟩ : ∃ W5, W5 = W.alloc (.cells #[.int .u64 pn, .int .u64 ps, .int .i64 pz, .bool pa, .bool false] 32) := ⟨_, rfl⟩
              have b5 : Below W.heap.size W W5 := by rw [hW5]; exact (Below.refl _ _).alloc (Nat.le_refl _) _
              have P5 := Lib.hid (HP.out.below b5).drew
              have K5 := Lib.hid (HKW.out.below b5 zW).drew
              have KP := Lib.hid (show Blk W5.drew W.heap.size 32 #[.int .u64 pn, .int .u64 ps, .int .i64 pz, .bool pa, .bool false] by rw [hW5]; exact (Blk.new _ _ _).drew)
              rw [← hW5]
              clear hW5 b5
              have C1 := Lib.hid (P5.out.sendL ⟨pn, ps, pz, pa⟩ hpn.1 hps.1 hpz.2 (by omega))
              obtain ⟨hal2, herr⟩ := HAL.out.sendn (no := no) ⟨pn, ps, pz, pa, false⟩ rfl
              have CR := Lib.hid (fun (w6 : World) (ul ur : Nat) (h : PP no w w6 ul ur pl px x (lSendn no l ⟨pn, ps, pz, pa⟩)) => h.sendR ⟨pn, ps, pz, pa, false⟩ hpn.1 hps.1 (by omega))
              have hxl2 := sendn_len (no := no) (x := x) ⟨pn, ps, pz, pa, false⟩
              change Alike _ (lSendn no l ⟨pn, ps, pz, pa⟩) at hal2
              change sendEn no l ⟨pn, ps, pz, pa⟩ = _ at herr
              obtain ⟨E, hE⟩ : ∃ E, E = sendEn no l ⟨pn, ps, pz, pa⟩ := ⟨_, rfl⟩
              obtain ⟨l2, hl2⟩ : ∃ l2, l2 = lSendn no l ⟨pn, ps, pz, pa⟩ := ⟨_, rfl⟩
              obtain ⟨x2, hx2⟩ : ∃ x2, x2 = rSendn no x ⟨pn, ps, pz, pa, false⟩ := ⟨_, rfl⟩
              rw [← hE, ← hl2] at C1
              rw [← herr, ← hE, ← hl2, ← hx2] at CR
              rw [← hl2, ← hx2] at hal2
              rw [← hx2] at hxl2
              have HAL2 := Lib.hid hal2
              have KC := Lib.hid (show ∀ w', Blk w' W.heap.size 32 #[.int .u64 pn, .int .u64 ps, .int .i64 pz, .bool pa, .bool false] → w'.cell? ⟨W.heap.size, 0, none⟩ = some (.int .u64 pn) ∧ w'.cell? ⟨W.heap.size, 1, none⟩ = some (.int .u64 ps) ∧ w'.cell? ⟨W.heap.size, 2, none⟩ = some (.int .i64 pz) ∧ w'.cell? ⟨W.heap.size, 3, none⟩ = some (.bool pa) ∧ w'.cell? ⟨W.heap.size, 4, none⟩ = some (.bool false) from fun w' hb =>
                ⟨hb.cell 0, hb.cell 1, hb.cell 2, hb.cell 3, hb.cell 4⟩)
              have X0 := KC.out _ KP.out
              clear hE hl2 hx2 hal2 herr
              go_region_held3 (fun w' => w'.cell? ⟨W.heap.size, 0, none⟩ = some (.int .u64 pn) ∧ w'.cell? ⟨W.heap.size, 1, none⟩ = some (.int .u64 ps) ∧ w'.cell? ⟨W.heap.size, 2, none⟩ = some (.int .i64 pz) ∧ w'.cell? ⟨W.heap.size, 3, none⟩ = some (.bool pa) ∧ w'.cell? ⟨W.heap.size, 4, none⟩ = some (.bool false)) (first
                | exact X7
                | exact X6
                | exact X0
                | (go_keep; done)) (first
                | (go_at_call 13
                   refine C1.out.mono ?_
                   rintro e6 w6 ⟨rfl, hT⟩
                   have K6 := Lib.hid (hT.fr.keep K5.out (Nat.lt_irrefl _))
                   have KP6 := Lib.hid (hT.fr.keep KP.out (by omega))
                   have X6 := KC.out _ KP6.out
                   have C2 := Lib.hid (CR.out _ _ _ hT.pp)
                   clear hT)
                | (go_at_call 14
                   (with_reducible refine C2.out.mono ?_)
                   rintro e7 w7 ⟨rfl, hp7, hf7⟩
                   have K7 := Lib.hid (hf7.keep K6.out (Nat.lt_irrefl _))
                   have X7 := KC.out _ (hf7.keep KP6.out (by omega))
                   have HP7 := Lib.hid hp7
                   clear hp7 hf7))
              all_goals (
                go_wp2_with fail
                go_meet
                exact ⟨rfl, Lib.hid ⟨x2, l2, ⟨⟨_, _, HP7.out⟩, HAL2.out⟩, by omega, K7.out⟩⟩)
        case rest =>
         as_aux_lemma =>
          skip
          obtain ⟨rfl, hcc⟩ := hcut
          rename World => wx
          obtain ⟨x2, l2, hQ, hx2l, hK⟩ := hcc.out
          rw [HOPB.out] at hK
          have hl2l := hQ.al.len
          have j8 := hK.cell 8
          have zK := hK.lt
          simp at j8
          have hwt := wfU64 o6
          have HK := Lib.hid hK
          have HAL2 := Lib.hid hQ.al
          have P := Lib.hid hQ.at_
          have CO := Lib.hid (P.out.openR (by omega))
          clear hcc hQ hK k1 k2 k3 k4 k5 k6 k7 k8 ways HKW HP HAL HBW HOPB zW o4 o0 o1 o2 o3 o5 hll hxk
          go_wp2_with fail
          refine CO.out.mono ?_
          rintro e w4 ⟨A4, c4, rfl, ho, b4⟩
          obtain ⟨OP, hOP⟩ : ∃ OP, OP = x2.op.filter live := ⟨_, rfl⟩
          rw [← hOP] at ho ⊢
          have hopl : OP.length ≤ x2.op.length := by rw [hOP]; exact List.length_filter_le _ _
          have HOP := Lib.hid hOP
          have HO4 := Lib.hid ho
          have P4 := Lib.hid (P.out.below b4)
          have hk4 := HK.out.below b4 HK.out.lt
          have j84 := hk4.cell 8
          have zK4 := hk4.lt
          simp at j84
          have HK4 := Lib.hid hk4
          have CD := Lib.hid (P4.out.dueL wt hwt.1 (by omega))
          clear j8 zK hOP ho b4 hk4 CO
          go_wp2_with fail
          refine CD.out.mono ?_
          rintro e w5 ⟨rfl, b5⟩
          have P5 := Lib.hid (P4.out.below b5)
          have CDR := P5.out.dueR HAL2.out wt hwt.1 (by omega)
          obtain ⟨T, hT⟩ : ∃ T, T = (dueN l2 wt).1 := ⟨_, rfl⟩
          obtain ⟨U, hU⟩ : ∃ U, U = (dueN l2 wt).2 := ⟨_, rfl⟩
          rw [← hT, ← hU] at CDR ⊢
          have hk5 := HK4.out.below b5 HK4.out.lt
          have j85 := hk5.cell 8
          have zK5 := hk5.lt
          simp at j85
          have HK5 := Lib.hid hk5
          have HO5 := Lib.hid (OwnV.below HO4.out b5)
          have CDR := Lib.hid CDR
          clear j84 zK4 b5 hk5 CD hT hU
          go_wp2_with fail
          refine CDR.out.mono ?_
          rintro e w6 ⟨rfl, b6⟩
          have P6 := Lib.hid (P5.out.below b6)
          have HO6 := Lib.hid (OwnV.below HO5.out b6)
          have CL := Lib.hid (P6.out.openL (by omega))
          clear j85 zK5 b6 CDR
          go_wp2_with fail
          refine CL.out.mono ?_
          rintro e w7 ⟨A7, c7, rfl, ho7, b7⟩
          have P7 := Lib.hid (P6.out.below b7)
          have HO7 := Lib.hid (OwnV.below HO6.out b7)
          have CS := Lib.hid (samePk_any A7 c7 l2.op A4 c4 OP w7 (OwnF.reads ho7) (OwnF.reads HO7.out) (by omega) (by rw [HOP.out]; exact HAL2.out.op))
          clear ho7 b7 CL
          go_wp2_with fail
          refine CS.out.mono ?_
          rintro e w8 ⟨rfl, b8⟩
          have P8 := Lib.hid (P7.out.below b8)
          have HO8 := Lib.hid (OwnV.below HO7.out b8)
          clear b8 CS
          go_upto_block 3 with (fail)
          obtain ⟨AS, hAS⟩ : ∃ AS, AS = OP.filter (·.aq) := ⟨_, rfl⟩
          have HAS := Lib.hid hAS
          have hASl : AS.length ≤ 51 := by rw [hAS]; exact Nat.le_trans (List.length_filter_le _ _) (by omega)
          clear hAS
          go_cut [21] (fun o wq => ∃ (A1 : Option Addr) (c1 : Nat), o = .slice A1 AS.length c1 ∧ Hid (OwnV wq w8.heap.size 32 5 A1 c1 AS.length (FlV RPkC AS) ∧ Below w8.heap.size w8 wq))
          case first =>
           as_aux_lemma =>
            skip
            go_wp2_with fail
            go_loopw [157, 21] (fun i o wq => ∃ (j m : Nat) (A1 : Option Addr) (c1 : Nat), j ≤ OP.length ∧ i = .int .i64 j ∧ o = .slice A1 m c1 ∧ Hid (m = ((OP.take j).filter (·.aq)).length ∧ OwnV wq w8.heap.size 32 5 A1 c1 m (FlV RPkC ((OP.take j).filter (·.aq))) ∧ Below w8.heap.size w8 wq)) (fun i _ _ => OP.length - (intOf i).toNat)
            case atStart => exact ⟨0, 0, none, 0, by omega, rfl, rfl, Lib.hid ⟨by simp, OwnF.nil _ _, Below.refl _ _⟩⟩
            case round =>
              obtain ⟨j, m, A1, c1, hj, rfl, rfl, HI⟩ := hrel
              rename World => wq
              by_cases hlt2 : j < OP.length
              · obtain ⟨p, hx⟩ : ∃ p, OP[j]? = some p := ⟨_, List.getElem?_eq_getElem hlt2⟩
                obtain ⟨b2, off2, rfl, zb, hcell⟩ := RdR.at0 (OwnF.reads (OwnV.below HO8.out HI.out.2.2)) hx
                have x0 := hcell 0 (by omega)
                have x1 := hcell 1 (by omega)
                have x2' := hcell 2 (by omega)
                have x3 := hcell 3 (by omega)
                have x4 := hcell 4 (by omega)
                clear hcell
                have HT := Lib.hid (take_snoc hx)
                obtain ⟨nu, se, si, aq, go⟩ := p
                simp [RPkC] at x0 x1 x2' x3 x4
                rw [← Nat.add_assoc] at x1 x2' x3 x4
                have hml : m ≤ OP.length := by rw [HI.out.1]; exact Nat.le_trans (List.length_filter_le _ _) (by simp; omega)
                have hz := HI.out.2.2.size
                clear hx
                cases aq with
                | false =>
                  go_wp2_with fail
                  go_roundw
                  case rel => exact ⟨j + 1, m, A1, c1, by omega, by go_num, rfl, Lib.hid ⟨by rw [HT.out, List.filter_append]; simpa using HI.out.1, by rw [HT.out, List.filter_append]; simp only [List.filter_cons, List.filter_nil, Bool.false_eq_true, if_false, List.append_nil]; exact OwnV.below HI.out.2.1 ((Below.refl _ _).alloc (Nat.le_refl _) _), HI.out.2.2.alloc hz _⟩⟩
                  case measure => simp [intOf]; omega
                | true =>
                  have hnew := reads_rpk (wq.alloc (.cells #[.int .u64 nu, .int .u64 se, .int .i64 si, .bool true, .bool go] 32)) ⟨nu, se, si, true, go⟩ 32
                  rw [show (wq.alloc (.cells #[.int .u64 nu, .int .u64 se, .int .i64 si, .bool true, .bool go] 32)).heap.size = wq.heap.size + 1 by simp] at hnew
                  have HNEW := Lib.hid hnew
                  clear hnew
                  go_wp2_with (at_builtin; go_must (refine wpList_appV rfl (.tmp 163) (.tmp 165) 27 32 5 32 (.agg #[.int .u64 0, .int .u64 0, .int .i64 0, .bool false, .bool false]) rfl Try.underlying27 info_rpk rfl (by omega) w8.heap.size (n := m) (m := 1) (xs := FlV RPkC ((OP.take j).filter (·.aq))) (news := RPkC ⟨nu, se, si, true, go⟩) (d := 1) rfl rfl (OwnV.below HI.out.2.1 (((Below.refl _ _).alloc (Nat.le_refl _) _).alloc (by simp) _)) HNEW.out (RPkC_one _) (by unfold maxLen; omega) (by omega) (by simp; omega) ?_); intro A' c' w7' hown hg7 hb7)
                  have HOWN := Lib.hid hown
                  have HB7 := Lib.hid (((HI.out.2.2.alloc hz (.cells #[.int .u64 nu, .int .u64 se, .int .i64 si, .bool true, .bool go] 32)).alloc (by simp; omega) (.cells #[.int .u64 nu, .int .u64 se, .int .i64 si, .bool true, .bool go] 32)).trans hb7)
                  clear hown hg7 hb7
                  go_roundw
                  case rel => exact ⟨j + 1, m + 1, A', c', by omega, by go_num, rfl, Lib.hid ⟨by rw [HT.out, List.filter_append, HI.out.1]; simp, by rw [HT.out, List.filter_append, FlV_append]; simp only [List.filter_cons, List.filter_nil, if_true]; rw [FlV_one]; exact HOWN.out, HB7.out⟩⟩
                  case measure => simp [intOf]; omega
              · have hd2 : decide (j < OP.length) = false := by simpa using hlt2
                have htk : OP.take j = OP := List.take_of_length_le (by omega)
                have hi := HI.out
                rw [htk, ← HAS.out] at hi
                obtain ⟨hm, ho, hb⟩ := hi
                subst hm
                have HO := Lib.hid (And.intro ho hb)
                clear htk ho hb HI
                go_wp2_with fail
                go_meet
                exact ⟨A1, c1, rfl, HO⟩
          case rest =>
              obtain ⟨A1, c1, rfl, hcc⟩ := hcut
              rename World => wq
              obtain ⟨ho, hb⟩ := hcc.out
              have hf : firstA l2.op = AS.head?.map pkOf := by rw [firstA_is HAL2.out, asksR, ← HOP.out, ← HAS.out]
              have hl : lastA l2.op = AS.getLast?.map pkOf := by rw [lastA_is HAL2.out, asksR, ← HOP.out, ← HAS.out]
              have P9 := Lib.hid (P8.out.below hb)
              have HOA := Lib.hid ho
              have CF := P9.out.first (by omega)
              have CLA := Lib.hid (fun W (h : Below wq.heap.size wq W) => (P9.out.below h).last (by omega))
              have CAK := Lib.hid (fun W (h : Below wq.heap.size wq W) => (P9.out.below h).acked)
              have CNX := Lib.hid (fun W (h : Below wq.heap.size wq W) => (P9.out.below h).next)
              obtain ⟨AK, hAK⟩ : ∃ AK, AK = l2.ak := ⟨_, rfl⟩
              obtain ⟨HS, hHS⟩ : ∃ HS, HS = l2.hs := ⟨_, rfl⟩
              obtain ⟨NX, hNX⟩ : ∃ NX, NX = l2.nx := ⟨_, rfl⟩
              rw [← hAK, ← hHS] at CAK
              rw [← hNX] at CNX
              have HAK := Lib.hid hAK
              have HHS := Lib.hid hHS
              have HNX := Lib.hid hNX
              clear hAK hHS hNX
              clear ho hb hcc P8 P7 P6 P5 P4 P HO8 HO7 HO6 HO5 HO4 HK HK4 HK5
              rcases AS with _ | ⟨a0, ats⟩
              · as_aux_lemma =>
                skip
                simp only [List.length_nil] at *
                rw [show firstA l2.op = none from hf] at CF
                have CF := Lib.hid (show Calls Try.prog 19 #[.pointer pl] wq fun e w' => e = .returned (.tuple #[.agg #[.int .u64 0, .int .u64 0, .int .i64 0, .bool false], .bool false]) ∧ Below wq.heap.size wq w' from CF)
                have CLA := Lib.hid (show ∀ W, Below wq.heap.size wq W → Calls Try.prog 20 #[.pointer pl] W fun e w' => e = .returned (.tuple #[.int .u64 0, .bool false]) ∧ Below W.heap.size W w' from fun W h => by
                  have := CLA.out W h
                  rw [show lastA l2.op = none from hl] at this
                  exact this)
                clear hf hl
                go_wp2_with fail
                refine CF.out.mono ?_
                rintro e w10 ⟨rfl, b10⟩
                obtain ⟨w11, hw11⟩ : ∃ w11, w11 = w10.alloc (.cells #[.int .u64 0, .int .u64 0, .int .i64 0, .bool false] 49) := ⟨_, rfl⟩
                have b11 : Below wq.heap.size wq w11 := by rw [hw11]; exact b10.alloc b10.size _
                have HW11 := Lib.hid hw11
                have B11 := Lib.hid b11
                clear hw11 b10 b11 CF
                go_wp2_with fail
                rw [← HW11.out]
                refine (CLA.out w11 B11.out).mono ?_
                rintro e w12 ⟨rfl, b12⟩
                have B12 := Lib.hid (B11.out.trans (b12.mono B11.out.size))
                clear b12
                go_wp2_with fail
                go_region
                go_wp2_with fail
                refine (CAK.out w12.drew B12.out.drew).mono ?_
                rintro e w13 ⟨rfl, n13, rfl⟩
                obtain ⟨W13, hW13⟩ : ∃ W13, W13 = w12.drew.drewN n13 := ⟨_, rfl⟩
                have B13 := Lib.hid (show Below wq.heap.size wq W13 by rw [hW13]; exact below_drewN B12.out.drew n13)
                rw [← hW13]
                clear hW13 B12
                go_wp2_with fail
                have P13 := Lib.hid (P9.out.below B13.out)
                have CN := Lib.hid (show ∀ n, Calls Try.prog 22 #[.pointer pl] (W13.drewN n) fun e w' => e = .returned (.int .u64 NX) ∧ w' = W13.drewN n from fun n => (CNX.out (W13.drewN n) (below_drewN B13.out n)).mono (by rintro e w' ⟨rfl, rfl⟩; exact ⟨rfl, rfl⟩))
                clear CNX CAK
                cases no with
                | true =>
                  obtain ⟨h1, h2, h3, h4⟩ := P9.out.nil rfl
                  subst h1
                  subst h2
                  obtain rfl : AK = 0 := by rw [HAK.out, h3]; rfl
                  obtain rfl : HS = false := by rw [HHS.out, h3]; rfl
                  obtain rfl : NX = 0 := by rw [HNX.out, h3]; rfl
                  clear h3 h4
                  go_quiet ((go_at_call 22; exact Calls.quiet_of_same (CN.out _)))
                  go_wp2_with fail
                  go_roundw
                  case rel => exact ⟨k + 1, x2, l2, by omega, by go_num, by omega, hx2l, Lib.hid ⟨⟨_, _, P13.out.drewN _⟩, HAL2.out⟩⟩
                  case measure => simp [intOf]; omega
                | false =>
                  obtain ⟨gl, Al, cl, y, Ax, cx, hy⟩ := P13.out.yes rfl
                  have e1 := hy.px
                  subst e1
                  have r1 := hy.rl.blk.cell 1
                  have r2 := hy.rl.blk.cell 2
                  have r3 := hy.rl.blk.cell 3
                  simp at r1 r2 r3
                  rw [← HAL2.out.nx, ← HNX.out] at r1
                  rw [← HAL2.out.ak, ← HAK.out] at r2
                  rw [← HAL2.out.hs, ← HHS.out] at r3
                  clear hy HAK HHS HNX
                  cases HS with
                  | true =>
                    go_quiet ((go_at_call 22; exact Calls.quiet_of_same (CN.out _)))
                    go_wp2_with fail
                    go_roundw
                    case rel => exact ⟨k + 1, x2, l2, by omega, by go_num, by omega, hx2l, Lib.hid ⟨⟨_, _, P13.out.drewN _⟩, HAL2.out⟩⟩
                    case measure => simp [intOf]; omega
                  | false =>
                    go_quiet ((go_at_call 22; exact Calls.quiet_of_same (CN.out _)))
                    go_wp2_with fail
                    go_roundw
                    case rel => exact ⟨k + 1, x2, l2, by omega, by go_num, by omega, hx2l, Lib.hid ⟨⟨_, _, P13.out.drewN _⟩, HAL2.out⟩⟩
                    case measure => simp [intOf]; omega
              · as_aux_lemma =>
                skip
                obtain ⟨aL, haL⟩ : ∃ aL, (a0 :: ats).getLast? = some aL := ⟨_, List.getLast?_eq_some_getLast (by simp)⟩
                have hf2 : firstA l2.op = some (pkOf a0) := hf
                have hl2' : lastA l2.op = some (pkOf aL) := by rw [hl, haL]; rfl
                have hgl : (a0 :: ats)[ats.length]? = some aL := by
                  rw [List.getLast?_eq_getElem?] at haL
                  simpa using haL
                obtain ⟨nL, sL, zL, qL, gL⟩ := aL
                obtain ⟨n0, s0, z0, q0, g0⟩ := a0
                rw [hf2] at CF
                have CF := Lib.hid (show Calls Try.prog 19 #[.pointer pl] wq fun e w' => e = .returned (.tuple #[.agg #[.int .u64 n0, .int .u64 s0, .int .i64 z0, .bool q0], .bool true]) ∧ Below wq.heap.size wq w' from CF)
                have CLA := Lib.hid (show ∀ W, Below wq.heap.size wq W → Calls Try.prog 20 #[.pointer pl] W fun e w' => e = .returned (.tuple #[.int .u64 sL, .bool true]) ∧ Below W.heap.size W w' from fun W h => by
                  have := CLA.out W h
                  rw [hl2'] at this
                  exact this)
                obtain ⟨bA, offA, hA1, zA, hcA⟩ := RdR.at0 (OwnF.reads HOA.out) hgl
                have hcA := hcA 1 (by omega)
                simp only [RPkC, List.getElem?_cons_succ, List.getElem?_cons_zero] at hcA
                have hrd1 : RdR wq A1 [⟨n0, s0, z0, q0, g0⟩] := by
                  have h1 := Reads.upto (OwnF.reads HOA.out) (k := 1) (by simp)
                  rw [show (1 : Nat) * 5 = ([⟨n0, s0, z0, q0, g0⟩] : List RPk).length * 5 from rfl] at h1
                  have h2 : (FlV RPkC (⟨n0, s0, z0, q0, g0⟩ :: ats)).take (([⟨n0, s0, z0, q0, g0⟩] : List RPk).length * 5) = FlV RPkC [⟨n0, s0, z0, q0, g0⟩] := by
                    rw [FlV_cons, FlV_one]
                    exact List.take_left' rfl
                  rw [h2] at h1
                  exact h1
                have hcap := OwnV.cap9 HOA.out
                obtain ⟨K, hK⟩ : ∃ K, K = ats.length := ⟨_, rfl⟩
                obtain ⟨m, hm⟩ : ∃ m, m = (⟨n0, s0, z0, q0, g0⟩ :: ats : List RPk).length := ⟨_, rfl⟩
                have hmK : m = K + 1 := by rw [hm, hK]; rfl
                rw [← hm] at hcap hASl ⊢
                rw [← hK] at hcA
                have hwr : IntKind.i64.wrap ((m : Int) - 1) = (K : Int) := by
                  rw [show (m : Int) - 1 = (K : Int) by omega]
                  exact IntWalk.i64_in _ (by omega)
                have hKm : K < m := by omega
                have hpos : decide (0 < (m : Int)) = true := by simp; omega
                have hpos2 : decide (0 < m) = true := by simp; omega
                have hpos3 : 0 < m := by omega
                have hsl := fun w => slice_rp A1 c1 m 1 1 rfl (by omega) hcap.1 w
                rw [← Nat.add_assoc] at hcA
                subst hA1
                have HRD := Lib.hid hrd1
                clear hf hl hf2 hl2' haL hgl hcap hrd1 hK hm hmK
                go_wp2_with fail
                refine CF.out.mono ?_
                rintro e w10 ⟨rfl, b10⟩
                obtain ⟨w11, hw11⟩ : ∃ w11, w11 = w10.alloc (.cells #[.int .u64 n0, .int .u64 s0, .int .i64 z0, .bool q0] 49) := ⟨_, rfl⟩
                have b11 : Below wq.heap.size wq w11 := by rw [hw11]; exact b10.alloc b10.size _
                have K11 := Lib.hid (show Blk w11 w10.heap.size 49 #[.int .u64 n0, .int .u64 s0, .int .i64 z0, .bool q0] by rw [hw11]; exact Blk.new _ _ _)
                have HW11 := Lib.hid hw11
                have B11 := Lib.hid b11
                clear hw11 b10 b11 CF
                go_wp2_with fail
                rw [← HW11.out]
                refine (CLA.out w11 B11.out).mono ?_
                rintro e w12 ⟨rfl, b12⟩
                have b12q := B11.out.trans (b12.mono B11.out.size)
                have k12 := K11.out.below b12 K11.out.lt
                obtain ⟨W12, hW12⟩ : ∃ W12, W12 = w12.drew := ⟨_, rfl⟩
                have B12 := Lib.hid (show Below wq.heap.size wq W12 by rw [hW12]; exact b12q.drew)
                have K12 := Lib.hid (show Blk W12 w10.heap.size 49 #[.int .u64 n0, .int .u64 s0, .int .i64 z0, .bool q0] by rw [hW12]; exact k12.drew)
                have HW12 := Lib.hid hW12
                obtain ⟨W14, hW14⟩ : ∃ W14, W14 = (w12.alloc (.cells #[.int .u64 n0, .int .u64 s0, .int .i64 z0, .bool q0] 49)).drew := ⟨_, rfl⟩
                have B14 := Lib.hid (show Below wq.heap.size wq W14 by rw [hW14]; exact (b12q.alloc b12q.size _).drew)
                have hwz : wq.heap.size ≤ W14.heap.size := B14.out.size
                have K14 := Lib.hid (show Blk W14 w10.heap.size 49 #[.int .u64 n0, .int .u64 s0, .int .i64 z0, .bool q0] by rw [hW14]; exact (k12.alloc _).drew)
                have CS := Lib.hid (show Calls Try.prog 8 #[.slice (some ⟨w12.heap.size, 0, none⟩) 1 1, .slice (some ⟨bA, offA, none⟩) 1 c1] W14 fun r w' => r = .returned (.bool true) ∧ Below W14.heap.size W14 w' from samePk_any (some ⟨w12.heap.size, 0, none⟩) 1 [⟨n0, s0, z0, q0⟩] (some ⟨bA, offA, none⟩) c1 [⟨n0, s0, z0, q0, g0⟩] W14 (by
                  have h := reads_pk w12 ⟨n0, s0, z0, q0⟩ 49
                  show Reads _ _ _ _ _ (FlV PkC _)
                  rw [FlV_one, hW14]
                  exact h) ((Reads.below HRD.out B14.out).more B14.out.size) (by simp) rfl)
                have KC := Lib.hid (show ∀ w', Below wq.heap.size wq w' → Blk w' w10.heap.size 49 #[.int .u64 n0, .int .u64 s0, .int .i64 z0, .bool q0] → w'.cell? ⟨w10.heap.size, 0, none⟩ = some (.int .u64 n0) ∧ w'.cell? ⟨w10.heap.size, 1, none⟩ = some (.int .u64 s0) ∧ w'.cell? ⟨w10.heap.size, 2, none⟩ = some (.int .i64 z0) ∧ w'.cell? ⟨w10.heap.size, 3, none⟩ = some (.bool q0) ∧ w'.cell? ⟨bA, offA + K * 5 + 1, none⟩ = some (.int .u64 sL) from fun w' h hb =>
                  ⟨hb.cell 0, hb.cell 1, hb.cell 2, hb.cell 3, (h.cell (p := ⟨bA, offA + K * 5 + 1, none⟩) zA).trans hcA⟩)
                have X0 := KC.out W12 B12.out K12.out
                have X1 := KC.out W14 B14.out K14.out
                have HW14 := Lib.hid hW14
                clear hW14 hW12 b12 b12q k12 CLA
                go_wp2_with fail
                rw [HW12.out] at X0
                rw [HW14.out] at CS X1
                first | (go_region_held3 (fun w' => w'.cell? ⟨w10.heap.size, 0, none⟩ = some (.int .u64 n0) ∧ w'.cell? ⟨w10.heap.size, 1, none⟩ = some (.int .u64 s0) ∧ w'.cell? ⟨w10.heap.size, 2, none⟩ = some (.int .i64 z0) ∧ w'.cell? ⟨w10.heap.size, 3, none⟩ = some (.bool q0) ∧ w'.cell? ⟨bA, offA + K * 5 + 1, none⟩ = some (.int .u64 sL)) (first
                  | exact X0
                  | exact X1
                  | exact X2
                  | (go_keep; done)) (first
                  | (go_at_call 8
                     (with_reducible refine CS.out.mono ?_)
                     rintro e w15 ⟨rfl, b15⟩
                     rw [← HW14.out] at b15
                     have B15 := Lib.hid (B14.out.trans (b15.mono hwz))
                     have X2 := KC.out w15 B15.out (K14.out.below b15 K14.out.lt)
                     clear b15)))
                go_wp2_with fail
                refine (CAK.out w15 B15.out).mono ?_
                rintro e w13 ⟨rfl, n13, rfl⟩
                obtain ⟨W13, hW13⟩ : ∃ W13, W13 = w15.drewN n13 := ⟨_, rfl⟩
                have B13 := Lib.hid (show Below wq.heap.size wq W13 by rw [hW13]; exact below_drewN B15.out n13)
                rw [← hW13]
                clear hW13 B15 B14 B12 X0 X1 X2 hsl hpos hpos2 CS KC
                go_wp2_with fail
                have P13 := Lib.hid (P9.out.below B13.out)
                have CN := Lib.hid (show ∀ n, Calls Try.prog 22 #[.pointer pl] (W13.drewN n) fun e w' => e = .returned (.int .u64 NX) ∧ w' = W13.drewN n from fun n => (CNX.out (W13.drewN n) (below_drewN B13.out n)).mono (by rintro e w' ⟨rfl, rfl⟩; exact ⟨rfl, rfl⟩))
                clear CNX CAK
                cases no with
                | true =>
                  obtain ⟨h1, h2, h3, h4⟩ := P9.out.nil rfl
                  subst h1
                  subst h2
                  obtain rfl : AK = 0 := by rw [HAK.out, h3]; rfl
                  obtain rfl : HS = false := by rw [HHS.out, h3]; rfl
                  obtain rfl : NX = 0 := by rw [HNX.out, h3]; rfl
                  clear h3 h4
                  go_quiet ((go_at_call 22; exact Calls.quiet_of_same (CN.out _)))
                  go_wp2_with fail
                  go_roundw
                  case rel => exact ⟨k + 1, x2, l2, by omega, by go_num, by omega, hx2l, Lib.hid ⟨⟨_, _, P13.out.drewN _⟩, HAL2.out⟩⟩
                  case measure => simp [intOf]; omega
                | false =>
                  obtain ⟨gl, Al, cl, y, Ax, cx, hy⟩ := P13.out.yes rfl
                  have e1 := hy.px
                  subst e1
                  have r1 := hy.rl.blk.cell 1
                  have r2 := hy.rl.blk.cell 2
                  have r3 := hy.rl.blk.cell 3
                  simp at r1 r2 r3
                  rw [← HAL2.out.nx, ← HNX.out] at r1
                  rw [← HAL2.out.ak, ← HAK.out] at r2
                  rw [← HAL2.out.hs, ← HHS.out] at r3
                  clear hy HAK HHS HNX
                  cases HS with
                  | true =>
                    go_quiet ((go_at_call 22; exact Calls.quiet_of_same (CN.out _)))
                    go_wp2_with fail
                    go_roundw
                    case rel => exact ⟨k + 1, x2, l2, by omega, by go_num, by omega, hx2l, Lib.hid ⟨⟨_, _, P13.out.drewN _⟩, HAL2.out⟩⟩
                    case measure => simp [intOf]; omega
                  | false =>
                    go_quiet ((go_at_call 22; exact Calls.quiet_of_same (CN.out _)))
                    go_wp2_with fail
                    go_roundw
                    case rel => exact ⟨k + 1, x2, l2, by omega, by go_num, by omega, hx2l, Lib.hid ⟨⟨_, _, P13.out.drewN _⟩, HAL2.out⟩⟩
                    case measure => simp [intOf]; omega
    · have hd : decide (k < xs.length) = false := by simpa using hlt
      have HBL := Lib.hid HS.out.bel
      go_wp2_with fail
      go_ret
      exact ⟨rfl, HBL.out⟩
theorem plays9_walkF (no : Bool) (A0 : Option Addr) (c0 : Nat) (xs : List LossOp) (w : World) (hr : RdT 9 LossOpC (LossOpOk w) w A0 xs) (h1 : xs.length ≤ c0) (h2 : c0 ≤ 9223372036854775807) (h3 : A0 = none → c0 = 0) :
    Calls Try.prog 3 #[.bool no, .slice A0 xs.length c0] w fun e w' => e = .returned (.bool true) ∧ Below w.heap.size w w' :=
  plays9_walk no A0 c0 xs w hr (Nat.le_trans h1 h2)
end Go.Proofs.Ytefhbiocddgijaa
