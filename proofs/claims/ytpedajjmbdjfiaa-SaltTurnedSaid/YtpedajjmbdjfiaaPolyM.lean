import Derived.Test.YtpedajjmbdjfiaaPolyL
import Derived.Deep.RegionWith
import Derived.Deep.DeepCutAuto
namespace Go.Proofs.Ytpedajjmbdjfiaa
open Go.RowKit
set_option linter.unusedVariables false
set_option linter.unusedSimpArgs false

theorem rd_at {w : World} {b off : Nat} {l : List Int} (h : Rd w (some ⟨b, off, none⟩) l) (q : Nat) (hq : q ≤ l.length) : Rd w (some ⟨b, off + q, none⟩) (l.drop q) := by
  have k := h.cut hq (cap := l.length + 1) (by omega)
  rw [if_neg (by omega), Nat.mul_one] at k
  unfold Addr.add at k
  by_cases h0 : q = 0
  · subst h0; simpa using k
  · simpa [h0] using k
theorem slice_arr16z (g : Nat) (w : World) :
    (Instr.sliceAt 25 (.pointer (some ⟨g, 0, none⟩)) none none none).run Try.prog w = .ok (.slice (some ⟨g, 0, none⟩) 16 16) w := by
  rw [run_sliceAt_array_all (P := Try.prog) w 25 ⟨g, 0, none⟩ (by rw [arr16_len, arr16_elem]; exact Try.underlying25), arr16_elem, run_sizeOf_u8, arr16_len]
  simp [slicedAt, Addr.add]
theorem Au.below {w w' : World} {B ga acc f0 f1 z0 z1 : Nat} (h : Au w ga acc f0 f1 z0 z1) (hb : Below B w w') (hg : ga < B) : Au w' ga acc f0 f1 z0 z1 := by
  obtain ⟨s0, s1, s2, k, r⟩ := h.words
  exact ⟨s0, s1, s2, k.below hb hg, r⟩
theorem last_list (rest : List Int) (h : rest.length < 16) : ((rest ++ List.replicate (16 - rest.length) 0).set rest.length 1) = lastB rest := by
  rw [List.set_append_right _ _ (Nat.le_refl _), Nat.sub_self, lastB, show 16 - rest.length = (15 - rest.length) + 1 by omega, List.replicate_succ, List.set_cons_zero]
theorem splice16 (rest : List Int) (h : rest.length < 16) : splice (IV .u8 (List.replicate 16 0)) 0 (IV .u8 rest) = IV .u8 (rest ++ List.replicate (16 - rest.length) 0) := by
  unfold splice
  rw [IV_append, IV_length, Nat.zero_add]
  simp only [IV, List.take_zero, List.nil_append, ← List.map_drop, List.drop_replicate]
theorem lastB_length (rest : List Int) (h : rest.length < 16) : (lastB rest).length = 16 := by simp [lastB]; omega
theorem lastB_bytes {rest : List Int} (h : Bytes rest) : Bytes (lastB rest) := by
  intro x hx
  simp only [lastB, List.mem_append, List.mem_cons, List.mem_replicate] at hx
  rcases hx with hx | rfl | ⟨_, rfl⟩
  · exact h x hx
  · omega
  · omega

set_option maxHeartbeats 1600000 in
theorem write_any (ga acc f0 f1 z0 z1 b off c : Nat) (l : List Int) (w : World) (ha : Au w ga acc f0 f1 z0 z1) (hr : Rd w (some ⟨b, off, none⟩) l) (hne : b ≠ ga) (hB : Bytes l) (hc : l.length ≤ c) (hm : c ≤ 9223372036854775807)
    (h3 : f0 < 1152921504606846976) (h4 : f1 < 1152921504606846976) :
    Calls Try.prog 27 #[.pointer (some ⟨ga, 0, none⟩), .slice (some ⟨b, off, none⟩) l.length c] w fun e w' =>
      e = .returned (.tuple #[]) ∧ Au w' ga (absorb (f0 + f1 * 18446744073709551616) acc l) f0 f1 z0 z1 ∧ w.grownBy w' (some ga) := by
  have HA := Lib.hid ha
  have HR := Lib.hid hr
  have HBy := Lib.hid hB
  clear ha hr hB
  obtain ⟨R, hR⟩ : ∃ R, R = f0 + f1 * 18446744073709551616 := ⟨_, rfl⟩
  have HRR := Lib.hid hR
  rw [← hR]
  clear hR
  go_enter Try.func27, Try.ntmps27
  go_wp2_with fail
  go_loopw [1] (fun p wr => ∃ (k q : Nat) (A : Option Addr) (c1 : Nat), q = 16 * k ∧ q ≤ l.length ∧ p = .slice A (l.length - q) c1 ∧ l.length - q ≤ c1 ∧ c1 ≤ c ∧ (0 < l.length - q → A = some ⟨b, off + q, none⟩) ∧ Au wr ga (absB R acc l k) f0 f1 z0 z1 ∧ w.grownBy wr (some ga)) (fun p _ => match p with | .slice _ n _ => n | _ => 0)
  case atStart =>
    exact ⟨0, 0, some ⟨b, off, none⟩, c, rfl, Nat.zero_le _, rfl, hc, Nat.le_refl _, fun _ => rfl, HA.out, World.grownBy.refl w _⟩
  case round =>
    obtain ⟨k, q, A, c1, hq, hql, rfl, hc1, hc2, hA, au, og⟩ := hrel
    obtain ⟨L1, hL1⟩ : ∃ L1, L1 = l.length - q := ⟨_, rfl⟩
    rw [← hL1] at hA hc1 ⊢
    have AU := Lib.hid au
    have OG := Lib.hid og
    have HL1 := Lib.hid hL1
    have HQ := Lib.hid hq
    have RD := Lib.hid (rd_far HR.out og hne)
    clear au og
    by_cases hbig : 16 ≤ L1
    · obtain rfl := hA (by omega)
      have hz : (16 : Int) ≤ (L1 : Int) := by omega
      have hn0 := w8_nat HBy.out q
      have hn1 := w8_nat HBy.out (q + 8)
      obtain ⟨x0, hx0⟩ : ∃ x, x = (w8 l q).toNat := ⟨_, rfl⟩
      obtain ⟨x1, hx1⟩ : ∃ x, x = (w8 l (q + 8)).toNat := ⟨_, rfl⟩
      have hblk : blkN l (16 * k) = x0 + x1 * 18446744073709551616 := by rw [← hq, hx0, hx1]; rfl
      have HBLK := Lib.hid hblk
      rw [← hx0] at hn0
      rw [← hx1] at hn1
      have C0 : Calls Try.prog 37 #[.slice (some ⟨b, off + q, none⟩) L1 c1] wr.drew fun e w' => e = .returned (.int .u64 (x0 : Int)) ∧ ∃ k, w' = wr.drew.drewN k := by
        have h := word64_rd RD.out.drew HBy.out q L1 c1 (by omega) hc1 (by omega) (by omega)
        rw [← hn0.1] at h
        exact h
      have C1 : ∀ n, Calls Try.prog 37 #[.slice (some ⟨b, off + q + 8, none⟩) (L1 - 8) (c1 - 8)] (wr.drewN n) fun e w' => e = .returned (.int .u64 (x1 : Int)) ∧ ∃ k, w' = (wr.drewN n).drewN k := fun n => by
        have h := word64_rd (RD.out.drewN n) HBy.out (q + 8) (L1 - 8) (c1 - 8) (by omega) (by omega) (by omega) (by omega)
        rw [← hn1.1, ← Nat.add_assoc] at h
        exact h
      have H0 := Lib.hid C0
      have H1 := Lib.hid C1
      have CA := Lib.hid (fun n => (show Calls Try.prog 38 #[.pointer (some ⟨ga, 0, none⟩), .agg #[.int .u64 x0, .int .u64 x1, .int .u64 1]] (wr.drewN n) _ from add_au ga _ f0 f1 z0 z1 x0 x1 1 (wr.drewN n) ⟨AU.out.words⟩ hn0.2 hn1.2 (by omega) h3 h4))
      obtain ⟨A8, hA8, s8⟩ := slice_k b (off + q) L1 c1 8 (by omega) hc1
      obtain rfl := hA8 (by omega)
      obtain ⟨A16, hA16, s16⟩ := slice_k b (off + q) L1 c1 16 (by omega) hc1
      have HA16 := Lib.hid hA16
      rw [show ((8 : Nat) : Int) = 8 from rfl] at s8
      rw [show ((16 : Nat) : Int) = 16 from rfl] at s16
      clear C0 C1 hn0 hn1 hx0 hx1 hblk hA8 hA16 hA hq hL1
      go_upto_region 1 with (fail)
      go_region_with (first
        | (go_at_call 37
           (with_reducible refine H0.out.mono ?_)
           rintro e wa ⟨rfl, k1, rfl⟩)
        | (go_at_call 37
           (with_reducible refine (H1.out _).mono ?_)
           rintro e wb ⟨rfl, k2, rfl⟩)
        | (go_at_call 38
           (with_reducible refine (CA.out _).mono ?_)
           rintro e wc ⟨rfl, au2, g2⟩))
      all_goals
        rw [← HRR.out, show x0 + x1 * 18446744073709551616 + 1 * 340282366920938463463374607431768211456 = blkN l (16 * k) + 340282366920938463463374607431768211456 by rw [HBLK.out]] at au2
        have AU2 := Lib.hid (show Au wc ga (absB R acc l (k + 1)) f0 f1 z0 z1 from au2)
        have OG2 := Lib.hid (only_trans (only_drewN OG.out (1 + k1 + k2)) g2)
        clear au2 g2
        go_wp2_with fail
        go_roundw
        case rel => exact ⟨k + 1, q + 16, A16, c1 - 16, by have := HQ.out; omega, by have := HL1.out; omega, by rw [show l.length - (q + 16) = L1 - 16 by have := HL1.out; omega], by have := HL1.out; omega, by omega, fun h => by rw [HA16.out (by have := HL1.out; omega), Nat.add_assoc], AU2.out, OG2.out⟩
        case measure => simp [intOf]; omega
    · have hz : ¬ (16 : Int) ≤ (L1 : Int) := by omega
      have hk : k = l.length / 16 := by omega
      have hL : L1 = l.length % 16 := by omega
      by_cases h0 : L1 = 0
      · have hfin : absorb R acc l = absB R acc l k := by rw [absorb, if_pos (by omega), ← hk]
        have AF := Lib.hid (show Au wr ga (absorb R acc l) f0 f1 z0 z1 by rw [hfin]; exact AU.out)
        have hl0 : ¬ (0 : Int) < (L1 : Int) := by omega
        clear hfin hq hL1 hk hL
        go_wp2_with fail
        exact bodyPost_end (v := .tuple #[]) (results_none (by rfl) _ _ _) (by rfl) ⟨rfl, AF.out, OG.out⟩
      · have hl1 : (0 : Int) < (L1 : Int) := by omega
        obtain rfl := hA (by omega)
        obtain ⟨rest, hrest⟩ : ∃ r, r = l.drop q := ⟨_, rfl⟩
        have hrl : rest.length = L1 := by rw [hrest, List.length_drop]; omega
        have hrb : Bytes rest := by rw [hrest]; exact fun x hx => HBy.out x (List.mem_of_mem_drop hx)
        have RR := Lib.hid (show Rd wr (some ⟨b, off + q, none⟩) rest by rw [hrest]; exact rd_at RD.out q hql)
        have hfin : absorb R acc l = (absB R acc l k + blkN (lastB rest) 0) * R := by rw [absorb, if_neg (by omega), ← hk, ← hq, hrest]
        have HFIN := Lib.hid hfin
        obtain ⟨LB, hLB⟩ : ∃ LB, LB = lastB rest := ⟨_, rfl⟩
        have hLl : LB.length = 16 := by rw [hLB]; exact lastB_length rest (by omega)
        have hLbb : Bytes LB := by rw [hLB]; exact lastB_bytes hrb
        have hset : (rest ++ List.replicate (16 - rest.length) 0).set L1 1 = LB := by rw [hLB, ← hrl]; exact last_list rest (by omega)
        have HSET := Lib.hid hset
        have HLB := Lib.hid hLB
        have HRL := Lib.hid hrl
        have eln : (IV IntKind.u8 rest).length = L1 := by rw [IV_length]; exact hrl
        have hL16 : (L1 : Int) < 16 := by omega
        obtain ⟨x0, hx0⟩ : ∃ x, x = (w8 LB 0).toNat := ⟨_, rfl⟩
        obtain ⟨x1, hx1⟩ : ∃ x, x = (w8 LB 8).toNat := ⟨_, rfl⟩
        have hn0 := w8_nat hLbb 0
        have hn1 := w8_nat hLbb 8
        have hblk : blkN LB 0 = x0 + x1 * 18446744073709551616 := by rw [hx0, hx1]; rfl
        have HBLK := Lib.hid hblk
        rw [← hx0] at hn0
        rw [← hx1] at hn1
        have hgaw : ga < wr.heap.size := by obtain ⟨_, _, _, hb, _⟩ := AU.out.words; exact hb.lt
        clear hq hL1 hA hk hL hrest hrb hfin hLB hset hrl hx0 hx1 hblk
        go_wp2_with (refine wpList_copy_splice rfl (.tmp 21) (.tmp 22) 27 27 rfl 5 rfl rfl _ _ 16 16 L1 c1 rfl rfl wr.heap.size 0 (IV .u8 (List.replicate 16 0)) 25 (Blk.new wr _ _) (IV .u8 rest) (by rw [eln]; exact (Nat.min_eq_left (by omega)).symm) (fun hn => ⟨rfl, (by
            obtain ⟨ad, e, _, hc⟩ := (RR.out.alloc _).2 (by simpa [IV] using hn)
            exact ⟨ad, e, hc⟩)⟩) (by rw [eln, IV_length]; simp; omega) (IV_oneCell _ _) wr.heap.size wr ((Below.refl _ _).alloc (Nat.le_refl _) _) (Nat.le_refl _) ?_
                     rw [eln]
                     intro w3 h3 b3
                     have H3 := Lib.hid (show Blk w3 wr.heap.size 25 (IV .u8 (rest ++ List.replicate (16 - rest.length) 0)).toArray from (by have h := h3.out; rw [splice16 rest (by have := HRL.out; omega)] at h; exact h))
                     have B3 := Lib.hid b3
                     have f3 := H3.out.frozen L1
                     obtain ⟨y3, c3⟩ : ∃ y, w3.cell? ⟨wr.heap.size, L1, none⟩ = some (.int .u8 y) := ⟨_, H3.out.cell_i (List.getElem?_eq_getElem (show L1 < (rest ++ List.replicate (16 - rest.length) 0).length by have := HRL.out; simp; omega))⟩
                     clear h3 b3)
        have k4 := H3.out.store_i L1 1
        rw [HSET.out] at k4
        have b4 := B3.out.setCell (p := ⟨wr.heap.size, L1, none⟩) (Nat.le_refl _) (.int .u8 1)
        generalize w3.setCell ⟨wr.heap.size, L1, none⟩ (.int .u8 1) = w4 at k4 b4 ⊢
        have au4 := AU.out.below b4 hgaw
        have OG4 := Lib.hid (only_trans OG.out (only_of_below b4 (some ga)))
        have D0 := Lib.hid (show Calls Try.prog 37 #[.slice (some ⟨wr.heap.size, 0, none⟩) 16 16] w4.drew fun e w' => e = .returned (.int .u64 (x0 : Int)) ∧ ∃ k, w' = w4.drew.drewN k by
          have h := word64_of k4.drew hLbb 0 16 16 (by omega) (by omega) (by omega) (by omega)
          rw [← hn0.1] at h
          exact h)
        have D1 := Lib.hid (show ∀ n, Calls Try.prog 37 #[.slice (some ⟨wr.heap.size, 8, none⟩) 8 8] (w4.drewN n) fun e w' => e = .returned (.int .u64 (x1 : Int)) ∧ ∃ k, w' = (w4.drewN n).drewN k from fun n => by
          have h := word64_of (k4.drewN n) hLbb 8 8 8 (by omega) (by omega) (by omega) (by omega)
          rw [← hn1.1] at h
          exact h)
        have CA := Lib.hid (fun n => (show Calls Try.prog 38 #[.pointer (some ⟨ga, 0, none⟩), .agg #[.int .u64 x0, .int .u64 x1, .int .u64 0]] (w4.drewN n) _ from add_au ga _ f0 f1 z0 z1 x0 x1 0 (w4.drewN n) ⟨au4.words⟩ hn0.2 hn1.2 (by omega) h3 h4))
        have sz := slice_arr16z wr.heap.size
        have s8 := slice_arr16_from8 wr.heap.size
        clear k4 b4 au4 hn0 hn1 f3 c3 hl1 hL16 eln hLbb hLl
        go_region_with (first
          | (go_at_call 37
             (with_reducible refine D0.out.mono ?_)
             rintro e wa ⟨rfl, k1, rfl⟩)
          | (go_at_call 37
             (with_reducible refine (D1.out _).mono ?_)
             rintro e wb ⟨rfl, k2, rfl⟩)
          | (go_at_call 38
             (with_reducible refine (CA.out _).mono ?_)
             rintro e wc ⟨rfl, au2, g2⟩))
        all_goals
          rw [← HRR.out, show x0 + x1 * 18446744073709551616 + 0 * 340282366920938463463374607431768211456 = blkN (lastB rest) 0 by rw [← HLB.out, HBLK.out]; omega, ← HFIN.out] at au2
          have AU2 := Lib.hid au2
          have OG2 := Lib.hid (only_trans (only_drewN OG4.out (1 + k1 + k2)) g2)
          clear au2 g2
          go_wp2_with fail
          exact bodyPost_end (v := .tuple #[]) (results_none (by rfl) _ _ _) (by rfl) ⟨rfl, AU2.out, OG2.out⟩
end Go.Proofs.Ytpedajjmbdjfiaa
