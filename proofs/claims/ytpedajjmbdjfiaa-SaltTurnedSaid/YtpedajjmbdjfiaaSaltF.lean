/-
  writePadded: what is written, filled up with noughts.
-/
import Derived.Test.YtpedajjmbdjfiaaSaltE
namespace Go.Proofs.Ytpedajjmbdjfiaa
open Go.RowKit
set_option linter.unusedVariables false

/-- The accumulator behind a message that is filled up. -/
def padA (R acc : Nat) (l : List Int) : Nat :=
  if l.length % 16 = 0 then absorb R acc (l.take (l.length - l.length % 16))
  else absorb R (absorb R acc (l.take (l.length - l.length % 16))) (l.drop (l.length - l.length % 16) ++ List.replicate (16 - l.length % 16) 0)

set_option maxHeartbeats 1600000 in
theorem writePadded_any (ga acc f0 f1 z0 z1 c : Nat) (A : Option Addr) (l : List Int) (w0 w : World) (ha : Au w ga acc f0 f1 z0 z1) (hr : Rd w0 A l) (hga : w0.heap.size ≤ ga) (hb0 : Below w0.heap.size w0 w) (hB : Bytes l) (hc : l.length ≤ c) (hm : c ≤ 9223372036854775807)
    (h3 : f0 < 1152921504606846976) (h4 : f1 < 1152921504606846976) :
    Calls Try.prog 43 #[.pointer (some ⟨ga, 0, none⟩), .slice A l.length c] w fun e w' =>
      e = .returned (.tuple #[]) ∧ Au w' ga (padA (f0 + f1 * 18446744073709551616) acc l) f0 f1 z0 z1 ∧ w.grownBy w' (some ga) := by
  obtain ⟨m, hm0⟩ : ∃ m, m = l.length - l.length % 16 := ⟨_, rfl⟩
  have hz : (l.length : Int) - (l.length : Int) % 16 = (m : Int) := by omega
  have hml : m ≤ l.length := by omega
  have hlm : (l.take m).length = m := by simp [hml]
  have hld : (l.drop m).length = l.length % 16 := by simp; omega
  have apart : ∀ (A' : Option Addr) (l' : List Int), Rd w0 A' l' → ∀ a, A' = some a → 0 < l'.length → a.block ≠ ga := fun A' l' h a e h0 => by
    obtain ⟨b, off, e', hb⟩ := h.some_ h0
    rw [e] at e'; injection e' with e'; subst e'
    exact Nat.ne_of_lt (Nat.lt_of_lt_of_le hb hga)
  obtain ⟨A1, hS1, hR1, _⟩ := slice_upto A c l m .i64 hml hc
  obtain ⟨A2, hS2, hR2, _⟩ := slice_from A c l m .i64 hml hc
  rw [hlm, ← hz] at hS1
  rw [hld, ← hz] at hS2
  have hgw : ga < w.heap.size := by obtain ⟨_, _, _, hb, _⟩ := ha.words; exact hb.lt
  have C1 := write_all ga acc f0 f1 z0 z1 c A1 (l.take m) w ha ((hR1 _ hr).below hb0) (apart _ _ (hR1 _ hr)) (hB.take m) (by omega) hm h3 h4
  rw [hlm] at C1
  obtain ⟨R, hR⟩ : ∃ R, R = f0 + f1 * 18446744073709551616 := ⟨_, rfl⟩
  have HRR := Lib.hid hR
  rw [← hR] at C1 ⊢
  obtain ⟨a1, ha1⟩ : ∃ a1, a1 = absorb R acc (l.take m) := ⟨_, rfl⟩
  rw [← ha1] at C1
  have C1' := Lib.hid C1
  have hpad : padA R acc l = if l.length % 16 = 0 then a1 else absorb R a1 (l.drop m ++ List.replicate (16 - l.length % 16) 0) := by
    rw [padA, ← hm0, ← ha1]
  clear C1 ha1 hR
  obtain ⟨Z, hZ⟩ : ∃ Z, Z = padA R acc l := ⟨_, rfl⟩
  rw [← hZ]
  rw [← hZ] at hpad
  have HP := Lib.hid hpad
  have HZq := Lib.hid hz
  have HM := Lib.hid hm0
  have HR := Lib.hid (hR2 _ hr)
  have HB0 := Lib.hid hb0
  have HB := Lib.hid (hB.drop m)
  have HLD := Lib.hid hld
  have APART := Lib.hid apart
  by_cases hfull : l.length % 16 = 0
  · have hnl : ¬ ((l.length : Int) - (l.length : Int) % 16 < (l.length : Int)) := by omega
    have hd : (decide ((l.length : Int) - (l.length : Int) % 16 < (l.length : Int))) = false := by simp; omega
    clear hpad hz hm0 hR1 hR2 hr hb0 hB hld apart hZ hS2 hlm
    go_enter Try.func43, Try.ntmps43
    go_wp2_with fail
    refine C1'.out.mono ?_
    rintro e w1 ⟨rfl, au1, g1⟩
    have AU := Lib.hid au1
    have G := Lib.hid g1
    clear au1 g1
    go_wp2_with fail
    exact bodyPost_end (v := .tuple #[]) (results_none (by rfl) _ _ _) (by rfl) ⟨rfl, by rw [HP.out, if_pos hfull]; exact AU.out, G.out⟩
  · have hnl : (l.length : Int) - (l.length : Int) % 16 < (l.length : Int) := by omega
    have hd : (decide ((l.length : Int) - (l.length : Int) % 16 < (l.length : Int))) = true := by simp; omega
    clear hpad hz hm0 hR1 hR2 hr hb0 hB hld apart hZ hlm
    go_enter Try.func43, Try.ntmps43
    go_wp2_with fail
    refine C1'.out.mono ?_
    rintro e w1 ⟨rfl, au1, g1⟩
    have AU := Lib.hid au1
    have G := Lib.hid g1
    have hg1 : ga < w1.heap.size := Nat.lt_of_lt_of_le hgw g1.size
    clear au1 g1
    have RD1 := Lib.hid (show Rd w1 A2 (l.drop m) from (HR.out.below (grown_below HB0.out (only_trans (World.grownBy.refl w _) G.out) HB0.out.size hga)))
    have sz := slice_arr16z w1.heap.size
    obtain ⟨rest, hrest⟩ : ∃ rest, rest = l.drop m := ⟨_, rfl⟩
    obtain ⟨L1, hL1⟩ : ∃ L1, L1 = l.length % 16 := ⟨_, rfl⟩
    have hL16 : L1 < 16 := by omega
    rw [← hrest] at RD1 HB HLD HP
    rw [← hL1] at hS2 HLD HP
    have HRest := Lib.hid hrest
    have HL1 := Lib.hid hL1
    have eln : (IV IntKind.u8 rest).length = L1 := by rw [IV_length]; exact HLD.out
    have hrl := Lib.hid HLD.out
    clear hrest hL1
    go_wp2_with fail
    go_still_tail 4, (by kernel_rfl)
    obtain ⟨w2, hw2⟩ : ∃ w2, w2 = (w1.alloc (.cells (IV .u8 (List.replicate 16 0)).toArray 25)).drew := ⟨_, rfl⟩
    change wpList _ _ _ _ _ (w1.alloc (.cells (IV .u8 (List.replicate 16 0)).toArray 25)).drew
    have bk2 : Blk w2 w1.heap.size 25 (IV .u8 (List.replicate 16 0)).toArray := by rw [hw2]; exact Blk.new w1 _ _
    have rd2 : Rd w2 A2 rest := by rw [hw2]; exact RD1.out.alloc _
    have be2 : Below w1.heap.size w1 w2 := by rw [hw2]; exact ((Below.refl _ _).alloc (Nat.le_refl _) _).drew
    rw [← hw2]
    clear hw2 sz
    refine wpList_copy_splice rfl (.tmp 21) (.tmp 24) 27 27 rfl 5 rfl rfl _ _ 16 16 L1 (c - m) rfl rfl w1.heap.size 0 (IV .u8 (List.replicate 16 0)) 25 bk2 (IV .u8 rest) (by rw [eln]; exact (Nat.min_eq_left (by omega)).symm) (fun hn => ⟨rfl, (by
            obtain ⟨ad, e, _, hc⟩ := rd2.2 (by simpa [IV] using hn)
            exact ⟨ad, e, hc⟩)⟩) (by rw [eln, IV_length]; simp; omega) (IV_oneCell _ _) w1.heap.size w1 be2 (Nat.le_refl _) ?_
    rw [eln]
    intro w3 h3 b3
    have H3 := Lib.hid (show Blk w3 w1.heap.size 25 (IV .u8 (rest ++ List.replicate (16 - rest.length) 0)).toArray from (by have h := h3.out; rw [splice16 rest (by have := hrl.out; omega)] at h; exact h))
    have B3 := Lib.hid b3
    clear h3 b3 bk2 rd2 be2
    have au3 := AU.out.below B3.out hg1
    have G3 := Lib.hid (only_trans G.out (only_of_below B3.out (some ga)))
    have hl16 : (rest ++ List.replicate (16 - rest.length) 0).length = 16 := by have := HLD.out; simp; omega
    have C2 := Lib.hid (write_all ga _ _ _ _ _ 16 (some ⟨w1.heap.size, 0, none⟩) (rest ++ List.replicate (16 - rest.length) 0) w3 au3 H3.out.rd (fun a e _ => by injection e with e; subst e; exact Nat.ne_of_gt hg1)
      (HB.out.append (zeros_bytes _)) (by omega) (by omega) h3 h4)
    rw [hl16, ← HRR.out, HLD.out] at C2
    clear hl16
    have sz := slice_arr16z w1.heap.size
    clear au3
    refine wpList_nil ?_
    go_wp2_with fail
    refine C2.out.mono ?_
    rintro e w4 ⟨rfl, au4, g4⟩
    have AU4 := Lib.hid au4
    have G4 := Lib.hid (only_trans G3.out g4)
    clear au4 g4
    go_wp2_with fail
    exact bodyPost_end (v := .tuple #[]) (results_none (by rfl) _ _ _) (by rfl) ⟨rfl, by rw [HP.out, if_neg (by have := HL1.out; omega)]; exact AU4.out, G4.out⟩
end Go.Proofs.Ytpedajjmbdjfiaa
