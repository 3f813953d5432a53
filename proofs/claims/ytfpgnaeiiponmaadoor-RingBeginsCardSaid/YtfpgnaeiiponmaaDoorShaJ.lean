import Derived.Test.YtfpgnaeiiponmaaDoorShaI
namespace Go.Proofs.YtfpgnaeiiponmaaDoor
open Go.RowKit
set_option linter.unusedVariables false

/-- Parts, one behind the other. -/
def flat (xs : List (Option Addr × Nat × List Int)) : List Int := xs.flatMap fun x => x.2.2
theorem flat_snoc {xs : List (Option Addr × Nat × List Int)} {k : Nat} (h : k < xs.length) : flat (xs.take (k + 1)) = flat (xs.take k) ++ xs[k].2.2 := by
  unfold flat
  rw [List.take_succ_eq_append_getElem h, List.flatMap_append, List.flatMap_singleton]
theorem flat_take_le (xs : List (Option Addr × Nat × List Int)) : ∀ k, (flat (xs.take k)).length ≤ (flat xs).length := by
  intro k
  have h : flat xs = flat (xs.take k) ++ flat (xs.drop k) := by
    unfold flat
    rw [← List.flatMap_append, List.take_append_drop]
  rw [h, List.length_append]
  omega
theorem flat_at_le {xs : List (Option Addr × Nat × List Int)} {k : Nat} (h : k < xs.length) : (flat (xs.take k)).length + xs[k].2.2.length ≤ (flat xs).length := by
  have := flat_take_le xs (k + 1)
  rw [flat_snoc h, List.length_append] at this
  exact this
/-- What lies in a part, lies below the world that it was read in. -/
theorem RdBs.lower {w : World} {A : Option Addr} {xs : List (Option Addr × Nat × List Int)} (h : RdBs w A xs) {k : Nat} (hk : k < xs.length) (hl : 0 < xs[k].2.2.length) : ∀ a, xs[k].1 = some a → a.block < w.heap.size := by
  intro a ha
  obtain ⟨b, off, e, hb⟩ := (h.each _ (List.getElem_mem hk)).1.rd.some_ hl
  rw [ha] at e
  cases e
  exact hb

set_option maxRecDepth 100000 in
set_option maxHeartbeats 800000 in
theorem Sum_any (A : Option Addr) (c : Nat) (xs : List (Option Addr × Nat × List Int)) (w : World) (hr : RdBs w A xs) (hc : xs.length ≤ c) (hm : c ≤ 9223372036854775807) (hS : STab w) (hK : KTab w) (hlen : (flat xs).length ≤ 576460752303423488) :
    Calls Tryd.prog 12 #[.slice A xs.length c] w fun r w' => r = .returned (.agg (IV .u8 (sha (flat xs))).toArray) ∧ Below w.heap.size w w' := by
  have hk1 := hK.1
  obtain ⟨OUT, hOUT⟩ : ∃ OUT, OUT = sha (flat xs) := ⟨_, rfl⟩
  have hsz : (IV .u8 OUT).toArray.size = 32 := by rw [hOUT]; simp [IV, sha_length]
  have hinfo : (Tryd.prog.info? 29).map (·.size) = some 32 := by kernel_rfl
  have hall : (IV .u8 OUT).toArray.all (·.oneCell') = true := by simp [IV, Value.oneCell']
  have HSZ := Lib.hid hsz
  have HIN := Lib.hid hinfo
  have HAL := Lib.hid hall
  rw [← hOUT]
  have HOUT := Lib.hid hOUT
  clear hsz hinfo hall hOUT
  have HR := Lib.hid hr
  have HS := Lib.hid hS
  have HK := Lib.hid hK
  clear hr hS hK
  go_enter Tryd.func12, Tryd.ntmps12
  go_wp2_with (go_at_call 23; refine (newDigest_any _ (HS.out.below ((Below.refl _ _).alloc (Nat.le_refl _) _))).mono ?_; rintro e w1 ⟨g, rfl, hg, hs, b1⟩; have B0 := Lib.hid (show Blk w1 w.heap.size 29 (IV .u8 (List.replicate 32 0)).toArray from (Blk.new w _ _).below b1 (by simp)); have BW := Lib.hid (((Below.refl w.heap.size w).alloc (Nat.le_refl _) _).trans (b1.mono (by simp))); have HG := Lib.hid hg; clear hg b1; have HH := Lib.hid hs; clear hs)
  have hg1 : w.heap.size < g := by have := HG.out; simp at this; omega
  have hgr : 1 ≠ g := by omega
  go_loopw [9] (fun i wr => ∃ k : Nat, k ≤ xs.length ∧ i = .int .i64 k ∧ Hs wr g st0 (flat (xs.take k)) (flat (xs.take k)).length ∧ Blk wr w.heap.size 29 (IV .u8 (List.replicate 32 0)).toArray ∧ Below w.heap.size w wr) (fun i _ => xs.length - (intOf i).toNat)
  case atStart => exact ⟨0, by omega, rfl, HH.out, B0.out, BW.out⟩
  case round =>
    obtain ⟨k, hk, rfl, hs, hb, bel⟩ := hrel
    by_cases hkl : k < xs.length
    · obtain ⟨b, off, rfl, hbw, hcell⟩ := (HR.out.below bel).at_ hkl
      obtain ⟨hsx, hbx⟩ := (HR.out.below bel).each xs[k] (List.getElem_mem hkl)
      have hlow := HR.out.lower hkl
      have hfl := flat_at_le hkl
      have htk := flat_snoc hkl
      obtain ⟨x, hx⟩ : ∃ x, x = xs[k] := ⟨_, rfl⟩
      rw [← hx] at hcell hsx hbx hlow hfl htk
      clear hx
      obtain ⟨xa, xc, xl⟩ := x
      have hcell' : wr.cell? ⟨b, off + k, none⟩ = some (.slice xa xl.length xc) := hcell
      have HTK := Lib.hid htk
      have C := Lib.hid (write_any g st0 _ xl xa xc wr hs hsx.rd hbx (fun h a ha => by have := hlow h a ha; omega) hsx.le (HK.out.below bel) hgr (by simp only at hfl; omega))
      have BB := Lib.hid hb
      have BL := Lib.hid bel
      clear hcell hs htk hb bel hlow hsx hbx hfl
      go_wp2_with (go_at_call 24; refine C.out.mono ?_; rintro e w2 ⟨rfl, hs2, o2⟩; have HS2 := Lib.hid hs2; clear hs2; have O2 := Lib.hid o2; clear o2)
      go_roundw
      case rel =>
        refine ⟨k + 1, by omega, by go_num, ?_, BB.out.grown O2.out (by simp; omega), BL.out.grown O2.out BL.out.size (by rintro _ ⟨⟩; omega)⟩
        rw [HTK.out]
        exact HS2.out
      case measure => simp [intOf]; omega
    · obtain rfl : k = xs.length := by omega
      rw [List.take_of_length_le (Nat.le_refl _)] at hs
      have C := sum_any g st0 _ wr hs (HK.out.below bel) hgr (by omega)
      have C' : Calls Tryd.prog 25 #[.pointer (some ⟨g, 0, none⟩)] wr fun r w' => r = .returned (.agg (IV .u8 OUT).toArray) ∧ wr.grownBy w' (some g) := by rw [HOUT.out]; exact C
      have C2 := Lib.hid C'
      have BB := Lib.hid hb
      have BL := Lib.hid bel
      clear C C' hs hb bel
      go_wp2_with (first
        | (go_at_call 25; refine C2.out.mono ?_; rintro e w2 ⟨rfl, o2⟩; have B2 := Lib.hid (BB.out.grown o2 (by simp; omega)); have L2 := Lib.hid (BL.out.grown o2 BL.out.size (by rintro _ ⟨⟩; omega)); clear o2)
        | refine wpList_store_row rfl 29 (.tmp 2) (.tmp 18) rfl w.heap.size (IV .u8 OUT).toArray rfl rfl 29 _ B2.out (by rw [HSZ.out]; exact HIN.out) (by rw [HSZ.out]; simp [IV]) HAL.out ?_)
      refine bodyPost_ret (v := .agg (IV .u8 OUT).toArray) (results_cell_row rfl _ _ w.heap.size 29 _ (0, 0) _ rfl (Blk.row B2.out _) Tryd.underlying29 rfl (by rw [HSZ.out]; exact HIN.out)) rfl ⟨rfl, ?_⟩
      exact below_setRow L2.out (Nat.le_refl _) _
end Go.Proofs.YtfpgnaeiiponmaaDoor
