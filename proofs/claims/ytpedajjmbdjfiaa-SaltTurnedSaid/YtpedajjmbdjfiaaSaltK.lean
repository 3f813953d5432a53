/-
  The laws' examples; the stream from a block on; a tag that was turned.
-/
import Derived.Test.YtpedajjmbdjfiaaSaltJ
namespace Go.Proofs.Ytpedajjmbdjfiaa
open Go.RowKit
set_option linter.unusedVariables false

theorem own_lit (w : World) (l : List Int) {base : Nat} (hb : base ≤ w.heap.size) (hm : l.length ≤ 1000) : Own (w.alloc (.cells (U8 l).toArray 5)) base (some ⟨w.heap.size, 0, none⟩) l.length l :=
  Own.new (Blk.new w _ _) hb (by unfold maxLen; omega)
theorem same_yes (A B : Option Addr) (c d : Nat) (a b : List Int) (w : World) (ha : Rd w A a) (hb : Rd w B b) (h1 : Bytes a) (h : a = b) :
    Calls Try.prog 13 #[.slice A a.length c, .slice B b.length d] w fun e w' => e = .returned (.bool true) ∧ w = w' := by
  refine (same_any A B c d a b w ha hb h1 (h ▸ h1)).mono ?_
  rintro e w' ⟨rfl, rfl⟩
  exact ⟨by simp [sameB, h], rfl⟩

theorem Own.at_ {w : World} {base c : Nat} {A : Option Addr} {l : List Int} (h : Own w base A c l) {i : Nat} {y : Int} (hy : l[i]? = some y) : ∃ g, A = some ⟨g, 0, none⟩ ∧ base ≤ g ∧ g < w.heap.size ∧
    w.cell? ⟨g, i, none⟩ = some (.int .u8 y) ∧ w.frozen? ⟨g, i, none⟩ = false ∧ ∀ x, Own (w.setCell ⟨g, i, none⟩ (.int .u8 x)) base A c (l.set i x) := by
  have hi : i < l.length := (List.getElem?_eq_some_iff.1 hy).1
  obtain ⟨h1, h2⟩ := h
  rcases h2 with ⟨h2, h3⟩ | ⟨g, cap, cur, hv, hb, hk, r1, r2, r3, r4⟩
  · omega
  · injection hv with hA _ hc
    subst hA
    have hk' : Blk w g 5 cur := hk
    have hcu : cur.toList[i]? = some (.int .u8 y) := by
      have e : (cur.toList.take (l.length * 1))[i]? = (U8 l)[i]? := by rw [r4]
      rw [List.getElem?_take_of_lt (by omega)] at e
      rw [e]; simp [U8, hy]
    refine ⟨g, rfl, hb, hk'.lt, by rw [hk'.cell]; simpa using hcu, hk'.frozen i, fun x => ?_⟩
    have hs := hk'.set_ i (.int .u8 x)
    refine ⟨by simp [U8], .inr ⟨g, cap, _, by rw [List.length_set, hc], hb, hs, by simpa using r1, r2, by simpa using r3, ?_⟩⟩
    rw [List.length_set, Array.toList_setIfInBounds, List.take_set, r4]
    simp [U8, List.map_set]

theorem turned_ne {T : List Int} {i : Nat} {y b : Int} (hy : T[i]? = some y) (h0 : 0 ≤ y ∧ y < 256) (hb : 0 < b ∧ b < 256) : T ≠ T.set i (bits .xor .u8 y b) := by
  intro h
  have hi : i < T.length := (List.getElem?_eq_some_iff.1 hy).1
  have e : T[i]? = (T.set i (bits .xor .u8 y b))[i]? := by rw [← h]
  rw [hy, List.getElem?_set_self hi] at e
  injection e with e
  obtain ⟨m, rfl⟩ := Int.eq_ofNat_of_zero_le h0.1
  obtain ⟨k, rfl⟩ := Int.eq_ofNat_of_zero_le (by omega : 0 ≤ b)
  rw [u8_xor_nat m k (by omega) (by omega)] at e
  have e' : m = m ^^^ k := by omega
  have : m ^^^ m = m ^^^ (m ^^^ k) := by rw [← e']
  rw [Nat.xor_self, ← Nat.xor_assoc, Nat.xor_self, Nat.zero_xor] at this
  omega

/-- The walk's key and nonce of noughts. -/
def Z32 : List Int := List.replicate 32 0
def Z12 : List Int := List.replicate 12 0

set_option maxRecDepth 100000 in
theorem es_is : stream Z32 Z12 0 4 = [118, 184, 224, 173] := by decide +kernel

set_option maxHeartbeats 1600000 in
theorem awake3_any (w : World) : Calls Try.prog 9 #[] w fun e w' => e = .returned (.bool true) ∧ Below w.heap.size w w' := by
  have b32 : Bytes Z32 := zeros_bytes 32
  have b12 : Bytes Z12 := zeros_bytes 12
  have es := es_is
  have C1 := Close_any Z32 Z12 [] [] none none 0 0 w (by simp [Z32]) b32 (by simp [Z12]) b12 (Rd.nil _ _) Bytes.nil (by simp) (by omega) (Rd.nil _ _) Bytes.nil (by simp) (by omega) (by simp)
  have C2 := Lib.hid (fun W => Stream_any Z32 Z12 0 4 W (by omega) (by simp [Z32]) b32 (by simp [Z12]) b12 (by unfold W32; omega))
  rw [es] at C2
  obtain ⟨P, hP⟩ : ∃ P, P = closeL Z32 Z12 [] [] := ⟨_, rfl⟩
  have e0 : encE Z32 Z12 [] = [] := by unfold encE xorb; simp
  have hPT : P = sealT Z32 Z12 [] [] := by rw [hP, closeL, e0, List.nil_append]
  clear e0
  have hPl : P.length = 16 := by rw [hPT, sealT_length]
  have hPb : Bytes P := by rw [hPT]; exact sealT_bytes _ _ _ _
  rw [← hP] at C1
  clear hP es
  obtain ⟨y, hy⟩ : ∃ y, P[3]? = some y := ⟨_, List.getElem?_eq_getElem (by omega)⟩
  have hyb := hPb.at hy
  obtain ⟨y2, hy2⟩ : ∃ y2, y2 = bits .xor .u8 y 1 := ⟨_, rfl⟩
  have hne := turned_ne hy hyb (b := 1) (by omega)
  have hy2b := xor8 hyb (b := 1) (by omega)
  rw [← hy2] at hne hy2b
  have hPb2 : Bytes (P.set 3 y2) := fun z hz => by
    rcases List.mem_or_eq_of_mem_set hz with hz | rfl
    · exact hPb z hz
    · exact hy2b
  have C3 := Lib.hid (fun (A : Option Addr) (c : Nat) (W : World) (hr : Rd W A (P.set 3 y2)) (hc : 16 ≤ c) (hm : c ≤ 9223372036854775807) => Open_seal Z32 Z12 (P.set 3 y2) [] 0 A none c 0 W (by simp [Z32]) b32 (by simp [Z12]) b12 hr hPb2 (by rw [List.length_set]; omega) hm (Rd.nil _ _) Bytes.nil (by simp) (by omega) (by rw [List.length_set]; omega)
    (by rw [List.take_zero, List.drop_zero, ← hPT]; exact hne))
  rw [List.length_set, hPl] at C3
  have HY := Lib.hid hy
  have HY2 := Lib.hid hy2.symm
  have HPL := Lib.hid hPl
  have HC1 := Lib.hid C1
  clear hy hne hy2b hPb2 hPT hPl hPb b32 b12 C1 hyb hy2
  go_enter Try.func9, Try.ntmps9
  go_wp2_with fail
  refine HC1.out.mono ?_
  rintro e w1 ⟨A1, c1, rfl, o1, b1⟩
  obtain ⟨g, rfl, hg, hgl, hcell, hfr, hset⟩ := o1.at_ HY.out
  have OS := Lib.hid hset
  have O1 := Lib.hid o1
  have B1 := Lib.hid b1
  have hl16 : ([] : List Int).length + 16 = 16 := rfl
  have hcc := o1.cap
  clear hset o1 b1
  go_wp2_with fail
  refine (C2.out _).mono ?_
  rintro e w2 ⟨g2, rfl, hg2, bs, b2⟩
  have S2 := Lib.hid bs
  have B2 := Lib.hid (B1.out.trans (b2.mono B1.out.size))
  have O2 := Lib.hid (O1.out.below b2)
  have hcell2 : w2.cell? ⟨g, 3, none⟩ = some (.int .u8 y) := by rw [b2.cell (p := ⟨g, 3, none⟩) hgl]; exact hcell
  have hfr2 : w2.frozen? ⟨g, 3, none⟩ = false := by rw [b2.frozen (p := ⟨g, 3, none⟩) hgl]; exact hfr
  have hy2 := HY2.out
  have hg2' : g ≠ g2 := by omega
  clear hcell hfr OS O1 B1 bs b2
  go_wp2_with fail
  obtain ⟨g', hA, _, _, _, _, hset⟩ := O2.out.at_ HY.out
  obtain rfl : g = g' := by injection hA with hA; injection hA
  have o3 := hset y2
  have r3 := Rd.of_own o3
  have cap3 : 16 ≤ c1 ∧ c1 ≤ 9223372036854775807 := by have h := O2.out.cap; unfold maxLen at h; rw [HPL.out] at h; omega
  have B3 := Lib.hid (B2.out.setCell (p := ⟨g, 3, none⟩) hg (.int .u8 y2))
  have S3 := Lib.hid (S2.out.far (p := ⟨g, 3, none⟩) (by simpa using (Ne.symm hg2')) (.int .u8 y2))
  refine (C3.out _ _ _ r3 cap3.1 cap3.2).mono ?_
  rintro e w4 ⟨rfl, b4⟩
  have S4 := Lib.hid (S3.out.below b4 S3.out.lt)
  have B4 := Lib.hid (B3.out.trans (b4.mono B3.out.size))
  clear hset o3 r3 b4 hA hcell2 hfr2 hy2
  have hs := same_yes (some ⟨g2, 0, none⟩) (some ⟨w4.heap.size, 0, none⟩) 4 4 [118, 184, 224, 173] [118, 184, 224, 173] (w4.alloc (.cells (U8 [118, 184, 224, 173]).toArray 5)) (S4.out.rd.alloc _) (Rd.of_own (own_lit w4 [118, 184, 224, 173] (Nat.le_refl _) (by decide))) (by unfold Bytes; decide) rfl
  have HS := Lib.hid hs
  clear hs
  go_wp2_with fail
  refine HS.out.mono ?_
  rintro e w5 ⟨rfl, rfl⟩
  go_wp2
  go_ret
  exact ⟨rfl, B4.out.alloc B4.out.size _⟩
end Go.Proofs.Ytpedajjmbdjfiaa
