/-
  word.encodeFields: every field; the loop.
-/
import Derived.Test.YtdcjnkakibeigaaDoorWordN
import Derived.Test.YtdcjnkakibeigaaDoorWordI
namespace Go.Proofs.YtdcjnkakibeigaaDoor
open Go.RowKit
set_option linter.unusedVariables false
set_option linter.unusedSimpArgs false
def encF (k : Nat) (m : MV) : List Int :=
  match k with
  | 0 => venc m.id
  | 1 => venc m.alias_
  | 2 => vtext m.name
  | 3 => [m.prio]
  | 4 => [m.ord]
  | 5 => [bitI m.some_]
  | 6 => venc m.sg ++ venc m.so
  | 7 => if m.kind == 3 then venc m.eg else venc m.eg ++ venc m.eo
  | 8 => venc m.code
  | 9 => vtext m.reason
  | 10 => venc m.vers.length ++ vencs m.vers
  | 11 => venc m.ver
  | 12 => venc m.n
  | _ => []
def encR (own : Int) (m : MV) : Nat → List Int
  | 0 => []
  | k + 1 => encR own m k ++ (if hasB own k then encF k m else [])
def InR (x : Int) : Prop := 0 ≤ x ∧ x < 4611686018427387904
structure GoodV (m : MV) : Prop where
  id : InR m.id
  alias_ : InR m.alias_
  sg : InR m.sg
  so : InR m.so
  eg : InR m.eg
  eo : InR m.eo
  code : InR m.code
  n : InR m.n
  ver : InR m.ver
  name : m.name.length ≤ 900
  reason : m.reason.length ≤ 900
  vl : m.vers.length ≤ 8
  vers : ∀ x ∈ m.vers, 0 ≤ x ∧ x < 4611686018427387904
/-- The message's rows lie below base. -/
structure GM (base : Nat) (w : World) (nA rA vA : Option Addr) (m : MV) : Prop where
  nm : Reads w base 1 nA m.name.length (U8 m.name)
  rs : Reads w base 1 rA m.reason.length (U8 m.reason)
  vs : RdU w base vA m.vers
theorem GM.below {base : Nat} {w w' : World} {nA rA vA : Option Addr} {m : MV} (h : GM base w nA rA vA m) (hb : Below base w w') : GM base w' nA rA vA m :=
  ⟨Reads.below h.nm hb, Reads.below h.rs hb, Reads.below h.vs hb⟩
theorem venc8 {x : Int} (h : InR x) : (venc x).length ≤ 8 := (venc_le x h.1 h.2).2.1
theorem vtext_len {l : List Int} (h : l.length ≤ 900) : (vtext l).length ≤ 908 := by
  unfold vtext
  rw [List.length_append]
  have := venc8 (x := (l.length : Int)) ⟨by omega, by omega⟩
  omega
theorem encF_len (k : Nat) (hk : k < 13) {m : MV} (h : GoodV m) : (encF k m).length ≤ 1000 := by
  rcases (show k = 0 ∨ k = 1 ∨ k = 2 ∨ k = 3 ∨ k = 4 ∨ k = 5 ∨ k = 6 ∨ k = 7 ∨ k = 8 ∨ k = 9 ∨ k = 10 ∨ k = 11 ∨ k = 12 by omega) with rfl | rfl | rfl | rfl | rfl | rfl | rfl | rfl | rfl | rfl | rfl | rfl | rfl
  · exact Nat.le_trans (venc8 h.id) (by decide)
  · exact Nat.le_trans (venc8 h.alias_) (by decide)
  · exact Nat.le_trans (vtext_len h.name) (by decide)
  · exact Nat.le_of_ble_eq_true rfl
  · exact Nat.le_of_ble_eq_true rfl
  · exact Nat.le_of_ble_eq_true rfl
  · show (venc m.sg ++ venc m.so).length ≤ 1000
    rw [List.length_append]
    have := venc8 h.sg; have := venc8 h.so
    omega
  · show (if m.kind == 3 then venc m.eg else venc m.eg ++ venc m.eo).length ≤ 1000
    have := venc8 h.eg; have := venc8 h.eo
    split
    · omega
    · rw [List.length_append]; omega
  · exact Nat.le_trans (venc8 h.code) (by decide)
  · exact Nat.le_trans (vtext_len h.reason) (by decide)
  · show (venc m.vers.length ++ vencs m.vers).length ≤ 1000
    rw [List.length_append]
    have := venc8 (x := (m.vers.length : Int)) ⟨by omega, by have := h.vl; omega⟩
    have := vencs_len h.vers
    have := h.vl
    omega
  · exact Nat.le_trans (venc8 h.ver) (by decide)
  · exact Nat.le_trans (venc8 h.n) (by decide)
theorem encR_len (own : Int) {m : MV} (h : GoodV m) : ∀ k, k ≤ 13 → (encR own m k).length ≤ 1000 * k
  | 0, _ => Nat.le_refl _
  | k + 1, hk => by
    have h1 := encR_len own h k (by omega)
    have h2 := encF_len k (by omega) h
    unfold encR
    rw [List.length_append]
    split
    · omega
    · simp only [List.length_nil]; omega
theorem appF_any (k : Nat) (hk : k < 13) (A : Option Addr) (c : Nat) (P : List Int) (m : MV) (nA : Option Addr) (nc : Nat) (rA : Option Addr) (rc : Nat) (vA : Option Addr) (vc : Nat) (X : List Int) (base : Nat) (w : World)
    (ht : EW base w) (hown : Own w base A c P) (hP : P.length ≤ 80000) (hg : GoodV m) (hr : GM base w nA rA vA m) (hX : X = P ++ encF k m) :
    Calls Tryd.prog 78 #[.slice A P.length c, .agg (mvC m nA nc rA rc vA vc), .int .u16 (fbit k)] w fun r w' => ∃ A' c', r = .returned (.slice A' X.length c') ∧ Grew base w w' A' c' X := by
  rcases (show k = 0 ∨ k = 1 ∨ k = 2 ∨ k = 3 ∨ k = 4 ∨ k = 5 ∨ k = 6 ∨ k = 7 ∨ k = 8 ∨ k = 9 ∨ k = 10 ∨ k = 11 ∨ k = 12 by omega) with rfl | rfl | rfl | rfl | rfl | rfl | rfl | rfl | rfl | rfl | rfl | rfl | rfl
  · exact appF0 ht hown hP hg.id hX
  · exact appF1 ht hown hP hg.alias_ hX
  · exact appF2 ht hown hP (Reads.more hr.nm ht.le) hg.name hX
  · exact appF3 ht hown hP hX
  · exact appF4 ht hown hP hX
  · exact appF5 ht hown hP hX
  · exact appF6 ht hown hP hg.sg hg.so hX
  · have hX2 : X = P ++ (if m.kind == 3 then venc m.eg else venc m.eg ++ venc m.eo) := hX
    by_cases h3 : m.kind = 3
    · rw [show (m.kind == 3) = true by simpa using h3, if_pos rfl] at hX2
      exact appF7s ht hown hP hg.eg h3 hX2
    · rw [show (m.kind == 3) = false by simpa using h3, if_neg (by decide)] at hX2
      exact appF7 ht hown hP hg.eg hg.eo (by simpa using h3) hX2
  · exact appF8 ht hown hP hg.code hX
  · exact appF9 ht hown hP (Reads.more hr.rs ht.le) hg.reason hX
  · exact appF10 ht hown hP hr.vs hg.vl hg.vers hX
  · exact appF11 ht hown hP hg.ver hX
  · exact appF12 ht hown hP hg.n hX
set_option maxHeartbeats 1600000 in
theorem encodeFields_any (m : MV) (nA : Option Addr) (nc : Nat) (rA : Option Addr) (rc : Nat) (vA : Option Addr) (vc : Nat) (base : Nat) (w : World) (ht : EW base w) (hg : GoodV m) (hr : GM base w nA rA vA m) :
    Calls Tryd.prog 69 #[.agg (mvC m nA nc rA rc vA vc)] w fun r w' => ∃ A' c', r = .returned (.slice A' (encR (foW m.kind) m 13).length c') ∧ Grew base w w' A' c' (encR (foW m.kind) m 13) := by
  obtain ⟨W, hW⟩ : ∃ W, W = w.alloc (.cells (mvC m nA nc rA rc vA vc) 31) := ⟨_, rfl⟩
  have b0 : Below w.heap.size w W := by rw [hW]; exact (Below.refl _ _).alloc (Nat.le_refl _) _
  have KB0 := Lib.hid (show Blk W w.heap.size 31 (mvC m nA nc rA rc vA vc) by rw [hW]; exact Blk.new _ _ _)
  obtain ⟨own, hown⟩ : ∃ own, own = foW m.kind := ⟨_, rfl⟩
  obtain ⟨kn, hkn⟩ : ∃ kn, kn = knW m.kind := ⟨_, rfl⟩
  have CF := Lib.hid (fun W => fieldsOfW_any m.kind W)
  rw [← hown, ← hkn] at CF
  obtain ⟨R, hR⟩ : ∃ R : Nat → List Int, R = encR own m := ⟨_, rfl⟩
  rw [← hown, ← hR]
  have R0 := Lib.hid (show R 0 = [] by rw [hR]; rfl)
  have RS := Lib.hid (show ∀ k, R (k + 1) = R k ++ (if hasB own k then encF k m else []) by rw [hR]; intro k; rfl)
  have RL := Lib.hid (show ∀ k, k ≤ 13 → (R k).length ≤ 80000 by
    rw [hR]; intro k hk; have := encR_len own hg k hk; omega)
  have CA := Lib.hid (fun (k : Nat) (hk : k < 13) (A : Option Addr) (c : Nat) (w1 : World) (g : Grew base w w1 A c (R k)) (hh : R (k + 1) = R k ++ encF k m) =>
    appF_any k hk A c (R k) m nA nc rA rc vA vc (R (k + 1)) base w1 (ht.below g.bel) g.own (RL.out k (by omega)) hg (hr.below g.bel) hh)
  have G0 := Lib.hid (show Grew base w W none 0 (R 0) by rw [R0.out]; exact ⟨OwnV.nil _ _ _ _, b0.mono ht.le, KeepW.below b0⟩)
  have R0l : (R 0).length = 0 := by rw [R0.out]; rfl
  clear hR hown hkn ht hg hr b0
  obtain ⟨kind, id, alias_, name, prio, ord, sg, so, eg, eo, some_, code, reason, n, ver, vers⟩ := m
  unfold mvC at hW KB0 CA ⊢
  simp only at hW KB0 CA CF ⊢
  have HW := Lib.hid hW
  clear hW
  go_enter Tryd.func69, Tryd.ntmps69
  go_wp2_with fail
  rw [← HW.out]
  refine (CF.out _).mono ?_
  rintro e w3 ⟨rfl, rfl⟩
  go_wp2_with fail
  go_loopw [3, 6] (fun pv fv wr => ∃ (k : Nat) (FB : Int) (A' : Option Addr) (c' : Nat), pv = .slice A' (R k).length c' ∧ fv = .int .u16 FB ∧ k ≤ 13 ∧ Hid (FB = fbit k) ∧ Hid (Grew base w wr A' c' (R k)) ∧ Hid (Blk wr w.heap.size 31 #[.int .u64 kind, .int .u64 id, .int .u64 alias_, .slice nA name.length nc, .int .u8 prio, .int .u8 ord, .int .u64 sg, .int .u64 so, .int .u64 eg, .int .u64 eo, .bool some_, .int .u64 code, .slice rA reason.length rc, .int .u64 n, .int .u64 ver, .slice vA vers.length vc])) (fun _ fv _ => 8192 - (intOf fv).toNat)
  case atStart => exact ⟨0, 1, none, 0, by rw [R0l], rfl, by omega, Lib.hid rfl, G0, KB0⟩
  case round =>
    obtain ⟨k, FB, A2, c2, rfl, rfl, hk, HFB, HI, HK⟩ := hrel
    rename World => wr
    by_cases hlt : k < 13
    · have hfb := fbit_all k hlt
      rw [← HFB.out] at hfb
      obtain ⟨x1, x2, x3, x4⟩ := hfb
      have hd : decide (FB ≤ 4096) = true := by simpa using x2
      obtain ⟨F2, hF2⟩ : ∃ F2, F2 = fbit (k + 1) := ⟨_, rfl⟩
      rw [← hF2] at x3 x4
      have HF2 := Lib.hid hF2
      obtain ⟨hs, hhs⟩ : ∃ b, b = hasB own k := ⟨_, rfl⟩
      obtain ⟨AN, hAN⟩ : ∃ AN, AN = bits .and .u16 own FB := ⟨_, rfl⟩
      have q1 : (AN != 0) = hs := by rw [hAN, hhs, HFB.out]; rfl
      have hAN2 := hAN.symm
      have HHS := Lib.hid hhs
      have hm0 : 8192 - F2.toNat < 8192 - FB.toNat := by omega
      clear hAN hhs hF2
      cases hs with
      | true =>
        have C := CA.out k hlt A2 c2 wr HI.out (by rw [RS.out k, ← HHS.out]; rfl)
        rw [← HFB.out] at C
        have C := Lib.hid C
        have kb := HK.out
        have zz := kb.lt
        have k0 := kb.cell 0
        have k1 := kb.cell 1
        have k2 := kb.cell 2
        have k3 := kb.cell 3
        have k4 := kb.cell 4
        have k5 := kb.cell 5
        have k6 := kb.cell 6
        have k7 := kb.cell 7
        have k8 := kb.cell 8
        have k9 := kb.cell 9
        have k10 := kb.cell 10
        have k11 := kb.cell 11
        have k12 := kb.cell 12
        have k13 := kb.cell 13
        have k14 := kb.cell 14
        have k15 := kb.cell 15
        simp only [List.getElem?_toArray, List.getElem?_cons_zero, List.getElem?_cons_succ] at k0 k1 k2 k3 k4 k5 k6 k7 k8 k9 k10 k11 k12 k13 k14 k15
        obtain ⟨L2, hL2⟩ : ∃ L2, L2 = (R k).length := ⟨_, rfl⟩
        rw [← hL2] at C ⊢
        clear kb hL2 x4
        go_wp2_with fail
        refine C.out.mono ?_
        rintro e w4 ⟨A4, c4, rfl, g4⟩
        have G4 := Lib.hid (show Grew base w w4 A4 c4 _ from ⟨g4.own, HI.out.bel.trans g4.bel, HI.out.kp.trans g4.kp⟩)
        have K4 := Lib.hid (g4.kp _ _ _ (by decide) HK.out)
        clear g4
        go_wp2_with fail
        go_roundw
        case rel => exact ⟨k + 1, F2, A4, c4, rfl, rfl, by omega, HF2, G4, K4⟩
        case measure => simpa [intOf] using hm0
      | false =>
        have hstep : R (k + 1) = R k := by rw [RS.out k, ← HHS.out]; simp
        have hl : (R k).length = (R (k + 1)).length := by rw [hstep]
        have G4 := Lib.hid (show Grew base w wr A2 c2 (R (k + 1)) by rw [hstep]; exact HI.out)
        clear hstep x4
        go_wp2_with fail
        go_roundw
        case rel => exact ⟨k + 1, F2, A2, c2, by rw [hl], rfl, by omega, HF2, G4, HK⟩
        case measure => simpa [intOf] using hm0
    · obtain rfl : k = 13 := by omega
      obtain rfl : FB = 8192 := by rw [HFB.out]; rfl
      go_wp2_with fail
      go_ret
      exact ⟨A2, c2, rfl, HI.out⟩
end Go.Proofs.YtdcjnkakibeigaaDoor
