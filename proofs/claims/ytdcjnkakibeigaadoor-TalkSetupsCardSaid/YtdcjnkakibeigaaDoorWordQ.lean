/-
  word.Bytes.
-/
import Derived.Test.YtdcjnkakibeigaaDoorWordP
namespace Go.Proofs.YtdcjnkakibeigaaDoor
open Go.RowKit
set_option linter.unusedVariables false
set_option linter.unusedSimpArgs false
/-- What Bytes answers: the bytes of a valid message, and the form's error of another. -/
structure BytesTo (base : Nat) (w w' : World) (m : MV) (r : Ending) : Prop where
  ok : validB m = true → ∃ A' c', r = .returned (.tuple #[.slice A' (encM m).length c', .int .i64 0]) ∧ Own w' base A' c' (encM m)
  no : validB m = false → r = .returned (.tuple #[.slice none 0 0, .int .i64 4])
  bel : Below base w w'
  kp : KeepW w w'
set_option maxHeartbeats 1600000 in
theorem BytesW_any (m : MV) (nA : Option Addr) (nc : Nat) (rA : Option Addr) (rc : Nat) (vA : Option Addr) (vc : Nat) (base : Nat) (w : World) (ht : EW base w) (hg : validB m = true → GoodV m ∧ InR m.kind) (hr : GM base w nA rA vA m)
    (hn : m.name.length ≤ 9223372036854775807) (hrl : m.reason.length ≤ 9223372036854775807) (hl : m.vers.length ≤ 1000000) :
    Calls Tryd.prog 46 #[.agg (mvC m nA nc rA rc vA vc)] w fun r w' => BytesTo base w w' m r := by
  obtain ⟨W, hW⟩ : ∃ W, W = w.alloc (.cells (mvC m nA nc rA rc vA vc) 31) := ⟨_, rfl⟩
  have b0 : Below w.heap.size w W := by rw [hW]; exact (Below.refl _ _).alloc (Nat.le_refl _) _
  have hWz : w.heap.size < W.heap.size := by rw [hW]; simp
  have KB0 := Lib.hid (show Blk W w.heap.size 31 (mvC m nA nc rA rc vA vc) by rw [hW]; exact Blk.new _ _ _)
  have E0 := ht.below (b0.mono ht.le)
  have GM0 := hr.below (b0.mono ht.le)
  have CV := Lib.hid (valid_any m nA nc rA rc vA vc W hn hrl hl (Reads.more GM0.vs E0.le))
  have B0 := Lib.hid (b0.mono ht.le)
  have KP0 := Lib.hid (KeepW.below b0)
  have CE := Lib.hid (fun w1 (b1 : Below W.heap.size W w1) (hv : validB m = true) => encode_any m nA nc rA rc vA vc base w1 (E0.below (b1.mono E0.le)) (hg hv).1 (hg hv).2 (GM0.below (b1.mono E0.le)))
  obtain ⟨P, hP⟩ : ∃ P : World → Ending → Prop, P = fun w' r => BytesTo base w w' m r := ⟨_, rfl⟩
  have P1 := Lib.hid (fun (hv : validB m = false) (w1 : World) (b1 : Below W.heap.size W w1) => show P w1 (.returned (.tuple #[.slice none 0 0, .int .i64 4])) by
    rw [hP]; exact ⟨fun h => (by rw [hv] at h; cases h), fun _ => rfl, B0.out.trans (b1.mono E0.le), KP0.out.trans (KeepW.below b1)⟩)
  obtain ⟨X, hX⟩ : ∃ X, X = encM m := ⟨_, rfl⟩
  have P2 := Lib.hid (fun (hv : validB m = true) (w1 w2 : World) (b1 : Below W.heap.size W w1) (A' : Option Addr) (c' : Nat) (g : Grew base w1 w2 A' c' X) => show P w2 (.returned (.tuple #[.slice A' X.length c', .int .i64 0])) by
    rw [hP, hX]; exact ⟨fun _ => ⟨A', c', rfl, by rw [← hX]; exact g.own⟩, fun h => (by rw [hv] at h; cases h), B0.out.trans ((b1.mono E0.le).trans g.bel), KP0.out.trans ((KeepW.below b1).trans g.kp)⟩)
  rw [show (fun r w' => BytesTo base w w' m r) = fun r w' => P w' r by rw [hP]]
  rw [← hX] at CE
  obtain ⟨vb, hvb⟩ : ∃ b, b = validB m := ⟨_, rfl⟩
  rw [← hvb] at CV CE P1 P2
  clear hP hX ht hg hr b0 E0 GM0 hn hrl hl hvb
  obtain ⟨kind, id, alias_, name, prio, ord, sg, so, eg, eo, some_, code, reason, n, ver, vers⟩ := m
  unfold mvC at hW KB0 CV CE ⊢
  simp only at hW KB0 CV CE ⊢
  have HW := Lib.hid hW
  clear hW
  go_enter Tryd.func46, Tryd.ntmps46
  go_wp2_with fail
  rw [← HW.out]
  refine CV.out.mono ?_
  rintro e w1 ⟨rfl, b1⟩
  have B1 := Lib.hid b1
  have kb := KB0.out.below b1 hWz
  have zz := kb.lt
  have k0 := kb.cell 0
  have k1 := kb.cell 1
  have k2 := kb.cell 2
  have k3 := kb.cell 3
  have k4 := kb.cell 4
  have k5 := kb.cell 5
  have k6 := kb.cell 6
  have k7 := kb.cell 7
  have k8 := kb.cell 8
  have k9 := kb.cell 9
  have k10 := kb.cell 10
  have k11 := kb.cell 11
  have k12 := kb.cell 12
  have k13 := kb.cell 13
  have k14 := kb.cell 14
  have k15 := kb.cell 15
  simp only [List.getElem?_toArray, List.getElem?_cons_zero, List.getElem?_cons_succ] at k0 k1 k2 k3 k4 k5 k6 k7 k8 k9 k10 k11 k12 k13 k14 k15
  clear b1 kb CV
  cases vb with
  | false =>
    go_wp2_with fail
    exact P1.out trivial w1 B1.out
  | true =>
    have C2 := Lib.hid (CE.out w1 B1.out rfl)
    clear CE
    go_wp2_with fail
    refine C2.out.mono ?_
    rintro e w2 ⟨A2, c2, rfl, g2⟩
    have G2 := Lib.hid g2
    clear g2 C2
    go_wp2_with fail
    exact P2.out trivial w1 w2 B1.out A2 c2 G2.out
end Go.Proofs.YtdcjnkakibeigaaDoor
