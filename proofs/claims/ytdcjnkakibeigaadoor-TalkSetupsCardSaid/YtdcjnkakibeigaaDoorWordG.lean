/-
  word.valid, by value.
-/
import Derived.Test.YtdcjnkakibeigaaDoorWordF
namespace Go.Proofs.YtdcjnkakibeigaaDoor
open Go.RowKit
set_option linter.unusedVariables false
set_option linter.unusedSimpArgs false
set_option maxHeartbeats 1600000 in
theorem valid_any (m : MV) (nA : Option Addr) (nc : Nat) (rA : Option Addr) (rc : Nat) (vA : Option Addr) (vc : Nat) (w : World) (hn : m.name.length ≤ 9223372036854775807) (hr : m.reason.length ≤ 9223372036854775807) (hl : m.vers.length ≤ 1000000) (hv : RdI .u64 w vA m.vers) :
    Calls Tryd.prog 58 #[.agg (mvC m nA nc rA rc vA vc)] w fun r w' => r = .returned (.bool (validB m)) ∧ Below w.heap.size w w' := by
  have C0 := Lib.hid (fun W => fieldsOfW_any m.kind W)
  have C1 := Lib.hid (fun W => setW_any m nA nc rA rc vA vc W hn hr (by omega))
  have C2 := Lib.hid (fun W (h : Below w.heap.size w W) => encodableW_any m nA nc rA rc vA vc W (hv.below h) hl)
  have C3 := Lib.hid (fun W => fitting_any m nA nc rA rc vA vc W hn hr (by omega))
  have e0 : validB m = (knW m.kind && decide (bits .andNot .u16 (setW m) (foW m.kind) = 0) && encW m && fitB m) := rfl
  rw [e0]
  obtain ⟨S, hS⟩ : ∃ S, S = setW m := ⟨_, rfl⟩
  obtain ⟨F, hF⟩ : ∃ F, F = foW m.kind := ⟨_, rfl⟩
  obtain ⟨b0, hb0⟩ : ∃ b, b = knW m.kind := ⟨_, rfl⟩
  obtain ⟨b2, hb2⟩ : ∃ b, b = encW m := ⟨_, rfl⟩
  obtain ⟨b3, hb3⟩ : ∃ b, b = fitB m := ⟨_, rfl⟩
  rw [← hF, ← hb0] at C0
  rw [← hS] at C1
  rw [← hb2] at C2
  rw [← hb3] at C3
  rw [← hS, ← hF, ← hb0, ← hb2, ← hb3]
  obtain ⟨Y, hY⟩ : ∃ Y, Y = bits .andNot .u16 S F := ⟨_, rfl⟩
  obtain ⟨b1, hb1⟩ : ∃ b, b = decide (Y = 0) := ⟨_, rfl⟩
  have q1 : (Y == 0) = b1 := by rw [hb1]; rfl
  rw [← hY, ← hb1]
  have hY2 := hY.symm
  clear e0 hS hF hb0 hb2 hb3 hY hb1 hv
  have HQ := Lib.hid q1
  unfold mvC at C1 C2 C3 ⊢
  have al : ∀ (W : World) (o : Obj), Below W.heap.size W (W.alloc o) := fun W o => (Below.refl _ _).alloc (Nat.le_refl _) _
  have AL := Lib.hid al
  clear al
  cases b0 with
  | false =>
    simp only [Bool.false_and]
    go_enter Tryd.func58, Tryd.ntmps58
    go_wp2_with fail
    refine (C0.out _).mono ?_
    rintro e w1 ⟨rfl, rfl⟩
    go_wp2_with fail
    go_ret
    exact ⟨rfl, AL.out _ _⟩
  | true =>
    simp only [Bool.true_and]
    cases b1 with
    | false =>
      simp only [Bool.false_and]
      go_enter Tryd.func58, Tryd.ntmps58
      go_wp2_with fail
      refine (C0.out _).mono ?_
      rintro e w1 ⟨rfl, rfl⟩
      go_wp2_with fail
      refine (C1.out _).mono ?_
      rintro e w2 ⟨rfl, hb⟩
      have HB := Lib.hid ((AL.out w _).trans (hb.mono (by simp)))
      clear hb
      go_wp2_with fail
      go_ret
      exact ⟨rfl, HB.out⟩
    | true =>
      simp only [Bool.true_and]
      go_enter Tryd.func58, Tryd.ntmps58
      go_wp2_with fail
      refine (C0.out _).mono ?_
      rintro e w1 ⟨rfl, rfl⟩
      go_wp2_with fail
      refine (C1.out _).mono ?_
      rintro e w2 ⟨rfl, hb⟩
      have kk := (Blk.new w 31 #[.int .u64 m.kind, .int .u64 m.id, .int .u64 m.alias_, .slice nA m.name.length nc, .int .u8 m.prio, .int .u8 m.ord, .int .u64 m.sg, .int .u64 m.so, .int .u64 m.eg, .int .u64 m.eo, .bool m.some_, .int .u64 m.code, .slice rA m.reason.length rc, .int .u64 m.n, .int .u64 m.ver, .slice vA m.vers.length vc]).below hb (by simp)
      have HB := Lib.hid ((AL.out w _).trans (hb.mono (by simp)))
      have hz := hb.size
      simp at hz
      have KK := Lib.hid kk
      have k0 := kk.cell 0
      have k1 := kk.cell 1
      have k2 := kk.cell 2
      have k3 := kk.cell 3
      have k4 := kk.cell 4
      have k5 := kk.cell 5
      have k6 := kk.cell 6
      have k7 := kk.cell 7
      have k8 := kk.cell 8
      have k9 := kk.cell 9
      have k10 := kk.cell 10
      have k11 := kk.cell 11
      have k12 := kk.cell 12
      have k13 := kk.cell 13
      have k14 := kk.cell 14
      have k15 := kk.cell 15
      simp at k0 k1 k2 k3 k4 k5 k6 k7 k8 k9 k10 k11 k12 k13 k14 k15
      clear hb kk
      go_wp2_with fail
      clear k0 k1 k2 k3 k4 k5 k6 k7 k8 k9 k10 k11 k12 k13 k14 k15
      have HQ := HQ
      cases b2 with
      | false =>
        refine (C2.out _ HB.out).mono ?_
        rintro e w3 ⟨rfl, hb⟩
        have HB3 := Lib.hid (HB.out.trans (hb.mono HB.out.size))
        clear hb
        go_wp2_with fail
        go_ret
        exact ⟨rfl, HB3.out⟩
      | true =>
        refine (C2.out _ HB.out).mono ?_
        rintro e w3 ⟨rfl, hb⟩
        have kk := KK.out.below hb KK.out.lt
        have HB3 := Lib.hid (HB.out.trans (hb.mono HB.out.size))
        have hz3 := hb.size
        have k0 := kk.cell 0
        have k1 := kk.cell 1
        have k2 := kk.cell 2
        have k3 := kk.cell 3
        have k4 := kk.cell 4
        have k5 := kk.cell 5
        have k6 := kk.cell 6
        have k7 := kk.cell 7
        have k8 := kk.cell 8
        have k9 := kk.cell 9
        have k10 := kk.cell 10
        have k11 := kk.cell 11
        have k12 := kk.cell 12
        have k13 := kk.cell 13
        have k14 := kk.cell 14
        have k15 := kk.cell 15
        simp at k0 k1 k2 k3 k4 k5 k6 k7 k8 k9 k10 k11 k12 k13 k14 k15
        clear hb kk
        go_wp2_with fail
        clear k0 k1 k2 k3 k4 k5 k6 k7 k8 k9 k10 k11 k12 k13 k14 k15
        refine (C3.out _).mono ?_
        rintro e w4 ⟨rfl, hb⟩
        have HB4 := Lib.hid (HB3.out.trans (hb.mono HB3.out.size))
        clear hb
        go_wp2_with fail
        go_ret
        exact ⟨rfl, HB4.out⟩
end Go.Proofs.YtdcjnkakibeigaaDoor
