/-
  talk: valid (word.Bytes, whatever the message).
-/
import Derived.Test.YtdcjnkakibeigaaDoorTalkC
import Derived.Test.YtdcjnkakibeigaaDoorTalkB
import Derived.Test.YtdcjnkakibeigaaDoorWordQ
namespace Go.Proofs.YtdcjnkakibeigaaDoor
open Go.RowKit
set_option linter.unusedVariables false
set_option linter.unusedSimpArgs false
set_option maxHeartbeats 800000 in
theorem validT_any (m : MV) (nA : Option Addr) (nc : Nat) (rA : Option Addr) (rc : Nat) (vA : Option Addr) (vc : Nat) (w : World) (ht : Tab w) (hg : validB m = true → GoodV m ∧ InR m.kind) (hr : GM w.heap.size w nA rA vA m)
    (hn : m.name.length ≤ 9223372036854775807) (hrl : m.reason.length ≤ 9223372036854775807) (hl : m.vers.length ≤ 1000000) :
    Calls Tryd.prog 34 #[.agg (mvC m nA nc rA rc vA vc)] w fun r w' => r = .returned (.bool (validB m)) ∧ Below w.heap.size w w' := by
  obtain ⟨OC, hOC⟩ : ∃ OC, OC = mvC m nA nc rA rc vA vc := ⟨_, rfl⟩
  obtain ⟨W, hW⟩ : ∃ W, W = w.alloc (.cells (mvC m nA nc rA rc vA vc) 31) := ⟨_, rfl⟩
  have bw := Lib.hid (show Below w.heap.size w W by rw [hW]; exact (Below.refl _ _).alloc (Nat.le_refl _) _)
  have C := Lib.hid (BytesW_any m nA nc rA rc vA vc w.heap.size W ⟨ht.below bw.out, ht.1, bw.out.size⟩ hg (hr.below bw.out) hn hrl hl)
  have K := Lib.hid (show Blk W w.heap.size 31 (mvC m nA nc rA rc vA vc) by rw [hW]; exact Blk.new _ _ _)
  have HW := Lib.hid hW
  generalize hV : validB m = V at C ⊢
  clear hW ht hg hr
  obtain ⟨kind, id, al, name, prio, ord, sg, so, eg, eo, sm, code, reason, nn, ver, vers⟩ := m
  unfold mvC at *
  simp only at *
  clear hOC
  go_enter Tryd.func34, Tryd.ntmps34
  go_upto_region 1 with (fail)
  rw [← HW.out]
  have d0 := K.out.cell 0
  have d1 := K.out.cell 1
  have d2 := K.out.cell 2
  have d3 := K.out.cell 3
  have d4 := K.out.cell 4
  have d5 := K.out.cell 5
  have d6 := K.out.cell 6
  have d7 := K.out.cell 7
  have d8 := K.out.cell 8
  have d9 := K.out.cell 9
  have d10 := K.out.cell 10
  have d11 := K.out.cell 11
  have d12 := K.out.cell 12
  have d13 := K.out.cell 13
  have d14 := K.out.cell 14
  have d15 := K.out.cell 15
  simp only [List.getElem?_toArray, List.getElem?_cons_zero, List.getElem?_cons_succ] at d0 d1 d2 d3 d4 d5 d6 d7 d8 d9 d10 d11 d12 d13 d14 d15
  have zd := K.out.lt
  go_wp2_with fail
  refine C.out.mono ?_
  rintro e w1 h1
  have B1 := Lib.hid (bw.out.trans h1.bel)
  cases V with
  | false =>
    obtain rfl := h1.no hV
    clear h1 hV
    go_wp2_with fail
    go_ret
    exact ⟨rfl, B1.out⟩
  | true =>
    obtain ⟨A', c', rfl, _⟩ := h1.ok hV
    clear h1 hV
    go_wp2_with fail
    go_ret
    exact ⟨rfl, B1.out⟩
end Go.Proofs.YtdcjnkakibeigaaDoor
