import Derived.Test.YtfpgnaeiiponmaaDoorShaG
namespace Go.Proofs.YtfpgnaeiiponmaaDoor
open Go.RowKit
set_option linter.unusedVariables false

/-- The state before the first block. -/
def st0 : St := ⟨1779033703, 3144134277, 1013904242, 2773480762, 1359893119, 2600822924, 528734635, 1541459225⟩
theorem st0_list : st0.list = shaH := by decide
theorem st0_ok : st0.ok := by unfold St.ok W32 st0; decide

set_option maxRecDepth 100000 in
set_option maxHeartbeats 400000 in
theorem newDigest_any (w : World) (hS : STab w) :
    Calls Tryd.prog 23 #[] w fun r w' => ∃ g, r = .returned (.pointer (some ⟨g, 0, none⟩)) ∧ w.heap.size ≤ g ∧ Hs w' g st0 [] 0 ∧ Below w.heap.size w w' := by
  have c0 := hS.2 0 1779033703 (by rfl)
  have c1 := hS.2 1 3144134277 (by rfl)
  have c2 := hS.2 2 1013904242 (by rfl)
  have c3 := hS.2 3 2773480762 (by rfl)
  have c4 := hS.2 4 1359893119 (by rfl)
  have c5 := hS.2 5 2600822924 (by rfl)
  have c6 := hS.2 6 528734635 (by rfl)
  have c7 := hS.2 7 1541459225 (by rfl)
  have HS := Lib.hid hS
  obtain ⟨Zc, hZ⟩ : ∃ Zc, Zc = (IV .u32 (List.replicate 8 0) ++ IV .u8 (List.replicate 64 0) ++ [Value.int .i64 0, Value.int .u64 0]).toArray := ⟨_, rfl⟩
  have hz : ∀ w, (zeroValue 64).run Tryd.prog w = .ok (.agg Zc) w := fun w => by rw [hZ]; rfl
  have hzs : Zc.size = 74 := by rw [hZ]; rfl
  have HZ := Lib.hid hZ
  clear hS hZ
  go_enter Tryd.func23, Tryd.ntmps23
  go_wp2_with fail
  have hZ := HZ.out
  go_ret
  refine ⟨w.heap.size, by simp, Nat.le_refl _, ⟨st0_ok, Bytes.nil, List.replicate 64 0, ⟨?_, rfl, rfl⟩, ?_, by simp⟩, (Below.refl _ _).alloc (Nat.le_refl _) _⟩
  · have e : ((((((((Zc.setIfInBounds 0 (Value.int .u32 1779033703)).setIfInBounds 1 (Value.int .u32 3144134277)).setIfInBounds 2 (Value.int .u32 1013904242)).setIfInBounds 3 (Value.int .u32 2773480762)).setIfInBounds 4 (Value.int .u32 1359893119)).setIfInBounds 5 (Value.int .u32 2600822924)).setIfInBounds 6 (Value.int .u32 528734635)).setIfInBounds 7 (Value.int .u32 1541459225)) =
        (IV .u32 (eat (([] : List Int).length / 64) st0 []).list ++ IV .u8 (List.replicate 64 0) ++ [Value.int .i64 ((([] : List Int).length % 64 : Nat) : Int), Value.int .u64 0]).toArray := by
      rw [hZ]; rfl
    rw [e]
    exact Blk.new w _ _
  · intro x hx
    rw [List.eq_of_mem_replicate hx]
    decide
end Go.Proofs.YtfpgnaeiiponmaaDoor
