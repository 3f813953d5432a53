/-
  talk: next, full, collides (a side anywhere in a block).
-/
import Derived.Test.YtdcjnkakibeigaaDoorTalkA
import Derived.Deep.RegionLaw
namespace Go.Proofs.YtdcjnkakibeigaaDoor
open Go.RowKit
set_option linter.unusedVariables false
set_option linter.unusedSimpArgs false
theorem next_any (g o : Nat) (first : Int) (mA : Option Addr) (mn mc : Nat) (w : World) (c0 : w.cell? ⟨g, o, none⟩ = some (.int .u64 first)) (c2 : w.cell? ⟨g, o + 2, none⟩ = some (.slice mA mn mc)) (hz : g < w.heap.size) (hm : mn ≤ 1000000) (hf : 0 ≤ first ∧ first ≤ 1) :
    Calls Tryd.prog 49 #[.pointer (some ⟨g, o, none⟩)] w fun r w' => r = .returned (.int .u64 (first + 2 * (mn : Int))) ∧ ∃ k, w' = w.drewN k := by
  have h1 : IntKind.u64.wrap (2 * (mn : Int)) = 2 * (mn : Int) := IntWalk.u64_in _ (by omega)
  have h2 : IntKind.u64.wrap (first + 2 * (mn : Int)) = first + 2 * (mn : Int) := IntWalk.u64_in _ (by omega)
  have h3 : IntKind.u64.wrap (mn : Int) = (mn : Int) := IntWalk.u64_in _ (by omega)
  go_enter Tryd.func49, Tryd.ntmps49
  go_wp2_with fail
  go_region
  go_wp2_with fail
  go_ret
  exact ⟨rfl, _, rfl⟩
theorem full_any (g o : Nat) (may : Int) (mA : Option Addr) (mn mc : Nat) (w : World) (c1 : w.cell? ⟨g, o + 1, none⟩ = some (.int .u64 may)) (c2 : w.cell? ⟨g, o + 2, none⟩ = some (.slice mA mn mc)) (hz : g < w.heap.size) (hm : mn ≤ 1000000) :
    Calls Tryd.prog 48 #[.pointer (some ⟨g, o, none⟩)] w fun r w' => r = .returned (.bool (decide (may ≤ mn))) ∧ ∃ k, w' = w.drewN k := by
  have h3 : IntKind.u64.wrap (mn : Int) = (mn : Int) := IntWalk.u64_in _ (by omega)
  go_enter Tryd.func48, Tryd.ntmps48
  go_wp2_with fail
  go_region
  go_wp2_with fail
  go_ret
  exact ⟨rfl, _, rfl⟩
theorem only_newT (w : World) (o : Obj) (row : Option Nat) : w.grownBy (w.alloc o) row := World.grownBy_alloc w o row
set_option maxHeartbeats 800000 in
theorem collides_any (g o : Nat) (B n : Nat) (S : List Int) (m : MV) (nA : Option Addr) (nc : Nat) (rA : Option Addr) (rc : Nat) (vA : Option Addr) (vc : Nat) (w : World) (c4 : w.cell? ⟨g, o + 4, none⟩ = some (.map (some B))) (hz : g < w.heap.size) (hB : MapE w B n S) (ha : (Lit.int .u64 m.alias_).wf = true) :
    Calls Tryd.prog 47 #[.pointer (some ⟨g, o, none⟩), .agg (mvC m nA nc rA rc vA vc)] w fun r w' => r = .returned (.bool (decide (m.alias_ ∈ S) && m.kind == 3)) ∧ Below w.heap.size w w' := by
  obtain ⟨kind, id, al, name, prio, ord, sg, so, eg, eo, sm, code, reason, nn, ver, vers⟩ := m
  unfold mvC
  simp only at ha ⊢
  obtain ⟨W, hW⟩ : ∃ W, W = w.alloc (.cells #[.int .u64 kind, .int .u64 id, .int .u64 al, .slice nA name.length nc, .int .u8 prio, .int .u8 ord, .int .u64 sg, .int .u64 so, .int .u64 eg, .int .u64 eo, .bool sm, .int .u64 code, .slice rA reason.length rc, .int .u64 nn, .int .u64 ver, .slice vA vers.length vc] 31) := ⟨_, rfl⟩
  have K := Lib.hid (show Blk W w.heap.size 31 _ by rw [hW]; exact Blk.new _ _ _)
  have M := hB.alloc (.cells #[.int .u64 kind, .int .u64 id, .int .u64 al, .slice nA name.length nc, .int .u8 prio, .int .u8 ord, .int .u64 sg, .int .u64 so, .int .u64 eg, .int .u64 eo, .bool sm, .int .u64 code, .slice rA reason.length rc, .int .u64 nn, .int .u64 ver, .slice vA vers.length vc] 31)
  have d4 := (World.cell?_alloc_lt w (.cells #[.int .u64 kind, .int .u64 id, .int .u64 al, .slice nA name.length nc, .int .u8 prio, .int .u8 ord, .int .u64 sg, .int .u64 so, .int .u64 eg, .int .u64 eo, .bool sm, .int .u64 code, .slice rA reason.length rc, .int .u64 nn, .int .u64 ver, .slice vA vers.length vc] 31) ⟨g, o + 4, none⟩ hz).trans c4
  have bw := Lib.hid (show Below w.heap.size w W by rw [hW]; exact (Below.refl _ _).alloc (Nat.le_refl _) _)
  rw [← hW] at M d4
  have HW := Lib.hid hW
  have zg : g < W.heap.size := by have := bw.out.size; omega
  have k0 := K.out.cell 0
  have k2 := K.out.cell 2
  simp only [List.getElem?_toArray, List.getElem?_cons_zero, List.getElem?_cons_succ] at k0 k2
  have zk := K.out.lt
  have lk : (Instr.lookup 62 (.map (some B)) (.int .u64 al) true).run Tryd.prog W.drew = .ok (.tuple #[.agg #[], .bool (decide (al ∈ S))]) W.drew := (M.drewN 1).look ha
  have lk2 : (Instr.lookup 62 (.map (some B)) (.int .u64 al) true).run Tryd.prog (W.alloc (.cells #[] 96)).drew = .ok (.tuple #[.agg #[], .bool (decide (al ∈ S))]) (W.alloc (.cells #[] 96)).drew := ((M.alloc (.cells #[] 96)).drewN 1).look ha
  generalize decide (al ∈ S) = used at lk lk2 ⊢
  clear hW c4 hB hz M
  go_enter Tryd.func47, Tryd.ntmps47
  go_upto_region 1 with (fail)
  rw [← HW.out]
  go_region
  all_goals
    cases used
    all_goals
      go_wp2_with fail
      go_ret
      exact ⟨by simp, (bw.out.alloc bw.out.size _).drew⟩
end Go.Proofs.YtdcjnkakibeigaaDoor
