/-
  word.Read: the deferred function.
-/
import Derived.Test.YtfedofoadfipcaaDoorWordH
import Derived.Defers
import Derived.Recover
import Derived.Laws.Pointers
import Derived.Deep.DeepCutAuto
import Derived.Deep.CutBlock
namespace Go.Proofs.YtfedofoadfipcaaDoor
open Go.RowKit
set_option linter.unusedVariables false
set_option linter.unusedSimpArgs false
theorem catch_idle (a b c : Addr) (w : World) :
    CallsD Tryd.prog 31 #[.pointer (some a), .pointer (some b), .pointer (some c)] .returning w fun e u' w' => e = .returned (.tuple #[]) ∧ u' = .returning ∧ w' = w := by
  refine callsD_of_wpS Tryd.func31 rfl fun c₀ cs hu => ?_
  apply wpS_seq
  apply wpS_region
  simp [wpOpsS, go_sem, recoverD, hu, Tryd.ntmps31, Exit.thenS]
  refine wpS_of_wp ?_
  go_wp2
  cases c₀
  simp_all [bodyPostS, results, Tryd.results31]
theorem run_assert_errno (x : Int) (T : TypeId) (w : World) : (Instr.typeAssert (.iface 32 (.int .i64 x)) T 32 true).run Tryd.prog w = .ok (.tuple #[.int .i64 x, .bool true]) w := by
  simp [Instr.typeAssert, run_underlying Tryd.underlying32, go_sem, Result.andThen]
theorem info_msgJ : (Tryd.prog.info? 31).map (·.size) = some 16 := by kernel_rfl
theorem setRowJ {w : World} {g : Nat} {t : TypeId} {cs : Array Value} (h : Blk w g t cs) (cs' : Array Value) : Blk (w.setRow g cs') g t cs' := by
  unfold Blk at h ⊢
  simp [World.setRow, Array.getElem?_modify, h]
theorem setRow_far {w : World} {g g2 : Nat} {t : TypeId} {cs : Array Value} (h : Blk w g t cs) (hn : g ≠ g2) (cs' : Array Value) : Blk (w.setRow g2 cs') g t cs := by
  unfold Blk at h ⊢
  exact (setRow_other w g2 g cs' hn).trans h
def zeroM : Array Value := mvC (mv0 0) none 0 none 0 none 0
theorem zero_one : zeroM.all (·.oneCell') = true := by
  unfold zeroM mvC mv0
  simp [Value.oneCell']
theorem info_zero : (Tryd.prog.info? 31).map (·.size) = some zeroM.size := info_msgJ
structure Caught (w w' : World) (gm gr ge : Nat) (x : Int) : Prop where
  m : Blk w' gm 31 zeroM
  r : Blk w' gr 23 #[.slice none 0 0]
  e : Blk w' ge 32 #[.int .i64 x]
  fr : Frm w w' (fun b => b = gm ∨ b = gr ∨ b = ge)
set_option maxHeartbeats 4000000 in
set_option maxRecDepth 100000 in
theorem catch_panicking (gm gr ge : Nat) (mc : Array Value) (v1 v2 : Value) (x : Int) (older : List PanicEntry) (w : World) (hm : Blk w gm 31 mc) (hs : mc.size = 16) (hr : Blk w gr 23 #[v1]) (he : Blk w ge 32 #[v2]) (n1 : gm ≠ gr) (n2 : gm ≠ ge) (n3 : gr ≠ ge) :
    CallsD Tryd.prog 31 #[.pointer (some ⟨gm, 0, none⟩), .pointer (some ⟨gr, 0, none⟩), .pointer (some ⟨ge, 0, none⟩)] (.panicking ({ v := .iface 32 (.int .i64 x), recovered := false } :: older)) w fun e u' w' => e = .returned (.tuple #[]) ∧ u' = .panicking ({ v := .iface 32 (.int .i64 x), recovered := true } :: older) ∧ Caught w w' gm gr ge x := by
  have hz : zeroM.size = 16 := rfl
  have HM := Lib.hid hm
  have R1 := setRow_far hr (Ne.symm n1) zeroM
  have E1 := setRow_far he (Ne.symm n2) zeroM
  have M1 := Lib.hid (setRowJ hm zeroM)
  have r0 := R1.cell 0
  have rf := R1.frozen 0
  have rz := R1.lt
  have e2 := (E1.far (p := ⟨gr, 0, none⟩) (Ne.symm n3) (.slice none 0 0))
  have e0 := e2.cell 0
  have ef := e2.frozen 0
  have ez := e2.lt
  have R2 := Lib.hid (((R1.set_ 0 (.slice none 0 0)).far (p := ⟨ge, 0, none⟩) n3 (.int .i64 x)))
  have E2 := Lib.hid (e2.set_ 0 (.int .i64 x))
  have M2 := Lib.hid ((M1.out.far (p := ⟨gr, 0, none⟩) n1 (.slice none 0 0)).far (p := ⟨ge, 0, none⟩) n2 (.int .i64 x))
  have F := Lib.hid (show Frm w (((w.setRow gm zeroM).setCell ⟨gr, 0, none⟩ (.slice none 0 0)).setCell ⟨ge, 0, none⟩ (.int .i64 x)) (fun b => b = gm ∨ b = gr ∨ b = ge) from
    Frm.set (Frm.set (show Frm w (w.setRow gm zeroM) (fun b => b = gm ∨ b = gr ∨ b = ge) from ⟨rfl, rfl, rfl, by simp, fun b hb hn => setRow_other w gm b zeroM (fun e => hn (.inl e))⟩) (p := ⟨gr, 0, none⟩) (.inr (.inr (.inl rfl))) _) (p := ⟨ge, 0, none⟩) (.inr (.inr (.inr rfl))) _)
  have HS := Lib.hid hs
  simp at r0 e0
  clear hm hr he hs R1 E1 e2 n1 n2 n3
  have hta := fun w => run_assert_errno x 20 w
  refine callsD_of_wpS Tryd.func31 rfl fun c₀ cs hu => ?_
  apply wpS_seq
  apply wpS_region
  simp [wpOpsS, go_sem, recoverD, hu, Tryd.ntmps31, Exit.thenS]
  rw [show (#[Value.pointer (some { block := gm, off := 0 }), Value.pointer (some { block := gr, off := 0 }), Value.pointer (some { block := ge, off := 0 })] ++ (Array.replicate 11 undef).setIfInBounds 3 (Value.iface 32 (Value.int IntKind.i64 x))) = #[Value.pointer (some { block := gm, off := 0 }), Value.pointer (some { block := gr, off := 0 }), Value.pointer (some { block := ge, off := 0 }), undef, undef, undef, Value.iface 32 (Value.int IntKind.i64 x), undef, undef, undef, undef, undef, undef, undef] from rfl]
  refine wpS_of_wp ?_
  go_wp2_with (refine wpList_store_row rfl 31 (.tmp 0) (.tmp 12) rfl gm zeroM rfl rfl 31 _ HM.out info_zero (by rw [HS.out]; rfl) zero_one ?_)
  exact ⟨rfl, _, rfl, .tuple #[], results_none (by rfl) _ _ _, rfl, rfl, ⟨M2.out, by simpa using R2.out, by simpa using E2.out, F.out⟩⟩
end Go.Proofs.YtfedofoadfipcaaDoor
