/-
  item.ReadGram: what it reads, by value; its deferred function.
-/
import Derived.Test.YtpaglcojbcndoaaDoorItemB
import Derived.Test.YtpaglcojbcndoaaDoorPrsC
import Derived.Defers
import Derived.Recover
import Derived.Laws.Pointers
import Derived.Laws.Rows
import Derived.Deep.RegionHeld3
namespace Go.Proofs.YtpaglcojbcndoaaDoor
open Go.RowKit
set_option linter.unusedVariables false
set_option linter.unusedSimpArgs false
def pnum (p : List Int) : Option (Int × List Int) := if rdS p = 0 then none else some (rdN p, p.drop (rdS p))
section
variable {gp g B : Nat} {p q : List Int} {L : Int} {w : World}
theorem pnum_some {n : Int} (h : pnum p = some (n, q)) : rdS p ≠ 0 ∧ rdN p = n ∧ p.drop (rdS p) = q := by
  unfold pnum at h
  split at h
  · cases h
  · rename_i h0
    injection h with h
    injection h with h1 h2
    exact ⟨h0, h1, h2⟩
theorem pnum_none (h : pnum p = none) : rdS p = 0 := by
  unfold pnum at h
  split at h
  · assumption
  · cases h
theorem pnum_bd (hb : Bytes p) {n : Int} (h : pnum p = some (n, q)) : 0 ≤ n ∧ Bytes q := by
  obtain ⟨_, rfl, rfl⟩ := pnum_some h
  exact ⟨rdN_nonneg p hb, hb.drop _⟩
theorem pnum_lenI {n : Int} (h : pnum p = some (n, q)) : q.length ≤ p.length := by
  obtain ⟨_, _, rfl⟩ := pnum_some h
  rw [List.length_drop]; omega
theorem WNum_ok {n : Int} (h : Prs w gp g B p L) (hn : pnum p = some (n, q)) :
    Calls Tryd.prog 29 #[.pointer (some ⟨gp, 0, none⟩)] w fun r w' => r = .returned (.int .u64 n) ∧ Prs w' gp g B q L ∧ w.grownBy w' (some g) := by
  obtain ⟨h0, rfl, rfl⟩ := pnum_some hn
  exact PNumber_ok h h0
theorem WNum_no (h : Prs w gp g B p L) (hn : pnum p = none) :
    Calls Tryd.prog 29 #[.pointer (some ⟨gp, 0, none⟩)] w fun r w' => r = dies L ∧ w.grownBy w' (some g) := PNumber_no h (pnum_none hn)
theorem Prs.set_ {gm : Nat} (h : Prs w gp g B p L) (h1 : gm ≠ g) (h2 : gm ≠ gp) (hB : B ≤ gm) (i : Nat) (u : Value) : Prs (w.setCell ⟨gm, i, none⟩ u) gp g B p L := by
  have hg : w.grownBy (w.setCell ⟨gm, i, none⟩ u) (some gm) := only_set (only_refl w (some gm)) (p := ⟨gm, i, none⟩) rfl u
  have hl := h.rd.lt
  have hle := h.rd.le
  obtain ⟨A, c, kb, e1, e2, e3, e4⟩ := h.rd.blk
  exact ⟨h.pb.grown hg (fun e => by injection e with e; exact h2 e.symm), ⟨⟨A, c, kb.grown hg (fun e => by injection e with e; exact h1 e.symm), e1, e2, e3.grown hg (by omega) (fun r hr => by injection hr with hr; omega), e4⟩, h.rd.bytes, h.rd.le, h.rd.small⟩, h.le⟩
end
/-- What a datagram is: its alias and its object. -/
def prG (p : List Int) : Option (Int × OV) :=
  match pnum p with
  | none => none
  | some (m, q1) => if m = 1 then
      match pnum q1 with
      | none => none
      | some (al, q2) => match pnum q2 with
        | none => none
        | some (gr, q3) => match pnum q3 with
          | none => none
          | some (ob, q4) => match q4 with
            | [] => none
            | x :: d => if d.length ≤ 2048 then some (al, ⟨gr, ob, x, true, d⟩) else none
    else none
def zeroO : Array Value := #[.int .u64 0, .int .u64 0, .int .u8 0, .bool false, .slice none 0 0]
theorem info_obj : (Tryd.prog.info? 27).map (·.size) = some 5 := by kernel_rfl
theorem load1_u64I (w : World) (g : Nat) (v : Value) (h : w.cell? ⟨g, 0, none⟩ = some v) : (loadVar 22 ⟨g, 0, none⟩).run Tryd.prog w = .ok v w := by
  simp [loadVar, go_sem, h]
theorem load1_errI (w : World) (g : Nat) (v : Value) (h : w.cell? ⟨g, 0, none⟩ = some v) : (loadVar 32 ⟨g, 0, none⟩).run Tryd.prog w = .ok v w := by
  simp [loadVar, go_sem, h]
theorem results_gram (tmps : Array Value) (w : World) (ga go ge : Nat) (oc : Array Value) (v1 v2 : Value) (h2 : tmps.getD 2 undef = .pointer (some ⟨ga, 0, none⟩)) (h3 : tmps.getD 3 undef = .pointer (some ⟨go, 0, none⟩)) (h4 : tmps.getD 4 undef = .pointer (some ⟨ge, 0, none⟩))
    (c1 : w.cell? ⟨ga, 0, none⟩ = some v1) (hm : Blk w go 27 oc) (hs : oc.size = 5) (c2 : w.cell? ⟨ge, 0, none⟩ = some v2) :
    (results Tryd.f12 tmps).run Tryd.prog w = .ok (.tuple #[v1, .agg oc, v2]) w := by
  have hl := run_loadVar_row (P := Tryd.prog) w go 27 27 oc (0, 0) _ hm Tryd.underlying27 rfl (by rw [hs]; exact info_obj)
  have l1 := load1_u64I w ga v1 c1
  have l2 := load1_errI w ge v2 c2
  have h2' : tmps[2]?.getD undef = .pointer (some ⟨ga, 0, none⟩) := by simpa using h2
  have h3' : tmps[3]?.getD undef = .pointer (some ⟨go, 0, none⟩) := by simpa using h3
  have h4' : tmps[4]?.getD undef = .pointer (some ⟨ge, 0, none⟩) := by simpa using h4
  simp only [results, show Tryd.f12.results = #[.cell 2 22, .cell 3 27, .cell 4 32] from rfl]
  simp [h2', h3', h4', asAddr, hl, l1, l2]
theorem setRowI {w : World} {g : Nat} {t : TypeId} {cs : Array Value} (h : Blk w g t cs) (cs' : Array Value) : Blk (w.setRow g cs') g t cs' := by
  unfold Blk at h ⊢
  simp [World.setRow, Array.getElem?_modify, h]
theorem setRow_farI {w : World} {g g2 : Nat} {t : TypeId} {cs : Array Value} (h : Blk w g t cs) (hn : g ≠ g2) (cs' : Array Value) : Blk (w.setRow g2 cs') g t cs := by
  unfold Blk at h ⊢
  exact (setRow_other w g2 g cs' hn).trans h
theorem only_setRowI (w : World) (g : Nat) (cs : Array Value) : w.grownBy (w.setRow g cs) (some g) :=
  ⟨rfl, rfl, rfl, by simp, fun i hi hne => setRow_other w g i cs (fun e => hne (by rw [e]))⟩
theorem range_blkI {w : World} {g : Nat} {t : TypeId} {cs : Array Value} (h : Blk w g t cs) : w.rangeAt g 0 cs.toList := fun j v hv => by
  rw [Nat.zero_add, h.cell j]
  simpa using hv
/-- The three boxes of the results. -/
structure BxG (w wr : World) (al : Value) (oc : Array Value) : Prop where
  a : Blk wr w.heap.size 22 #[al]
  o : Blk wr (w.heap.size + 1) 27 oc
  sz : oc.size = 5
  e : Blk wr (w.heap.size + 2) 32 #[.int .i64 0]
  bel : Below w.heap.size w wr
theorem BxG.below {w wr w' : World} {al : Value} {oc : Array Value} (h : BxG w wr al oc) (hb : Below (w.heap.size + 3) wr w') : BxG w w' al oc :=
  ⟨h.a.below hb (by omega), h.o.below hb (by omega), h.sz, h.e.below hb (by omega), h.bel.trans (hb.mono (by omega))⟩
theorem row_below3I {wr w' : World} {g N : Nat} (hg : wr.grownBy w' (some g)) (h : N ≤ g) (h2 : N ≤ wr.heap.size) : Below N wr w' :=
  ⟨hg.os, hg.tape, hg.output, hg.size, fun i hi => hg.block i (by omega) (fun e => by injection e with e; omega)⟩
theorem run_assert_errno (x : Int) (T : TypeId) (w : World) : (Instr.typeAssert (.iface 32 (.int .i64 x)) T 32 true).run Tryd.prog w = .ok (.tuple #[.int .i64 x, .bool true]) w := by
  simp [Instr.typeAssert, run_underlying Tryd.underlying32, go_sem, Result.andThen]
theorem catch_idle (a b c : Addr) (w : World) :
    CallsD Tryd.prog 26 #[.pointer (some a), .pointer (some b), .pointer (some c)] .returning w fun e u' w' => e = .returned (.tuple #[]) ∧ u' = .returning ∧ w' = w := by
  refine callsD_of_wpS Tryd.func26 rfl fun c₀ cs hu => ?_
  apply wpS_seq
  apply wpS_region
  simp [wpOpsS, go_sem, recoverD, hu, Tryd.ntmps26, Exit.thenS]
  refine wpS_of_wp ?_
  go_wp2
  cases c₀
  simp_all [bodyPostS, results, Tryd.results26]
theorem zeroO_one : zeroO.all (·.oneCell') = true := by
  unfold zeroO
  simp [Value.oneCell']
structure CaughtG (w w' : World) (ga go ge : Nat) (x : Int) : Prop where
  a : Blk w' ga 22 #[.int .u64 0]
  o : Blk w' go 27 zeroO
  e : Blk w' ge 32 #[.int .i64 x]
  fr : Frm w w' (fun b => b = ga ∨ b = go ∨ b = ge)
set_option maxHeartbeats 4000000 in
set_option maxRecDepth 100000 in
theorem catch_panicking (ga go ge : Nat) (oc : Array Value) (v1 v2 : Value) (x : Int) (older : List PanicEntry) (w : World) (ha : Blk w ga 22 #[v1]) (ho : Blk w go 27 oc) (hs : oc.size = 5) (he : Blk w ge 32 #[v2]) (n1 : ga ≠ go) (n2 : ga ≠ ge) (n3 : go ≠ ge) :
    CallsD Tryd.prog 26 #[.pointer (some ⟨ga, 0, none⟩), .pointer (some ⟨go, 0, none⟩), .pointer (some ⟨ge, 0, none⟩)] (.panicking ({ v := .iface 32 (.int .i64 x), recovered := false } :: older)) w fun e u' w' => e = .returned (.tuple #[]) ∧ u' = .panicking ({ v := .iface 32 (.int .i64 x), recovered := true } :: older) ∧ CaughtG w w' ga go ge x := by
  have hz : zeroO.size = 5 := rfl
  have a0 := ha.cell 0
  have af := ha.frozen 0
  have az := ha.lt
  have A1 := ha.set_ 0 (.int .u64 0)
  have O1 := Lib.hid (ho.far (p := ⟨ga, 0, none⟩) (Ne.symm n1) (.int .u64 0))
  have E1 := he.far (p := ⟨ga, 0, none⟩) (Ne.symm n2) (.int .u64 0)
  have A2 := setRow_farI A1 n1 zeroO
  have O2 := setRowI O1.out zeroO
  have E2 := setRow_farI E1 (Ne.symm n3) zeroO
  have e0 := E2.cell 0
  have ef := E2.frozen 0
  have ez := E2.lt
  have A3 := Lib.hid (A2.far (p := ⟨ge, 0, none⟩) n2 (.int .i64 x))
  have O3 := Lib.hid (O2.far (p := ⟨ge, 0, none⟩) n3 (.int .i64 x))
  have E3 := Lib.hid (E2.set_ 0 (.int .i64 x))
  have f1 : Frm w (w.setCell ⟨ga, 0, none⟩ (.int .u64 0)) (fun b => b = ga ∨ b = go ∨ b = ge) := Frm.set (Frm.refl w _) (p := ⟨ga, 0, none⟩) (Or.inr (Or.inl rfl)) _
  have f2 : Frm (w.setCell ⟨ga, 0, none⟩ (.int .u64 0)) ((w.setCell ⟨ga, 0, none⟩ (.int .u64 0)).setRow go zeroO) (fun b => b = ga ∨ b = go ∨ b = ge) := ⟨rfl, rfl, rfl, by simp, fun b hb hn => setRow_other _ go b zeroO (fun e => hn (Or.inr (Or.inl e)))⟩
  have F := Lib.hid (show Frm w (((w.setCell ⟨ga, 0, none⟩ (.int .u64 0)).setRow go zeroO).setCell ⟨ge, 0, none⟩ (.int .i64 x)) (fun b => b = ga ∨ b = go ∨ b = ge) from
    Frm.set (Frm.trans f1 f2) (p := ⟨ge, 0, none⟩) (Or.inr (Or.inr (Or.inr rfl))) _)
  clear f1 f2
  have HS := Lib.hid hs
  simp at a0 e0
  clear ha ho he hs A1 E1 A2 O2 E2 n1 n2 n3
  have hta := fun w => run_assert_errno x 20 w
  refine callsD_of_wpS Tryd.func26 rfl fun c₀ cs hu => ?_
  apply wpS_seq
  apply wpS_region
  simp [wpOpsS, go_sem, recoverD, hu, Tryd.ntmps26, Exit.thenS]
  rw [show (#[Value.pointer (some { block := ga, off := 0 }), Value.pointer (some { block := go, off := 0 }), Value.pointer (some { block := ge, off := 0 })] ++ (Array.replicate 11 undef).setIfInBounds 3 (Value.iface 32 (Value.int IntKind.i64 x))) = #[Value.pointer (some { block := ga, off := 0 }), Value.pointer (some { block := go, off := 0 }), Value.pointer (some { block := ge, off := 0 }), undef, undef, undef, Value.iface 32 (Value.int IntKind.i64 x), undef, undef, undef, undef, undef, undef, undef] from rfl]
  refine wpS_of_wp ?_
  go_wp2_with (refine wpList_store_row rfl 27 (.tmp 1) (.tmp 12) rfl go zeroO rfl rfl 27 _ O1.out info_obj (by rw [HS.out]; rfl) zeroO_one ?_)
  exact ⟨rfl, _, rfl, .tuple #[], results_none (by rfl) _ _ _, rfl, rfl, ⟨by simpa using A3.out, O3.out, by simpa using E3.out, F.out⟩⟩
end Go.Proofs.YtpaglcojbcndoaaDoor
