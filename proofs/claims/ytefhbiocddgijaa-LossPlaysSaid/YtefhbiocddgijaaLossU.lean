/-
  The ledger: First.
-/
import Derived.Test.YtefhbiocddgijaaLossO
import Derived.Laws.ResultCell
import Derived.Laws.Rows
import Derived.Laws.Tables
import Derived.Laws.CopyOwn
namespace Go.Proofs.Ytefhbiocddgijaa
open Go.RowKit
set_option linter.unusedVariables false
set_option linter.unusedSimpArgs false
def firstA (l : List PK) : Option PK := l.find? (·.aq)
def pkCs : Option PK → Array Value
  | some p => #[.int .u64 p.nu, .int .u64 p.se, .int .i64 p.si, .bool p.aq]
  | none => #[.int .u64 0, .int .u64 0, .int .i64 0, .bool false]
theorem info_pks : (Try.prog.info? 49).map (·.size) = some 4 := by kernel_rfl
theorem results_rowU {P : Program} {fn : Func} {p u : Tmp} {ty : TypeId} (h : fn.results = #[.cell p ty, .tmp u]) (tmps : Array Value) (w : World) (g : Nat) (t : TypeId) (cs : Array Value) (fr : Nat × Nat) (d : TypeDesc)
    (hp : tmps.getD p undef = .pointer (some ⟨g, 0, none⟩)) (hg : w.heap[g]? = some (.cells cs t fr))
    (hu : P.underlying ty = some d) (hd : (match d with | .struct _ | .array _ _ => true | _ => false) = true) (hi : (P.info? ty).map (·.size) = some cs.size) :
    (results fn tmps).run P w = .ok (.tuple #[.agg cs, tmps.getD u undef]) w := by
  rw [results_cell_tmp h, hp]
  simp only [asAddr, Sem.run_pure, Result.andThen_ok, run_loadVar_row w g t ty cs fr d hg hu hd hi]
theorem rowU {w : World} {g : Nat} {t : TypeId} {cs : Array Value} (h : Blk w g t cs) (cs' : Array Value) : Blk (w.setRow g cs') g t cs' := by
  unfold Blk at h ⊢
  simp [World.setRow, Array.getElem?_modify, h]
theorem below_rowU {B : Nat} {a w : World} {g : Nat} (h : Below B a w) (hg : B ≤ g) (cs : Array Value) : Below B a (w.setRow g cs) :=
  ⟨h.os, h.tape, h.output, by simpa using h.size, fun i hi => (setRow_other w g i cs (by omega)).trans (h.block i hi)⟩
theorem find_none_snoc {l : List PK} {k : Nat} {p : PK} (h : (l.take k).find? (·.aq) = none) (hx : l[k]? = some p) (ha : p.aq = false) : (l.take (k + 1)).find? (·.aq) = none := by
  rw [take_snoc hx, List.find?_append, h]
  simp [ha]
theorem find_some_snoc {l : List PK} {k : Nat} {p : PK} (h : (l.take k).find? (·.aq) = none) (hx : l[k]? = some p) (ha : p.aq = true) : l.find? (·.aq) = some p := by
  rw [← List.take_append_drop (k + 1) l, take_snoc hx, List.append_assoc, List.find?_append, h]
  simp [ha]
theorem LFirst_nil (w : World) : Calls Try.prog 19 #[.pointer none] w fun r w' => r = .returned (.tuple #[.agg (pkCs none), .bool false]) ∧ Below w.heap.size w w' := by
  go_enter Try.func19, Try.ntmps19
  go_wp2_with fail
  exact bodyPost_ret (results_rowU rfl _ _ w.heap.size 49 (pkCs none) (0, 0) _ rfl (Blk.new w _ _) Try.underlying49 rfl info_pks) rfl ⟨rfl, (Below.refl _ _).alloc (Nat.le_refl _) _⟩
set_option maxRecDepth 100000 in
theorem LFirst_any (base g : Nat) (A : Option Addr) (c : Nat) (l : LG) (w : World) (h : Led w base g A c l) (hl : l.op.length ≤ 1000000) :
    Calls Try.prog 19 #[.pointer (some ⟨g, 0, none⟩)] w fun r w' => r = .returned (.tuple #[.agg (pkCs (firstA l.op)), .bool (firstA l.op).isSome]) ∧ Below w.heap.size w w' := by
  have HL := Lib.hid h
  have c0 := h.blk.cell 0
  simp at c0
  have hgz := h.lt
  clear h
  obtain ⟨W, hW⟩ : ∃ W, W = w.alloc (.cells (pkCs none) 49) := ⟨_, rfl⟩
  have HK := Lib.hid (show Blk W w.heap.size 49 (pkCs none) by rw [hW]; exact Blk.new w _ _)
  have HBW := Lib.hid (show Below w.heap.size w W by rw [hW]; exact (Below.refl _ _).alloc (Nat.le_refl _) _)
  have HW := Lib.hid hW
  clear hW
  go_enter Try.func19, Try.ntmps19
  go_wp2_with fail
  go_loopw [14] (fun i wr => ∃ k : Nat, k ≤ l.op.length ∧ i = .int .i64 k ∧ Hid ((l.op.take k).find? (·.aq) = none ∧ Below W.heap.size W wr)) (fun i _ => l.op.length - (intOf i).toNat)
  case atStart => exact ⟨0, by omega, rfl, Lib.hid ⟨rfl, by rw [HW.out]; exact Below.refl _ _⟩⟩
  case round =>
    obtain ⟨k, hk, rfl, HI⟩ := hrel
    have hzw := HBW.out.size
    have hzk := HK.out.lt
    have K1 := HK.out.below HI.out.2 hzk
    have HB1 := Lib.hid (HBW.out.trans (HI.out.2.mono hzw))
    have hz1 := HI.out.2.size
    by_cases hlt : k < l.op.length
    · obtain ⟨p, hx⟩ : ∃ p, l.op[k]? = some p := ⟨_, List.getElem?_eq_getElem hlt⟩
      obtain ⟨b, off, rfl, zb, hcell⟩ := OwnP.at0 (OwnV.below HL.out.own HB1.out) hx
      have x0 := hcell 0 (by omega)
      have x1 := hcell 1 (by omega)
      have x2 := hcell 2 (by omega)
      have x3 := hcell 3 (by omega)
      clear hcell
      have HX := Lib.hid hx
      obtain ⟨nu, se, si, aq⟩ := p
      simp [PkC] at x0 x1 x2 x3
      rw [← Nat.add_assoc] at x1 x2 x3
      have HKA := Lib.hid (K1.alloc (.cells #[.int .u64 nu, .int .u64 se, .int .i64 si, .bool aq] 49))
      have HBA := Lib.hid (HI.out.2.alloc hz1 (.cells #[.int .u64 nu, .int .u64 se, .int .i64 si, .bool aq] 49))
      clear hx K1
      cases aq with
      | true =>
        have HF := Lib.hid (find_some_snoc HI.out.1 HX.out rfl)
        have HRW := Lib.hid (rowU HKA.out (pkCs (some ⟨nu, se, si, true⟩)))
        go_wp2_with (refine wpList_store_row rfl 49 (.tmp 2) (.tmp 20) rfl w.heap.size (pkCs (some ⟨nu, se, si, true⟩)) rfl rfl 49 _ HKA.out info_pks rfl (by simp [pkCs, Value.oneCell']) ?_)
        refine bodyPost_ret (results_rowU rfl _ _ w.heap.size 49 (pkCs (some ⟨nu, se, si, true⟩)) (0, 0) _ rfl HRW.out Try.underlying49 rfl info_pks) rfl ⟨?_, ?_⟩
        · unfold firstA; rw [HF.out]; rfl
        · have h1 := (HB1.out.alloc HB1.out.size (.cells #[.int .u64 nu, .int .u64 se, .int .i64 si, .bool true] 49))
          exact below_rowU h1 (Nat.le_refl _) _
      | false =>
        have HN := Lib.hid (find_none_snoc HI.out.1 HX.out rfl)
        go_wp2_with fail
        go_roundw
        case rel => exact ⟨k + 1, by omega, by go_num, Lib.hid ⟨HN.out, HBA.out⟩⟩
        case measure => simp [intOf]; omega
    · have hd : decide (k < l.op.length) = false := by simpa using hlt
      have hi := HI.out.1
      rw [List.take_of_length_le (by omega)] at hi
      have HN := Lib.hid hi
      have HKK := Lib.hid K1
      clear hi K1
      go_wp2_with (refine wpList_store_row rfl 49 (.tmp 2) (.tmp 22) rfl w.heap.size (pkCs none) rfl rfl 49 _ HKK.out info_pks rfl (by simp [pkCs, Value.oneCell']) ?_)
      refine bodyPost_ret (results_rowU rfl _ _ w.heap.size 49 (pkCs none) (0, 0) _ rfl (rowU HKK.out (pkCs none)) Try.underlying49 rfl info_pks) rfl ⟨?_, ?_⟩
      · unfold firstA; rw [HN.out]; rfl
      · exact below_rowU HB1.out (Nat.le_refl _) _
end Go.Proofs.Ytefhbiocddgijaa
