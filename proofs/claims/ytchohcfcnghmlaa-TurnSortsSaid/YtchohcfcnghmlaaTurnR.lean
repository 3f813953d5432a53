/-
  turn: Sort.
-/
import Derived.Test.YtchohcfcnghmlaaTurnQ
import Derived.Lib.SmallJoins
namespace Go.Proofs.Ytchohcfcnghmlaa
open Go.RowKit
set_option linter.unusedVariables false
set_option linter.unusedSimpArgs false
theorem info_intR : (Try.prog.info? 3).map (fun i => (i.zero, i.size, i.bytes)) = some (some (.int .i64 0), 1, 8) := by kernel_rfl
theorem range_at {N x : Nat} (h : x < N) : (List.range N)[x]? = some x := by simp [h]
set_option maxHeartbeats 3200000 in
theorem Sort_any (A : Option Addr) (c : Nat) (l : List R3) (ok : R3 → Prop) (w : World) (hr : RdT 3 RkC ok w A l) (hl : l.length ≤ 1000) :
    Calls Try.prog 12 #[.slice A l.length c] w fun r w' => ∃ (A' : Option Addr) (c' : Nat) (D : List Nat), r = .returned (.slice A' l.length c') ∧ D.length = l.length ∧ D.Perm (List.range l.length) ∧ Bk l D 0 l.length ∧ RowN w' w.heap.size A' c' D ∧ Below w.heap.size w w' := by
  obtain ⟨W, hW⟩ : ∃ W, W = w.alloc (.cells #[.slice A l.length c] 29) := ⟨_, rfl⟩
  have bw : Below w.heap.size w W := by rw [hW]; exact (Below.refl _ _).alloc (Nat.le_refl _) _
  obtain ⟨Bl, hBl⟩ : ∃ g, g = w.heap.size := ⟨_, rfl⟩
  have KB := Lib.hid (show Blk W Bl 29 #[.slice A l.length c] by rw [hW, hBl]; exact Blk.new _ _ _)
  have CMP := Lib.hid (show Cmp l l.length W 19 #[.pointer (some ⟨Bl, 0, none⟩)] from ⟨fun args w => by kernel_rfl, fun W' i j hb hi hj => closure_any l Bl A c ok W' i j (KB.out.below hb KB.out.lt) ((hr.below bw).below hb) hl hi hj⟩)
  have HW := Lib.hid hW
  have HB := Lib.hid hBl
  have BW := Lib.hid bw
  have c0 := KB.out.cell 0
  simp only [List.getElem?_toArray, List.getElem?_cons_zero] at c0
  have zB := KB.out.lt
  clear hr hW hBl bw
  go_enter Try.func12, Try.ntmps12
  go_upto_region 1 with (fail)
  rw [← HW.out, ← HB.out]
  go_wp2_with fail
  obtain ⟨P1, hP1⟩ : ∃ P1 : Nat → Value → World → Prop, P1 = fun k v wr => k ≤ l.length ∧ ∃ (A' : Option Addr) (c' : Nat), v = .slice A' k c' ∧ RowN wr W.heap.size A' c' (List.range k) ∧ Below W.heap.size W wr := ⟨_, rfl⟩
  have E1 := Lib.hid hP1
  clear hP1
  go_loopw [7, 3, 4] (fun p v _ wr => Rk (fun k wr => P1 k v wr) p wr) (fun p _ _ _ => l.length - (intOf p).toNat)
  case atStart => exact Rk.mk 0 rfl (by show P1 _ _ _; rw [E1.out]; exact ⟨by omega, none, 0, rfl, OwnV.nil _ _ _ _, Below.refl _ _⟩)
  case round =>
    obtain ⟨k, rfl, hp⟩ := hrel
    replace hp : P1 k _ wr := hp
    rw [E1.out] at hp
    obtain ⟨hk, A', c', rfl, hrow, hb⟩ := hp
    have R1 := Lib.hid hrow
    have B1 := Lib.hid hb
    have z1 := hb.size
    clear hrow hb
    by_cases hlt : k < l.length
    · have hli : (k : Int) < l.length := by omega
      have b2 : Below wr.heap.size wr (wr.alloc (.cells #[.int .i64 (k : Int)] 3)) := (Below.refl _ _).alloc (Nat.le_refl _) _
      have O1 := Lib.hid (show OwnV (wr.alloc (.cells #[.int .i64 (k : Int)] 3)) W.heap.size 3 1 A' c' k (NV (List.range k)) by have := OwnV.below R1.out b2; rwa [List.length_range] at this)
      go_wp2_with (at_builtin; go_must (refine wpList_appV2 rfl (.tmp 10) (.tmp 12) 30 3 1 8 (.int .i64 0) rfl Try.underlying30 info_intR rfl (by omega) W.heap.size (n := k) (m := 1) (xs := NV (List.range k)) (news := [.int .i64 (k : Int)]) (d := 1) rfl rfl O1.out (reads_one _ 3 _ 0) (by simp [Value.oneCell']) (by unfold maxLen; omega) (by omega) (by simp; omega) ?_); intro A2 c2 w4 hown hg hbl hrow)
      have RN := Lib.hid (show RowN w4 W.heap.size A2 c2 (List.range (k + 1)) by
        unfold RowN
        rw [List.length_range, show NV (List.range (k + 1)) = NV (List.range k) ++ [.int .i64 (k : Int)] by simp [NV, List.range_succ]]
        exact hown)
      have BN := Lib.hid ((B1.out.alloc z1 _).trans hbl)
      clear hown hg hbl hrow
      go_roundw
      case rel => exact Rk.mk (k + 1) (by go_num) (by show P1 _ _ _; rw [E1.out]; exact ⟨by omega, A2, c2, rfl, RN.out, BN.out⟩)
      case measure => simp [intOf]; omega
    · have hd : decide ((k : Int) < l.length) = false := decide_eq_false (by omega)
      obtain rfl : k = l.length := by omega
      have ST := sortStable_any l 19 #[.pointer (some ⟨Bl, 0, none⟩)] W A' c' l.length (List.range l.length) wr CMP.out R1.out B1.out (by simp) hl (fun v hv => by simpa using hv) (fun x hx => range_at hx)
      have HS := Lib.hid ST
      clear ST
      go_wp2_with fail
      refine HS.out.mono ?_
      rintro _ w5 ⟨rfl, D', hl5, hp5, hb5, hr5, hw5⟩
      have Z := Lib.hid (show D'.length = l.length ∧ D'.Perm (List.range l.length) ∧ Bk l D' 0 l.length ∧ RowN w5 w.heap.size A' c' D' ∧ Below w.heap.size w w5 from ⟨hl5, hp5, hb5, Joins.ownsRow_le hr5 BW.out.size, BW.out.trans (hw5.mono BW.out.size)⟩)
      clear hl5 hp5 hb5 hr5 hw5 HS
      go_wp2_with fail
      go_ret
      exact ⟨A', c', D', rfl, Z.out⟩
end Go.Proofs.Ytchohcfcnghmlaa
