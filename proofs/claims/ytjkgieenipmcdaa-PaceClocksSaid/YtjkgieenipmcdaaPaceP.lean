/-
  The reference's clock: Told.
-/
import Derived.Test.YtjkgieenipmcdaaPaceE
import Derived.Test.YtjkgieenipmcdaaOpenT
import Derived.Laws.Tables
import Derived.Laws.CopyOwn
import Derived.Test.YtjkgieenipmcdaaPaceB
namespace Go.Proofs.Ytjkgieenipmcdaa
open Go.RowKit
set_option linter.unusedVariables false

def ckRun (l : List (Int × Int)) : CK := l.foldl (fun c p => ckS c p.1 p.2) ck0
theorem ckRun_snoc (l : List (Int × Int)) (p : Int × Int) : ckRun (l ++ [p]) = ckS (ckRun l) p.1 p.2 := by simp [ckRun]
theorem ckRun_take {l : List (Int × Int)} {k : Nat} {p : Int × Int} (h : l[k]? = some p) : ckRun (l.take (k + 1)) = ckS (ckRun (l.take k)) p.1 p.2 := by
  rw [← ckRun_snoc, List.take_add_one, h]
  rfl
theorem ckFold_ok : ∀ (l : List (Int × Int)) (c : CK), CkOk c → (∀ p ∈ l, PairOk p) → CkOk (l.foldl (fun c p => ckS c p.1 p.2) c)
  | [], c, h, _ => h
  | p :: l, c, h, hp => by
    have h1 := hp p (by simp)
    exact ckFold_ok l _ (ckS_ok h h1.1.1 h1.2.1) (fun q hq => hp q (by simp [hq]))
theorem ckRun_ok (l : List (Int × Int)) (h : ∀ p ∈ l, PairOk p) : CkOk (ckRun l) := ckFold_ok l ck0 ck0_ok h
theorem ckRun_sp {l : List (Int × Int)} {k : Nat} (h0 : 0 < k) (h : k ≤ l.length) : (ckRun (l.take k)).sp = true := by
  obtain ⟨j, rfl⟩ : ∃ j, k = j + 1 := ⟨k - 1, by omega⟩
  rw [ckRun_take (List.getElem?_eq_getElem (show j < l.length by omega))]
  exact ckS_sp _ _ _
def AV4 (c : CK) : Array Value := #[.int .u64 c.la, .int .u64 c.le, .int .u64 c.sm, .int .u64 c.va]
section
variable {W : World} {g : Nat} {a b s v : Int}
theorem av_c (K : Blk W g 29 #[.int .u64 a, .int .u64 b, .int .u64 s, .int .u64 v]) {C : CK} (e : C = ⟨a, b, s, v, C.sp⟩) : Blk W g 29 (AV4 C) := by
  rw [e]
  exact K
theorem told_end1 (K0 : Blk W g 29 #[.int .u64 a, .int .u64 b, .int .u64 s, .int .u64 v]) {X L V S : Int} : Blk ((((W.setCell ⟨g, 0, none⟩ (.int .u64 X)).setCell ⟨g, 1, none⟩ (.int .u64 L)).setCell ⟨g, 3, none⟩ (.int .u64 V)).setCell ⟨g, 2, none⟩ (.int .u64 S)) g 29 #[.int .u64 X, .int .u64 L, .int .u64 S, .int .u64 V] := by
  have a1 : Blk _ g _ #[.int .u64 X, .int .u64 b, .int .u64 s, .int .u64 v] := Blk.set_ K0 0 (.int .u64 X)
  have a2 : Blk _ g _ #[.int .u64 X, .int .u64 L, .int .u64 s, .int .u64 v] := Blk.set_ a1 1 (.int .u64 L)
  have a3 : Blk _ g _ #[.int .u64 X, .int .u64 L, .int .u64 s, .int .u64 V] := Blk.set_ a2 3 (.int .u64 V)
  exact Blk.set_ a3 2 (.int .u64 S)
theorem told_end2 (K0 : Blk W g 29 #[.int .u64 a, .int .u64 b, .int .u64 s, .int .u64 v]) {X V S : Int} : Blk (((W.setCell ⟨g, 0, none⟩ (.int .u64 X)).setCell ⟨g, 3, none⟩ (.int .u64 V)).setCell ⟨g, 2, none⟩ (.int .u64 S)) g 29 #[.int .u64 X, .int .u64 b, .int .u64 S, .int .u64 V] := by
  have a1 : Blk _ g _ #[.int .u64 X, .int .u64 b, .int .u64 s, .int .u64 v] := Blk.set_ K0 0 (.int .u64 X)
  have a3 : Blk _ g _ #[.int .u64 X, .int .u64 b, .int .u64 s, .int .u64 V] := Blk.set_ a1 3 (.int .u64 V)
  exact Blk.set_ a3 2 (.int .u64 S)
end
theorem blk_second (w : World) (o : Obj) (t : TypeId) (cs : Array Value) : Blk ((w.alloc o).alloc (.cells cs t)) (w.heap.size + 1) t cs := by
  have := Blk.new (w.alloc o) t cs
  simpa using this
theorem bl_set {B : Nat} {a w : World} (h : Below B a w) {p : Addr} (hp : B ≤ p.block) (u : Value) : Below B a (w.setCell p u) := h.setCell hp u
theorem Blk.rowFar {w : World} {g h : Nat} {t : TypeId} {cs : Array Value} (x : Blk w g t cs) (hne : g ≠ h) (cs' : Array Value) : Blk (w.setRow h cs') g t cs := (setRow_other w h g cs' hne).trans x
theorem below_setRow' {B : Nat} {a w : World} {g : Nat} (h : Below B a w) (hg : B ≤ g) (cs : Array Value) : Below B a (w.setRow g cs) :=
  ⟨h.os, h.tape, h.output, by simpa using h.size, fun i hi => (setRow_other w g i cs (by omega)).trans (h.block i hi)⟩
theorem info_four : (Try.prog.info? 29).map (·.size) = some 4 := by kernel_rfl
theorem ckF_eq {x X V : Int} (hX : X = min x 1099511627776) (hV : V = X / 2) : ckF x = ⟨X, X, X, V, (ckF x).sp⟩ := by
  subst hX hV
  rfl
theorem ckN_eq {la le sm va x d X L D A V S : Int} (hX : X = min x 1099511627776) (hL : L = min le X) (hD : D = min d 1099511627776) (hA : A = if L + D ≤ X then X - D else X) (hV : V = (3 * va + (max sm A - min sm A)) / 4) (hS : S = (7 * sm + A) / 8) :
    ckS ⟨la, le, sm, va, true⟩ x d = ⟨X, L, S, V, (ckS ⟨la, le, sm, va, true⟩ x d).sp⟩ := by
  rw [ckS_sp]
  unfold ckS
  simp only [if_true]
  rw [ckN_of hX hL hD hA, hV, hS]
set_option maxRecDepth 100000 in
set_option maxHeartbeats 0 in
theorem rTold_any (A : Option Addr) (c : Nat) (l : List (Int × Int)) (w : World) (hr : RdT 2 PairC PairOk w A l) (hlc : l.length ≤ c) (hcm : c ≤ 9223372036854775807) :
    Calls Try.prog 11 #[.slice A l.length c] w fun r w' => r = .returned (.agg (AV4 (ckRun l))) ∧ Below w.heap.size w w' := by
  have HR := Lib.hid hr
  clear hr
  obtain ⟨CC, hCC⟩ : ∃ C, C = ckRun l := ⟨_, rfl⟩
  rw [← hCC]
  have HCC := Lib.hid hCC
  clear hCC
  go_enter Try.func11, Try.ntmps11
  go_wp2_with fail
  go_loopw [12] (fun i wr => ∃ (k : Nat), k ≤ l.length ∧ i = .int .i64 k ∧ Blk wr (w.heap.size + 1) 29 (AV4 (ckRun (l.take k))) ∧ Below w.heap.size w wr ∧ ∃ z0 z1 z2 z3, Blk wr w.heap.size 29 #[z0, z1, z2, z3]) (fun i _ => l.length - (intOf i).toNat)
  case atStart => exact ⟨0, by omega, rfl, blk_second _ _ _ _, ((Below.refl _ _).alloc (Nat.le_refl _) _).alloc (by simp) _, _, _, _, _, (Blk.new w _ _).alloc _⟩
  case round =>
    obtain ⟨k, hk, rfl, bk, b1, z0, z1, z2, z3, bz⟩ := hrel
    have hlt1 := bk.lt
    have okC : CkOk (ckRun (l.take k)) := ckRun_ok _ fun p hp => HR.out.each p (List.mem_of_mem_take hp)
    by_cases hlt : k < l.length
    · obtain ⟨b, off, y, rfl, hb, hy, hok, hc⟩ := (HR.out.below b1).at_ hlt
      have q0 := hc 0 (by omega)
      have q1 := hc 1 (by omega)
      have eN := ckRun_take hy
      obtain ⟨x, d⟩ := y
      obtain ⟨⟨x0, x1⟩, ⟨d0, d1⟩⟩ := hok
      simp [PairC] at q0 q1 x0 x1 d0 d1
      simp only at eN
      have EN := Lib.hid eN
      clear hc hy eN
      have bw : Below w.heap.size w (wr.alloc (.cells #[.int .u64 x, .int .u64 d] 27)) := b1.alloc b1.size _
      have KA : Blk (wr.alloc (.cells #[.int .u64 x, .int .u64 d] 27)) (w.heap.size + 1) 29 (AV4 (ckRun (l.take k))) := bk.alloc _
      have KZ : Blk (wr.alloc (.cells #[.int .u64 x, .int .u64 d] 27)) w.heap.size 29 #[z0, z1, z2, z3] := bz.alloc _
      have KP := Blk.new wr 27 #[.int .u64 x, .int .u64 d]
      have hsz : w.heap.size + 1 < wr.heap.size := hlt1
      have BW := Lib.hid bw
      have HKA := Lib.hid KA
      have HKZ := Lib.hid KZ
      clear b1 bk bz bw KZ
      rcases Nat.eq_zero_or_pos k with hk0 | hk0
      · have e1 : ckRun (l.take (k + 1)) = ckF x := by
          rw [EN.out, hk0]
          rfl
        have hb0 : ((k : Int) == 0) = true := by simp [hk0]
        have E1 := Lib.hid e1
        clear e1 hk0 EN
        rcases (show x ≤ 1099511627776 ∨ 1099511627776 < x by omega) with hx1 | hx1 <;> rcases (show d ≤ 1099511627776 ∨ 1099511627776 < d by omega) with hd1 | hd1
        all_goals (
          go_wp2_with fail
          go_region
          go_wp2_with (refine wpList_store_row rfl 29 (.tmp 3) (.tmp 32) rfl (w.heap.size + 1) _ rfl rfl 29 _ HKA.out info_four rfl (by simp [Value.oneCell']) ?_)
          go_roundw
          case rel =>
            refine ⟨k + 1, by omega, by go_num, ?_, ?_, z0, z1, z2, z3, ?_⟩
            · rw [E1.out]
              exact av_c (Blk.rowP (Blk.drew HKA.out) _) (ckF_eq (by omega) (by omega))
            · exact below_setRow' BW.out.drew (Nat.le_succ _) _
            · exact Blk.rowFar (Blk.drew HKZ.out) (by omega) _
          case measure => simp [intOf]; omega)
      · have hsp := ckRun_sp hk0 hk
        generalize hC : ckRun (l.take k) = C at *
        obtain ⟨la, le, sm, va, sp⟩ := C
        simp only at hsp
        subst hsp
        unfold CkOk at okC
        simp only at okC
        obtain ⟨⟨e0, e1⟩, ⟨e2, e3⟩, ⟨e4, e5⟩, ⟨e6, e7⟩⟩ := okC
        have hb0 : ((k : Int) == 0) = false := by simp; omega
        clear hk0 hC
        go_wp2_with fail
        have KPP := KP
        have BWW := BW.out
        have KAA := HKA.out
        have KZZ := HKZ.out
        clear KP BW HKA HKZ q0 q1
        generalize (wr.alloc (.cells #[.int .u64 x, .int .u64 d] 27)) = W1 at KPP BWW KAA KZZ ⊢
        have q0 := KPP.cell 0
        have q1 := KPP.cell 1
        have hlw := KAA.lt
        have hne : wr.heap.size ≠ w.heap.size + 1 := by omega
        have BW := Lib.hid BWW
        have HKA := Lib.hid KAA
        have HKZ := Lib.hid KZZ
        simp at q0 q1
        clear KPP BWW KAA KZZ
        unfold AV4 at HKA
        simp only at HKA
        have KA := HKA.out
        have c0 := KA.cell 0
        have c1 := KA.cell 1
        have c2 := KA.cell 2
        have c3 := KA.cell 3
        have g0 := KA.frozen 0
        have g1 := KA.frozen 1
        have g2 := KA.frozen 2
        have g3 := KA.frozen 3
        simp at c0 c1 c2 c3
        clear KA
        rcases (show x ≤ 1099511627776 ∨ 1099511627776 < x by omega) with hx1 | hx1
        · rcases (show d ≤ 1099511627776 ∨ 1099511627776 < d by omega) with hd1 | hd1
          · rcases (show x < le ∨ le ≤ x by omega) with h3 | h3
            · rcases (show x + d ≤ x ∨ x < x + d by omega) with h4 | h4
              · rcases (show x - d < sm ∨ sm ≤ x - d by omega) with h5 | h5
                all_goals first
                  | (exfalso; omega)
                  | (
                    go_region
                    go_wp2_with fail
                    go_roundw
                    case rel =>
                      refine ⟨k + 1, by omega, by go_num, ?_, ?_, z0, z1, z2, z3, ?_⟩
                      · repeat (with_reducible refine Blk.drew ?_)
                        rw [EN.out]
                        refine av_c (told_end1 HKA.out) ?_
                        exact ckN_eq (D := d) (A := x - d) (by omega) (by omega) (by omega) (by rw [if_pos (by omega)]) (by omega) (by omega)
                      · repeat (with_reducible refine Below.drew ?_)
                        repeat (with_reducible refine bl_set ?_ (Nat.le_succ _) _)
                        exact BW.out
                      · repeat (with_reducible refine Blk.drew ?_)
                        repeat (with_reducible refine Blk.far ?_ (by simp) _)
                        exact HKZ.out
                    case measure => simp [intOf]; omega)
              · rcases (show x < sm ∨ sm ≤ x by omega) with h5 | h5
                all_goals first
                  | (exfalso; omega)
                  | (
                    go_region
                    go_wp2_with fail
                    go_roundw
                    case rel =>
                      refine ⟨k + 1, by omega, by go_num, ?_, ?_, z0, z1, z2, z3, ?_⟩
                      · repeat (with_reducible refine Blk.drew ?_)
                        rw [EN.out]
                        refine av_c (told_end1 HKA.out) ?_
                        exact ckN_eq (D := d) (A := x) (by omega) (by omega) (by omega) (by rw [if_neg (by omega)]) (by omega) (by omega)
                      · repeat (with_reducible refine Below.drew ?_)
                        repeat (with_reducible refine bl_set ?_ (Nat.le_succ _) _)
                        exact BW.out
                      · repeat (with_reducible refine Blk.drew ?_)
                        repeat (with_reducible refine Blk.far ?_ (by simp) _)
                        exact HKZ.out
                    case measure => simp [intOf]; omega)
            · rcases (show le + d ≤ x ∨ x < le + d by omega) with h4 | h4
              · rcases (show x - d < sm ∨ sm ≤ x - d by omega) with h5 | h5
                all_goals first
                  | (exfalso; omega)
                  | (
                    go_region
                    go_wp2_with fail
                    go_roundw
                    case rel =>
                      refine ⟨k + 1, by omega, by go_num, ?_, ?_, z0, z1, z2, z3, ?_⟩
                      · repeat (with_reducible refine Blk.drew ?_)
                        rw [EN.out]
                        refine av_c (told_end2 HKA.out) ?_
                        exact ckN_eq (D := d) (A := x - d) (by omega) (by omega) (by omega) (by rw [if_pos (by omega)]) (by omega) (by omega)
                      · repeat (with_reducible refine Below.drew ?_)
                        repeat (with_reducible refine bl_set ?_ (Nat.le_succ _) _)
                        exact BW.out
                      · repeat (with_reducible refine Blk.drew ?_)
                        repeat (with_reducible refine Blk.far ?_ (by simp) _)
                        exact HKZ.out
                    case measure => simp [intOf]; omega)
              · rcases (show x < sm ∨ sm ≤ x by omega) with h5 | h5
                all_goals first
                  | (exfalso; omega)
                  | (
                    go_region
                    go_wp2_with fail
                    go_roundw
                    case rel =>
                      refine ⟨k + 1, by omega, by go_num, ?_, ?_, z0, z1, z2, z3, ?_⟩
                      · repeat (with_reducible refine Blk.drew ?_)
                        rw [EN.out]
                        refine av_c (told_end2 HKA.out) ?_
                        exact ckN_eq (D := d) (A := x) (by omega) (by omega) (by omega) (by rw [if_neg (by omega)]) (by omega) (by omega)
                      · repeat (with_reducible refine Below.drew ?_)
                        repeat (with_reducible refine bl_set ?_ (Nat.le_succ _) _)
                        exact BW.out
                      · repeat (with_reducible refine Blk.drew ?_)
                        repeat (with_reducible refine Blk.far ?_ (by simp) _)
                        exact HKZ.out
                    case measure => simp [intOf]; omega)
          · rcases (show x < le ∨ le ≤ x by omega) with h3 | h3
            · rcases (show x + 1099511627776 ≤ x ∨ x < x + 1099511627776 by omega) with h4 | h4
              · rcases (show x - 1099511627776 < sm ∨ sm ≤ x - 1099511627776 by omega) with h5 | h5
                all_goals first
                  | (exfalso; omega)
                  | (
                    go_region
                    go_wp2_with fail
                    go_roundw
                    case rel =>
                      refine ⟨k + 1, by omega, by go_num, ?_, ?_, z0, z1, z2, z3, ?_⟩
                      · repeat (with_reducible refine Blk.drew ?_)
                        rw [EN.out]
                        refine av_c (told_end1 HKA.out) ?_
                        exact ckN_eq (D := 1099511627776) (A := x - 1099511627776) (by omega) (by omega) (by omega) (by rw [if_pos (by omega)]) (by omega) (by omega)
                      · repeat (with_reducible refine Below.drew ?_)
                        repeat (with_reducible refine bl_set ?_ (Nat.le_succ _) _)
                        exact BW.out
                      · repeat (with_reducible refine Blk.drew ?_)
                        repeat (with_reducible refine Blk.far ?_ (by simp) _)
                        exact HKZ.out
                    case measure => simp [intOf]; omega)
              · rcases (show x < sm ∨ sm ≤ x by omega) with h5 | h5
                all_goals first
                  | (exfalso; omega)
                  | (
                    go_region
                    go_wp2_with fail
                    go_roundw
                    case rel =>
                      refine ⟨k + 1, by omega, by go_num, ?_, ?_, z0, z1, z2, z3, ?_⟩
                      · repeat (with_reducible refine Blk.drew ?_)
                        rw [EN.out]
                        refine av_c (told_end1 HKA.out) ?_
                        exact ckN_eq (D := 1099511627776) (A := x) (by omega) (by omega) (by omega) (by rw [if_neg (by omega)]) (by omega) (by omega)
                      · repeat (with_reducible refine Below.drew ?_)
                        repeat (with_reducible refine bl_set ?_ (Nat.le_succ _) _)
                        exact BW.out
                      · repeat (with_reducible refine Blk.drew ?_)
                        repeat (with_reducible refine Blk.far ?_ (by simp) _)
                        exact HKZ.out
                    case measure => simp [intOf]; omega)
            · rcases (show le + 1099511627776 ≤ x ∨ x < le + 1099511627776 by omega) with h4 | h4
              · rcases (show x - 1099511627776 < sm ∨ sm ≤ x - 1099511627776 by omega) with h5 | h5
                all_goals first
                  | (exfalso; omega)
                  | (
                    go_region
                    go_wp2_with fail
                    go_roundw
                    case rel =>
                      refine ⟨k + 1, by omega, by go_num, ?_, ?_, z0, z1, z2, z3, ?_⟩
                      · repeat (with_reducible refine Blk.drew ?_)
                        rw [EN.out]
                        refine av_c (told_end2 HKA.out) ?_
                        exact ckN_eq (D := 1099511627776) (A := x - 1099511627776) (by omega) (by omega) (by omega) (by rw [if_pos (by omega)]) (by omega) (by omega)
                      · repeat (with_reducible refine Below.drew ?_)
                        repeat (with_reducible refine bl_set ?_ (Nat.le_succ _) _)
                        exact BW.out
                      · repeat (with_reducible refine Blk.drew ?_)
                        repeat (with_reducible refine Blk.far ?_ (by simp) _)
                        exact HKZ.out
                    case measure => simp [intOf]; omega)
              · rcases (show x < sm ∨ sm ≤ x by omega) with h5 | h5
                all_goals first
                  | (exfalso; omega)
                  | (
                    go_region
                    go_wp2_with fail
                    go_roundw
                    case rel =>
                      refine ⟨k + 1, by omega, by go_num, ?_, ?_, z0, z1, z2, z3, ?_⟩
                      · repeat (with_reducible refine Blk.drew ?_)
                        rw [EN.out]
                        refine av_c (told_end2 HKA.out) ?_
                        exact ckN_eq (D := 1099511627776) (A := x) (by omega) (by omega) (by omega) (by rw [if_neg (by omega)]) (by omega) (by omega)
                      · repeat (with_reducible refine Below.drew ?_)
                        repeat (with_reducible refine bl_set ?_ (Nat.le_succ _) _)
                        exact BW.out
                      · repeat (with_reducible refine Blk.drew ?_)
                        repeat (with_reducible refine Blk.far ?_ (by simp) _)
                        exact HKZ.out
                    case measure => simp [intOf]; omega)
        · rcases (show d ≤ 1099511627776 ∨ 1099511627776 < d by omega) with hd1 | hd1
          · rcases (show le + d ≤ 1099511627776 ∨ 1099511627776 < le + d by omega) with h4 | h4
            · rcases (show 1099511627776 - d < sm ∨ sm ≤ 1099511627776 - d by omega) with h5 | h5
              all_goals first
                | (exfalso; omega)
                | (
                  go_region
                  go_wp2_with fail
                  go_roundw
                  case rel =>
                    refine ⟨k + 1, by omega, by go_num, ?_, ?_, z0, z1, z2, z3, ?_⟩
                    · repeat (with_reducible refine Blk.drew ?_)
                      rw [EN.out]
                      refine av_c (told_end2 HKA.out) ?_
                      exact ckN_eq (D := d) (A := 1099511627776 - d) (by omega) (by omega) (by omega) (by rw [if_pos (by omega)]) (by omega) (by omega)
                    · repeat (with_reducible refine Below.drew ?_)
                      repeat (with_reducible refine bl_set ?_ (Nat.le_succ _) _)
                      exact BW.out
                    · repeat (with_reducible refine Blk.drew ?_)
                      repeat (with_reducible refine Blk.far ?_ (by simp) _)
                      exact HKZ.out
                  case measure => simp [intOf]; omega)
            · rcases (show 1099511627776 < sm ∨ sm ≤ 1099511627776 by omega) with h5 | h5
              all_goals first
                | (exfalso; omega)
                | (
                  go_region
                  go_wp2_with fail
                  go_roundw
                  case rel =>
                    refine ⟨k + 1, by omega, by go_num, ?_, ?_, z0, z1, z2, z3, ?_⟩
                    · repeat (with_reducible refine Blk.drew ?_)
                      rw [EN.out]
                      refine av_c (told_end2 HKA.out) ?_
                      exact ckN_eq (D := d) (A := 1099511627776) (by omega) (by omega) (by omega) (by rw [if_neg (by omega)]) (by omega) (by omega)
                    · repeat (with_reducible refine Below.drew ?_)
                      repeat (with_reducible refine bl_set ?_ (Nat.le_succ _) _)
                      exact BW.out
                    · repeat (with_reducible refine Blk.drew ?_)
                      repeat (with_reducible refine Blk.far ?_ (by simp) _)
                      exact HKZ.out
                  case measure => simp [intOf]; omega)
          · rcases (show le + 1099511627776 ≤ 1099511627776 ∨ 1099511627776 < le + 1099511627776 by omega) with h4 | h4
            · rcases (show 1099511627776 - 1099511627776 < sm ∨ sm ≤ 1099511627776 - 1099511627776 by omega) with h5 | h5
              all_goals first
                | (exfalso; omega)
                | (
                  go_region
                  go_wp2_with fail
                  go_roundw
                  case rel =>
                    refine ⟨k + 1, by omega, by go_num, ?_, ?_, z0, z1, z2, z3, ?_⟩
                    · repeat (with_reducible refine Blk.drew ?_)
                      rw [EN.out]
                      refine av_c (told_end2 HKA.out) ?_
                      exact ckN_eq (D := 1099511627776) (A := 1099511627776 - 1099511627776) (by omega) (by omega) (by omega) (by rw [if_pos (by omega)]) (by omega) (by omega)
                    · repeat (with_reducible refine Below.drew ?_)
                      repeat (with_reducible refine bl_set ?_ (Nat.le_succ _) _)
                      exact BW.out
                    · repeat (with_reducible refine Blk.drew ?_)
                      repeat (with_reducible refine Blk.far ?_ (by simp) _)
                      exact HKZ.out
                  case measure => simp [intOf]; omega)
            · rcases (show 1099511627776 < sm ∨ sm ≤ 1099511627776 by omega) with h5 | h5
              all_goals first
                | (exfalso; omega)
                | (
                  go_region
                  go_wp2_with fail
                  go_roundw
                  case rel =>
                    refine ⟨k + 1, by omega, by go_num, ?_, ?_, z0, z1, z2, z3, ?_⟩
                    · repeat (with_reducible refine Blk.drew ?_)
                      rw [EN.out]
                      refine av_c (told_end2 HKA.out) ?_
                      exact ckN_eq (D := 1099511627776) (A := 1099511627776) (by omega) (by omega) (by omega) (by rw [if_neg (by omega)]) (by omega) (by omega)
                    · repeat (with_reducible refine Below.drew ?_)
                      repeat (with_reducible refine bl_set ?_ (Nat.le_succ _) _)
                      exact BW.out
                    · repeat (with_reducible refine Blk.drew ?_)
                      repeat (with_reducible refine Blk.far ?_ (by simp) _)
                      exact HKZ.out
                  case measure => simp [intOf]; omega)
    · have hd : decide (k < l.length) = false := by simpa using hlt
      have hkl : k = l.length := by omega
      have eC : ckRun (l.take k) = CC := by rw [hkl, List.take_length, HCC.out]
      rw [eC] at bk
      clear hkl eC okC HCC
      have c0 := bk.cell 0
      have c1 := bk.cell 1
      have c2 := bk.cell 2
      have c3 := bk.cell 3
      have BK := Lib.hid bk
      have BZ := Lib.hid bz
      clear bk bz
      simp [AV4] at c0 c1 c2 c3
      unfold AV4
      go_wp2_with (refine wpList_store_row rfl 29 (.tmp 2) (.tmp 77) rfl w.heap.size _ rfl rfl 29 _ BZ.out info_four rfl (by simp [Value.oneCell']) ?_)
      refine bodyPost_ret (v := .agg #[.int .u64 CC.la, .int .u64 CC.le, .int .u64 CC.sm, .int .u64 CC.va]) (results_cell_row rfl _ _ w.heap.size 29 _ (0, 0) _ rfl (Blk.rowP BZ.out _) Try.underlying29 rfl (by kernel_rfl)) rfl ⟨rfl, ?_⟩
      exact below_setRow' b1 (Nat.le_refl _) _
end Go.Proofs.Ytjkgieenipmcdaa
