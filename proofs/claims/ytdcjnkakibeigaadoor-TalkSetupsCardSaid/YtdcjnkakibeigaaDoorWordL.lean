/-
  word.Bytes: number, place, list.
-/
import Derived.Test.YtdcjnkakibeigaaDoorWordG
import Derived.Deep.QuietTactic
import Derived.BigQuiet
import Derived.Deep.RegionWith
import Derived.Deep.RegionHeld3
import Derived.Deep.DeepCutAuto
import Derived.Deep.CutBlock
namespace Go.Proofs.YtdcjnkakibeigaaDoor
open Go.RowKit
set_option linter.unusedVariables false
set_option linter.unusedSimpArgs false
theorem wpList_appW {ops : Array Oper} {rest : List Oper} {o : Oper} {a : Act} {w : World} {Q : Exit → Act → World → Prop} (hgd : o.guard = none) (s x : Operand)
    (ho : o.op = .call { callee := .builtin .append, args := #[s, x], argTypes := #[23, 23] })
    (base : Nat) {c d : Nat} {A B : Option Addr} {l news : List Int} (X : List Int) (hX : X = l ++ news) (hs : a.eval s = .slice A l.length c) (hx : a.eval x = .slice B news.length d) (hown : Own w base A c l) (hr : Rd w B news)
    (hlen : l.length + news.length ≤ 70368744177664) (hbase : base ≤ w.heap.size)
    (h : ∀ A' c' w', Own w' base A' c' X → w.grownBy w' (Value.slice A l.length c).ownBlock → Below base w w' → wpList Tryd.prog ops Q rest (a.put o.dst (.slice A' X.length c')) w') : wpList Tryd.prog ops Q (o :: rest) a w := by
  subst hX
  refine wpList_app hgd s x ho base hs hx hown hr hlen hbase ?_
  intro A' c' w' h1 h2 h3
  have := h A' c' w' h1 h2 h3
  rwa [List.length_append] at this
/-- Blocks that hold no bytes stand. -/
def KeepW (w w' : World) : Prop := ∀ q t cs, t ≠ 5 → Blk w q t cs → Blk w' q t cs
theorem KeepW.trans {a b c : World} (h : KeepW a b) (k : KeepW b c) : KeepW a c := fun q t cs hn hb => k q t cs hn (h q t cs hn hb)
theorem KeepW.below {w w' : World} (h : Below w.heap.size w w') : KeepW w w' := fun q t cs _ k => k.below h k.lt
/-- What the encoder needs: the table, below base. -/
structure EW (base : Nat) (w : World) : Prop where
  tab : Tab w
  lt : 1 < base
  le : base ≤ w.heap.size
theorem EW.below {base : Nat} {w w' : World} (h : EW base w) (hb : Below base w w') : EW base w' := by
  obtain ⟨⟨h1, h2, h3, h4, h5⟩, hl, hle⟩ := h
  have e : ∀ o, w'.cell? ⟨1, o, none⟩ = w.cell? ⟨1, o, none⟩ := fun o => hb.cell (p := ⟨_, o, none⟩) hl
  exact ⟨⟨Nat.lt_of_lt_of_le h1 hb.size, by rw [e]; exact h2, by rw [e]; exact h3, by rw [e]; exact h4, by rw [e]; exact h5⟩, hl, Nat.le_trans hle hb.size⟩
/-- A step that grew the row of bytes. -/
structure Grew (base : Nat) (w w' : World) (A' : Option Addr) (c' : Nat) (X : List Int) : Prop where
  own : Own w' base A' c' X
  bel : Below base w w'
  kp : KeepW w w'
theorem numberW_any (A : Option Addr) (c : Nat) (P : List Int) (n : Int) (X : List Int) (base : Nat) (w : World) (ht : EW base w) (hown : Own w base A c P) (hP : P.length ≤ 100000) (h0 : 0 ≤ n) (hn : n < 4611686018427387904) (hX : X = P ++ venc n) :
    Calls Tryd.prog 70 #[.slice A P.length c, .int .u64 n] w fun r w' => ∃ A' c', r = .returned (.slice A' X.length c') ∧ Grew base w w' A' c' X := by
  have CN := Lib.hid (num_ok n w ht.tab h0 hn)
  have hb := ht.le
  have hv8 : (venc n).length ≤ 8 := (venc_le n h0 hn).2.1
  obtain ⟨v, hv⟩ : ∃ v, v = venc n := ⟨_, rfl⟩
  rw [← hv] at hX CN hv8
  have HX := Lib.hid hX
  have HO := Lib.hid hown
  clear hX hown hv ht hn
  go_enter Tryd.func70, Tryd.ntmps70
  go_wp2_with fail
  refine CN.out.mono ?_
  rintro r w1 ⟨A1, c1, rfl, o1, b1⟩
  have O1 := Lib.hid (HO.out.below b1)
  have R1 := Lib.hid (Rd.of_own o1)
  have B1 := Lib.hid (b1.mono hb)
  have KP := Lib.hid (KeepW.below b1)
  clear o1 b1 CN
  go_wp2_with (at_builtin
               go_must (refine wpList_appW rfl (.tmp 12) (.tmp 13) rfl base (l := P) (news := v) X HX.out rfl rfl O1.out R1.out (by omega) (Nat.le_trans hb B1.out.size) ?_)
               intro A3 c3 w3 o3 g3 b3
               have GG := Lib.hid (show Grew base w w3 A3 c3 X from ⟨o3, B1.out.trans b3, fun q t cs hne k => (KP.out q t cs hne k).grown g3 (fun e => OwnV.other (e := 5) O1.out (fun h => hne h.symm) _ _ (KP.out q t cs hne k) e.symm)⟩)
               clear o3 g3 b3)
  go_ret
  exact ⟨_, _, rfl, GG.out⟩
set_option maxHeartbeats 800000 in
theorem placeW_any (A : Option Addr) (c : Nat) (P : List Int) (a b : Int) (X : List Int) (base : Nat) (w : World) (ht : EW base w) (hown : Own w base A c P) (hP : P.length ≤ 90000) (ha : 0 ≤ a ∧ a < 4611686018427387904) (hb : 0 ≤ b ∧ b < 4611686018427387904) (hX : X = P ++ (venc a ++ venc b)) :
    Calls Tryd.prog 82 #[.slice A P.length c, .agg #[.int .u64 a, .int .u64 b]] w fun r w' => ∃ A' c', r = .returned (.slice A' X.length c') ∧ Grew base w w' A' c' X := by
  obtain ⟨W, hW⟩ : ∃ W, W = (w.alloc (.cells #[.int .u64 a, .int .u64 b] 25)).drew := ⟨_, rfl⟩
  have b0 : Below w.heap.size w W := by rw [hW]; exact ((Below.refl _ _).alloc (Nat.le_refl _) _).drew
  have k0 : Blk W w.heap.size 25 #[.int .u64 a, .int .u64 b] := by rw [hW]; exact (Blk.new _ _ _).drew
  have EW0 := ht.below (b0.mono ht.le)
  obtain ⟨Y, hY⟩ : ∃ Y, Y = P ++ venc a := ⟨_, rfl⟩
  have hYl : Y.length ≤ 100000 := by rw [hY, List.length_append]; have := (venc_le a ha.1 ha.2).2.1; omega
  have N1 := Lib.hid (numberW_any A c P a Y base W EW0 (OwnV.below hown b0) (by omega) ha.1 ha.2 hY)
  have KP0 := Lib.hid (KeepW.below b0)
  have B0 := Lib.hid (b0.mono ht.le)
  have N2 := Lib.hid (fun w1 A1 c1 (g : Grew base W w1 A1 c1 Y) => numberW_any A1 c1 Y b X base w1 (EW0.below g.bel) g.own hYl hb.1 hb.2 (by rw [hX, hY, List.append_assoc]))
  have X0 : W.cell? ⟨w.heap.size, 0, none⟩ = some (.int .u64 a) ∧ W.cell? ⟨w.heap.size, 1, none⟩ = some (.int .u64 b) := ⟨k0.cell 0, k0.cell 1⟩
  have K0 := Lib.hid k0
  have HW := Lib.hid hW
  clear hY hX hW k0 b0 ht hown EW0
  go_enter Tryd.func82, Tryd.ntmps82
  go_upto_region 1 with (fail)
  rw [HW.out] at N1 X0
  go_region_held3 (fun w' => w'.cell? ⟨w.heap.size, 0, none⟩ = some (.int .u64 a) ∧ w'.cell? ⟨w.heap.size, 1, none⟩ = some (.int .u64 b)) (first
    | exact X0
    | exact X1
    | exact X2
    | (go_keep; done)) (first
    | (go_at_call 70
       (with_reducible refine N1.out.mono ?_)
       rintro e w1 ⟨A1, c1, rfl, g1⟩
       rw [← HW.out] at g1
       have k1 := g1.kp _ _ _ (by decide) K0.out
       have X1 : w1.cell? ⟨w.heap.size, 0, none⟩ = some (.int .u64 a) ∧ w1.cell? ⟨w.heap.size, 1, none⟩ = some (.int .u64 b) := ⟨k1.cell 0, k1.cell 1⟩
       have K1 := Lib.hid k1
       have G1 := Lib.hid g1
       have N3 := Lib.hid (N2.out w1 A1 c1 g1)
       clear g1 k1)
    | (go_at_call 70
       (with_reducible refine N3.out.mono ?_)
       rintro e w2 ⟨A2, c2, rfl, g2⟩
       have k2 := g2.kp _ _ _ (by decide) K1.out
       have X2 : w2.cell? ⟨w.heap.size, 0, none⟩ = some (.int .u64 a) ∧ w2.cell? ⟨w.heap.size, 1, none⟩ = some (.int .u64 b) := ⟨k2.cell 0, k2.cell 1⟩
       have G2 := Lib.hid (show Grew base w w2 A2 c2 X from ⟨g2.own, (B0.out.trans G1.out.bel).trans g2.bel, (KP0.out.trans G1.out.kp).trans g2.kp⟩)
       clear g2 k2))
  all_goals (
    go_wp2_with fail
    go_ret
    exact ⟨_, _, rfl, G2.out⟩)
end Go.Proofs.YtdcjnkakibeigaaDoor
