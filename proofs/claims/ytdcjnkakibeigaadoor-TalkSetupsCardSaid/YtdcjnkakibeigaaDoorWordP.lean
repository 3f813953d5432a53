/-
  word.encode.
-/
import Derived.Test.YtdcjnkakibeigaaDoorWordO
namespace Go.Proofs.YtdcjnkakibeigaaDoor
open Go.RowKit
set_option linter.unusedVariables false
set_option linter.unusedSimpArgs false
/-- A message's bytes. -/
def encM (m : MV) : List Int :=
  venc m.kind ++ ([((encR (foW m.kind) m 13).length : Int) / 256, ((encR (foW m.kind) m 13).length : Int) % 256] ++ encR (foW m.kind) m 13)
theorem own_lit2W (w : World) (x y : Int) {base : Nat} (hb : base ≤ w.heap.size) : Own (w.alloc (.cells #[.int .u8 x, .int .u8 y] 5)) base (some ⟨w.heap.size, 0, none⟩) 2 [x, y] :=
  Own.new (l := [x, y]) (Blk.new w _ _) hb (by simp [maxLen])
theorem EW.now {base : Nat} {w : World} (h : EW base w) : EW w.heap.size w := ⟨h.tab, Nat.lt_of_lt_of_le h.lt h.le, Nat.le_refl _⟩
set_option maxHeartbeats 1600000 in
theorem encode_any (m : MV) (nA : Option Addr) (nc : Nat) (rA : Option Addr) (rc : Nat) (vA : Option Addr) (vc : Nat) (base : Nat) (w : World) (ht : EW base w) (hg : GoodV m) (hk : InR m.kind) (hr : GM base w nA rA vA m) :
    Calls Tryd.prog 59 #[.agg (mvC m nA nc rA rc vA vc)] w fun r w' => ∃ A' c', r = .returned (.slice A' (encM m).length c') ∧ Grew base w w' A' c' (encM m) := by
  obtain ⟨W, hW⟩ : ∃ W, W = w.alloc (.cells (mvC m nA nc rA rc vA vc) 31) := ⟨_, rfl⟩
  have b0 : Below w.heap.size w W := by rw [hW]; exact (Below.refl _ _).alloc (Nat.le_refl _) _
  have KB0 := Lib.hid (show Blk W w.heap.size 31 (mvC m nA nc rA rc vA vc) by rw [hW]; exact Blk.new _ _ _)
  have E0 := ht.below (b0.mono ht.le)
  have CF := Lib.hid (encodeFields_any m nA nc rA rc vA vc base W E0 hg (hr.below (b0.mono ht.le)))
  have hb0 := encR_len (foW m.kind) hg 13 (Nat.le_refl _)
  have hv8 := venc8 hk
  obtain ⟨X, hX⟩ : ∃ X, X = encM m := ⟨_, rfl⟩
  rw [← hX]
  unfold encM at hX
  obtain ⟨b, hb⟩ : ∃ b, b = encR (foW m.kind) m 13 := ⟨_, rfl⟩
  rw [← hb] at CF hb0 hX
  obtain ⟨V, hV⟩ : ∃ V, V = venc m.kind := ⟨_, rfl⟩
  have CN := Lib.hid (fun w1 (e1 : EW base w1) => numberW_any none 0 [] m.kind V w1.heap.size w1 e1.now (OwnV.nil _ _ _ _) (Nat.zero_le _) hk.1 hk.2 (by rw [hV, List.nil_append]))
  rw [← hV] at hX hv8
  have HX := Lib.hid hX
  have HE := Lib.hid E0
  have B0 := Lib.hid (b0.mono ht.le)
  have KP0 := Lib.hid (KeepW.below b0)
  clear hX hb hV ht hg hk hr b0 E0
  obtain ⟨kind, id, alias_, name, prio, ord, sg, so, eg, eo, some_, code, reason, n, ver, vers⟩ := m
  unfold mvC at hW KB0 CF ⊢
  simp only at hW KB0 CF CN ⊢
  have HW := Lib.hid hW
  clear hW
  go_enter Tryd.func59, Tryd.ntmps59
  go_wp2_with fail
  rw [← HW.out]
  refine CF.out.mono ?_
  rintro e w1 ⟨A1, c1, rfl, g1⟩
  have G1 := Lib.hid g1
  have kb := g1.kp _ _ _ (by decide) KB0.out
  have zz := kb.lt
  have k0 := kb.cell 0
  simp only [List.getElem?_toArray, List.getElem?_cons_zero] at k0
  have C2 := Lib.hid (CN.out w1 (HE.out.below g1.bel))
  clear g1 kb CF CN
  go_wp2_with fail
  refine C2.out.mono ?_
  rintro e w2 ⟨A2, c2, rfl, g2⟩
  have G2 := Lib.hid g2
  clear g2 C2
  have OO := Lib.hid (OwnV.below G2.out.own (show Below w2.heap.size w2 (w2.alloc (.cells #[.int .u8 ((b.length : Int) / 256), .int .u8 ((b.length : Int) % 256)] 5)) from (Below.refl _ _).alloc (Nat.le_refl _) _))
  have RR := Lib.hid (Rd.of_own (own_lit2W w2 ((b.length : Int) / 256) ((b.length : Int) % 256) (Nat.le_refl _)))
  have LE := Lib.hid (Nat.le_trans G2.out.bel.size (show w2.heap.size ≤ (w2.alloc (.cells #[.int .u8 ((b.length : Int) / 256), .int .u8 ((b.length : Int) % 256)] 5)).heap.size by simp))
  have BB := Lib.hid (G2.out.bel.trans (show Below w1.heap.size w2 (w2.alloc (.cells #[.int .u8 ((b.length : Int) / 256), .int .u8 ((b.length : Int) % 256)] 5)) from (Below.refl _ _).alloc G2.out.bel.size _))
  have KK := Lib.hid (G2.out.kp.trans (KeepW.below (show Below w2.heap.size w2 (w2.alloc (.cells #[.int .u8 ((b.length : Int) / 256), .int .u8 ((b.length : Int) % 256)] 5)) from (Below.refl _ _).alloc (Nat.le_refl _) _)))
  obtain ⟨Y, hY⟩ : ∃ Y, Y = V ++ [(b.length : Int) / 256, (b.length : Int) % 256] := ⟨_, rfl⟩
  have hYl : Y.length ≤ 10 := by rw [hY, List.length_append]; simp; omega
  have HY := Lib.hid hY
  have HXY := Lib.hid (show X = Y ++ b by rw [HX.out, hY, List.append_assoc])
  clear hY
  go_wp2_with (at_builtin
               go_must (first
                 | (refine wpList_appW rfl (.tmp 10) (.tmp 18) rfl w1.heap.size (l := V) (news := [(b.length : Int) / 256, (b.length : Int) % 256]) Y HY.out rfl rfl OO.out RR.out (by simp; omega) LE.out ?_
                    intro A3 c3 w3 o3 g3 b3
                    have G3 := Lib.hid (Grew.of BB.out KK.out OO.out o3 g3 b3)
                    have RB := Lib.hid (Rd.below (Rd.of_own G1.out.own) G3.out.bel)
                    have LE3 := Lib.hid G3.out.bel.size
                    clear o3 g3 b3)
                 | (refine wpList_appW rfl (.tmp 20) (.tmp 21) rfl w1.heap.size (l := Y) (news := b) X HXY.out rfl rfl G3.out.own RB.out (by omega) LE3.out ?_
                    intro A4 c4 w4 o4 g4 b4
                    have G4 := Lib.hid (Grew.of G3.out.bel G3.out.kp G3.out.own o4 g4 b4)
                    clear o4 g4 b4)))
  go_ret
  have hle : base ≤ w1.heap.size := Nat.le_trans HE.out.le G1.out.bel.size
  exact ⟨_, _, rfl, OwnV.lower G4.out.own hle, B0.out.trans (G1.out.bel.trans (G4.out.bel.mono hle)), KP0.out.trans (G1.out.kp.trans G4.out.kp)⟩
end Go.Proofs.YtdcjnkakibeigaaDoor
