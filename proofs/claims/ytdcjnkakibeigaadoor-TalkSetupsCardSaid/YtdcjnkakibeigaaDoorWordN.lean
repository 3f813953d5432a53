/-
  word.appendField, a theorem a field (written by wip/tools/mkWordN.py).
-/
import Derived.Test.YtdcjnkakibeigaaDoorWordM
namespace Go.Proofs.YtdcjnkakibeigaaDoor
open Go.RowKit
set_option linter.unusedVariables false
set_option linter.unusedSimpArgs false
section
theorem own_litW (w : World) (x : Int) {base : Nat} (hb : base ≤ w.heap.size) : Own (w.alloc (.cells #[.int .u8 x] 5)) base (some ⟨w.heap.size, 0, none⟩) 1 [x] :=
  Own.new (l := [x]) (Blk.new w _ _) hb (by simp [maxLen])
theorem rd_litW (W : World) (n : Nat) (hz : W.heap.size = n) (x : Int) : Rd (W.alloc (.cells #[.int .u8 x] 5)) (some ⟨n, 0, none⟩) [x] := by
  subst hz
  exact Rd.of_own (own_litW W x (Nat.le_refl _))
theorem Grew.of {base c c3 : Nat} {w W w3 : World} {A A3 : Option Addr} {P X : List Int} (hB : Below base w W) (hk : KeepW w W) (O1 : Own W base A c P) (o3 : Own w3 base A3 c3 X) (g3 : W.grownBy w3 (Value.slice A P.length c).ownBlock) (b3 : Below base W w3) : Grew base w w3 A3 c3 X :=
  ⟨o3, hB.trans b3, fun q t cs hne k => (hk q t cs hne k).grown g3 (fun e => OwnV.other (e := 5) O1 (fun h => hne h.symm) _ _ (hk q t cs hne k) e.symm)⟩
variable {base : Nat} {A nA rA vA : Option Addr} {c nc rc vc : Nat} {P X : List Int} {m : MV} {w : World}
theorem appF0 (ht : EW base w) (hown : Own w base A c P) (hP : P.length ≤ 80000) (h0 : 0 ≤ m.id ∧ m.id < 4611686018427387904) (hX : X = P ++ venc m.id) :
    Calls Tryd.prog 78 #[.slice A P.length c, .agg (mvC m nA nc rA rc vA vc), .int .u16 1] w fun r w' => ∃ A' c', r = .returned (.slice A' X.length c') ∧ Grew base w w' A' c' X := by
  obtain ⟨kind, id, alias_, name, prio, ord, sg, so, eg, eo, some_, code, reason, n, ver, vers⟩ := m
  simp only at hX h0
  obtain ⟨W, hW⟩ : ∃ W, W = w.alloc (.cells (mvC ⟨kind, id, alias_, name, prio, ord, sg, so, eg, eo, some_, code, reason, n, ver, vers⟩ nA nc rA rc vA vc) 31) := ⟨_, rfl⟩
  have b0 : Below w.heap.size w W := by rw [hW]; exact (Below.refl _ _).alloc (Nat.le_refl _) _
  have EW0 := ht.below (b0.mono ht.le)
  have O0 := OwnV.below hown b0
  have B0 := Lib.hid (b0.mono ht.le)
  have KP0 := Lib.hid (KeepW.below b0)
  have N1 := Lib.hid (numberW_any A c P id X base W EW0 O0 (by omega) h0.1 h0.2 hX)
  unfold mvC at hW
  simp only at hW
  have HW := Lib.hid hW
  clear hX hW b0 ht hown EW0 O0
  unfold mvC
  simp only
  go_enter Tryd.func78, Tryd.ntmps78
  go_wp2_with fail
  rw [← HW.out]
  refine N1.out.mono ?_
  rintro e w1 ⟨A1, c1, rfl, g1⟩
  have G1 := Lib.hid (show Grew base w w1 A1 c1 X from ⟨g1.own, B0.out.trans g1.bel, KP0.out.trans g1.kp⟩)
  clear g1
  go_wp2_with fail
  go_ret
  exact ⟨_, _, rfl, G1.out⟩

theorem appF1 (ht : EW base w) (hown : Own w base A c P) (hP : P.length ≤ 80000) (h0 : 0 ≤ m.alias_ ∧ m.alias_ < 4611686018427387904) (hX : X = P ++ venc m.alias_) :
    Calls Tryd.prog 78 #[.slice A P.length c, .agg (mvC m nA nc rA rc vA vc), .int .u16 2] w fun r w' => ∃ A' c', r = .returned (.slice A' X.length c') ∧ Grew base w w' A' c' X := by
  obtain ⟨kind, id, alias_, name, prio, ord, sg, so, eg, eo, some_, code, reason, n, ver, vers⟩ := m
  simp only at hX h0
  obtain ⟨W, hW⟩ : ∃ W, W = w.alloc (.cells (mvC ⟨kind, id, alias_, name, prio, ord, sg, so, eg, eo, some_, code, reason, n, ver, vers⟩ nA nc rA rc vA vc) 31) := ⟨_, rfl⟩
  have b0 : Below w.heap.size w W := by rw [hW]; exact (Below.refl _ _).alloc (Nat.le_refl _) _
  have EW0 := ht.below (b0.mono ht.le)
  have O0 := OwnV.below hown b0
  have B0 := Lib.hid (b0.mono ht.le)
  have KP0 := Lib.hid (KeepW.below b0)
  have N1 := Lib.hid (numberW_any A c P alias_ X base W EW0 O0 (by omega) h0.1 h0.2 hX)
  unfold mvC at hW
  simp only at hW
  have HW := Lib.hid hW
  clear hX hW b0 ht hown EW0 O0
  unfold mvC
  simp only
  go_enter Tryd.func78, Tryd.ntmps78
  go_wp2_with fail
  rw [← HW.out]
  refine N1.out.mono ?_
  rintro e w1 ⟨A1, c1, rfl, g1⟩
  have G1 := Lib.hid (show Grew base w w1 A1 c1 X from ⟨g1.own, B0.out.trans g1.bel, KP0.out.trans g1.kp⟩)
  clear g1
  go_wp2_with fail
  go_ret
  exact ⟨_, _, rfl, G1.out⟩

theorem appF8 (ht : EW base w) (hown : Own w base A c P) (hP : P.length ≤ 80000) (h0 : 0 ≤ m.code ∧ m.code < 4611686018427387904) (hX : X = P ++ venc m.code) :
    Calls Tryd.prog 78 #[.slice A P.length c, .agg (mvC m nA nc rA rc vA vc), .int .u16 256] w fun r w' => ∃ A' c', r = .returned (.slice A' X.length c') ∧ Grew base w w' A' c' X := by
  obtain ⟨kind, id, alias_, name, prio, ord, sg, so, eg, eo, some_, code, reason, n, ver, vers⟩ := m
  simp only at hX h0
  obtain ⟨W, hW⟩ : ∃ W, W = w.alloc (.cells (mvC ⟨kind, id, alias_, name, prio, ord, sg, so, eg, eo, some_, code, reason, n, ver, vers⟩ nA nc rA rc vA vc) 31) := ⟨_, rfl⟩
  have b0 : Below w.heap.size w W := by rw [hW]; exact (Below.refl _ _).alloc (Nat.le_refl _) _
  have EW0 := ht.below (b0.mono ht.le)
  have O0 := OwnV.below hown b0
  have B0 := Lib.hid (b0.mono ht.le)
  have KP0 := Lib.hid (KeepW.below b0)
  have N1 := Lib.hid (numberW_any A c P code X base W EW0 O0 (by omega) h0.1 h0.2 hX)
  unfold mvC at hW
  simp only at hW
  have HW := Lib.hid hW
  clear hX hW b0 ht hown EW0 O0
  unfold mvC
  simp only
  go_enter Tryd.func78, Tryd.ntmps78
  go_wp2_with fail
  rw [← HW.out]
  refine N1.out.mono ?_
  rintro e w1 ⟨A1, c1, rfl, g1⟩
  have G1 := Lib.hid (show Grew base w w1 A1 c1 X from ⟨g1.own, B0.out.trans g1.bel, KP0.out.trans g1.kp⟩)
  clear g1
  go_wp2_with fail
  go_ret
  exact ⟨_, _, rfl, G1.out⟩

theorem appF11 (ht : EW base w) (hown : Own w base A c P) (hP : P.length ≤ 80000) (h0 : 0 ≤ m.ver ∧ m.ver < 4611686018427387904) (hX : X = P ++ venc m.ver) :
    Calls Tryd.prog 78 #[.slice A P.length c, .agg (mvC m nA nc rA rc vA vc), .int .u16 2048] w fun r w' => ∃ A' c', r = .returned (.slice A' X.length c') ∧ Grew base w w' A' c' X := by
  obtain ⟨kind, id, alias_, name, prio, ord, sg, so, eg, eo, some_, code, reason, n, ver, vers⟩ := m
  simp only at hX h0
  obtain ⟨W, hW⟩ : ∃ W, W = w.alloc (.cells (mvC ⟨kind, id, alias_, name, prio, ord, sg, so, eg, eo, some_, code, reason, n, ver, vers⟩ nA nc rA rc vA vc) 31) := ⟨_, rfl⟩
  have b0 : Below w.heap.size w W := by rw [hW]; exact (Below.refl _ _).alloc (Nat.le_refl _) _
  have EW0 := ht.below (b0.mono ht.le)
  have O0 := OwnV.below hown b0
  have B0 := Lib.hid (b0.mono ht.le)
  have KP0 := Lib.hid (KeepW.below b0)
  have N1 := Lib.hid (numberW_any A c P ver X base W EW0 O0 (by omega) h0.1 h0.2 hX)
  unfold mvC at hW
  simp only at hW
  have HW := Lib.hid hW
  clear hX hW b0 ht hown EW0 O0
  unfold mvC
  simp only
  go_enter Tryd.func78, Tryd.ntmps78
  go_wp2_with fail
  rw [← HW.out]
  refine N1.out.mono ?_
  rintro e w1 ⟨A1, c1, rfl, g1⟩
  have G1 := Lib.hid (show Grew base w w1 A1 c1 X from ⟨g1.own, B0.out.trans g1.bel, KP0.out.trans g1.kp⟩)
  clear g1
  go_wp2_with fail
  go_ret
  exact ⟨_, _, rfl, G1.out⟩

theorem appF12 (ht : EW base w) (hown : Own w base A c P) (hP : P.length ≤ 80000) (h0 : 0 ≤ m.n ∧ m.n < 4611686018427387904) (hX : X = P ++ venc m.n) :
    Calls Tryd.prog 78 #[.slice A P.length c, .agg (mvC m nA nc rA rc vA vc), .int .u16 4096] w fun r w' => ∃ A' c', r = .returned (.slice A' X.length c') ∧ Grew base w w' A' c' X := by
  obtain ⟨kind, id, alias_, name, prio, ord, sg, so, eg, eo, some_, code, reason, n, ver, vers⟩ := m
  simp only at hX h0
  obtain ⟨W, hW⟩ : ∃ W, W = w.alloc (.cells (mvC ⟨kind, id, alias_, name, prio, ord, sg, so, eg, eo, some_, code, reason, n, ver, vers⟩ nA nc rA rc vA vc) 31) := ⟨_, rfl⟩
  have b0 : Below w.heap.size w W := by rw [hW]; exact (Below.refl _ _).alloc (Nat.le_refl _) _
  have EW0 := ht.below (b0.mono ht.le)
  have O0 := OwnV.below hown b0
  have B0 := Lib.hid (b0.mono ht.le)
  have KP0 := Lib.hid (KeepW.below b0)
  have N1 := Lib.hid (numberW_any A c P n X base W EW0 O0 (by omega) h0.1 h0.2 hX)
  unfold mvC at hW
  simp only at hW
  have HW := Lib.hid hW
  clear hX hW b0 ht hown EW0 O0
  unfold mvC
  simp only
  go_enter Tryd.func78, Tryd.ntmps78
  go_wp2_with fail
  rw [← HW.out]
  refine N1.out.mono ?_
  rintro e w1 ⟨A1, c1, rfl, g1⟩
  have G1 := Lib.hid (show Grew base w w1 A1 c1 X from ⟨g1.own, B0.out.trans g1.bel, KP0.out.trans g1.kp⟩)
  clear g1
  go_wp2_with fail
  go_ret
  exact ⟨_, _, rfl, G1.out⟩

theorem appF3 (ht : EW base w) (hown : Own w base A c P) (hP : P.length ≤ 80000)  (hX : X = P ++ [m.prio]) :
    Calls Tryd.prog 78 #[.slice A P.length c, .agg (mvC m nA nc rA rc vA vc), .int .u16 8] w fun r w' => ∃ A' c', r = .returned (.slice A' X.length c') ∧ Grew base w w' A' c' X := by
  obtain ⟨kind, id, alias_, name, prio, ord, sg, so, eg, eo, some_, code, reason, n, ver, vers⟩ := m
  simp only at hX 
  obtain ⟨W, hW⟩ : ∃ W, W = w.alloc (.cells (mvC ⟨kind, id, alias_, name, prio, ord, sg, so, eg, eo, some_, code, reason, n, ver, vers⟩ nA nc rA rc vA vc) 31) := ⟨_, rfl⟩
  have b0 : Below w.heap.size w W := by rw [hW]; exact (Below.refl _ _).alloc (Nat.le_refl _) _
  have EW0 := ht.below (b0.mono ht.le)
  have O0 := OwnV.below hown b0
  have B0 := Lib.hid (b0.mono ht.le)
  have KP0 := Lib.hid (KeepW.below b0)
  obtain ⟨V, hV⟩ : ∃ V, V = prio := ⟨_, rfl⟩
  rw [← hV] at hX
  have b1 : Below base W (W.alloc (.cells #[.int .u8 V] 5)) := (Below.refl _ _).alloc EW0.le _
  have BB := Lib.hid (B0.out.trans b1)
  have KK := Lib.hid (KP0.out.trans (KeepW.below (show Below W.heap.size W (W.alloc (.cells #[.int .u8 V] 5)) from (Below.refl _ _).alloc (Nat.le_refl _) _)))
  have OO := Lib.hid (OwnV.below O0 (show Below W.heap.size W (W.alloc (.cells #[.int .u8 V] 5)) from (Below.refl _ _).alloc (Nat.le_refl _) _))
  have RR := Lib.hid (rd_litW W (w.heap.size + 1) (by rw [hW]; simp) V)
  have HX := Lib.hid hX
  have LE := Lib.hid (show base ≤ (W.alloc (.cells #[.int .u8 V] 5)).heap.size from Nat.le_trans EW0.le (by simp))
  clear b1
  subst hV
  unfold mvC at hW
  simp only at hW
  have HW := Lib.hid hW
  clear hX hW b0 ht hown EW0 O0
  unfold mvC
  simp only
  go_enter Tryd.func78, Tryd.ntmps78
  go_wp2_with (at_builtin
               try rw [← HW.out]
               go_must (refine wpList_appW rfl (.tmp 29) (.tmp 32) rfl base (l := P) (news := [V]) X HX.out rfl rfl OO.out RR.out (by simp; omega) LE.out ?_)
               intro A3 c3 w3 o3 g3 b3
               have GG := Lib.hid (Grew.of BB.out KK.out OO.out o3 g3 b3)
               clear o3 g3 b3)
  go_ret
  exact ⟨_, _, rfl, GG.out⟩

theorem appF4 (ht : EW base w) (hown : Own w base A c P) (hP : P.length ≤ 80000)  (hX : X = P ++ [m.ord]) :
    Calls Tryd.prog 78 #[.slice A P.length c, .agg (mvC m nA nc rA rc vA vc), .int .u16 16] w fun r w' => ∃ A' c', r = .returned (.slice A' X.length c') ∧ Grew base w w' A' c' X := by
  obtain ⟨kind, id, alias_, name, prio, ord, sg, so, eg, eo, some_, code, reason, n, ver, vers⟩ := m
  simp only at hX 
  obtain ⟨W, hW⟩ : ∃ W, W = w.alloc (.cells (mvC ⟨kind, id, alias_, name, prio, ord, sg, so, eg, eo, some_, code, reason, n, ver, vers⟩ nA nc rA rc vA vc) 31) := ⟨_, rfl⟩
  have b0 : Below w.heap.size w W := by rw [hW]; exact (Below.refl _ _).alloc (Nat.le_refl _) _
  have EW0 := ht.below (b0.mono ht.le)
  have O0 := OwnV.below hown b0
  have B0 := Lib.hid (b0.mono ht.le)
  have KP0 := Lib.hid (KeepW.below b0)
  obtain ⟨V, hV⟩ : ∃ V, V = ord := ⟨_, rfl⟩
  rw [← hV] at hX
  have b1 : Below base W (W.alloc (.cells #[.int .u8 V] 5)) := (Below.refl _ _).alloc EW0.le _
  have BB := Lib.hid (B0.out.trans b1)
  have KK := Lib.hid (KP0.out.trans (KeepW.below (show Below W.heap.size W (W.alloc (.cells #[.int .u8 V] 5)) from (Below.refl _ _).alloc (Nat.le_refl _) _)))
  have OO := Lib.hid (OwnV.below O0 (show Below W.heap.size W (W.alloc (.cells #[.int .u8 V] 5)) from (Below.refl _ _).alloc (Nat.le_refl _) _))
  have RR := Lib.hid (rd_litW W (w.heap.size + 1) (by rw [hW]; simp) V)
  have HX := Lib.hid hX
  have LE := Lib.hid (show base ≤ (W.alloc (.cells #[.int .u8 V] 5)).heap.size from Nat.le_trans EW0.le (by simp))
  clear b1
  subst hV
  unfold mvC at hW
  simp only at hW
  have HW := Lib.hid hW
  clear hX hW b0 ht hown EW0 O0
  unfold mvC
  simp only
  go_enter Tryd.func78, Tryd.ntmps78
  go_wp2_with (at_builtin
               try rw [← HW.out]
               go_must (refine wpList_appW rfl (.tmp 36) (.tmp 39) rfl base (l := P) (news := [V]) X HX.out rfl rfl OO.out RR.out (by simp; omega) LE.out ?_)
               intro A3 c3 w3 o3 g3 b3
               have GG := Lib.hid (Grew.of BB.out KK.out OO.out o3 g3 b3)
               clear o3 g3 b3)
  go_ret
  exact ⟨_, _, rfl, GG.out⟩

theorem appF5 (ht : EW base w) (hown : Own w base A c P) (hP : P.length ≤ 80000)  (hX : X = P ++ [bitI m.some_]) :
    Calls Tryd.prog 78 #[.slice A P.length c, .agg (mvC m nA nc rA rc vA vc), .int .u16 32] w fun r w' => ∃ A' c', r = .returned (.slice A' X.length c') ∧ Grew base w w' A' c' X := by
  obtain ⟨kind, id, alias_, name, prio, ord, sg, so, eg, eo, some_, code, reason, n, ver, vers⟩ := m
  simp only at hX 
  obtain ⟨W, hW⟩ : ∃ W, W = w.alloc (.cells (mvC ⟨kind, id, alias_, name, prio, ord, sg, so, eg, eo, some_, code, reason, n, ver, vers⟩ nA nc rA rc vA vc) 31) := ⟨_, rfl⟩
  have b0 : Below w.heap.size w W := by rw [hW]; exact (Below.refl _ _).alloc (Nat.le_refl _) _
  have EW0 := ht.below (b0.mono ht.le)
  have O0 := OwnV.below hown b0
  have B0 := Lib.hid (b0.mono ht.le)
  have KP0 := Lib.hid (KeepW.below b0)
  obtain ⟨V, hV⟩ : ∃ V, V = bitI some_ := ⟨_, rfl⟩
  rw [← hV] at hX
  have b1 : Below base W (W.alloc (.cells #[.int .u8 V] 5)) := (Below.refl _ _).alloc EW0.le _
  have BB := Lib.hid (B0.out.trans b1)
  have KK := Lib.hid (KP0.out.trans (KeepW.below (show Below W.heap.size W (W.alloc (.cells #[.int .u8 V] 5)) from (Below.refl _ _).alloc (Nat.le_refl _) _)))
  have OO := Lib.hid (OwnV.below O0 (show Below W.heap.size W (W.alloc (.cells #[.int .u8 V] 5)) from (Below.refl _ _).alloc (Nat.le_refl _) _))
  have RR := Lib.hid (rd_litW W _ rfl V)
  have HX := Lib.hid hX
  have LE := Lib.hid (show base ≤ (W.alloc (.cells #[.int .u8 V] 5)).heap.size from Nat.le_trans EW0.le (by simp))
  have NB := Lib.hid (bitW_any some_ W)
  have HV := Lib.hid hV
  clear b1
  clear hV
  unfold mvC at hW
  simp only at hW
  have HW := Lib.hid hW
  clear hX hW b0 ht hown EW0 O0
  unfold mvC
  simp only
  go_enter Tryd.func78, Tryd.ntmps78
  go_wp2_with fail
  rw [← HW.out]
  refine NB.out.mono ?_
  rintro e w1 ⟨rfl, rfl⟩
  rw [← HV.out]
  go_wp2_with (at_builtin
               try rw [← HW.out]
               go_must (refine wpList_appW rfl (.tmp 43) (.tmp 47) rfl base (l := P) (news := [V]) X HX.out rfl rfl OO.out RR.out (by simp; omega) LE.out ?_)
               intro A3 c3 w3 o3 g3 b3
               have GG := Lib.hid (Grew.of BB.out KK.out OO.out o3 g3 b3)
               clear o3 g3 b3)
  go_ret
  exact ⟨_, _, rfl, GG.out⟩

theorem appF2 (ht : EW base w) (hown : Own w base A c P) (hP : P.length ≤ 80000) (h0 : Rd w nA m.name) (h1 : m.name.length ≤ 900) (hX : X = P ++ vtext m.name) :
    Calls Tryd.prog 78 #[.slice A P.length c, .agg (mvC m nA nc rA rc vA vc), .int .u16 4] w fun r w' => ∃ A' c', r = .returned (.slice A' X.length c') ∧ Grew base w w' A' c' X := by
  obtain ⟨kind, id, alias_, name, prio, ord, sg, so, eg, eo, some_, code, reason, n, ver, vers⟩ := m
  simp only at hX h0 h1
  obtain ⟨W, hW⟩ : ∃ W, W = w.alloc (.cells (mvC ⟨kind, id, alias_, name, prio, ord, sg, so, eg, eo, some_, code, reason, n, ver, vers⟩ nA nc rA rc vA vc) 31) := ⟨_, rfl⟩
  have b0 : Below w.heap.size w W := by rw [hW]; exact (Below.refl _ _).alloc (Nat.le_refl _) _
  have EW0 := ht.below (b0.mono ht.le)
  have O0 := OwnV.below hown b0
  have B0 := Lib.hid (b0.mono ht.le)
  have KP0 := Lib.hid (KeepW.below b0)
  have N1 := Lib.hid (text_any nA nc name W EW0.tab (Rd.below h0 b0) (by omega))
  obtain ⟨V, hV⟩ : ∃ V, V = vtext name := ⟨_, rfl⟩
  have hVl : V.length ≤ 1000 := by rw [hV]; have := (venc_le (name.length : Int) (by omega) (by omega)).2.1; unfold vtext; rw [List.length_append]; omega
  rw [← hV] at hX N1
  have HX := Lib.hid hX
  have HO := Lib.hid O0
  have HL := Lib.hid EW0.le
  clear hV h0
  unfold mvC at hW
  simp only at hW
  have HW := Lib.hid hW
  clear hX hW b0 ht hown EW0 O0
  unfold mvC
  simp only
  go_enter Tryd.func78, Tryd.ntmps78
  go_wp2_with fail
  rw [← HW.out]
  refine N1.out.mono ?_
  rintro e w1 ⟨A1, c1, rfl, o1, b1⟩
  have BB := Lib.hid (B0.out.trans (b1.mono HL.out))
  have KK := Lib.hid (KP0.out.trans (KeepW.below b1))
  have OO := Lib.hid (OwnV.below HO.out b1)
  have RR := Lib.hid (Rd.of_own o1)
  have LE := Lib.hid (Nat.le_trans HL.out b1.size)
  clear o1 b1
  go_wp2_with (at_builtin
               go_must (refine wpList_appW rfl (.tmp 22) (.tmp 25) rfl base (l := P) (news := V) X HX.out rfl rfl OO.out RR.out (by omega) LE.out ?_)
               intro A3 c3 w3 o3 g3 b3
               have GG := Lib.hid (Grew.of BB.out KK.out OO.out o3 g3 b3)
               clear o3 g3 b3)
  go_ret
  exact ⟨_, _, rfl, GG.out⟩

theorem appF9 (ht : EW base w) (hown : Own w base A c P) (hP : P.length ≤ 80000) (h0 : Rd w rA m.reason) (h1 : m.reason.length ≤ 900) (hX : X = P ++ vtext m.reason) :
    Calls Tryd.prog 78 #[.slice A P.length c, .agg (mvC m nA nc rA rc vA vc), .int .u16 512] w fun r w' => ∃ A' c', r = .returned (.slice A' X.length c') ∧ Grew base w w' A' c' X := by
  obtain ⟨kind, id, alias_, name, prio, ord, sg, so, eg, eo, some_, code, reason, n, ver, vers⟩ := m
  simp only at hX h0 h1
  obtain ⟨W, hW⟩ : ∃ W, W = w.alloc (.cells (mvC ⟨kind, id, alias_, name, prio, ord, sg, so, eg, eo, some_, code, reason, n, ver, vers⟩ nA nc rA rc vA vc) 31) := ⟨_, rfl⟩
  have b0 : Below w.heap.size w W := by rw [hW]; exact (Below.refl _ _).alloc (Nat.le_refl _) _
  have EW0 := ht.below (b0.mono ht.le)
  have O0 := OwnV.below hown b0
  have B0 := Lib.hid (b0.mono ht.le)
  have KP0 := Lib.hid (KeepW.below b0)
  have N1 := Lib.hid (text_any rA rc reason W EW0.tab (Rd.below h0 b0) (by omega))
  obtain ⟨V, hV⟩ : ∃ V, V = vtext reason := ⟨_, rfl⟩
  have hVl : V.length ≤ 1000 := by rw [hV]; have := (venc_le (reason.length : Int) (by omega) (by omega)).2.1; unfold vtext; rw [List.length_append]; omega
  rw [← hV] at hX N1
  have HX := Lib.hid hX
  have HO := Lib.hid O0
  have HL := Lib.hid EW0.le
  clear hV h0
  unfold mvC at hW
  simp only at hW
  have HW := Lib.hid hW
  clear hX hW b0 ht hown EW0 O0
  unfold mvC
  simp only
  go_enter Tryd.func78, Tryd.ntmps78
  go_wp2_with fail
  rw [← HW.out]
  refine N1.out.mono ?_
  rintro e w1 ⟨A1, c1, rfl, o1, b1⟩
  have BB := Lib.hid (B0.out.trans (b1.mono HL.out))
  have KK := Lib.hid (KP0.out.trans (KeepW.below b1))
  have OO := Lib.hid (OwnV.below HO.out b1)
  have RR := Lib.hid (Rd.of_own o1)
  have LE := Lib.hid (Nat.le_trans HL.out b1.size)
  clear o1 b1
  go_wp2_with (at_builtin
               go_must (refine wpList_appW rfl (.tmp 77) (.tmp 80) rfl base (l := P) (news := V) X HX.out rfl rfl OO.out RR.out (by omega) LE.out ?_)
               intro A3 c3 w3 o3 g3 b3
               have GG := Lib.hid (Grew.of BB.out KK.out OO.out o3 g3 b3)
               clear o3 g3 b3)
  go_ret
  exact ⟨_, _, rfl, GG.out⟩

theorem appF6 (ht : EW base w) (hown : Own w base A c P) (hP : P.length ≤ 80000) (h0 : 0 ≤ m.sg ∧ m.sg < 4611686018427387904) (h1 : 0 ≤ m.so ∧ m.so < 4611686018427387904) (hX : X = P ++ (venc m.sg ++ venc m.so)) :
    Calls Tryd.prog 78 #[.slice A P.length c, .agg (mvC m nA nc rA rc vA vc), .int .u16 64] w fun r w' => ∃ A' c', r = .returned (.slice A' X.length c') ∧ Grew base w w' A' c' X := by
  obtain ⟨kind, id, alias_, name, prio, ord, sg, so, eg, eo, some_, code, reason, n, ver, vers⟩ := m
  simp only at hX h0 h1
  obtain ⟨W, hW⟩ : ∃ W, W = w.alloc (.cells (mvC ⟨kind, id, alias_, name, prio, ord, sg, so, eg, eo, some_, code, reason, n, ver, vers⟩ nA nc rA rc vA vc) 31) := ⟨_, rfl⟩
  have b0 : Below w.heap.size w W := by rw [hW]; exact (Below.refl _ _).alloc (Nat.le_refl _) _
  have EW0 := ht.below (b0.mono ht.le)
  have O0 := OwnV.below hown b0
  have B0 := Lib.hid (b0.mono ht.le)
  have KP0 := Lib.hid (KeepW.below b0)
  have N1 := Lib.hid (placeW_any A c P sg so X base W EW0 O0 (by omega) h0 h1 hX)
  unfold mvC at hW
  simp only at hW
  have HW := Lib.hid hW
  clear hX hW b0 ht hown EW0 O0
  unfold mvC
  simp only
  go_enter Tryd.func78, Tryd.ntmps78
  go_wp2_with fail
  rw [← HW.out]
  refine N1.out.mono ?_
  rintro e w1 ⟨A1, c1, rfl, g1⟩
  have G1 := Lib.hid (show Grew base w w1 A1 c1 X from ⟨g1.own, B0.out.trans g1.bel, KP0.out.trans g1.kp⟩)
  clear g1
  go_wp2_with fail
  go_ret
  exact ⟨_, _, rfl, G1.out⟩

theorem appF7 (ht : EW base w) (hown : Own w base A c P) (hP : P.length ≤ 80000) (h0 : 0 ≤ m.eg ∧ m.eg < 4611686018427387904) (h1 : 0 ≤ m.eo ∧ m.eo < 4611686018427387904) (h2 : (m.kind == 3) = false) (hX : X = P ++ (venc m.eg ++ venc m.eo)) :
    Calls Tryd.prog 78 #[.slice A P.length c, .agg (mvC m nA nc rA rc vA vc), .int .u16 128] w fun r w' => ∃ A' c', r = .returned (.slice A' X.length c') ∧ Grew base w w' A' c' X := by
  obtain ⟨kind, id, alias_, name, prio, ord, sg, so, eg, eo, some_, code, reason, n, ver, vers⟩ := m
  simp only at hX h0 h1 h2
  obtain ⟨W, hW⟩ : ∃ W, W = w.alloc (.cells (mvC ⟨kind, id, alias_, name, prio, ord, sg, so, eg, eo, some_, code, reason, n, ver, vers⟩ nA nc rA rc vA vc) 31) := ⟨_, rfl⟩
  have b0 : Below w.heap.size w W := by rw [hW]; exact (Below.refl _ _).alloc (Nat.le_refl _) _
  have EW0 := ht.below (b0.mono ht.le)
  have O0 := OwnV.below hown b0
  have B0 := Lib.hid (b0.mono ht.le)
  have KP0 := Lib.hid (KeepW.below b0)
  have N1 := Lib.hid (placeW_any A c P eg eo X base W EW0 O0 (by omega) h0 h1 hX)
  unfold mvC at hW
  simp only at hW
  have HW := Lib.hid hW
  clear hX hW b0 ht hown EW0 O0
  unfold mvC
  simp only
  go_enter Tryd.func78, Tryd.ntmps78
  go_wp2_with fail
  rw [← HW.out]
  refine N1.out.mono ?_
  rintro e w1 ⟨A1, c1, rfl, g1⟩
  have G1 := Lib.hid (show Grew base w w1 A1 c1 X from ⟨g1.own, B0.out.trans g1.bel, KP0.out.trans g1.kp⟩)
  clear g1
  go_wp2_with fail
  go_ret
  exact ⟨_, _, rfl, G1.out⟩

theorem appF7s (ht : EW base w) (hown : Own w base A c P) (hP : P.length ≤ 80000) (h0 : 0 ≤ m.eg ∧ m.eg < 4611686018427387904) (h2 : m.kind = 3) (hX : X = P ++ venc m.eg) :
    Calls Tryd.prog 78 #[.slice A P.length c, .agg (mvC m nA nc rA rc vA vc), .int .u16 128] w fun r w' => ∃ A' c', r = .returned (.slice A' X.length c') ∧ Grew base w w' A' c' X := by
  obtain ⟨kind, id, alias_, name, prio, ord, sg, so, eg, eo, some_, code, reason, n, ver, vers⟩ := m
  simp only at hX h0 h2
  obtain ⟨W, hW⟩ : ∃ W, W = w.alloc (.cells (mvC ⟨kind, id, alias_, name, prio, ord, sg, so, eg, eo, some_, code, reason, n, ver, vers⟩ nA nc rA rc vA vc) 31) := ⟨_, rfl⟩
  have b0 : Below w.heap.size w W := by rw [hW]; exact (Below.refl _ _).alloc (Nat.le_refl _) _
  have EW0 := ht.below (b0.mono ht.le)
  have O0 := OwnV.below hown b0
  have B0 := Lib.hid (b0.mono ht.le)
  have KP0 := Lib.hid (KeepW.below b0)
  subst h2
  have N1 := Lib.hid (numberW_any A c P eg X base W EW0 O0 (by omega) h0.1 h0.2 hX)
  unfold mvC at hW
  simp only at hW
  have HW := Lib.hid hW
  clear hX hW b0 ht hown EW0 O0
  unfold mvC
  simp only
  go_enter Tryd.func78, Tryd.ntmps78
  go_wp2_with fail
  rw [← HW.out]
  refine N1.out.mono ?_
  rintro e w1 ⟨A1, c1, rfl, g1⟩
  have G1 := Lib.hid (show Grew base w w1 A1 c1 X from ⟨g1.own, B0.out.trans g1.bel, KP0.out.trans g1.kp⟩)
  clear g1
  go_wp2_with fail
  go_ret
  exact ⟨_, _, rfl, G1.out⟩

theorem appF10 (ht : EW base w) (hown : Own w base A c P) (hP : P.length ≤ 80000) (h0 : RdU w base vA m.vers) (h1 : m.vers.length ≤ 8) (h2 : ∀ x ∈ m.vers, 0 ≤ x ∧ x < 4611686018427387904) (hX : X = P ++ (venc m.vers.length ++ vencs m.vers)) :
    Calls Tryd.prog 78 #[.slice A P.length c, .agg (mvC m nA nc rA rc vA vc), .int .u16 1024] w fun r w' => ∃ A' c', r = .returned (.slice A' X.length c') ∧ Grew base w w' A' c' X := by
  obtain ⟨kind, id, alias_, name, prio, ord, sg, so, eg, eo, some_, code, reason, n, ver, vers⟩ := m
  simp only at hX h0 h1 h2
  obtain ⟨W, hW⟩ : ∃ W, W = w.alloc (.cells (mvC ⟨kind, id, alias_, name, prio, ord, sg, so, eg, eo, some_, code, reason, n, ver, vers⟩ nA nc rA rc vA vc) 31) := ⟨_, rfl⟩
  have b0 : Below w.heap.size w W := by rw [hW]; exact (Below.refl _ _).alloc (Nat.le_refl _) _
  have EW0 := ht.below (b0.mono ht.le)
  have O0 := OwnV.below hown b0
  have B0 := Lib.hid (b0.mono ht.le)
  have KP0 := Lib.hid (KeepW.below b0)
  have N1 := Lib.hid (listW_any A c P vA vc vers X base W EW0 O0 (by omega) (Reads.below h0 (b0.mono ht.le)) h1 h2 hX)
  clear h0 h2
  unfold mvC at hW
  simp only at hW
  have HW := Lib.hid hW
  clear hX hW b0 ht hown EW0 O0
  unfold mvC
  simp only
  go_enter Tryd.func78, Tryd.ntmps78
  go_wp2_with fail
  rw [← HW.out]
  refine N1.out.mono ?_
  rintro e w1 ⟨A1, c1, rfl, g1⟩
  have G1 := Lib.hid (show Grew base w w1 A1 c1 X from ⟨g1.own, B0.out.trans g1.bel, KP0.out.trans g1.kp⟩)
  clear g1
  go_wp2_with fail
  go_ret
  exact ⟨_, _, rfl, G1.out⟩
end
end Go.Proofs.YtdcjnkakibeigaaDoor
