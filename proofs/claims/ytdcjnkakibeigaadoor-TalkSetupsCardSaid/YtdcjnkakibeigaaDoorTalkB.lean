/-
  talk: clone, a message with memory of its own (made by mkTalkB.py).
-/
import Derived.Test.YtdcjnkakibeigaaDoorTalkA
import Derived.Test.YtdcjnkakibeigaaDoorWordC
namespace Go.Proofs.YtdcjnkakibeigaaDoor
open Go.RowKit
set_option linter.unusedVariables false
set_option linter.unusedSimpArgs false
theorem info_msgT : (Tryd.prog.info? 31).map (·.size) = some 16 := by kernel_rfl
theorem OwnV.grownT {w w' : World} {base : Nat} {A : Option Addr} {c n : Nat} {xs : List Value} {e : TypeId} {size g : Nat} {t : TypeId} {cs : Array Value} (h : OwnV w base e size A c n xs) (hk : Blk w g t cs) (ht : t ≠ e) (hg : w.grownBy w' (some g)) : OwnV w' base e size A c n xs := by
  refine h.grown hg ?_
  intro k cur hb he
  injection he with he
  subst he
  exact Blk.ne_ hk hb ht rfl
set_option maxRecDepth 8000 in
set_option maxHeartbeats 3200000 in
theorem cloneM_any (m : MV) (nA : Option Addr) (nc : Nat) (rA : Option Addr) (rc : Nat) (vA : Option Addr) (vc : Nat) (w : World) (h1 : Rd w nA m.name) (h1l : m.name.length ≤ 70368744177664) (h1A : nA = none → m.name = [] ∧ nc = 0)
    (h2 : Rd w rA m.reason) (h2l : m.reason.length ≤ 70368744177664) (h2A : rA = none → m.reason = [] ∧ rc = 0) (h3 : RdI .u64 w vA m.vers) (h3l : m.vers.length ≤ 1000000) (h3A : vA = none → m.vers = [] ∧ vc = 0) :
    Calls Tryd.prog 21 #[.agg (mvC m nA nc rA rc vA vc)] w fun r w' => ∃ nA' nc' rA' rc' vA' vc', r = .returned (.agg (mvC m nA' nc' rA' rc' vA' vc')) ∧ Own w' w.heap.size nA' nc' m.name ∧ Own w' w.heap.size rA' rc' m.reason ∧ OwnV w' w.heap.size 22 1 vA' vc' m.vers.length (IV .u64 m.vers) ∧ Below w.heap.size w w' := by
  obtain ⟨kind, id, al, name, prio, ord, sg, so, eg, eo, sm, code, reason, n, ver, vers⟩ := m
  unfold mvC
  simp only at h1 h1l h1A h2 h2l h2A h3 h3l h3A ⊢
  obtain ⟨W, hW⟩ : ∃ W, W = (w.alloc (.cells #[.int .u64 kind, .int .u64 id, .int .u64 al, .slice nA name.length nc, .int .u8 prio, .int .u8 ord, .int .u64 sg, .int .u64 so, .int .u64 eg, .int .u64 eo, .bool sm, .int .u64 code, .slice rA reason.length rc, .int .u64 n, .int .u64 ver, .slice vA vers.length vc] 31)).alloc (.cells #[.int .u64 0, .int .u64 0, .int .u64 0, .slice none 0 0, .int .u8 0, .int .u8 0, .int .u64 0, .int .u64 0, .int .u64 0, .int .u64 0, .bool false, .int .u64 0, .slice none 0 0, .int .u64 0, .int .u64 0, .slice none 0 0] 31) := ⟨_, rfl⟩
  have K0 := Lib.hid (show Blk W w.heap.size 31 #[.int .u64 kind, .int .u64 id, .int .u64 al, .slice nA name.length nc, .int .u8 prio, .int .u8 ord, .int .u64 sg, .int .u64 so, .int .u64 eg, .int .u64 eo, .bool sm, .int .u64 code, .slice rA reason.length rc, .int .u64 n, .int .u64 ver, .slice vA vers.length vc] by rw [hW]; exact (Blk.new _ _ _).alloc _)
  have R0 := Lib.hid (show Blk W (w.heap.size + 1) 31 #[.int .u64 0, .int .u64 0, .int .u64 0, .slice none 0 0, .int .u8 0, .int .u8 0, .int .u64 0, .int .u64 0, .int .u64 0, .int .u64 0, .bool false, .int .u64 0, .slice none 0 0, .int .u64 0, .int .u64 0, .slice none 0 0] by rw [hW]; simpa using Blk.new (w.alloc (.cells #[.int .u64 kind, .int .u64 id, .int .u64 al, .slice nA name.length nc, .int .u8 prio, .int .u8 ord, .int .u64 sg, .int .u64 so, .int .u64 eg, .int .u64 eo, .bool sm, .int .u64 code, .slice rA reason.length rc, .int .u64 n, .int .u64 ver, .slice vA vers.length vc] 31)) 31 #[.int .u64 0, .int .u64 0, .int .u64 0, .slice none 0 0, .int .u8 0, .int .u8 0, .int .u64 0, .int .u64 0, .int .u64 0, .int .u64 0, .bool false, .int .u64 0, .slice none 0 0, .int .u64 0, .int .u64 0, .slice none 0 0])
  have B0 := Lib.hid (show Below w.heap.size w W by rw [hW]; exact ((Below.refl _ _).alloc (Nat.le_refl _) _).alloc (by simp) _)
  have C1 := Lib.hid (fun W' (hb : Below w.heap.size w W') => clone_any nA nc name W' (h1.below hb) h1l h1A)
  have C2 := Lib.hid (fun W' (hb : Below w.heap.size w W') => clone_any rA rc reason W' (h2.below hb) h2l h2A)
  have C3 := Lib.hid (fun W' (hb : Below w.heap.size w W') => cloneU_any vA vc vers W' (h3.below hb) h3l h3A)
  have HW := Lib.hid hW
  clear hW h1 h2 h3 h1l h2l h3l h1A h2A h3A
  go_enter Tryd.func21, Tryd.ntmps21
  go_upto_region 1 with (fail)
  rw [← HW.out]
  obtain ⟨W0, hW0⟩ : ∃ v, v = W := ⟨_, rfl⟩
  rw [← hW0]
  rw [← hW0] at K0 R0 B0
  clear hW0 HW
  have kc1 := K0.out.cell 3
  simp only [List.getElem?_toArray, List.getElem?_cons_zero, List.getElem?_cons_succ] at kc1
  have kz1 := K0.out.lt
  go_wp2_with fail
  refine (C1.out _ B0.out).mono ?_
  rintro e u1 ⟨A1, c1, rfl, o1, b1⟩
  clear kc1 kz1
  have KX := Lib.hid (K0.out.below b1 K0.out.lt)
  have RX := Lib.hid (R0.out.below b1 R0.out.lt)
  have BX := Lib.hid (B0.out.trans (b1.mono B0.out.size))
  have OX1 := Lib.hid (OwnV.lower (show OwnV u1 W0.heap.size 5 1 A1 c1 name.length (U8 name) from o1) B0.out.size)
  have kc := KX.out.cell 3
  have kf := KX.out.frozen 3
  have kz := KX.out.lt
  simp only [List.getElem?_toArray, List.getElem?_cons_zero, List.getElem?_cons_succ] at kc
  have gs : u1.grownBy (u1.setCell ⟨w.heap.size, 3, none⟩ (.slice A1 name.length c1)) (some w.heap.size) := only_set (only_refl u1 (some w.heap.size)) (p := ⟨w.heap.size, 3, none⟩) rfl _
  have K1 := Lib.hid (show Blk (u1.setCell ⟨w.heap.size, 3, none⟩ (.slice A1 name.length c1)) w.heap.size 31 #[.int .u64 kind, .int .u64 id, .int .u64 al, .slice A1 name.length c1, .int .u8 prio, .int .u8 ord, .int .u64 sg, .int .u64 so, .int .u64 eg, .int .u64 eo, .bool sm, .int .u64 code, .slice rA reason.length rc, .int .u64 n, .int .u64 ver, .slice vA vers.length vc] from KX.out.set_ 3 (.slice A1 name.length c1))
  have R1 := Lib.hid (RX.out.far (p := ⟨w.heap.size, 3, none⟩) (by show w.heap.size + 1 ≠ w.heap.size; omega) (.slice A1 name.length c1))
  have B1 := Lib.hid (BX.out.setCell (p := ⟨w.heap.size, 3, none⟩) (Nat.le_refl _) (.slice A1 name.length c1))
  have P1 := Lib.hid (OwnV.grownT OX1.out KX.out (by decide) gs)
  clear gs
  obtain ⟨W1, hW1⟩ : ∃ v, v = u1.setCell ⟨w.heap.size, 3, none⟩ (.slice A1 name.length c1) := ⟨_, rfl⟩
  go_upto_region 2 with (fail)
  rw [← hW1]
  rw [← hW1] at K1 R1 B1 P1
  have O1 := P1
  clear P1 hW1 KX RX BX OX1 kc kf kz o1 b1 C1 K0 R0 B0
  have kc2 := K1.out.cell 12
  simp only [List.getElem?_toArray, List.getElem?_cons_zero, List.getElem?_cons_succ] at kc2
  have kz2 := K1.out.lt
  go_wp2_with fail
  refine (C2.out _ B1.out).mono ?_
  rintro e u2 ⟨A2, c2, rfl, o2, b2⟩
  clear kc2 kz2
  have KX := Lib.hid (K1.out.below b2 K1.out.lt)
  have RX := Lib.hid (R1.out.below b2 R1.out.lt)
  have BX := Lib.hid (B1.out.trans (b2.mono B1.out.size))
  have OX1 := Lib.hid (OwnV.below O1.out b2)
  have OX2 := Lib.hid (OwnV.lower (show OwnV u2 W1.heap.size 5 1 A2 c2 reason.length (U8 reason) from o2) B1.out.size)
  have kc := KX.out.cell 12
  have kf := KX.out.frozen 12
  have kz := KX.out.lt
  simp only [List.getElem?_toArray, List.getElem?_cons_zero, List.getElem?_cons_succ] at kc
  have gs : u2.grownBy (u2.setCell ⟨w.heap.size, 12, none⟩ (.slice A2 reason.length c2)) (some w.heap.size) := only_set (only_refl u2 (some w.heap.size)) (p := ⟨w.heap.size, 12, none⟩) rfl _
  have K2 := Lib.hid (show Blk (u2.setCell ⟨w.heap.size, 12, none⟩ (.slice A2 reason.length c2)) w.heap.size 31 #[.int .u64 kind, .int .u64 id, .int .u64 al, .slice A1 name.length c1, .int .u8 prio, .int .u8 ord, .int .u64 sg, .int .u64 so, .int .u64 eg, .int .u64 eo, .bool sm, .int .u64 code, .slice A2 reason.length c2, .int .u64 n, .int .u64 ver, .slice vA vers.length vc] from KX.out.set_ 12 (.slice A2 reason.length c2))
  have R2 := Lib.hid (RX.out.far (p := ⟨w.heap.size, 12, none⟩) (by show w.heap.size + 1 ≠ w.heap.size; omega) (.slice A2 reason.length c2))
  have B2 := Lib.hid (BX.out.setCell (p := ⟨w.heap.size, 12, none⟩) (Nat.le_refl _) (.slice A2 reason.length c2))
  have P1 := Lib.hid (OwnV.grownT OX1.out KX.out (by decide) gs)
  have P2 := Lib.hid (OwnV.grownT OX2.out KX.out (by decide) gs)
  clear gs
  obtain ⟨W2, hW2⟩ : ∃ v, v = u2.setCell ⟨w.heap.size, 12, none⟩ (.slice A2 reason.length c2) := ⟨_, rfl⟩
  go_upto_region 3 with (fail)
  rw [← hW2]
  rw [← hW2] at K2 R2 B2 P1 P2
  clear O1
  have O1 := P1
  have O2 := P2
  clear P1 P2 hW2 KX RX BX OX1 OX2 kc kf kz o2 b2 C2 K1 R1 B1
  have kc3 := K2.out.cell 15
  simp only [List.getElem?_toArray, List.getElem?_cons_zero, List.getElem?_cons_succ] at kc3
  have kz3 := K2.out.lt
  go_wp2_with fail
  refine (C3.out _ B2.out).mono ?_
  rintro e u3 ⟨A3, c3, rfl, o3, b3⟩
  clear kc3 kz3
  have KX := Lib.hid (K2.out.below b3 K2.out.lt)
  have RX := Lib.hid (R2.out.below b3 R2.out.lt)
  have BX := Lib.hid (B2.out.trans (b3.mono B2.out.size))
  have OX1 := Lib.hid (OwnV.below O1.out b3)
  have OX2 := Lib.hid (OwnV.below O2.out b3)
  have OX3 := Lib.hid (OwnV.lower (show OwnV u3 W2.heap.size 22 1 A3 c3 vers.length (IV .u64 vers) from o3) B2.out.size)
  have kc := KX.out.cell 15
  have kf := KX.out.frozen 15
  have kz := KX.out.lt
  simp only [List.getElem?_toArray, List.getElem?_cons_zero, List.getElem?_cons_succ] at kc
  have gs : u3.grownBy (u3.setCell ⟨w.heap.size, 15, none⟩ (.slice A3 vers.length c3)) (some w.heap.size) := only_set (only_refl u3 (some w.heap.size)) (p := ⟨w.heap.size, 15, none⟩) rfl _
  have K3 := Lib.hid (show Blk (u3.setCell ⟨w.heap.size, 15, none⟩ (.slice A3 vers.length c3)) w.heap.size 31 #[.int .u64 kind, .int .u64 id, .int .u64 al, .slice A1 name.length c1, .int .u8 prio, .int .u8 ord, .int .u64 sg, .int .u64 so, .int .u64 eg, .int .u64 eo, .bool sm, .int .u64 code, .slice A2 reason.length c2, .int .u64 n, .int .u64 ver, .slice A3 vers.length c3] from KX.out.set_ 15 (.slice A3 vers.length c3))
  have R3 := Lib.hid (RX.out.far (p := ⟨w.heap.size, 15, none⟩) (by show w.heap.size + 1 ≠ w.heap.size; omega) (.slice A3 vers.length c3))
  have B3 := Lib.hid (BX.out.setCell (p := ⟨w.heap.size, 15, none⟩) (Nat.le_refl _) (.slice A3 vers.length c3))
  have P1 := Lib.hid (OwnV.grownT OX1.out KX.out (by decide) gs)
  have P2 := Lib.hid (OwnV.grownT OX2.out KX.out (by decide) gs)
  have P3 := Lib.hid (OwnV.grownT OX3.out KX.out (by decide) gs)
  clear gs
  obtain ⟨W3, hW3⟩ : ∃ v, v = u3.setCell ⟨w.heap.size, 15, none⟩ (.slice A3 vers.length c3) := ⟨_, rfl⟩
  go_upto_region 4 with (fail)
  rw [← hW3]
  rw [← hW3] at K3 R3 B3 P1 P2 P3
  clear O1
  have O1 := P1
  clear O2
  have O2 := P2
  have O3 := P3
  clear P1 P2 P3 hW3 KX RX BX OX1 OX2 OX3 kc kf kz o3 b3 C3 K2 R2 B2
  have d0 := K3.out.cell 0
  have d1 := K3.out.cell 1
  have d2 := K3.out.cell 2
  have d3 := K3.out.cell 3
  have d4 := K3.out.cell 4
  have d5 := K3.out.cell 5
  have d6 := K3.out.cell 6
  have d7 := K3.out.cell 7
  have d8 := K3.out.cell 8
  have d9 := K3.out.cell 9
  have d10 := K3.out.cell 10
  have d11 := K3.out.cell 11
  have d12 := K3.out.cell 12
  have d13 := K3.out.cell 13
  have d14 := K3.out.cell 14
  have d15 := K3.out.cell 15
  simp only [List.getElem?_toArray, List.getElem?_cons_zero, List.getElem?_cons_succ] at d0 d1 d2 d3 d4 d5 d6 d7 d8 d9 d10 d11 d12 d13 d14 d15
  have zd := K3.out.lt
  obtain ⟨OC, hOC⟩ : ∃ OC : Array Value, OC = #[.int .u64 kind, .int .u64 id, .int .u64 al, .slice A1 name.length c1, .int .u8 prio, .int .u8 ord, .int .u64 sg, .int .u64 so, .int .u64 eg, .int .u64 eo, .bool sm, .int .u64 code, .slice A2 reason.length c2, .int .u64 n, .int .u64 ver, .slice A3 vers.length c3] := ⟨_, rfl⟩
  have HOC := Lib.hid hOC
  have HAG := Lib.hid (show Value.agg #[.int .u64 kind, .int .u64 id, .int .u64 al, .slice A1 name.length c1, .int .u8 prio, .int .u8 ord, .int .u64 sg, .int .u64 so, .int .u64 eg, .int .u64 eo, .bool sm, .int .u64 code, .slice A2 reason.length c2, .int .u64 n, .int .u64 ver, .slice A3 vers.length c3] = .agg OC by rw [hOC])
  have HO1 := Lib.hid (show OC.all (·.oneCell') = true by rw [hOC]; simp [Value.oneCell'])
  clear hOC
  go_wp2_with (refine wpList_store_row rfl 31 (.tmp 2) (.tmp 15) rfl (w.heap.size + 1) OC rfl HAG.out 31 _ R3.out (by rw [HOC.out]; exact info_msgT) (by rw [HOC.out]; rfl) HO1.out ?_)
  refine bodyPost_ret (v := .agg OC) (results_cell_row rfl _ _ (w.heap.size + 1) 31 _ (0, 0) _ rfl (setRowT R3.out OC) Tryd.underlying31 rfl (by rw [HOC.out]; exact info_msgT)) rfl ?_
  have gr := only_setRowT W3 (w.heap.size + 1) OC
  exact ⟨A1, c1, A2, c2, A3, c3, by rw [HOC.out], OwnV.grownT O1.out R3.out (by decide) gr, OwnV.grownT O2.out R3.out (by decide) gr, OwnV.grownT O3.out R3.out (by decide) gr, ⟨B3.out.os, B3.out.tape, B3.out.output, by simpa using B3.out.size, fun i hi => (setRow_other W3 (w.heap.size + 1) i OC (by omega)).trans (B3.out.block i hi)⟩⟩
end Go.Proofs.YtdcjnkakibeigaaDoor
