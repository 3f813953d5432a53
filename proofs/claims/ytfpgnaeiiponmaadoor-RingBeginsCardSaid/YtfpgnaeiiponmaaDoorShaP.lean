import Derived.Test.YtfpgnaeiiponmaaDoorShaO
import Derived.Stop.BytesEq
import Derived.Lib.SmallJoins
namespace Go.Proofs.YtfpgnaeiiponmaaDoor
open Go.RowKit
set_option linter.unusedVariables false

theorem bytes_cells {l : List Int} (h : Bytes l) : IV .u8 l = (l.map fun n : Int => UInt8.ofNat n.toNat).map Extern.Stop.cell := by
  unfold IV
  rw [List.map_map]
  refine List.map_congr_left fun x hx => ?_
  have := h x hx
  simp only [Function.comp, Extern.Stop.cell, UInt8.toNat_ofNat']
  congr 1
  show x = ((x.toNat % 2 ^ 8 : Nat) : Int)
  omega
theorem run_eql32 (l : List Int) (hb : Bytes l) (hl : l.length = 32) (w : World) : (binOp .eql 29 (.agg (IV .u8 l).toArray) (.agg (IV .u8 l).toArray)).run Tryd.prog w = .ok (.bool true) w := by
  rw [bytes_cells hb, run_eql_bytes w 29 5 32 Tryd.underlying29 Tryd.underlying5 run_sizeOf_u8 _ _ (by simp [hl]) (by simp [hl])]
  simp

/-- A slice literal of bytes, marked or not. -/
theorem lit_sl {w : World} (l : List Int) (fr : Nat × Nat) (hb : l.length ≤ 1000) {g n : Nat} (hg : g = w.heap.size) (hn : n = l.length) : Sl (w.alloc (.cells (IV .u8 l).toArray 5 fr)) (some ⟨g, 0, none⟩) n l := by
  subst hg
  subst hn
  refine ⟨⟨by simp [U8], fun _ => ⟨_, rfl, by simp, fun j u hu => ?_⟩⟩, Nat.le_refl _, by omega, by intro h; cases h⟩
  rw [Addr.add_mid, Nat.zero_add, World.cell?_alloc_mark]
  simpa [U8, IV] using hu

set_option maxRecDepth 100000 in
set_option maxHeartbeats 1600000 in
theorem awake_any (w : World) (hS : STab w) (hK : KTab w) : Calls Tryd.prog 8 #[] w fun e w' => e = .returned (.bool true) ∧ Below w.heap.size w w' := by
  have f1 := sha_none
  have f2 := hmac_jefe
  obtain ⟨H1, hH1⟩ : ∃ H1, H1 = sha [] := ⟨_, rfl⟩
  obtain ⟨H2, hH2⟩ : ∃ H2, H2 = hmac jefe (whatdo ++ nothing) := ⟨_, rfl⟩
  have l1 : H1.length = 32 := by rw [hH1]; exact sha_length _
  have l2 : H2.length = 32 := by rw [hH2]; exact hmac_length _ _
  rw [← hH1] at f1
  rw [← hH2] at f2
  have g10 : H1[0]? = some 227 := by rw [List.getElem?_eq_getElem (by omega)]; have := f1.1; rw [List.getD_eq_getElem?_getD, List.getElem?_eq_getElem (by omega)] at this; simpa using this
  have g13 : H1[3]? = some 66 := by rw [List.getElem?_eq_getElem (by omega)]; have := f1.2; rw [List.getD_eq_getElem?_getD, List.getElem?_eq_getElem (by omega)] at this; simpa using this
  have g20 : H2[0]? = some 91 := by rw [List.getElem?_eq_getElem (by omega)]; have := f2.1; rw [List.getD_eq_getElem?_getD, List.getElem?_eq_getElem (by omega)] at this; simpa using this
  have g23 : H2[3]? = some 70 := by rw [List.getElem?_eq_getElem (by omega)]; have := f2.2; rw [List.getD_eq_getElem?_getD, List.getElem?_eq_getElem (by omega)] at this; simpa using this
  have C1 : Calls Tryd.prog 12 #[.slice none 0 0] w fun r w' => r = .returned (.agg (IV .u8 H1).toArray) ∧ Below w.heap.size w w' := by
    have h := Sum_any none 0 [] w ⟨⟨by simp, fun h => absurd h (by simp)⟩, fun _ h => by cases h⟩ (by simp) (by omega) hS hK (by simp [flat])
    rw [hH1]
    exact h
  obtain ⟨Z32, hZ32⟩ : ∃ Z, Z = (IV .u8 (List.replicate 32 0)).toArray := ⟨_, rfl⟩
  have hz32 : ∀ w, (zeroValue 29).run Tryd.prog w = .ok (.agg Z32) w := by rw [hZ32]; exact zero32
  have HZS32 := Lib.hid (show Z32.size = 32 by rw [hZ32]; rfl)
  have I32 := Lib.hid (show (Tryd.prog.info? 29).map (·.size) = some 32 by kernel_rfl)
  have S1 := Lib.hid (show (IV .u8 H1).toArray.size = 32 by simp [IV, l1])
  have A1 := Lib.hid (show (IV .u8 H1).toArray.all (·.oneCell') = true by simp [IV, Value.oneCell'])
  have S2 := Lib.hid (show (IV .u8 H2).toArray.size = 32 by simp [IV, l2])
  have A2 := Lib.hid (show (IV .u8 H2).toArray.all (·.oneCell') = true by simp [IV, Value.oneCell'])
  have b1 : Bytes jefe := by unfold Bytes; decide
  have b2 : Bytes whatdo := by unfold Bytes; decide
  have b3 : Bytes nothing := by unfold Bytes; decide
  have C2 : ∀ W : World, Below w.heap.size w W → Calls Tryd.prog 13 #[.slice (some ⟨W.heap.size, 0, none⟩) 4 4, .slice (some ⟨W.heap.size + 1 + 1 + 1, 0, none⟩) 2 2] ((((W.alloc (.cells (IV .u8 jefe).toArray 5 (4, 5))).alloc (.cells (IV .u8 whatdo).toArray 5 (16, 17))).alloc (.cells (IV .u8 nothing).toArray 5 (12, 13))).alloc (.cells #[.slice (some ⟨W.heap.size + 1, 0, none⟩) 16 16, .slice (some ⟨W.heap.size + 1 + 1, 0, none⟩) 12 12] 22)) fun r w' => r = .returned (.agg (IV .u8 H2).toArray) ∧ Below W.heap.size W w' := by
    intro W hW
    obtain ⟨X, hX⟩ : ∃ X, X = ((W.alloc (.cells (IV .u8 jefe).toArray 5 (4, 5))).alloc (.cells (IV .u8 whatdo).toArray 5 (16, 17))).alloc (.cells (IV .u8 nothing).toArray 5 (12, 13)) := ⟨_, rfl⟩
    have hsz : X.heap.size = W.heap.size + 1 + 1 + 1 := by rw [hX]; simp
    have bX : Below W.heap.size W X := by rw [hX]; exact (((Below.refl _ _).alloc (Nat.le_refl _) _).alloc (by simp) _).alloc (by simp; omega) _
    have s1 : Sl X (some ⟨W.heap.size, 0, none⟩) 4 jefe := by rw [hX]; exact ((lit_sl jefe _ (by decide) rfl rfl).alloc _).alloc _
    have s2 : Sl X (some ⟨W.heap.size + 1, 0, none⟩) 16 whatdo := by rw [hX]; exact (lit_sl whatdo _ (by decide) (by simp) rfl).alloc _
    have s3 : Sl X (some ⟨W.heap.size + 1 + 1, 0, none⟩) 12 nothing := by rw [hX]; exact lit_sl nothing _ (by decide) (by simp) rfl
    rw [← hX]
    have hn := RdBs.new (w := X) (xs := [(some ⟨W.heap.size + 1, 0, none⟩, 16, whatdo), (some ⟨W.heap.size + 1 + 1, 0, none⟩, 12, nothing)]) 22 (by
      intro x hx
      simp only [List.mem_cons, List.not_mem_nil, or_false] at hx
      rcases hx with rfl | rfl
      · exact ⟨s2, b2⟩
      · exact ⟨s3, b3⟩)
    rw [hsz] at hn
    have bY : ∀ o, Below w.heap.size w (X.alloc o) := fun o => (hW.trans (bX.mono hW.size)).alloc (by have := hW.size; omega) _
    have h := Mac_any (some ⟨W.heap.size, 0, none⟩) 4 jefe (some ⟨W.heap.size + 1 + 1 + 1, 0, none⟩) 2 _ _ (s1.alloc _) b1 hn (by simp) (by decide) (hS.below (bY _)) (hK.below (bY _)) (by decide) (by rw [flat_two]; decide)
    rw [flat_two, ← hH2] at h
    exact h.mono fun r w' ⟨e, hb⟩ => ⟨e, (bX.alloc (by omega) _).trans (hb.mono (by simp; omega))⟩
  have D1 := Lib.hid C1
  have D2 := Lib.hid C2
  have G10 := Lib.hid g10
  have G13 := Lib.hid g13
  have G20 := Lib.hid g20
  have G23 := Lib.hid g23
  clear C1 C2 g10 g13 g20 g23 f1 f2 hH1 hH2 l1 l2 hZ32 b1 b2 b3
  have kc := fun (w : World) (C : Array Value) (n c g : Nat) (hg : g = w.heap.size) => Joins.run_convert_bytes_const_at (P := Tryd.prog) w 22 5 C n c g hg Tryd.underlying22 Tryd.underlying5
  go_enter Tryd.func8, Tryd.ntmps8
  go_wp2_with fail
  refine D1.out.mono ?_
  rintro e w1 ⟨rfl, b1⟩
  go_wp2_with (refine wpList_store_row rfl 29 (.tmp 1) (.tmp 3) rfl w1.heap.size (IV .u8 H1).toArray rfl rfl 29 Z32 (Blk.new w1 _ _) (by rw [S1.out]; exact I32.out) (by rw [S1.out, HZS32.out]) A1.out ?_
               have G2 := Lib.hid (Blk.row (Blk.new w1 29 Z32) (IV .u8 H1).toArray)
               have B2 := Lib.hid (below_setRow ((Below.refl w1.heap.size w1).alloc (Nat.le_refl _) (.cells Z32 29)) (Nat.le_refl _) (IV .u8 H1).toArray)
               generalize (w1.alloc (.cells Z32 29)).setRow w1.heap.size (IV .u8 H1).toArray = w2 at G2 B2 ⊢)
  have BL2 := Lib.hid (b1.trans (B2.out.mono b1.size))
  have lt2 : w1.heap.size < w2.heap.size := G2.out.lt
  have hs1 := b1.size
  clear B2 b1
  refine (D2.out w2 BL2.out).mono ?_
  rintro e w3 ⟨rfl, b3⟩
  have G3 := Lib.hid (G2.out.below b3 lt2)
  have BL3 := Lib.hid (BL2.out.trans (b3.mono BL2.out.size))
  have hs3 := b3.size
  clear b3 BL2 D1 D2
  go_wp2_with (refine wpList_store_row rfl 29 (.tmp 2) (.tmp 11) rfl w3.heap.size (IV .u8 H2).toArray rfl rfl 29 Z32 (Blk.new w3 _ _) (by rw [S2.out]; exact I32.out) (by rw [S2.out, HZS32.out]) A2.out ?_
               have G4 := Lib.hid (Blk.row (Blk.new w3 29 Z32) (IV .u8 H2).toArray)
               have B4 := Lib.hid (below_setRow ((Below.refl w3.heap.size w3).alloc (Nat.le_refl _) (.cells Z32 29)) (Nat.le_refl _) (IV .u8 H2).toArray)
               generalize (w3.alloc (.cells Z32 29)).setRow w3.heap.size (IV .u8 H2).toArray = w4 at G4 B4 ⊢
               have G5 := G3.out.below B4.out G3.out.lt
               have c10 := G5.cell_i G10.out
               have c13 := G5.cell_i G13.out
               have c20 := G4.out.cell_i G20.out
               have c23 := G4.out.cell_i G23.out
               clear G5)
  go_ret
  exact ⟨rfl, BL3.out.trans (B4.out.mono (by omega))⟩
end Go.Proofs.YtfpgnaeiiponmaaDoor
