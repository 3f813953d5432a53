/-
  head.appendLong.
-/
import Derived.Test.YtomapklkbfjafaaDoorHeadW
namespace Go.Proofs.YtomapklkbfjafaaDoor
open Go.RowKit
set_option linter.unusedVariables false
set_option linter.unusedSimpArgs false

/-- A row of the call's own beside a head's block and two names that lie below. -/
structure Al (w : World) (base gh : Nat) (x : Array Value) (A : Option Addr) (c : Nat) (P : List Int) (A1 : Option Addr) (c1 : Nat) (a : List Int) (B : Option Addr) (d : Nat) (b : List Int) : Prop where
  own : Own w base A c P
  blk : Blk w gh 24 x
  sa : SlB w base A1 c1 a
  sb : SlB w base B d b
  le : base ≤ w.heap.size
section
variable {w w' : World} {base gh : Nat} {x : Array Value} {A : Option Addr} {c : Nat} {P : List Int} {A1 : Option Addr} {c1 : Nat} {a : List Int} {B : Option Addr} {d : Nat} {b : List Int}
theorem Al.alloc (h : Al w base gh x A c P A1 c1 a B d b) (o : Obj) : Al (w.alloc o) base gh x A c P A1 c1 a B d b := by
  have bb : Below w.heap.size w (w.alloc o) := (Below.refl _ _).alloc (Nat.le_refl _) _
  exact ⟨h.own.below bb, h.blk.below bb h.blk.lt, h.sa.keep fun p hp => bb.cell (by have := h.le; omega), h.sb.keep fun p hp => bb.cell (by have := h.le; omega), Nat.le_trans h.le bb.size⟩
theorem Al.drew (h : Al w base gh x A c P A1 c1 a B d b) : Al w.drew base gh x A c P A1 c1 a B d b := ⟨h.own, h.blk, ⟨h.sa.rd, h.sa.le, h.sa.max, h.sa.nil⟩, ⟨h.sb.rd, h.sb.le, h.sb.max, h.sb.nil⟩, h.le⟩
theorem Al.below (h : Al w base gh x A c P A1 c1 a B d b) (bb : Below w.heap.size w w') : Al w' base gh x A c P A1 c1 a B d b :=
  ⟨h.own.below bb, h.blk.below bb h.blk.lt, h.sa.keep fun p hp => bb.cell (by have := h.le; omega), h.sb.keep fun p hp => bb.cell (by have := h.le; omega), Nat.le_trans h.le bb.size⟩
theorem Al.app (h : Al w base gh x A c P A1 c1 a B d b) {A' : Option Addr} {c' : Nat} {X : List Int} (o : Own w' base A' c' X) (hg : w.grownBy w' (Value.slice A P.length c).ownBlock) (hb : Below base w w') : Al w' base gh x A' c' X A1 c1 a B d b :=
  ⟨o, h.blk.grown hg (fun e => OwnV.other (e := 5) h.own (by decide) _ _ h.blk e.symm), h.sa.keep fun p hp => hb.cell hp, h.sb.keep fun p hp => hb.cell hp, Nat.le_trans h.le hg.size⟩
theorem Al.ra (h : Al w base gh x A c P A1 c1 a B d b) : Rd w A1 a := Reads.more h.sa.rd h.le
theorem Al.rb (h : Al w base gh x A c P A1 c1 a B d b) : Rd w B b := Reads.more h.sb.rd h.le
end
theorem rd_lit4 (w : World) (l : List Int) (hm : l.length ≤ 1000) : Rd (w.alloc (.cells (U8 l).toArray 5)) (some ⟨w.heap.size, 0, none⟩) l := Rd.of_own (own_lit4 w l (Nat.le_refl _) hm)

theorem Tab.under {w w' : World} (h : Tab w) {n : Nat} (hb : Below n w w') (hg : 1 < n) : Tab w' := by
  obtain ⟨h0, h1, h2, h3, h4⟩ := h
  exact ⟨Nat.lt_of_lt_of_le h0 hb.size, (hb.cell (p := ⟨1, _, none⟩) hg).trans h1, (hb.cell (p := ⟨1, _, none⟩) hg).trans h2, (hb.cell (p := ⟨1, _, none⟩) hg).trans h3, (hb.cell (p := ⟨1, _, none⟩) hg).trans h4⟩
def apL (lv : Int) (a b : List Int) (z : Int) : List Int := [0, 0, 0, 1] ++ [(a.length : Int)] ++ a ++ [(b.length : Int)] ++ b ++ (if lv = 0 then [0] else []) ++ wenc z 2

set_option maxHeartbeats 3200000 in
theorem appendLong_any (lv : Int) (A : Option Addr) (c : Nat) (P : List Int) (A1 : Option Addr) (c1 : Nat) (a : List Int) (B : Option Addr) (d : Nat) (b : List Int) (z : Int) (base : Nat) (w : World) (hown : Own w base A c P) (hP : P.length ≤ 1000) (hb : base ≤ w.heap.size)
    (hlv : lv = 0 ∨ lv = 1) (ha : a.length ≤ 20) (hbl : b.length ≤ 20) (sa : SlB w base A1 c1 a) (sb : SlB w base B d b) (hz : 0 ≤ z ∧ z < 16384) (ht : Tab w) (hg : 1 < base) :
    Calls Tryd.prog 17 #[.slice A P.length c, HV true lv false A1 a c1 B b d, .int .i64 z] w fun r w' => ∃ A' c', r = .returned (.slice A' (P ++ apL lv a b z).length c') ∧ Own w' base A' c' (P ++ apL lv a b z) ∧ Below base w w' := by
  obtain ⟨O, hO⟩ : ∃ O, O = P ++ apL lv a b z := ⟨_, rfl⟩
  rw [← hO]
  have HO := Lib.hid hO
  have hba : Below base w (w.alloc (.cells #[.bool true, .int .i64 lv, .bool false, .slice A1 a.length c1, .slice B b.length d] 24)) := (Below.refl _ _).alloc hb _
  have S0 : Al (w.alloc (.cells #[.bool true, .int .i64 lv, .bool false, .slice A1 a.length c1, .slice B b.length d] 24)) base w.heap.size #[.bool true, .int .i64 lv, .bool false, .slice A1 a.length c1, .slice B b.length d] A c P A1 c1 a B d b :=
    ⟨hown.below ((Below.refl _ _).alloc (Nat.le_refl _) _), Blk.new _ _ _, sa.keep fun p hp => hba.cell hp, sb.keep fun p hp => hba.cell hp, by simp; omega⟩
  have HS := Lib.hid S0
  have hsz1 : (w.alloc (.cells #[.bool true, .int .i64 lv, .bool false, .slice A1 a.length c1, .slice B b.length d] 24)).heap.size = w.heap.size + 1 := by simp
  have RL0 := Lib.hid (show Rd ((w.alloc (.cells #[.bool true, .int .i64 lv, .bool false, .slice A1 a.length c1, .slice B b.length d] 24)).alloc (.cells #[.int .u8 0, .int .u8 0, .int .u8 0, .int .u8 1] 5)) (some ⟨w.heap.size + 1, 0, none⟩) [0, 0, 0, 1] from by
    have h := rd_lit4 (w.alloc (.cells #[.bool true, .int .i64 lv, .bool false, .slice A1 a.length c1, .slice B b.length d] 24)) [0, 0, 0, 1] (by decide)
    rw [hsz1] at h
    exact h)
  have HB := Lib.hid hba
  obtain ⟨X1, hX1⟩ : ∃ X, X = P ++ [0, 0, 0, 1] := ⟨_, rfl⟩
  obtain ⟨X2, hX2⟩ : ∃ X, X = X1 ++ [(a.length : Int)] := ⟨_, rfl⟩
  obtain ⟨X3, hX3⟩ : ∃ X, X = X2 ++ a := ⟨_, rfl⟩
  obtain ⟨X4, hX4⟩ : ∃ X, X = X3 ++ [(b.length : Int)] := ⟨_, rfl⟩
  obtain ⟨X5, hX5⟩ : ∃ X, X = X4 ++ b := ⟨_, rfl⟩
  have l1 : X1.length ≤ 1004 := by rw [hX1, List.length_append]; simp; omega
  have l2 : X2.length ≤ 1005 := by rw [hX2, List.length_append]; simp; omega
  have l3 : X3.length ≤ 1025 := by rw [hX3, List.length_append]; omega
  have l4 : X4.length ≤ 1026 := by rw [hX4, List.length_append]; simp; omega
  have l5 : X5.length ≤ 1046 := by rw [hX5, List.length_append]; omega
  have hfin : ∀ T : List Int, T = (if lv = 0 then [0] else []) ++ wenc z 2 → X5 ++ T = O := by
    intro T hT
    rw [hT, hO, hX5, hX4, hX3, hX2, hX1, apL]
    simp
  have HF := Lib.hid hfin
  have H1 := Lib.hid hX1
  have H2 := Lib.hid hX2
  have H3 := Lib.hid hX3
  have H4 := Lib.hid hX4
  have H5 := Lib.hid hX5
  have HT := Lib.hid ht
  have HP := Lib.hid hP
  have HG := Lib.hid hg
  have hwa : IntKind.u8.wrap (a.length : Int) = (a.length : Int) := by rw [IntKind.wrap_u8]; omega
  have hwb : IntKind.u8.wrap (b.length : Int) = (b.length : Int) := by rw [IntKind.wrap_u8]; omega
  unfold HV
  clear hg hO hba S0 hsz1 hX1 hX2 hX3 hX4 hX5 hfin hown sa sb ht
  obtain ⟨hz1, hz2⟩ := hz
  obtain ⟨WW, hWW⟩ : ∃ WW, WW = wenc z 2 := ⟨_, rfl⟩
  have hwl : WW.length = 2 := by rw [hWW]; exact wenc_length _ _ (by omega)
  have HWW := Lib.hid hWW
  have HWL : WW.length ≤ 2 := by omega
  rcases hlv with rfl | rfl
  · obtain ⟨X6, hX6⟩ : ∃ X, X = X5 ++ [0] := ⟨_, rfl⟩
    have l6 : X6.length ≤ 1047 := by rw [hX6, List.length_append]; simp; omega
    have H7 := Lib.hid (show O = X6 ++ WW by rw [hX6, hWW, List.append_assoc]; exact (HF.out _ rfl).symm)
    have H6 := Lib.hid hX6
    clear hX6 hWW hwl
    go_enter Tryd.func17, Tryd.ntmps17
    have r0 := HS.out.blk.cell 3
    clear hP hb
    go_wp2_with (first
      | (at_builtin
         refine wpList_appX rfl (.tmp 9) (.tmp 10) rfl base (l := P) (news := [0, 0, 0, 1]) X1 H1.out rfl rfl (HS.out.alloc _).own RL0.out (by have := HP.out; simp; omega) (HS.out.alloc _).le ?_
         intro A3 c3 w3 o3 g3 b3
         have S1 := Lib.hid ((HS.out.alloc _).app o3 g3 b3)
         have B1 := Lib.hid ((HB.out.trans ((Below.refl _ _).alloc HS.out.le _)).trans b3)
         have r1 := S1.out.blk.cell 3
         clear o3 g3 b3)
      | (at_builtin
         refine wpList_appX rfl (.tmp 12) (.tmp 17) rfl base (l := X1) (news := [(a.length : Int)]) X2 H2.out rfl rfl (S1.out.alloc _).own (Rd.of_own (own_lit1 w3 (a.length : Int) (Nat.le_refl _))) (by simp; omega) (S1.out.alloc _).le ?_
         intro A4 c4 w4 o4 g4 b4
         have S2 := Lib.hid ((S1.out.alloc _).app o4 g4 b4)
         have B2 := Lib.hid ((B1.out.trans ((Below.refl _ _).alloc S1.out.le _)).trans b4)
         have r2 := S2.out.blk.cell 3
         clear o4 g4 b4)
      | (at_builtin
         refine wpList_appX rfl (.tmp 19) (.tmp 21) rfl base (l := X2) (news := a) X3 H3.out rfl rfl S2.out.own S2.out.ra (by omega) S2.out.le ?_
         intro A5 c5 w5 o5 g5 b5
         have S3 := Lib.hid (S2.out.app o5 g5 b5)
         have B3 := Lib.hid (B2.out.trans b5)
         have r3 := S3.out.blk.cell 4
         clear o5 g5 b5)
      | (at_builtin
         refine wpList_appX rfl (.tmp 23) (.tmp 28) rfl base (l := X3) (news := [(b.length : Int)]) X4 H4.out rfl rfl (S3.out.alloc _).own (Rd.of_own (own_lit1 w5 (b.length : Int) (Nat.le_refl _))) (by simp; omega) (S3.out.alloc _).le ?_
         intro A6 c6 w6 o6 g6 b6
         have S4 := Lib.hid ((S3.out.alloc _).app o6 g6 b6)
         have B4 := Lib.hid ((B3.out.trans ((Below.refl _ _).alloc S3.out.le _)).trans b6)
         have r4 := S4.out.blk.cell 4
         clear o6 g6 b6)
      | (at_builtin
         refine wpList_appX rfl (.tmp 30) (.tmp 32) rfl base (l := X4) (news := b) X5 H5.out rfl rfl S4.out.own S4.out.rb (by omega) S4.out.le ?_
         intro A7 c7 w7 o7 g7 b7
         have S5 := Lib.hid (S4.out.app o7 g7 b7)
         have B5 := Lib.hid (B4.out.trans b7)
         have r5 := S5.out.blk.cell 1
         clear o7 g7 b7)
      | (at_builtin
         refine wpList_appX rfl (.tmp 37) (.tmp 38) rfl base (l := X5) (news := [0]) X6 H6.out rfl rfl (S5.out.alloc _).own (Rd.of_own (own_lit1 w7 0 (Nat.le_refl _))) (by simp; omega) (S5.out.alloc _).le ?_
         intro A8 c8 w8 o8 g8 b8
         have S6 := Lib.hid ((S5.out.alloc _).app o8 g8 b8)
         have B6 := Lib.hid ((B5.out.trans ((Below.refl _ _).alloc S5.out.le _)).trans b8)
         clear o8 g8 b8))
    refine (wide_ok z 2 2 16384 1 w8 (HT.out.under B6.out HG.out) (by unfold IsSize; omega) hz1 hz2).mono ?_
    rintro e w9 ⟨A9, c9, rfl, o9, b9⟩
    rw [← HWW.out] at o9 ⊢
    have S7 := Lib.hid (S6.out.below b9)
    have B7 := Lib.hid (B6.out.trans (b9.mono S6.out.le))
    have R9 := Lib.hid (Rd.of_own o9)
    clear o9 b9
    go_wp2_with (at_builtin
                 refine wpList_appX rfl (.tmp 46) (.tmp 47) rfl base (l := X6) (news := WW) O H7.out rfl rfl S7.out.own R9.out (by omega) S7.out.le ?_
                 intro A10 c10 w10 o10 g10 b10
                 have S8 := Lib.hid o10
                 have B8 := Lib.hid (B7.out.trans b10)
                 clear o10 g10 b10)
    go_ret
    exact ⟨_, _, rfl, S8.out, B8.out⟩
  · obtain ⟨X6, hX6⟩ : ∃ X, X = X5 := ⟨_, rfl⟩
    have l6 : X6.length ≤ 1047 := by rw [hX6]; omega
    have H7 := Lib.hid (show O = X6 ++ WW by rw [hX6, hWW]; exact (HF.out _ (by rw [if_neg (by decide), List.nil_append])).symm)
    have H6 := Lib.hid hX6
    clear hX6 hWW hwl
    go_enter Tryd.func17, Tryd.ntmps17
    have r0 := HS.out.blk.cell 3
    clear hP hb
    go_wp2_with (first
      | (at_builtin
         refine wpList_appX rfl (.tmp 9) (.tmp 10) rfl base (l := P) (news := [0, 0, 0, 1]) X1 H1.out rfl rfl (HS.out.alloc _).own RL0.out (by have := HP.out; simp; omega) (HS.out.alloc _).le ?_
         intro A3 c3 w3 o3 g3 b3
         have S1 := Lib.hid ((HS.out.alloc _).app o3 g3 b3)
         have B1 := Lib.hid ((HB.out.trans ((Below.refl _ _).alloc HS.out.le _)).trans b3)
         have r1 := S1.out.blk.cell 3
         clear o3 g3 b3)
      | (at_builtin
         refine wpList_appX rfl (.tmp 12) (.tmp 17) rfl base (l := X1) (news := [(a.length : Int)]) X2 H2.out rfl rfl (S1.out.alloc _).own (Rd.of_own (own_lit1 w3 (a.length : Int) (Nat.le_refl _))) (by simp; omega) (S1.out.alloc _).le ?_
         intro A4 c4 w4 o4 g4 b4
         have S2 := Lib.hid ((S1.out.alloc _).app o4 g4 b4)
         have B2 := Lib.hid ((B1.out.trans ((Below.refl _ _).alloc S1.out.le _)).trans b4)
         have r2 := S2.out.blk.cell 3
         clear o4 g4 b4)
      | (at_builtin
         refine wpList_appX rfl (.tmp 19) (.tmp 21) rfl base (l := X2) (news := a) X3 H3.out rfl rfl S2.out.own S2.out.ra (by omega) S2.out.le ?_
         intro A5 c5 w5 o5 g5 b5
         have S3 := Lib.hid (S2.out.app o5 g5 b5)
         have B3 := Lib.hid (B2.out.trans b5)
         have r3 := S3.out.blk.cell 4
         clear o5 g5 b5)
      | (at_builtin
         refine wpList_appX rfl (.tmp 23) (.tmp 28) rfl base (l := X3) (news := [(b.length : Int)]) X4 H4.out rfl rfl (S3.out.alloc _).own (Rd.of_own (own_lit1 w5 (b.length : Int) (Nat.le_refl _))) (by simp; omega) (S3.out.alloc _).le ?_
         intro A6 c6 w6 o6 g6 b6
         have S4 := Lib.hid ((S3.out.alloc _).app o6 g6 b6)
         have B4 := Lib.hid ((B3.out.trans ((Below.refl _ _).alloc S3.out.le _)).trans b6)
         have r4 := S4.out.blk.cell 4
         clear o6 g6 b6)
      | (at_builtin
         refine wpList_appX rfl (.tmp 30) (.tmp 32) rfl base (l := X4) (news := b) X5 H5.out rfl rfl S4.out.own S4.out.rb (by omega) S4.out.le ?_
         intro A7 c7 w7 o7 g7 b7
         have S5 := Lib.hid (S4.out.app o7 g7 b7)
         have B5 := Lib.hid (B4.out.trans b7)
         have r5 := S5.out.blk.cell 1
         clear o7 g7 b7))
    refine (wide_ok z 2 2 16384 1 w7 (HT.out.under B5.out HG.out) (by unfold IsSize; omega) hz1 hz2).mono ?_
    rintro e w9 ⟨A9, c9, rfl, o9, b9⟩
    rw [← HWW.out] at o9 ⊢
    have S7 := Lib.hid (S5.out.below b9)
    have B7 := Lib.hid (B5.out.trans (b9.mono S5.out.le))
    have R9 := Lib.hid (Rd.of_own o9)
    clear o9 b9
    go_wp2_with (at_builtin
                 refine wpList_appX rfl (.tmp 46) (.tmp 47) rfl base (l := X5) (news := WW) O (H6.out ▸ H7.out) rfl rfl S7.out.own R9.out (by omega) S7.out.le ?_
                 intro A10 c10 w10 o10 g10 b10
                 have S8 := Lib.hid o10
                 have B8 := Lib.hid (B7.out.trans b10)
                 clear o10 g10 b10)
    go_ret
    exact ⟨_, _, rfl, S8.out, B8.out⟩
end Go.Proofs.YtomapklkbfjafaaDoor
