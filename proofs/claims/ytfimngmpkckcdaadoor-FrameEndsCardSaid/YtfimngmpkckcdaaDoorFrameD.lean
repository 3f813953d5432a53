/-
  frame.Bytes on the two frames of the examples: the whole.
-/
import Derived.Test.YtfimngmpkckcdaaDoorFrameC
namespace Go.Proofs.YtfimngmpkckcdaaDoor
open Go.RowKit
set_option linter.unusedVariables false
set_option linter.unusedSimpArgs false

structure SlBd (w : World) (B : Nat) (A : Option Addr) (c : Nat) (l : List Int) : Prop where
  rd : Reads w B 1 A l.length (U8 l)
  le : l.length ≤ c
theorem fitting_2 (g : Nat) (w : World) (h : R2 w g) : Calls Tryd.prog 33 #[FV 2 0 0 0 0 false none 0 0 none 0 0 (some ⟨g, 0, none⟩) 2 2] w fun r w' => r = .returned (.bool true) ∧ Below w.heap.size w w' := by
  have ba : Below w.heap.size w (w.alloc (.cells #[.int .u64 2, .int .u64 0, .int .u64 0, .int .u64 0, .int .u64 0, .bool false, .slice none 0 0, .slice none 0 0, .slice (some ⟨g, 0, none⟩) 2 2] 28)) := (Below.refl _ _).alloc (Nat.le_refl _) _
  have CF := Lib.hid (falling_2 g _ (h.below ba))
  have BA := Lib.hid ba
  unfold FV
  clear ba h
  go_enter Tryd.func33, Tryd.ntmps33
  go_wp2_with fail
  refine CF.out.mono ?_
  rintro r w1 ⟨rfl, b1⟩
  have B1 := Lib.hid (BA.out.trans (b1.mono BA.out.size))
  clear b1
  go_wp2_with fail
  go_ret
  exact ⟨rfl, B1.out⟩
/-- A frame that is valid: its kind, what is set, its numbers, what its kind wants. -/
theorem valid_yes (k id off n cd : Int) (fin : Bool) (A : Option Addr) (la ca : Nat) (B : Option Addr) (lb cb : Nat) (R : Option Addr) (lr cr : Nat) (s o : Int) (w : World) (ha : la ≤ 9223372036854775807) (hb : lb ≤ 9223372036854775807) (hr : lr ≤ 9223372036854775807)
    (hk : knB k = true) (hs : setI id off n cd fin la lb lr = s) (ho : foI k = o) (hso : bits .andNot .u8 s o = 0) (he : max id (max cd (max off n)) ≤ 4611686018427387903)
    (hf : ∀ W, Below w.heap.size w W → Calls Tryd.prog 33 #[FV k id off n cd fin A la ca B lb cb R lr cr] W fun r w' => r = .returned (.bool true) ∧ Below W.heap.size W w') :
    Calls Tryd.prog 16 #[FV k id off n cd fin A la ca B lb cb R lr cr] w fun r w' => r = .returned (.bool true) ∧ Below w.heap.size w w' := by
  have CO := fieldsOf_any k
  rw [hk, ho] at CO
  have CS := (fun W => set_any k id off n cd fin A la ca B lb cb R lr cr W ha hb hr)
  rw [hs] at CS
  have CE := (fun W => encodable_any k id off n cd fin A la ca B lb cb R lr cr W)
  rw [decide_eq_true he] at CE
  unfold FV at CS CE hf ⊢
  have CO' := Lib.hid CO
  have CS' := Lib.hid CS
  have CE' := Lib.hid CE
  have CF' := Lib.hid hf
  have b0 : Below w.heap.size w (w.alloc (.cells #[.int .u64 k, .int .u64 id, .int .u64 off, .int .u64 n, .int .u64 cd, .bool fin, .slice A la ca, .slice B lb cb, .slice R lr cr] 28)) := (Below.refl _ _).alloc (Nat.le_refl _) _
  have B0 := Lib.hid b0
  have K0 := Lib.hid (Blk.new w 28 #[.int .u64 k, .int .u64 id, .int .u64 off, .int .u64 n, .int .u64 cd, .bool fin, .slice A la ca, .slice B lb cb, .slice R lr cr])
  clear CO CS CE hf b0 hk hs ho he ha hb hr
  go_enter Tryd.func16, Tryd.ntmps16
  go_wp2_with fail
  refine (CO'.out _).mono ?_
  rintro r w1 ⟨rfl, rfl⟩
  go_wp2_with fail
  refine (CS'.out _).mono ?_
  rintro r w2 ⟨rfl, b2⟩
  have k2 := K0.out.below b2 K0.out.lt
  have K2 := Lib.hid k2
  have B2 := Lib.hid (B0.out.trans (b2.mono B0.out.size))
  have q0 := k2.cell 0
  have q1 := k2.cell 1
  have q2 := k2.cell 2
  have q3 := k2.cell 3
  have q4 := k2.cell 4
  have q5 := k2.cell 5
  have q6 := k2.cell 6
  have q7 := k2.cell 7
  have q8 := k2.cell 8
  clear b2 k2
  go_wp2_with fail
  refine (CE'.out _).mono ?_
  rintro r w3 ⟨rfl, b3⟩
  have k3 := K2.out.below b3 K2.out.lt
  have B3 := Lib.hid (B2.out.trans (b3.mono B2.out.size))
  have q0 := k3.cell 0
  have q1 := k3.cell 1
  have q2 := k3.cell 2
  have q3 := k3.cell 3
  have q4 := k3.cell 4
  have q5 := k3.cell 5
  have q6 := k3.cell 6
  have q7 := k3.cell 7
  have q8 := k3.cell 8
  clear b3 k3
  go_wp2_with fail
  refine (CF'.out _ B3.out).mono ?_
  rintro r w4 ⟨rfl, b4⟩
  have B4 := Lib.hid (B3.out.trans (b4.mono B3.out.size))
  clear b4
  go_wp2_with fail
  go_ret
  exact ⟨rfl, B4.out⟩
theorem data_1 (A : Option Addr) (c : Nat) (D : Option Addr) (d : Nat) (P : List Int) (X : List Int) (base : Nat) (w : World) (ht : Tab w) (hown : Own w base D d P) (hP : P.length ≤ 1000) (hb : base ≤ w.heap.size) (ha : SlBd w base A c [97, 98]) (hX : X = P ++ [2, 97, 98]) :
    Calls Tryd.prog 37 #[.slice D P.length d, FV 8 4 0 0 0 true A 2 c none 0 0 none 0 0] w fun r w' => ∃ A' c', r = .returned (.slice A' X.length c') ∧ Own w' base A' c' X ∧ Below base w w' := by
  have b0 : Below w.heap.size w (w.alloc (.cells #[.int .u64 8, .int .u64 4, .int .u64 0, .int .u64 0, .int .u64 0, .bool true, .slice A 2 c, .slice none 0 0, .slice none 0 0] 28)) := (Below.refl _ _).alloc (Nat.le_refl _) _
  have CT := text_any A c [97, 98] _ (ht.below b0) (Rd.below (Reads.more ha.rd hb) b0) (by decide)
  have e : vtext [97, 98] = [2, 97, 98] := by decide
  rw [e] at CT
  have CT' := Lib.hid CT
  have O0 := Lib.hid (hown.below b0)
  have B0 := Lib.hid (b0.mono hb)
  have HX := Lib.hid hX
  unfold FV
  clear b0 CT e hown ht ha hX
  go_enter Tryd.func37, Tryd.ntmps37
  go_wp2_with fail
  refine CT'.out.mono ?_
  rintro r w1 ⟨A1, c1, rfl, o1, b1⟩
  have O1 := Lib.hid (O0.out.below b1)
  have R1 := Lib.hid (Rd.of_own o1)
  have B1 := Lib.hid (B0.out.trans (b1.mono (Nat.le_trans hb B0.out.size)))
  clear o1 b1 CT'
  go_wp2_with (at_builtin
               refine wpList_appX rfl (.tmp 27) (.tmp 30) rfl base (l := P) (news := [2, 97, 98]) X HX.out rfl rfl O1.out R1.out (by simp; omega) (Nat.le_trans hb B1.out.size) ?_
               intro A3 c3 w3 o3 g3 b3
               have O3 := Lib.hid o3
               have B3 := Lib.hid (B1.out.trans b3)
               clear o3 g3 b3)
  go_ret
  exact ⟨_, _, rfl, O3.out, B3.out⟩
end Go.Proofs.YtfimngmpkckcdaaDoor
