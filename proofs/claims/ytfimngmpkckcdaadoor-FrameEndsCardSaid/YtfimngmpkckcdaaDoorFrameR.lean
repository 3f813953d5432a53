/-
  FrameEnds.
-/
import Derived.Test.YtfimngmpkckcdaaDoorFrameQ
import Derived.Test.YtfimngmpkckcdaaDoorFrameE
import Derived.Test.YtfimngmpkckcdaaDoorVintG
import Derived.Test.YtfimngmpkckcdaaDoorStepV
namespace Go.Proofs.YtfimngmpkckcdaaDoor
open Go.RowKit
set_option linter.unusedVariables false

theorem num_of {n b t : Int} {k : Nat} (hs : IsSize k k b t) (h0 : 0 ≤ n) (hn : n < b) (bh : List Int) : numL (wenc n k ++ bh) 0 = bh ∧ numE (wenc n k ++ bh) 0 = 0 ∧ numN (wenc n k ++ bh) 0 = n := by
  have e := rdS_wenc hs h0 hn bh
  have hk : k ≠ 0 := by rcases hs with ⟨_, h, _⟩ | ⟨_, h, _⟩ | ⟨_, h, _⟩ | ⟨_, h, _⟩ <;> omega
  refine ⟨?_, ?_, ?_⟩
  · rw [numL, if_pos rfl, e]; exact drop_wenc hs bh
  · rw [numE, if_neg (by rw [e]; simp [hk])]
  · rw [numN, if_pos ⟨rfl, by rw [e]; exact hk⟩]; exact rdN_wenc hs h0 hn bh
theorem num_byte (x : Int) (h0 : 0 ≤ x) (h1 : x < 64) (bh : List Int) : numL (x :: bh) 0 = bh ∧ numE (x :: bh) 0 = 0 ∧ numN (x :: bh) 0 = x := by
  have h := num_of (n := x) (k := 1) (b := 64) (t := 0) (.inl ⟨rfl, rfl, rfl, rfl⟩) h0 h1 bh
  have e : wenc x 1 = [x] := by
    unfold wenc be vtag
    simp
    omega
  rw [e] at h
  exact h
theorem least_byte (x : Int) (h0 : 0 ≤ x) (h1 : x < 64) (bh : List Int) : vleast (x :: bh) = true := by
  have e := rdS_wenc (n := x) (k := 1) (b := 64) (t := 0) (.inl ⟨rfl, rfl, rfl, rfl⟩) h0 h1 bh
  have e2 := rdN_wenc (n := x) (k := 1) (b := 64) (t := 0) (.inl ⟨rfl, rfl, rfl, rfl⟩) h0 h1 bh
  have ew : wenc x 1 ++ bh = x :: bh := by
    unfold wenc be vtag
    simp
    omega
  rw [ew] at e e2
  unfold vleast
  rw [e, e2]
  have : vsize x = 1 := by unfold vsize; rw [if_pos h1]
  rw [this]
  decide
theorem venc_num (n : Int) (h0 : 0 ≤ n) (hn : n < 4611686018427387904) (bh : List Int) : numL (venc n ++ bh) 0 = bh ∧ numE (venc n ++ bh) 0 = 0 ∧ numN (venc n ++ bh) 0 = n := by
  obtain ⟨k, b, t, hs, hb, hk, hk1, hk8⟩ := vsize_is n h0 hn
  have e : (vsize n).toNat = k := by omega
  unfold venc
  rw [e]
  exact num_of (hk ▸ hs) h0 hb bh
theorem venc_by (n : Int) (h0 : 0 ≤ n) (hn : n < 4611686018427387904) : Bytes (venc n) ∧ (venc n).length ≤ 8 := by
  obtain ⟨k, b, t, hs, hb, hk, hk1, hk8⟩ := vsize_is n h0 hn
  have e : (vsize n).toNat = k := by omega
  unfold venc
  rw [e]
  exact ⟨wenc_bytes (hk ▸ hs) h0 hb, by rw [wenc_length _ _ (by omega)]; omega⟩

set_option maxRecDepth 100000 in
set_option maxHeartbeats 3200000 in
theorem ends_gram (id : Int) (A : Option Addr) (c : Nat) (l : List Int) (fin : Bool) (w : World) (ht : Tab w) (w0 : (Lit.int .u64 id).wf = true) (hr : Rd w A l) (hb : Bytes l) (hc : l.length ≤ c) (hm : c ≤ 9223372036854775807) (hn : A = none → c = 0) :
    Calls Tryd.prog 3 #[.int .u64 id, .slice A l.length c, .bool fin, .bool true] w fun r w' => r = .returned (.bool true) ∧ Below w.heap.size w w' := by
  have HT := Lib.hid ht
  have HR := Lib.hid (And.intro hr hb)
  have CC := fun W (hb' : Below w.heap.size w W) => cut_any A c l 300 W (hr.below hb') (by omega) hc (by omega) (by omega)
  obtain ⟨L, hL⟩ : ∃ L, L = l.take (300 : Int).toNat := ⟨_, rfl⟩
  have hLb : Bytes L := by rw [hL]; exact fun x hx => hb x (List.mem_of_mem_take hx)
  have hLl : L.length ≤ 300 := by rw [hL]; simp; omega
  rw [← hL] at CC
  have HCC := Lib.hid CC
  have HLB := Lib.hid hLb
  obtain ⟨X, hX⟩ : ∃ X : List Int, X = [48] ++ L := ⟨_, rfl⟩
  have HX := Lib.hid hX
  clear ht hr hb hn CC hL hLb hX
  go_enter Tryd.func3, Tryd.ntmps3
  go_wp2_with fail
  refine (awake5_any _ HT.out).mono ?_
  rintro e w1 ⟨rfl, b1⟩
  go_wp2_with fail
  refine (HCC.out _ b1).mono ?_
  rintro e w2 ⟨D, d, rfl, o2, b2⟩
  have z1 := b1.size
  have z2 := b2.size
  have B2 := Lib.hid (b1.trans (b2.mono z1))
  have O2 := Lib.hid (o2.base_le z1)
  have ba : Below w2.heap.size w2 (w2.alloc (.cells #[.int .u64 48, .int .u64 0, .int .u64 0, .int .u64 0, .int .u64 0, .bool false, .slice D L.length d, .slice none 0 0, .slice none 0 0] 28)) := (Below.refl _ _).alloc (Nat.le_refl _) _
  have KW := Lib.hid (Blk.new w2 28 #[.int .u64 48, .int .u64 0, .int .u64 0, .int .u64 0, .int .u64 0, .bool false, .slice D L.length d, .slice none 0 0, .slice none 0 0])
  have O3 := Lib.hid (O2.out.below ba)
  have B3 := Lib.hid (B2.out.trans (ba.mono (by omega)))
  obtain ⟨w3, hw3⟩ : ∃ w3, w3 = w2.alloc (.cells #[.int .u64 48, .int .u64 0, .int .u64 0, .int .u64 0, .int .u64 0, .bool false, .slice D L.length d, .slice none 0 0, .slice none 0 0] 28) := ⟨_, rfl⟩
  obtain ⟨gW, hgW⟩ : ∃ g, g = w2.heap.size := ⟨_, rfl⟩
  rw [← hw3, ← hgW] at KW
  rw [← hw3] at O3 B3
  have hz3 : w3.heap.size = w2.heap.size + 1 := by rw [hw3]; simp
  clear b1 b2 o2 O2 B2 ba HCC
  go_wp2_with (at_builtin; go_must (refine wpList_appX rfl (.tmp 23) (.tmp 24) rfl w.heap.size (l := [48]) (news := L) (d := d) X HX.out rfl rfl (by rw [← hw3, ← hz3]; exact own_lit1 w3 48 B3.out.size) (by rw [← hw3]; exact (Rd.of_own O3.out).alloc _) (by simp; omega) (by rw [← hw3]; have := B3.out.size; simp; omega) ?_); intro A5 c5 w5 o5 g5 b5)
  rw [← hw3] at g5 b5
  rw [← hz3] at g5
  have KW5 := (KW.out.alloc (.cells #[.int .u8 48] 5)).grown g5 (by simp [Value.ownBlock]; omega)
  have O5D : Own w5 w.heap.size D d L := OwnV.apart (O3.out.below ((Below.refl _ _).alloc (Nat.le_refl _) _)) g5 (fun k hk he => by
    have := OwnV.row_lt O3.out hk
    simp [Value.ownBlock] at he
    omega)
  have B5 := Lib.hid ((B3.out.alloc B3.out.size (.cells #[.int .u8 48] 5)).trans b5)
  have HKW := Lib.hid KW5
  have HOD := Lib.hid O5D
  have hXb : Bytes X := by rw [HX.out]; exact Bytes.cons (by omega) (by omega) HLB.out
  have hXl : X.length ≤ 70368744177664 := by rw [HX.out]; simp; omega
  have CR := Read_E 48 48 false ⟨.inr (.inr ⟨rfl, rfl, rfl⟩)⟩ A5 c5 X w5 (Sl.of_own o5) hXb hXl L L 0 (by rw [HX.out]; exact num_byte 48 (by omega) (by omega) L) (by rw [HX.out]; exact least_byte 48 (by omega) (by omega) L) (fun h => by omega) (fun _ => ⟨rfl, rfl⟩) (by omega) (by omega)
  have HCR := Lib.hid CR
  clear CR KW KW5 O5D O3 B3 g5 b5 o5 hXb hXl hw3
  rw [← hgW]
  clear hgW hz3
  go_wp2_with fail
  refine HCR.out.mono ?_
  rintro e w6 ⟨D6, d6, A6, c6, rfl, o6, oD6, b6⟩
  unfold FC
  have KW6 := HKW.out.below b6 HKW.out.lt
  have RD := (Rd.of_own HOD.out).below b6
  have B6 := B5.out.trans (b6.mono B5.out.size)
  have zW := KW6.lt
  have q0 := KW6.cell 0
  have q1 := KW6.cell 1
  have q2 := KW6.cell 2
  have q3 := KW6.cell 3
  have q4 := KW6.cell 4
  have q5 := KW6.cell 5
  have q6 := KW6.cell 6
  have q7 := KW6.cell 7
  have q8 := KW6.cell 8
  simp at q0 q1 q2 q3 q4 q5 q6 q7 q8
  have CS := sameF_yes 48 0 0 0 0 false D6 L d6 none [] 0 none [] 0 D d none 0 none 0 (w6.alloc (.cells #[.int .u64 48, .int .u64 0, .int .u64 0, .int .u64 0, .int .u64 0, .bool false, .slice D6 L.length d6, .slice none 0 0, .slice none 0 0] 28)) ((Rd.of_own oD6).alloc _) (Rd.nil _ _) (RdG.nil _ _) (RD.alloc _) (Rd.nil _ _) (RdG.nil _ _) HLB.out Bytes.nil (by simp)
  unfold FC at CS
  have HCS := Lib.hid CS
  have HB6 := Lib.hid (B6.alloc B6.size (.cells #[.int .u64 48, .int .u64 0, .int .u64 0, .int .u64 0, .int .u64 0, .bool false, .slice D6 L.length d6, .slice none 0 0, .slice none 0 0] 28))
  clear CS KW6 RD B6 o6 oD6 b6 HCR HKW HOD B5
  go_wp2_with fail
  refine HCS.out.mono ?_
  rintro e w7 ⟨rfl, b7⟩
  have B7 := Lib.hid (HB6.out.trans (b7.mono HB6.out.size))
  clear b7 HB6 HCS q0 q1 q2 q3 q4 q5 q6 q7 q8
  go_wp2_with fail
  go_ret
  exact ⟨rfl, B7.out⟩
end Go.Proofs.YtfimngmpkckcdaaDoor
