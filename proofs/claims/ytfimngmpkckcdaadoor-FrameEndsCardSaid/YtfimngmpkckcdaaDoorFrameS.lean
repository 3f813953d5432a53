/-
  FrameEnds: a Stream.
-/
import Derived.Test.YtfimngmpkckcdaaDoorFrameR
import Derived.Deep.DeepCutAuto
namespace Go.Proofs.YtfimngmpkckcdaaDoor
open Go.RowKit
set_option linter.unusedVariables false
theorem own_ne9 {W : World} {base c g : Nat} {A : Option Addr} {P : List Int} {cs : Array Value} (h : Own W base A c P) (k : Blk W g 28 cs) : some g ≠ (Value.slice A P.length c).ownBlock := fun e => OwnV.other (show OwnV W base 5 1 A c P.length (U8 P) from h) (by decide) g cs k e.symm
set_option maxRecDepth 100000 in
set_option maxHeartbeats 3200000 in
theorem ends_strm (id : Int) (A : Option Addr) (c : Nat) (l : List Int) (fin : Bool) (w : World) (ht : Tab w) (w0 : (Lit.int .u64 id).wf = true) (hr : Rd w A l) (hb : Bytes l) (hc : l.length ≤ c) (hm : c ≤ 9223372036854775807) (hn : A = none → c = 0) :
    Calls Tryd.prog 3 #[.int .u64 id, .slice A l.length c, .bool fin, .bool false] w fun r w' => r = .returned (.bool true) ∧ Below w.heap.size w w' := by
  have HT := Lib.hid ht
  have i0 := wf_u64 w0
  obtain ⟨n1, e1⟩ : ∃ n, id % 4611686018427387904 = n := ⟨_, rfl⟩
  have y1 : 0 ≤ n1 ∧ n1 < 4611686018427387904 := by omega
  have HN := Lib.hid (fun W => refNum_ok n1 W y1.1 y1.2)
  obtain ⟨V, hV⟩ : ∃ V, V = venc n1 := ⟨_, rfl⟩
  have hV8 := venc_by n1 y1.1 y1.2
  have hVn := venc_num n1 y1.1 y1.2
  rw [← hV] at HN hV8 hVn
  have HV8 := Lib.hid hV8
  have HVN := Lib.hid hVn
  clear hV hV8 hVn
  have HR := Lib.hid (And.intro hr hb)
  have CC := fun W (hb' : Below w.heap.size w W) => cut_any A c l 300 W (hr.below hb') (by omega) hc (by omega) (by omega)
  obtain ⟨L, hL⟩ : ∃ L, L = l.take (300 : Int).toNat := ⟨_, rfl⟩
  have hLb : Bytes L := by rw [hL]; exact fun x hx => hb x (List.mem_of_mem_take hx)
  have hLl : L.length ≤ 300 := by rw [hL]; simp; omega
  rw [← hL] at CC
  have HCC := Lib.hid CC
  have HLB := Lib.hid hLb
  obtain ⟨X, hX⟩ : ∃ X : List Int, X = [48] ++ L := ⟨_, rfl⟩
  have HX := Lib.hid hX
  clear ht hr hb hn CC hL hLb hX
  go_enter Tryd.func3, Tryd.ntmps3
  go_wp2_with fail
  refine (awake5_any _ HT.out).mono ?_
  rintro e w1 ⟨rfl, b1⟩
  go_wp2_with fail
  refine (HCC.out _ b1).mono ?_
  rintro e w2 ⟨D, d, rfl, o2, b2⟩
  have z1 := b1.size
  have z2 := b2.size
  have B2 := Lib.hid (b1.trans (b2.mono z1))
  have O2 := Lib.hid (o2.base_le z1)
  have ba : Below w2.heap.size w2 (w2.alloc (.cells #[.int .u64 48, .int .u64 0, .int .u64 0, .int .u64 0, .int .u64 0, .bool false, .slice D L.length d, .slice none 0 0, .slice none 0 0] 28)) := (Below.refl _ _).alloc (Nat.le_refl _) _
  have KW := Lib.hid (Blk.new w2 28 #[.int .u64 48, .int .u64 0, .int .u64 0, .int .u64 0, .int .u64 0, .bool false, .slice D L.length d, .slice none 0 0, .slice none 0 0])
  have O3 := Lib.hid (O2.out.below ba)
  have B3 := Lib.hid (B2.out.trans (ba.mono (by omega)))
  obtain ⟨w3, hw3⟩ : ∃ w3, w3 = w2.alloc (.cells #[.int .u64 48, .int .u64 0, .int .u64 0, .int .u64 0, .int .u64 0, .bool false, .slice D L.length d, .slice none 0 0, .slice none 0 0] 28) := ⟨_, rfl⟩
  obtain ⟨gW, hgW⟩ : ∃ g, g = w2.heap.size := ⟨_, rfl⟩
  rw [← hw3, ← hgW] at KW
  rw [← hw3] at O3 B3
  have hz3 : w3.heap.size = w2.heap.size + 1 := by rw [hw3]; simp
  clear b1 b2 o2 O2 B2 ba HCC
  go_upto_region 6 with (at_builtin; go_must (refine wpList_appX rfl (.tmp 23) (.tmp 24) rfl w.heap.size (l := [48]) (news := L) (d := d) X HX.out rfl rfl (by rw [← hw3, ← hz3]; exact own_lit1 w3 48 B3.out.size) (by rw [← hw3]; exact (Rd.of_own O3.out).alloc _) (by simp; omega) (by rw [← hw3]; have := B3.out.size; simp; omega) ?_); intro A5 c5 w5 o5 g5 b5)
  rw [← hw3] at g5 b5
  rw [← hz3] at g5
  have KW5 := (KW.out.alloc (.cells #[.int .u8 48] 5)).grown g5 (by simp [Value.ownBlock]; omega)
  have O5D : Own w5 w.heap.size D d L := OwnV.apart (O3.out.below ((Below.refl _ _).alloc (Nat.le_refl _) _)) g5 (fun k hk he => by
    have := OwnV.row_lt O3.out hk
    simp [Value.ownBlock] at he
    omega)
  have B5 := Lib.hid ((B3.out.alloc B3.out.size (.cells #[.int .u8 48] 5)).trans b5)
  have HKW := Lib.hid KW5
  have HOD := Lib.hid O5D
  clear KW KW5 O5D O3 B3 g5 b5 o5 hw3
  have hgWw : w.heap.size ≤ gW := by omega
  rw [← hgW]
  clear hgW hz3
  have f0 := HKW.out.frozen 0
  have f1 := HKW.out.frozen 1
  have f2 := HKW.out.frozen 2
  have f3 := HKW.out.frozen 3
  have f4 := HKW.out.frozen 4
  have f5 := HKW.out.frozen 5
  have f6 := HKW.out.frozen 6
  have f7 := HKW.out.frozen 7
  have f8 := HKW.out.frozen 8
  have c0 := HKW.out.cell 0
  have c1 := HKW.out.cell 1
  have c2 := HKW.out.cell 2
  have c3 := HKW.out.cell 3
  have c4 := HKW.out.cell 4
  have c5 := HKW.out.cell 5
  have c6 := HKW.out.cell 6
  have c7 := HKW.out.cell 7
  have c8 := HKW.out.cell 8
  simp at c0 c1 c2 c3 c4 c5 c6 c7 c8
  go_wp2_with fail
  rename_i c5'
  obtain ⟨w6, hw6⟩ : ∃ w6, w6 = set9 w5 gW (.int .u64 8) (.int .u64 n1) (.int .u64 0) (.int .u64 0) (.int .u64 0) (.bool fin) (.slice D L.length d) (.slice none 0 0) (.slice none 0 0) := ⟨_, rfl⟩
  have K6 := set9_blk (show Blk w5 gW 28 #[.int .u64 48, .int .u64 0, .int .u64 0, .int .u64 0, .int .u64 0, .bool false, .slice D L.length d, .slice none 0 0, .slice none 0 0] from HKW.out) (.int .u64 8) (.int .u64 n1) (.int .u64 0) (.int .u64 0) (.int .u64 0) (.bool fin) (.slice D L.length d) (.slice none 0 0) (.slice none 0 0)
  have OD6 := own_gs HOD.out HKW.out (by decide) (@set9_only w5 gW (.int .u64 8) (.int .u64 n1) (.int .u64 0) (.int .u64 0) (.int .u64 0) (.bool fin) (.slice D L.length d) (.slice none 0 0) (.slice none 0 0))
  have B6 := below_gs B5.out (@set9_only w5 gW (.int .u64 8) (.int .u64 n1) (.int .u64 0) (.int .u64 0) (.int .u64 0) (.bool fin) (.slice D L.length d) (.slice none 0 0) (.slice none 0 0)) hgWw B5.out.size
  rw [← hw6] at K6 OD6 B6
  refine ((show Calls Tryd.prog 6 #[.int .u64 n1] (set9 w5 gW (.int .u64 8) (.int .u64 n1) (.int .u64 0) (.int .u64 0) (.int .u64 0) (.bool fin) (.slice D L.length d) (.slice none 0 0) (.slice none 0 0)) _ from by rw [← hw6]; exact HN.out w6)).mono ?_
  rintro e w7 ⟨A7, c7, rfl, o7, b7⟩
  have KW7 := Lib.hid (K6.below b7 K6.lt)
  have OD7 := Lib.hid (OD6.below b7)
  have B7 := Lib.hid (B6.trans (b7.mono B6.size))
  clear f0 f1 f2 f3 f4 f5 f6 f7 f8 c0 c1 c2 c3 c4 c5 c6 c8 K6 OD6 B6 b7 HKW HOD B5 hw6 HN
  rcases fin with _ | _
  · obtain ⟨Y, hY⟩ : ∃ Y : List Int, Y = [8] ++ V := ⟨_, rfl⟩
    obtain ⟨Z, hZ⟩ : ∃ Z : List Int, Z = Y ++ L := ⟨_, rfl⟩
    have hYl : Y.length ≤ 9 := by rw [hY]; have := HV8.out.2; simp; omega
    have hZl : Z.length ≤ 309 := by rw [hZ]; simp; omega
    have HY := Lib.hid hY
    have HZ := Lib.hid hZ
    have hkk : bits BinOp.or IntKind.u8 8 1 = 9 := by decide
    have KW8 := Lib.hid (KW7.out.alloc (.cells #[.int .u8 8] 5))
    have O8 := Lib.hid (OD7.out.below ((Below.refl _ _).alloc (Nat.le_refl _) (.cells #[.int .u8 8] 5)))
    have B8 := Lib.hid (B7.out.alloc B7.out.size (.cells #[.int .u8 8] 5))
    have V8 := Lib.hid ((Rd.of_own o7).alloc (.cells #[.int .u8 8] 5))
    clear hY hZ o7
    go_wp2_with (first
      | (at_builtin; refine wpList_appX2 rfl (.tmp 43) (.tmp 44) rfl w.heap.size (l := [8]) (news := V) (d := c7) Y HY.out rfl rfl (own_lit1 w7 8 B7.out.size) V8.out (by have := HV8.out.2; simp; omega) B8.out.size ?_; intro A9 c9 w9 o9 g9 b9 r9; have KW9 := Lib.hid (KW8.out.grown g9 (by have := KW7.out.lt; simp [Value.ownBlock]; omega)); have OD9 := Lib.hid (OwnV.apart O8.out g9 (fun k hk he => by have := OwnV.row_lt OD7.out hk; simp [Value.ownBlock] at he; omega)); have B9 := Lib.hid (B8.out.trans b9); have AP := Lib.hid (show ∀ k, (Value.slice D L.length d).ownBlock = some k → (Value.slice A9 Y.length c9).ownBlock ≠ some k from fun k hk he => by have h7 := OwnV.row_lt OD7.out hk; rcases r9 with r9 | r9 <;> (rw [r9] at he; simp [Value.ownBlock] at he; omega)); have O9 := Lib.hid o9; clear g9 b9 o9 r9)
      | (at_builtin; refine wpList_appX rfl (.tmp 45) (.tmp 46) rfl w.heap.size (l := Y) (news := L) (d := d) Z HZ.out rfl rfl O9.out (Rd.of_own OD9.out) (by omega) B9.out.size ?_; intro A10 c10 w10 o10 g10 b10))
    have KW10 := Lib.hid (KW9.out.grown g10 (own_ne9 O9.out KW9.out))
    have OD10 := Lib.hid (OwnV.apart OD9.out g10 (fun k hk he => AP.out k hk he))
    have B10 := Lib.hid (B9.out.trans b10)
    have hZe : Z = 8 :: (V ++ L) := by rw [HZ.out, HY.out]; simp
    have hZb : Bytes Z := by rw [hZe]; exact Bytes.cons (by omega) (by omega) (HV8.out.1.append HLB.out)
    have CR := Read_E 8 8 false ⟨.inl ⟨rfl, rfl, rfl⟩⟩ A10 c10 Z w10 (Sl.of_own o10) hZb (by omega) (V ++ L) L n1 (by rw [hZe]; exact num_byte 8 (by omega) (by omega) _) (by rw [hZe]; exact least_byte 8 (by omega) (by omega) _) (fun _ => HVN.out L) (fun h => by omega) (by omega) (by omega)
    have HCR := Lib.hid CR
    clear CR KW9 OD9 B9 AP O9 g10 b10 o10 hZb hZe HY HZ V8 O8 B8 KW8 KW7 OD7 B7
    go_wp2_with fail
    refine HCR.out.mono ?_
    rintro e w11 ⟨D6, d6, A6, c6', rfl, o6, oD6, b6⟩
    unfold FC
    have KW6 := KW10.out.below b6 KW10.out.lt
    have RD := (Rd.of_own OD10.out).below b6
    have B6 := B10.out.trans (b6.mono B10.out.size)
    have zW := KW6.lt
    have q0 := KW6.cell 0
    have q1 := KW6.cell 1
    have q2 := KW6.cell 2
    have q3 := KW6.cell 3
    have q4 := KW6.cell 4
    have q5 := KW6.cell 5
    have q6 := KW6.cell 6
    have q7 := KW6.cell 7
    have q8 := KW6.cell 8
    simp at q0 q1 q2 q3 q4 q5 q6 q7 q8
    have CS := sameF_yes 8 n1 0 0 0 false D6 L d6 none [] 0 none [] 0 D d none 0 none 0 (w11.alloc (.cells #[.int .u64 8, .int .u64 n1, .int .u64 0, .int .u64 0, .int .u64 0, .bool false, .slice D6 L.length d6, .slice none 0 0, .slice none 0 0] 28)) ((Rd.of_own oD6).alloc _) (Rd.nil _ _) (RdG.nil _ _) (RD.alloc _) (Rd.nil _ _) (RdG.nil _ _) HLB.out Bytes.nil (by simp)
    unfold FC at CS
    have HCS := Lib.hid CS
    have HB6 := Lib.hid (B6.alloc B6.size (.cells #[.int .u64 8, .int .u64 n1, .int .u64 0, .int .u64 0, .int .u64 0, .bool false, .slice D6 L.length d6, .slice none 0 0, .slice none 0 0] 28))
    clear CS KW6 RD B6 o6 oD6 b6 HCR KW10 OD10 B10
    go_wp2_with fail
    refine HCS.out.mono ?_
    rintro e w12 ⟨rfl, b7⟩
    have B12 := Lib.hid (HB6.out.trans (b7.mono HB6.out.size))
    clear b7 HB6 HCS q0 q1 q2 q3 q4 q5 q6 q7 q8
    go_wp2_with fail
    go_ret
    exact ⟨rfl, B12.out⟩
  · obtain ⟨Y, hY⟩ : ∃ Y : List Int, Y = [9] ++ V := ⟨_, rfl⟩
    obtain ⟨Z, hZ⟩ : ∃ Z : List Int, Z = Y ++ L := ⟨_, rfl⟩
    have hYl : Y.length ≤ 9 := by rw [hY]; have := HV8.out.2; simp; omega
    have hZl : Z.length ≤ 309 := by rw [hZ]; simp; omega
    have HY := Lib.hid hY
    have HZ := Lib.hid hZ
    have hkk : bits BinOp.or IntKind.u8 8 1 = 9 := by decide
    have KW8 := Lib.hid (KW7.out.alloc (.cells #[.int .u8 9] 5))
    have O8 := Lib.hid (OD7.out.below ((Below.refl _ _).alloc (Nat.le_refl _) (.cells #[.int .u8 9] 5)))
    have B8 := Lib.hid (B7.out.alloc B7.out.size (.cells #[.int .u8 9] 5))
    have V8 := Lib.hid ((Rd.of_own o7).alloc (.cells #[.int .u8 9] 5))
    clear hY hZ o7
    go_wp2_with (first
      | (at_builtin; refine wpList_appX2 rfl (.tmp 43) (.tmp 44) rfl w.heap.size (l := [9]) (news := V) (d := c7) Y HY.out rfl rfl (own_lit1 w7 9 B7.out.size) V8.out (by have := HV8.out.2; simp; omega) B8.out.size ?_; intro A9 c9 w9 o9 g9 b9 r9; have KW9 := Lib.hid (KW8.out.grown g9 (by have := KW7.out.lt; simp [Value.ownBlock]; omega)); have OD9 := Lib.hid (OwnV.apart O8.out g9 (fun k hk he => by have := OwnV.row_lt OD7.out hk; simp [Value.ownBlock] at he; omega)); have B9 := Lib.hid (B8.out.trans b9); have AP := Lib.hid (show ∀ k, (Value.slice D L.length d).ownBlock = some k → (Value.slice A9 Y.length c9).ownBlock ≠ some k from fun k hk he => by have h7 := OwnV.row_lt OD7.out hk; rcases r9 with r9 | r9 <;> (rw [r9] at he; simp [Value.ownBlock] at he; omega)); have O9 := Lib.hid o9; clear g9 b9 o9 r9)
      | (at_builtin; refine wpList_appX rfl (.tmp 45) (.tmp 46) rfl w.heap.size (l := Y) (news := L) (d := d) Z HZ.out rfl rfl O9.out (Rd.of_own OD9.out) (by omega) B9.out.size ?_; intro A10 c10 w10 o10 g10 b10))
    have KW10 := Lib.hid (KW9.out.grown g10 (own_ne9 O9.out KW9.out))
    have OD10 := Lib.hid (OwnV.apart OD9.out g10 (fun k hk he => AP.out k hk he))
    have B10 := Lib.hid (B9.out.trans b10)
    have hZe : Z = 9 :: (V ++ L) := by rw [HZ.out, HY.out]; simp
    have hZb : Bytes Z := by rw [hZe]; exact Bytes.cons (by omega) (by omega) (HV8.out.1.append HLB.out)
    have CR := Read_E 8 9 true ⟨.inr (.inl ⟨rfl, rfl, rfl⟩)⟩ A10 c10 Z w10 (Sl.of_own o10) hZb (by omega) (V ++ L) L n1 (by rw [hZe]; exact num_byte 9 (by omega) (by omega) _) (by rw [hZe]; exact least_byte 9 (by omega) (by omega) _) (fun _ => HVN.out L) (fun h => by omega) (by omega) (by omega)
    have HCR := Lib.hid CR
    clear CR KW9 OD9 B9 AP O9 g10 b10 o10 hZb hZe HY HZ V8 O8 B8 KW8 KW7 OD7 B7
    go_wp2_with fail
    refine HCR.out.mono ?_
    rintro e w11 ⟨D6, d6, A6, c6', rfl, o6, oD6, b6⟩
    unfold FC
    have KW6 := KW10.out.below b6 KW10.out.lt
    have RD := (Rd.of_own OD10.out).below b6
    have B6 := B10.out.trans (b6.mono B10.out.size)
    have zW := KW6.lt
    have q0 := KW6.cell 0
    have q1 := KW6.cell 1
    have q2 := KW6.cell 2
    have q3 := KW6.cell 3
    have q4 := KW6.cell 4
    have q5 := KW6.cell 5
    have q6 := KW6.cell 6
    have q7 := KW6.cell 7
    have q8 := KW6.cell 8
    simp at q0 q1 q2 q3 q4 q5 q6 q7 q8
    have CS := sameF_yes 8 n1 0 0 0 true D6 L d6 none [] 0 none [] 0 D d none 0 none 0 (w11.alloc (.cells #[.int .u64 8, .int .u64 n1, .int .u64 0, .int .u64 0, .int .u64 0, .bool true, .slice D6 L.length d6, .slice none 0 0, .slice none 0 0] 28)) ((Rd.of_own oD6).alloc _) (Rd.nil _ _) (RdG.nil _ _) (RD.alloc _) (Rd.nil _ _) (RdG.nil _ _) HLB.out Bytes.nil (by simp)
    unfold FC at CS
    have HCS := Lib.hid CS
    have HB6 := Lib.hid (B6.alloc B6.size (.cells #[.int .u64 8, .int .u64 n1, .int .u64 0, .int .u64 0, .int .u64 0, .bool true, .slice D6 L.length d6, .slice none 0 0, .slice none 0 0] 28))
    clear CS KW6 RD B6 o6 oD6 b6 HCR KW10 OD10 B10
    go_wp2_with fail
    refine HCS.out.mono ?_
    rintro e w12 ⟨rfl, b7⟩
    have B12 := Lib.hid (HB6.out.trans (b7.mono HB6.out.size))
    clear b7 HB6 HCS q0 q1 q2 q3 q4 q5 q6 q7 q8
    go_wp2_with fail
    go_ret
    exact ⟨rfl, B12.out⟩
theorem ends_walk (id : Int) (A : Option Addr) (c : Nat) (l : List Int) (fin gram : Bool) (w : World) (ht : Tab w) (w0 : (Lit.int .u64 id).wf = true) (hr : Rd w A l) (hb : Bytes l) (hc : l.length ≤ c) (hm : c ≤ 9223372036854775807) (hn : A = none → c = 0) :
    Calls Tryd.prog 3 #[.int .u64 id, .slice A l.length c, .bool fin, .bool gram] w fun r w' => r = .returned (.bool true) ∧ Below w.heap.size w w' := by
  rcases gram with _ | _
  · exact ends_strm id A c l fin w ht w0 hr hb hc hm hn
  · exact ends_gram id A c l fin w ht w0 hr hb hc hm hn
end Go.Proofs.YtfimngmpkckcdaaDoor
