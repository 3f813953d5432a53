/-
  FrameLoose.
-/
import Derived.Test.YtaknjfdelbgjgaaDoorFrameM
import Derived.Test.YtaknjfdelbgjgaaDoorFrameE
import Derived.Test.YtaknjfdelbgjgaaDoorVintG
import Derived.Test.YtaknjfdelbgjgaaDoorOpenArr
namespace Go.Proofs.YtaknjfdelbgjgaaDoor
open Go.RowKit
set_option linter.unusedVariables false

/-- The size that is taken: a power of two that suffices. -/
theorem pick_size (n s : Int) (h0 : 0 ≤ n) (hn : n < 4611686018427387904) (hs : s = 1 ∨ s = 2 ∨ s = 4 ∨ s = 8) : ∃ (k : Nat) (b t : Int), IsSize k k b t ∧ n < b ∧ (k : Int) = max (vsize n) s := by
  unfold IsSize
  have hv : (vsize n = 1 ∧ n < 64) ∨ (vsize n = 2 ∧ n < 16384) ∨ (vsize n = 4 ∧ n < 1073741824) ∨ vsize n = 8 := by
    unfold vsize
    split
    · exact .inl ⟨rfl, by assumption⟩
    · split
      · exact .inr (.inl ⟨rfl, by assumption⟩)
      · split
        · exact .inr (.inr (.inl ⟨rfl, by assumption⟩))
        · exact .inr (.inr (.inr rfl))
  have hm : max (vsize n) s = 1 ∧ n < 64 ∨ max (vsize n) s = 2 ∧ n < 16384 ∨ max (vsize n) s = 4 ∧ n < 1073741824 ∨ max (vsize n) s = 8 := by omega
  rcases hm with ⟨h, h'⟩ | ⟨h, h'⟩ | ⟨h, h'⟩ | h
  · exact ⟨1, 64, 0, by simp, h', by omega⟩
  · exact ⟨2, 16384, 1, by simp, h', by omega⟩
  · exact ⟨4, 1073741824, 2, by simp, h', by omega⟩
  · exact ⟨8, 4611686018427387904, 3, by simp, hn, by omega⟩
theorem vsize_ways (n : Int) : vsize n = 1 ∨ vsize n = 2 ∨ vsize n = 4 ∨ vsize n = 8 ∨ vsize n = 0 := by
  unfold vsize
  (repeat' split) <;> simp
theorem index3 (a b c : Int) (j : Int) (x : Int) (hj : j = 0 ∧ x = a ∨ j = 1 ∧ x = b ∨ j = 2 ∧ x = c) (w : World) : (Instr.index 26 (.agg #[.int .u64 a, .int .u64 b, .int .u64 c]) (.int .i64 j)).run Tryd.prog w = .ok (.int .u64 x) w := by
  have hs : (Tryd.prog.info? 22).map (·.size) = some 1 := by kernel_rfl
  obtain ⟨i, hi⟩ : ∃ i, Tryd.prog.info? 22 = some i := by
    cases h : Tryd.prog.info? 22 with
    | none => rw [h] at hs; cases hs
    | some i => exact ⟨i, rfl⟩
  have hsz : i.size = 1 := by rw [hi] at hs; injection hs
  rcases hj with ⟨rfl, rfl⟩ | ⟨rfl, rfl⟩ | ⟨rfl, rfl⟩ <;> simp [Instr.index, asIntOf, run_underlying Tryd.underlying26, part, sizeOf, typeInfo, hi, hsz]
theorem own_ne {W : World} {base c g : Nat} {A : Option Addr} {P : List Int} {T : TypeId} {cs : Array Value} (h : Own W base A c P) (k : Blk W g T cs) (hT : 5 ≠ T) : some g ≠ (Value.slice A P.length c).ownBlock := fun e => OwnV.other (show OwnV W base 5 1 A c P.length (U8 P) from h) hT g cs k e.symm
theorem num_wenc {n b t : Int} {k : Nat} (hs : IsSize k k b t) (h0 : 0 ≤ n) (hn : n < b) (bh : List Int) : numL (wenc n k ++ bh) 0 = bh ∧ numE (wenc n k ++ bh) 0 = 0 ∧ numN (wenc n k ++ bh) 0 = n := by
  have e := rdS_wenc hs h0 hn bh
  have hk : k ≠ 0 := by rcases hs with ⟨_, h, _⟩ | ⟨_, h, _⟩ | ⟨_, h, _⟩ | ⟨_, h, _⟩ <;> omega
  refine ⟨?_, ?_, ?_⟩
  · rw [numL, if_pos rfl, e]; exact drop_wenc hs bh
  · rw [numE, if_neg (by rw [e]; simp [hk])]
  · rw [numN, if_pos ⟨rfl, by rw [e]; exact hk⟩]; exact rdN_wenc hs h0 hn bh
theorem num_4 (bh : List Int) : numL (4 :: bh) 0 = bh ∧ numE (4 :: bh) 0 = 0 ∧ numN (4 :: bh) 0 = 4 := by
  have h := num_wenc (n := 4) (k := 1) (b := 64) (t := 0) (.inl ⟨rfl, rfl, rfl, rfl⟩) (by omega) (by omega) bh
  exact h
theorem least_4 (bh : List Int) : vleast (4 :: bh) = true := by
  have e := rdS_wenc (n := 4) (k := 1) (b := 64) (t := 0) (.inl ⟨rfl, rfl, rfl, rfl⟩) (by omega) (by omega) bh
  have e2 := rdN_wenc (n := 4) (k := 1) (b := 64) (t := 0) (.inl ⟨rfl, rfl, rfl, rfl⟩) (by omega) (by omega) bh
  have ew : wenc 4 1 ++ bh = 4 :: bh := rfl
  rw [ew] at e e2
  unfold vleast
  rw [e, e2]
  decide
/-- The bytes so far, and the round. -/
def Lo (base : Nat) (E0 E1 E2 : List Int) (i p : Value) (wr : World) : Prop :=
  ∃ (A : Option Addr) (c : Nat) (P : List Int), p = .slice A P.length c ∧ Own wr base A c P ∧ ((i = .int .i64 0 ∧ P = [4]) ∨ (i = .int .i64 1 ∧ P = [4] ++ E0) ∨ (i = .int .i64 2 ∧ P = [4] ++ E0 ++ E1) ∨ (i = .int .i64 3 ∧ P = [4] ++ E0 ++ E1 ++ E2))
set_option maxRecDepth 100000 in
set_option maxHeartbeats 6400000 in
theorem loose_walk (id code off : Int) (sz : List Int) (w : World) (ht : Tab w) (w0 : (Lit.int .u64 id).wf = true) (w1 : (Lit.int .u64 code).wf = true) (w2 : (Lit.int .u64 off).wf = true) (hsl : sz.length = 3) (hsb : Bytes sz) :
    Calls Tryd.prog 3 #[.int .u64 id, .int .u64 code, .int .u64 off, .agg (IV .u8 sz).toArray] w fun r w' => r = .returned (.bool true) ∧ Below w.heap.size w w' := by
  obtain ⟨s0, s1, s2, rfl⟩ : ∃ a b c, sz = [a, b, c] := by
    match sz, hsl with
    | [a, b, c], _ => exact ⟨a, b, c, rfl⟩
  have x0 := hsb s0 (by simp)
  have x1 := hsb s1 (by simp)
  have x2 := hsb s2 (by simp)
  have i0 := wf_u64 w0
  have i1 := wf_u64 w1
  have i2 := wf_u64 w2
  have HT := Lib.hid ht
  obtain ⟨n0, e0⟩ : ∃ n, id % 4611686018427387904 = n := ⟨_, rfl⟩
  obtain ⟨n1, e1⟩ : ∃ n, code % 4611686018427387904 = n := ⟨_, rfl⟩
  obtain ⟨n2, e2⟩ : ∃ n, off % 4611686018427387904 = n := ⟨_, rfl⟩
  have y0 : 0 ≤ n0 ∧ n0 < 4611686018427387904 := by omega
  have y1 : 0 ≤ n1 ∧ n1 < 4611686018427387904 := by omega
  have y2 : 0 ≤ n2 ∧ n2 < 4611686018427387904 := by omega
  obtain ⟨m0, hm0⟩ : ∃ m : Int, m = (if s0 % 4 = 0 then 1 else if s0 % 4 = 1 then 2 else if s0 % 4 = 2 then 4 else 8) := ⟨_, rfl⟩
  obtain ⟨m1, hm1⟩ : ∃ m : Int, m = (if s1 % 4 = 0 then 1 else if s1 % 4 = 1 then 2 else if s1 % 4 = 2 then 4 else 8) := ⟨_, rfl⟩
  obtain ⟨m2, hm2⟩ : ∃ m : Int, m = (if s2 % 4 = 0 then 1 else if s2 % 4 = 1 then 2 else if s2 % 4 = 2 then 4 else 8) := ⟨_, rfl⟩
  obtain ⟨k0, b0, t0, S0, nb0, hk0⟩ := pick_size n0 m0 y0.1 y0.2 (by omega)
  obtain ⟨k1, b1, t1, S1, nb1, hk1⟩ := pick_size n1 m1 y1.1 y1.2 (by omega)
  obtain ⟨k2, b2, t2, S2, nb2, hk2⟩ := pick_size n2 m2 y2.1 y2.2 (by omega)
  have HM := Lib.hid (And.intro hm0 (And.intro hm1 hm2))
  have HK := Lib.hid (And.intro hk0 (And.intro hk1 hk2))
  have HS0 := Lib.hid (And.intro S0 nb0)
  have HS1 := Lib.hid (And.intro S1 nb1)
  have HS2 := Lib.hid (And.intro S2 nb2)
  have HY := Lib.hid (And.intro y0 (And.intro y1 y2))
  have z0 := y0.1
  have z1 := y1.1
  have z2 := y2.1
  have l0 : (wenc n0 k0).length ≤ 8 := by unfold IsSize at S0; rw [wenc_length _ _ (by omega)]; omega
  have l1 : (wenc n1 k1).length ≤ 8 := by unfold IsSize at S1; rw [wenc_length _ _ (by omega)]; omega
  have l2 : (wenc n2 k2).length ≤ 8 := by unfold IsSize at S2; rw [wenc_length _ _ (by omega)]; omega
  have HLL := Lib.hid (And.intro l0 (And.intro l1 l2))
  clear hm0 hm1 hm2 hk0 hk1 hk2 S0 S1 S2 nb0 nb1 nb2 y0 y1 y2 l0 l1 l2
  show Calls _ _ #[.int .u64 id, .int .u64 code, .int .u64 off, .agg #[.int .u8 s0, .int .u8 s1, .int .u8 s2]] _ _
  clear hsl hsb ht w0 w1 w2
  go_enter Tryd.func3, Tryd.ntmps3
  go_wp2_with fail
  have ba : Below w.heap.size w (w.alloc (.cells #[.int .u8 s0, .int .u8 s1, .int .u8 s2] 23)) := (Below.refl _ _).alloc (Nat.le_refl _) _
  have KS : Blk (w.alloc (.cells #[.int .u8 s0, .int .u8 s1, .int .u8 s2] 23)) w.heap.size 23 #[.int .u8 s0, .int .u8 s1, .int .u8 s2] := Blk.new w _ _
  obtain ⟨gS, hgS⟩ : ∃ g, g = w.heap.size := ⟨_, rfl⟩
  rw [← hgS] at KS
  rw [show w.heap.size = gS from hgS.symm]
  have hgS' : w.heap.size ≤ gS := by omega
  clear hgS
  generalize (w.alloc (.cells #[.int .u8 s0, .int .u8 s1, .int .u8 s2] 23)) = wa at ba KS ⊢
  refine (awake5_any _ (HT.out.below ba)).mono ?_
  rintro e wb ⟨rfl, bb⟩
  have KS1 := KS.below bb KS.lt
  have BL := ba.trans (bb.mono ba.size)
  clear KS ba bb
  go_wp2_with fail
  have KP : Blk ((wb.alloc (.cells #[.int .u8 4] 5)).alloc (.cells #[.int .u64 n0, .int .u64 n1, .int .u64 n2] 26)) wb.heap.size 5 #[.int .u8 4] := (Blk.new wb _ _).alloc _
  have KL : Blk ((wb.alloc (.cells #[.int .u8 4] 5)).alloc (.cells #[.int .u64 n0, .int .u64 n1, .int .u64 n2] 26)) (wb.heap.size + 1) 26 #[.int .u64 n0, .int .u64 n1, .int .u64 n2] := by
    have := Blk.new (wb.alloc (.cells #[.int .u8 4] 5)) 26 #[.int .u64 n0, .int .u64 n1, .int .u64 n2]
    simpa using this
  have KS := (KS1.alloc (.cells #[.int .u8 4] 5)).alloc (.cells #[.int .u64 n0, .int .u64 n1, .int .u64 n2] 26)
  have BL2 : Below w.heap.size w ((wb.alloc (.cells #[.int .u8 4] 5)).alloc (.cells #[.int .u64 n0, .int .u64 n1, .int .u64 n2] 26)) := (BL.alloc BL.size _).alloc (by have := BL.size; simp; omega) _
  obtain ⟨gL, hgL⟩ : ∃ g, g = wb.heap.size + 1 := ⟨_, rfl⟩
  obtain ⟨gP, hgP⟩ : ∃ g, g = wb.heap.size := ⟨_, rfl⟩
  rw [← hgL] at KL
  rw [← hgP] at KP
  have hPP : w.heap.size ≤ gP := by have := BL.size; omega
  rw [show wb.heap.size + 1 = gL from hgL.symm, show wb.heap.size = gP from hgP.symm]
  have own : Own ((wb.alloc (.cells #[.int .u8 4] 5)).alloc (.cells #[.int .u64 n0, .int .u64 n1, .int .u64 n2] 26)) w.heap.size (some ⟨gP, 0, none⟩) 1 [4] := Own.new (l := [4]) KP hPP (by decide)
  clear hgL hgP KS1 BL KP
  generalize ((wb.alloc (.cells #[.int .u8 4] 5)).alloc (.cells #[.int .u64 n0, .int .u64 n1, .int .u64 n2] 26)) = wc at KL KS BL2 own ⊢
  clear e0 e1 e2
  go_loopw [30, 9] (fun i p wr => Lo w.heap.size (wenc n0 k0) (wenc n1 k1) (wenc n2 k2) i p wr ∧ Blk wr gS 23 #[.int .u8 s0, .int .u8 s1, .int .u8 s2] ∧ Blk wr gL 26 #[.int .u64 n0, .int .u64 n1, .int .u64 n2] ∧ Below w.heap.size w wr) (fun i _ _ => 3 - (intOf i).toNat)
  case atStart => exact ⟨⟨_, _, [4], rfl, own, .inl ⟨rfl, rfl⟩⟩, KS, KL, BL2⟩
  case round =>
    clear own KS KL BL2
    obtain ⟨⟨A, c, P, rfl, own, hway⟩, KS, KL, BL⟩ := hrel
    rcases hway with ⟨rfl, hP⟩ | ⟨rfl, hP⟩ | ⟨rfl, hP⟩ | ⟨rfl, hP⟩
    · have IX := index3 n0 n1 n2 0 n0 (by simp)
      have c0 := KS.cell 0
      simp at c0
      have hx0 : (0 : Int) ≤ s0 := x0.1
      obtain ⟨V, hV⟩ : ∃ V, vsize n0 = V := ⟨_, rfl⟩
      have CS := fun W => refSize_any n0 W z0
      rw [hV] at CS
      have hkV := HK.out.1
      rw [hV] at hkV
      have hVV : V = 1 ∨ V = 2 ∨ V = 4 ∨ V = 8 ∨ V = 0 := by rw [← hV]; exact vsize_ways n0
      have CW := fun W => refWide_ok n0 k0 k0 b0 t0 W HS0.out.1 z0 HS0.out.2
      obtain ⟨E, hE⟩ : ∃ E, E = wenc n0 k0 := ⟨_, rfl⟩
      rw [← hE] at CW
      have hEl : E.length ≤ 8 := by
        rw [hE]
        have := HS0.out.1
        unfold IsSize at this
        rw [wenc_length _ _ (by omega)]
        omega
      have HCS := Lib.hid CS
      have HCW := Lib.hid CW
      have HO := Lib.hid own
      have HKS := Lib.hid KS
      have HKL := Lib.hid KL
      have HBL := Lib.hid BL
      have HE := Lib.hid hE
      have hmj := HM.out.1
      have hPl : P.length ≤ 17 := by rw [hP]; have := HLL.out; simp; try omega
      obtain ⟨X, hX⟩ : ∃ X, X = P ++ E := ⟨_, rfl⟩
      have HX := Lib.hid hX
      have HP := Lib.hid hP
      clear CS CW own KS KL BL hE hV hP hX
      rcases (show s0 % 4 = 0 ∨ s0 % 4 = 1 ∨ s0 % 4 = 2 ∨ s0 % 4 = 3 by omega) with hq | hq | hq | hq
      · have hm : m0 = 1 := by rw [hmj, hq]; decide
        have Z1 : (if V < 1 then (1 : Int) else V) = (k0 : Int) := by rw [hkV, hm]; split <;> omega
        have Z2 : (if 1 < V then V else (1 : Int)) = (k0 : Int) := by rw [hkV, hm]; split <;> omega
        have Z3 : max V 1 = (k0 : Int) := by rw [hkV, hm]
        clear hmj hkV hm hVV
        go_wp2_with fail
        go_quiet ((go_at_call 6; exact Calls.quiet_of_same ((HCS.out _).mono fun _ _ h => ⟨h.1, h.2.symm⟩)))
        go_wp2_with fail
        refine (HCW.out _).mono ?_
        rintro e w9 ⟨A9, c9, rfl, ow, bw⟩
        have own9 := Own.below (show Own (wr.drewN nq) w.heap.size A c P from HO.out) bw
        have KS9 := Blk.below (show Blk (wr.drewN nq) gS _ _ from HKS.out) bw HKS.out.lt
        have KL9 := Blk.below (show Blk (wr.drewN nq) gL _ _ from HKL.out) bw HKL.out.lt
        have BL9 := (below_dN HBL.out nq).trans (bw.mono HBL.out.size)
        have HO9 := Lib.hid own9
        have HKS9 := Lib.hid KS9
        have HKL9 := Lib.hid KL9
        have HBL9 := Lib.hid BL9
        have HOW := Lib.hid ow
        clear own9 KS9 KL9 BL9 ow bw Z1 Z2 Z3 HO HKS HKL HBL IX c0 hq
        go_wp2_with (at_builtin; go_must (refine wpList_appX rfl (.tmp 50) (.tmp 51) rfl w.heap.size (l := P) (news := E) (d := c9) X HX.out rfl rfl HO9.out (Rd.of_own HOW.out) (by omega) HBL9.out.size ?_); intro A2 c2 w10 own2 hg hb)
        go_roundw
        case rel =>
          have RR : Lo w.heap.size (wenc n0 k0) (wenc n1 k1) (wenc n2 k2) (.int .i64 (0 + 1)) (.slice A2 X.length c2) w10 := ⟨A2, c2, X, rfl, own2, .inr (.inl ⟨rfl, by rw [HX.out, HP.out, HE.out]⟩)⟩
          exact ⟨RR, HKS9.out.grown hg (own_ne HO9.out HKS9.out (by decide)), HKL9.out.grown hg (own_ne HO9.out HKL9.out (by decide)), HBL9.out.trans hb⟩
        case measure => simp [intOf]
      · have hm : m0 = 2 := by rw [hmj, hq]; decide
        have Z1 : (if V < 2 then (2 : Int) else V) = (k0 : Int) := by rw [hkV, hm]; split <;> omega
        have Z2 : (if 2 < V then V else (2 : Int)) = (k0 : Int) := by rw [hkV, hm]; split <;> omega
        have Z3 : max V 2 = (k0 : Int) := by rw [hkV, hm]
        clear hmj hkV hm hVV
        go_wp2_with fail
        go_quiet ((go_at_call 6; exact Calls.quiet_of_same ((HCS.out _).mono fun _ _ h => ⟨h.1, h.2.symm⟩)))
        go_wp2_with fail
        refine (HCW.out _).mono ?_
        rintro e w9 ⟨A9, c9, rfl, ow, bw⟩
        have own9 := Own.below (show Own (wr.drewN nq) w.heap.size A c P from HO.out) bw
        have KS9 := Blk.below (show Blk (wr.drewN nq) gS _ _ from HKS.out) bw HKS.out.lt
        have KL9 := Blk.below (show Blk (wr.drewN nq) gL _ _ from HKL.out) bw HKL.out.lt
        have BL9 := (below_dN HBL.out nq).trans (bw.mono HBL.out.size)
        have HO9 := Lib.hid own9
        have HKS9 := Lib.hid KS9
        have HKL9 := Lib.hid KL9
        have HBL9 := Lib.hid BL9
        have HOW := Lib.hid ow
        clear own9 KS9 KL9 BL9 ow bw Z1 Z2 Z3 HO HKS HKL HBL IX c0 hq
        go_wp2_with (at_builtin; go_must (refine wpList_appX rfl (.tmp 50) (.tmp 51) rfl w.heap.size (l := P) (news := E) (d := c9) X HX.out rfl rfl HO9.out (Rd.of_own HOW.out) (by omega) HBL9.out.size ?_); intro A2 c2 w10 own2 hg hb)
        go_roundw
        case rel =>
          have RR : Lo w.heap.size (wenc n0 k0) (wenc n1 k1) (wenc n2 k2) (.int .i64 (0 + 1)) (.slice A2 X.length c2) w10 := ⟨A2, c2, X, rfl, own2, .inr (.inl ⟨rfl, by rw [HX.out, HP.out, HE.out]⟩)⟩
          exact ⟨RR, HKS9.out.grown hg (own_ne HO9.out HKS9.out (by decide)), HKL9.out.grown hg (own_ne HO9.out HKL9.out (by decide)), HBL9.out.trans hb⟩
        case measure => simp [intOf]
      · have hm : m0 = 4 := by rw [hmj, hq]; decide
        have Z1 : (if V < 4 then (4 : Int) else V) = (k0 : Int) := by rw [hkV, hm]; split <;> omega
        have Z2 : (if 4 < V then V else (4 : Int)) = (k0 : Int) := by rw [hkV, hm]; split <;> omega
        have Z3 : max V 4 = (k0 : Int) := by rw [hkV, hm]
        clear hmj hkV hm hVV
        go_wp2_with fail
        go_quiet ((go_at_call 6; exact Calls.quiet_of_same ((HCS.out _).mono fun _ _ h => ⟨h.1, h.2.symm⟩)))
        go_wp2_with fail
        refine (HCW.out _).mono ?_
        rintro e w9 ⟨A9, c9, rfl, ow, bw⟩
        have own9 := Own.below (show Own (wr.drewN nq) w.heap.size A c P from HO.out) bw
        have KS9 := Blk.below (show Blk (wr.drewN nq) gS _ _ from HKS.out) bw HKS.out.lt
        have KL9 := Blk.below (show Blk (wr.drewN nq) gL _ _ from HKL.out) bw HKL.out.lt
        have BL9 := (below_dN HBL.out nq).trans (bw.mono HBL.out.size)
        have HO9 := Lib.hid own9
        have HKS9 := Lib.hid KS9
        have HKL9 := Lib.hid KL9
        have HBL9 := Lib.hid BL9
        have HOW := Lib.hid ow
        clear own9 KS9 KL9 BL9 ow bw Z1 Z2 Z3 HO HKS HKL HBL IX c0 hq
        go_wp2_with (at_builtin; go_must (refine wpList_appX rfl (.tmp 50) (.tmp 51) rfl w.heap.size (l := P) (news := E) (d := c9) X HX.out rfl rfl HO9.out (Rd.of_own HOW.out) (by omega) HBL9.out.size ?_); intro A2 c2 w10 own2 hg hb)
        go_roundw
        case rel =>
          have RR : Lo w.heap.size (wenc n0 k0) (wenc n1 k1) (wenc n2 k2) (.int .i64 (0 + 1)) (.slice A2 X.length c2) w10 := ⟨A2, c2, X, rfl, own2, .inr (.inl ⟨rfl, by rw [HX.out, HP.out, HE.out]⟩)⟩
          exact ⟨RR, HKS9.out.grown hg (own_ne HO9.out HKS9.out (by decide)), HKL9.out.grown hg (own_ne HO9.out HKL9.out (by decide)), HBL9.out.trans hb⟩
        case measure => simp [intOf]
      · have hm : m0 = 8 := by rw [hmj, hq]; decide
        have Z1 : (if V < 8 then (8 : Int) else V) = (k0 : Int) := by rw [hkV, hm]; split <;> omega
        have Z2 : (if 8 < V then V else (8 : Int)) = (k0 : Int) := by rw [hkV, hm]; split <;> omega
        have Z3 : max V 8 = (k0 : Int) := by rw [hkV, hm]
        clear hmj hkV hm hVV
        go_wp2_with fail
        go_quiet ((go_at_call 6; exact Calls.quiet_of_same ((HCS.out _).mono fun _ _ h => ⟨h.1, h.2.symm⟩)))
        go_wp2_with fail
        refine (HCW.out _).mono ?_
        rintro e w9 ⟨A9, c9, rfl, ow, bw⟩
        have own9 := Own.below (show Own (wr.drewN nq) w.heap.size A c P from HO.out) bw
        have KS9 := Blk.below (show Blk (wr.drewN nq) gS _ _ from HKS.out) bw HKS.out.lt
        have KL9 := Blk.below (show Blk (wr.drewN nq) gL _ _ from HKL.out) bw HKL.out.lt
        have BL9 := (below_dN HBL.out nq).trans (bw.mono HBL.out.size)
        have HO9 := Lib.hid own9
        have HKS9 := Lib.hid KS9
        have HKL9 := Lib.hid KL9
        have HBL9 := Lib.hid BL9
        have HOW := Lib.hid ow
        clear own9 KS9 KL9 BL9 ow bw Z1 Z2 Z3 HO HKS HKL HBL IX c0 hq
        go_wp2_with (at_builtin; go_must (refine wpList_appX rfl (.tmp 50) (.tmp 51) rfl w.heap.size (l := P) (news := E) (d := c9) X HX.out rfl rfl HO9.out (Rd.of_own HOW.out) (by omega) HBL9.out.size ?_); intro A2 c2 w10 own2 hg hb)
        go_roundw
        case rel =>
          have RR : Lo w.heap.size (wenc n0 k0) (wenc n1 k1) (wenc n2 k2) (.int .i64 (0 + 1)) (.slice A2 X.length c2) w10 := ⟨A2, c2, X, rfl, own2, .inr (.inl ⟨rfl, by rw [HX.out, HP.out, HE.out]⟩)⟩
          exact ⟨RR, HKS9.out.grown hg (own_ne HO9.out HKS9.out (by decide)), HKL9.out.grown hg (own_ne HO9.out HKL9.out (by decide)), HBL9.out.trans hb⟩
        case measure => simp [intOf]
    · have IX := index3 n0 n1 n2 1 n1 (by simp)
      have c1 := KS.cell 1
      simp at c1
      have hx0 : (0 : Int) ≤ s1 := x1.1
      obtain ⟨V, hV⟩ : ∃ V, vsize n1 = V := ⟨_, rfl⟩
      have CS := fun W => refSize_any n1 W z1
      rw [hV] at CS
      have hkV := HK.out.2.1
      rw [hV] at hkV
      have hVV : V = 1 ∨ V = 2 ∨ V = 4 ∨ V = 8 ∨ V = 0 := by rw [← hV]; exact vsize_ways n1
      have CW := fun W => refWide_ok n1 k1 k1 b1 t1 W HS1.out.1 z1 HS1.out.2
      obtain ⟨E, hE⟩ : ∃ E, E = wenc n1 k1 := ⟨_, rfl⟩
      rw [← hE] at CW
      have hEl : E.length ≤ 8 := by
        rw [hE]
        have := HS1.out.1
        unfold IsSize at this
        rw [wenc_length _ _ (by omega)]
        omega
      have HCS := Lib.hid CS
      have HCW := Lib.hid CW
      have HO := Lib.hid own
      have HKS := Lib.hid KS
      have HKL := Lib.hid KL
      have HBL := Lib.hid BL
      have HE := Lib.hid hE
      have hmj := HM.out.2.1
      have hPl : P.length ≤ 17 := by rw [hP]; have := HLL.out; simp; try omega
      obtain ⟨X, hX⟩ : ∃ X, X = P ++ E := ⟨_, rfl⟩
      have HX := Lib.hid hX
      have HP := Lib.hid hP
      clear CS CW own KS KL BL hE hV hP hX
      rcases (show s1 % 4 = 0 ∨ s1 % 4 = 1 ∨ s1 % 4 = 2 ∨ s1 % 4 = 3 by omega) with hq | hq | hq | hq
      · have hm : m1 = 1 := by rw [hmj, hq]; decide
        have Z1 : (if V < 1 then (1 : Int) else V) = (k1 : Int) := by rw [hkV, hm]; split <;> omega
        have Z2 : (if 1 < V then V else (1 : Int)) = (k1 : Int) := by rw [hkV, hm]; split <;> omega
        have Z3 : max V 1 = (k1 : Int) := by rw [hkV, hm]
        clear hmj hkV hm hVV
        go_wp2_with fail
        go_quiet ((go_at_call 6; exact Calls.quiet_of_same ((HCS.out _).mono fun _ _ h => ⟨h.1, h.2.symm⟩)))
        go_wp2_with fail
        refine (HCW.out _).mono ?_
        rintro e w9 ⟨A9, c9, rfl, ow, bw⟩
        have own9 := Own.below (show Own (wr.drewN nq) w.heap.size A c P from HO.out) bw
        have KS9 := Blk.below (show Blk (wr.drewN nq) gS _ _ from HKS.out) bw HKS.out.lt
        have KL9 := Blk.below (show Blk (wr.drewN nq) gL _ _ from HKL.out) bw HKL.out.lt
        have BL9 := (below_dN HBL.out nq).trans (bw.mono HBL.out.size)
        have HO9 := Lib.hid own9
        have HKS9 := Lib.hid KS9
        have HKL9 := Lib.hid KL9
        have HBL9 := Lib.hid BL9
        have HOW := Lib.hid ow
        clear own9 KS9 KL9 BL9 ow bw Z1 Z2 Z3 HO HKS HKL HBL IX c1 hq
        go_wp2_with (at_builtin; go_must (refine wpList_appX rfl (.tmp 50) (.tmp 51) rfl w.heap.size (l := P) (news := E) (d := c9) X HX.out rfl rfl HO9.out (Rd.of_own HOW.out) (by omega) HBL9.out.size ?_); intro A2 c2 w10 own2 hg hb)
        go_roundw
        case rel =>
          have RR : Lo w.heap.size (wenc n0 k0) (wenc n1 k1) (wenc n2 k2) (.int .i64 (1 + 1)) (.slice A2 X.length c2) w10 := ⟨A2, c2, X, rfl, own2, .inr (.inr (.inl ⟨rfl, by rw [HX.out, HP.out, HE.out]⟩))⟩
          exact ⟨RR, HKS9.out.grown hg (own_ne HO9.out HKS9.out (by decide)), HKL9.out.grown hg (own_ne HO9.out HKL9.out (by decide)), HBL9.out.trans hb⟩
        case measure => simp [intOf]
      · have hm : m1 = 2 := by rw [hmj, hq]; decide
        have Z1 : (if V < 2 then (2 : Int) else V) = (k1 : Int) := by rw [hkV, hm]; split <;> omega
        have Z2 : (if 2 < V then V else (2 : Int)) = (k1 : Int) := by rw [hkV, hm]; split <;> omega
        have Z3 : max V 2 = (k1 : Int) := by rw [hkV, hm]
        clear hmj hkV hm hVV
        go_wp2_with fail
        go_quiet ((go_at_call 6; exact Calls.quiet_of_same ((HCS.out _).mono fun _ _ h => ⟨h.1, h.2.symm⟩)))
        go_wp2_with fail
        refine (HCW.out _).mono ?_
        rintro e w9 ⟨A9, c9, rfl, ow, bw⟩
        have own9 := Own.below (show Own (wr.drewN nq) w.heap.size A c P from HO.out) bw
        have KS9 := Blk.below (show Blk (wr.drewN nq) gS _ _ from HKS.out) bw HKS.out.lt
        have KL9 := Blk.below (show Blk (wr.drewN nq) gL _ _ from HKL.out) bw HKL.out.lt
        have BL9 := (below_dN HBL.out nq).trans (bw.mono HBL.out.size)
        have HO9 := Lib.hid own9
        have HKS9 := Lib.hid KS9
        have HKL9 := Lib.hid KL9
        have HBL9 := Lib.hid BL9
        have HOW := Lib.hid ow
        clear own9 KS9 KL9 BL9 ow bw Z1 Z2 Z3 HO HKS HKL HBL IX c1 hq
        go_wp2_with (at_builtin; go_must (refine wpList_appX rfl (.tmp 50) (.tmp 51) rfl w.heap.size (l := P) (news := E) (d := c9) X HX.out rfl rfl HO9.out (Rd.of_own HOW.out) (by omega) HBL9.out.size ?_); intro A2 c2 w10 own2 hg hb)
        go_roundw
        case rel =>
          have RR : Lo w.heap.size (wenc n0 k0) (wenc n1 k1) (wenc n2 k2) (.int .i64 (1 + 1)) (.slice A2 X.length c2) w10 := ⟨A2, c2, X, rfl, own2, .inr (.inr (.inl ⟨rfl, by rw [HX.out, HP.out, HE.out]⟩))⟩
          exact ⟨RR, HKS9.out.grown hg (own_ne HO9.out HKS9.out (by decide)), HKL9.out.grown hg (own_ne HO9.out HKL9.out (by decide)), HBL9.out.trans hb⟩
        case measure => simp [intOf]
      · have hm : m1 = 4 := by rw [hmj, hq]; decide
        have Z1 : (if V < 4 then (4 : Int) else V) = (k1 : Int) := by rw [hkV, hm]; split <;> omega
        have Z2 : (if 4 < V then V else (4 : Int)) = (k1 : Int) := by rw [hkV, hm]; split <;> omega
        have Z3 : max V 4 = (k1 : Int) := by rw [hkV, hm]
        clear hmj hkV hm hVV
        go_wp2_with fail
        go_quiet ((go_at_call 6; exact Calls.quiet_of_same ((HCS.out _).mono fun _ _ h => ⟨h.1, h.2.symm⟩)))
        go_wp2_with fail
        refine (HCW.out _).mono ?_
        rintro e w9 ⟨A9, c9, rfl, ow, bw⟩
        have own9 := Own.below (show Own (wr.drewN nq) w.heap.size A c P from HO.out) bw
        have KS9 := Blk.below (show Blk (wr.drewN nq) gS _ _ from HKS.out) bw HKS.out.lt
        have KL9 := Blk.below (show Blk (wr.drewN nq) gL _ _ from HKL.out) bw HKL.out.lt
        have BL9 := (below_dN HBL.out nq).trans (bw.mono HBL.out.size)
        have HO9 := Lib.hid own9
        have HKS9 := Lib.hid KS9
        have HKL9 := Lib.hid KL9
        have HBL9 := Lib.hid BL9
        have HOW := Lib.hid ow
        clear own9 KS9 KL9 BL9 ow bw Z1 Z2 Z3 HO HKS HKL HBL IX c1 hq
        go_wp2_with (at_builtin; go_must (refine wpList_appX rfl (.tmp 50) (.tmp 51) rfl w.heap.size (l := P) (news := E) (d := c9) X HX.out rfl rfl HO9.out (Rd.of_own HOW.out) (by omega) HBL9.out.size ?_); intro A2 c2 w10 own2 hg hb)
        go_roundw
        case rel =>
          have RR : Lo w.heap.size (wenc n0 k0) (wenc n1 k1) (wenc n2 k2) (.int .i64 (1 + 1)) (.slice A2 X.length c2) w10 := ⟨A2, c2, X, rfl, own2, .inr (.inr (.inl ⟨rfl, by rw [HX.out, HP.out, HE.out]⟩))⟩
          exact ⟨RR, HKS9.out.grown hg (own_ne HO9.out HKS9.out (by decide)), HKL9.out.grown hg (own_ne HO9.out HKL9.out (by decide)), HBL9.out.trans hb⟩
        case measure => simp [intOf]
      · have hm : m1 = 8 := by rw [hmj, hq]; decide
        have Z1 : (if V < 8 then (8 : Int) else V) = (k1 : Int) := by rw [hkV, hm]; split <;> omega
        have Z2 : (if 8 < V then V else (8 : Int)) = (k1 : Int) := by rw [hkV, hm]; split <;> omega
        have Z3 : max V 8 = (k1 : Int) := by rw [hkV, hm]
        clear hmj hkV hm hVV
        go_wp2_with fail
        go_quiet ((go_at_call 6; exact Calls.quiet_of_same ((HCS.out _).mono fun _ _ h => ⟨h.1, h.2.symm⟩)))
        go_wp2_with fail
        refine (HCW.out _).mono ?_
        rintro e w9 ⟨A9, c9, rfl, ow, bw⟩
        have own9 := Own.below (show Own (wr.drewN nq) w.heap.size A c P from HO.out) bw
        have KS9 := Blk.below (show Blk (wr.drewN nq) gS _ _ from HKS.out) bw HKS.out.lt
        have KL9 := Blk.below (show Blk (wr.drewN nq) gL _ _ from HKL.out) bw HKL.out.lt
        have BL9 := (below_dN HBL.out nq).trans (bw.mono HBL.out.size)
        have HO9 := Lib.hid own9
        have HKS9 := Lib.hid KS9
        have HKL9 := Lib.hid KL9
        have HBL9 := Lib.hid BL9
        have HOW := Lib.hid ow
        clear own9 KS9 KL9 BL9 ow bw Z1 Z2 Z3 HO HKS HKL HBL IX c1 hq
        go_wp2_with (at_builtin; go_must (refine wpList_appX rfl (.tmp 50) (.tmp 51) rfl w.heap.size (l := P) (news := E) (d := c9) X HX.out rfl rfl HO9.out (Rd.of_own HOW.out) (by omega) HBL9.out.size ?_); intro A2 c2 w10 own2 hg hb)
        go_roundw
        case rel =>
          have RR : Lo w.heap.size (wenc n0 k0) (wenc n1 k1) (wenc n2 k2) (.int .i64 (1 + 1)) (.slice A2 X.length c2) w10 := ⟨A2, c2, X, rfl, own2, .inr (.inr (.inl ⟨rfl, by rw [HX.out, HP.out, HE.out]⟩))⟩
          exact ⟨RR, HKS9.out.grown hg (own_ne HO9.out HKS9.out (by decide)), HKL9.out.grown hg (own_ne HO9.out HKL9.out (by decide)), HBL9.out.trans hb⟩
        case measure => simp [intOf]
    · have IX := index3 n0 n1 n2 2 n2 (by simp)
      have c2 := KS.cell 2
      simp at c2
      have hx0 : (0 : Int) ≤ s2 := x2.1
      obtain ⟨V, hV⟩ : ∃ V, vsize n2 = V := ⟨_, rfl⟩
      have CS := fun W => refSize_any n2 W z2
      rw [hV] at CS
      have hkV := HK.out.2.2
      rw [hV] at hkV
      have hVV : V = 1 ∨ V = 2 ∨ V = 4 ∨ V = 8 ∨ V = 0 := by rw [← hV]; exact vsize_ways n2
      have CW := fun W => refWide_ok n2 k2 k2 b2 t2 W HS2.out.1 z2 HS2.out.2
      obtain ⟨E, hE⟩ : ∃ E, E = wenc n2 k2 := ⟨_, rfl⟩
      rw [← hE] at CW
      have hEl : E.length ≤ 8 := by
        rw [hE]
        have := HS2.out.1
        unfold IsSize at this
        rw [wenc_length _ _ (by omega)]
        omega
      have HCS := Lib.hid CS
      have HCW := Lib.hid CW
      have HO := Lib.hid own
      have HKS := Lib.hid KS
      have HKL := Lib.hid KL
      have HBL := Lib.hid BL
      have HE := Lib.hid hE
      have hmj := HM.out.2.2
      have hPl : P.length ≤ 17 := by rw [hP]; have := HLL.out; simp; try omega
      obtain ⟨X, hX⟩ : ∃ X, X = P ++ E := ⟨_, rfl⟩
      have HX := Lib.hid hX
      have HP := Lib.hid hP
      clear CS CW own KS KL BL hE hV hP hX
      rcases (show s2 % 4 = 0 ∨ s2 % 4 = 1 ∨ s2 % 4 = 2 ∨ s2 % 4 = 3 by omega) with hq | hq | hq | hq
      · have hm : m2 = 1 := by rw [hmj, hq]; decide
        have Z1 : (if V < 1 then (1 : Int) else V) = (k2 : Int) := by rw [hkV, hm]; split <;> omega
        have Z2 : (if 1 < V then V else (1 : Int)) = (k2 : Int) := by rw [hkV, hm]; split <;> omega
        have Z3 : max V 1 = (k2 : Int) := by rw [hkV, hm]
        clear hmj hkV hm hVV
        go_wp2_with fail
        go_quiet ((go_at_call 6; exact Calls.quiet_of_same ((HCS.out _).mono fun _ _ h => ⟨h.1, h.2.symm⟩)))
        go_wp2_with fail
        refine (HCW.out _).mono ?_
        rintro e w9 ⟨A9, c9, rfl, ow, bw⟩
        have own9 := Own.below (show Own (wr.drewN nq) w.heap.size A c P from HO.out) bw
        have KS9 := Blk.below (show Blk (wr.drewN nq) gS _ _ from HKS.out) bw HKS.out.lt
        have KL9 := Blk.below (show Blk (wr.drewN nq) gL _ _ from HKL.out) bw HKL.out.lt
        have BL9 := (below_dN HBL.out nq).trans (bw.mono HBL.out.size)
        have HO9 := Lib.hid own9
        have HKS9 := Lib.hid KS9
        have HKL9 := Lib.hid KL9
        have HBL9 := Lib.hid BL9
        have HOW := Lib.hid ow
        clear own9 KS9 KL9 BL9 ow bw Z1 Z2 Z3 HO HKS HKL HBL IX c2 hq
        go_wp2_with (at_builtin; go_must (refine wpList_appX rfl (.tmp 50) (.tmp 51) rfl w.heap.size (l := P) (news := E) (d := c9) X HX.out rfl rfl HO9.out (Rd.of_own HOW.out) (by omega) HBL9.out.size ?_); intro A2 c2 w10 own2 hg hb)
        go_roundw
        case rel =>
          have RR : Lo w.heap.size (wenc n0 k0) (wenc n1 k1) (wenc n2 k2) (.int .i64 (2 + 1)) (.slice A2 X.length c2) w10 := ⟨A2, c2, X, rfl, own2, .inr (.inr (.inr ⟨rfl, by rw [HX.out, HP.out, HE.out]⟩))⟩
          exact ⟨RR, HKS9.out.grown hg (own_ne HO9.out HKS9.out (by decide)), HKL9.out.grown hg (own_ne HO9.out HKL9.out (by decide)), HBL9.out.trans hb⟩
        case measure => simp [intOf]
      · have hm : m2 = 2 := by rw [hmj, hq]; decide
        have Z1 : (if V < 2 then (2 : Int) else V) = (k2 : Int) := by rw [hkV, hm]; split <;> omega
        have Z2 : (if 2 < V then V else (2 : Int)) = (k2 : Int) := by rw [hkV, hm]; split <;> omega
        have Z3 : max V 2 = (k2 : Int) := by rw [hkV, hm]
        clear hmj hkV hm hVV
        go_wp2_with fail
        go_quiet ((go_at_call 6; exact Calls.quiet_of_same ((HCS.out _).mono fun _ _ h => ⟨h.1, h.2.symm⟩)))
        go_wp2_with fail
        refine (HCW.out _).mono ?_
        rintro e w9 ⟨A9, c9, rfl, ow, bw⟩
        have own9 := Own.below (show Own (wr.drewN nq) w.heap.size A c P from HO.out) bw
        have KS9 := Blk.below (show Blk (wr.drewN nq) gS _ _ from HKS.out) bw HKS.out.lt
        have KL9 := Blk.below (show Blk (wr.drewN nq) gL _ _ from HKL.out) bw HKL.out.lt
        have BL9 := (below_dN HBL.out nq).trans (bw.mono HBL.out.size)
        have HO9 := Lib.hid own9
        have HKS9 := Lib.hid KS9
        have HKL9 := Lib.hid KL9
        have HBL9 := Lib.hid BL9
        have HOW := Lib.hid ow
        clear own9 KS9 KL9 BL9 ow bw Z1 Z2 Z3 HO HKS HKL HBL IX c2 hq
        go_wp2_with (at_builtin; go_must (refine wpList_appX rfl (.tmp 50) (.tmp 51) rfl w.heap.size (l := P) (news := E) (d := c9) X HX.out rfl rfl HO9.out (Rd.of_own HOW.out) (by omega) HBL9.out.size ?_); intro A2 c2 w10 own2 hg hb)
        go_roundw
        case rel =>
          have RR : Lo w.heap.size (wenc n0 k0) (wenc n1 k1) (wenc n2 k2) (.int .i64 (2 + 1)) (.slice A2 X.length c2) w10 := ⟨A2, c2, X, rfl, own2, .inr (.inr (.inr ⟨rfl, by rw [HX.out, HP.out, HE.out]⟩))⟩
          exact ⟨RR, HKS9.out.grown hg (own_ne HO9.out HKS9.out (by decide)), HKL9.out.grown hg (own_ne HO9.out HKL9.out (by decide)), HBL9.out.trans hb⟩
        case measure => simp [intOf]
      · have hm : m2 = 4 := by rw [hmj, hq]; decide
        have Z1 : (if V < 4 then (4 : Int) else V) = (k2 : Int) := by rw [hkV, hm]; split <;> omega
        have Z2 : (if 4 < V then V else (4 : Int)) = (k2 : Int) := by rw [hkV, hm]; split <;> omega
        have Z3 : max V 4 = (k2 : Int) := by rw [hkV, hm]
        clear hmj hkV hm hVV
        go_wp2_with fail
        go_quiet ((go_at_call 6; exact Calls.quiet_of_same ((HCS.out _).mono fun _ _ h => ⟨h.1, h.2.symm⟩)))
        go_wp2_with fail
        refine (HCW.out _).mono ?_
        rintro e w9 ⟨A9, c9, rfl, ow, bw⟩
        have own9 := Own.below (show Own (wr.drewN nq) w.heap.size A c P from HO.out) bw
        have KS9 := Blk.below (show Blk (wr.drewN nq) gS _ _ from HKS.out) bw HKS.out.lt
        have KL9 := Blk.below (show Blk (wr.drewN nq) gL _ _ from HKL.out) bw HKL.out.lt
        have BL9 := (below_dN HBL.out nq).trans (bw.mono HBL.out.size)
        have HO9 := Lib.hid own9
        have HKS9 := Lib.hid KS9
        have HKL9 := Lib.hid KL9
        have HBL9 := Lib.hid BL9
        have HOW := Lib.hid ow
        clear own9 KS9 KL9 BL9 ow bw Z1 Z2 Z3 HO HKS HKL HBL IX c2 hq
        go_wp2_with (at_builtin; go_must (refine wpList_appX rfl (.tmp 50) (.tmp 51) rfl w.heap.size (l := P) (news := E) (d := c9) X HX.out rfl rfl HO9.out (Rd.of_own HOW.out) (by omega) HBL9.out.size ?_); intro A2 c2 w10 own2 hg hb)
        go_roundw
        case rel =>
          have RR : Lo w.heap.size (wenc n0 k0) (wenc n1 k1) (wenc n2 k2) (.int .i64 (2 + 1)) (.slice A2 X.length c2) w10 := ⟨A2, c2, X, rfl, own2, .inr (.inr (.inr ⟨rfl, by rw [HX.out, HP.out, HE.out]⟩))⟩
          exact ⟨RR, HKS9.out.grown hg (own_ne HO9.out HKS9.out (by decide)), HKL9.out.grown hg (own_ne HO9.out HKL9.out (by decide)), HBL9.out.trans hb⟩
        case measure => simp [intOf]
      · have hm : m2 = 8 := by rw [hmj, hq]; decide
        have Z1 : (if V < 8 then (8 : Int) else V) = (k2 : Int) := by rw [hkV, hm]; split <;> omega
        have Z2 : (if 8 < V then V else (8 : Int)) = (k2 : Int) := by rw [hkV, hm]; split <;> omega
        have Z3 : max V 8 = (k2 : Int) := by rw [hkV, hm]
        clear hmj hkV hm hVV
        go_wp2_with fail
        go_quiet ((go_at_call 6; exact Calls.quiet_of_same ((HCS.out _).mono fun _ _ h => ⟨h.1, h.2.symm⟩)))
        go_wp2_with fail
        refine (HCW.out _).mono ?_
        rintro e w9 ⟨A9, c9, rfl, ow, bw⟩
        have own9 := Own.below (show Own (wr.drewN nq) w.heap.size A c P from HO.out) bw
        have KS9 := Blk.below (show Blk (wr.drewN nq) gS _ _ from HKS.out) bw HKS.out.lt
        have KL9 := Blk.below (show Blk (wr.drewN nq) gL _ _ from HKL.out) bw HKL.out.lt
        have BL9 := (below_dN HBL.out nq).trans (bw.mono HBL.out.size)
        have HO9 := Lib.hid own9
        have HKS9 := Lib.hid KS9
        have HKL9 := Lib.hid KL9
        have HBL9 := Lib.hid BL9
        have HOW := Lib.hid ow
        clear own9 KS9 KL9 BL9 ow bw Z1 Z2 Z3 HO HKS HKL HBL IX c2 hq
        go_wp2_with (at_builtin; go_must (refine wpList_appX rfl (.tmp 50) (.tmp 51) rfl w.heap.size (l := P) (news := E) (d := c9) X HX.out rfl rfl HO9.out (Rd.of_own HOW.out) (by omega) HBL9.out.size ?_); intro A2 c2 w10 own2 hg hb)
        go_roundw
        case rel =>
          have RR : Lo w.heap.size (wenc n0 k0) (wenc n1 k1) (wenc n2 k2) (.int .i64 (2 + 1)) (.slice A2 X.length c2) w10 := ⟨A2, c2, X, rfl, own2, .inr (.inr (.inr ⟨rfl, by rw [HX.out, HP.out, HE.out]⟩))⟩
          exact ⟨RR, HKS9.out.grown hg (own_ne HO9.out HKS9.out (by decide)), HKL9.out.grown hg (own_ne HO9.out HKL9.out (by decide)), HBL9.out.trans hb⟩
        case measure => simp [intOf]
    · have hp : P = 4 :: (wenc n0 k0 ++ (wenc n1 k1 ++ (wenc n2 k2 ++ []))) := by rw [hP]; simp
      have hB : Bytes P := by
        rw [hp]
        exact Bytes.cons (by omega) (by omega) ((wenc_bytes HS0.out.1 z0 HS0.out.2).append ((wenc_bytes HS1.out.1 z1 HS1.out.2).append ((wenc_bytes HS2.out.1 z2 HS2.out.2).append Bytes.nil)))
      have hPl : P.length ≤ 70368744177664 := by rw [hP]; have := HLL.out; simp; omega
      have CR := Read_4 A c P wr (Sl.of_own own) hB hPl (wenc n0 k0 ++ (wenc n1 k1 ++ (wenc n2 k2 ++ []))) (wenc n1 k1 ++ (wenc n2 k2 ++ [])) (wenc n2 k2 ++ []) [] n0 n1 n2 (by rw [hp]; exact num_4 _) (by rw [hp]; exact least_4 _) (num_wenc HS0.out.1 z0 HS0.out.2 _) (num_wenc HS1.out.1 z1 HS1.out.2 _) (num_wenc HS2.out.1 z2 HS2.out.2 _) (by have := HY.out.1; omega) (by have := HY.out.2.1; omega) (by have := HY.out.2.2; omega) (by simp)
      have HCR := Lib.hid CR
      have HKL := Lib.hid KL
      have HBL := Lib.hid BL
      clear CR KL KS BL own hB hPl hp hP
      go_wp2_with fail
      refine HCR.out.mono ?_
      rintro e w9 ⟨A9, c9, rfl, o9, b9⟩
      unfold FC
      have KL9 := HKL.out.below b9 HKL.out.lt
      have BL9 := Lib.hid (HBL.out.trans (b9.mono HBL.out.size))
      have c0 := KL9.cell 0
      have c1 := KL9.cell 1
      have c2 := KL9.cell 2
      have zL := KL9.lt
      simp at c0 c1 c2
      clear KL9 o9 b9 HCR
      go_wp2_with fail
      refine (sameF_yes 4 n0 n2 0 n1 false none [] 0 none [] 0 none [] 0 none 0 none 0 none 0 _ (Rd.nil _ _) (Rd.nil _ _) (RdG.nil _ _) (Rd.nil _ _) (Rd.nil _ _) (RdG.nil _ _) Bytes.nil Bytes.nil (by simp)).mono ?_
      rintro e w10 ⟨rfl, b10⟩
      have BA := BL9.out.alloc BL9.out.size (.cells #[.int .u64 4, .int .u64 n0, .int .u64 n2, .int .u64 0, .int .u64 n1, .bool false, .slice none 0 0, .slice none 0 0, .slice none 0 0] 32)
      have BB := Lib.hid (BA.trans (b10.mono BA.size))
      clear b10 BA
      go_wp2_with fail
      go_ret
      exact ⟨rfl, BB.out⟩
end Go.Proofs.YtaknjfdelbgjgaaDoor
