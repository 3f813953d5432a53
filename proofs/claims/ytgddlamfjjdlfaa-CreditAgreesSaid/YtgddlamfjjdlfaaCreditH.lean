/-
  CreditAgrees.
-/
import Derived.Test.YtgddlamfjjdlfaaCreditG
namespace Go.Proofs.Ytgddlamfjjdlfaa
open Go.RowKit
set_option linter.unusedVariables false
set_option maxRecDepth 100000 in
set_option maxHeartbeats 1600000 in
theorem agrees_walk (n : Int) (A : Option Addr) (c : Nat) (l : List CreditOp) (w : World) (hn0 : 0 ≤ n) (hn1 : n < 65536) (hr : RdT 2 CreditOpC CreditOpOk w A l) (hlc : l.length ≤ c) (hcm : c ≤ 9223372036854775807) (hA : A = none → c = 0) :
    Calls Try.prog 5 #[.int .u16 n, .slice A l.length c] w fun r w' => r = .returned (.bool true) ∧ Below w.heap.size w w' := by
  have HR := Lib.hid hr
  clear hr hA
  obtain ⟨W0, hW⟩ : ∃ W0, W0 = 1 + n := ⟨_, rfl⟩
  have hW0 : 1 ≤ W0 := by omega
  have hW1 : W0 ≤ 65536 := by omega
  have hwr : IntKind.u64.wrap (1 + n) = W0 := by rw [hW]; exact IntWalk.u64_in _ (by omega)
  have hwn : IntKind.u64.wrap n = n := IntWalk.u64_in _ (by omega)
  have e0 : topN W0 = W0 := by unfold topN; omega
  have hNT := fun W => NewTill_any W0 W (by omega)
  have hNP := fun W => NewPurse_any W0 W (by omega)
  have i0 : InvA W0 0 (tlN W0) (puN W0) := by
    refine ⟨e0, tlN_ok (by omega), puN_ok (by omega), rfl, ?_, ?_⟩
    · show topN W0 ≤ topN W0; omega
    · show topN W0 ≤ _; omega
  have e1 : (tlN W0).li = W0 := e0
  generalize tlN W0 = T0 at *
  generalize puN W0 = P0 at *
  have I0 := Lib.hid i0
  have HW := Lib.hid hW
  clear i0 hW e0
  go_enter Try.func5, Try.ntmps5
  go_wp2_with fail
  refine (awake11_any _).mono ?_
  rintro e w1 ⟨rfl, b1⟩
  go_wp2_with fail
  refine (hNT _).mono ?_
  rintro e w2 ⟨g, rfl, j0, l1, b2⟩
  have hz := b1.size
  have hz2 := b2.size
  have bb := b1.trans (b2.mono hz)
  have hm : w.heap.size ≤ g := by omega
  have hgl := j0.lt
  clear b1 b2
  go_wp2_with fail
  refine (hNP _).mono ?_
  rintro e w3 ⟨x, rfl, p0, l2, b3⟩
  have j0 := j0.below b3 hgl
  have bb := bb.trans (b3.mono (by omega))
  have hgx : g ≠ x := by omega
  have hxm : w.heap.size ≤ x := by omega
  clear b3 hNT hNP
  go_wp2_with fail
  go_loopw [36, 8] (fun i m wr => ∃ (k : Nat) (T : TL) (P : PU), k ≤ l.length ∧ k ≤ 60 ∧ i = .int .i64 k ∧ m = .int .u64 T.li ∧ Til wr g T ∧ Pur wr x P ∧ Hid (InvA W0 k T P) ∧ Below w.heap.size w wr) (fun i _ _ => l.length - (intOf i).toNat)
  case atStart => exact ⟨0, T0, P0, by omega, by omega, rfl, by rw [e1], j0, p0, I0, bb⟩
  case round =>
    obtain ⟨k, T, P, hk, hk6, rfl, rfl, j1, p1, INV, b1⟩ := hrel
    clear j0 p0 bb
    by_cases hlt : k < l.length
    · obtain ⟨b, off, y, rfl, hb, hy, hok, hc⟩ := (HR.out.below b1).at_ hlt
      have q0 := hc 0 (by omega)
      have q1 := hc 1 (by omega)
      clear hc hy
      obtain ⟨d, y⟩ := y
      obtain ⟨w0, w1, _⟩ := hok
      simp [CreditOpC] at q0 q1 w0 w1
      have d0 := wf_u8 w0
      have x0 := wf_u64 w1
      by_cases h60 : k < 60
      · obtain ⟨W, hW⟩ : ∃ W, W = wr.alloc (.cells #[.int .u8 d, .int .u64 y] 32) := ⟨_, rfl⟩
        have KB : Blk W wr.heap.size 32 #[.int .u8 d, .int .u64 y] := by rw [hW]; exact Blk.new wr _ _
        have J := Lib.hid (show Til W g T by rw [hW]; exact Blk.alloc j1 _)
        have PP := Lib.hid (show Pur W x P by rw [hW]; exact Blk.alloc p1 _)
        have BB := Lib.hid (show Below w.heap.size w W by rw [hW]; exact b1.alloc b1.size _)
        have k0 := KB.cell 0
        have k1 := KB.cell 1
        have f1 := KB.frozen 1
        have hgo : g ≠ wr.heap.size := by have := j1.lt; omega
        have hxo : x ≠ wr.heap.size := by have := p1.lt; omega
        simp at k0 k1
        have HKB := Lib.hid KB
        clear j1 p1 b1 KB
        rcases (show (d % 4 = 0 ∨ d % 4 = 1) ∨ d % 4 = 2 ∨ d % 4 = 3 by omega) with hq | hq | hq
        · obtain ⟨Z, hZ⟩ : ∃ Z, Z = min y (P.li - P.sp) := ⟨_, rfl⟩
          have Z1 : (if y < P.li - P.sp then y else P.li - P.sp) = Z := by rw [hZ]; split <;> omega
          have Z2 : (if P.li - P.sp < y then P.li - P.sp else y) = Z := by rw [hZ]; split <;> omega
          have okP := INV.out.pu
          unfold PuOk at okP
          have hz0 : 0 ≤ Z := by omega
          have hz1 : Z ≤ P.li - P.sp := by omega
          have HLc := Lib.hid (PLeft_any x P W.drew (PP.out.drewN 1) INV.out.pu)
          obtain ⟨e1, e2, i2⟩ := ag_send INV.out hz0 hz1
          clear hZ okP
          have SC := fun W h => PSpend_any x P Z W h hz0 INV.out.pu
          rw [e1] at SC
          simp only at SC
          have CC := fun W h => Came_any g T (P.sp + Z) W h (by have := INV.out.pu; unfold PuOk at this; omega) INV.out.ok
          rw [e2] at CC
          simp only at CC
          have es : ({ li := P.li, sp := P.sp + Z } : PU).sp = P.sp + Z := rfl
          have et : ({ wi := T.wi, li := T.li, ca := P.sp + Z, re := T.re } : TL).li = T.li := rfl
          have ep : ({ li := P.li, sp := P.sp + Z } : PU).li = P.li := rfl
          generalize ({ li := P.li, sp := P.sp + Z } : PU) = P2 at *
          generalize ({ wi := T.wi, li := T.li, ca := P.sp + Z, re := T.re } : TL) = T2 at *
          rw [← es] at CC
          have HSC := Lib.hid SC
          have HCC := Lib.hid CC
          have HI2 := Lib.hid i2
          have ET := Lib.hid et
          clear e1 e2 i2 SC CC et es ep
          rcases hq with hq | hq
          all_goals (
            go_wp2_with fail
            rw [← hW]
            clear hW q0 q1
            go_wp2_with fail
            go_region_with (first | (go_at_call 17; (with_reducible refine HLc.out.mono ?_); rintro e w4 ⟨rfl, q4, rfl⟩))
            all_goals (
              go_wp2_with fail
              refine (HSC.out _ (PP.out.drewN _)).mono ?_
              rintro e w5 ⟨rfl, p5, g5⟩
              have j5 := til_gb (J.out.drewN _) g5 hgx
              have b5 := below_gb (below_drewN BB.out _) g5 hxm BB.out.size
              clear k0 k1 f1 g5
              go_wp2_with fail
              refine (PTold_any x P2 _ p5).mono ?_
              rintro e w6 ⟨rfl, q6, hw6⟩
              have j6 : Til w6 g T := by rw [hw6]; exact j5.drewN _
              have p6 : Pur w6 x P2 := by rw [hw6]; exact p5.drewN _
              have b6 : Below w.heap.size w w6 := by rw [hw6]; exact below_drewN b5 _
              clear hw6 j5 p5 b5
              go_wp2_with fail
              refine (HCC.out _ j6).mono ?_
              rintro e w7 ⟨rfl, j7, g7⟩
              have p7 := pur_gb p6 g7 (Ne.symm hgx)
              have b7 := below_gb b6 g7 hm b6.size
              clear g7
              go_wp2_with fail
              go_roundw
              case rel => exact ⟨k + 1, T2, P2, by omega, by omega, by go_num, by rw [ET.out], j7, p7, HI2, b7⟩
              case measure => simp [intOf]; omega))
        · go_wp2_with fail
          rw [← hW]
          clear hW q0 q1
          go_wp2_with fail
          refine (TTold_any g T _ J.out).mono ?_
          rintro e w6 ⟨rfl, q6, hw6⟩
          have j6 : Til w6 g T := by rw [hw6]; exact J.out.drewN _
          have p6 : Pur w6 x P := by rw [hw6]; exact PP.out.drewN _
          have b6 : Below w.heap.size w w6 := by rw [hw6]; exact below_drewN BB.out _
          have KB : Blk w6 wr.heap.size 32 #[.int .u8 d, .int .u64 y] := by rw [hw6]; exact HKB.out
          clear hw6 J PP BB HKB k0 k1 f1
          have k1 := KB.cell 1
          have f1 := KB.frozen 1
          simp at k1
          have okT := INV.out.ok
          unfold TlOk at okT
          have hw7 : IntKind.u64.wrap (T.ca - T.re) = T.ca - T.re := IntWalk.u64_in _ (by omega)
          obtain ⟨Z, hZ⟩ : ∃ Z, Z = min y (T.ca - T.re) := ⟨_, rfl⟩
          have Z1 : (if y < T.ca - T.re then y else T.ca - T.re) = Z := by rw [hZ]; split <;> omega
          have Z2 : (if T.ca - T.re < y then T.ca - T.re else y) = Z := by rw [hZ]; split <;> omega
          have hz0 : 0 ≤ Z := by omega
          have hz1 : Z ≤ T.ca - T.re := by omega
          obtain ⟨e1, i2⟩ := ag_took INV.out hz0 hz1
          have TC := Took_any g T Z _ j6 hz0 INV.out.ok
          rw [e1] at TC
          simp only at TC
          have el : T.li = ({ wi := T.wi, li := T.li, ca := T.ca, re := T.re + Z } : TL).li := rfl
          generalize ({ wi := T.wi, li := T.li, ca := T.ca, re := T.re + Z } : TL) = T2 at i2 TC el
          have I2 := Lib.hid i2
          have HTC := Lib.hid TC
          have HEL := Lib.hid el
          clear TC i2 e1 okT el hZ
          go_wp2_with fail
          refine HTC.out.mono ?_
          rintro e w8 ⟨rfl, j8, g8⟩
          have p8 := pur_gb p6 g8 (Ne.symm hgx)
          have b8 := below_gb b6 g8 hm b6.size
          clear g8 j6 p6 b6 HTC k1 f1 KB
          have NC := News_any g T2 _ j8 I2.out.ok
          have i3 := ag_news hW1 I2.out
          have ht := ag_told T2
          generalize (tNews T2).1 = T3 at *
          generalize (tNews T2).2.1 = N3 at *
          generalize (tNews T2).2.2 = E3 at *
          have HNC := Lib.hid NC
          have HP := Lib.hid p8
          have HB := Lib.hid b8
          have I3 := Lib.hid i3
          have HT3 := Lib.hid ht
          clear NC p8 b8 j8 i3 ht
          go_wp2_with fail
          refine HNC.out.mono ?_
          rintro e w9 ⟨rfl, j9, g9⟩
          have p9 := pur_gb HP.out g9 (Ne.symm hgx)
          have b9 := below_gb HB.out g9 hm HB.out.size
          clear g9 HNC HP HB
          rcases E3 with _ | _
          · have e5 : T2.li = T3.li := by simpa using HT3.out
            go_wp2_with fail
            go_roundw
            case rel => exact ⟨k + 1, T3, P, by omega, by omega, by go_num, by rw [HEL.out, e5], j9, p9, I3, b9⟩
            case measure => simp [intOf]; omega
          · have e5 : N3 = T3.li := by simpa using HT3.out
            go_wp2_with fail
            go_roundw
            case rel => exact ⟨k + 1, T3, P, by omega, by omega, by go_num, rfl, j9, p9, I3, b9⟩
            case measure => simp [intOf]; omega
        · have okT := INV.out.ok
          unfold TlOk at okT
          obtain ⟨i2, e2⟩ := ag_grant INV.out
          have GC := fun W h => Grant_any x P T.li W h (by omega) INV.out.pu
          generalize (pGrant P T.li).1 = P2 at *
          generalize (pGrant P T.li).2 = E2 at *
          have HGC := Lib.hid GC
          have I2 := Lib.hid i2
          clear GC okT e2 i2
          go_wp2_with fail
          rw [← hW]
          clear hW q0 q1
          go_wp2_with fail
          refine (HGC.out _ PP.out).mono ?_
          rintro e w5 ⟨rfl, p5, g5⟩
          have j5 := til_gb J.out g5 hgx
          have b5 := below_gb BB.out g5 hxm BB.out.size
          clear g5 k0 k1 f1
          go_wp2_with fail
          go_roundw
          case rel => exact ⟨k + 1, T, P2, by omega, by omega, by go_num, rfl, j5, p5, I2, b5⟩
          case measure => simp [intOf]; omega
      · have h61 : (60 : Int) ≤ k := by omega
        have J := Lib.hid (show Til (wr.alloc (.cells #[.int .u8 d, .int .u64 y] 32)) g T from Blk.alloc j1 _)
        have PP := Lib.hid (show Pur (wr.alloc (.cells #[.int .u8 d, .int .u64 y] 32)) x P from Blk.alloc p1 _)
        have BB := Lib.hid (show Below w.heap.size w (wr.alloc (.cells #[.int .u8 d, .int .u64 y] 32)) from b1.alloc b1.size _)
        clear j1 p1 b1
        go_wp2_with fail
        clear q0 q1
        refine (TTold_any g T _ J.out).mono ?_
        rintro e w6 ⟨rfl, q6, hw6⟩
        have j6 : Til w6 g T := by rw [hw6]; exact Til.drewN J.out _
        have p6 : Pur w6 x P := by rw [hw6]; exact Pur.drewN PP.out _
        have b6 : Below w.heap.size w w6 := by rw [hw6]; exact below_drewN BB.out _
        clear hw6
        have okT := INV.out.ok
        unfold TlOk at okT
        have hw7 : IntKind.u64.wrap (T.ca - T.re) = T.ca - T.re := IntWalk.u64_in _ (by omega)
        obtain ⟨e1, i2⟩ := ag_took INV.out (n := T.ca - T.re) (by omega) (by omega)
        have TC := Took_any g T (T.ca - T.re) _ j6 (by omega) INV.out.ok
        rw [e1] at TC
        simp only at TC
        have ef : ({ wi := T.wi, li := T.li, ca := T.ca, re := T.re + (T.ca - T.re) } : TL).re = ({ wi := T.wi, li := T.li, ca := T.ca, re := T.re + (T.ca - T.re) } : TL).ca := by simp only; omega
        have el : T.li = ({ wi := T.wi, li := T.li, ca := T.ca, re := T.re + (T.ca - T.re) } : TL).li := rfl
        generalize ({ wi := T.wi, li := T.li, ca := T.ca, re := T.re + (T.ca - T.re) } : TL) = T2 at i2 TC ef el
        have I2 := Lib.hid i2
        have HTC := Lib.hid TC
        have HEL := Lib.hid el
        clear TC i2 e1 okT el
        go_wp2_with fail
        refine HTC.out.mono ?_
        rintro e w8 ⟨rfl, j8, g8⟩
        have p8 := pur_gb p6 g8 (Ne.symm hgx)
        have b8 := below_gb b6 g8 hm b6.size
        clear g8 j6 p6 b6 HTC
        have NC := News_any g T2 _ j8 I2.out.ok
        have i3 := ag_news hW1 I2.out
        have f4 := ag_end hW0 hW1 (by omega) I2.out ef
        have ht := ag_told T2
        generalize (tNews T2).1 = T3 at *
        generalize (tNews T2).2.1 = N3 at *
        generalize (tNews T2).2.2 = E3 at *
        have HNC := Lib.hid NC
        have HP := Lib.hid p8
        have HB := Lib.hid b8
        have hN := topN_ok (show 0 ≤ T3.li by have := i3.ok; unfold TlOk at this; omega)
        have hN3 : 0 ≤ T3.li := by have := i3.ok; unfold TlOk at this; omega
        have I3 := Lib.hid i3
        have HT3 := Lib.hid ht
        clear NC p8 b8 j8 i3 ht
        go_wp2_with fail
        refine HNC.out.mono ?_
        rintro e w9 ⟨rfl, j9, g9⟩
        have p9 := pur_gb HP.out g9 (Ne.symm hgx)
        have b9 := below_gb HB.out g9 hm HB.out.size
        clear g9 HNC HP HB
        have GC := Grant_any x P T3.li _ p9 hN3 I3.out.pu
        have okP := pGrant_ok (n := T3.li) I3.out.pu
        generalize (pGrant P T3.li).1 = P2 at GC okP f4
        generalize (pGrant P T3.li).2 = EP at GC
        have HGC := Lib.hid GC
        have HB := Lib.hid b9
        clear GC b9 p9 j9
        rcases E3 with _ | _
        · have e5 : T2.li = T3.li := by simpa using HT3.out
          go_wp2_with fail
          rw [HEL.out, e5]
          refine HGC.out.mono ?_
          rintro e w10 ⟨rfl, p10, g10⟩
          have b10 := below_gb HB.out g10 hxm HB.out.size
          clear HGC HB g10
          obtain ⟨Z, hZ⟩ : ∃ Z, Z = max (W0 / 2) 1 := ⟨_, rfl⟩
          have Z1 : (if 1 < W0 / 2 then W0 / 2 else 1) = Z := by rw [hZ]; split <;> omega
          have Z2 : (if W0 / 2 < 1 then 1 else W0 / 2) = Z := by rw [hZ]; split <;> omega
          rw [← hZ] at f4
          have hd9 : decide (Z ≤ P2.li - P2.sp) = true := by simpa using f4
          clear hZ
          go_wp2_with fail
          refine (PLeft_any x P2 _ p10 okP).mono ?_
          rintro e w11 ⟨rfl, q11, rfl⟩
          go_wp2_with fail
          go_ret
          exact ⟨rfl, below_drewN b10 _⟩
        · have e5 : N3 = T3.li := by simpa using HT3.out
          subst e5
          go_wp2_with fail
          refine HGC.out.mono ?_
          rintro e w10 ⟨rfl, p10, g10⟩
          have b10 := below_gb HB.out g10 hxm HB.out.size
          clear HGC HB g10
          obtain ⟨Z, hZ⟩ : ∃ Z, Z = max (W0 / 2) 1 := ⟨_, rfl⟩
          have Z1 : (if 1 < W0 / 2 then W0 / 2 else 1) = Z := by rw [hZ]; split <;> omega
          have Z2 : (if W0 / 2 < 1 then 1 else W0 / 2) = Z := by rw [hZ]; split <;> omega
          rw [← hZ] at f4
          have hd9 : decide (Z ≤ P2.li - P2.sp) = true := by simpa using f4
          clear hZ
          go_wp2_with fail
          refine (PLeft_any x P2 _ p10 okP).mono ?_
          rintro e w11 ⟨rfl, q11, rfl⟩
          go_wp2_with fail
          go_ret
          exact ⟨rfl, below_drewN b10 _⟩
    · have hd : decide (k < l.length) = false := by simpa using hlt
      have J := Lib.hid j1
      have PP := Lib.hid p1
      have BB := Lib.hid b1
      clear j1 p1 b1
      go_wp2_with fail
      refine (TTold_any g T _ J.out).mono ?_
      rintro e w6 ⟨rfl, q6, hw6⟩
      have j6 : Til w6 g T := by rw [hw6]; exact Til.drewN J.out _
      have p6 : Pur w6 x P := by rw [hw6]; exact Pur.drewN PP.out _
      have b6 : Below w.heap.size w w6 := by rw [hw6]; exact below_drewN BB.out _
      clear hw6
      have okT := INV.out.ok
      unfold TlOk at okT
      have hw7 : IntKind.u64.wrap (T.ca - T.re) = T.ca - T.re := IntWalk.u64_in _ (by omega)
      obtain ⟨e1, i2⟩ := ag_took INV.out (n := T.ca - T.re) (by omega) (by omega)
      have TC := Took_any g T (T.ca - T.re) _ j6 (by omega) INV.out.ok
      rw [e1] at TC
      simp only at TC
      have ef : ({ wi := T.wi, li := T.li, ca := T.ca, re := T.re + (T.ca - T.re) } : TL).re = ({ wi := T.wi, li := T.li, ca := T.ca, re := T.re + (T.ca - T.re) } : TL).ca := by simp only; omega
      have el : T.li = ({ wi := T.wi, li := T.li, ca := T.ca, re := T.re + (T.ca - T.re) } : TL).li := rfl
      generalize ({ wi := T.wi, li := T.li, ca := T.ca, re := T.re + (T.ca - T.re) } : TL) = T2 at i2 TC ef el
      have I2 := Lib.hid i2
      have HTC := Lib.hid TC
      have HEL := Lib.hid el
      clear TC i2 e1 okT el
      go_wp2_with fail
      refine HTC.out.mono ?_
      rintro e w8 ⟨rfl, j8, g8⟩
      have p8 := pur_gb p6 g8 (Ne.symm hgx)
      have b8 := below_gb b6 g8 hm b6.size
      clear g8 j6 p6 b6 HTC
      have NC := News_any g T2 _ j8 I2.out.ok
      have i3 := ag_news hW1 I2.out
      have f4 := ag_end hW0 hW1 (by omega) I2.out ef
      have ht := ag_told T2
      generalize (tNews T2).1 = T3 at *
      generalize (tNews T2).2.1 = N3 at *
      generalize (tNews T2).2.2 = E3 at *
      have HNC := Lib.hid NC
      have HP := Lib.hid p8
      have HB := Lib.hid b8
      have hN := topN_ok (show 0 ≤ T3.li by have := i3.ok; unfold TlOk at this; omega)
      have hN3 : 0 ≤ T3.li := by have := i3.ok; unfold TlOk at this; omega
      have I3 := Lib.hid i3
      have HT3 := Lib.hid ht
      clear NC p8 b8 j8 i3 ht
      go_wp2_with fail
      refine HNC.out.mono ?_
      rintro e w9 ⟨rfl, j9, g9⟩
      have p9 := pur_gb HP.out g9 (Ne.symm hgx)
      have b9 := below_gb HB.out g9 hm HB.out.size
      clear g9 HNC HP HB
      have GC := Grant_any x P T3.li _ p9 hN3 I3.out.pu
      have okP := pGrant_ok (n := T3.li) I3.out.pu
      generalize (pGrant P T3.li).1 = P2 at GC okP f4
      generalize (pGrant P T3.li).2 = EP at GC
      have HGC := Lib.hid GC
      have HB := Lib.hid b9
      clear GC b9 p9 j9
      rcases E3 with _ | _
      · have e5 : T2.li = T3.li := by simpa using HT3.out
        go_wp2_with fail
        rw [HEL.out, e5]
        refine HGC.out.mono ?_
        rintro e w10 ⟨rfl, p10, g10⟩
        have b10 := below_gb HB.out g10 hxm HB.out.size
        clear HGC HB g10
        obtain ⟨Z, hZ⟩ : ∃ Z, Z = max (W0 / 2) 1 := ⟨_, rfl⟩
        have Z1 : (if 1 < W0 / 2 then W0 / 2 else 1) = Z := by rw [hZ]; split <;> omega
        have Z2 : (if W0 / 2 < 1 then 1 else W0 / 2) = Z := by rw [hZ]; split <;> omega
        rw [← hZ] at f4
        have hd9 : decide (Z ≤ P2.li - P2.sp) = true := by simpa using f4
        clear hZ
        go_wp2_with fail
        refine (PLeft_any x P2 _ p10 okP).mono ?_
        rintro e w11 ⟨rfl, q11, rfl⟩
        go_wp2_with fail
        go_ret
        exact ⟨rfl, below_drewN b10 _⟩
      · have e5 : N3 = T3.li := by simpa using HT3.out
        subst e5
        go_wp2_with fail
        refine HGC.out.mono ?_
        rintro e w10 ⟨rfl, p10, g10⟩
        have b10 := below_gb HB.out g10 hxm HB.out.size
        clear HGC HB g10
        obtain ⟨Z, hZ⟩ : ∃ Z, Z = max (W0 / 2) 1 := ⟨_, rfl⟩
        have Z1 : (if 1 < W0 / 2 then W0 / 2 else 1) = Z := by rw [hZ]; split <;> omega
        have Z2 : (if W0 / 2 < 1 then 1 else W0 / 2) = Z := by rw [hZ]; split <;> omega
        rw [← hZ] at f4
        have hd9 : decide (Z ≤ P2.li - P2.sp) = true := by simpa using f4
        clear hZ
        go_wp2_with fail
        refine (PLeft_any x P2 _ p10 okP).mono ?_
        rintro e w11 ⟨rfl, q11, rfl⟩
        go_wp2_with fail
        go_ret
        exact ⟨rfl, below_drewN b10 _⟩
end Go.Proofs.Ytgddlamfjjdlfaa
