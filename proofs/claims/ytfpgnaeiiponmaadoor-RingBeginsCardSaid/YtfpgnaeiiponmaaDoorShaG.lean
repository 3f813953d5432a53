import Derived.Test.YtfpgnaeiiponmaaDoorShaF
import Derived.Deep.DeepCutAuto
namespace Go.Proofs.YtfpgnaeiiponmaaDoor
open Go.RowKit
set_option linter.unusedVariables false

theorem Dg.grown {w w' : World} {g : Nat} {st blk : List Int} {held total : Int} (h : Dg w g st blk held total) {row : Option Nat} (hg : w.grownBy w' row) (hne : some g ≠ row) : Dg w' g st blk held total := ⟨h.1.grown hg hne, h.2⟩

theorem blk_second (w : World) (o : Obj) (t : TypeId) (cs : Array Value) : Blk ((w.alloc o).alloc (.cells cs t)) (w.heap.size + 1) t cs := by
  have h := Blk.new (w.alloc o) t cs
  have e : (w.alloc o).heap.size = w.heap.size + 1 := by simp
  rw [e] at h
  exact h

def mid (m : List Int) : List Int := if 56 < (m.length + 1) % 64 then m ++ [128] ++ List.replicate (64 - (m.length + 1) % 64) 0 else m ++ [128]

def outb (S : St) : List Int := (List.range 32).map fun i => S.list.getD (i / 4) 0 / 2 ^ (24 - 8 * (i % 4)) % 256
def be8 (L : Int) : List Int := (List.range 8).map fun i => L / 2 ^ (56 - 8 * i) % 256
/-- The padded message. -/
def padm (m : List Int) : List Int := mid m ++ (List.replicate (56 - (mid m).length % 64) 0 ++ be8 ((m.length : Int) * 8))
theorem eat_full {s : St} {m cs blk : List Int} (hbl : blk.length = 64) (ht : blk.take (m.length % 64) = m.drop (64 * (m.length / 64))) (hn : m.length % 64 + cs.length = 64) :
    eat ((m ++ cs).length / 64) s (m ++ cs) = compr (eat (m.length / 64) s m) (sch (blk.take (m.length % 64) ++ cs ++ blk.drop (m.length % 64 + cs.length)) 64) := by
  have e1 : (m ++ cs).length / 64 = m.length / 64 + 1 := by rw [List.length_append]; omega
  have hp := tail_put (cs := cs) hbl ht (by omega)
  have hl : (blk.take (m.length % 64) ++ cs ++ blk.drop (m.length % 64 + cs.length)).length = 64 := by simp; omega
  rw [List.take_of_length_le (Nat.le_of_eq (hl.trans hn.symm))] at hp
  rw [e1, eat_last, eat_more _ _ _ _ (by omega)]
  have e3 : ((m ++ cs).drop (64 * (m.length / 64))).take 64 = blk.take (m.length % 64) ++ cs ++ blk.drop (m.length % 64 + cs.length) := by
    rw [← hp, List.take_of_length_le (Nat.le_of_eq hl)]
  rw [e3]
theorem mid_le (m : List Int) : (mid m).length % 64 ≤ 56 := by
  unfold mid
  split
  · simp only [List.length_append, List.length_cons, List.length_nil, List.length_replicate]; omega
  · simp only [List.length_append, List.length_cons, List.length_nil]; omega

set_option maxRecDepth 100000 in
set_option maxHeartbeats 800000 in
theorem sum_any (g : Nat) (s : St) (m : List Int) (w : World) (hd : Hs w g s m m.length) (hK : KTab w) (hg1 : 1 ≠ g) (hlen : m.length ≤ 1152921504606846000) :
    Calls Tryd.prog 25 #[.pointer (some ⟨g, 0, none⟩)] w fun r w' => r = .returned (.agg (IV .u8 (outb (eat ((padm m).length / 64) s (padm m)))).toArray) ∧ w.grownBy w' (some g) := by
  have hs := hd
  obtain ⟨h1, h2, blk, hD, hB, hT⟩ := hd
  have hg := hD.1.lt
  have c73 := hD.atTotal
  have HS := Lib.hid hs
  have HL := Lib.hid hlen
  have HK := Lib.hid hK
  have i2 : IntKind.u64.wrap ((m.length : Int) * 8) = (m.length : Int) * 8 := IntWalk.u64_in _ (by omega)
  have C := Lib.hid fun W (h : Below w.heap.size w W) (hrd : Rd W (some ⟨w.heap.size + 1, 0, none⟩) [128]) => write_any g s m [128] (some ⟨w.heap.size + 1, 0, none⟩) 1 W (hs.below h hg) hrd
    (by intro x hx; simp at hx; omega) (by rintro - a ⟨⟩; show w.heap.size + 1 ≠ g; omega) (by simp) (hK.below h) hg1 (by simp; omega)
  obtain ⟨X, hX⟩ : ∃ X, X = m ++ [128] := ⟨_, rfl⟩
  rw [← hX] at C
  have hXl : X.length = m.length + 1 := by rw [hX]; simp
  have HX := Lib.hid hX
  have HXL := Lib.hid hXl
  have n8 : w.heap.size ≠ g := by omega
  clear hs hD hB hT hlen hK hX hXl
  go_enter Tryd.func25, Tryd.ntmps25
  go_upto_if 19 with (go_at_call 24; go_must (refine (C.out _ (((Below.refl _ _).alloc (Nat.le_refl _) _).alloc (by simp) _) (Rd.of_own (base := 0) (c := 1) (Own.new (l := [128]) (blk_second _ _ _ _) (Nat.zero_le _) (by simp [maxLen])))).mono ?_); rintro e w1 ⟨rfl, hs1, o1⟩; have hs1' := hs1; obtain ⟨-, hbm1, bk1, d1, hb1, ht1⟩ := hs1'; have c1 := d1.atHeld; have HS1 := Lib.hid hs1; clear hs1; have HD1 := Lib.hid d1; have HB1 := Lib.hid hb1; have HT1 := Lib.hid ht1; have HBM1 := Lib.hid hbm1; clear d1 hb1 ht1 hbm1; have O1 := Lib.hid o1; clear o1)
  go_cut [] (fun wx => Hs wx g s (mid m) X.length ∧ Blk wx w.heap.size 29 (IV .u8 (List.replicate 32 0)).toArray ∧ KTab wx ∧ w.grownBy wx (some g))
  case first =>
    have hXl := HXL.out
    have hXd := HX.out
    have hok := eat_ok (X.length / 64) s X h1 HBM1.out
    have kW : KTab w1 := (HK.out.below (((Below.refl w.heap.size w).alloc (Nat.le_refl _) _).alloc (by simp) _)).grown O1.out hg1
    have bO : Blk w1 w.heap.size 29 (IV .u8 (List.replicate 32 0)).toArray := ((Blk.new w 29 (IV .u8 (List.replicate 32 0)).toArray).alloc _).grown O1.out (by simpa using n8)
    have oW : w.grownBy w1 (some g) := only_trans (only_of_below (((Below.refl w.heap.size w).alloc (Nat.le_refl _) _).alloc (by simp) _) _) O1.out
    by_cases hbig : 56 < X.length % 64
    · have hh : X.length % 64 < 64 := by omega
      have d2w : ∀ W, Dg W g (eat (X.length / 64) s X).list (bk1.take (X.length % 64) ++ List.replicate (64 - X.length % 64) 0 ++ bk1.drop 64) ((X.length % 64 : Nat) : Int) X.length → Dg W g (eat (X.length / 64) s X).list (bk1.take (X.length % 64) ++ List.replicate (64 - X.length % 64) 0 ++ bk1.drop (X.length % 64 + (List.replicate (64 - X.length % 64) (0 : Int)).length)) ((X.length % 64 : Nat) : Int) X.length := by
        intro W h
        rw [List.length_replicate, show X.length % 64 + (64 - X.length % 64) = 64 by omega]
        exact h
      have zB : Bytes (List.replicate (64 - X.length % 64) (0 : Int)) := by intro x hx; rw [List.eq_of_mem_replicate hx]; decide
      have bB := put_bytes (X.length % 64) HB1.out zB
      have C2 := Lib.hid (fill_any g _ bk1 _ w1 (X.length % 64) 64 HD1.out hh (by omega) (by omega))
      have C3 := Lib.hid fun W (h : Dg W g (eat (X.length / 64) s X).list (bk1.take (X.length % 64) ++ List.replicate (64 - X.length % 64) 0 ++ bk1.drop 64) ((X.length % 64 : Nat) : Int) X.length) (hk : KTab W) => mix_any g _ _ _ _ W (d2w W h) bB hok hk hg1
      have em : mid m = X ++ List.replicate (64 - X.length % 64) 0 := by rw [mid, ← hXl, if_pos hbig, hXd]
      have KW := Lib.hid kW
      have BO := Lib.hid bO
      have OW := Lib.hid oW
      have ZB := Lib.hid zB
      have EM := Lib.hid em
      have HXd := Lib.hid hXd
      have HXl := Lib.hid hXl
      have hb1 : (56 : Int) < (X.length : Int) % 64 := by omega
      clear kW bO oW zB em d2w bB hXd hXl hok
      go_wp2_with (first
        | (go_at_call 34; refine C2.out.mono ?_; rintro e w2 ⟨rfl, d2, o2⟩; have HD2 := Lib.hid d2; clear d2; have KW2 := Lib.hid (KW.out.grown o2 hg1); have OW2 := Lib.hid (only_trans OW.out o2); have BO2 := Lib.hid (BO.out.grown o2 (by simpa using n8)); clear o2)
        | (go_at_call 33; refine (C3.out _ HD2.out KW2.out).mono ?_; rintro e w3 ⟨rfl, d3, o3⟩; have HD3 := Lib.hid d3; clear d3; have KW3 := Lib.hid (KW2.out.grown o3 hg1); have OW3 := Lib.hid (only_trans OW2.out o3); have BO3 := Lib.hid (BO2.out.grown o3 (by simpa using n8)); clear o3))
      go_meet
      refine ⟨?_, BO3.out, KW3.out, OW3.out⟩
      rw [EM.out]
      exact Hs.full (blk := bk1) h1 HBM1.out ZB.out HD1.out.2.2 HB1.out HT1.out (by rw [List.length_replicate]; omega) HD3.out
    · have em : mid m = X := by rw [mid, ← hXl, if_neg hbig, hXd]
      have KW := Lib.hid kW
      have BO := Lib.hid bO
      have OW := Lib.hid oW
      have EM := Lib.hid em
      have hb1 : ¬ (56 : Int) < (X.length : Int) % 64 := by omega
      clear kW bO oW em hXd hXl hok
      go_wp2_with fail
      go_meet
      refine ⟨?_, BO.out, KW.out, OW.out⟩
      rw [EM.out]
      exact HS1.out
  case rest =>
    obtain ⟨hs2, bO, kW, oW⟩ := hcut
    obtain ⟨-, hbm, bk, d2, hB, hT⟩ := hs2
    obtain ⟨M, hM⟩ : ∃ M, M = mid m := ⟨_, rfl⟩
    have hml : M.length % 64 ≤ 56 := by rw [hM]; exact mid_le m
    rw [← hM] at d2 hbm hT
    obtain ⟨h, hh⟩ : ∃ h, h = M.length % 64 := ⟨_, rfl⟩
    rw [← hh] at d2 hT hml
    have C2 := Lib.hid (fill_any g _ bk _ wc h 56 d2 (by omega) hml (by omega))
    have KW := Lib.hid kW
    have BO := Lib.hid bO
    have OW := Lib.hid oW
    have HH := Lib.hid hh
    have HM := Lib.hid hM
    have HBM := Lib.hid hbm
    have HB := Lib.hid hB
    have HT := Lib.hid hT
    have hlk := d2.2.2
    have HLK := Lib.hid hlk
    clear kW bO oW hh hM hbm hB hT d2 hlk C
    go_wp2_with (go_at_call 34; refine C2.out.mono ?_; rintro e w3 ⟨rfl, d3, o3⟩; have HD3 := Lib.hid d3; clear d3; have KW3 := Lib.hid (KW.out.grown o3 hg1); have OW3 := Lib.hid (only_trans OW.out o3); have BO3 := Lib.hid (BO.out.grown o3 (by simpa using n8)); clear o3)
    have hml2 : h ≤ 56 := hml
    obtain ⟨F, hF⟩ : ∃ F, F = bk.take h ++ List.replicate (56 - h) 0 := ⟨_, rfl⟩
    have hFl : F.length = 56 := by rw [hF, List.length_append, List.length_take, List.length_replicate, HLK.out]; omega
    have hFB : Bytes F := by rw [hF]; exact (HB.out.take h).append (by intro x hx; rw [List.eq_of_mem_replicate hx]; decide)
    have HD4 := Lib.hid (show Dg w3 g _ (F ++ bk.drop 56) _ _ by rw [hF]; exact HD3.out)
    obtain ⟨L, hL⟩ : ∃ L : Int, L = (m.length : Int) * 8 := ⟨_, rfl⟩
    have hL0 : 0 ≤ L := by omega
    have hL1 : L < 18446744073709551616 := by have := HL.out; omega
    have HF := Lib.hid hF
    have HFL := Lib.hid hFl
    have HFB := Lib.hid hFB
    have HLL := Lib.hid hL
    clear hF hFl hFB HD3
    rw [← hL]
    clear hL
    go_loopw [26] (fun i wr => ∃ (j : Nat) (bj : List Int), j ≤ 8 ∧ i = .int .i64 j ∧ Dg wr g (eat (M.length / 64) s M).list bj h X.length ∧ bj.take (56 + j) = F ++ (be8 L).take j ∧ Bytes bj ∧ Blk wr w.heap.size 29 (IV .u8 (List.replicate 32 0)).toArray ∧ KTab wr ∧ w.grownBy wr (some g)) (fun i _ => 8 - (intOf i).toNat)
    case atStart =>
      refine ⟨0, _, by omega, rfl, HD4.out, ?_, HFB.out.append (HB.out.drop 56), BO3.out, KW3.out, OW3.out⟩
      rw [List.take_append_of_le_length (by rw [HFL.out]; omega), List.take_of_length_le (by rw [HFL.out]; omega)]
      simp
    case round =>
      obtain ⟨j, bj, hj, rfl, dj, tj, Bj, bO, kW, oW⟩ := hrel
      by_cases hj8 : j < 8
      · have e1 : IntKind.i64.wrap (8 * (j : Int)) = 8 * (j : Int) := IntWalk.i64_in _ (by omega)
        have e2 : IntKind.i64.wrap (56 - 8 * (j : Int)) = 56 - 8 * (j : Int) := IntWalk.i64_in _ (by omega)
        have e3 : IntKind.i64.wrap (56 + (j : Int)) = 56 + (j : Int) := IntWalk.i64_in _ (by omega)
        have e4 : (0 : Int) ≤ 56 - 8 * (j : Int) := by omega
        have e5 : ¬ (56 - 8 * (j : Int) < 0) := by omega
        have e6 : (j : Int) < 8 := by omega
        have e7 : (56 : Int) + j < 64 := by omega
        have e8 : (0 : Int) ≤ 56 + (j : Int) := by omega
        have DJ := Lib.hid dj
        have TJ := Lib.hid tj
        have BJ := Lib.hid Bj
        have BO := Lib.hid bO
        have KW := Lib.hid kW
        have OW := Lib.hid oW
        clear dj tj Bj bO kW oW
        go_wp2_with fail
        go_still_tail 12, (by kernel_rfl)
        have hv : IntKind.u8.wrap (L / 2 ^ (56 - 8 * (j : Int)).toNat) = L / 2 ^ (56 - 8 * j) % 256 := by
          rw [show (56 - 8 * (j : Int)).toNat = 56 - 8 * j by omega]
          rfl
        rw [hv, show (56 + (j : Int)).toNat = 56 + j by omega]
        obtain ⟨y, hy⟩ : ∃ y, y = L / 2 ^ (56 - 8 * j) % 256 := ⟨_, rfl⟩
        rw [← hy]
        have hget : (be8 L)[j]? = some y := by rw [be8, List.getElem?_map, List.getElem?_range hj8, hy]; rfl
        have hy0 : 0 ≤ y ∧ y < 256 := by rw [hy]; omega
        have HY := Lib.hid hget
        have HY0 := Lib.hid hy0
        clear hv hy hget hy0
        obtain ⟨w2, hw2⟩ : ∃ w2, w2 = wr.drew := ⟨_, rfl⟩
        change wpList _ _ _ _ _ wr.drew
        have d2 : Dg w2 g (eat (M.length / 64) s M).list bj h X.length := by rw [hw2]; exact DJ.out
        have o2 : w.grownBy w2 (some g) := by rw [hw2]; exact only_drewN OW.out 1
        have k2 : KTab w2 := by rw [hw2]; exact KW.out
        have b2 : Blk w2 w.heap.size 29 (IV .u8 (List.replicate 32 0)).toArray := by rw [hw2]; exact BO.out
        rw [← hw2]
        clear hw2
        have hbl := d2.2.2
        obtain ⟨z, hz⟩ : ∃ z, bj[56 + j]? = some z := ⟨_, List.getElem?_eq_getElem (by omega)⟩
        have hc := d2.atBlk hz
        have hf := d2.1.frozen (8 + (56 + j))
        have d3 := d2.setBlk (56 + j) y (by omega)
        have o3 := only_setCell o2 (p := ⟨g, 8 + (56 + j), none⟩) (.inl rfl) (.int .u8 y)
        have q3 := only_setCell (World.grownBy.refl w2 (some g)) (p := ⟨g, 8 + (56 + j), none⟩) (.inl rfl) (.int .u8 y)
        have D3 := Lib.hid d3
        have O3 := Lib.hid o3
        have K3 := Lib.hid (k2.grown q3 hg1)
        have B3 := Lib.hid (b2.grown q3 (by simpa using n8))
        have HBL := Lib.hid hbl
        clear d3 o3 q3 k2 b2 d2 o2 hbl hz DJ KW BO OW
        go_wp2_with fail
        go_roundw
        case rel =>
          refine ⟨j + 1, bj.set (56 + j) y, by omega, by simp, D3.out, ?_, ?_, B3.out, K3.out, O3.out⟩
          · have hbl := HBL.out
            have e := TJ.out
            rw [List.set_eq_take_append_cons_drop, if_pos (by omega), e, List.take_append, show (F ++ (be8 L).take j).length = 56 + j by rw [← e, List.length_take]; omega,
              List.take_of_length_le (by rw [← e, List.length_take]; omega), show 56 + (j + 1) - (56 + j) = 1 by omega, List.take_add_one (i := j), HY.out, List.append_assoc]
            rfl
          · intro x hx
            rcases List.mem_or_eq_of_mem_set hx with hx | rfl
            · exact BJ.out x hx
            · exact HY0.out
        case measure => show 8 - ((j : Int) + 1).toNat < 8 - (j : Int).toNat; omega
      · obtain rfl : j = 8 := by omega
        rw [show ((8 : Nat) : Int) = 8 by rfl]
        have hok := eat_ok (M.length / 64) s M h1 HBM.out
        have hbl := dj.2.2
        have ebj : bj = bk.take (M.length % 64) ++ (List.replicate (56 - h) 0 ++ be8 L) ++ bk.drop (M.length % 64 + (List.replicate (56 - h) (0 : Int) ++ be8 L).length) := by
          have e := tj
          rw [show 56 + 8 = bj.length by omega, List.take_of_length_le (Nat.le_refl _), HF.out, show (be8 L).take 8 = be8 L from List.take_of_length_le (by simp [be8])] at e
          have h8 : (be8 L).length = 8 := by simp [be8]
          rw [← HH.out, List.length_append, List.length_replicate, h8, List.drop_of_length_le (by rw [HLK.out]; omega), e]
          simp
        have C4 := Lib.hid (mix_any g _ bj h X.length wr dj Bj hok kW hg1)
        have DJ := Lib.hid dj
        have EBJ := Lib.hid ebj
        have BO := Lib.hid bO
        have KW := Lib.hid kW
        have OW := Lib.hid oW
        clear dj tj Bj bO kW oW ebj hok hbl
        go_wp2_with (go_at_call 33; refine C4.out.mono ?_; rintro e w5 ⟨rfl, d5, o5⟩; have D5 := Lib.hid d5; clear d5; have OW5 := Lib.hid (only_trans OW.out o5); have BO5 := Lib.hid (BO.out.grown o5 (by simpa using n8)); clear o5)
        obtain ⟨S, hS⟩ : ∃ S, S = compr (eat (M.length / 64) s M) (sch bj 64) := ⟨_, rfl⟩
        rw [← hS] at D5
        have HS5 := Lib.hid hS
        clear hS C4 DJ BO OW KW
        have hlt5 : w.heap.size ≤ w5.heap.size := OW5.out.size
        have gl5 : g ≠ w5.heap.size := by omega
        have b6 := Blk.new w5 29 (IV .u8 (List.replicate 32 0)).toArray
        have z6 : Blk (w5.alloc (.cells (IV .u8 (List.replicate 32 0)).toArray 29)) w.heap.size 29 (IV .u8 (List.replicate 32 0)).toArray := BO5.out.alloc _
        have d6 : Dg (w5.alloc (.cells (IV .u8 (List.replicate 32 0)).toArray 29)) g S.list bj 0 X.length := ⟨D5.out.1.alloc _, D5.out.2⟩
        have o6 : w.grownBy (w5.alloc (.cells (IV .u8 (List.replicate 32 0)).toArray 29)) (some g) := only_trans OW5.out (only_of_below (((Below.refl w5.heap.size w5).alloc (Nat.le_refl _) _)) _)
        change Code.wp _ _ _ _ (w5.alloc (.cells (IV .u8 (List.replicate 32 0)).toArray 29))
        generalize (w5.alloc (.cells (IV .u8 (List.replicate 32 0)).toArray 29)) = W6 at b6 z6 d6 o6 ⊢
        have n9 : w.heap.size ≠ w5.heap.size := by have := BO5.out.lt; omega
        obtain ⟨G, hG⟩ : ∃ G, G = w5.heap.size := ⟨_, rfl⟩
        rw [← hG] at b6 hlt5 gl5 n9 ⊢
        clear hG D5 OW5 BO5
        go_loopw [44] (fun i wr => ∃ (j : Nat), j ≤ 32 ∧ i = .int .i64 j ∧ Blk wr G 29 (IV .u8 ((outb S).take j ++ List.replicate (32 - j) 0)).toArray ∧ Blk wr w.heap.size 29 (IV .u8 (List.replicate 32 0)).toArray ∧ Dg wr g S.list bj 0 X.length ∧ w.grownBy wr (some g)) (fun i _ => 32 - (intOf i).toNat)
        case atStart => exact ⟨0, by omega, rfl, b6, z6, d6, o6⟩
        case round =>
          obtain ⟨j, hj, rfl, bj6, zj, dj, oj⟩ := hrel
          by_cases hj32 : j < 32
          · obtain ⟨x, hx⟩ : ∃ x, S.list[j / 4]? = some x := ⟨_, List.getElem?_eq_getElem (by show j / 4 < 8; omega)⟩
            have cx := dj.atSt hx
            have q1 : IntKind.i64.wrap ((j : Int).tdiv 4) = ((j / 4 : Nat) : Int) := by rw [Int.tdiv_eq_ediv_of_nonneg (by omega), IntWalk.i64_in _ (by omega)]; omega
            have q2 : (j : Int).tmod 4 = ((j % 4 : Nat) : Int) := by rw [Int.tmod_eq_emod_of_nonneg (by omega)]; omega
            have q3 : IntKind.i64.wrap (8 * ((j % 4 : Nat) : Int)) = 8 * ((j % 4 : Nat) : Int) := IntWalk.i64_in _ (by omega)
            have q4 : IntKind.i64.wrap (24 - 8 * ((j % 4 : Nat) : Int)) = 24 - 8 * ((j % 4 : Nat) : Int) := IntWalk.i64_in _ (by omega)
            have q5 : (0 : Int) ≤ 24 - 8 * ((j % 4 : Nat) : Int) := by omega
            have q6 : (j : Int) < 32 := by omega
            have q7 : ((j / 4 : Nat) : Int) < 8 := by omega
            have hol : (outb S).length = 32 := by simp [outb]
            have hcz : wr.cell? ⟨G, j, none⟩ = some (.int .u8 0) := bj6.cell_i (by rw [List.getElem?_append_right (by rw [List.length_take]; omega), List.length_take, List.getElem?_replicate, if_pos (by omega)])
            have hfz := bj6.frozen j
            have hsto := bj6.store_i j (x / 2 ^ (24 - 8 * (j % 4)) % 256)
            have hlist : ((outb S).take j ++ List.replicate (32 - j) 0).set j (x / 2 ^ (24 - 8 * (j % 4)) % 256) = (outb S).take (j + 1) ++ List.replicate (32 - (j + 1)) 0 := by
              have hg : (outb S)[j]? = some (x / 2 ^ (24 - 8 * (j % 4)) % 256) := by
                rw [outb, List.getElem?_map, List.getElem?_range hj32, Option.map_some, List.getD_eq_getElem?_getD, hx]; rfl
              rw [List.set_append_right _ _ (by rw [List.length_take]; omega), List.length_take, show j - min j (outb S).length = 0 by omega, show 32 - j = (32 - (j + 1)) + 1 by omega, List.replicate_succ, List.set_cons_zero, List.take_add_one (i := j), hg, List.append_assoc]
              rfl
            rw [hlist] at hsto
            have HSTO := Lib.hid hsto
            clear hlist hsto hol hx
            have B7 := Lib.hid bj6
            have Z7 := Lib.hid zj
            have D7 := Lib.hid dj
            have O7 := Lib.hid oj
            clear bj6 zj dj oj
            go_wp2_with fail
            refine ⟨⟨j + 1, by omega, by simp, HSTO.out, Z7.out.far (p := ⟨G, j, none⟩) n9 _, ⟨D7.out.1.far (p := ⟨G, j, none⟩) gl5 _, D7.out.2⟩, only_setCell O7.out (.inr hlt5) _⟩, ?_⟩
            show 32 - ((j : Int) + 1).toNat < 32 - (j : Int).toNat
            omega
          · obtain rfl : j = 32 := by omega
            rw [Nat.sub_self, List.replicate_zero, List.append_nil, List.take_of_length_le (by simp [outb])] at bj6
            rw [show ((32 : Nat) : Int) = 32 from rfl]
            obtain ⟨OUT, hOUT⟩ : ∃ OUT, OUT = outb S := ⟨_, rfl⟩
            rw [← hOUT] at bj6
            have hsz : (IV .u8 OUT).toArray.size = 32 := by rw [hOUT]; simp [IV, outb]
            have hinfo : (Tryd.prog.info? 29).map (·.size) = some 32 := by kernel_rfl
            have hall : (IV .u8 OUT).toArray.all (·.oneCell') = true := by simp [IV, Value.oneCell']
            have k2' : wr.heap[G]? = some (.cells (IV .u8 OUT).toArray 29 (0, 0)) := bj6
            have k1' : wr.heap[w.heap.size]? = some (.cells (IV .u8 (List.replicate 32 0)).toArray 29 (0, 0)) := zj
            have H2 := Lib.hid k2'
            have H1 := Lib.hid k1'
            have HSZ := Lib.hid hsz
            have HIN := Lib.hid hinfo
            have HAL := Lib.hid hall
            have HOUT := Lib.hid hOUT
            have OJ := Lib.hid oj
            have ZJ := Lib.hid zj
            clear k2' k1' bj6 zj dj oj hsz hinfo hall hOUT
            go_wp2_with (first
              | refine wpList_load_row rfl 29 (.tmp 5) rfl G rfl 29 (IV .u8 OUT).toArray (0, 0) _ H2.out Tryd.underlying29 rfl (by rw [HSZ.out]; exact HIN.out) ?_
              | refine wpList_store_row rfl 29 (.tmp 2) (.tmp 63) rfl w.heap.size (IV .u8 OUT).toArray rfl rfl 29 _ H1.out (by rw [HSZ.out]; exact HIN.out) (by rw [HSZ.out]; simp [IV]) HAL.out ?_)
            have eS : eat ((padm m).length / 64) s (padm m) = S := by
              rw [padm, ← HM.out, ← HH.out, ← HLL.out, HS5.out, EBJ.out]
              refine eat_full HLK.out ?_ ?_
              · rw [← HH.out]; exact HT.out
              · have := HH.out; rw [← HH.out, List.length_append, List.length_replicate]; simp [be8]; omega
            rw [eS, ← HOUT.out]
            refine bodyPost_ret (v := .agg (IV .u8 OUT).toArray) (results_cell_row rfl _ _ w.heap.size 29 _ (0, 0) _ rfl (Blk.row H1.out _) Tryd.underlying29 rfl (by rw [HSZ.out]; exact HIN.out)) rfl ⟨rfl, ?_⟩
            exact ⟨OJ.out.os, OJ.out.tape, OJ.out.output, by simpa [World.setRow] using OJ.out.size, fun i hi hne => (setRow_other wr w.heap.size i _ (by omega)).trans (OJ.out.block i hi hne)⟩
end Go.Proofs.YtfpgnaeiiponmaaDoor
