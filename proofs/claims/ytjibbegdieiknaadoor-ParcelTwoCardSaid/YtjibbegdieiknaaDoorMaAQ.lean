/-
  Joined texts.
-/
import Derived.Test.YtjibbegdieiknaaDoorMaAP
import Derived.Deep.DeepCutAuto
import Derived.Deep.OwnRows
namespace Go.Proofs.YtjibbegdieiknaaDoor
set_option maxRecDepth 100000
open Go.RowKit
set_option linter.unusedVariables false

theorem Dg.grown {w w' : World} {g : Nat} {st blk : List Int} {held total : Int} (h : Dg w g st blk held total) {row : Option Nat} (hg : w.grownBy w' row) (hne : some g ≠ row) : Dg w' g st blk held total := ⟨h.1.grown hg hne, h.2⟩

def mid (m : List Int) : List Int := if 56 < (m.length + 1) % 64 then m ++ [128] ++ List.replicate (64 - (m.length + 1) % 64) 0 else m ++ [128]

def outb (S : St) : List Int := (List.range 32).map fun i => S.list.getD (i / 4) 0 / 2 ^ (24 - 8 * (i % 4)) % 256
def be8 (L : Int) : List Int := (List.range 8).map fun i => L / 2 ^ (56 - 8 * i) % 256
/-- The padded message. -/
def padm (m : List Int) : List Int := mid m ++ (List.replicate (56 - (mid m).length % 64) 0 ++ be8 ((m.length : Int) * 8))
theorem eat_full {s : St} {m cs blk : List Int} (hbl : blk.length = 64) (ht : blk.take (m.length % 64) = m.drop (64 * (m.length / 64))) (hn : m.length % 64 + cs.length = 64) :
    eat ((m ++ cs).length / 64) s (m ++ cs) = compr (eat (m.length / 64) s m) (sch (blk.take (m.length % 64) ++ cs ++ blk.drop (m.length % 64 + cs.length)) 64) := by
  have e1 : (m ++ cs).length / 64 = m.length / 64 + 1 := by rw [List.length_append]; omega
  have hp := tail_put (cs := cs) hbl ht (by omega)
  have hl : (blk.take (m.length % 64) ++ cs ++ blk.drop (m.length % 64 + cs.length)).length = 64 := by simp; omega
  rw [List.take_of_length_le (Nat.le_of_eq (hl.trans hn.symm))] at hp
  rw [e1, eat_last, eat_more _ _ _ _ (by omega)]
  have e3 : ((m ++ cs).drop (64 * (m.length / 64))).take 64 = blk.take (m.length % 64) ++ cs ++ blk.drop (m.length % 64 + cs.length) := by
    rw [← hp, List.take_of_length_le (Nat.le_of_eq hl)]
  rw [e3]
theorem mid_le (m : List Int) : (mid m).length % 64 ≤ 56 := by
  unfold mid
  split
  · simp only [List.length_append, List.length_cons, List.length_nil, List.length_replicate]; omega
  · simp only [List.length_append, List.length_cons, List.length_nil]; omega

set_option maxRecDepth 100000 in
set_option maxHeartbeats 800000 in
theorem sum_any (g : Nat) (s : St) (m : List Int) (w : World) (hd : Hs w g s m m.length) (hK : KTab w) (hg1 : 3 ≠ g) (hlen : m.length ≤ 1152921504606846000) :
    Calls Tryd.prog 69 #[.pointer (some ⟨g, 0, none⟩)] w fun r w' => r = .returned (.agg (IV .u8 (outb (eat ((padm m).length / 64) s (padm m)))).toArray) ∧ w.grownBy w' (some g) := by
  have hs := hd
  obtain ⟨h1, h2, blk, hD, hB, hT⟩ := hd
  have hg := hD.1.lt
  have c73 := hD.atTotal
  have HS := Lib.hid hs
  have HL := Lib.hid hlen
  have HK := Lib.hid hK
  have i2 : IntKind.u64.wrap ((m.length : Int) * 8) = (m.length : Int) * 8 := IntWalk.u64_in _ (by omega)
  have C := Lib.hid fun W (h : Below w.heap.size w W) (hrd : Rd W (some ⟨w.heap.size + 1, 0, none⟩) [128]) => write_any g s m [128] (some ⟨w.heap.size + 1, 0, none⟩) 1 W (hs.below h hg) hrd
    (by intro x hx; simp at hx; omega) (by rintro - a ⟨⟩; show w.heap.size + 1 ≠ g; omega) (by simp) (hK.below h) hg1 (by simp; omega)
  obtain ⟨X, hX⟩ : ∃ X, X = m ++ [128] := ⟨_, rfl⟩
  rw [← hX] at C
  have hXl : X.length = m.length + 1 := by rw [hX]; simp
  have HX := Lib.hid hX
  have HXL := Lib.hid hXl
  have n8 : w.heap.size ≠ g := by omega
  clear hs hD hB hT hlen hK hX hXl
  go_enter Tryd.func69, Tryd.ntmps69
  go_upto_if 19 with (go_at_call 67; go_must (refine (C.out _ (((Below.refl _ _).alloc (Nat.le_refl _) _).alloc (by simp) _) (Rd.of_own (base := 0) (c := 1) (Own.new (l := [128]) (blk_second _ _ _ _) (Nat.zero_le _) (by simp [maxLen])))).mono ?_); rintro e w1 ⟨rfl, hs1, o1⟩; have hs1' := hs1; obtain ⟨-, hbm1, bk1, d1, hb1, ht1⟩ := hs1'; have c1 := d1.atHeld; have HS1 := Lib.hid hs1; clear hs1; have HD1 := Lib.hid d1; have HB1 := Lib.hid hb1; have HT1 := Lib.hid ht1; have HBM1 := Lib.hid hbm1; clear d1 hb1 ht1 hbm1; have O1 := Lib.hid o1; clear o1)
  go_cut [] (fun wx => Hs wx g s (mid m) X.length ∧ Blk wx w.heap.size 22 (IV .u8 (List.replicate 32 0)).toArray ∧ KTab wx ∧ w.grownBy wx (some g))
  case first =>
    have hXl := HXL.out
    have hXd := HX.out
    have hok := eat_ok (X.length / 64) s X h1 HBM1.out
    have kW : KTab w1 := (HK.out.below (((Below.refl w.heap.size w).alloc (Nat.le_refl _) _).alloc (by simp) _)).grown O1.out hg1
    have bO : Blk w1 w.heap.size 22 (IV .u8 (List.replicate 32 0)).toArray := ((Blk.new w 22 (IV .u8 (List.replicate 32 0)).toArray).alloc _).grown O1.out (by simpa using n8)
    have oW : w.grownBy w1 (some g) := only_trans (only_of_below (((Below.refl w.heap.size w).alloc (Nat.le_refl _) _).alloc (by simp) _) _) O1.out
    by_cases hbig : 56 < X.length % 64
    · have hh : X.length % 64 < 64 := by omega
      have d2w : ∀ W, Dg W g (eat (X.length / 64) s X).list (bk1.take (X.length % 64) ++ List.replicate (64 - X.length % 64) 0 ++ bk1.drop 64) ((X.length % 64 : Nat) : Int) X.length → Dg W g (eat (X.length / 64) s X).list (bk1.take (X.length % 64) ++ List.replicate (64 - X.length % 64) 0 ++ bk1.drop (X.length % 64 + (List.replicate (64 - X.length % 64) (0 : Int)).length)) ((X.length % 64 : Nat) : Int) X.length := by
        intro W h
        rw [List.length_replicate, show X.length % 64 + (64 - X.length % 64) = 64 by omega]
        exact h
      have zB : Bytes (List.replicate (64 - X.length % 64) (0 : Int)) := by intro x hx; rw [List.eq_of_mem_replicate hx]; decide
      have bB := put_bytes (X.length % 64) HB1.out zB
      have C2 := Lib.hid (fill_any g _ bk1 _ w1 (X.length % 64) 64 HD1.out hh (by omega) (by omega))
      have C3 := Lib.hid fun W (h : Dg W g (eat (X.length / 64) s X).list (bk1.take (X.length % 64) ++ List.replicate (64 - X.length % 64) 0 ++ bk1.drop 64) ((X.length % 64 : Nat) : Int) X.length) (hk : KTab W) => mix_any g _ _ _ _ W (d2w W h) bB hok hk hg1
      have em : mid m = X ++ List.replicate (64 - X.length % 64) 0 := by rw [mid, ← hXl, if_pos hbig, hXd]
      have KW := Lib.hid kW
      have BO := Lib.hid bO
      have OW := Lib.hid oW
      have ZB := Lib.hid zB
      have EM := Lib.hid em
      have HXd := Lib.hid hXd
      have HXl := Lib.hid hXl
      have hb1 : (56 : Int) < (X.length : Int) % 64 := by omega
      clear kW bO oW zB em d2w bB hXd hXl hok
      go_wp2_with (first
        | (go_at_call 83; refine C2.out.mono ?_; rintro e w2 ⟨rfl, d2, o2⟩; have HD2 := Lib.hid d2; clear d2; have KW2 := Lib.hid (KW.out.grown o2 hg1); have OW2 := Lib.hid (only_trans OW.out o2); have BO2 := Lib.hid (BO.out.grown o2 (by simpa using n8)); clear o2)
        | (go_at_call 82; refine (C3.out _ HD2.out KW2.out).mono ?_; rintro e w3 ⟨rfl, d3, o3⟩; have HD3 := Lib.hid d3; clear d3; have KW3 := Lib.hid (KW2.out.grown o3 hg1); have OW3 := Lib.hid (only_trans OW2.out o3); have BO3 := Lib.hid (BO2.out.grown o3 (by simpa using n8)); clear o3))
      go_meet
      refine ⟨?_, BO3.out, KW3.out, OW3.out⟩
      rw [EM.out]
      exact Hs.full (blk := bk1) h1 HBM1.out ZB.out HD1.out.2.2 HB1.out HT1.out (by rw [List.length_replicate]; omega) HD3.out
    · have em : mid m = X := by rw [mid, ← hXl, if_neg hbig, hXd]
      have KW := Lib.hid kW
      have BO := Lib.hid bO
      have OW := Lib.hid oW
      have EM := Lib.hid em
      have hb1 : ¬ (56 : Int) < (X.length : Int) % 64 := by omega
      clear kW bO oW em hXd hXl hok
      go_wp2_with fail
      go_meet
      refine ⟨?_, BO.out, KW.out, OW.out⟩
      rw [EM.out]
      exact HS1.out
  case rest =>
    obtain ⟨hs2, bO, kW, oW⟩ := hcut
    obtain ⟨-, hbm, bk, d2, hB, hT⟩ := hs2
    obtain ⟨M, hM⟩ : ∃ M, M = mid m := ⟨_, rfl⟩
    have hml : M.length % 64 ≤ 56 := by rw [hM]; exact mid_le m
    rw [← hM] at d2 hbm hT
    obtain ⟨h, hh⟩ : ∃ h, h = M.length % 64 := ⟨_, rfl⟩
    rw [← hh] at d2 hT hml
    have C2 := Lib.hid (fill_any g _ bk _ wc h 56 d2 (by omega) hml (by omega))
    have KW := Lib.hid kW
    have BO := Lib.hid bO
    have OW := Lib.hid oW
    have HH := Lib.hid hh
    have HM := Lib.hid hM
    have HBM := Lib.hid hbm
    have HB := Lib.hid hB
    have HT := Lib.hid hT
    have hlk := d2.2.2
    have HLK := Lib.hid hlk
    clear kW bO oW hh hM hbm hB hT d2 hlk C
    go_wp2_with (go_at_call 83; refine C2.out.mono ?_; rintro e w3 ⟨rfl, d3, o3⟩; have HD3 := Lib.hid d3; clear d3; have KW3 := Lib.hid (KW.out.grown o3 hg1); have OW3 := Lib.hid (only_trans OW.out o3); have BO3 := Lib.hid (BO.out.grown o3 (by simpa using n8)); clear o3)
    have hml2 : h ≤ 56 := hml
    obtain ⟨F, hF⟩ : ∃ F, F = bk.take h ++ List.replicate (56 - h) 0 := ⟨_, rfl⟩
    have hFl : F.length = 56 := by rw [hF, List.length_append, List.length_take, List.length_replicate, HLK.out]; omega
    have hFB : Bytes F := by rw [hF]; exact (HB.out.take h).append (by intro x hx; rw [List.eq_of_mem_replicate hx]; decide)
    have HD4 := Lib.hid (show Dg w3 g _ (F ++ bk.drop 56) _ _ by rw [hF]; exact HD3.out)
    obtain ⟨L, hL⟩ : ∃ L : Int, L = (m.length : Int) * 8 := ⟨_, rfl⟩
    have hL0 : 0 ≤ L := by omega
    have hL1 : L < 18446744073709551616 := by have := HL.out; omega
    have HF := Lib.hid hF
    have HFL := Lib.hid hFl
    have HFB := Lib.hid hFB
    have HLL := Lib.hid hL
    clear hF hFl hFB HD3
    rw [← hL]
    clear hL
    go_loopw [26] (fun i wr => ∃ (j : Nat) (bj : List Int), j ≤ 8 ∧ i = .int .i64 j ∧ Dg wr g (eat (M.length / 64) s M).list bj h X.length ∧ bj.take (56 + j) = F ++ (be8 L).take j ∧ Bytes bj ∧ Blk wr w.heap.size 22 (IV .u8 (List.replicate 32 0)).toArray ∧ KTab wr ∧ w.grownBy wr (some g)) (fun i _ => 8 - (intOf i).toNat)
    case atStart =>
      refine ⟨0, _, by omega, rfl, HD4.out, ?_, HFB.out.append (HB.out.drop 56), BO3.out, KW3.out, OW3.out⟩
      rw [List.take_append_of_le_length (by rw [HFL.out]; omega), List.take_of_length_le (by rw [HFL.out]; omega)]
      simp
    case round =>
      obtain ⟨j, bj, hj, rfl, dj, tj, Bj, bO, kW, oW⟩ := hrel
      by_cases hj8 : j < 8
      · have e1 : IntKind.i64.wrap (8 * (j : Int)) = 8 * (j : Int) := IntWalk.i64_in _ (by omega)
        have e2 : IntKind.i64.wrap (56 - 8 * (j : Int)) = 56 - 8 * (j : Int) := IntWalk.i64_in _ (by omega)
        have e3 : IntKind.i64.wrap (56 + (j : Int)) = 56 + (j : Int) := IntWalk.i64_in _ (by omega)
        have e4 : (0 : Int) ≤ 56 - 8 * (j : Int) := by omega
        have e5 : ¬ (56 - 8 * (j : Int) < 0) := by omega
        have e6 : (j : Int) < 8 := by omega
        have e7 : (56 : Int) + j < 64 := by omega
        have e8 : (0 : Int) ≤ 56 + (j : Int) := by omega
        have DJ := Lib.hid dj
        have TJ := Lib.hid tj
        have BJ := Lib.hid Bj
        have BO := Lib.hid bO
        have KW := Lib.hid kW
        have OW := Lib.hid oW
        clear dj tj Bj bO kW oW
        go_wp2_with fail
        go_still_tail 12, (by kernel_rfl)
        have hv : IntKind.u8.wrap (L / 2 ^ (56 - 8 * (j : Int)).toNat) = L / 2 ^ (56 - 8 * j) % 256 := by
          rw [show (56 - 8 * (j : Int)).toNat = 56 - 8 * j by omega]
          rfl
        rw [hv, show (56 + (j : Int)).toNat = 56 + j by omega]
        obtain ⟨y, hy⟩ : ∃ y, y = L / 2 ^ (56 - 8 * j) % 256 := ⟨_, rfl⟩
        rw [← hy]
        have hget : (be8 L)[j]? = some y := by rw [be8, List.getElem?_map, List.getElem?_range hj8, hy]; rfl
        have hy0 : 0 ≤ y ∧ y < 256 := by rw [hy]; omega
        have HY := Lib.hid hget
        have HY0 := Lib.hid hy0
        clear hv hy hget hy0
        obtain ⟨w2, hw2⟩ : ∃ w2, w2 = wr.drew := ⟨_, rfl⟩
        change wpList _ _ _ _ _ wr.drew
        have d2 : Dg w2 g (eat (M.length / 64) s M).list bj h X.length := by rw [hw2]; exact DJ.out
        have o2 : w.grownBy w2 (some g) := by rw [hw2]; exact only_drewN OW.out 1
        have k2 : KTab w2 := by rw [hw2]; exact KW.out
        have b2 : Blk w2 w.heap.size 22 (IV .u8 (List.replicate 32 0)).toArray := by rw [hw2]; exact BO.out
        rw [← hw2]
        clear hw2
        have hbl := d2.2.2
        obtain ⟨z, hz⟩ : ∃ z, bj[56 + j]? = some z := ⟨_, List.getElem?_eq_getElem (by omega)⟩
        have hc := d2.atBlk hz
        have hf := d2.1.frozen (8 + (56 + j))
        have d3 := d2.setBlk (56 + j) y (by omega)
        have o3 := only_setCell o2 (p := ⟨g, 8 + (56 + j), none⟩) (.inl rfl) (.int .u8 y)
        have q3 := only_setCell (World.grownBy.refl w2 (some g)) (p := ⟨g, 8 + (56 + j), none⟩) (.inl rfl) (.int .u8 y)
        have D3 := Lib.hid d3
        have O3 := Lib.hid o3
        have K3 := Lib.hid (k2.grown q3 hg1)
        have B3 := Lib.hid (b2.grown q3 (by simpa using n8))
        have HBL := Lib.hid hbl
        clear d3 o3 q3 k2 b2 d2 o2 hbl hz DJ KW BO OW
        go_wp2_with fail
        go_roundw
        case rel =>
          refine ⟨j + 1, bj.set (56 + j) y, by omega, by simp, D3.out, ?_, ?_, B3.out, K3.out, O3.out⟩
          · have hbl := HBL.out
            have e := TJ.out
            rw [List.set_eq_take_append_cons_drop, if_pos (by omega), e, List.take_append, show (F ++ (be8 L).take j).length = 56 + j by rw [← e, List.length_take]; omega,
              List.take_of_length_le (by rw [← e, List.length_take]; omega), show 56 + (j + 1) - (56 + j) = 1 by omega, List.take_add_one (i := j), HY.out, List.append_assoc]
            rfl
          · intro x hx
            rcases List.mem_or_eq_of_mem_set hx with hx | rfl
            · exact BJ.out x hx
            · exact HY0.out
        case measure => show 8 - ((j : Int) + 1).toNat < 8 - (j : Int).toNat; omega
      · obtain rfl : j = 8 := by omega
        rw [show ((8 : Nat) : Int) = 8 by rfl]
        have hok := eat_ok (M.length / 64) s M h1 HBM.out
        have hbl := dj.2.2
        have ebj : bj = bk.take (M.length % 64) ++ (List.replicate (56 - h) 0 ++ be8 L) ++ bk.drop (M.length % 64 + (List.replicate (56 - h) (0 : Int) ++ be8 L).length) := by
          have e := tj
          rw [show 56 + 8 = bj.length by omega, List.take_of_length_le (Nat.le_refl _), HF.out, show (be8 L).take 8 = be8 L from List.take_of_length_le (by simp [be8])] at e
          have h8 : (be8 L).length = 8 := by simp [be8]
          rw [← HH.out, List.length_append, List.length_replicate, h8, List.drop_of_length_le (by rw [HLK.out]; omega), e]
          simp
        have C4 := Lib.hid (mix_any g _ bj h X.length wr dj Bj hok kW hg1)
        have DJ := Lib.hid dj
        have EBJ := Lib.hid ebj
        have BO := Lib.hid bO
        have KW := Lib.hid kW
        have OW := Lib.hid oW
        clear dj tj Bj bO kW oW ebj hok hbl
        go_wp2_with (go_at_call 82; refine C4.out.mono ?_; rintro e w5 ⟨rfl, d5, o5⟩; have D5 := Lib.hid d5; clear d5; have OW5 := Lib.hid (only_trans OW.out o5); have BO5 := Lib.hid (BO.out.grown o5 (by simpa using n8)); clear o5)
        obtain ⟨S, hS⟩ : ∃ S, S = compr (eat (M.length / 64) s M) (sch bj 64) := ⟨_, rfl⟩
        rw [← hS] at D5
        have HS5 := Lib.hid hS
        clear hS C4 DJ BO OW KW
        have hlt5 : w.heap.size ≤ w5.heap.size := OW5.out.size
        have gl5 : g ≠ w5.heap.size := by omega
        have b6 := Blk.new w5 22 (IV .u8 (List.replicate 32 0)).toArray
        have z6 : Blk (w5.alloc (.cells (IV .u8 (List.replicate 32 0)).toArray 22)) w.heap.size 22 (IV .u8 (List.replicate 32 0)).toArray := BO5.out.alloc _
        have d6 : Dg (w5.alloc (.cells (IV .u8 (List.replicate 32 0)).toArray 22)) g S.list bj 0 X.length := ⟨D5.out.1.alloc _, D5.out.2⟩
        have o6 : w.grownBy (w5.alloc (.cells (IV .u8 (List.replicate 32 0)).toArray 22)) (some g) := only_trans OW5.out (only_of_below (((Below.refl w5.heap.size w5).alloc (Nat.le_refl _) _)) _)
        change Code.wp _ _ _ _ (w5.alloc (.cells (IV .u8 (List.replicate 32 0)).toArray 22))
        generalize (w5.alloc (.cells (IV .u8 (List.replicate 32 0)).toArray 22)) = W6 at b6 z6 d6 o6 ⊢
        have n9 : w.heap.size ≠ w5.heap.size := by have := BO5.out.lt; omega
        obtain ⟨G, hG⟩ : ∃ G, G = w5.heap.size := ⟨_, rfl⟩
        rw [← hG] at b6 hlt5 gl5 n9 ⊢
        clear hG D5 OW5 BO5
        go_loopw [44] (fun i wr => ∃ (j : Nat), j ≤ 32 ∧ i = .int .i64 j ∧ Blk wr G 22 (IV .u8 ((outb S).take j ++ List.replicate (32 - j) 0)).toArray ∧ Blk wr w.heap.size 22 (IV .u8 (List.replicate 32 0)).toArray ∧ Dg wr g S.list bj 0 X.length ∧ w.grownBy wr (some g)) (fun i _ => 32 - (intOf i).toNat)
        case atStart => exact ⟨0, by omega, rfl, b6, z6, d6, o6⟩
        case round =>
          obtain ⟨j, hj, rfl, bj6, zj, dj, oj⟩ := hrel
          by_cases hj32 : j < 32
          · obtain ⟨x, hx⟩ : ∃ x, S.list[j / 4]? = some x := ⟨_, List.getElem?_eq_getElem (by show j / 4 < 8; omega)⟩
            have cx := dj.atSt hx
            have q1 : IntKind.i64.wrap ((j : Int).tdiv 4) = ((j / 4 : Nat) : Int) := by rw [Int.tdiv_eq_ediv_of_nonneg (by omega), IntWalk.i64_in _ (by omega)]; omega
            have q2 : (j : Int).tmod 4 = ((j % 4 : Nat) : Int) := by rw [Int.tmod_eq_emod_of_nonneg (by omega)]; omega
            have q3 : IntKind.i64.wrap (8 * ((j % 4 : Nat) : Int)) = 8 * ((j % 4 : Nat) : Int) := IntWalk.i64_in _ (by omega)
            have q4 : IntKind.i64.wrap (24 - 8 * ((j % 4 : Nat) : Int)) = 24 - 8 * ((j % 4 : Nat) : Int) := IntWalk.i64_in _ (by omega)
            have q5 : (0 : Int) ≤ 24 - 8 * ((j % 4 : Nat) : Int) := by omega
            have q6 : (j : Int) < 32 := by omega
            have q7 : ((j / 4 : Nat) : Int) < 8 := by omega
            have hol : (outb S).length = 32 := by simp [outb]
            have hcz : wr.cell? ⟨G, j, none⟩ = some (.int .u8 0) := bj6.cell_i (by rw [List.getElem?_append_right (by rw [List.length_take]; omega), List.length_take, List.getElem?_replicate, if_pos (by omega)])
            have hfz := bj6.frozen j
            have hsto := bj6.store_i j (x / 2 ^ (24 - 8 * (j % 4)) % 256)
            have hlist : ((outb S).take j ++ List.replicate (32 - j) 0).set j (x / 2 ^ (24 - 8 * (j % 4)) % 256) = (outb S).take (j + 1) ++ List.replicate (32 - (j + 1)) 0 := by
              have hg : (outb S)[j]? = some (x / 2 ^ (24 - 8 * (j % 4)) % 256) := by
                rw [outb, List.getElem?_map, List.getElem?_range hj32, Option.map_some, List.getD_eq_getElem?_getD, hx]; rfl
              rw [List.set_append_right _ _ (by rw [List.length_take]; omega), List.length_take, show j - min j (outb S).length = 0 by omega, show 32 - j = (32 - (j + 1)) + 1 by omega, List.replicate_succ, List.set_cons_zero, List.take_add_one (i := j), hg, List.append_assoc]
              rfl
            rw [hlist] at hsto
            have HSTO := Lib.hid hsto
            clear hlist hsto hol hx
            have B7 := Lib.hid bj6
            have Z7 := Lib.hid zj
            have D7 := Lib.hid dj
            have O7 := Lib.hid oj
            clear bj6 zj dj oj
            go_wp2_with fail
            refine ⟨⟨j + 1, by omega, by simp, HSTO.out, Z7.out.far (p := ⟨G, j, none⟩) n9 _, ⟨D7.out.1.far (p := ⟨G, j, none⟩) gl5 _, D7.out.2⟩, only_setCell O7.out (.inr hlt5) _⟩, ?_⟩
            show 32 - ((j : Int) + 1).toNat < 32 - (j : Int).toNat
            omega
          · obtain rfl : j = 32 := by omega
            rw [Nat.sub_self, List.replicate_zero, List.append_nil, List.take_of_length_le (by simp [outb])] at bj6
            rw [show ((32 : Nat) : Int) = 32 from rfl]
            obtain ⟨OUT, hOUT⟩ : ∃ OUT, OUT = outb S := ⟨_, rfl⟩
            rw [← hOUT] at bj6
            have hsz : (IV .u8 OUT).toArray.size = 32 := by rw [hOUT]; simp [IV, outb]
            have hinfo : (Tryd.prog.info? 22).map (·.size) = some 32 := by kernel_rfl
            have hall : (IV .u8 OUT).toArray.all (·.oneCell') = true := by simp [IV, Value.oneCell']
            have k2' : wr.heap[G]? = some (.cells (IV .u8 OUT).toArray 22 (0, 0)) := bj6
            have k1' : wr.heap[w.heap.size]? = some (.cells (IV .u8 (List.replicate 32 0)).toArray 22 (0, 0)) := zj
            have H2 := Lib.hid k2'
            have H1 := Lib.hid k1'
            have HSZ := Lib.hid hsz
            have HIN := Lib.hid hinfo
            have HAL := Lib.hid hall
            have HOUT := Lib.hid hOUT
            have OJ := Lib.hid oj
            have ZJ := Lib.hid zj
            clear k2' k1' bj6 zj dj oj hsz hinfo hall hOUT
            go_wp2_with (first
              | refine wpList_load_row rfl 22 (.tmp 5) rfl G rfl 22 (IV .u8 OUT).toArray (0, 0) _ H2.out Tryd.underlying22 rfl (by rw [HSZ.out]; exact HIN.out) ?_
              | refine wpList_store_row rfl 22 (.tmp 2) (.tmp 63) rfl w.heap.size (IV .u8 OUT).toArray rfl rfl 22 _ H1.out (by rw [HSZ.out]; exact HIN.out) (by rw [HSZ.out]; simp [IV]) HAL.out ?_)
            have eS : eat ((padm m).length / 64) s (padm m) = S := by
              rw [padm, ← HM.out, ← HH.out, ← HLL.out, HS5.out, EBJ.out]
              refine eat_full HLK.out ?_ ?_
              · rw [← HH.out]; exact HT.out
              · have := HH.out; rw [← HH.out, List.length_append, List.length_replicate]; simp [be8]; omega
            rw [eS, ← HOUT.out]
            refine bodyPost_ret (v := .agg (IV .u8 OUT).toArray) (results_cell_row rfl _ _ w.heap.size 22 _ (0, 0) _ rfl (Blk.row H1.out _) Tryd.underlying22 rfl (by rw [HSZ.out]; exact HIN.out)) rfl ⟨rfl, ?_⟩
            exact ⟨OJ.out.os, OJ.out.tape, OJ.out.output, by simpa [World.setRow] using OJ.out.size, fun i hi hne => (setRow_other wr w.heap.size i _ (by omega)).trans (OJ.out.block i hi hne)⟩
end Go.Proofs.YtjibbegdieiknaaDoor

namespace Go.Proofs.YtjibbegdieiknaaDoor
set_option maxRecDepth 100000
open Go.RowKit
set_option linter.unusedVariables false

/-- The state before the first block. -/
def st0 : St := ⟨1779033703, 3144134277, 1013904242, 2773480762, 1359893119, 2600822924, 528734635, 1541459225⟩
theorem st0_list : st0.list = shaH := by decide
theorem st0_ok : st0.ok := by unfold St.ok W32 st0; decide

set_option maxRecDepth 100000 in
set_option maxHeartbeats 400000 in
theorem newDigest_any (w : World) (hS : STab w) :
    Calls Tryd.prog 66 #[] w fun r w' => ∃ g, r = .returned (.pointer (some ⟨g, 0, none⟩)) ∧ w.heap.size ≤ g ∧ Hs w' g st0 [] 0 ∧ Below w.heap.size w w' := by
  have c0 := hS.2 0 1779033703 (by rfl)
  have c1 := hS.2 1 3144134277 (by rfl)
  have c2 := hS.2 2 1013904242 (by rfl)
  have c3 := hS.2 3 2773480762 (by rfl)
  have c4 := hS.2 4 1359893119 (by rfl)
  have c5 := hS.2 5 2600822924 (by rfl)
  have c6 := hS.2 6 528734635 (by rfl)
  have c7 := hS.2 7 1541459225 (by rfl)
  have HS := Lib.hid hS
  obtain ⟨Zc, hZ⟩ : ∃ Zc, Zc = (IV .u32 (List.replicate 8 0) ++ IV .u8 (List.replicate 64 0) ++ [Value.int .i64 0, Value.int .u64 0]).toArray := ⟨_, rfl⟩
  have hz : ∀ w, (zeroValue 134).run Tryd.prog w = .ok (.agg Zc) w := fun w => by rw [hZ]; rfl
  have hzs : Zc.size = 74 := by rw [hZ]; rfl
  have HZ := Lib.hid hZ
  clear hS hZ
  go_enter Tryd.func66, Tryd.ntmps66
  go_wp2_with fail
  have hZ := HZ.out
  go_ret
  refine ⟨w.heap.size, by simp, Nat.le_refl _, ⟨st0_ok, Bytes.nil, List.replicate 64 0, ⟨?_, rfl, rfl⟩, ?_, by simp⟩, (Below.refl _ _).alloc (Nat.le_refl _) _⟩
  · have e : ((((((((Zc.setIfInBounds 0 (Value.int .u32 1779033703)).setIfInBounds 1 (Value.int .u32 3144134277)).setIfInBounds 2 (Value.int .u32 1013904242)).setIfInBounds 3 (Value.int .u32 2773480762)).setIfInBounds 4 (Value.int .u32 1359893119)).setIfInBounds 5 (Value.int .u32 2600822924)).setIfInBounds 6 (Value.int .u32 528734635)).setIfInBounds 7 (Value.int .u32 1541459225)) =
        (IV .u32 (eat (([] : List Int).length / 64) st0 []).list ++ IV .u8 (List.replicate 64 0) ++ [Value.int .i64 ((([] : List Int).length % 64 : Nat) : Int), Value.int .u64 0]).toArray := by
      rw [hZ]; rfl
    rw [e]
    exact Blk.new w _ _
  · intro x hx
    rw [List.eq_of_mem_replicate hx]
    decide
end Go.Proofs.YtjibbegdieiknaaDoor

/-
  HMAC and HKDF, plainly; the document's examples, reckoned.
-/
namespace Go.Proofs.YtjibbegdieiknaaDoor
set_option maxRecDepth 100000
open Go.RowKit
set_option linter.unusedVariables false

def sha (m : List Int) : List Int := outb (eat ((padm m).length / 64) st0 (padm m))
theorem outb_length (S : St) : (outb S).length = 32 := by simp [outb]
theorem sha_length (m : List Int) : (sha m).length = 32 := outb_length _
theorem outb_bytes (S : St) : Bytes (outb S) := by
  intro x hx
  simp only [outb, List.mem_map] at hx
  obtain ⟨i, _, rfl⟩ := hx
  omega
theorem sha_bytes (m : List Int) : Bytes (sha m) := outb_bytes _
def kpad (k : List Int) : List Int := k ++ List.replicate (64 - k.length) 0
def kshort (key : List Int) : List Int := if 64 < key.length then sha key else key
def kblk (key : List Int) : List Int := kpad (kshort key)
theorem kshort_le (key : List Int) : (kshort key).length ≤ 64 := by
  unfold kshort
  split
  · rw [sha_length]; omega
  · omega
theorem kshort_bytes {key : List Int} (h : Bytes key) : Bytes (kshort key) := by
  unfold kshort
  split
  · exact sha_bytes _
  · exact h
theorem kblk_length (key : List Int) : (kblk key).length = 64 := by
  have := kshort_le key
  unfold kblk kpad
  rw [List.length_append, List.length_replicate]
  omega
theorem kblk_bytes {key : List Int} (h : Bytes key) : Bytes (kblk key) := (kshort_bytes h).append (zeros_bytes _)
def mskd (b : List Int) (x : Int) : List Int := b.map fun y => bits .xor .u8 y x
theorem mskd_length (b : List Int) (x : Int) : (mskd b x).length = b.length := by simp [mskd]
theorem mskd_bytes {b : List Int} {x : Int} (h : Bytes b) (hx : 0 ≤ x ∧ x < 256) : Bytes (mskd b x) := by
  intro y hy
  simp only [mskd, List.mem_map] at hy
  obtain ⟨z, hz, rfl⟩ := hy
  exact xor8 (h z hz) hx
def hinner (key m : List Int) : List Int := sha (mskd (kblk key) 54 ++ m)
def hmac (key m : List Int) : List Int := sha (mskd (kblk key) 92 ++ hinner key m)
theorem hmac_length (key m : List Int) : (hmac key m).length = 32 := sha_length _
theorem hmac_bytes (key m : List Int) : Bytes (hmac key m) := sha_bytes _
/-- HKDF's pieces, and what is drawn. -/
def tn (key info : List Int) : Nat → List Int
  | 0 => []
  | i + 1 => hmac key (tn key info i ++ info ++ [((i + 1 : Nat) : Int)])
def hk (key info : List Int) : Nat → List Int
  | 0 => []
  | i + 1 => hk key info i ++ tn key info (i + 1)
theorem tn_length (key info : List Int) (i : Nat) : (tn key info (i + 1)).length = 32 := hmac_length _ _
theorem tn_le (key info : List Int) : ∀ i, (tn key info i).length ≤ 32
  | 0 => by simp [tn]
  | i + 1 => Nat.le_of_eq (tn_length key info i)
theorem tn_bytes (key info : List Int) : ∀ i, Bytes (tn key info i)
  | 0 => Bytes.nil
  | i + 1 => hmac_bytes _ _
theorem hk_length (key info : List Int) : ∀ i, (hk key info i).length = 32 * i
  | 0 => rfl
  | i + 1 => by rw [hk, List.length_append, hk_length key info i, tn_length]; omega
theorem hk_bytes (key info : List Int) : ∀ i, Bytes (hk key info i)
  | 0 => Bytes.nil
  | i + 1 => (hk_bytes key info i).append (tn_bytes key info (i + 1))
theorem hk_more (key info : List Int) (i : Nat) : ∀ d n, n ≤ 32 * i → (hk key info (i + d)).take n = (hk key info i).take n
  | 0, n, h => rfl
  | d + 1, n, h => by
    have e : hk key info (i + (d + 1)) = hk key info (i + d) ++ tn key info (i + d + 1) := rfl
    rw [e, List.take_append_of_le_length (by rw [hk_length]; omega), hk_more key info i d n h]
def hkdf (key info : List Int) (n : Nat) : List Int := (hk key info ((n + 31) / 32)).take n
theorem hkdf_length (key info : List Int) (n : Nat) : (hkdf key info n).length = n := by
  unfold hkdf
  rw [List.length_take, hk_length]
  omega
theorem hkdf_bytes (key info : List Int) (n : Nat) : Bytes (hkdf key info n) := (hk_bytes _ _ _).take _
theorem hkdf_at (key info : List Int) (n i : Nat) (h : n ≤ 32 * i) : (hk key info i).take n = hkdf key info n := by
  obtain ⟨d, rfl⟩ : ∃ d, i = (n + 31) / 32 + d := ⟨i - (n + 31) / 32, by omega⟩
  exact hk_more key info _ d n (by omega)
theorem hkdf_take (key info : List Int) (n m : Nat) (h : n ≤ m) : (hkdf key info m).take n = hkdf key info n := by
  unfold hkdf
  rw [List.take_take, Nat.min_eq_left h]
  exact hkdf_at key info n _ (by omega)
set_option maxRecDepth 100000 in
theorem sha_none : (sha []).getD 0 0 = 227 ∧ (sha []).getD 3 0 = 66 := by decide +kernel
def jefe : List Int := [74, 101, 102, 101]
def whatdo : List Int := [119, 104, 97, 116, 32, 100, 111, 32, 121, 97, 32, 119, 97, 110, 116, 32]
def nothing : List Int := [102, 111, 114, 32, 110, 111, 116, 104, 105, 110, 103, 63]
set_option maxRecDepth 100000 in
theorem hmac_jefe : (hmac jefe (whatdo ++ nothing)).getD 0 0 = 91 ∧ (hmac jefe (whatdo ++ nothing)).getD 3 0 = 70 := by decide +kernel
end Go.Proofs.YtjibbegdieiknaaDoor

namespace Go.Proofs.YtjibbegdieiknaaDoor
set_option maxRecDepth 100000
open Go.RowKit
set_option linter.unusedVariables false

/-- Parts, one behind the other. -/
def flat (xs : List (Option Addr × Nat × List Int)) : List Int := xs.flatMap fun x => x.2.2
theorem flat_snoc {xs : List (Option Addr × Nat × List Int)} {k : Nat} (h : k < xs.length) : flat (xs.take (k + 1)) = flat (xs.take k) ++ xs[k].2.2 := by
  unfold flat
  rw [List.take_succ_eq_append_getElem h, List.flatMap_append, List.flatMap_singleton]
theorem flat_take_le (xs : List (Option Addr × Nat × List Int)) : ∀ k, (flat (xs.take k)).length ≤ (flat xs).length := by
  intro k
  have h : flat xs = flat (xs.take k) ++ flat (xs.drop k) := by
    unfold flat
    rw [← List.flatMap_append, List.take_append_drop]
  rw [h, List.length_append]
  omega
theorem flat_at_le {xs : List (Option Addr × Nat × List Int)} {k : Nat} (h : k < xs.length) : (flat (xs.take k)).length + xs[k].2.2.length ≤ (flat xs).length := by
  have := flat_take_le xs (k + 1)
  rw [flat_snoc h, List.length_append] at this
  exact this
/-- What lies in a part, lies below the world that it was read in. -/
theorem RdBs.lower {w : World} {A : Option Addr} {xs : List (Option Addr × Nat × List Int)} (h : RdBs w A xs) {k : Nat} (hk : k < xs.length) (hl : 0 < xs[k].2.2.length) : ∀ a, xs[k].1 = some a → a.block < w.heap.size := by
  intro a ha
  obtain ⟨b, off, e, hb⟩ := (h.each _ (List.getElem_mem hk)).1.rd.some_ hl
  rw [ha] at e
  cases e
  exact hb

set_option maxRecDepth 100000 in
set_option maxHeartbeats 800000 in
theorem Sum_any (A : Option Addr) (c : Nat) (xs : List (Option Addr × Nat × List Int)) (w : World) (hr : RdBs w A xs) (hc : xs.length ≤ c) (hm : c ≤ 9223372036854775807) (hS : STab w) (hK : KTab w) (hlen : (flat xs).length ≤ 576460752303423488) :
    Calls Tryd.prog 70 #[.slice A xs.length c] w fun r w' => r = .returned (.agg (IV .u8 (sha (flat xs))).toArray) ∧ Below w.heap.size w w' := by
  have hk1 := hK.1
  obtain ⟨OUT, hOUT⟩ : ∃ OUT, OUT = sha (flat xs) := ⟨_, rfl⟩
  have hsz : (IV .u8 OUT).toArray.size = 32 := by rw [hOUT]; simp [IV, sha_length]
  have hinfo : (Tryd.prog.info? 22).map (·.size) = some 32 := by kernel_rfl
  have hall : (IV .u8 OUT).toArray.all (·.oneCell') = true := by simp [IV, Value.oneCell']
  have HSZ := Lib.hid hsz
  have HIN := Lib.hid hinfo
  have HAL := Lib.hid hall
  rw [← hOUT]
  have HOUT := Lib.hid hOUT
  clear hsz hinfo hall hOUT
  have HR := Lib.hid hr
  have HS := Lib.hid hS
  have HK := Lib.hid hK
  clear hr hS hK
  go_enter Tryd.func70, Tryd.ntmps70
  go_wp2_with (go_at_call 66; refine (newDigest_any _ (HS.out.below ((Below.refl _ _).alloc (Nat.le_refl _) _))).mono ?_; rintro e w1 ⟨g, rfl, hg, hs, b1⟩; have B0 := Lib.hid (show Blk w1 w.heap.size 22 (IV .u8 (List.replicate 32 0)).toArray from (Blk.new w _ _).below b1 (by simp)); have BW := Lib.hid (((Below.refl w.heap.size w).alloc (Nat.le_refl _) _).trans (b1.mono (by simp))); have HG := Lib.hid hg; clear hg b1; have HH := Lib.hid hs; clear hs)
  have hg1 : w.heap.size < g := by have := HG.out; simp at this; omega
  have hgr : 3 ≠ g := by omega
  go_loopw [9] (fun i wr => ∃ k : Nat, k ≤ xs.length ∧ i = .int .i64 k ∧ Hs wr g st0 (flat (xs.take k)) (flat (xs.take k)).length ∧ Blk wr w.heap.size 22 (IV .u8 (List.replicate 32 0)).toArray ∧ Below w.heap.size w wr) (fun i _ => xs.length - (intOf i).toNat)
  case atStart => exact ⟨0, by omega, rfl, HH.out, B0.out, BW.out⟩
  case round =>
    obtain ⟨k, hk, rfl, hs, hb, bel⟩ := hrel
    by_cases hkl : k < xs.length
    · obtain ⟨b, off, rfl, hbw, hcell⟩ := (HR.out.below bel).at_ hkl
      obtain ⟨hsx, hbx⟩ := (HR.out.below bel).each xs[k] (List.getElem_mem hkl)
      have hlow := HR.out.lower hkl
      have hfl := flat_at_le hkl
      have htk := flat_snoc hkl
      obtain ⟨x, hx⟩ : ∃ x, x = xs[k] := ⟨_, rfl⟩
      rw [← hx] at hcell hsx hbx hlow hfl htk
      clear hx
      obtain ⟨xa, xc, xl⟩ := x
      have hcell' : wr.cell? ⟨b, off + k, none⟩ = some (.slice xa xl.length xc) := hcell
      have HTK := Lib.hid htk
      have C := Lib.hid (write_any g st0 _ xl xa xc wr hs hsx.rd hbx (fun h a ha => by have := hlow h a ha; omega) hsx.le (HK.out.below bel) hgr (by simp only at hfl; omega))
      have BB := Lib.hid hb
      have BL := Lib.hid bel
      clear hcell hs htk hb bel hlow hsx hbx hfl
      go_wp2_with (go_at_call 67; refine C.out.mono ?_; rintro e w2 ⟨rfl, hs2, o2⟩; have HS2 := Lib.hid hs2; clear hs2; have O2 := Lib.hid o2; clear o2)
      go_roundw
      case rel =>
        refine ⟨k + 1, by omega, by go_num, ?_, BB.out.grown O2.out (by simp; omega), BL.out.grown O2.out BL.out.size (by rintro _ ⟨⟩; omega)⟩
        rw [HTK.out]
        exact HS2.out
      case measure => simp [intOf]; omega
    · obtain rfl : k = xs.length := by omega
      rw [List.take_of_length_le (Nat.le_refl _)] at hs
      have C := sum_any g st0 _ wr hs (HK.out.below bel) hgr (by omega)
      have C' : Calls Tryd.prog 69 #[.pointer (some ⟨g, 0, none⟩)] wr fun r w' => r = .returned (.agg (IV .u8 OUT).toArray) ∧ wr.grownBy w' (some g) := by rw [HOUT.out]; exact C
      have C2 := Lib.hid C'
      have BB := Lib.hid hb
      have BL := Lib.hid bel
      clear C C' hs hb bel
      go_wp2_with (first
        | (go_at_call 69; refine C2.out.mono ?_; rintro e w2 ⟨rfl, o2⟩; have B2 := Lib.hid (BB.out.grown o2 (by simp; omega)); have L2 := Lib.hid (BL.out.grown o2 BL.out.size (by rintro _ ⟨⟩; omega)); clear o2)
        | refine wpList_store_row rfl 22 (.tmp 2) (.tmp 18) rfl w.heap.size (IV .u8 OUT).toArray rfl rfl 22 _ B2.out (by rw [HSZ.out]; exact HIN.out) (by rw [HSZ.out]; simp [IV]) HAL.out ?_)
      refine bodyPost_ret (v := .agg (IV .u8 OUT).toArray) (results_cell_row rfl _ _ w.heap.size 22 _ (0, 0) _ rfl (Blk.row B2.out _) Tryd.underlying22 rfl (by rw [HSZ.out]; exact HIN.out)) rfl ⟨rfl, ?_⟩
      exact below_setRow L2.out (Nat.le_refl _) _
end Go.Proofs.YtjibbegdieiknaaDoor

namespace Go.Proofs.YtjibbegdieiknaaDoor
set_option maxRecDepth 100000
open Go.RowKit
set_option linter.unusedVariables false

theorem mskd_snoc {B : List Int} {x : Int} {k : Nat} (h : k < B.length) : ((mskd B x).take k ++ List.replicate (B.length - k) 0).set k (bits .xor .u8 B[k] x) = (mskd B x).take (k + 1) ++ List.replicate (B.length - (k + 1)) 0 := by
  have hl : (mskd B x).length = B.length := mskd_length _ _
  have hg : (mskd B x)[k]? = some (bits .xor .u8 B[k] x) := by
    rw [mskd, List.getElem?_map, List.getElem?_eq_getElem h]; rfl
  obtain ⟨d, hd⟩ : ∃ d, B.length - k = d + 1 := ⟨B.length - k - 1, by omega⟩
  rw [List.set_append_right _ _ (by rw [List.length_take]; omega), List.length_take, show k - min k (mskd B x).length = 0 by omega, hd, show B.length - (k + 1) = d by omega, List.replicate_succ, List.set_cons_zero, List.take_add_one, hg, List.append_assoc]
  rfl

set_option maxHeartbeats 800000 in
theorem masked_any (B : List Int) (x : Int) (w : World) (hl : B.length = 64) (hb : Bytes B) (hx : 0 ≤ x ∧ x < 256) :
    Calls Tryd.prog 68 #[.agg (IV .u8 B).toArray, .int .u8 x] w fun r w' => ∃ g, r = .returned (.slice (some ⟨g, 0, none⟩) 64 64) ∧ w.heap.size ≤ g ∧ Blk w' g 5 (IV .u8 (mskd B x)).toArray ∧ Below w.heap.size w w' := by
  have hmk : ∀ W : World, (Instr.makeSlice 23 (.int .i64 64) (.int .i64 64)).run Tryd.prog W = .ok (.slice (some ⟨W.heap.size, 0, none⟩) 64 64) (W.alloc (.cells (IV .u8 (List.replicate 64 0)).toArray 5)) := fun W => by
    have h := run_make_row' (P := Tryd.prog) 23 5 (.int .u8 0) 1 Tryd.underlying23 info_u8 rfl .i64 .i64 64 (by decide) (by decide) W
    rw [made_u8] at h
    exact h
  have HL := Lib.hid hl
  have HB := Lib.hid hb
  clear hl hb
  go_enter Tryd.func68, Tryd.ntmps68
  go_wp2_with fail
  have h0 : Blk ((w.alloc (.cells (IV .u8 B).toArray 93)).alloc (.cells (IV .u8 (List.replicate 64 0)).toArray 5)) w.heap.size 93 (IV .u8 B).toArray := (Blk.new _ _ _).alloc _
  have h1 : Blk ((w.alloc (.cells (IV .u8 B).toArray 93)).alloc (.cells (IV .u8 (List.replicate 64 0)).toArray 5)) (w.heap.size + 1) 5 (IV .u8 (List.replicate 64 0)).toArray := blk_second _ _ _ _
  have hbl : Below w.heap.size w ((w.alloc (.cells (IV .u8 B).toArray 93)).alloc (.cells (IV .u8 (List.replicate 64 0)).toArray 5)) := ((Below.refl _ _).alloc (Nat.le_refl _) _).alloc (by simp) _
  show Code.wp _ _ _ _ ((w.alloc (.cells (IV .u8 B).toArray 93)).alloc (.cells (IV .u8 (List.replicate 64 0)).toArray 5))
  generalize ((w.alloc (.cells (IV .u8 B).toArray 93)).alloc (.cells (IV .u8 (List.replicate 64 0)).toArray 5)) = W at h0 h1 hbl ⊢
  clear hmk
  go_loopw [8] (fun i wr => ∃ k : Nat, k ≤ 64 ∧ i = .int .i64 k ∧ Blk wr w.heap.size 93 (IV .u8 B).toArray ∧ Blk wr (w.heap.size + 1) 5 (IV .u8 ((mskd B x).take k ++ List.replicate (B.length - k) 0)).toArray ∧ Below w.heap.size w wr) (fun i _ => 64 - (intOf i).toNat)
  case atStart => exact ⟨0, by omega, rfl, h0, by rw [HL.out]; exact h1, hbl⟩
  case round =>
    obtain ⟨k, hk, rfl, b0, b1, bel⟩ := hrel
    by_cases hkl : k < 64
    · have hkB : k < B.length := by rw [HL.out]; exact hkl
      have c0 := b0.cell_i (i := k) (x := B[k]) (List.getElem?_eq_getElem hkB)
      obtain ⟨z, hz⟩ : ∃ z, ((mskd B x).take k ++ List.replicate (B.length - k) 0)[k]? = some z := ⟨_, List.getElem?_eq_getElem (by have := HL.out; have := mskd_length B x; simp; omega)⟩
      have c1 := b1.cell_i hz
      have f1 := b1.frozen k
      have hs := b1.store_i k (bits .xor .u8 B[k] x)
      rw [mskd_snoc hkB] at hs
      have hy := HB.out B[k] (List.getElem_mem hkB)
      obtain ⟨y, hyy⟩ : ∃ y, y = B[k] := ⟨_, rfl⟩
      rw [← hyy] at c0 hs hy
      have HS := Lib.hid hs
      have B0 := Lib.hid b0
      have BL := Lib.hid bel
      clear hs b0 b1 bel hz hyy h0 h1 hbl
      go_wp2_with fail
      go_roundw
      case rel => exact ⟨k + 1, by omega, by go_num, B0.out.far (p := ⟨w.heap.size + 1, k, none⟩) (by simp) _, HS.out, BL.out.setCell (by simp) _⟩
      case measure => simp [intOf]; omega
    · obtain rfl : k = 64 := by omega
      rw [HL.out, List.take_of_length_le (by rw [mskd_length, HL.out]; omega)] at b1
      have B1 := Lib.hid b1
      have BL := Lib.hid bel
      clear b0 b1 bel h0 h1 hbl
      go_wp2_with fail
      go_ret
      exact ⟨_, rfl, by omega, by simpa using B1.out, BL.out⟩
end Go.Proofs.YtjibbegdieiknaaDoor
