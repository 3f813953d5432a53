/-
  The reference's Bytes of a head, with a number of whatever size: what it refuses; a short head.
-/
import Derived.Test.YtomapklkbfjafaaDoorHeadO
namespace Go.Proofs.YtomapklkbfjafaaDoor
open Go.RowKit
set_option linter.unusedVariables false

set_option maxHeartbeats 800000 in
theorem refBytes_badS (lg : Bool) (lv : Int) (ph : Bool) (A : Option Addr) (a : List Int) (c : Nat) (B : Option Addr) (b : List Int) (d : Nat) (pn L : Int) (s : Nat) (w : World) (hs1 : 1 ≤ s) (hs4 : s ≤ 4) (hL : 0 ≤ L ∧ (lg = true → L ≤ 16383 - s)) (hr : rightB lg lv ph a b = false) :
    Calls Tryd.prog 7 #[HV lg lv ph A a c B b d, .int .u64 pn, .int .i64 (s : Int), .int .i64 L] w fun r w' => r = .returned (.tuple #[.slice none 0 0, .int .i64 4]) ∧ Below w.heap.size w w' := by
  have CR := fun W => Right_any lg lv ph A a c B b d W
  rw [hr] at CR
  unfold HV at CR ⊢
  have CR' := Lib.hid CR
  clear CR hr
  obtain ⟨hL0, hL1⟩ := hL
  cases lg
  case' true => have hL2 : ¬ (16383 - (s : Int) < L) := by have := hL1 rfl; omega
  all_goals
    clear hL1
    go_enter Tryd.func7, Tryd.ntmps7
    go_wp2_with fail
    refine (CR'.out _).mono ?_
    rintro r w1 ⟨rfl, b1⟩
    have B1 := Lib.hid (below_al b1)
    clear b1
    go_wp2_with fail
    go_ret2
    exact ⟨rfl, B1.out⟩

theorem refBytes_arg (lg : Bool) (lv : Int) (ph : Bool) (A : Option Addr) (a : List Int) (c : Nat) (B : Option Addr) (b : List Int) (d : Nat) (pn z L : Int) (w : World) (h : z < 1 ∨ (1 ≤ z ∧ 4 < z) ∨ (1 ≤ z ∧ z ≤ 4 ∧ L < 0)) :
    Calls Tryd.prog 7 #[HV lg lv ph A a c B b d, .int .u64 pn, .int .i64 z, .int .i64 L] w fun r w' => r = .returned (.tuple #[.slice none 0 0, .int .i64 1]) ∧ Below w.heap.size w w' := by
  unfold HV
  rcases h with h1 | ⟨h1, h2⟩ | ⟨h1, h2, h3⟩
  all_goals
    go_enter Tryd.func7, Tryd.ntmps7
    go_wp2_with fail
    go_ret2
    exact ⟨rfl, (Below.refl _ _).alloc (Nat.le_refl _) _⟩
theorem refBytes_far (lv : Int) (ph : Bool) (A : Option Addr) (a : List Int) (c : Nat) (B : Option Addr) (b : List Int) (d : Nat) (pn z L : Int) (w : World) (hz : 1 ≤ z) (hz4 : z ≤ 4) (hL : 0 ≤ L) (h : 16383 - z < L) :
    Calls Tryd.prog 7 #[HV true lv ph A a c B b d, .int .u64 pn, .int .i64 z, .int .i64 L] w fun r w' => r = .returned (.tuple #[.slice none 0 0, .int .i64 3]) ∧ Below w.heap.size w w' := by
  unfold HV
  go_enter Tryd.func7, Tryd.ntmps7
  go_wp2_with fail
  go_ret2
  exact ⟨rfl, (Below.refl _ _).alloc (Nat.le_refl _) _⟩
def shortS (s : Nat) (ph : Bool) (a : List Int) (pn : Int) : List Int := (if ph then 64 + (s : Int) - 1 + 4 else 64 + (s : Int) - 1) :: (a ++ be pn s)
set_option maxHeartbeats 1600000 in
theorem refBytes_shortS (lv : Int) (ph : Bool) (A : Option Addr) (a : List Int) (c : Nat) (B : Option Addr) (b : List Int) (d : Nat) (pn L : Int) (s : Nat) (w : World) (hs1 : 1 ≤ s) (hs4 : s ≤ 4) (hL : 0 ≤ L) (hpn : 0 ≤ pn ∧ pn < 18446744073709551616) (ha : Sl w A c a) (hr : rightB false lv ph a b = true) :
    Calls Tryd.prog 7 #[HV false lv ph A a c B b d, .int .u64 pn, .int .i64 (s : Int), .int .i64 L] w fun r w' => ∃ A' c', r = .returned (.tuple #[.slice A' (shortS s ph a pn).length c', .int .i64 0]) ∧ Own w' w.heap.size A' c' (shortS s ph a pn) ∧ Below w.heap.size w w' := by
  have CR := fun W => Right_any false lv ph A a c B b d W
  rw [hr] at CR
  have hal : a.length = 8 := by
    unfold rightB at hr
    simp at hr
    omega
  have HAL := Lib.hid hal
  clear hal
  obtain ⟨O, hO⟩ : ∃ O, O = shortS s ph a pn := ⟨_, rfl⟩
  rw [← hO]
  have HO := Lib.hid hO
  clear hO
  unfold HV at CR ⊢
  have CR' := Lib.hid CR
  have HA := Lib.hid ha
  clear CR hr ha
  go_enter Tryd.func7, Tryd.ntmps7
  go_wp2_with fail
  refine (CR'.out _).mono ?_
  rintro r w1 ⟨rfl, b1⟩
  have K1 := Lib.hid ((Blk.new w 24 #[.bool false, .int .i64 lv, .bool ph, .slice A a.length c, .slice B b.length d]).below b1 (by simp))
  have B1 := Lib.hid (below_al b1)
  clear b1
  go_wp2_with fail
  go_loopw [1, 10, 37] (fun x p i wr => ∃ (j : Nat) (N : List Int) (A2 : Option Addr) (c2 : Nat), j ≤ s ∧ i = .int .i64 j ∧ x = .int .u64 (pn / 256 ^ j) ∧ N = be pn j ∧ p = .slice A2 N.length c2 ∧ Own wr w1.heap.size A2 c2 N ∧ Below w1.heap.size w1 wr) (fun _ _ i _ => s - (intOf i).toNat)
  case atStart => exact ⟨0, [], none, 0, by omega, rfl, by simp, rfl, rfl, Own.nil _ _, Below.refl _ _⟩
  case round =>
    obtain ⟨j, N, A2, c2, hj, rfl, rfl, hN, rfl, hown, hbel⟩ := hrel
    by_cases hj4 : j < s
    · obtain ⟨x, hx⟩ : ∃ x, x = pn / 256 ^ j := ⟨_, rfl⟩
      rw [← hx]
      have hx0 : 0 ≤ x := by rw [hx]; exact Int.ediv_nonneg hpn.1 (Int.pow_nonneg (by omega))
      have hx1 : x < 18446744073709551616 := by
        have : x ≤ pn := by rw [hx]; exact Int.ediv_le_self _ hpn.1
        omega
      have HX := Lib.hid hx
      have HN := Lib.hid hN
      have hle : N.length ≤ 8 := by rw [hN, be_length]; omega
      have hsz := hbel.size
      clear hx hN
      go_wp2_with (at_builtin; go_must (refine wpList_app rfl (.tmp 42) (.tmp 43) rfl wr.heap.size (l := [x % 256]) (news := N) rfl rfl (own_lit1 wr (x % 256) (Nat.le_refl _)) ((Rd.of_own hown).alloc _) (by simp; omega) (by simp) ?_); intro A' c' w' hown' hg hb)
      go_roundw
      case rel =>
        refine ⟨j + 1, [x % 256] ++ N, A', c', by omega, by go_num, ?_, ?_, ?_, hown'.base_le hsz, hbel.trans (((Below.refl _ _).alloc hsz _).trans (hb.mono hsz))⟩
        · rw [show pn / 256 ^ (j + 1) = x / 256 by rw [HX.out, Int.pow_succ, Int.ediv_ediv_of_nonneg (Int.pow_nonneg (by omega))]]
        · rw [HX.out, HN.out]; rfl
        · rw [List.length_append, List.length_singleton]
      case measure => simp [intOf]; omega
    · have hj44 : j = s := by omega
      have K2 := Lib.hid (K1.out.below hbel K1.out.lt)
      have B2 := Lib.hid (B1.out.trans (hbel.mono B1.out.size))
      have O2 := Lib.hid hown
      have HN := Lib.hid (show N = be pn s by rw [hN, hj44])
      have hNl : N.length = s := by rw [hN, hj44, be_length]
      have HNL := Lib.hid hNl
      have q0 := K2.out.cell 0
      have q2 := K2.out.cell 2
      have q3 := K2.out.cell 3
      have hnj : ¬ ((j : Int) < (s : Int)) := by omega
      have hnj' : ¬ (j < s) := by omega
      clear hown hbel hN hj44 hNl
      cases ph
      · have q3a : (wr.alloc (.cells #[.int .u8 (64 + (s : Int) - 1)] 5)).cell? ⟨w.heap.size, 3, none⟩ = some (.slice A a.length c) := (K2.out.alloc _).cell 3
        have hO : O = ((64 + (s : Int) - 1) :: a) ++ N := by rw [HO.out, HN.out]; rfl
        have hOl : a.length + 1 + N.length = O.length := by rw [hO]; simp; omega
        have HOO := Lib.hid hO
        have HOL := Lib.hid hOl
        have hal8 := HAL.out
        have hnl4 := HNL.out
        have hin : wr.heap.size ≤ wr.heap.size := Nat.le_refl _
        have ra := Lib.hid ((HA.out.rd.below B2.out).alloc (.cells #[.int .u8 (64 + (s : Int) - 1)] 5))
        have rn := Lib.hid ((Rd.of_own O2.out).alloc (.cells #[.int .u8 (64 + (s : Int) - 1)] 5))
        have hsum : 1 + a.length ≤ 70368744177664 := by omega
        have hsum2 : a.length + 1 + N.length ≤ 70368744177664 := by omega
        have HS1 := Lib.hid hsum
        have HS2 := Lib.hid hsum2
        clear hO hOl hal8 hnl4 hsum hsum2
        go_wp2_with (first
          | (refine wpList_app rfl (.tmp 60) (.tmp 62) rfl wr.heap.size (A := some ⟨wr.heap.size, 0, none⟩) (c := 1) (l := [64 + (s : Int) - 1]) (B := A) (d := c) (news := a) rfl rfl (own_lit1 wr (64 + (s : Int) - 1) (Nat.le_refl _)) ra.out HS1.out (by simp) ?_
             intro A5 c5 w5 o5 g5 b5
             have O5 := Lib.hid (show Own w5 wr.heap.size A5 c5 ((64 + (s : Int) - 1) :: a) from o5)
             have RN5 := Lib.hid ((Rd.of_own O2.out).below (((Below.refl wr.heap.size wr).alloc (Nat.le_refl _) _).trans b5))
             have B5 := Lib.hid b5
             have H5 := Lib.hid (show wr.heap.size ≤ w5.heap.size by have h5 := b5.size; simp at h5; omega)
             rw [show ([64 + (s : Int) - 1] : List Int).length + a.length = ((64 + (s : Int) - 1) :: a : List Int).length by simp; omega]
             clear o5 g5 b5)
          | (refine wpList_app rfl (.tmp 63) (.tmp 64) rfl wr.heap.size (A := A5) (c := c5) (l := (64 + (s : Int) - 1) :: a) (B := A2) (d := c2) (news := N) rfl rfl O5.out RN5.out (by simpa using HS2.out) H5.out ?_
             intro A6 c6 w6 o6 g6 b6
             have O6 := Lib.hid (show Own w6 wr.heap.size A6 c6 O by rw [HOO.out]; exact o6)
             have B6 := Lib.hid b6
             rw [show ((64 + (s : Int) - 1) :: a : List Int).length + N.length = O.length by rw [← HOL.out]; rfl]
             clear o6 g6 b6))
        go_ret2
        exact ⟨_, _, rfl, O6.out.base_le B2.out.size, B2.out.trans ((((Below.refl wr.heap.size wr).alloc (Nat.le_refl _) _).trans (B5.out.trans B6.out)).mono B2.out.size)⟩
      · have q3a : (wr.alloc (.cells #[.int .u8 (64 + (s : Int) - 1 + 4)] 5)).cell? ⟨w.heap.size, 3, none⟩ = some (.slice A a.length c) := (K2.out.alloc _).cell 3
        have hO : O = ((64 + (s : Int) - 1 + 4) :: a) ++ N := by rw [HO.out, HN.out]; rfl
        have hOl : a.length + 1 + N.length = O.length := by rw [hO]; simp; omega
        have HOO := Lib.hid hO
        have HOL := Lib.hid hOl
        have hal8 := HAL.out
        have hnl4 := HNL.out
        have hin : wr.heap.size ≤ wr.heap.size := Nat.le_refl _
        have ra := Lib.hid ((HA.out.rd.below B2.out).alloc (.cells #[.int .u8 (64 + (s : Int) - 1 + 4)] 5))
        have rn := Lib.hid ((Rd.of_own O2.out).alloc (.cells #[.int .u8 (64 + (s : Int) - 1 + 4)] 5))
        have hsum : 1 + a.length ≤ 70368744177664 := by omega
        have hsum2 : a.length + 1 + N.length ≤ 70368744177664 := by omega
        have HS1 := Lib.hid hsum
        have HS2 := Lib.hid hsum2
        clear hO hOl hal8 hnl4 hsum hsum2
        go_wp2_with (first
          | (refine wpList_app rfl (.tmp 60) (.tmp 62) rfl wr.heap.size (A := some ⟨wr.heap.size, 0, none⟩) (c := 1) (l := [64 + (s : Int) - 1 + 4]) (B := A) (d := c) (news := a) rfl rfl (own_lit1 wr (64 + (s : Int) - 1 + 4) (Nat.le_refl _)) ra.out HS1.out (by simp) ?_
             intro A5 c5 w5 o5 g5 b5
             have O5 := Lib.hid (show Own w5 wr.heap.size A5 c5 ((64 + (s : Int) - 1 + 4) :: a) from o5)
             have RN5 := Lib.hid ((Rd.of_own O2.out).below (((Below.refl wr.heap.size wr).alloc (Nat.le_refl _) _).trans b5))
             have B5 := Lib.hid b5
             have H5 := Lib.hid (show wr.heap.size ≤ w5.heap.size by have h5 := b5.size; simp at h5; omega)
             rw [show ([64 + (s : Int) - 1 + 4] : List Int).length + a.length = ((64 + (s : Int) - 1 + 4) :: a : List Int).length by simp; omega]
             clear o5 g5 b5)
          | (refine wpList_app rfl (.tmp 63) (.tmp 64) rfl wr.heap.size (A := A5) (c := c5) (l := (64 + (s : Int) - 1 + 4) :: a) (B := A2) (d := c2) (news := N) rfl rfl O5.out RN5.out (by simpa using HS2.out) H5.out ?_
             intro A6 c6 w6 o6 g6 b6
             have O6 := Lib.hid (show Own w6 wr.heap.size A6 c6 O by rw [HOO.out]; exact o6)
             have B6 := Lib.hid b6
             rw [show ((64 + (s : Int) - 1 + 4) :: a : List Int).length + N.length = O.length by rw [← HOL.out]; rfl]
             clear o6 g6 b6))
        go_ret2
        exact ⟨_, _, rfl, O6.out.base_le B2.out.size, B2.out.trans ((((Below.refl wr.heap.size wr).alloc (Nat.le_refl _) _).trans (B5.out.trans B6.out)).mono B2.out.size)⟩
end Go.Proofs.YtomapklkbfjafaaDoor
