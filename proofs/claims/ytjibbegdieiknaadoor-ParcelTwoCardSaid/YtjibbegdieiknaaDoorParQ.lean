/-
  The reference's Need; Close of a packet that can't be.
-/
import Derived.Test.YtjibbegdieiknaaDoorMaAY
namespace Go.Proofs.YtjibbegdieiknaaDoor
open Go.RowKit
set_option maxRecDepth 100000
set_option linter.unusedVariables false
set_option linter.unusedSimpArgs false

theorem power_any (s W : Int) (w : World) (h : SW s W) : Calls Tryd.prog 21 #[.int .i64 s] w fun r w' => r = .returned (.int .u64 W) ∧ Below w.heap.size w w' := by
  have hB := fun o => (Below.refl w.heap.size w).alloc (Nat.le_refl _) o
  rcases h with ⟨rfl, rfl⟩ | ⟨rfl, rfl⟩ | ⟨rfl, rfl⟩ | ⟨rfl, rfl⟩
  all_goals
    go_enter Tryd.func21, Tryd.ntmps21
    go_wp2_with fail
    go_ret
    exact ⟨rfl, hB _⟩
set_option maxHeartbeats 1600000 in
theorem refNeed_any (pn acked : Int) (w : World) (h : 0 ≤ acked ∧ acked < pn ∧ pn - acked ≤ 8388608 ∧ pn < 18446744073709551616) :
    Calls Tryd.prog 9 #[.int .u64 pn, .int .u64 acked, .bool true] w fun r w' => ∃ (s : Nat) (W : Int), r = .returned (.int .i64 (s : Int)) ∧ SW s W ∧ 2 * (pn - acked) ≤ W ∧ Below w.heap.size w w' := by
  obtain ⟨far, hfar⟩ : ∃ far, far = pn - acked := ⟨_, rfl⟩
  have hw : IntKind.u64.wrap (pn - acked) = far := by rw [hfar, IntKind.wrap_u64]; omega
  have hf : 1 ≤ far ∧ far ≤ 8388608 := by omega
  rw [← hfar]
  have C1 := Lib.hid (fun W => power_any 1 256 W sw1)
  have C2 := Lib.hid (fun W => power_any 2 65536 W sw2)
  have C3 := Lib.hid (fun W => power_any 3 16777216 W sw3)
  have F1 := Lib.hid (show far ≤ 128 → SW ((1 : Nat) : Int) 256 ∧ 2 * far ≤ 256 from fun h => ⟨sw1, by omega⟩)
  have F2 := Lib.hid (show far ≤ 32768 → SW ((2 : Nat) : Int) 65536 ∧ 2 * far ≤ 65536 from fun h => ⟨sw2, by omega⟩)
  have F3 := Lib.hid (show far ≤ 8388608 → SW ((3 : Nat) : Int) 16777216 ∧ 2 * far ≤ 16777216 from fun h => ⟨sw3, by omega⟩)
  clear hfar
  go_enter Tryd.func9, Tryd.ntmps9
  go_wp2_with fail
  go_loopw [8] (fun i wr => ∃ j : Nat, 1 ≤ j ∧ j ≤ 3 ∧ i = .int .i64 (j : Int) ∧ (j = 2 → 128 < far) ∧ (j = 3 → 32768 < far) ∧ Below w.heap.size w wr) (fun i _ => 4 - (intOf i).toNat)
  case atStart => exact ⟨1, by omega, by omega, rfl, by omega, by omega, Below.refl _ _⟩
  case round =>
    obtain ⟨j, h1, h3, rfl, g2, g3, bl⟩ := hrel
    have BL := Lib.hid bl
    clear bl
    obtain rfl | rfl | rfl : j = 1 ∨ j = 2 ∨ j = 3 := by omega
    · by_cases hc : far ≤ 128
      · have hd : decide (far ≤ 128) = true := decide_eq_true hc
        rw [show ((1 : Nat) : Int) = 1 from rfl]
        go_wp2_with (go_at_call 21; refine (C1.out _).mono ?_; rintro e w1 ⟨rfl, b1⟩)
        go_ret
        exact ⟨1, 256, rfl, (F1.out hc).1, (F1.out hc).2, BL.out.trans (b1.mono BL.out.size)⟩
      · have hd : decide (far ≤ 128) = false := decide_eq_false hc
        rw [show ((1 : Nat) : Int) = 1 from rfl]
        go_wp2_with (go_at_call 21; refine (C1.out _).mono ?_; rintro e w1 ⟨rfl, b1⟩)
        go_roundw
        case rel => exact ⟨2, by omega, by omega, rfl, by omega, by omega, BL.out.trans (b1.mono BL.out.size)⟩
        case measure => simp [intOf]
    · by_cases hc : far ≤ 32768
      · have hd : decide (far ≤ 32768) = true := decide_eq_true hc
        rw [show ((2 : Nat) : Int) = 2 from rfl]
        go_wp2_with (go_at_call 21; refine (C2.out _).mono ?_; rintro e w1 ⟨rfl, b1⟩)
        go_ret
        exact ⟨2, 65536, rfl, (F2.out hc).1, (F2.out hc).2, BL.out.trans (b1.mono BL.out.size)⟩
      · have hd : decide (far ≤ 32768) = false := decide_eq_false hc
        rw [show ((2 : Nat) : Int) = 2 from rfl]
        go_wp2_with (go_at_call 21; refine (C2.out _).mono ?_; rintro e w1 ⟨rfl, b1⟩)
        go_roundw
        case rel => exact ⟨3, by omega, by omega, rfl, by omega, by omega, BL.out.trans (b1.mono BL.out.size)⟩
        case measure => simp [intOf]
    · have hd : decide (far ≤ 8388608) = true := decide_eq_true hf.2
      rw [show ((3 : Nat) : Int) = 3 from rfl]
      go_wp2_with (go_at_call 21; refine (C3.out _).mono ?_; rintro e w1 ⟨rfl, b1⟩)
      go_ret
      exact ⟨3, 16777216, rfl, (F3.out hf.2).1, (F3.out hf.2).2, BL.out.trans (b1.mono BL.out.size)⟩

set_option maxHeartbeats 1600000 in
theorem Close_no (key iv mask a b plain : List Int) (lg : Bool) (lv : Int) (ph : Bool) (A B C : Option Addr) (c d e : Nat) (pn : Int) (s : Nat) (w : World)
    (ha : Sl w A c a) (hb : Sl w B d b) (hpn : 0 ≤ pn ∧ pn ≤ 4611686018427387903) (hs : 1 ≤ s ∧ s ≤ 4) (hpl : plain.length ≤ 1000) (h4 : s + plain.length < 4 ∨ rightB lg lv ph a b = false) (ht : Tab w) :
    Calls Tryd.prog 11 #[KV key iv mask, HV lg lv ph A a c B b d, .int .u64 pn, .int .i64 (s : Int), .slice C plain.length e] w fun r w' =>
      ∃ E, E ≠ 0 ∧ r = .returned (.tuple #[.slice none 0 0, .int .i64 E]) ∧ Below w.heap.size w w' := by
  obtain ⟨QL, hQL⟩ : ∃ QL, QL = (IV .u8 (key ++ iv ++ mask)).toArray := ⟨_, rfl⟩
  obtain ⟨HA, hHA⟩ : ∃ HA : Array Value, HA = #[.bool lg, .int .i64 lv, .bool ph, .slice A a.length c, .slice B b.length d] := ⟨_, rfl⟩
  have CB := Lib.hid (fun W (ha : Sl W A c a) (hb : Sl W B d b) (ht : Tab W) => Bytes_u lg lv ph A a c B b d pn s ((plain.length : Int) + 16) W ha hb (by omega) ht)
  unfold ByQ HV at CB
  unfold HV
  rw [← hHA] at CB ⊢
  rw [show KV key iv mask = .agg QL by rw [hQL]; rfl]
  have SHA := Lib.hid (show HA.size = 5 by rw [hHA]; rfl)
  have e1 : decide ((4611686018427387903 : Int) < pn) = false := by simp; omega
  have e2 : decide ((s : Int) < 1) = false := by simp; omega
  have e3 : decide ((4 : Int) < (s : Int)) = false := by simp; omega
  by_cases hsh : s + plain.length < 4
  · have e4 : decide ((s : Int) + (plain.length : Int) < 4) = true := by simp; omega
    have hB := fun o o' => (((Below.refl w.heap.size w).alloc (Nat.le_refl _) o).alloc (by simp) o')
    clear hQL hHA CB ha hb ht h4
    go_enter Tryd.func11, Tryd.ntmps11
    go_wp2_with fail
    go_ret2
    exact ⟨2, by decide, rfl, hB _ _⟩
  · have hr := h4.resolve_left hsh
    have e4 : decide ((s : Int) + (plain.length : Int) < 4) = false := by simp; omega
    have hE : byE lg lv ph a b s ((plain.length : Int) + 16) = 4 := by
      rw [byE, if_neg (by omega), if_neg (by omega), hr]; rfl
    have hL : byB lg lv ph a b pn s ((plain.length : Int) + 16) = [] := by rw [byB, hE]; rfl
    rw [hE, hL] at CB
    have SA := Lib.hid ha
    have SB := Lib.hid hb
    have HTB := Lib.hid ht
    obtain ⟨W, hW⟩ : ∃ W, W = (w.alloc (.cells QL 34)).alloc (.cells HA 25) := ⟨_, rfl⟩
    have bH := Lib.hid (show Blk W (w.heap.size + 1) 25 HA by rw [hW]; exact blk_second w _ _ _)
    have bL := Lib.hid (show Below w.heap.size w W by rw [hW]; exact ((Below.refl _ _).alloc (Nat.le_refl _) _).alloc (by simp) _)
    have C1 := Lib.hid (CB.out W (SA.out.below bL.out) (SB.out.below bL.out) (HTB.out.below bL.out))
    clear hQL hHA CB ha hb ht h4 hE hL
    go_enter Tryd.func11, Tryd.ntmps11
    go_upto_region 1 with fail
    show Code.wp _ _ _ _ ((w.alloc (.cells QL 34)).alloc (.cells HA 25))
    rw [← hW]
    clear hW
    go_wp2_with (first
      | refine wpList_load_row rfl 25 (.tmp 6) rfl (w.heap.size + 1) rfl 25 HA (0, 0) _ bH.out Tryd.underlying25 rfl (by rw [SHA.out]; kernel_rfl) ?_
      | (go_at_call 23; refine C1.out.mono ?_; rintro r w1 ⟨A1, c1, rfl, o1, b1⟩
         have B1 := Lib.hid (bL.out.trans (b1.mono bL.out.size))
         clear o1 b1))
    go_ret2
    exact ⟨4, by decide, rfl, B1.out⟩
end Go.Proofs.YtjibbegdieiknaaDoor
