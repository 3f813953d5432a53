import Derived.Test.YtfpgnaeiiponmaaDoorShaN
namespace Go.Proofs.YtfpgnaeiiponmaaDoor
open Go.RowKit
set_option linter.unusedVariables false

theorem orxor8 {d x y : Int} (hd : 0 ≤ d ∧ d < 256) (hx : 0 ≤ x ∧ x < 256) (hy : 0 ≤ y ∧ y < 256) : (0 ≤ bits .or .u8 d (bits .xor .u8 x y) ∧ bits .or .u8 d (bits .xor .u8 x y) < 256) ∧ (bits .or .u8 d (bits .xor .u8 x y) = 0 ↔ d = 0 ∧ x = y) := by
  obtain ⟨a, rfl⟩ := Int.eq_ofNat_of_zero_le hd.1
  obtain ⟨b, rfl⟩ := Int.eq_ofNat_of_zero_le hx.1
  obtain ⟨c, rfl⟩ := Int.eq_ofNat_of_zero_le hy.1
  have h1 : b ^^^ c < 2 ^ 8 := Nat.xor_lt_two_pow (by omega) (by omega)
  rw [u8_xor_nat b c (by omega) (by omega), u8_or_nat a (b ^^^ c) (by omega) (by omega)]
  have h2 : a ||| (b ^^^ c) < 2 ^ 8 := Nat.or_lt_two_pow (by omega) (by omega)
  refine ⟨by omega, ?_⟩
  have h3 : a ||| (b ^^^ c) = 0 ↔ a = 0 ∧ b ^^^ c = 0 := Nat.or_eq_zero_iff
  have h4 : b ^^^ c = 0 ↔ b = c := by
    constructor
    · intro h
      have e : (b ^^^ c) ^^^ c = 0 ^^^ c := by rw [h]
      rwa [Nat.xor_assoc, Nat.xor_self, Nat.xor_zero, Nat.zero_xor] at e
    · rintro rfl; exact Nat.xor_self _
  omega

set_option maxHeartbeats 800000 in
theorem ringSame_any (A B : Option Addr) (c d : Nat) (a b : List Int) (w : World) (ha : Rd w A a) (hb : Rd w B b) (h1 : Bytes a) (h2 : Bytes b) (hl : a.length ≤ 9223372036854775807) :
    Calls Tryd.prog 22 #[.slice A a.length c, .slice B b.length d] w fun r w' => r = .returned (.bool (sameB a b)) ∧ ∃ n, w' = w.drewN n := by
  obtain ⟨R, hR⟩ : ∃ R, R = sameB a b := ⟨_, rfl⟩
  rw [← hR]
  have HR := Lib.hid hR
  have HA := Lib.hid ha
  have HB := Lib.hid hb
  have H1 := Lib.hid h1
  have H2 := Lib.hid h2
  clear hR ha hb h1 h2
  by_cases hne : a.length = b.length
  · have HNE := Lib.hid hne
    have hdec : ((a.length : Int) != (b.length : Int)) = false := by rw [hne]; simp
    clear hne
    go_enter Tryd.func22, Tryd.ntmps22
    go_wp2_with fail
    clear hdec
    go_loopw [5, 14] (fun dv i wr => ∃ (k : Nat) (D : Int), k ≤ a.length ∧ i = .int .i64 k ∧ dv = .int .u8 D ∧ (0 ≤ D ∧ D < 256) ∧ (D = 0 ↔ a.take k = b.take k) ∧ ∃ n, wr = w.drewN n) (fun _ i _ => a.length - (intOf i).toNat)
    case atStart => exact ⟨0, 0, by omega, rfl, rfl, ⟨by omega, by omega⟩, by simp, 0, rfl⟩
    case round =>
      obtain ⟨k, D, hk, rfl, rfl, hD, hDz, n, hwn⟩ := hrel
      by_cases hkl : k < a.length
      · have hkb : k < b.length := by have := HNE.out; omega
        obtain ⟨b1, o1, rfl, l1⟩ := HA.out.some_ (by omega)
        obtain ⟨b2, o2, rfl, l2⟩ := HB.out.some_ (by omega)
        have c1 : wr.cell? ⟨b1, o1 + k, none⟩ = some (.int .u8 a[k]) := by rw [hwn]; exact HA.out.cell (List.getElem?_eq_getElem hkl)
        have c2 : wr.cell? ⟨b2, o2 + k, none⟩ = some (.int .u8 b[k]) := by rw [hwn]; exact HB.out.cell (List.getElem?_eq_getElem hkb)
        have q1 := H1.out _ (List.getElem_mem hkl)
        have q2 := H2.out _ (List.getElem_mem hkb)
        obtain ⟨x, hx⟩ : ∃ x, x = a[k] := ⟨_, rfl⟩
        obtain ⟨y, hy⟩ : ∃ y, y = b[k] := ⟨_, rfl⟩
        rw [← hx] at c1 q1
        rw [← hy] at c2 q2
        have hz := orxor8 hD q1 q2
        have hnew : (bits .or .u8 D (bits .xor .u8 x y) = 0 ↔ a.take (k + 1) = b.take (k + 1)) := by
          rw [hz.2, hDz, List.take_succ_eq_append_getElem hkl, List.take_succ_eq_append_getElem hkb, ← hx, ← hy]
          constructor
          · rintro ⟨e1, e2⟩
            rw [e1, e2]
          · intro e
            have := List.append_inj' e rfl
            exact ⟨this.1, by simpa using this.2⟩
        have HZ := Lib.hid hz.1
        have HN := Lib.hid hnew
        have j1 : (0 : Int) ≤ (k : Int) := by omega
        have j2 : (k : Int) < a.length := by omega
        have j3 : (k : Int) < b.length := by omega
        have HWN := Lib.hid hwn
        clear hDz hz hnew hx hy hwn
        go_wp2_with fail
        go_quiet (fail)
        go_wp2_with fail
        go_roundw
        case rel => exact ⟨k + 1, _, by omega, by go_num, rfl, HZ.out, HN.out, _, by rw [HWN.out, World.drewN_drewN]⟩
        case measure => simp [intOf]; omega
      · obtain rfl : k = a.length := by omega
        rw [List.take_of_length_le (Nat.le_refl _), List.take_of_length_le (by rw [HNE.out]; exact Nat.le_refl _)] at hDz
        have hfin : (D == 0) = R := by
          rw [HR.out]
          have e0 : (D == 0) = decide (D = 0) := by by_cases h : D = 0 <;> simp [h]
          rw [e0]
          unfold sameB
          by_cases h : D = 0
          · rw [decide_eq_true h, decide_eq_true (hDz.1 h)]
          · rw [decide_eq_false h, decide_eq_false (fun e => h (hDz.2 e))]
        have HF := Lib.hid hfin
        have HWN := Lib.hid hwn
        clear hfin hDz hwn
        go_wp2_with fail
        go_ret
        exact ⟨by simp [← HF.out], n, HWN.out⟩
  · have hr : R = false := by
      rw [HR.out]
      unfold sameB
      exact decide_eq_false (fun e => hne (by rw [e]))
    have HF := Lib.hid hr
    have hne2 : ((a.length : Int) != (b.length : Int)) = true := by rw [bne_iff_ne]; omega
    clear hr
    go_enter Tryd.func22, Tryd.ntmps22
    go_wp2_with fail
    go_ret
    exact ⟨by simp [HF.out], 0, rfl⟩
end Go.Proofs.YtfpgnaeiiponmaaDoor
