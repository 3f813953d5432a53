/-
  head.Bytes: its parts (valid, firstByte, appendNumber).
-/
import Derived.Test.YtomapklkbfjafaaDoorHeadV
namespace Go.Proofs.YtomapklkbfjafaaDoor
open Go.RowKit
set_option linter.unusedVariables false
set_option linter.unusedSimpArgs false

theorem valid_any (lg : Bool) (lv : Int) (ph : Bool) (A : Option Addr) (a : List Int) (c : Nat) (B : Option Addr) (b : List Int) (d : Nat) (w : World) :
    Calls Tryd.prog 15 #[HV lg lv ph A a c B b d] w fun r w' => r = .returned (.bool (rightB lg lv ph a b)) ∧ Below w.heap.size w w' := by
  unfold HV
  obtain ⟨R, hR⟩ : ∃ R, R = rightB lg lv ph a b := ⟨_, rfl⟩
  rw [← hR]
  have bb : Below w.heap.size w (w.alloc (.cells #[.bool lg, .int .i64 lv, .bool ph, .slice A a.length c, .slice B b.length d] 24)) := (Below.refl _ _).alloc (Nat.le_refl _) _
  have hR' : R = if lg then (decide (lv = 0) || decide (lv = 1)) && decide (a.length ≤ 20) && decide (b.length ≤ 20) && !ph else decide (lv = 2) && decide (a.length = 8) && decide (b.length = 0) := by
    rw [hR]
    unfold rightB
    cases lg
    · rfl
    · have e1 : (decide (0 ≤ lv) && decide (lv ≤ 1)) = (decide (lv = 0) || decide (lv = 1)) := by
        rw [Bool.eq_iff_iff]; simp; omega
      have e2 : ∀ n : Nat, decide (n < 21) = decide (n ≤ 20) := fun n => by rw [Bool.eq_iff_iff]; simp; omega
      simp only [if_true, e1, e2]
  clear hR
  have BB := Lib.hid bb
  clear bb
  cases lg
  · by_cases h2 : lv = 2
    · by_cases h8 : a.length = 8
      · by_cases h0 : b.length = 0
        · have e0 : ((b.length : Int) == 0) = true := by simp [h0]
          have e8 : ((a.length : Int) == 8) = true := by simp; omega
          have e2 : (lv == 2) = true := by simp [h2]
          have HR := Lib.hid (show R = true by rw [hR']; simp [h2, h8, h0])
          clear hR' h2 h8 h0
          go_enter Tryd.func15, Tryd.ntmps15
          go_wp2_with fail
          go_ret
          exact ⟨by rw [HR.out]; rfl, BB.out⟩
        · have e0 : ((b.length : Int) == 0) = false := by rw [beq_eq_false_iff_ne]; omega
          have e8 : ((a.length : Int) == 8) = true := by simp; omega
          have e2 : (lv == 2) = true := by simp [h2]
          have HR := Lib.hid (show R = false by rw [hR']; simp [h0])
          clear hR' h2 h8 h0
          go_enter Tryd.func15, Tryd.ntmps15
          go_wp2_with fail
          go_ret
          exact ⟨by rw [HR.out]; rfl, BB.out⟩
      · have e8 : ((a.length : Int) == 8) = false := by simp; omega
        have e2 : (lv == 2) = true := by simp [h2]
        have HR := Lib.hid (show R = false by rw [hR']; simp [h8])
        clear hR' h2 h8
        go_enter Tryd.func15, Tryd.ntmps15
        go_wp2_with fail
        go_ret
        exact ⟨by rw [HR.out]; rfl, BB.out⟩
    · have e2 : (lv == 2) = false := by simp [h2]
      have HR := Lib.hid (show R = false by rw [hR']; simp [h2])
      clear hR' h2
      go_enter Tryd.func15, Tryd.ntmps15
      go_wp2_with fail
      go_ret
      exact ⟨by rw [HR.out]; rfl, BB.out⟩
  · have hl : (lv = 0 ∧ (lv == 0) = true) ∨ (lv = 1 ∧ (lv == 0) = false ∧ (lv == 1) = true) ∨ (¬ lv = 0 ∧ ¬ lv = 1 ∧ (lv == 0) = false ∧ (lv == 1) = false) := by
      by_cases h0 : lv = 0
      · exact .inl ⟨h0, by simp [h0]⟩
      · by_cases h1 : lv = 1
        · exact .inr (.inl ⟨h1, by simp [h0], by simp [h1]⟩)
        · exact .inr (.inr ⟨h0, h1, by simp [h0], by simp [h1]⟩)
    have ha : (a.length ≤ 20 ∧ decide ((a.length : Int) ≤ 20) = true) ∨ (¬ a.length ≤ 20 ∧ decide ((a.length : Int) ≤ 20) = false) := by
      by_cases h : a.length ≤ 20
      · exact .inl ⟨h, by simp; omega⟩
      · exact .inr ⟨h, by simp; omega⟩
    have hb : (b.length ≤ 20 ∧ decide ((b.length : Int) ≤ 20) = true) ∨ (¬ b.length ≤ 20 ∧ decide ((b.length : Int) ≤ 20) = false) := by
      by_cases h : b.length ≤ 20
      · exact .inl ⟨h, by simp; omega⟩
      · exact .inr ⟨h, by simp; omega⟩
    rcases hl with ⟨l1, l2⟩ | ⟨l1, l2, l3⟩ | ⟨l1, l1', l2, l3⟩
    · rcases ha with ⟨a1, a2⟩ | ⟨a1, a2⟩
      · rcases hb with ⟨b1, b2⟩ | ⟨b1, b2⟩
        · have HR := Lib.hid (show R = !ph by rw [hR']; simp [l1, a1, b1])
          clear hR' l1 a1 b1
          go_enter Tryd.func15, Tryd.ntmps15
          go_wp2_with fail
          go_ret
          exact ⟨by rw [HR.out]; rfl, BB.out⟩
        · have HR := Lib.hid (show R = false by rw [hR']; simp [b1])
          clear hR' l1 a1 b1
          go_enter Tryd.func15, Tryd.ntmps15
          go_wp2_with fail
          go_ret
          exact ⟨by rw [HR.out]; rfl, BB.out⟩
      · have HR := Lib.hid (show R = false by rw [hR']; simp [a1])
        clear hR' l1 a1 hb
        go_enter Tryd.func15, Tryd.ntmps15
        go_wp2_with fail
        go_ret
        exact ⟨by rw [HR.out]; rfl, BB.out⟩
    · rcases ha with ⟨a1, a2⟩ | ⟨a1, a2⟩
      · rcases hb with ⟨b1, b2⟩ | ⟨b1, b2⟩
        · have HR := Lib.hid (show R = !ph by rw [hR']; simp [l1, a1, b1])
          clear hR' l1 a1 b1
          go_enter Tryd.func15, Tryd.ntmps15
          go_wp2_with fail
          go_ret
          exact ⟨by rw [HR.out]; rfl, BB.out⟩
        · have HR := Lib.hid (show R = false by rw [hR']; simp [b1])
          clear hR' l1 a1 b1
          go_enter Tryd.func15, Tryd.ntmps15
          go_wp2_with fail
          go_ret
          exact ⟨by rw [HR.out]; rfl, BB.out⟩
      · have HR := Lib.hid (show R = false by rw [hR']; simp [a1])
        clear hR' l1 a1 hb
        go_enter Tryd.func15, Tryd.ntmps15
        go_wp2_with fail
        go_ret
        exact ⟨by rw [HR.out]; rfl, BB.out⟩
    · have HR := Lib.hid (show R = false by rw [hR']; simp [l1, l1'])
      clear hR' l1 l1' ha hb
      go_enter Tryd.func15, Tryd.ntmps15
      go_wp2_with fail
      go_ret
      exact ⟨by rw [HR.out]; rfl, BB.out⟩

def fB (lg : Bool) (lv : Int) (ph : Bool) (s : Int) : Int := if lg then 192 + 32 * lv + s - 1 else if ph then 64 + s - 1 + 4 else 64 + s - 1
theorem firstByte_any (lg : Bool) (lv : Int) (ph : Bool) (A : Option Addr) (a : List Int) (c : Nat) (B : Option Addr) (b : List Int) (d : Nat) (s : Int) (w : World) (hs : 1 ≤ s ∧ s ≤ 4) (hr : rightB lg lv ph a b = true) :
    Calls Tryd.prog 16 #[HV lg lv ph A a c B b d, .int .i64 s] w fun r w' => r = .returned (.int .u8 (fB lg lv ph s)) ∧ Below w.heap.size w w' := by
  have hrr : (lg = true ∧ ph = false ∧ (lv = 0 ∨ lv = 1)) ∨ (lg = false ∧ lv = 2) := by
    unfold rightB at hr
    cases lg
    · simp at hr
      exact .inr ⟨rfl, hr.1.1⟩
    · simp at hr
      exact .inl ⟨rfl, hr.2, by omega⟩
  have hs4 : s = 1 ∨ s = 2 ∨ s = 3 ∨ s = 4 := by omega
  clear hr hs
  unfold HV
  rcases hrr with ⟨rfl, rfl, rfl | rfl⟩ | ⟨rfl, rfl⟩
  · rcases hs4 with rfl | rfl | rfl | rfl
    all_goals
      go_enter Tryd.func16, Tryd.ntmps16
      go_wp2_with fail
      go_ret
      exact ⟨rfl, (Below.refl _ _).alloc (Nat.le_refl _) _⟩
  · rcases hs4 with rfl | rfl | rfl | rfl
    all_goals
      go_enter Tryd.func16, Tryd.ntmps16
      go_wp2_with fail
      go_ret
      exact ⟨rfl, (Below.refl _ _).alloc (Nat.le_refl _) _⟩
  · cases ph <;> rcases hs4 with rfl | rfl | rfl | rfl
    all_goals
      go_enter Tryd.func16, Tryd.ntmps16
      go_wp2_with fail
      go_ret
      exact ⟨rfl, (Below.refl _ _).alloc (Nat.le_refl _) _⟩

theorem be_at (n : Int) : ∀ (s j : Nat), j < s → (be n s)[j]? = some (n / 256 ^ (s - 1 - j) % 256)
  | 0, j, h => by omega
  | k + 1, 0, _ => by simp [be]
  | k + 1, j + 1, h => by
    have := be_at n k j (by omega)
    rw [be, List.getElem?_cons_succ, this, show k + 1 - 1 - (j + 1) = k - 1 - j by omega]
set_option maxHeartbeats 800000 in
theorem appendNumber_any (A : Option Addr) (c : Nat) (P : List Int) (pn : Int) (s base : Nat) (w : World) (hown : Own w base A c P) (hP : P.length ≤ 1000) (hb : base ≤ w.heap.size) (hpn : 0 ≤ pn ∧ pn < 18446744073709551616) (hs : s ≤ 4) :
    Calls Tryd.prog 18 #[.slice A P.length c, .int .u64 pn, .int .i64 (s : Int)] w fun r w' => ∃ A' c', r = .returned (.slice A' (P ++ be pn s).length c') ∧ Own w' base A' c' (P ++ be pn s) ∧ Below base w w' := by
  have HPN := Lib.hid hpn
  have HO := Lib.hid hown
  obtain ⟨O, hO⟩ : ∃ O, O = P ++ be pn s := ⟨_, rfl⟩
  rw [← hO]
  have HOO := Lib.hid hO
  clear hown hO
  go_enter Tryd.func18, Tryd.ntmps18
  go_wp2_with fail
  go_loopw [0, 9] (fun p i wr => ∃ (j : Nat) (X : List Int) (A2 : Option Addr) (c2 : Nat), j ≤ s ∧ i = .int .i64 j ∧ X = P ++ (be pn s).take j ∧ p = .slice A2 X.length c2 ∧ Own wr base A2 c2 X ∧ Below base w wr) (fun _ i _ => s - (intOf i).toNat)
  case atStart => exact ⟨0, P, A, c, by omega, rfl, by simp, rfl, HO.out, Below.refl _ _⟩
  case round =>
    obtain ⟨j, X, A2, c2, hj, rfl, hX, rfl, hown, hbel⟩ := hrel
    have hXl : X.length ≤ 1004 := by rw [hX, List.length_append, List.length_take, be_length]; omega
    by_cases hjs : j < s
    · have hget := be_at pn s j hjs
      have HT := Lib.hid (show (be pn s).take (j + 1) = (be pn s).take j ++ [pn / 2 ^ (8 * (s - 1 - j)) % 256] by rw [List.take_add_one, hget, pow_shift]; rfl)
      have HX := Lib.hid hX
      have hsz := hbel.size
      have HOW := Lib.hid hown
      have HBE := Lib.hid hbel
      have e8 : (8 * ((s : Int) - 1 - (j : Int))).toNat = 8 * (s - 1 - j) := by omega
      have h8 : 0 ≤ 8 * ((s : Int) - 1 - (j : Int)) ∧ 8 * ((s : Int) - 1 - (j : Int)) ≤ 24 := by omega
      obtain ⟨Y, hY⟩ : ∃ Y, Y = X ++ [pn / 2 ^ (8 * (s - 1 - j)) % 256] := ⟨_, rfl⟩
      have HY := Lib.hid hY
      clear hX hget hown hbel hpn hY
      go_wp2_with (at_builtin; go_must (refine wpList_appX rfl (.tmp 12) (.tmp 21) rfl base (l := X) (news := [pn / 2 ^ (8 * (s - 1 - j)) % 256]) Y HY.out rfl rfl (HOW.out.below ((Below.refl _ _).alloc (Nat.le_refl _) _)) (Rd.of_own (own_lit1 wr _ (Nat.le_refl _))) (by simp; omega) (by simp; omega) ?_); intro A3 c3 w3 o3 g3 b3)
      go_roundw
      case rel =>
        refine ⟨j + 1, Y, A3, c3, by omega, by go_num, by rw [HY.out, HX.out, HT.out, List.append_assoc], rfl, o3, ?_⟩
        exact (HBE.out.trans ((Below.refl _ _).alloc (Nat.le_trans hb hsz) _)).trans b3
      case measure => simp [intOf]; omega
    · have hjj : j = s := by omega
      have hXe : X = O := by rw [HOO.out, hX, hjj, List.take_of_length_le (by rw [be_length]; exact Nat.le_refl _)]
      have HXE := Lib.hid hXe
      have HOW := Lib.hid hown
      have HBE := Lib.hid hbel
      have hnj : ¬ ((j : Int) < (s : Int)) := by omega
      clear hX hXe hown hbel hjj
      go_wp2_with fail
      go_ret
      rw [← HXE.out]
      exact ⟨A2, c2, rfl, HOW.out, HBE.out⟩
end Go.Proofs.YtomapklkbfjafaaDoor
