/-
  PaceGrows.
-/
import Derived.Test.YtjkgieenipmcdaaPaceE
import Derived.Test.YtjkgieenipmcdaaInts
namespace Go.Proofs.Ytjkgieenipmcdaa
open Go.RowKit
set_option linter.unusedVariables false

def mtG (W : Int) : MT := ⟨W, 4611686018427387903, 0, false, 0⟩
def mtS (W n : Int) : MT := ⟨W, 4611686018427387903, n, false, 0⟩
theorem mtG_0 : mt0 = mtG 12000 := rfl
theorem mtG_ok {W : Int} (h0 : 12000 ≤ W) (h1 : W ≤ 100000) : MtOk (mtG W) := by unfold MtOk mtG; simp only; omega
theorem mtS_ok {W n : Int} (h0 : 12000 ≤ W) (h1 : W ≤ 100000) (n0 : 0 ≤ n) (n1 : n ≤ 1200) : MtOk (mtS W n) := by unfold MtOk mtS; simp only; omega
theorem send_G {W n : Int} (n0 : 0 ≤ n) (n1 : n ≤ 1200) : mSend (mtG W) n = (mtS W n, 0) := by
  have hs : mSz n = true := by simp [mSz, n0, n1]
  unfold mSend
  rw [if_pos hs, if_neg (by unfold mtG; simp only; omega)]
  simp [mtG, mtS]
theorem acked_S {W n s : Int} (h0 : 12000 ≤ W) (h1 : W ≤ 100000) (n0 : 0 ≤ n) (n1 : n ≤ 1200) : mAcked (mtS W n) n s = (mtG (W + n), 0) := by
  have hs : mSz n = true := by simp [mSz, n0, n1]
  have hg : mGone (mtS W n) n = (mtG W, 0) := by
    unfold mGone
    rw [if_pos hs, if_neg (by unfold mtS; simp only; omega)]
    simp [mtG, mtS]
  unfold mAcked
  rw [hg, if_pos ⟨rfl, by simp [mAf, mtG]⟩]
  unfold mGrow
  rw [if_neg (by unfold mtG; simp only; omega)]
  have : min (W + n) 1073741824 = W + n := by omega
  simp [mtG, this]
theorem wf_u16 {n : Int} (h : (Lit.int .u16 n).wf = true) : 0 ≤ n ∧ n < 65536 := by
  have := bounds_u16 h
  omega
theorem wf_small {n : Int} (h0 : 0 ≤ n) (h1 : n ≤ 1000000) : (Lit.int .i64 n).wf = true := by
  simp [Lit.wf, IntKind.min, IntKind.max, IntKind.signed, IntKind.bits]
  omega

theorem grows_walk (A : Option Addr) (c : Nat) (l : List Int) (w : World) (hr : RdI .u16 w A l) (hw : WF .u16 l) (hlc : l.length ≤ c) (hcm : c ≤ 9223372036854775807) (hA : A = none → c = 0) :
    Calls Try.prog 7 #[.slice A l.length c] w fun r w' => r = .returned (.bool true) ∧ Below w.heap.size w w' := by
  have HR := Lib.hid hr
  have HW := Lib.hid hw
  clear hr hw hA
  go_enter Try.func7, Try.ntmps7
  go_wp2_with fail
  refine (awake8_any _).mono ?_
  rintro e w1 ⟨rfl, b1⟩
  go_wp2_with fail
  refine (NewMeter_any _).mono ?_
  rintro e w2 ⟨m, rfl, j0, l1, b2⟩
  have hz := b1.size
  have bb := b1.trans (b2.mono hz)
  have hm : w.heap.size ≤ m := by omega
  rw [mtG_0] at j0
  clear b1 b2
  go_wp2_with fail
  go_loopw [16, 4] (fun i t wr => ∃ (k : Nat) (W : Int), k ≤ l.length ∧ k ≤ 60 ∧ 12000 ≤ W ∧ W ≤ 12000 + 1200 * (k : Int) ∧ i = .int .i64 k ∧ t = .int .i64 W ∧ Mtr wr m (mtG W) ∧ Below w.heap.size w wr) (fun i _ _ => l.length - (intOf i).toNat)
  case atStart => exact ⟨0, 12000, by omega, by omega, by omega, by omega, rfl, rfl, j0, bb⟩
  case round =>
    obtain ⟨k, W, hk, hk6, hW0, hW1, rfl, rfl, j1, b1⟩ := hrel
    by_cases hlt : k < l.length
    · by_cases h60 : k < 60
      · obtain ⟨b, off, x, rfl, hb, hx, hc⟩ := (HR.out.below b1).at_ hlt
        obtain ⟨x0, x1⟩ := wf_u16 (HW.out x (List.mem_of_getElem? hx))
        clear hx
        go_wp2_with fail
        have n0 : 0 ≤ x % 1201 := by omega
        have n1 : x % 1201 ≤ 1200 := by omega
        have H1 := Send_any m (mtG W) (x % 1201) _ j1 (mtG_ok hW0 (by omega)) (wf_small n0 (by omega))
        rw [send_G n0 n1] at H1
        generalize x % 1201 = n at *
        refine H1.mono ?_
        rintro e w3 ⟨rfl, j2, g2⟩
        have H2 := Acked_any m (mtS W n) n k _ j2 (mtS_ok hW0 (by omega) n0 n1) (wf_small n0 (by omega)) (by omega) (by omega)
        rw [acked_S hW0 (by omega) n0 n1] at H2
        clear H1
        go_wp2_with fail
        refine H2.mono ?_
        rintro e w4 ⟨rfl, j3, g3⟩
        have bb4 := below_gb (below_gb b1 g2 hm b1.size) g3 hm (by have := g2.size; have := b1.size; omega)
        clear H2 g2 g3 j2 hc j1 b1
        go_wp2_with fail
        refine (Told_meter m (mtG (W + n)) _ j3).mono ?_
        rintro e w5 ⟨rfl, q5, rfl⟩
        have e1 : (mtG (W + n)).wi = W + n := rfl
        have e2 : (mtG (W + n)).fl = 0 := rfl
        rw [e1, e2]
        generalize (mtG (W + n)).th = th
        clear e1 e2
        go_wp2_with fail
        go_roundw
        case rel => exact ⟨k + 1, W + n, by omega, by omega, by omega, by omega, by go_num, rfl, j3.drewN _, below_drewN bb4 _⟩
        case measure => simp [intOf]; omega
      · obtain ⟨b, off, x, rfl, hb, hx, hc⟩ := (HR.out.below b1).at_ hlt
        have h61 : (60 : Int) ≤ k := by omega
        clear hx h60
        go_wp2_with fail
        go_ret
        exact ⟨rfl, b1⟩
    · have hd : decide (k < l.length) = false := by simpa using hlt
      go_wp2_with fail
      go_ret
      exact ⟨rfl, b1⟩
end Go.Proofs.Ytjkgieenipmcdaa
