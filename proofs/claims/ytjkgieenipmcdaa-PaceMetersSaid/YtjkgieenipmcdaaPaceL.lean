/-
  The reference's meter, whole.
-/
import Derived.Test.YtjkgieenipmcdaaPaceJ
import Derived.Test.YtjkgieenipmcdaaPaceK
namespace Go.Proofs.Ytjkgieenipmcdaa
open Go.RowKit
set_option linter.unusedVariables false
theorem gone_of {m : MT} {n : Int} (h0 : 0 ≤ n) (h1 : n ≤ 1200) (hf : n ≤ m.fl) : mGone m n = ({ m with fl := m.fl - n }, 0) := by
  have hs : mSz n = true := by simp [mSz, h0, h1]
  unfold mGone
  rw [if_pos hs, if_neg (by omega)]
theorem rDo_any (h : Nat) (m : MT) (q n s t : Int) (w : World) (x : RMt w h m) (ok : MtOk m) (hq : q = 0 ∨ q = 1 ∨ q = 2 ∨ q = 3) (t0 : 0 ≤ t) (t1 : t < 18446744073709551616) :
    Calls Try.prog 23 #[.pointer (some ⟨h, 0, none⟩), .int .u8 q, .int .i64 n, .int .u64 s, .int .u64 t] w (DoPost h w (mDo m q n s t)) := by
  by_cases hs : mSz n = true
  · obtain ⟨h0, h1⟩ := mSz_true hs
    by_cases hq0 : q = 0
    · subst hq0
      exact rDo_0 h m n s t w x ok h0 h1
    · have hq1 : 1 ≤ q := by omega
      by_cases hf : m.fl < n
      · have e : mDo m q n s t = (m, 6) := by
          have eg : mGone m n = (m, 6) := by unfold mGone; rw [if_pos hs, if_pos hf]
          rcases hq with rfl | rfl | rfl | rfl
          · exact absurd rfl hq0
          all_goals simp [mDo, mAcked, mLost, eg]
        rw [e]
        exact rDo_less h m q n s t w x ok h0 h1 hq1 hf
      · have hf' : n ≤ m.fl := by omega
        have eg := gone_of h0 h1 hf'
        have ea : mAf { m with fl := m.fl - n } s = mAf m s := rfl
        by_cases ha : mAf m s = true
        · rcases hq with rfl | rfl | rfl | rfl
          · exact absurd rfl hq0
          · have e : mDo m 1 n s t = (mGrow { m with fl := m.fl - n } n, 0) := by simp [mDo, mAcked, eg, ea, ha]
            rw [e]
            exact rDo_1 h m n s t w x ok h0 h1 hf' ha
          · have e : mDo m 2 n s t = (mShrink { m with fl := m.fl - n } t, 0) := by simp [mDo, mLost, eg, ea, ha]
            rw [e]
            exact rDo_2 h m n s t w x ok h0 h1 hf' ha t0 t1
          · have e : mDo m 3 n s t = ({ m with fl := m.fl - n }, 0) := by simp [mDo, eg]
            rw [e]
            exact rDo_3 h m n s t w x ok h0 h1 hf' ha
        · have e : mDo m q n s t = ({ m with fl := m.fl - n }, 0) := by
            rcases hq with rfl | rfl | rfl | rfl
            · exact absurd rfl hq0
            all_goals simp [mDo, mAcked, mLost, eg, ea, ha]
          rw [e]
          exact rDo_keep h m q n s t w x ok h0 h1 hq1 hf' ha
  · have e : mDo m q n s t = (m, 1) := by
      have eg : mGone m n = (m, 1) := by unfold mGone; rw [if_neg hs]
      rcases hq with rfl | rfl | rfl | rfl <;> simp [mDo, mSend, mAcked, mLost, eg, hs]
    rw [e]
    exact rDo_size h m q n s t w x hs
end Go.Proofs.Ytjkgieenipmcdaa
