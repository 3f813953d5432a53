/-
  The clock and the meter of the round-trip time, as plain numbers.
-/
import Derived.Test.YtjkgieenipmcdaaWords
namespace Go.Proofs.Ytjkgieenipmcdaa
set_option linter.unusedVariables false

/-- A clock's numbers. -/
structure CK where
  la : Int
  le : Int
  sm : Int
  va : Int
  sp : Bool
def ck0 : CK := ⟨0, 0, 10, 5, false⟩
/-- No number is more than a tick may be. -/
def CkOk (c : CK) : Prop := (0 ≤ c.la ∧ c.la ≤ 1099511627776) ∧ (0 ≤ c.le ∧ c.le ≤ 1099511627776) ∧ (0 ≤ c.sm ∧ c.sm ≤ 1099511627776) ∧ (0 ≤ c.va ∧ c.va ≤ 1099511627776)
theorem ck0_ok : CkOk ck0 := by unfold CkOk ck0; simp
/-- The first sample. -/
def ckF (x : Int) : CK := ⟨min x 1099511627776, min x 1099511627776, min x 1099511627776, min x 1099511627776 / 2, true⟩
/-- What a later sample counts as. -/
def ckA (le x d : Int) : Int := if min le (min x 1099511627776) + min d 1099511627776 ≤ min x 1099511627776 then min x 1099511627776 - min d 1099511627776 else min x 1099511627776
def ckN (c : CK) (x d : Int) : CK := ⟨min x 1099511627776, min c.le (min x 1099511627776), (7 * c.sm + ckA c.le x d) / 8, (3 * c.va + (max c.sm (ckA c.le x d) - min c.sm (ckA c.le x d))) / 4, true⟩
/-- A sample. -/
def ckS (c : CK) (x d : Int) : CK := if c.sp then ckN c x d else ckF x
theorem ckS_ok {c : CK} {x d : Int} (h : CkOk c) (hx : 0 ≤ x) (hd : 0 ≤ d) : CkOk (ckS c x d) := by
  unfold CkOk at h
  unfold ckS
  split
  · unfold CkOk ckN
    have : 0 ≤ ckA c.le x d ∧ ckA c.le x d ≤ 1099511627776 := by unfold ckA; split <;> omega
    generalize ckA c.le x d = A at *
    simp only
    omega
  · unfold CkOk ckF
    simp only
    omega
theorem ckS_sp (c : CK) (x d : Int) : (ckS c x d).sp = true := by unfold ckS ckN ckF; split <;> rfl

/-- How long to wait without tries. -/
def ckW0 (c : CK) : Int := c.sm + max (4 * c.va) 1 + 2
theorem ckW0_ok {c : CK} (h : CkOk c) : 3 ≤ ckW0 c ∧ ckW0 c ≤ 5497558138882 := by
  unfold CkOk at h
  unfold ckW0
  omega
/-- So many tries count. -/
def trN (t : Int) : Nat := (min (max t 0) 20).toNat
theorem trN_le (t : Int) : trN t ≤ 20 := by unfold trN; omega
def ckW (c : CK) (t : Int) : Int := ckW0 c * 2 ^ trN t
theorem two_pow_le {n : Nat} (h : n ≤ 20) : (1 : Int) ≤ 2 ^ n ∧ (2 : Int) ^ n ≤ 1048576 := by
  have h1 : (2 : Nat) ^ n ≤ 2 ^ 20 := Nat.pow_le_pow_right (by omega) h
  have h2 : 0 < (2 : Nat) ^ n := Nat.pow_pos (by omega)
  have e : ((2 : Int) ^ n) = (((2 : Nat) ^ n : Nat) : Int) := by simp
  rw [e]
  have : (2 : Nat) ^ 20 = 1048576 := by decide
  omega
theorem ckW_ok {c : CK} (t : Int) (h : CkOk c) : 3 ≤ ckW c t ∧ ckW c t < 18446744073709551616 := by
  obtain ⟨h1, h2⟩ := ckW0_ok h
  obtain ⟨h3, h4⟩ := two_pow_le (trN_le t)
  unfold ckW
  constructor
  · calc (3 : Int) = 3 * 1 := by omega
      _ ≤ ckW0 c * 2 ^ trN t := Int.mul_le_mul h1 h3 (by omega) (by omega)
  · have : ckW0 c * 2 ^ trN t ≤ 5497558138882 * 1048576 := Int.mul_le_mul h2 h4 (by omega) (by omega)
    omega
/-- After how long a packet is lost. -/
def ckL (c : CK) : Int := max (9 * max c.la c.sm / 8) 1
theorem ckL_pos (c : CK) : 1 ≤ ckL c := by unfold ckL; omega
/-- Each try doubles. -/
theorem ckW_two (c : CK) (n : Nat) (h : n < 20) : ckW c ((n : Int) + 1) = 2 * ckW c (n : Int) := by
  have e1 : trN ((n : Int) + 1) = n + 1 := by unfold trN; omega
  have e2 : trN (n : Int) = n := by unfold trN; omega
  unfold ckW
  rw [e1, e2, Int.pow_succ, ← Int.mul_assoc, Int.mul_comm]

/-- A meter's numbers. -/
structure MT where
  wi : Int
  th : Int
  fl : Int
  rc : Bool
  st : Int
def mt0 : MT := ⟨12000, 4611686018427387903, 0, false, 0⟩
def MtOk (m : MT) : Prop := (2400 ≤ m.wi ∧ m.wi ≤ 1073741824) ∧ (0 ≤ m.th ∧ m.th ≤ 4611686018427387903) ∧ (0 ≤ m.fl ∧ m.fl ≤ 1073741824) ∧ (0 ≤ m.st ∧ m.st < 18446744073709551616)
theorem mt0_ok : MtOk mt0 := by unfold MtOk mt0; simp
/-- A packet may have so many bytes. -/
def mSz (n : Int) : Bool := decide (0 ≤ n) && decide (n ≤ 1200)
theorem mSz_true {n : Int} (h : mSz n = true) : 0 ≤ n ∧ n ≤ 1200 := by
  unfold mSz at h
  simp at h
  exact h
/-- Sent behind the start of the last recovery. -/
def mAf (m : MT) (sent : Int) : Bool := !m.rc || decide (m.st < sent)
def mGrow (m : MT) (n : Int) : MT := { m with wi := min (m.wi + (if m.th ≤ m.wi then 1200 * n / m.wi else n)) 1073741824 }
def mShrink (m : MT) (now : Int) : MT := ⟨max (m.wi / 2) 2400, max (m.wi / 2) 2400, m.fl, true, now⟩
def mSend (m : MT) (n : Int) : MT × Int := if mSz n = true then (if 1073741824 - m.fl < n then (m, 8) else ({ m with fl := m.fl + n }, 0)) else (m, 1)
def mGone (m : MT) (n : Int) : MT × Int := if mSz n = true then (if m.fl < n then (m, 6) else ({ m with fl := m.fl - n }, 0)) else (m, 1)
def mAcked (m : MT) (n sent : Int) : MT × Int := if (mGone m n).2 = 0 ∧ mAf (mGone m n).1 sent = true then (mGrow (mGone m n).1 n, 0) else mGone m n
def mLost (m : MT) (n sent now : Int) : MT × Int := if (mGone m n).2 = 0 ∧ mAf (mGone m n).1 sent = true then (mShrink (mGone m n).1 now, 0) else mGone m n
/-- A call: 0 Send, 1 Acked, 2 Lost, else Gone. -/
def mDo (m : MT) (k n sent now : Int) : MT × Int := if k = 0 then mSend m n else if k = 1 then mAcked m n sent else if k = 2 then mLost m n sent now else mGone m n
theorem div_le_n {a w : Int} (h0 : 0 ≤ a) (hw : 2400 ≤ w) : 0 ≤ a / w ∧ a / w ≤ a := ⟨Int.ediv_nonneg h0 (by omega), Int.ediv_le_self _ h0⟩
theorem mGone_ok {m : MT} {n : Int} (h : MtOk m) : MtOk (mGone m n).1 := by
  unfold mGone
  split
  · rename_i hs
    obtain ⟨h0, h1⟩ := mSz_true hs
    split
    · exact h
    · unfold MtOk at h ⊢
      simp only
      omega
  · exact h
theorem mSend_ok {m : MT} {n : Int} (h : MtOk m) : MtOk (mSend m n).1 := by
  unfold mSend
  split
  · rename_i hs
    obtain ⟨h0, h1⟩ := mSz_true hs
    split
    · exact h
    · unfold MtOk at h ⊢
      simp only
      omega
  · exact h
theorem mGrow_ok {m : MT} {n : Int} (h : MtOk m) (h0 : 0 ≤ n) (h1 : n ≤ 1200) : MtOk (mGrow m n) := by
  unfold MtOk at h ⊢
  unfold mGrow
  obtain ⟨d0, d1⟩ := @div_le_n (1200 * n) m.wi (by omega) (by omega)
  generalize 1200 * n / m.wi = D at *
  simp only
  split <;> omega
theorem mShrink_ok {m : MT} {now : Int} (h : MtOk m) (h0 : 0 ≤ now) (h1 : now < 18446744073709551616) : MtOk (mShrink m now) := by
  unfold MtOk at h ⊢
  unfold mShrink
  simp only
  omega
theorem mGone_sz {m : MT} {n : Int} (h : (mGone m n).2 = 0) : 0 ≤ n ∧ n ≤ 1200 := by
  unfold mGone at h
  split at h
  · rename_i hs
    exact mSz_true hs
  · simp at h
theorem mAcked_ok {m : MT} {n sent : Int} (h : MtOk m) : MtOk (mAcked m n sent).1 := by
  unfold mAcked
  split
  · rename_i hs
    obtain ⟨h0, h1⟩ := mGone_sz hs.1
    exact mGrow_ok (mGone_ok h) h0 h1
  · exact mGone_ok h
theorem mLost_ok {m : MT} {n sent now : Int} (h : MtOk m) (h0 : 0 ≤ now) (h1 : now < 18446744073709551616) : MtOk (mLost m n sent now).1 := by
  unfold mLost
  split
  · exact mShrink_ok (mGone_ok h) h0 h1
  · exact mGone_ok h
theorem mDo_ok {m : MT} {k n sent now : Int} (h : MtOk m) (h0 : 0 ≤ now) (h1 : now < 18446744073709551616) : MtOk (mDo m k n sent now).1 := by
  unfold mDo
  split
  · exact mSend_ok h
  · split
    · exact mAcked_ok h
    · split
      · exact mLost_ok h h0 h1
      · exact mGone_ok h
end Go.Proofs.Ytjkgieenipmcdaa
