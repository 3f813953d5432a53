/-
  The plain mathematics of the integers' encodings: no Go, no program.
-/
import Derived.Test.YtpaglcojbcndoaaDoorWords
namespace Go.Proofs.YtpaglcojbcndoaaDoor

def vsize (n : Int) : Int := if n < 64 then 1 else if n < 16384 then 2 else if n < 1073741824 then 4 else if n < 4611686018427387904 then 8 else 0
/-- How many bytes an encoding has whose first byte is b. -/
def vlen (b : Int) : Nat := if b < 64 then 1 else if b < 128 then 2 else if b < 192 then 4 else 8
/-- Bytes that are read on, behind acc. -/
def vfold (acc : Int) (l : List Int) : Int := l.foldl (fun a b => a * 256 + b) acc
/-- The length of the encoding at the beginning of l; 0: it is incomplete. -/
def rdS : List Int → Nat
  | [] => 0
  | b :: r => if (b :: r).length < vlen b then 0 else vlen b
/-- The number at the beginning of l. -/
def rdN : List Int → Int
  | [] => 0
  | b :: r => if (b :: r).length < vlen b then 0 else vfold (b % 64) (r.take (vlen b - 1))

theorem vlen_pow (x : Int) (h0 : 0 ≤ x) (h1 : x < 256) : RowKit.wrap64 (2 ^ (x / 64).toNat) = (vlen x : Int) := by
  unfold vlen
  rcases (show x < 64 ∨ 64 ≤ x ∧ x < 128 ∨ 128 ≤ x ∧ x < 192 ∨ 192 ≤ x by omega) with h | h | h | h
  · rw [if_pos h, show x / 64 = 0 by omega]; simp [RowKit.wrap64]
  · rw [if_neg (by omega), if_pos (by omega), show x / 64 = 1 by omega]; simp [RowKit.wrap64]
  · rw [if_neg (by omega), if_neg (by omega), if_pos (by omega), show x / 64 = 2 by omega]; simp [RowKit.wrap64]
  · rw [if_neg (by omega), if_neg (by omega), if_neg (by omega), show x / 64 = 3 by omega]; simp [RowKit.wrap64]
theorem vlen_bd (x : Int) : 1 ≤ vlen x ∧ vlen x ≤ 8 := by
  unfold vlen
  (repeat' split) <;> omega
theorem vfold_snoc (acc : Int) (l : List Int) (y : Int) : vfold acc (l ++ [y]) = vfold acc l * 256 + y := by simp [vfold]
theorem vfold_bd : ∀ (l : List Int) (acc M : Int), Bytes l → 0 ≤ acc → acc < M → 0 ≤ vfold acc l ∧ vfold acc l < M * 256 ^ l.length
  | [], acc, M, _, h0, h1 => by simp [vfold]; omega
  | x :: l, acc, M, hb, h0, h1 => by
    obtain ⟨a, b⟩ := hb x (by simp)
    have := vfold_bd l (acc * 256 + x) (M * 256) (fun y hy => hb y (by simp [hy])) (by omega) (by omega)
    have e : vfold acc (x :: l) = vfold (acc * 256 + x) l := rfl
    rw [e, List.length_cons, Int.pow_succ]
    refine ⟨this.1, ?_⟩
    have h2 := this.2
    rw [Int.mul_assoc, Int.mul_comm 256] at h2
    exact h2
/-- Less than seven bytes behind six bits: below 2^54. -/
theorem vfold_lt (l : List Int) (acc : Int) (hb : Bytes l) (h0 : 0 ≤ acc) (h1 : acc < 64) (hl : l.length ≤ 6) : 0 ≤ vfold acc l ∧ vfold acc l < 18014398509481984 := by
  have h := vfold_bd l acc 64 hb h0 h1
  refine ⟨h.1, Int.lt_of_lt_of_le h.2 ?_⟩
  rcases (show l.length = 0 ∨ l.length = 1 ∨ l.length = 2 ∨ l.length = 3 ∨ l.length = 4 ∨ l.length = 5 ∨ l.length = 6 by omega) with e | e | e | e | e | e | e <;> rw [e] <;> decide
theorem take_snoc' (l : List Int) (k : Nat) (h : k < l.length) : l.take (k + 1) = l.take k ++ [l.getD k 0] := by
  rw [List.take_succ_eq_append_getElem h]
  simp [List.getD, List.getElem?_eq_getElem h]
theorem or_join (a y : Int) (h0 : 0 ≤ a) (h1 : a < 18014398509481984) (hy0 : 0 ≤ y) (hy1 : y < 256) : bits .or .u64 (IntKind.u64.wrap (a * 256)) y = a * 256 + y := by
  rw [IntKind.wrap_u64, Int.emod_eq_of_lt (by omega) (by omega), u64_or _ _ (by omega) (by omega) (by omega) (by omega), nat_join 8 _ _ (by omega) (by omega)]
  omega
/-- The last k bytes of n, the greatest place first. -/
def be (n : Int) : Nat → List Int
  | 0 => []
  | k + 1 => n / 256 ^ k % 256 :: be n k
def vtag (s : Nat) : Int := if s = 1 then 0 else if s = 2 then 1 else if s = 4 then 2 else 3
/-- The encoding of n that has s bytes. -/
def wenc (n : Int) (s : Nat) : List Int := (n / 256 ^ (s - 1) % 256 + 64 * vtag s) :: be n (s - 1)
def IsSize (s : Int) (k : Nat) (b : Int) (t : Int) : Prop :=
  s = 1 ∧ k = 1 ∧ b = 64 ∧ t = 0 ∨ s = 2 ∧ k = 2 ∧ b = 16384 ∧ t = 1 ∨ s = 4 ∧ k = 4 ∧ b = 1073741824 ∧ t = 2 ∨ s = 8 ∧ k = 8 ∧ b = 4611686018427387904 ∧ t = 3
theorem be_length (n : Int) : ∀ k, (be n k).length = k
  | 0 => rfl
  | k + 1 => by simp [be, be_length n k]
theorem be_bytes (n : Int) : ∀ k, Bytes (be n k)
  | 0 => Bytes.nil
  | k + 1 => Bytes.cons (Int.emod_nonneg _ (by omega)) (Int.emod_lt_of_pos _ (by omega)) (be_bytes n k)
theorem be_step (n : Int) (s k : Nat) (h : k < s) : (List.replicate (s - k) (0 : Int) ++ be n k).set (s - 1 - k) (n / 256 ^ k % 256) = List.replicate (s - (k + 1)) 0 ++ be n (k + 1) := by
  obtain ⟨d, rfl⟩ : ∃ d, s = k + 1 + d := ⟨s - (k + 1), by omega⟩
  have e1 : k + 1 + d - k = d + 1 := by omega
  have e2 : k + 1 + d - 1 - k = d := by omega
  have e3 : k + 1 + d - (k + 1) = d := by omega
  rw [e1, e2, e3, List.replicate_succ', List.append_assoc, List.set_append_right _ _ (by simp)]
  simp [be]
theorem pow_shift (k : Nat) (n : Int) : n / 2 ^ (8 * k) = n / 256 ^ k := by rw [Int.pow_mul]; rfl
theorem be_zero (n : Int) (s k : Nat) (h : k < s) : (List.replicate (s - k) (0 : Int) ++ be n k)[s - 1 - k]? = some 0 := by
  rw [List.getElem?_append_left (by rw [List.length_replicate]; omega), List.getElem?_replicate, if_pos (by omega)]
theorem top_small {n b t : Int} {k m : Nat} (hs : IsSize k k b t) (hm : k = m + 1) (h0 : 0 ≤ n) (hn : n < b) : 0 ≤ n / 256 ^ m % 256 ∧ n / 256 ^ m % 256 < 64 := by
  unfold IsSize at hs
  rcases (show k = 1 ∧ b = 64 ∨ k = 2 ∧ b = 16384 ∨ k = 4 ∧ b = 1073741824 ∨ k = 8 ∧ b = 4611686018427387904 by omega) with ⟨h, rfl⟩ | ⟨h, rfl⟩ | ⟨h, rfl⟩ | ⟨h, rfl⟩
  · obtain rfl : m = 0 := by omega
    simp; omega
  · obtain rfl : m = 1 := by omega
    simp; omega
  · obtain rfl : m = 3 := by omega
    simp; omega
  · obtain rfl : m = 7 := by omega
    simp; omega
theorem vtag_of {b t : Int} {k : Nat} (hs : IsSize k k b t) : vtag k = t := by
  unfold IsSize at hs
  unfold vtag
  rcases (show k = 1 ∧ t = 0 ∨ k = 2 ∧ t = 1 ∨ k = 4 ∧ t = 2 ∨ k = 8 ∧ t = 3 by omega) with ⟨rfl, rfl⟩ | ⟨rfl, rfl⟩ | ⟨rfl, rfl⟩ | ⟨rfl, rfl⟩ <;> rfl
theorem or_tag (x t : Int) (h0 : 0 ≤ x) (h1 : x < 64) (t0 : 0 ≤ t) (t3 : t ≤ 3) : bits .or .u8 x (t * 64) = x + 64 * t := by
  rw [u8_or _ _ (by omega) (by omega) (by omega) (by omega), Nat.or_comm, nat_join 6 _ _ (by omega) (by omega)]
  omega
theorem wenc_length (n : Int) (k : Nat) (h : 1 ≤ k) : (wenc n k).length = k := by simp [wenc, be_length]; omega
theorem wenc_bytes {n b t : Int} {k : Nat} (hs : IsSize k k b t) (h0 : 0 ≤ n) (hn : n < b) : Bytes (wenc n k) := by
  have hk : 1 ≤ k := by unfold IsSize at hs; omega
  have h := top_small hs (show k = (k - 1) + 1 by omega) h0 hn
  have ht : 0 ≤ t ∧ t ≤ 3 := by unfold IsSize at hs; omega
  have hv := vtag_of hs
  exact Bytes.cons (by omega) (by omega) (be_bytes _ _)
theorem emod_step (n P : Int) (hP : 0 < P) : n % (P * 256) = n % P + P * (n / P % 256) := by
  have h1 := Int.mul_ediv_add_emod n P
  have h2 := Int.mul_ediv_add_emod (n / P) 256
  have h3 := Int.emod_nonneg n (show P ≠ 0 by omega)
  have h4 := Int.emod_lt_of_pos n hP
  have h5 := Int.emod_nonneg (n / P) (show (256 : Int) ≠ 0 by omega)
  have h6 := Int.emod_lt_of_pos (n / P) (show (0 : Int) < 256 by omega)
  have e : n = (n % P + P * (n / P % 256)) + P * 256 * (n / P / 256) := by
    have e1 : P * (n / P) = P * (256 * (n / P / 256)) + P * (n / P % 256) := by rw [← Int.mul_add, h2]
    rw [Int.mul_assoc]
    omega
  have hnn : 0 ≤ P * (n / P % 256) := Int.mul_nonneg (by omega) h5
  have hlt : P * (n / P % 256) ≤ P * 255 := Int.mul_le_mul_of_nonneg_left (by omega) (by omega)
  rw [e, Int.add_mul_emod_self_left]
  rw [← e]
  exact Int.emod_eq_of_lt (by omega) (by omega)
theorem vfold_be (n : Int) : ∀ (m : Nat) (a : Int), vfold a (be n m) = a * 256 ^ m + n % 256 ^ m
  | 0, a => by simp [be, vfold]
  | m + 1, a => by
    have e : vfold a (be n (m + 1)) = vfold (a * 256 + n / 256 ^ m % 256) (be n m) := rfl
    rw [e, vfold_be n m, Int.pow_succ, emod_step n _ (Int.pow_pos (by omega)), Int.add_mul, Int.mul_assoc, Int.mul_comm 256, Int.mul_comm (n / 256 ^ m % 256)]
    omega
theorem wenc_ne {n : Int} {k : Nat} (bh : List Int) : wenc n k ++ bh = (n / 256 ^ (k - 1) % 256 + 64 * vtag k) :: (be n (k - 1) ++ bh) := rfl
theorem wenc_vlen {n b t : Int} {k : Nat} (hs : IsSize k k b t) (h0 : 0 ≤ n) (hn : n < b) : vlen (n / 256 ^ (k - 1) % 256 + 64 * vtag k) = k := by
  have hk : 1 ≤ k := by unfold IsSize at hs; omega
  have h := top_small hs (show k = (k - 1) + 1 by omega) h0 hn
  rw [vtag_of hs]
  unfold IsSize at hs
  unfold vlen
  (repeat' split) <;> omega
/-- What stands at the beginning is read again, whatever stands behind. -/
theorem rdS_wenc {n b t : Int} {k : Nat} (hs : IsSize k k b t) (h0 : 0 ≤ n) (hn : n < b) (bh : List Int) : rdS (wenc n k ++ bh) = k := by
  have hk : 1 ≤ k := by unfold IsSize at hs; omega
  rw [wenc_ne]
  simp only [rdS]
  rw [wenc_vlen hs h0 hn, if_neg (by simp only [List.length_cons, List.length_append, be_length]; omega)]
theorem rdN_wenc {n b t : Int} {k : Nat} (hs : IsSize k k b t) (h0 : 0 ≤ n) (hn : n < b) (bh : List Int) : rdN (wenc n k ++ bh) = n := by
  have hk : 1 ≤ k := by unfold IsSize at hs; omega
  have h := top_small hs (show k = (k - 1) + 1 by omega) h0 hn
  have ht : 0 ≤ t ∧ t ≤ 3 := by unfold IsSize at hs; omega
  rw [wenc_ne]
  simp only [rdN]
  rw [wenc_vlen hs h0 hn, if_neg (by simp only [List.length_cons, List.length_append, be_length]; omega), List.take_append_of_le_length (by rw [be_length]; omega), List.take_of_length_le (by rw [be_length]; omega), vfold_be, vtag_of hs]
  have e1 : (n / 256 ^ (k - 1) % 256 + 64 * t) % 64 = n / 256 ^ (k - 1) % 256 := by omega
  have hP : (0 : Int) < 256 ^ (k - 1) := Int.pow_pos (by omega)
  have e2 : n / 256 ^ (k - 1) % 256 = n / 256 ^ (k - 1) := by
    refine Int.emod_eq_of_lt (Int.ediv_nonneg h0 (by omega)) ?_
    refine Int.ediv_lt_of_lt_mul hP ?_
    unfold IsSize at hs
    rcases (show k = 1 ∧ b = 64 ∨ k = 2 ∧ b = 16384 ∨ k = 4 ∧ b = 1073741824 ∨ k = 8 ∧ b = 4611686018427387904 by omega) with ⟨rfl, rfl⟩ | ⟨rfl, rfl⟩ | ⟨rfl, rfl⟩ | ⟨rfl, rfl⟩ <;> simp <;> omega
  rw [e1, e2, Int.mul_comm]
  exact Int.mul_ediv_add_emod n _
theorem drop_wenc {n b t : Int} {k : Nat} (hs : IsSize k k b t) (bh : List Int) : (wenc n k ++ bh).drop k = bh := by
  have hk : 1 ≤ k := by unfold IsSize at hs; omega
  rw [List.drop_append_of_le_length (by rw [wenc_length n k hk]; omega), List.drop_of_length_le (by rw [wenc_length n k hk]; omega), List.nil_append]
end Go.Proofs.YtpaglcojbcndoaaDoor
