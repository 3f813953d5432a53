import Derived.Test.YtomapklkbfjafaaVintD
namespace Go.Proofs.Ytomapklkbfjafaa
open Go.RowKit
set_option linter.unusedVariables false




/-- The size of the shortest encoding. -/
theorem vsize_is (n : Int) (h0 : 0 ≤ n) (h : n < 4611686018427387904) : ∃ k b t, IsSize (vsize n) k b t ∧ n < b ∧ vsize n = k ∧ 1 ≤ k ∧ k ≤ 8 := by
  unfold vsize IsSize
  rcases (show n < 64 ∨ 64 ≤ n ∧ n < 16384 ∨ 16384 ≤ n ∧ n < 1073741824 ∨ 1073741824 ≤ n by omega) with h1 | ⟨h1, h2⟩ | ⟨h1, h2⟩ | h1
  · exact ⟨1, 64, 0, by rw [if_pos h1]; omega, h1, by rw [if_pos h1]; rfl, by omega, by omega⟩
  · exact ⟨2, 16384, 1, by rw [if_neg (by omega), if_pos h2]; omega, h2, by rw [if_neg (by omega), if_pos h2]; rfl, by omega, by omega⟩
  · exact ⟨4, 1073741824, 2, by rw [if_neg (by omega), if_neg (by omega), if_pos h2]; omega, h2, by rw [if_neg (by omega), if_neg (by omega), if_pos h2]; rfl, by omega, by omega⟩
  · exact ⟨8, 4611686018427387904, 3, by rw [if_neg (by omega), if_neg (by omega), if_neg (by omega), if_pos h]; omega, h, by rw [if_neg (by omega), if_neg (by omega), if_neg (by omega), if_pos h]; rfl, by omega, by omega⟩
/-- The shortest encoding. -/
def venc (n : Int) : List Int := wenc n (vsize n).toNat


/-- Begins l with a complete and shortest encoding? -/
def vleast (l : List Int) : Bool := decide (0 < rdS l) && decide ((rdS l : Int) = vsize (rdN l))
theorem rdN_nonneg (l : List Int) (hb : Bytes l) : 0 ≤ rdN l := by
  match l with
  | [] => simp [rdN]
  | x :: r =>
    simp only [rdN]
    split
    · omega
    · have hx := hb x (by simp)
      exact (vfold_bd _ (x % 64) 64 (Bytes.take (fun y hy => hb y (by simp [hy])) _) (by omega) (by omega)).1


theorem venc_le (n : Int) (h0 : 0 ≤ n) (hn : n < 4611686018427387904) : 1 ≤ (venc n).length ∧ (venc n).length ≤ 8 ∧ Bytes (venc n) := by
  obtain ⟨k, b, t, hs, hb, hk, hk1, hk8⟩ := vsize_is n h0 hn
  have hv : venc n = wenc n k := by rw [venc, hk]; rfl
  rw [hv, wenc_length n k hk1]
  rw [hk] at hs
  exact ⟨hk1, hk8, wenc_bytes hs h0 hb⟩
/-- A text's bytes: its length, and the text. -/
def vtext (l : List Int) : List Int := venc l.length ++ l

end Go.Proofs.Ytomapklkbfjafaa
