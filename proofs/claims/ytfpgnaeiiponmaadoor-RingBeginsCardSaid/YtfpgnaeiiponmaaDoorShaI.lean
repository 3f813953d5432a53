/-
  HMAC and HKDF, plainly; the document's examples, reckoned.
-/
import Derived.Test.YtfpgnaeiiponmaaDoorShaH
namespace Go.Proofs.YtfpgnaeiiponmaaDoor
open Go.RowKit
set_option linter.unusedVariables false

def sha (m : List Int) : List Int := outb (eat ((padm m).length / 64) st0 (padm m))
theorem outb_length (S : St) : (outb S).length = 32 := by simp [outb]
theorem sha_length (m : List Int) : (sha m).length = 32 := outb_length _
theorem outb_bytes (S : St) : Bytes (outb S) := by
  intro x hx
  simp only [outb, List.mem_map] at hx
  obtain ⟨i, _, rfl⟩ := hx
  omega
theorem sha_bytes (m : List Int) : Bytes (sha m) := outb_bytes _
def kpad (k : List Int) : List Int := k ++ List.replicate (64 - k.length) 0
def kshort (key : List Int) : List Int := if 64 < key.length then sha key else key
def kblk (key : List Int) : List Int := kpad (kshort key)
theorem kshort_le (key : List Int) : (kshort key).length ≤ 64 := by
  unfold kshort
  split
  · rw [sha_length]; omega
  · omega
theorem kshort_bytes {key : List Int} (h : Bytes key) : Bytes (kshort key) := by
  unfold kshort
  split
  · exact sha_bytes _
  · exact h
theorem kblk_length (key : List Int) : (kblk key).length = 64 := by
  have := kshort_le key
  unfold kblk kpad
  rw [List.length_append, List.length_replicate]
  omega
theorem zeros_bytes (n : Nat) : Bytes (List.replicate n 0) := by
  intro x hx
  rw [List.eq_of_mem_replicate hx]
  decide
theorem kblk_bytes {key : List Int} (h : Bytes key) : Bytes (kblk key) := (kshort_bytes h).append (zeros_bytes _)
def mskd (b : List Int) (x : Int) : List Int := b.map fun y => bits .xor .u8 y x
theorem mskd_length (b : List Int) (x : Int) : (mskd b x).length = b.length := by simp [mskd]
theorem xor8 {a b : Int} (ha : 0 ≤ a ∧ a < 256) (hb : 0 ≤ b ∧ b < 256) : 0 ≤ bits .xor .u8 a b ∧ bits .xor .u8 a b < 256 := by
  obtain ⟨x, rfl⟩ := Int.eq_ofNat_of_zero_le ha.1
  obtain ⟨y, rfl⟩ := Int.eq_ofNat_of_zero_le hb.1
  rw [u8_xor_nat x y (by omega) (by omega)]
  have : x ^^^ y < 2 ^ 8 := Nat.xor_lt_two_pow (by omega) (by omega)
  omega
theorem mskd_bytes {b : List Int} {x : Int} (h : Bytes b) (hx : 0 ≤ x ∧ x < 256) : Bytes (mskd b x) := by
  intro y hy
  simp only [mskd, List.mem_map] at hy
  obtain ⟨z, hz, rfl⟩ := hy
  exact xor8 (h z hz) hx
def hinner (key m : List Int) : List Int := sha (mskd (kblk key) 54 ++ m)
def hmac (key m : List Int) : List Int := sha (mskd (kblk key) 92 ++ hinner key m)
theorem hmac_length (key m : List Int) : (hmac key m).length = 32 := sha_length _
theorem hmac_bytes (key m : List Int) : Bytes (hmac key m) := sha_bytes _
/-- HKDF's pieces, and what is drawn. -/
def tn (key info : List Int) : Nat → List Int
  | 0 => []
  | i + 1 => hmac key (tn key info i ++ info ++ [((i + 1 : Nat) : Int)])
def hk (key info : List Int) : Nat → List Int
  | 0 => []
  | i + 1 => hk key info i ++ tn key info (i + 1)
theorem tn_length (key info : List Int) (i : Nat) : (tn key info (i + 1)).length = 32 := hmac_length _ _
theorem tn_le (key info : List Int) : ∀ i, (tn key info i).length ≤ 32
  | 0 => by simp [tn]
  | i + 1 => Nat.le_of_eq (tn_length key info i)
theorem tn_bytes (key info : List Int) : ∀ i, Bytes (tn key info i)
  | 0 => Bytes.nil
  | i + 1 => hmac_bytes _ _
theorem hk_length (key info : List Int) : ∀ i, (hk key info i).length = 32 * i
  | 0 => rfl
  | i + 1 => by rw [hk, List.length_append, hk_length key info i, tn_length]; omega
theorem hk_bytes (key info : List Int) : ∀ i, Bytes (hk key info i)
  | 0 => Bytes.nil
  | i + 1 => (hk_bytes key info i).append (tn_bytes key info (i + 1))
theorem hk_more (key info : List Int) (i : Nat) : ∀ d n, n ≤ 32 * i → (hk key info (i + d)).take n = (hk key info i).take n
  | 0, n, h => rfl
  | d + 1, n, h => by
    have e : hk key info (i + (d + 1)) = hk key info (i + d) ++ tn key info (i + d + 1) := rfl
    rw [e, List.take_append_of_le_length (by rw [hk_length]; omega), hk_more key info i d n h]
def hkdf (key info : List Int) (n : Nat) : List Int := (hk key info ((n + 31) / 32)).take n
theorem hkdf_length (key info : List Int) (n : Nat) : (hkdf key info n).length = n := by
  unfold hkdf
  rw [List.length_take, hk_length]
  omega
theorem hkdf_bytes (key info : List Int) (n : Nat) : Bytes (hkdf key info n) := (hk_bytes _ _ _).take _
theorem hkdf_at (key info : List Int) (n i : Nat) (h : n ≤ 32 * i) : (hk key info i).take n = hkdf key info n := by
  obtain ⟨d, rfl⟩ : ∃ d, i = (n + 31) / 32 + d := ⟨i - (n + 31) / 32, by omega⟩
  exact hk_more key info _ d n (by omega)
theorem hkdf_take (key info : List Int) (n m : Nat) (h : n ≤ m) : (hkdf key info m).take n = hkdf key info n := by
  unfold hkdf
  rw [List.take_take, Nat.min_eq_left h]
  exact hkdf_at key info n _ (by omega)
set_option maxRecDepth 100000 in
theorem sha_none : (sha []).getD 0 0 = 227 ∧ (sha []).getD 3 0 = 66 := by decide +kernel
def jefe : List Int := [74, 101, 102, 101]
def whatdo : List Int := [119, 104, 97, 116, 32, 100, 111, 32, 121, 97, 32, 119, 97, 110, 116, 32]
def nothing : List Int := [102, 111, 114, 32, 110, 111, 116, 104, 105, 110, 103, 63]
set_option maxRecDepth 100000 in
theorem hmac_jefe : (hmac jefe (whatdo ++ nothing)).getD 0 0 = 91 ∧ (hmac jefe (whatdo ++ nothing)).getD 3 0 = 70 := by decide +kernel
end Go.Proofs.YtfpgnaeiiponmaaDoor
