/-
  The plain mathematics of SHA-256: words, rounds, the schedule. No Go, no program.
-/
import Derived.Test.YtpedajjmbdjfiaaInts
namespace Go.Proofs.Ytpedajjmbdjfiaa

def W32 (x : Int) : Prop := 0 ≤ x ∧ x < 4294967296
/-- A word, turned to the left; to the right. -/
def rotl (x : Int) (s : Nat) : Int := bits .or .u32 (x * 2 ^ s % 4294967296) (x / 2 ^ (32 - s))
def rotr (x : Int) (s : Nat) : Int := bits .or .u32 (x / 2 ^ s) (x * 2 ^ (32 - s) % 4294967296)
def wS1 (e : Int) : Int := bits .xor .u32 (bits .xor .u32 (rotr e 6) (rotr e 11)) (rotr e 25)
def wS0 (a : Int) : Int := bits .xor .u32 (bits .xor .u32 (rotr a 2) (rotr a 13)) (rotr a 22)
def wch (e f g : Int) : Int := bits .or .u32 (bits .and .u32 e f) (bits .and .u32 (bits .xor .u32 IntKind.u32.max e) g)
def wmaj (a b c : Int) : Int := bits .or .u32 (bits .or .u32 (bits .and .u32 a b) (bits .and .u32 a c)) (bits .and .u32 b c)
def ws0 (x : Int) : Int := bits .xor .u32 (bits .xor .u32 (rotr x 7) (rotr x 18)) (x / 2 ^ 3)
def ws1 (x : Int) : Int := bits .xor .u32 (bits .xor .u32 (rotr x 17) (rotr x 19)) (x / 2 ^ 10)
theorem W32.nat {x : Int} (h : W32 x) : ∃ n : Nat, x = n ∧ n < 4294967296 := ⟨x.toNat, by have := h.1; omega, by have := h.1; have := h.2; omega⟩
theorem W32.ofNat {n : Nat} (h : n < 4294967296) : W32 (n : Int) := ⟨by omega, by omega⟩
theorem W32.mod (x : Int) : W32 (x % 4294967296) := ⟨Int.emod_nonneg _ (by omega), Int.emod_lt_of_pos _ (by omega)⟩
theorem W32.div {x : Int} (h : W32 x) (s : Nat) : W32 (x / 2 ^ s) := by
  obtain ⟨n, rfl, hn⟩ := h.nat
  have e : ((n : Int) / 2 ^ s) = ((n / 2 ^ s : Nat) : Int) := by simp
  rw [e]
  exact W32.ofNat (Nat.lt_of_le_of_lt (Nat.div_le_self _ _) hn)
theorem W32.xor {x y : Int} (hx : W32 x) (hy : W32 y) : W32 (bits .xor .u32 x y) := by
  obtain ⟨a, rfl, ha⟩ := hx.nat
  obtain ⟨b, rfl, hb⟩ := hy.nat
  rw [u32_xor_nat a b ha hb]
  exact W32.ofNat (Nat.xor_lt_two_pow (n := 32) ha hb)
theorem W32.or {x y : Int} (hx : W32 x) (hy : W32 y) : W32 (bits .or .u32 x y) := by
  obtain ⟨a, rfl, ha⟩ := hx.nat
  obtain ⟨b, rfl, hb⟩ := hy.nat
  rw [u32_or_nat a b ha hb]
  exact W32.ofNat (Nat.or_lt_two_pow (n := 32) ha hb)
theorem W32.and {x y : Int} (hx : W32 x) (hy : W32 y) : W32 (bits .and .u32 x y) := by
  obtain ⟨a, rfl, ha⟩ := hx.nat
  obtain ⟨b, rfl, hb⟩ := hy.nat
  rw [u32_and_nat a b ha hb]
  exact W32.ofNat (Nat.and_lt_two_pow (n := 32) _ hb)
theorem or_comm32 {x y : Int} (hx : W32 x) (hy : W32 y) : bits .or .u32 x y = bits .or .u32 y x := by
  obtain ⟨a, rfl, ha⟩ := hx.nat
  obtain ⟨b, rfl, hb⟩ := hy.nat
  rw [u32_or_nat a b ha hb, u32_or_nat b a hb ha, Nat.or_comm]
theorem rotl_rotr {x : Int} (h : W32 x) {s t : Nat} (hst : 32 - s = t) (hts : 32 - t = s) : rotl x s = rotr x t := by
  unfold rotl rotr
  rw [hst, hts]
  exact or_comm32 (W32.mod _) (h.div _)
theorem W32.rotr {x : Int} (h : W32 x) (s : Nat) : W32 (rotr x s) := (h.div s).or (W32.mod _)
theorem max_u32 : IntKind.u32.max = ((4294967295 : Nat) : Int) := by decide
theorem testBit_max (i : Nat) : (4294967295 : Nat).testBit i = decide (i < 32) := Nat.testBit_two_pow_sub_one 32 i
theorem testBit_small {a : Nat} (ha : a < 4294967296) {i : Nat} (h : a.testBit i = true) : i < 32 := by
  rcases Nat.lt_or_ge i 32 with hi | hi
  · exact hi
  · rw [Nat.testBit_lt_two_pow (Nat.lt_of_lt_of_le ha (Nat.pow_le_pow_right (by omega) hi : 2 ^ 32 ≤ 2 ^ i))] at h; cases h
theorem pch_is {e f g : Int} (he : W32 e) (hf : W32 f) (hg : W32 g) :
    bits .xor .u32 (bits .and .u32 e f) (bits .and .u32 (bits .xor .u32 IntKind.u32.max e) g) = wch e f g := by
  obtain ⟨a, rfl, ha⟩ := he.nat
  obtain ⟨b, rfl, hb⟩ := hf.nat
  obtain ⟨c, rfl, hc⟩ := hg.nat
  unfold wch
  rw [max_u32, u32_xor_nat _ a (by omega) ha, u32_and_nat a b ha hb]
  have h1 : (4294967295 ^^^ a) < 4294967296 := Nat.xor_lt_two_pow (n := 32) (by omega) ha
  have h2 : (a &&& b) < 4294967296 := Nat.and_lt_two_pow (n := 32) _ hb
  rw [u32_and_nat _ c h1 hc]
  have h3 : ((4294967295 ^^^ a) &&& c) < 4294967296 := Nat.and_lt_two_pow (n := 32) _ hc
  rw [u32_xor_nat _ _ h2 h3, u32_or_nat _ _ h2 h3]
  congr 1
  apply Nat.eq_of_testBit_eq
  intro i
  simp only [Nat.testBit_xor, Nat.testBit_and, Nat.testBit_or, testBit_max]
  cases hi : a.testBit i
  · simp
  · simp [testBit_small ha hi]
theorem pmaj_is {a b c : Int} (wa : W32 a) (wb : W32 b) (wc : W32 c) :
    bits .xor .u32 (bits .xor .u32 (bits .and .u32 a b) (bits .and .u32 a c)) (bits .and .u32 b c) = wmaj a b c := by
  obtain ⟨a, rfl, ha⟩ := wa.nat
  obtain ⟨b, rfl, hb⟩ := wb.nat
  obtain ⟨c, rfl, hc⟩ := wc.nat
  unfold wmaj
  have h1 : (a &&& b) < 4294967296 := Nat.and_lt_two_pow (n := 32) _ hb
  have h2 : (a &&& c) < 4294967296 := Nat.and_lt_two_pow (n := 32) _ hc
  have h3 : (b &&& c) < 4294967296 := Nat.and_lt_two_pow (n := 32) _ hc
  have h4 : (a &&& b) ^^^ (a &&& c) < 4294967296 := Nat.xor_lt_two_pow (n := 32) h1 h2
  have h5 : (a &&& b) ||| (a &&& c) < 4294967296 := Nat.or_lt_two_pow (n := 32) h1 h2
  rw [u32_and_nat a b ha hb, u32_and_nat a c ha hc, u32_and_nat b c hb hc, u32_xor_nat _ _ h1 h2, u32_or_nat _ _ h1 h2, u32_xor_nat _ _ h4 h3, u32_or_nat _ _ h5 h3]
  congr 1
  apply Nat.eq_of_testBit_eq
  intro i
  simp only [Nat.testBit_xor, Nat.testBit_and, Nat.testBit_or]
  cases a.testBit i <;> cases b.testBit i <;> cases c.testBit i <;> rfl

/-- The constants. -/
def shaH : List Int := [0x6a09e667, 0xbb67ae85, 0x3c6ef372, 0xa54ff53a, 0x510e527f, 0x9b05688c, 0x1f83d9ab, 0x5be0cd19]
def shaK : List Int := [
  0x428a2f98, 0x71374491, 0xb5c0fbcf, 0xe9b5dba5, 0x3956c25b, 0x59f111f1, 0x923f82a4, 0xab1c5ed5,
  0xd807aa98, 0x12835b01, 0x243185be, 0x550c7dc3, 0x72be5d74, 0x80deb1fe, 0x9bdc06a7, 0xc19bf174,
  0xe49b69c1, 0xefbe4786, 0x0fc19dc6, 0x240ca1cc, 0x2de92c6f, 0x4a7484aa, 0x5cb0a9dc, 0x76f988da,
  0x983e5152, 0xa831c66d, 0xb00327c8, 0xbf597fc7, 0xc6e00bf3, 0xd5a79147, 0x06ca6351, 0x14292967,
  0x27b70a85, 0x2e1b2138, 0x4d2c6dfc, 0x53380d13, 0x650a7354, 0x766a0abb, 0x81c2c92e, 0x92722c85,
  0xa2bfe8a1, 0xa81a664b, 0xc24b8b70, 0xc76c51a3, 0xd192e819, 0xd6990624, 0xf40e3585, 0x106aa070,
  0x19a4c116, 0x1e376c08, 0x2748774c, 0x34b0bcb5, 0x391c0cb3, 0x4ed8aa4a, 0x5b9cca4f, 0x682e6ff3,
  0x748f82ee, 0x78a5636f, 0x84c87814, 0x8cc70208, 0x90befffa, 0xa4506ceb, 0xbef9a3f7, 0xc67178f2]

/-- The eight words. -/
structure St where
  a : Int
  b : Int
  c : Int
  d : Int
  e : Int
  f : Int
  g : Int
  h : Int
def St.list (s : St) : List Int := [s.a, s.b, s.c, s.d, s.e, s.f, s.g, s.h]
def St.ok (s : St) : Prop := W32 s.a ∧ W32 s.b ∧ W32 s.c ∧ W32 s.d ∧ W32 s.e ∧ W32 s.f ∧ W32 s.g ∧ W32 s.h
def stepR (s : St) (k x : Int) : St :=
  ⟨(s.h + wS1 s.e + wch s.e s.f s.g + k + x + wS0 s.a + wmaj s.a s.b s.c) % 4294967296, s.a, s.b, s.c, (s.d + (s.h + wS1 s.e + wch s.e s.f s.g + k + x)) % 4294967296, s.e, s.f, s.g⟩
def rnd (s0 : St) (ws : List Int) : Nat → St
  | 0 => s0
  | i + 1 => stepR (rnd s0 ws i) (shaK.getD i 0) (ws.getD i 0)
def St.add (s t : St) : St :=
  ⟨(s.a + t.a) % 4294967296, (s.b + t.b) % 4294967296, (s.c + t.c) % 4294967296, (s.d + t.d) % 4294967296, (s.e + t.e) % 4294967296, (s.f + t.f) % 4294967296, (s.g + t.g) % 4294967296, (s.h + t.h) % 4294967296⟩
def compr (s : St) (ws : List Int) : St := s.add (rnd s ws 64)
theorem stepR_ok {s : St} (h : s.ok) (k x : Int) : (stepR s k x).ok := ⟨W32.mod _, h.1, h.2.1, h.2.2.1, W32.mod _, h.2.2.2.2.1, h.2.2.2.2.2.1, h.2.2.2.2.2.2.1⟩
theorem rnd_ok {s : St} (h : s.ok) (ws : List Int) : ∀ i, (rnd s ws i).ok
  | 0 => h
  | i + 1 => stepR_ok (rnd_ok h ws i) _ _
theorem compr_ok (s : St) (ws : List Int) : (compr s ws).ok := ⟨W32.mod _, W32.mod _, W32.mod _, W32.mod _, W32.mod _, W32.mod _, W32.mod _, W32.mod _⟩
/-- The schedule of a block of bytes: its first n words. -/
def wat (b : List Int) (i : Nat) : Int := b.getD (4 * i) 0 * 16777216 + b.getD (4 * i + 1) 0 * 65536 + b.getD (4 * i + 2) 0 * 256 + b.getD (4 * i + 3) 0
def sch (b : List Int) : Nat → List Int
  | 0 => []
  | n + 1 => sch b n ++ [if n < 16 then wat b n else ((sch b n).getD (n - 16) 0 + ws0 ((sch b n).getD (n - 15) 0) + (sch b n).getD (n - 7) 0 + ws1 ((sch b n).getD (n - 2) 0)) % 4294967296]
theorem sch_length (b : List Int) : ∀ n, (sch b n).length = n
  | 0 => rfl
  | n + 1 => by rw [sch, List.length_append, sch_length b n]; rfl
theorem wat_ok {b : List Int} (hb : Bytes b) (i : Nat) : W32 (wat b i) := by
  have h : ∀ j, 0 ≤ b.getD j 0 ∧ b.getD j 0 < 256 := by
    intro j
    rw [List.getD]
    cases hj : b[j]? with
    | none => simp
    | some x => exact hb.at hj
  have h0 := h (4 * i)
  have h1 := h (4 * i + 1)
  have h2 := h (4 * i + 2)
  have h3 := h (4 * i + 3)
  unfold wat W32
  omega
theorem sch_ok {b : List Int} (hb : Bytes b) : ∀ n, ∀ x ∈ sch b n, W32 x
  | 0, _, h => by cases h
  | n + 1, x, h => by
    rw [sch] at h
    rcases List.mem_append.1 h with h | h
    · exact sch_ok hb n x h
    · simp only [List.mem_singleton] at h
      rw [h]
      split
      · exact wat_ok hb n
      · exact W32.mod _
theorem sch_set (b : List Int) (n : Nat) (h : n < 64) (x : Int) (hx : sch b (n + 1) = sch b n ++ [x]) : (sch b n ++ List.replicate (64 - n) 0).set n x = sch b (n + 1) ++ List.replicate (64 - (n + 1)) 0 := by
  obtain ⟨d, hd⟩ : ∃ d, 64 - n = d + 1 := ⟨64 - n - 1, by omega⟩
  rw [hd, show 64 - (n + 1) = d by omega, hx, List.set_append_right _ _ (by rw [sch_length]; omega), sch_length, Nat.sub_self, List.replicate_succ, List.set_cons_zero, List.append_assoc]
  rfl
/-- Four bytes, joined. -/
theorem join4 (a b c d : Int) (ha : 0 ≤ a ∧ a < 256) (hb : 0 ≤ b ∧ b < 256) (hc : 0 ≤ c ∧ c < 256) (hd : 0 ≤ d ∧ d < 256) :
    bits .or .u32 (bits .or .u32 (bits .or .u32 (a * 16777216) (b * 65536)) (c * 256)) d = a * 16777216 + b * 65536 + c * 256 + d := by
  have e1 : bits .or .u32 (a * 16777216) (b * 65536) = a * 16777216 + b * 65536 := by
    rw [u32_or _ _ (by omega) (by omega) (by omega) (by omega), nat_join 24 _ _ (by omega) (by omega)]; omega
  rw [e1]
  have e2 : bits .or .u32 (a * 16777216 + b * 65536) (c * 256) = a * 16777216 + b * 65536 + c * 256 := by
    rw [u32_or _ _ (by omega) (by omega) (by omega) (by omega), nat_join 16 _ _ (by omega) (by omega)]; omega
  rw [e2, u32_or _ _ (by omega) (by omega) (by omega) (by omega), nat_join 8 _ _ (by omega) (by omega)]
  omega
end Go.Proofs.Ytpedajjmbdjfiaa
