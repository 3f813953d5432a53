/-
  ChaCha20, plainly: quarters, rounds, blocks, the stream.
-/
import Derived.Test.YtpedajjmbdjfiaaInts
import Derived.Test.YtpedajjmbdjfiaaShaSpec
namespace Go.Proofs.Ytpedajjmbdjfiaa
set_option linter.unusedVariables false

def ad32 (x y : Int) : Int := (x + y) % 4294967296
def x32 (x y : Int) : Int := bits .xor .u32 x y
theorem ad32_ok (x y : Int) : W32 (ad32 x y) := W32.mod _
theorem rotl_ok {x : Int} (h : W32 x) (s : Nat) : W32 (rotl x s) := (W32.mod _).or (h.div _)
/-- Four words. -/
structure Q4 where
  a : Int
  b : Int
  c : Int
  d : Int
def Q4.ok (q : Q4) : Prop := W32 q.a ∧ W32 q.b ∧ W32 q.c ∧ W32 q.d
/-- Half a quarter round: turns by s and t. -/
def hq (s t : Nat) (q : Q4) : Q4 :=
  ⟨ad32 q.a q.b, rotl (x32 q.b (ad32 q.c (rotl (x32 q.d (ad32 q.a q.b)) s))) t, ad32 q.c (rotl (x32 q.d (ad32 q.a q.b)) s), rotl (x32 q.d (ad32 q.a q.b)) s⟩
theorem hq_ok (s t : Nat) {q : Q4} (h : q.ok) : (hq s t q).ok := by
  obtain ⟨h1, h2, h3, h4⟩ := h
  exact ⟨ad32_ok _ _, rotl_ok (h2.xor (ad32_ok _ _)) _, ad32_ok _ _, rotl_ok (h4.xor (ad32_ok _ _)) _⟩
def quart (q : Q4) : Q4 := hq 8 7 (hq 16 12 q)
theorem quart_ok {q : Q4} (h : q.ok) : (quart q).ok := hq_ok _ _ (hq_ok _ _ h)
/-- The sixteen words, as four columns. -/
structure C16 where
  p : Q4
  q : Q4
  r : Q4
  s : Q4
def C16.ok (x : C16) : Prop := x.p.ok ∧ x.q.ok ∧ x.r.ok ∧ x.s.ok
def cols (x : C16) : C16 := ⟨quart x.p, quart x.q, quart x.r, quart x.s⟩
/-- The columns, taken as diagonals; and back. -/
def todiag (x : C16) : C16 := ⟨⟨x.p.a, x.q.b, x.r.c, x.s.d⟩, ⟨x.q.a, x.r.b, x.s.c, x.p.d⟩, ⟨x.r.a, x.s.b, x.p.c, x.q.d⟩, ⟨x.s.a, x.p.b, x.q.c, x.r.d⟩⟩
def undiag (x : C16) : C16 := ⟨⟨x.p.a, x.s.b, x.r.c, x.q.d⟩, ⟨x.q.a, x.p.b, x.s.c, x.r.d⟩, ⟨x.r.a, x.q.b, x.p.c, x.s.d⟩, ⟨x.s.a, x.r.b, x.q.c, x.p.d⟩⟩
def dround (x : C16) : C16 := undiag (cols (todiag (cols x)))
theorem cols_ok {x : C16} (h : x.ok) : (cols x).ok := ⟨quart_ok h.1, quart_ok h.2.1, quart_ok h.2.2.1, quart_ok h.2.2.2⟩
theorem todiag_ok {x : C16} (h : x.ok) : (todiag x).ok := by
  obtain ⟨⟨a1, a2, a3, a4⟩, ⟨b1, b2, b3, b4⟩, ⟨c1, c2, c3, c4⟩, d1, d2, d3, d4⟩ := h
  exact ⟨⟨a1, b2, c3, d4⟩, ⟨b1, c2, d3, a4⟩, ⟨c1, d2, a3, b4⟩, d1, a2, b3, c4⟩
theorem undiag_ok {x : C16} (h : x.ok) : (undiag x).ok := by
  obtain ⟨⟨a1, a2, a3, a4⟩, ⟨b1, b2, b3, b4⟩, ⟨c1, c2, c3, c4⟩, d1, d2, d3, d4⟩ := h
  exact ⟨⟨a1, d2, c3, b4⟩, ⟨b1, a2, d3, c4⟩, ⟨c1, b2, a3, d4⟩, d1, c2, b3, a4⟩
theorem dround_ok {x : C16} (h : x.ok) : (dround x).ok := undiag_ok (cols_ok (todiag_ok (cols_ok h)))
def drounds (x : C16) : Nat → C16
  | 0 => x
  | n + 1 => dround (drounds x n)
theorem drounds_ok {x : C16} (h : x.ok) : ∀ n, (drounds x n).ok
  | 0 => h
  | n + 1 => dround_ok (drounds_ok h n)
def C16.list (x : C16) : List Int := [x.p.a, x.q.a, x.r.a, x.s.a, x.p.b, x.q.b, x.r.b, x.s.b, x.p.c, x.q.c, x.r.c, x.s.c, x.p.d, x.q.d, x.r.d, x.s.d]
theorem C16.list_length (x : C16) : x.list.length = 16 := rfl
theorem C16.list_ok {x : C16} (h : x.ok) : ∀ v ∈ x.list, W32 v := by
  obtain ⟨⟨a1, a2, a3, a4⟩, ⟨b1, b2, b3, b4⟩, ⟨c1, c2, c3, c4⟩, d1, d2, d3, d4⟩ := h
  intro v hv
  simp only [C16.list, List.mem_cons, List.not_mem_nil, or_false] at hv
  rcases hv with rfl | rfl | rfl | rfl | rfl | rfl | rfl | rfl | rfl | rfl | rfl | rfl | rfl | rfl | rfl | rfl <;> assumption
/-- A word's four bytes, the lowest first. -/
def le4 (v : Int) : List Int := [v % 256, v / 256 % 256, v / 65536 % 256, v / 16777216 % 256]
theorem le4_length (v : Int) : (le4 v).length = 4 := rfl
theorem le4_bytes (v : Int) : Bytes (le4 v) := by
  intro x hx
  simp only [le4, List.mem_cons, List.not_mem_nil, or_false] at hx
  rcases hx with rfl | rfl | rfl | rfl <;> omega
def C16.add (x y : C16) : List Int := (List.range 16).flatMap fun i => le4 (ad32 (x.list.getD i 0) (y.list.getD i 0))
def kblock (x : C16) : List Int := C16.add (drounds x 10) x
theorem kblock_length (x : C16) : (kblock x).length = 64 := rfl
theorem flatMap_bytes {α : Type} {f : α → List Int} (h : ∀ a, Bytes (f a)) (l : List α) : Bytes (l.flatMap f) := by
  intro x hx
  rw [List.mem_flatMap] at hx
  obtain ⟨a, _, hx⟩ := hx
  exact h a x hx
theorem kblock_bytes (x : C16) : Bytes (kblock x) := flatMap_bytes (fun i => le4_bytes _) _
/-- Four bytes, as a word. -/
def w4 (b : List Int) (i : Nat) : Int := b.getD i 0 + b.getD (i + 1) 0 * 256 + b.getD (i + 2) 0 * 65536 + b.getD (i + 3) 0 * 16777216
def cstate (key nonce : List Int) (n : Int) : C16 :=
  ⟨⟨0x61707865, w4 key 0, w4 key 16, n⟩, ⟨0x3320646e, w4 key 4, w4 key 20, w4 nonce 0⟩, ⟨0x79622d32, w4 key 8, w4 key 24, w4 nonce 4⟩, ⟨0x6b206574, w4 key 12, w4 key 28, w4 nonce 8⟩⟩
theorem getD_byte {b : List Int} (h : Bytes b) (i : Nat) : 0 ≤ b.getD i 0 ∧ b.getD i 0 < 256 := by
  rw [List.getD]
  cases hj : b[i]? with
  | none => simp
  | some x => exact h.at hj
theorem w4_ok {b : List Int} (h : Bytes b) (i : Nat) : W32 (w4 b i) := by
  have h0 := getD_byte h i
  have h1 := getD_byte h (i + 1)
  have h2 := getD_byte h (i + 2)
  have h3 := getD_byte h (i + 3)
  unfold w4 W32
  omega
theorem cstate_ok {key nonce : List Int} (hk : Bytes key) (hn : Bytes nonce) {n : Int} (h : W32 n) : (cstate key nonce n).ok := by
  have k := w4_ok hk
  have m := w4_ok hn
  have c0 : W32 0x61707865 := ⟨by decide, by decide⟩
  have c1 : W32 0x3320646e := ⟨by decide, by decide⟩
  have c2 : W32 0x79622d32 := ⟨by decide, by decide⟩
  have c3 : W32 0x6b206574 := ⟨by decide, by decide⟩
  exact ⟨⟨c0, k _, k _, h⟩, ⟨c1, k _, k _, m _⟩, ⟨c2, k _, k _, m _⟩, c3, k _, k _, m _⟩
/-- The block with number n (taken round). -/
def cblock (key nonce : List Int) (n : Int) : List Int := kblock (cstate key nonce (n % 4294967296))
/-- k blocks of the stream from n on. -/
def cblocks (key nonce : List Int) (n : Int) : Nat → List Int
  | 0 => []
  | k + 1 => cblock key nonce n ++ cblocks key nonce (n + 1) k
theorem cblock_length (key nonce : List Int) (n : Int) : (cblock key nonce n).length = 64 := kblock_length _
theorem cblocks_length (key nonce : List Int) : ∀ (k : Nat) (n : Int), (cblocks key nonce n k).length = 64 * k
  | 0, _ => rfl
  | k + 1, n => by rw [cblocks, List.length_append, cblock_length, cblocks_length key nonce k]; omega
theorem cblocks_bytes (key nonce : List Int) : ∀ (k : Nat) (n : Int), Bytes (cblocks key nonce n k)
  | 0, _ => Bytes.nil
  | k + 1, n => (kblock_bytes _).append (cblocks_bytes key nonce k _)
theorem cblocks_drop (key nonce : List Int) : ∀ (j k : Nat) (n : Int), (cblocks key nonce n (j + k)).drop (64 * j) = cblocks key nonce (n + j) k
  | 0, k, n => by simp
  | j + 1, k, n => by
    rw [show j + 1 + k = (j + k) + 1 by omega, cblocks, List.drop_append, List.drop_of_length_le (by rw [cblock_length]; omega), cblock_length, List.nil_append, show 64 * (j + 1) - 64 = 64 * j by omega, cblocks_drop key nonce j k (n + 1)]
    congr 1
    omega
theorem cblock_round (key nonce : List Int) (n : Int) : cblock key nonce (n % 4294967296) = cblock key nonce n := by
  unfold cblock
  rw [Int.emod_emod_of_dvd _ (Int.dvd_refl _)]
theorem cblocks_round (key nonce : List Int) : ∀ (k : Nat) (n m : Int), n % 4294967296 = m % 4294967296 → cblocks key nonce n k = cblocks key nonce m k
  | 0, _, _, _ => rfl
  | k + 1, n, m, h => by
    rw [cblocks, cblocks, ← cblock_round key nonce n, h, cblock_round, cblocks_round key nonce k (n + 1) (m + 1) (by omega)]
/-- n bytes of the stream. -/
def stream (key nonce : List Int) (from_ : Int) (n : Nat) : List Int := (cblocks key nonce from_ ((n + 63) / 64)).take n
theorem stream_length (key nonce : List Int) (f : Int) (n : Nat) : (stream key nonce f n).length = n := by
  unfold stream
  rw [List.length_take, cblocks_length]
  omega
theorem stream_bytes (key nonce : List Int) (f : Int) (n : Nat) : Bytes (stream key nonce f n) := (cblocks_bytes _ _ _ _).take _
theorem cblocks_split (key nonce : List Int) : ∀ (j k : Nat) (n : Int), cblocks key nonce n (j + k) = cblocks key nonce n j ++ cblocks key nonce (n + j) k
  | 0, k, n => by simp [cblocks]
  | j + 1, k, n => by
    rw [show j + 1 + k = (j + k) + 1 by omega, cblocks, cblocks, cblocks_split key nonce j k (n + 1), List.append_assoc]
    congr 3
    omega
theorem stream_at (key nonce : List Int) (f : Int) (n k : Nat) (h : n ≤ 64 * k) : (cblocks key nonce f k).take n = stream key nonce f n := by
  unfold stream
  obtain ⟨d, rfl⟩ : ∃ d, k = (n + 63) / 64 + d := ⟨k - (n + 63) / 64, by omega⟩
  rw [cblocks_split, List.take_append_of_le_length (by rw [cblocks_length]; omega)]
/-- The stream from a block on. -/
theorem stream_drop (key nonce : List Int) (f g : Int) (k n : Nat) (hg : g % 4294967296 = (f + k) % 4294967296) : (stream key nonce f (64 * k + n)).drop (64 * k) = stream key nonce g n := by
  unfold stream
  rw [List.drop_take, show 64 * k + n - 64 * k = n by omega, show (64 * k + n + 63) / 64 = k + (n + 63) / 64 by omega, cblocks_drop, cblocks_round key nonce _ g (f + k) hg]
/-- Bytes under a stream. -/
def xorb (l s : List Int) : List Int := List.zipWith (fun x y => bits .xor .u8 x y) l s
end Go.Proofs.Ytpedajjmbdjfiaa
