/-
  Joined texts.
-/
import Derived.Test.YtjibbegdieiknaaDoorMaAC
import Derived.Deep.RegionHeld3
import Derived.Deep.DeepCutAuto
import Derived.Test.YtjibbegdieiknaaDoorMaAB
import Derived.Deep.RegionWith
namespace Go.Proofs.YtjibbegdieiknaaDoor
open Go.RowKit
set_option linter.unusedVariables false
set_option linter.unusedSimpArgs false

theorem add_val (s0 s1 s2 b0 b1 b2 lo hi c0 c1 : Nat) (e0 : lo + 18446744073709551616 * c0 = s0 + b0) (e1 : hi + 18446744073709551616 * c1 = s1 + b1 + c0) :
    lo + hi * 18446744073709551616 + (s2 + b2 + c1) * 340282366920938463463374607431768211456 = (s0 + s1 * 18446744073709551616 + s2 * 340282366920938463463374607431768211456) + (b0 + b1 * 18446744073709551616 + b2 * 340282366920938463463374607431768211456) := by omega

set_option maxHeartbeats 1600000 in
theorem add_any (ga s0 s1 s2 f0 f1 z0 z1 b0 b1 b2 : Nat) (w : World) (hb : Blk w ga 124 #[.int .u64 s0, .int .u64 s1, .int .u64 s2, .int .u64 f0, .int .u64 f1, .int .u64 z0, .int .u64 z1])
    (h0 : s0 < 18446744073709551616) (h1 : s1 < 18446744073709551616) (h2 : s2 ≤ 5) (hb0 : b0 < 18446744073709551616) (hb1 : b1 < 18446744073709551616) (hb2 : b2 ≤ 1)
    (h3 : f0 < 1152921504606846976) (h4 : f1 < 1152921504606846976) (v : Nat)
    (hv : v = ((s0 + s1 * 18446744073709551616 + s2 * 340282366920938463463374607431768211456) + (b0 + b1 * 18446744073709551616 + b2 * 340282366920938463463374607431768211456)) * (f0 + f1 * 18446744073709551616)) :
    Calls Tryd.prog 76 #[.pointer (some ⟨ga, 0, none⟩), .agg #[.int .u64 b0, .int .u64 b1, .int .u64 b2]] w fun e w' => ∃ n0 n1 n2 : Nat,
      e = .returned (.tuple #[]) ∧ n0 < 18446744073709551616 ∧ n1 < 18446744073709551616 ∧
      n0 + n1 * 18446744073709551616 + n2 * 340282366920938463463374607431768211456 = v % 340282366920938463463374607431768211456 + 5 * (v / 340282366920938463463374607431768211456 / 4) + v / 340282366920938463463374607431768211456 % 4 * 340282366920938463463374607431768211456 ∧
      Blk w' ga 124 #[.int .u64 n0, .int .u64 n1, .int .u64 n2, .int .u64 f0, .int .u64 f1, .int .u64 z0, .int .u64 z1] ∧ w.grownBy w' (some ga) := by
  obtain ⟨lo, hlo⟩ : ∃ q, q = (s0 + b0) % 18446744073709551616 := ⟨_, rfl⟩
  obtain ⟨c0, hc0⟩ : ∃ q, q = (s0 + b0) / 18446744073709551616 := ⟨_, rfl⟩
  have kc0 : c0 ≤ 1 := by rw [hc0]; exact carry_le0 h0 hb0
  obtain ⟨hi, hhi⟩ : ∃ q, q = (s1 + b1 + c0) % 18446744073709551616 := ⟨_, rfl⟩
  obtain ⟨c1, hc1⟩ : ∃ q, q = (s1 + b1 + c0) / 18446744073709551616 := ⟨_, rfl⟩
  have kc1 : c1 ≤ 1 := by rw [hc1]; exact carry_le h1 hb1 kc0
  have r0 := add64_run0 s0 b0
  have r1 := add64_run s1 b1 c0 kc0
  rw [← hlo, ← hc0] at r0
  rw [← hhi, ← hc1] at r1
  have llo : lo < 18446744073709551616 := hlo ▸ m64_lt _
  have lhi : hi < 18446744073709551616 := hhi ▸ m64_lt _
  have hval := add_val s0 s1 s2 b0 b1 b2 lo hi c0 c1 (by rw [hlo, hc0]; exact Nat.mod_add_div _ _) (by rw [hhi, hc1]; exact Nat.mod_add_div _ _)
  obtain ⟨u, hu⟩ : ∃ q, q = s2 + b2 := ⟨_, rfl⟩
  have eu : (s2 : Int) + (b2 : Int) = (u : Int) := by rw [hu]; simp
  have wu : IntKind.u64.wrap (u : Int) = (u : Int) := by rw [IntKind.wrap_u64]; omega
  rw [← hu] at hval
  obtain ⟨tp, htp⟩ : ∃ q, q = u + c1 := ⟨_, rfl⟩
  rw [← htp] at hval
  rw [← hval] at hv
  have ktp : tp ≤ 7 := by omega
  have etp : (u : Int) + (c1 : Int) = (tp : Int) := by rw [htp]; simp
  have wtp : IntKind.u64.wrap (tp : Int) = (tp : Int) := by rw [IntKind.wrap_u64]; omega
  have CT := Lib.hid (fun W => times_any lo hi tp f0 f1 llo lhi ktp h3 h4 v hv W)
  have lga := hb.lt
  have kb : Blk (w.alloc (.cells #[.int .u64 b0, .int .u64 b1, .int .u64 b2] 122)) ga 124 #[.int .u64 s0, .int .u64 s1, .int .u64 s2, .int .u64 f0, .int .u64 f1, .int .u64 z0, .int .u64 z1] := hb.alloc _
  have kn : Blk (w.alloc (.cells #[.int .u64 b0, .int .u64 b1, .int .u64 b2] 122)) w.heap.size 122 #[.int .u64 b0, .int .u64 b1, .int .u64 b2] := Blk.new w _ _
  have ow : w.grownBy (w.alloc (.cells #[.int .u64 b0, .int .u64 b1, .int .u64 b2] 122)) (some ga) := only_of_below ((Below.refl _ _).alloc (Nat.le_refl _) _) _
  obtain ⟨gn, hgn⟩ : ∃ g, g = w.heap.size := ⟨_, rfl⟩
  clear hu hlo hc0 hhi hc1 hval htp hv hb kc0 kc1 h0 h1 hb0 hb1
  go_enter Tryd.func76, Tryd.ntmps76
  go_upto_region 1 with (fail)
  rw [← hgn] at kn ⊢
  clear hgn
  show Code.wp _ _ _ _ (w.alloc (.cells #[.int .u64 b0, .int .u64 b1, .int .u64 b2] 122))
  generalize w.alloc (.cells #[.int .u64 b0, .int .u64 b1, .int .u64 b2] 122) = w1 at kb kn ow ⊢
  have q0 : w1.cell? ⟨ga, 0, none⟩ = some (.int .u64 s0) := kb.cell 0
  have q1 : w1.cell? ⟨ga, 1, none⟩ = some (.int .u64 s1) := kb.cell 1
  have q2 : w1.cell? ⟨ga, 2, none⟩ = some (.int .u64 s2) := kb.cell 2
  have q3 : w1.cell? ⟨ga, 3, none⟩ = some (.int .u64 f0) := kb.cell 3
  have q4 : w1.cell? ⟨ga, 4, none⟩ = some (.int .u64 f1) := kb.cell 4
  have p0 : w1.cell? ⟨gn, 0, none⟩ = some (.int .u64 b0) := kn.cell 0
  have p1 : w1.cell? ⟨gn, 1, none⟩ = some (.int .u64 b1) := kn.cell 1
  have p2 : w1.cell? ⟨gn, 2, none⟩ = some (.int .u64 b2) := kn.cell 2
  have lt1 := kb.lt
  have lt2 := kn.lt
  have ne0 := World.new_ne w1 _ q0
  have ne1 := World.new_ne w1 _ p0
  have KB := Lib.hid kb
  have OW := Lib.hid ow
  clear kb kn ow
  go_region
  go_upto_region 2 with (fail)
  go_region
  go_upto_region 3 with (fail)
  go_region
  go_wp2_with fail
  refine (CT.out _).mono ?_
  rintro e w2 ⟨n0, n1, n2, rfl, hn0, hn1, hval, b2⟩
  have kd : Blk w1.drew.drew.drew ga 124 #[.int .u64 s0, .int .u64 s1, .int .u64 s2, .int .u64 f0, .int .u64 f1, .int .u64 z0, .int .u64 z1] := KB.out
  have ks := kd.below b2 kd.lt
  have os : w.grownBy w2 (some ga) := only_trans (only_drewN (only_drewN (only_drewN OW.out 1) 1) 1) (only_of_below b2 _)
  have KS := Lib.hid ks
  have OS := Lib.hid os
  have HN := Lib.hid (And.intro hn0 (And.intro hn1 hval))
  have x0 : w2.cell? ⟨ga, 0, none⟩ = some (.int .u64 s0) := ks.cell 0
  have x1 : w2.cell? ⟨ga, 1, none⟩ = some (.int .u64 s1) := ks.cell 1
  have x2 : w2.cell? ⟨ga, 2, none⟩ = some (.int .u64 s2) := ks.cell 2
  have g0 := ks.frozen 0
  have g1 := ks.frozen 1
  have g2 := ks.frozen 2
  clear ks os kd b2 hn0 hn1 hval q0 q1 q2 q3 q4 p0 p1 p2 ne0 ne1 eu wu etp wtp r0 r1
  go_wp2_with fail
  exact bodyPost_end (v := .tuple #[]) (results_none (by rfl) _ _ _) (by rfl) ⟨n0, n1, n2, rfl, HN.out.1, HN.out.2.1, HN.out.2.2, ((KS.out.set_ 0 (.int .u64 n0)).set_ 1 (.int .u64 n1)).set_ 2 (.int .u64 n2), only_setCell (only_setCell (only_setCell OS.out (.inl rfl) _) (.inl rfl) _) (.inl rfl) _⟩
end Go.Proofs.YtjibbegdieiknaaDoor

/-
  ChaCha20, plainly: quarters, rounds, blocks, the stream.
-/
namespace Go.Proofs.YtjibbegdieiknaaDoor
set_option linter.unusedVariables false

def ad32 (x y : Int) : Int := (x + y) % 4294967296
def x32 (x y : Int) : Int := bits .xor .u32 x y
theorem ad32_ok (x y : Int) : W32 (ad32 x y) := W32.mod _
theorem rotl_ok {x : Int} (h : W32 x) (s : Nat) : W32 (rotl x s) := (W32.mod _).or (h.div _)
/-- Four words. -/
structure Q4 where
  a : Int
  b : Int
  c : Int
  d : Int
def Q4.ok (q : Q4) : Prop := W32 q.a ∧ W32 q.b ∧ W32 q.c ∧ W32 q.d
/-- Half a quarter round: turns by s and t. -/
def hq (s t : Nat) (q : Q4) : Q4 :=
  ⟨ad32 q.a q.b, rotl (x32 q.b (ad32 q.c (rotl (x32 q.d (ad32 q.a q.b)) s))) t, ad32 q.c (rotl (x32 q.d (ad32 q.a q.b)) s), rotl (x32 q.d (ad32 q.a q.b)) s⟩
theorem hq_ok (s t : Nat) {q : Q4} (h : q.ok) : (hq s t q).ok := by
  obtain ⟨h1, h2, h3, h4⟩ := h
  exact ⟨ad32_ok _ _, rotl_ok (h2.xor (ad32_ok _ _)) _, ad32_ok _ _, rotl_ok (h4.xor (ad32_ok _ _)) _⟩
def quart (q : Q4) : Q4 := hq 8 7 (hq 16 12 q)
theorem quart_ok {q : Q4} (h : q.ok) : (quart q).ok := hq_ok _ _ (hq_ok _ _ h)
/-- The sixteen words, as four columns. -/
structure C16 where
  p : Q4
  q : Q4
  r : Q4
  s : Q4
def C16.ok (x : C16) : Prop := x.p.ok ∧ x.q.ok ∧ x.r.ok ∧ x.s.ok
def cols (x : C16) : C16 := ⟨quart x.p, quart x.q, quart x.r, quart x.s⟩
/-- The columns, taken as diagonals; and back. -/
def todiag (x : C16) : C16 := ⟨⟨x.p.a, x.q.b, x.r.c, x.s.d⟩, ⟨x.q.a, x.r.b, x.s.c, x.p.d⟩, ⟨x.r.a, x.s.b, x.p.c, x.q.d⟩, ⟨x.s.a, x.p.b, x.q.c, x.r.d⟩⟩
def undiag (x : C16) : C16 := ⟨⟨x.p.a, x.s.b, x.r.c, x.q.d⟩, ⟨x.q.a, x.p.b, x.s.c, x.r.d⟩, ⟨x.r.a, x.q.b, x.p.c, x.s.d⟩, ⟨x.s.a, x.r.b, x.q.c, x.p.d⟩⟩
def dround (x : C16) : C16 := undiag (cols (todiag (cols x)))
theorem cols_ok {x : C16} (h : x.ok) : (cols x).ok := ⟨quart_ok h.1, quart_ok h.2.1, quart_ok h.2.2.1, quart_ok h.2.2.2⟩
theorem todiag_ok {x : C16} (h : x.ok) : (todiag x).ok := by
  obtain ⟨⟨a1, a2, a3, a4⟩, ⟨b1, b2, b3, b4⟩, ⟨c1, c2, c3, c4⟩, d1, d2, d3, d4⟩ := h
  exact ⟨⟨a1, b2, c3, d4⟩, ⟨b1, c2, d3, a4⟩, ⟨c1, d2, a3, b4⟩, d1, a2, b3, c4⟩
theorem undiag_ok {x : C16} (h : x.ok) : (undiag x).ok := by
  obtain ⟨⟨a1, a2, a3, a4⟩, ⟨b1, b2, b3, b4⟩, ⟨c1, c2, c3, c4⟩, d1, d2, d3, d4⟩ := h
  exact ⟨⟨a1, d2, c3, b4⟩, ⟨b1, a2, d3, c4⟩, ⟨c1, b2, a3, d4⟩, d1, c2, b3, a4⟩
theorem dround_ok {x : C16} (h : x.ok) : (dround x).ok := undiag_ok (cols_ok (todiag_ok (cols_ok h)))
def drounds (x : C16) : Nat → C16
  | 0 => x
  | n + 1 => dround (drounds x n)
theorem drounds_ok {x : C16} (h : x.ok) : ∀ n, (drounds x n).ok
  | 0 => h
  | n + 1 => dround_ok (drounds_ok h n)
def C16.list (x : C16) : List Int := [x.p.a, x.q.a, x.r.a, x.s.a, x.p.b, x.q.b, x.r.b, x.s.b, x.p.c, x.q.c, x.r.c, x.s.c, x.p.d, x.q.d, x.r.d, x.s.d]
theorem C16.list_length (x : C16) : x.list.length = 16 := rfl
theorem C16.list_ok {x : C16} (h : x.ok) : ∀ v ∈ x.list, W32 v := by
  obtain ⟨⟨a1, a2, a3, a4⟩, ⟨b1, b2, b3, b4⟩, ⟨c1, c2, c3, c4⟩, d1, d2, d3, d4⟩ := h
  intro v hv
  simp only [C16.list, List.mem_cons, List.not_mem_nil, or_false] at hv
  rcases hv with rfl | rfl | rfl | rfl | rfl | rfl | rfl | rfl | rfl | rfl | rfl | rfl | rfl | rfl | rfl | rfl <;> assumption
/-- A word's four bytes, the lowest first. -/
def le4 (v : Int) : List Int := [v % 256, v / 256 % 256, v / 65536 % 256, v / 16777216 % 256]
theorem le4_length (v : Int) : (le4 v).length = 4 := rfl
theorem le4_bytes (v : Int) : Bytes (le4 v) := by
  intro x hx
  simp only [le4, List.mem_cons, List.not_mem_nil, or_false] at hx
  rcases hx with rfl | rfl | rfl | rfl <;> omega
def C16.add (x y : C16) : List Int := (List.range 16).flatMap fun i => le4 (ad32 (x.list.getD i 0) (y.list.getD i 0))
def kblock (x : C16) : List Int := C16.add (drounds x 10) x
theorem kblock_length (x : C16) : (kblock x).length = 64 := rfl
theorem flatMap_bytes {α : Type} {f : α → List Int} (h : ∀ a, Bytes (f a)) (l : List α) : Bytes (l.flatMap f) := by
  intro x hx
  rw [List.mem_flatMap] at hx
  obtain ⟨a, _, hx⟩ := hx
  exact h a x hx
theorem kblock_bytes (x : C16) : Bytes (kblock x) := flatMap_bytes (fun i => le4_bytes _) _
/-- Four bytes, as a word. -/
def w4 (b : List Int) (i : Nat) : Int := b.getD i 0 + b.getD (i + 1) 0 * 256 + b.getD (i + 2) 0 * 65536 + b.getD (i + 3) 0 * 16777216
def cstate (key nonce : List Int) (n : Int) : C16 :=
  ⟨⟨0x61707865, w4 key 0, w4 key 16, n⟩, ⟨0x3320646e, w4 key 4, w4 key 20, w4 nonce 0⟩, ⟨0x79622d32, w4 key 8, w4 key 24, w4 nonce 4⟩, ⟨0x6b206574, w4 key 12, w4 key 28, w4 nonce 8⟩⟩
theorem getD_byte {b : List Int} (h : Bytes b) (i : Nat) : 0 ≤ b.getD i 0 ∧ b.getD i 0 < 256 := by
  rw [List.getD]
  cases hj : b[i]? with
  | none => simp
  | some x => exact h.at hj
theorem w4_ok {b : List Int} (h : Bytes b) (i : Nat) : W32 (w4 b i) := by
  have h0 := getD_byte h i
  have h1 := getD_byte h (i + 1)
  have h2 := getD_byte h (i + 2)
  have h3 := getD_byte h (i + 3)
  unfold w4 W32
  omega
theorem cstate_ok {key nonce : List Int} (hk : Bytes key) (hn : Bytes nonce) {n : Int} (h : W32 n) : (cstate key nonce n).ok := by
  have k := w4_ok hk
  have m := w4_ok hn
  have c0 : W32 0x61707865 := ⟨by decide, by decide⟩
  have c1 : W32 0x3320646e := ⟨by decide, by decide⟩
  have c2 : W32 0x79622d32 := ⟨by decide, by decide⟩
  have c3 : W32 0x6b206574 := ⟨by decide, by decide⟩
  exact ⟨⟨c0, k _, k _, h⟩, ⟨c1, k _, k _, m _⟩, ⟨c2, k _, k _, m _⟩, c3, k _, k _, m _⟩
/-- The block with number n (taken round). -/
def cblock (key nonce : List Int) (n : Int) : List Int := kblock (cstate key nonce (n % 4294967296))
/-- k blocks of the stream from n on. -/
def cblocks (key nonce : List Int) (n : Int) : Nat → List Int
  | 0 => []
  | k + 1 => cblock key nonce n ++ cblocks key nonce (n + 1) k
theorem cblock_length (key nonce : List Int) (n : Int) : (cblock key nonce n).length = 64 := kblock_length _
theorem cblocks_length (key nonce : List Int) : ∀ (k : Nat) (n : Int), (cblocks key nonce n k).length = 64 * k
  | 0, _ => rfl
  | k + 1, n => by rw [cblocks, List.length_append, cblock_length, cblocks_length key nonce k]; omega
theorem cblocks_bytes (key nonce : List Int) : ∀ (k : Nat) (n : Int), Bytes (cblocks key nonce n k)
  | 0, _ => Bytes.nil
  | k + 1, n => (kblock_bytes _).append (cblocks_bytes key nonce k _)
theorem cblocks_drop (key nonce : List Int) : ∀ (j k : Nat) (n : Int), (cblocks key nonce n (j + k)).drop (64 * j) = cblocks key nonce (n + j) k
  | 0, k, n => by simp
  | j + 1, k, n => by
    rw [show j + 1 + k = (j + k) + 1 by omega, cblocks, List.drop_append, List.drop_of_length_le (by rw [cblock_length]; omega), cblock_length, List.nil_append, show 64 * (j + 1) - 64 = 64 * j by omega, cblocks_drop key nonce j k (n + 1)]
    congr 1
    omega
theorem cblock_round (key nonce : List Int) (n : Int) : cblock key nonce (n % 4294967296) = cblock key nonce n := by
  unfold cblock
  rw [Int.emod_emod_of_dvd _ (Int.dvd_refl _)]
theorem cblocks_round (key nonce : List Int) : ∀ (k : Nat) (n m : Int), n % 4294967296 = m % 4294967296 → cblocks key nonce n k = cblocks key nonce m k
  | 0, _, _, _ => rfl
  | k + 1, n, m, h => by
    rw [cblocks, cblocks, ← cblock_round key nonce n, h, cblock_round, cblocks_round key nonce k (n + 1) (m + 1) (by omega)]
/-- n bytes of the stream. -/
def stream (key nonce : List Int) (from_ : Int) (n : Nat) : List Int := (cblocks key nonce from_ ((n + 63) / 64)).take n
theorem stream_length (key nonce : List Int) (f : Int) (n : Nat) : (stream key nonce f n).length = n := by
  unfold stream
  rw [List.length_take, cblocks_length]
  omega
theorem stream_bytes (key nonce : List Int) (f : Int) (n : Nat) : Bytes (stream key nonce f n) := (cblocks_bytes _ _ _ _).take _
theorem cblocks_split (key nonce : List Int) : ∀ (j k : Nat) (n : Int), cblocks key nonce n (j + k) = cblocks key nonce n j ++ cblocks key nonce (n + j) k
  | 0, k, n => by simp [cblocks]
  | j + 1, k, n => by
    rw [show j + 1 + k = (j + k) + 1 by omega, cblocks, cblocks, cblocks_split key nonce j k (n + 1), List.append_assoc]
    congr 3
    omega
theorem stream_at (key nonce : List Int) (f : Int) (n k : Nat) (h : n ≤ 64 * k) : (cblocks key nonce f k).take n = stream key nonce f n := by
  unfold stream
  obtain ⟨d, rfl⟩ : ∃ d, k = (n + 63) / 64 + d := ⟨k - (n + 63) / 64, by omega⟩
  rw [cblocks_split, List.take_append_of_le_length (by rw [cblocks_length]; omega)]
/-- The stream from a block on. -/
theorem stream_drop (key nonce : List Int) (f g : Int) (k n : Nat) (hg : g % 4294967296 = (f + k) % 4294967296) : (stream key nonce f (64 * k + n)).drop (64 * k) = stream key nonce g n := by
  unfold stream
  rw [List.drop_take, show 64 * k + n - 64 * k = n by omega, show (64 * k + n + 63) / 64 = k + (n + 63) / 64 by omega, cblocks_drop, cblocks_round key nonce _ g (f + k) hg]
/-- Bytes under a stream. -/
def xorb (l s : List Int) : List Int := List.zipWith (fun x y => bits .xor .u8 x y) l s
end Go.Proofs.YtjibbegdieiknaaDoor

namespace Go.Proofs.YtjibbegdieiknaaDoor
open Go.RowKit
set_option linter.unusedVariables false

theorem results_four {fn : Func} {t u v x : Tmp} (h : fn.results = #[.tmp t, .tmp u, .tmp v, .tmp x]) (tmps : Array Value) (P : Program) (w : World) :
    (results fn tmps).run P w = .ok (.tuple #[tmps.getD t undef, tmps.getD u undef, tmps.getD v undef, tmps.getD x undef]) w := by simp [results, h]
theorem join4le (a b c d : Int) (ha : 0 ≤ a ∧ a < 256) (hb : 0 ≤ b ∧ b < 256) (hc : 0 ≤ c ∧ c < 256) (hd : 0 ≤ d ∧ d < 256) :
    bits .or .u32 (bits .or .u32 (bits .or .u32 a (b * 256)) (c * 65536)) (d * 16777216) = a + b * 256 + c * 65536 + d * 16777216 := by
  have e1 : bits .or .u32 a (b * 256) = a + b * 256 := by
    rw [u32_or _ _ (by omega) (by omega) (by omega) (by omega), Nat.or_comm, nat_join 8 _ _ (by omega) (by omega)]; omega
  rw [e1]
  have e2 : bits .or .u32 (a + b * 256) (c * 65536) = a + b * 256 + c * 65536 := by
    rw [u32_or _ _ (by omega) (by omega) (by omega) (by omega), Nat.or_comm, nat_join 16 _ _ (by omega) (by omega)]; omega
  rw [e2, u32_or _ _ (by omega) (by omega) (by omega) (by omega), Nat.or_comm, nat_join 24 _ _ (by omega) (by omega)]
  omega

set_option maxHeartbeats 800000 in
theorem quarter_any (q : Q4) (w : World) (h : q.ok) :
    Calls Tryd.prog 73 #[.int .u32 q.a, .int .u32 q.b, .int .u32 q.c, .int .u32 q.d] w fun e w' =>
      e = .returned (.tuple #[.int .u32 (quart q).a, .int .u32 (quart q).b, .int .u32 (quart q).c, .int .u32 (quart q).d]) ∧ w = w' := by
  obtain ⟨a, b, c, d⟩ := q
  obtain ⟨h1, h2, h3, h4⟩ := h
  simp only at h1 h2 h3 h4
  obtain ⟨a1, ea1⟩ : ∃ x, x = ad32 a b := ⟨_, rfl⟩
  obtain ⟨y1, ey1⟩ : ∃ x, x = x32 d a1 := ⟨_, rfl⟩
  obtain ⟨d1, ed1⟩ : ∃ x, x = rotl y1 16 := ⟨_, rfl⟩
  obtain ⟨c1, ec1⟩ : ∃ x, x = ad32 c d1 := ⟨_, rfl⟩
  obtain ⟨y2, ey2⟩ : ∃ x, x = x32 b c1 := ⟨_, rfl⟩
  obtain ⟨b1, eb1⟩ : ∃ x, x = rotl y2 12 := ⟨_, rfl⟩
  obtain ⟨a2, ea2⟩ : ∃ x, x = ad32 a1 b1 := ⟨_, rfl⟩
  obtain ⟨y3, ey3⟩ : ∃ x, x = x32 d1 a2 := ⟨_, rfl⟩
  obtain ⟨d2, ed2⟩ : ∃ x, x = rotl y3 8 := ⟨_, rfl⟩
  obtain ⟨c2, ec2⟩ : ∃ x, x = ad32 c1 d2 := ⟨_, rfl⟩
  obtain ⟨y4, ey4⟩ : ∃ x, x = x32 b1 c2 := ⟨_, rfl⟩
  obtain ⟨b2, eb2⟩ : ∃ x, x = rotl y4 7 := ⟨_, rfl⟩
  have hq : quart ⟨a, b, c, d⟩ = ⟨a2, b2, c2, d2⟩ := by
    rw [quart, hq, hq]
    simp only [← ea1, ← ey1, ← ed1, ← ec1, ← ey2, ← eb1, ← ea2, ← ey3, ← ed2, ← ec2, ← ey4, ← eb2]
  rw [hq]
  have wa1 : W32 a1 := by rw [ea1]; exact ad32_ok _ _
  have wy1 : W32 y1 := by rw [ey1]; exact h4.xor wa1
  have wd1 : W32 d1 := by rw [ed1]; exact rotl_ok wy1 _
  have wc1 : W32 c1 := by rw [ec1]; exact ad32_ok _ _
  have wy2 : W32 y2 := by rw [ey2]; exact h2.xor wc1
  have wb1 : W32 b1 := by rw [eb1]; exact rotl_ok wy2 _
  have wa2 : W32 a2 := by rw [ea2]; exact ad32_ok _ _
  have wy3 : W32 y3 := by rw [ey3]; exact wd1.xor wa2
  have wd2 : W32 d2 := by rw [ed2]; exact rotl_ok wy3 _
  have wc2 : W32 c2 := by rw [ec2]; exact ad32_ok _ _
  have wy4 : W32 y4 := by rw [ey4]; exact wb1.xor wc2
  have r16 : rotS 16 = 16 := by kernel_rfl
  have r12 : rotS 12 = 12 := by kernel_rfl
  have r8 : rotS 8 = 8 := by kernel_rfl
  have r7 : rotS 7 = 7 := by kernel_rfl
  have C1 := rot_any y1 16 w wy1.1 wy1.2
  have C2 := rot_any y2 12 w wy2.1 wy2.2
  have C3 := rot_any y3 8 w wy3.1 wy3.2
  have C4 := rot_any y4 7 w wy4.1 wy4.2
  rw [r16, ← ed1] at C1
  rw [r12, ← eb1] at C2
  rw [r8, ← ed2] at C3
  rw [r7, ← eb2] at C4
  have D1 := Lib.hid C1
  have D2 := Lib.hid C2
  have D3 := Lib.hid C3
  have D4 := Lib.hid C4
  have e1 : (a + b) % 4294967296 = a1 := ea1.symm
  have e2 : bits .xor .u32 d a1 = y1 := ey1.symm
  have e3 : (c + d1) % 4294967296 = c1 := ec1.symm
  have e4 : bits .xor .u32 b c1 = y2 := ey2.symm
  have e5 : (a1 + b1) % 4294967296 = a2 := ea2.symm
  have e6 : bits .xor .u32 d1 a2 = y3 := ey3.symm
  have e7 : (c1 + d2) % 4294967296 = c2 := ec2.symm
  have e8 : bits .xor .u32 b1 c2 = y4 := ey4.symm
  clear C1 C2 C3 C4 ea1 ey1 ed1 ec1 ey2 eb1 ea2 ey3 ed2 ec2 ey4 eb2 hq r16 r12 r8 r7 wa1 wy1 wd1 wc1 wy2 wb1 wa2 wy3 wd2 wc2 wy4 h1 h2 h3 h4
  go_enter Tryd.func73, Tryd.ntmps73
  go_wp2_with fail
  refine D1.out.mono ?_
  rintro e w' ⟨rfl, rfl⟩
  go_wp2_with fail
  refine D2.out.mono ?_
  rintro e w' ⟨rfl, rfl⟩
  go_wp2_with fail
  refine D3.out.mono ?_
  rintro e w' ⟨rfl, rfl⟩
  go_wp2_with fail
  refine D4.out.mono ?_
  rintro e w' ⟨rfl, rfl⟩
  go_wp2_with fail
  refine bodyPost_ret (results_four rfl _ _ _) rfl ⟨rfl, rfl⟩

theorem word32_any (b off n c : Nat) (x0 x1 x2 x3 : Int) (w : World) (hn : 4 ≤ n) (hm : n ≤ 9223372036854775807)
    (c0 : w.cell? ⟨b, off, none⟩ = some (.int .u8 x0)) (c1 : w.cell? ⟨b, off + 1, none⟩ = some (.int .u8 x1)) (c2 : w.cell? ⟨b, off + 2, none⟩ = some (.int .u8 x2)) (c3 : w.cell? ⟨b, off + 3, none⟩ = some (.int .u8 x3))
    (h0 : 0 ≤ x0 ∧ x0 < 256) (h1 : 0 ≤ x1 ∧ x1 < 256) (h2 : 0 ≤ x2 ∧ x2 < 256) (h3 : 0 ≤ x3 ∧ x3 < 256) :
    Calls Tryd.prog 59 #[.slice (some ⟨b, off, none⟩) n c] w fun e w' => e = .returned (.int .u32 (x0 + x1 * 256 + x2 * 65536 + x3 * 16777216)) ∧ ∃ k, w' = w.drewN k := by
  have n0 : (0 : Int) < n := by omega
  have n1 : (1 : Int) < n := by omega
  have n2 : (2 : Int) < n := by omega
  have n3 : (3 : Int) < n := by omega
  have J := Lib.hid (join4le x0 x1 x2 x3 h0 h1 h2 h3)
  go_enter Tryd.func59, Tryd.ntmps59
  go_wp2_with fail
  go_quiet (fail)
  go_wp2_with fail
  go_ret
  exact ⟨by rw [← J.out]; rfl, _, rfl⟩
end Go.Proofs.YtjibbegdieiknaaDoor

namespace Go.Proofs.YtjibbegdieiknaaDoor
open Go.RowKit
set_option linter.unusedVariables false

def put4 (l : List Int) (o : Nat) (v : Int) : List Int := l.take o ++ le4 v ++ l.drop (o + 4)
theorem put4_sets (l : List Int) (o : Nat) (a b c d : Int) (h : o + 4 ≤ l.length) : ((((l.set o a).set (o + 1) b).set (o + 2) c).set (o + 3) d) = l.take o ++ [a, b, c, d] ++ l.drop (o + 4) := by
  apply List.ext_getElem
  · simp; omega
  · intro i h1 h2
    simp only [List.getElem_set, List.getElem_append, List.length_take, List.length_append, List.length_cons, List.length_nil, List.getElem_take, List.getElem_drop]
    by_cases e0 : i < o
    · rw [if_neg (by omega), if_neg (by omega), if_neg (by omega), if_neg (by omega), dif_pos (by omega), dif_pos (by omega)]
    · by_cases e4 : i < o + 4
      · rw [dif_pos (by omega), dif_neg (by omega)]
        rcases (show i = o ∨ i = o + 1 ∨ i = o + 2 ∨ i = o + 3 by omega) with rfl | rfl | rfl | rfl
        · simp [show min i l.length = i by omega]
        · simp [show min o l.length = o by omega]
        · simp [show min o l.length = o by omega]
        · simp [show min o l.length = o by omega]
      · rw [if_neg (by omega), if_neg (by omega), if_neg (by omega), if_neg (by omega), dif_neg (by omega)]
        congr 1
        omega
theorem put4_length (l : List Int) (o : Nat) (v : Int) (h : o + 4 ≤ l.length) : (put4 l o v).length = l.length := by
  simp [put4, le4]; omega

set_option maxHeartbeats 800000 in
theorem putWord32_any (g : Nat) (t : TypeId) (l : List Int) (off n c : Nat) (v : Int) (w : World) (hb : Blk w g t (IV .u8 l).toArray) (hv : 0 ≤ v ∧ v < 4294967296) (hn : 4 ≤ n) (hm : n ≤ 9223372036854775807) (hl : off + 4 ≤ l.length) :
    Calls Tryd.prog 74 #[.slice (some ⟨g, off, none⟩) n c, .int .u32 v] w fun e w' => e = .returned (.tuple #[]) ∧ Blk w' g t (IV .u8 (put4 l off v)).toArray ∧ w.grownBy w' (some g) := by
  have n0 : (0 : Int) < n := by omega
  have n1 : (1 : Int) < n := by omega
  have n2 : (2 : Int) < n := by omega
  have n3 : (3 : Int) < n := by omega
  obtain ⟨hv0, hv1⟩ := hv
  have get : ∀ i, i < 4 → ∃ y, w.cell? ⟨g, off + i, none⟩ = some (.int .u8 y) := fun i hi => ⟨_, hb.cell_i (List.getElem?_eq_getElem (show off + i < l.length by omega))⟩
  obtain ⟨y0, c0⟩ := get 0 (by omega)
  obtain ⟨y1, c1⟩ := get 1 (by omega)
  obtain ⟨y2, c2⟩ := get 2 (by omega)
  obtain ⟨y3, c3⟩ := get 3 (by omega)
  rw [Nat.add_zero] at c0
  have f0 := hb.frozen off
  have f1 := hb.frozen (off + 1)
  have f2 := hb.frozen (off + 2)
  have f3 := hb.frozen (off + 3)
  have hfin := (((hb.store_i off (v % 256)).store_i (off + 1) (v / 256 % 256)).store_i (off + 2) (v / 65536 % 256)).store_i (off + 3) (v / 16777216 % 256)
  have g1 := only_setCell (World.grownBy.refl w (some g)) (p := ⟨g, off, none⟩) (.inl rfl) (.int .u8 (v % 256))
  have g2 := only_setCell g1 (p := ⟨g, off + 1, none⟩) (.inl rfl) (.int .u8 (v / 256 % 256))
  have g3 := only_setCell g2 (p := ⟨g, off + 2, none⟩) (.inl rfl) (.int .u8 (v / 65536 % 256))
  have hgr := only_setCell g3 (p := ⟨g, off + 3, none⟩) (.inl rfl) (.int .u8 (v / 16777216 % 256))
  clear g1 g2 g3
  rw [put4_sets l off _ _ _ _ hl] at hfin
  have e16 : v / 16777216 % 256 = v / 16777216 := by omega
  have hfin' : Blk ((((w.setCell ⟨g, off, none⟩ (.int .u8 (v % 256))).setCell ⟨g, off + 1, none⟩ (.int .u8 (v / 256 % 256))).setCell ⟨g, off + 2, none⟩ (.int .u8 (v / 65536 % 256))).setCell ⟨g, off + 3, none⟩ (.int .u8 (v / 16777216 % 256))) g t (IV .u8 (put4 l off v)).toArray := hfin
  rw [e16] at hfin' hgr
  have HF := Lib.hid hfin'
  have HG := Lib.hid hgr
  clear hfin hfin' hgr get hb e16
  go_enter Tryd.func74, Tryd.ntmps74
  go_wp2_with fail
  exact bodyPost_end (v := .tuple #[]) (results_none (by rfl) _ _ _) (by rfl) ⟨rfl, HF.out, HG.out⟩

end Go.Proofs.YtjibbegdieiknaaDoor

namespace Go.Proofs.YtjibbegdieiknaaDoor
open Go.RowKit
set_option linter.unusedVariables false

theorem arr32_len : Tryd.prog.arrayLen 22 = 32 := by kernel_rfl
theorem arr32_elem : Tryd.prog.elem 22 = 5 := by kernel_rfl
theorem arr12_len : Tryd.prog.arrayLen 32 = 12 := by kernel_rfl
theorem arr12_elem : Tryd.prog.elem 32 = 5 := by kernel_rfl
theorem slice_arr32 (g lo : Nat) (kd : IntKind) (h1 : lo < 32) (w : World) :
    (Instr.sliceAt 22 (.pointer (some ⟨g, 0, none⟩)) (some (.int kd (lo : Int))) none none).run Tryd.prog w = .ok (.slice (some ⟨g, lo, none⟩) (32 - lo) (32 - lo)) w := by
  rw [run_sliceAt_array_l (P := Tryd.prog) w 22 ⟨g, 0, none⟩ (by rw [arr32_len, arr32_elem]; exact Tryd.underlying22) kd (lo : Int) (by omega) (by rw [arr32_len]; omega), arr32_elem, run_sizeOf_u8, arr32_len]
  simp only [Result.andThen_ok, slicedAt, Int.toNat_natCast]
  rw [if_neg (by omega)]
  simp only [Nat.mul_one, Addr.add]
  by_cases h : lo = 0
  · subst h; simp
  · simp [h]
theorem slice_arr12 (g lo : Nat) (kd : IntKind) (h1 : lo < 12) (w : World) :
    (Instr.sliceAt 32 (.pointer (some ⟨g, 0, none⟩)) (some (.int kd (lo : Int))) none none).run Tryd.prog w = .ok (.slice (some ⟨g, lo, none⟩) (12 - lo) (12 - lo)) w := by
  rw [run_sliceAt_array_l (P := Tryd.prog) w 32 ⟨g, 0, none⟩ (by rw [arr12_len, arr12_elem]; exact Tryd.underlying32) kd (lo : Int) (by omega) (by rw [arr12_len]; omega), arr12_elem, run_sizeOf_u8, arr12_len]
  simp only [Result.andThen_ok, slicedAt, Int.toNat_natCast]
  rw [if_neg (by omega)]
  simp only [Nat.mul_one, Addr.add]
  by_cases h : lo = 0
  · subst h; simp
  · simp [h]
def c4 : List Int := [0x61707865, 0x3320646e, 0x79622d32, 0x6b206574]
def kws (key : List Int) (i : Nat) : List Int := (List.range i).map fun j => w4 key (4 * j)
theorem kws_length (key : List Int) (i : Nat) : (kws key i).length = i := by simp [kws]
theorem kws_succ (key : List Int) (i : Nat) : kws key (i + 1) = kws key i ++ [w4 key (4 * i)] := by simp [kws, List.range_succ]
/-- The next place of a row that is filled from the front. -/
theorem fill_set (A : List Int) (n : Nat) (x : Int) : (A ++ List.replicate (n + 1) 0).set A.length x = (A ++ [x]) ++ List.replicate n 0 := by
  rw [List.set_append_right _ _ (Nat.le_refl _), Nat.sub_self, List.replicate_succ, List.set_cons_zero, List.append_assoc]
  rfl
theorem word_of {w : World} {g : Nat} {t : TypeId} {l : List Int} (hb : Blk w g t (IV .u8 l).toArray) (hB : Bytes l) (o n c : Nat) (hn : 4 ≤ n) (hm : n ≤ 9223372036854775807) (hl : o + 4 ≤ l.length) :
    Calls Tryd.prog 59 #[.slice (some ⟨g, o, none⟩) n c] w fun e w' => e = .returned (.int .u32 (w4 l o)) ∧ ∃ k, w' = w.drewN k := by
  have get : ∀ i, i < 4 → w.cell? ⟨g, o + i, none⟩ = some (.int .u8 (l.getD (o + i) 0)) := fun i hi => hb.cell_i (by rw [List.getD_eq_getElem?_getD, List.getElem?_eq_getElem (show o + i < l.length by omega)]; rfl)
  have h0 := get 0 (by omega)
  rw [Nat.add_zero] at h0
  exact word32_any g o n c _ _ _ _ w hn hm h0 (get 1 (by omega)) (get 2 (by omega)) (get 3 (by omega)) (getD_byte hB _) (getD_byte hB _) (getD_byte hB _) (getD_byte hB _)

set_option maxRecDepth 100000 in
set_option maxHeartbeats 1600000 in
theorem newState_any (key nonce : List Int) (n : Int) (w : World) (hk : key.length = 32) (hkb : Bytes key) (hn : nonce.length = 12) (hnb : Bytes nonce) :
    Calls Tryd.prog 52 #[.agg (IV .u8 key).toArray, .agg (IV .u8 nonce).toArray, .int .u32 n] w fun e w' => e = .returned (.agg (IV .u32 (cstate key nonce n).list).toArray) ∧ Below w.heap.size w w' := by
  obtain ⟨OUT, hOUT⟩ : ∃ OUT, OUT = (cstate key nonce n).list := ⟨_, rfl⟩
  rw [← hOUT]
  have hfin : c4 ++ kws key 8 ++ [n] ++ kws nonce 3 = OUT := by rw [hOUT]; rfl
  have HFIN := Lib.hid hfin
  have SOUT := Lib.hid (show (IV .u32 OUT).toArray.size = 16 by rw [hOUT]; rfl)
  have AOUT := Lib.hid (show (IV .u32 OUT).toArray.all (·.oneCell') = true by simp [IV, Value.oneCell'])
  have I16 := Lib.hid (show (Tryd.prog.info? 91).map (·.size) = some 16 by kernel_rfl)
  obtain ⟨KA, hKA⟩ : ∃ KA, KA = (IV .u8 key).toArray := ⟨_, rfl⟩
  obtain ⟨NA, hNA⟩ : ∃ NA, NA = (IV .u8 nonce).toArray := ⟨_, rfl⟩
  have HKA := Lib.hid hKA
  have HNA := Lib.hid hNA
  rw [← hKA, ← hNA]
  have HK := Lib.hid hk
  have HKB := Lib.hid hkb
  have HN := Lib.hid hn
  have HNB := Lib.hid hnb
  clear hOUT hfin hKA hNA hk hkb hn hnb
  go_enter Tryd.func52, Tryd.ntmps52
  go_wp2_with fail
  obtain ⟨WI, hWI⟩ : ∃ WI, WI = (((w.alloc (.cells KA 22)).alloc (.cells NA 32)).alloc (.cells (IV .u32 (List.replicate 16 0)).toArray 91)).alloc (.cells (IV .u32 (c4 ++ kws key 0 ++ List.replicate 12 0)).toArray 91) := ⟨_, rfl⟩
  obtain ⟨gS, hgS⟩ : ∃ gS, gS = w.heap.size + 1 + 1 + 1 := ⟨_, rfl⟩
  obtain ⟨gR, hgR⟩ : ∃ gR, gR = w.heap.size + 1 + 1 := ⟨_, rfl⟩
  have hK0 : Blk WI w.heap.size 22 (IV .u8 key).toArray := by rw [hWI, ← HKA.out]; exact ((Blk.new w _ KA).alloc _).alloc _ |>.alloc _
  have hN0 : Blk WI (w.heap.size + 1) 32 (IV .u8 nonce).toArray := by rw [hWI, ← HNA.out]; exact ((blk_second w _ _ NA).alloc _).alloc _
  have hR0 : Blk WI gR 91 (IV .u32 (List.replicate 16 0)).toArray := by
    rw [hWI, hgR]
    have h := (blk_second (w.alloc (.cells KA 22)) (.cells NA 32) 91 (IV .u32 (List.replicate 16 0)).toArray).alloc (.cells (IV .u32 (c4 ++ kws key 0 ++ List.replicate 12 0)).toArray 91)
    simpa using h
  have hS0 : Blk WI gS 91 (IV .u32 (c4 ++ kws key 0 ++ List.replicate 12 0)).toArray := by
    rw [hWI, hgS]
    have h := blk_second ((w.alloc (.cells KA 22)).alloc (.cells NA 32)) (.cells (IV .u32 (List.replicate 16 0)).toArray 91) 91 (IV .u32 (c4 ++ kws key 0 ++ List.replicate 12 0)).toArray
    simpa using h
  have hB0 : Below w.heap.size w WI := by rw [hWI]; exact ((((Below.refl _ _).alloc (Nat.le_refl _) _).alloc (by simp) _).alloc (by simp; omega) _).alloc (by simp; omega) _
  have lk : w.heap.size < gS := by omega
  have ln : w.heap.size + 1 < gS := by omega
  have lr : gR < gS := by omega
  have lr2 : w.heap.size < gR := by omega
  show Code.wp _ _ _ _ ((((w.alloc (.cells KA 22)).alloc (.cells NA 32)).alloc (.cells (IV .u32 (List.replicate 16 0)).toArray 91)).alloc (.cells (IV .u32 (c4 ++ kws key 0 ++ List.replicate 12 0)).toArray 91))
  rw [← hWI, ← hgS, ← hgR]
  clear hWI hgS hgR
  go_loopw [11] (fun i wr => ∃ (m : Nat), m ≤ 8 ∧ i = .int .i64 m ∧ Blk wr gS 91 (IV .u32 (c4 ++ kws key m ++ List.replicate (12 - m) 0)).toArray ∧ Blk wr w.heap.size 22 (IV .u8 key).toArray ∧ Blk wr (w.heap.size + 1) 32 (IV .u8 nonce).toArray ∧ Blk wr gR 91 (IV .u32 (List.replicate 16 0)).toArray ∧ Below w.heap.size w wr) (fun i _ => 8 - (intOf i).toNat)
  case atStart => exact ⟨0, by omega, rfl, hS0, hK0, hN0, hR0, hB0⟩
  case round =>
    obtain ⟨m, hm, rfl, bS, bK, bN, bR, bL⟩ := hrel
    have HS := Lib.hid bS
    have HKK := Lib.hid bK
    have HNN := Lib.hid bN
    have HRR := Lib.hid bR
    have HL := Lib.hid bL
    clear bS bK bN bR bL
    by_cases hm8 : m < 8
    · obtain ⟨a0, ha0⟩ : ∃ a0, a0 = 4 * m := ⟨_, rfl⟩
      obtain ⟨b0, hb0⟩ : ∃ b0, b0 = 4 + m := ⟨_, rfl⟩
      have e3 : 4 * (m : Int) = (a0 : Int) := by omega
      have e5 : 4 + (m : Int) = (b0 : Int) := by omega
      have hsl := slice_arr32 w.heap.size a0 .i64 (by omega)
      have C := Lib.hid (word_of HKK.out HKB.out a0 (32 - a0) (32 - a0) (by omega) (by omega) (by rw [HK.out]; omega))
      have ab : a0 < 32 := by omega
      have bb : b0 < 16 := by omega
      have hlen : (c4 ++ kws key m).length = b0 := by rw [List.length_append, kws_length, hb0]; rfl
      have hset : (c4 ++ kws key m ++ List.replicate (12 - m) 0).set b0 (w4 key a0) = c4 ++ kws key (m + 1) ++ List.replicate (12 - (m + 1)) 0 := by
        rw [show 12 - m = (12 - (m + 1)) + 1 by omega, ← hlen, fill_set, kws_succ, ← ha0, List.append_assoc c4]
      have HSET := Lib.hid hset
      have HLEN := Lib.hid hlen
      clear ha0 hb0 hlen hset
      go_wp2_with fail
      refine C.out.mono ?_
      rintro e w5 ⟨rfl, k5, hw5⟩
      have b5 : Below wr.heap.size wr w5 := by rw [hw5]; exact ⟨rfl, rfl, rfl, Nat.le_refl _, fun _ _ => rfl⟩
      have HS5 := Lib.hid (HS.out.below b5 HS.out.lt)
      have HK5 := Lib.hid (HKK.out.below b5 HKK.out.lt)
      have HN5 := Lib.hid (HNN.out.below b5 HNN.out.lt)
      have HR5 := Lib.hid (HRR.out.below b5 HRR.out.lt)
      have HL5 := Lib.hid (HL.out.trans (b5.mono HL.out.size))
      have cz : w5.cell? ⟨gS, b0, none⟩ = some (.int .u32 0) := HS5.out.cell_i (by rw [List.getElem?_append_right (by rw [HLEN.out]; exact Nat.le_refl _), HLEN.out, Nat.sub_self, List.getElem?_replicate, if_pos (by omega)])
      have cf := HS5.out.frozen b0
      have hst := HS5.out.store_i b0 (w4 key a0)
      rw [HSET.out] at hst
      have HST := Lib.hid hst
      clear hw5 b5 hst
      go_wp2_with fail
      go_roundw
      case rel => exact ⟨m + 1, by omega, by go_num, HST.out, HK5.out.far (p := ⟨gS, b0, none⟩) (by simp; omega) _, HN5.out.far (p := ⟨gS, b0, none⟩) (by simp; omega) _, HR5.out.far (p := ⟨gS, b0, none⟩) (by simp; omega) _, HL5.out.setCell (by simp; omega) _⟩
      case measure => simp [intOf]; omega
    · obtain rfl : m = 8 := by omega
      rw [show ((8 : Nat) : Int) = 8 from rfl]
      have hlen : (c4 ++ kws key 8).length = 12 := by rw [List.length_append, kws_length]; rfl
      have cz : wr.cell? ⟨gS, 12, none⟩ = some (.int .u32 0) := HS.out.cell_i (by rw [List.getElem?_append_right (by rw [hlen]; exact Nat.le_refl _), hlen]; rfl)
      have cf := HS.out.frozen 12
      have hst := HS.out.store_i 12 n
      have hset : (c4 ++ kws key 8 ++ List.replicate (12 - 8) 0).set 12 n = c4 ++ kws key 8 ++ [n] ++ kws nonce 0 ++ List.replicate (3 - 0) 0 := by
        rw [show (12 - 8 : Nat) = 3 + 1 from rfl, ← hlen, fill_set]; simp [kws]
      rw [hset] at hst
      have HS1 := Lib.hid hst
      have HK1 := Lib.hid (HKK.out.far (p := ⟨gS, 12, none⟩) (by simp; omega) (.int .u32 n))
      have HN1 := Lib.hid (HNN.out.far (p := ⟨gS, 12, none⟩) (by simp; omega) (.int .u32 n))
      have HR1 := Lib.hid (HRR.out.far (p := ⟨gS, 12, none⟩) (by simp; omega) (.int .u32 n))
      have HL1 := Lib.hid (HL.out.setCell (p := ⟨gS, 12, none⟩) (by simp; omega) (.int .u32 n))
      have HLEN := Lib.hid hlen
      clear hlen hst hset HS HKK HNN HRR HL
      go_wp2_with fail
      obtain ⟨WJ, hWJ⟩ : ∃ WJ, WJ = wr.setCell ⟨gS, 12, none⟩ (.int .u32 n) := ⟨_, rfl⟩
      show Code.wp _ _ _ _ (wr.setCell ⟨gS, 12, none⟩ (.int .u32 n))
      rw [← hWJ] at HS1 HK1 HN1 HR1 HL1 ⊢
      clear hWJ cz cf
      go_loopw [24] (fun i wr => ∃ (m : Nat), m ≤ 3 ∧ i = .int .i64 m ∧ Blk wr gS 91 (IV .u32 (c4 ++ kws key 8 ++ [n] ++ kws nonce m ++ List.replicate (3 - m) 0)).toArray ∧ Blk wr (w.heap.size + 1) 32 (IV .u8 nonce).toArray ∧ Blk wr gR 91 (IV .u32 (List.replicate 16 0)).toArray ∧ Below w.heap.size w wr) (fun i _ => 3 - (intOf i).toNat)
      case atStart => exact ⟨0, by omega, rfl, HS1.out, HN1.out, HR1.out, HL1.out⟩
      case round =>
        obtain ⟨m, hm, rfl, bS, bN, bR, bL⟩ := hrel
        have HS := Lib.hid bS
        have HNN := Lib.hid bN
        have HRR := Lib.hid bR
        have HL := Lib.hid bL
        clear bS bN bR bL HS1 HK1 HN1 HR1 HL1
        by_cases hm3 : m < 3
        · obtain ⟨a0, ha0⟩ : ∃ a0, a0 = 4 * m := ⟨_, rfl⟩
          obtain ⟨b0, hb0⟩ : ∃ b0, b0 = 13 + m := ⟨_, rfl⟩
          have e3 : 4 * (m : Int) = (a0 : Int) := by omega
          have e5 : 13 + (m : Int) = (b0 : Int) := by omega
          have hsl := slice_arr12 (w.heap.size + 1) a0 .i64 (by omega)
          have C := Lib.hid (word_of HNN.out HNB.out a0 (12 - a0) (12 - a0) (by omega) (by omega) (by rw [HN.out]; omega))
          have ab : a0 < 12 := by omega
          have bb : b0 < 16 := by omega
          have hlen : (c4 ++ kws key 8 ++ [n] ++ kws nonce m).length = b0 := by simp only [List.length_append, kws_length, List.length_cons, List.length_nil, hb0]; rfl
          have hset : (c4 ++ kws key 8 ++ [n] ++ kws nonce m ++ List.replicate (3 - m) 0).set b0 (w4 nonce a0) = c4 ++ kws key 8 ++ [n] ++ kws nonce (m + 1) ++ List.replicate (3 - (m + 1)) 0 := by
            rw [show 3 - m = (3 - (m + 1)) + 1 by omega, ← hlen, fill_set, kws_succ nonce m, ← ha0, List.append_assoc (c4 ++ kws key 8 ++ [n])]
          have HSET := Lib.hid hset
          have HLEN2 := Lib.hid hlen
          clear ha0 hb0 hlen hset
          go_wp2_with fail
          refine C.out.mono ?_
          rintro e w5 ⟨rfl, k5, hw5⟩
          have b5 : Below wr.heap.size wr w5 := by rw [hw5]; exact ⟨rfl, rfl, rfl, Nat.le_refl _, fun _ _ => rfl⟩
          have HS5 := Lib.hid (HS.out.below b5 HS.out.lt)
          have HN5 := Lib.hid (HNN.out.below b5 HNN.out.lt)
          have HR5 := Lib.hid (HRR.out.below b5 HRR.out.lt)
          have HL5 := Lib.hid (HL.out.trans (b5.mono HL.out.size))
          have cz : w5.cell? ⟨gS, b0, none⟩ = some (.int .u32 0) := HS5.out.cell_i (by rw [List.getElem?_append_right (by rw [HLEN2.out]; exact Nat.le_refl _), HLEN2.out, Nat.sub_self, List.getElem?_replicate, if_pos (by omega)])
          have cf := HS5.out.frozen b0
          have hst := HS5.out.store_i b0 (w4 nonce a0)
          rw [HSET.out] at hst
          have HST := Lib.hid hst
          clear hw5 b5 hst
          go_wp2_with fail
          go_roundw
          case rel => exact ⟨m + 1, by omega, by go_num, HST.out, HN5.out.far (p := ⟨gS, b0, none⟩) (by simp; omega) _, HR5.out.far (p := ⟨gS, b0, none⟩) (by simp; omega) _, HL5.out.setCell (by simp; omega) _⟩
          case measure => simp [intOf]; omega
        · obtain rfl : m = 3 := by omega
          have hSO : Blk wr gS 91 (IV .u32 OUT).toArray := by
            have h := HS.out
            rw [Nat.sub_self, List.replicate_zero, List.append_nil, HFIN.out] at h
            exact h
          have HSO := Lib.hid hSO
          clear hSO
          go_wp2_with (first
            | refine wpList_load_row rfl 91 (.tmp 7) rfl gS rfl 91 (IV .u32 OUT).toArray (0, 0) _ HSO.out Tryd.underlying91 rfl (by rw [SOUT.out]; exact I16.out) ?_
            | refine wpList_store_row rfl 91 (.tmp 6) (.tmp 35) rfl gR (IV .u32 OUT).toArray rfl rfl 91 _ HRR.out (by rw [SOUT.out]; exact I16.out) (by rw [SOUT.out]; rfl) AOUT.out ?_)
          refine bodyPost_ret (v := .agg (IV .u32 OUT).toArray) (results_cell_row rfl _ _ gR 91 _ (0, 0) _ rfl (Blk.row HRR.out _) Tryd.underlying91 rfl (by rw [SOUT.out]; exact I16.out)) rfl ⟨rfl, ?_⟩
          exact below_setRow HL.out (by omega) _
end Go.Proofs.YtjibbegdieiknaaDoor

namespace Go.Proofs.YtjibbegdieiknaaDoor
open Go.RowKit
set_option linter.unusedVariables false
set_option linter.unusedSimpArgs false

theorem bits_join32 (x y : Int) (hx : 0 ≤ x ∧ x < 4294967296) (hy : 0 ≤ y ∧ y < 4294967296) : bits .or .u64 x (y * 4294967296) = x + y * 4294967296 := by
  obtain ⟨a, rfl⟩ := Int.eq_ofNat_of_zero_le hx.1
  obtain ⟨b, rfl⟩ := Int.eq_ofNat_of_zero_le hy.1
  have e : ((b : Int) * 4294967296) = ((b * 4294967296 : Nat) : Int) := by simp
  have j := nat_join 32 (b * 4294967296) a (Nat.mul_mod_left b (2 ^ 32)) (by omega)
  rw [e, u64_or_nat a (b * 4294967296) (by omega) (by omega), Nat.or_comm, j, Nat.add_comm]
  simp

set_option maxHeartbeats 800000 in
theorem word64_any (b off n c : Nat) (x y : Int) (w : World) (hn : 8 ≤ n) (hc : n ≤ c) (hm : c ≤ 9223372036854775807) (hx : 0 ≤ x ∧ x < 4294967296) (hy : 0 ≤ y ∧ y < 4294967296)
    (C0 : ∀ W : World, W.heap = w.heap → Calls Tryd.prog 59 #[.slice (some ⟨b, off, none⟩) n c] W fun e w' => e = .returned (.int .u32 x) ∧ ∃ k, w' = W.drewN k)
    (C1 : ∀ W : World, W.heap = w.heap → Calls Tryd.prog 59 #[.slice (some ⟨b, off + 4, none⟩) (n - 4) (c - 4)] W fun e w' => e = .returned (.int .u32 y) ∧ ∃ k, w' = W.drewN k) :
    Calls Tryd.prog 75 #[.slice (some ⟨b, off, none⟩) n c] w fun e w' => e = .returned (.int .u64 (x + y * 4294967296)) ∧ ∃ k, w' = w.drewN k := by
  have H0 := Lib.hid (C0 w.drew rfl)
  have H1 := Lib.hid (fun k => C1 (w.drewN k) rfl)
  have hS : ∀ W : World, (Instr.slice 23 (.slice (some ⟨b, off, none⟩) n c) (some (.int .i64 4)) none none).run Tryd.prog W = .ok (.slice (some ⟨b, off + 4, none⟩) (n - 4) (c - 4)) W := fun W => by
    rw [show ((4 : Int)) = ((4 : Nat) : Int) from rfl, run_slice_l (P := Tryd.prog) W 23 (some ⟨b, off, none⟩) n c (by rw [elem_u8]; exact Tryd.underlying23) .i64 ((4 : Nat) : Int) (by omega) (by omega), elem_u8]
    rw [run_sizeOf_u8]
    simp [sliced, Addr.add, show ¬ c = 4 by omega]
  have hj := bits_join32 x y hx hy
  have c1 : IntKind.u64.wrap x = x := by rw [IntKind.wrap_u64]; omega
  have c2 : IntKind.u64.wrap y = y := by rw [IntKind.wrap_u64]; omega
  have c3 : IntKind.u64.wrap (y * 4294967296) = y * 4294967296 := by rw [IntKind.wrap_u64]; omega
  clear C0 C1
  go_enter Tryd.func75, Tryd.ntmps75
  go_upto_region 1 with (fail)
  go_region_with (first
    | (go_at_call 59
       (with_reducible refine H0.out.mono ?_)
       rintro e wa ⟨rfl, k1, rfl⟩)
    | (go_at_call 59
       (with_reducible refine (H1.out _).mono ?_)
       rintro e wb ⟨rfl, k2, rfl⟩))
  all_goals
    go_wp2_with fail
    go_ret
    exact ⟨rfl, _, rfl⟩
/-- Eight bytes at a place, as a number. -/
def w8 (l : List Int) (o : Nat) : Int := w4 l o + w4 l (o + 4) * 4294967296
theorem word64_of {w : World} {g : Nat} {t : TypeId} {l : List Int} (hb : Blk w g t (IV .u8 l).toArray) (hB : Bytes l) (o n c : Nat) (hn : 8 ≤ n) (hc : n ≤ c) (hm : c ≤ 9223372036854775807) (hl : o + 8 ≤ l.length) :
    Calls Tryd.prog 75 #[.slice (some ⟨g, o, none⟩) n c] w fun e w' => e = .returned (.int .u64 (w8 l o)) ∧ ∃ k, w' = w.drewN k :=
  word64_any g o n c _ _ w hn hc hm (w4_ok hB _) (w4_ok hB _)
    (fun W hW => word_of (by unfold Blk at hb ⊢; rw [hW]; exact hb) hB o n c (by omega) (by omega) (by omega))
    (fun W hW => word_of (by unfold Blk at hb ⊢; rw [hW]; exact hb) hB (o + 4) (n - 4) (c - 4) (by omega) (by omega) (by omega))
end Go.Proofs.YtjibbegdieiknaaDoor
