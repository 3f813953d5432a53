/-
  turn: slices.symMergeCmpFunc at places, any; blocks (pure).
-/
import Derived.Test.YtchohcfcnghmlaaTurnN
namespace Go.Proofs.Ytchohcfcnghmlaa
open Go.RowKit
set_option linter.unusedVariables false
set_option linter.unusedSimpArgs false
theorem symMerge_any (l : List R3) (f : Nat) (cb : Array Value) (w0 : World) (A : Option Addr) (c N : Nat) (cm : Cmp l N w0 f cb) (hN2 : N ≤ 1000) : ∀ (K a m b : Nat) (D : List Nat) (W : World), b - a < K → RowN W w0.heap.size A c D → Below w0.heap.size w0 W → D.length = N → a < m → m < b → b ≤ N → (∀ v ∈ D, v < N) → Srt l D a m → Srt l D m b → LI D a m b →
    Calls Try.prog 24 #[.slice A N c, .int .i64 (a : Int), .int .i64 (m : Int), .int .i64 (b : Int), .func (.func f) #[] cb] W fun r w' => r = .returned (.tuple #[]) ∧ ∃ D' : List Nat, Ord l D D' a b ∧ RowN w' w0.heap.size A c D' ∧ Below w0.heap.size w0 w' := by
  intro K
  induction K with
  | zero => intro a m b D W hk; omega
  | succ K ih =>
    intro a m b D W hk h hw hN ham hmb hb hlt h1 h2 hli
    by_cases e1 : m = a + 1
    · exact symMerge_1 l f cb w0 A c a m b N D W cm h hw hN hN2 ham hmb hb hlt h1 h2 hli e1
    · by_cases e2 : b = m + 1
      · exact symMerge_2 l f cb w0 A c a m b N D W cm h hw hN hN2 ham hmb hb hlt h1 h2 hli e1 e2
      · exact symMerge_3 l f cb w0 A c a m b N D W cm h hw hN hN2 ham hmb hb hlt h1 h2 hli e1 e2 (b - a) rfl (fun a' m' b' D' W' hk' => ih a' m' b' D' W' (by omega))
theorem dvd_gap {d x a : Nat} (hx : d ∣ x) (ha : d ∣ a) (h : x < a) : x + d ≤ a := by
  obtain ⟨p, rfl⟩ := hx
  obtain ⟨q, rfl⟩ := ha
  have hpq : p < q := Nat.lt_of_mul_lt_mul_left h
  have := Nat.mul_le_mul_left d (show p + 1 ≤ q by omega)
  rw [Nat.mul_add, Nat.mul_one] at this
  exact this
/-- A block is sorted and holds its own places. -/
def Bk (l : List R3) (D : List Nat) (lo hi : Nat) : Prop := Srt l D lo hi ∧ ∀ v, Mm D lo hi v ↔ lo ≤ v ∧ v < hi
theorem Bk.empty (l : List R3) (D : List Nat) (x : Nat) : Bk l D x x := ⟨fun a b u v h1 h2 h3 => by omega, fun v => ⟨fun ⟨y, h1, h2, _⟩ => by omega, fun h => by omega⟩⟩
theorem Bk.keep {l : List R3} {D D' : List Nat} {lo hi a b : Nat} (h : Bk l D lo hi) (o : Ord l D D' a b) (hd : hi ≤ a ∨ b ≤ lo) : Bk l D' lo hi :=
  ⟨srt_sub h.1 (fun x h1 h2 => o.out x (by omega)), fun v => (mm_sub (fun x h1 h2 => o.out x (by omega))).trans (h.2 v)⟩
theorem Bk.merge {l : List R3} {D D' : List Nat} {a m b : Nat} (h1 : Bk l D a m) (h2 : Bk l D m b) (ham : a ≤ m) (hmb : m ≤ b) (o : Ord l D D' a b) : Bk l D' a b := by
  refine ⟨o.srt, fun v => ?_⟩
  rw [o.mem, Mm.join ham hmb, h1.2, h2.2]
  omega
theorem Bk.li {l : List R3} {D : List Nat} {a m b : Nat} (h1 : Bk l D a m) (h2 : Bk l D m b) : LI D a m b := fun x y u v a1 a2 a3 a4 e1 e2 => by
  have := (h1.2 u).1 ⟨x, a1, a2, e1⟩
  have := (h2.2 v).1 ⟨y, a3, a4, e2⟩
  omega
/-- All blocks of s places. -/
def Bks (l : List R3) (N s : Nat) (D : List Nat) : Prop := ∀ x, s ∣ x → Bk l D (min x N) (min (x + s) N)
/-- Blocks of t places up to a, of s places behind it. -/
def Two2 (l : List R3) (N s t a : Nat) (D : List Nat) : Prop := (∀ x, t ∣ x → x + t ≤ a → Bk l D x (x + t)) ∧ ∀ x, s ∣ x → a ≤ x → Bk l D (min x N) (min (x + s) N)
theorem Two2.start {l : List R3} {N s t : Nat} {D : List Nat} (h : Bks l N s D) (ht : 0 < t) : Two2 l N s t 0 D := ⟨fun x _ hx => by omega, fun x hx _ => h x hx⟩
theorem Two2.step {l : List R3} {N s a : Nat} {D D' : List Nat} (h : Two2 l N s (2 * s) a D) (ha : 2 * s ∣ a) (hb : a + 2 * s ≤ N) (o : Ord l D D' a (a + 2 * s)) (hs : 0 < s) : Two2 l N s (2 * s) (a + 2 * s) D' := by
  have sa : s ∣ a := Nat.dvd_trans ⟨2, by rw [Nat.mul_comm]⟩ ha
  have k1 := h.2 a sa (Nat.le_refl _)
  have k2 := h.2 (a + s) (Nat.dvd_add sa (Nat.dvd_refl s)) (by omega)
  rw [Nat.min_eq_left (by omega), Nat.min_eq_left (by omega)] at k1
  rw [Nat.min_eq_left (by omega), Nat.min_eq_left (by omega), show a + s + s = a + 2 * s by omega] at k2
  refine ⟨fun x hx hxa => ?_, fun x hx hxa => ?_⟩
  · by_cases e : x = a
    · subst e
      exact k1.merge k2 (by omega) (by omega) o
    · have := dvd_gap hx ha (by omega)
      exact (h.1 x hx this).keep o (.inl (by omega))
  · exact (h.2 x hx (by omega)).keep o (.inr (by omega))
theorem Two2.last {l : List R3} {N s a : Nat} {D D' : List Nat} (h : Two2 l N s (2 * s) a D) (ha : 2 * s ∣ a) (haN : a ≤ N) (hb : N < a + 2 * s) (hk : Bk l D' a N) (ho : ∀ x, x < a → D'[x]? = D[x]?) (hs : 0 < s) : Bks l N (2 * s) D' := by
  intro x hx
  by_cases e : x = a
  · subst e
    rw [Nat.min_eq_left haN, Nat.min_eq_right (by omega)]
    exact hk
  · by_cases e2 : x < a
    · have g := dvd_gap hx ha e2
      have b := h.1 x hx g
      rw [Nat.min_eq_left (by omega), Nat.min_eq_left (by omega)]
      exact ⟨srt_sub b.1 (fun y h1 h2 => ho y (by omega)), fun v => (mm_sub (fun y h1 h2 => ho y (by omega))).trans (b.2 v)⟩
    · have g := dvd_gap ha hx (by omega)
      rw [Nat.min_eq_right (by omega), Nat.min_eq_right (by omega)]
      exact Bk.empty l D' N
/-- The first blocks: those behind a stand as they were. -/
def One1 (l : List R3) (N s a : Nat) (D : List Nat) : Prop := (∀ x, s ∣ x → x + s ≤ a → Bk l D x (x + s)) ∧ ∀ x, a ≤ x → x < N → D[x]? = some x
theorem own_bk {l : List R3} {D D' : List Nat} {a b N : Nat} (h : ∀ x, a ≤ x → x < N → D[x]? = some x) (hb : b ≤ N) (o : Ord l D D' a b) : Bk l D' a b := by
  refine ⟨o.srt, fun v => ?_⟩
  rw [o.mem]
  constructor
  · rintro ⟨x, h1, h2, e⟩
    rw [h x h1 (by omega)] at e
    injection e with e
    omega
  · rintro ⟨h1, h2⟩
    exact ⟨v, h1, h2, h v h1 (by omega)⟩
theorem One1.step {l : List R3} {N s a : Nat} {D D' : List Nat} (h : One1 l N s a D) (ha : s ∣ a) (hb : a + s ≤ N) (o : Ord l D D' a (a + s)) (hs : 0 < s) : One1 l N s (a + s) D' := by
  refine ⟨fun x hx hxa => ?_, fun x h1 h2 => by rw [o.out x (by omega)]; exact h.2 x (by omega) h2⟩
  by_cases e : x = a
  · subst e
    exact own_bk h.2 hb o
  · have := dvd_gap hx ha (by omega)
    exact (h.1 x hx this).keep o (.inl (by omega))
theorem One1.last {l : List R3} {N s a : Nat} {D D' : List Nat} (h : One1 l N s a D) (ha : s ∣ a) (haN : a ≤ N) (hb : N < a + s) (o : Ord l D D' a N) (hs : 0 < s) : Bks l N s D' := by
  intro x hx
  by_cases e : x = a
  · subst e
    rw [Nat.min_eq_left haN, Nat.min_eq_right (by omega)]
    exact own_bk h.2 (Nat.le_refl _) o
  · by_cases e2 : x < a
    · have g := dvd_gap hx ha e2
      rw [Nat.min_eq_left (by omega), Nat.min_eq_left (by omega)]
      exact (h.1 x hx g).keep o (.inl (by omega))
    · have g := dvd_gap ha hx (by omega)
      rw [Nat.min_eq_right (by omega), Nat.min_eq_right (by omega)]
      exact Bk.empty l D' N
theorem Bks.whole {l : List R3} {N s : Nat} {D : List Nat} (h : Bks l N s D) (hs : N ≤ s) : Bk l D 0 N := by
  have := h 0 ⟨0, by simp⟩
  rwa [Nat.zero_min, Nat.zero_add, Nat.min_eq_right hs] at this
end Go.Proofs.Ytchohcfcnghmlaa
