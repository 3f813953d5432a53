/-
  turn: merging in place (pure).
-/
import Derived.Test.YtchohcfcnghmlaaTurnJ
namespace Go.Proofs.Ytchohcfcnghmlaa
open Go.RowKit
set_option linter.unusedVariables false
set_option linter.unusedSimpArgs false
/-- The places on the left are lower ones. -/
def LI (D : List Nat) (a m b : Nat) : Prop := ∀ x y u v, a ≤ x → x < m → m ≤ y → y < b → D[x]? = some u → D[y]? = some v → u < v
theorem Srt.le {l : List R3} {D : List Nat} {a b x y u v : Nat} (h : Srt l D a b) (hx : a ≤ x) (hxy : x ≤ y) (hy : y < b) (e1 : D[x]? = some u) (e2 : D[y]? = some v) : u = v ∨ bef l u v = true := by
  by_cases e : x = y
  · subst e
    rw [e1] at e2
    injection e2 with e2
    exact .inl e2
  · exact .inr (h x y u v hx (by omega) hy e1 e2)
theorem bef_le {l : List R3} {u v x y : Nat} (h : bef l u v = true) (h1 : x = u ∨ bef l x u = true) (h2 : v = y ∨ bef l v y = true) : bef l x y = true := by
  rcases h1 with rfl | h1
  · rcases h2 with rfl | h2
    · exact h
    · exact bef_trans h h2
  · rcases h2 with rfl | h2
    · exact bef_trans h1 h
    · exact bef_trans (bef_trans h1 h) h2
theorem Ord.refl {l : List R3} {D : List Nat} {a b : Nat} (h : Srt l D a b) : Ord l D D a b := ⟨rfl, List.Perm.refl _, fun _ _ => rfl, h, fun _ => Iff.rfl⟩
/-- The element of place a stands at k. -/
def Mov (D C : List Nat) (a k : Nat) : Prop := C.length = D.length ∧ C.Perm D ∧ ∀ x, C[x]? = if x = k then D[a]? else if a ≤ x ∧ x < k then D[x + 1]? else D[x]?
theorem Mov.zero (D : List Nat) (a : Nat) : Mov D D a a := ⟨rfl, List.Perm.refl _, fun x => by
  by_cases h : x = a
  · rw [if_pos h, h]
  · rw [if_neg h, if_neg (by omega)]⟩
theorem Mov.step {D C : List Nat} {a k : Nat} (h : Mov D C a k) (ha : a ≤ k) (hl : k + 1 < D.length) : Mov D (swp C k (k + 1)) a (k + 1) := by
  obtain ⟨h1, h2, h3⟩ := h
  refine ⟨by rw [swp_len, h1], (swp_perm C (by omega) (by omega)).trans h2, fun x => ?_⟩
  rw [swp_at C (by omega) (by omega), h3 x, h3 k, h3 (k + 1)]
  rw [if_pos rfl, if_neg (show ¬ k + 1 = k by omega), if_neg (show ¬ (a ≤ k + 1 ∧ k + 1 < k) by omega)]
  by_cases e1 : x = k
  · rw [if_pos e1, if_neg (by omega), if_pos (by omega), e1]
  · rw [if_neg e1]
    by_cases e2 : x = k + 1
    · rw [if_pos e2, if_pos e2]
    · rw [if_neg e2, if_neg e1, if_neg e2]
      by_cases e3 : a ≤ x ∧ x < k
      · rw [if_pos e3, if_pos (by omega)]
      · rw [if_neg e3, if_neg (by omega)]
theorem Mov.ord {l : List R3} {D C : List Nat} {a i b v : Nat} (h : Mov D C a (i - 1)) (ha : a + 1 ≤ i) (hi : i ≤ b) (hv : D[a]? = some v) (hs : Srt l D (a + 1) b)
    (hlow : ∀ x u, a + 1 ≤ x → x < i → D[x]? = some u → bef l u v = true) (hup : ∀ x u, i ≤ x → x < b → D[x]? = some u → bef l v u = true) : Ord l D C a b := by
  obtain ⟨h1, h2, h3⟩ := h
  refine ⟨h1, h2, fun x hx => by rw [h3, if_neg (by omega), if_neg (by omega)], ?_, fun u => ?_⟩
  · intro x y u w hx hxy hy e1 e2
    rw [h3] at e1 e2
    by_cases c1 : x = i - 1
    · rw [if_pos c1, hv] at e1
      injection e1 with e1
      subst e1
      rw [if_neg (by omega), if_neg (by omega)] at e2
      exact hup y w (by omega) hy e2
    · rw [if_neg c1] at e1
      by_cases c2 : a ≤ x ∧ x < i - 1
      · rw [if_pos c2] at e1
        by_cases c3 : y = i - 1
        · rw [if_pos c3, hv] at e2
          injection e2 with e2
          subst e2
          exact hlow (x + 1) u (by omega) (by omega) e1
        · rw [if_neg c3] at e2
          by_cases c4 : a ≤ y ∧ y < i - 1
          · rw [if_pos c4] at e2
            exact hs (x + 1) (y + 1) u w (by omega) (by omega) (by omega) e1 e2
          · rw [if_neg c4] at e2
            exact hs (x + 1) y u w (by omega) (by omega) hy e1 e2
      · rw [if_neg c2] at e1
        rw [if_neg (by omega), if_neg (by omega)] at e2
        exact hs x y u w (by omega) hxy hy e1 e2
  · constructor
    · rintro ⟨x, hx, hxb, e⟩
      rw [h3] at e
      by_cases c1 : x = i - 1
      · rw [if_pos c1] at e
        exact ⟨a, Nat.le_refl _, by omega, e⟩
      · rw [if_neg c1] at e
        by_cases c2 : a ≤ x ∧ x < i - 1
        · rw [if_pos c2] at e
          exact ⟨x + 1, by omega, by omega, e⟩
        · rw [if_neg c2] at e
          exact ⟨x, hx, hxb, e⟩
    · rintro ⟨x, hx, hxb, e⟩
      by_cases c1 : x = a
      · exact ⟨i - 1, by omega, by omega, by rw [h3, if_pos rfl, ← c1]; exact e⟩
      · by_cases c2 : x < i
        · exact ⟨x - 1, by omega, by omega, by rw [h3, if_neg (by omega), if_pos (by omega), show x - 1 + 1 = x by omega]; exact e⟩
        · exact ⟨x, hx, hxb, by rw [h3, if_neg (by omega), if_neg (by omega)]; exact e⟩
theorem mm_sub {D D1 : List Nat} {a b v : Nat} (h : ∀ x, a ≤ x → x < b → D1[x]? = D[x]?) : Mm D1 a b v ↔ Mm D a b v := by
  constructor
  · rintro ⟨x, h1, h2, e⟩
    exact ⟨x, h1, h2, by rw [← h x h1 h2]; exact e⟩
  · rintro ⟨x, h1, h2, e⟩
    exact ⟨x, h1, h2, by rw [h x h1 h2]; exact e⟩
theorem mm_shift {D D1 : List Nat} {a b c v : Nat} (h : ∀ x, a ≤ x → x < b → D1[x]? = D[c + (x - a)]?) (hab : a ≤ b) : Mm D1 a b v ↔ Mm D c (c + (b - a)) v := by
  constructor
  · rintro ⟨x, h1, h2, e⟩
    exact ⟨c + (x - a), by omega, by omega, by rw [← h x h1 h2]; exact e⟩
  · rintro ⟨x, h1, h2, e⟩
    exact ⟨a + (x - c), by omega, by omega, by rw [h _ (by omega) (by omega), show c + (a + (x - c) - a) = x by omega]; exact e⟩
theorem srt_sub {l : List R3} {D D1 : List Nat} {a b : Nat} (hs : Srt l D a b) (h : ∀ x, a ≤ x → x < b → D1[x]? = D[x]?) : Srt l D1 a b := fun x y u v hx hxy hy e1 e2 => by
  rw [h x hx (by omega)] at e1
  rw [h y (by omega) hy] at e2
  exact hs x y u v hx hxy hy e1 e2
theorem srt_shift {l : List R3} {D D1 : List Nat} {a b c : Nat} (hs : Srt l D c (c + (b - a))) (h : ∀ x, a ≤ x → x < b → D1[x]? = D[c + (x - a)]?) : Srt l D1 a b := fun x y u v hx hxy hy e1 e2 => by
  rw [h x hx (by omega)] at e1
  rw [h y (by omega) hy] at e2
  exact hs _ _ u v (by omega) (by omega) (by omega) e1 e2
/-- What the halves are behind the rotation. -/
structure Halves (l : List R3) (D D1 : List Nat) (a s mid e b : Nat) : Prop where
  has : a ≤ s
  sm : s ≤ mid
  me : mid ≤ e
  eb : e ≤ b
  s1 : Srt l D1 a s
  s2 : Srt l D1 s mid
  s3 : Srt l D1 mid e
  s4 : Srt l D1 e b
  l1 : LI D1 a s mid
  l2 : LI D1 mid e b
  cross : ∀ u v, Mm D1 a mid u → Mm D1 mid b v → bef l u v = true
  mem : ∀ v, Mm D1 a b v ↔ Mm D a b v
  out : ∀ x, ¬ (a ≤ x ∧ x < b) → D1[x]? = D[x]?
theorem halves {l : List R3} {D D1 : List Nat} {a m b mid s lo hi e : Nat} (ham : a < m) (hmb : m < b) (hmid : mid = (a + b) / 2) (h1 : Srt l D a m) (h2 : Srt l D m b) (hli : LI D a m b)
    (hlo : lo = if mid < m then mid + m - b else a) (hhi : hi = if mid < m then mid else m) (hs1 : lo ≤ s) (hs2 : s ≤ hi) (he : e = mid + m - s)
    (hlow : s = lo ∨ ∃ u v, D[s - 1]? = some u ∧ D[e]? = some v ∧ bef l u v = true) (hup : s = hi ∨ ∃ u v, D[e - 1]? = some u ∧ D[s]? = some v ∧ bef l u v = true)
    (hr : ∀ x, D1[x]? = rotF D s m e x) : Halves l D D1 a s mid e b := by
  have b1 : a ≤ lo ∧ mid + m - b ≤ lo ∧ (lo = mid + m - b ∨ lo = a) := by rw [hlo]; split <;> omega
  have b2 : hi ≤ mid ∧ hi ≤ m ∧ (hi = mid ∨ hi = m) := by rw [hhi]; split <;> omega
  have c0 : s ≤ m ∧ m ≤ e ∧ e ≤ b ∧ s ≤ mid ∧ mid ≤ e ∧ s + (e - m) = mid := by omega
  have r1 : ∀ x, x < s → D1[x]? = D[x]? := fun x hx => by rw [hr]; unfold rotF; rw [if_neg (by omega)]
  have r2 : ∀ x, s ≤ x → x < mid → D1[x]? = D[m + (x - s)]? := fun x hx hx2 => by rw [hr]; unfold rotF; rw [if_pos (by omega), if_pos (by omega)]
  have r3 : ∀ x, mid ≤ x → x < e → D1[x]? = D[s + (x - mid)]? := fun x hx hx2 => by rw [hr]; unfold rotF; rw [if_pos (by omega), if_neg (by omega)]; congr 1; omega
  have r4 : ∀ x, e ≤ x → D1[x]? = D[x]? := fun x hx => by rw [hr]; unfold rotF; rw [if_neg (by omega)]
  have ml : ∀ u, Mm D1 a mid u ↔ Mm D a s u ∨ Mm D m e u := fun u => by
    rw [Mm.join (show a ≤ s by omega) (show s ≤ mid by omega), mm_sub (fun x _ hx => r1 x hx), mm_shift (c := m) r2 (by omega), show m + (mid - s) = e by omega]
  have mr : ∀ u, Mm D1 mid b u ↔ Mm D s m u ∨ Mm D e b u := fun u => by
    rw [Mm.join (show mid ≤ e by omega) (show e ≤ b by omega), mm_shift (c := s) r3 (by omega), mm_sub (fun x hx _ => r4 x hx), show s + (e - mid) = m by omega]
  refine ⟨by omega, by omega, by omega, by omega, ?_, ?_, ?_, ?_, ?_, ?_, ?_, ?_, ?_⟩
  · exact srt_sub (h1.sub (Nat.le_refl _) (by omega)) (fun x _ hx => r1 x hx)
  · exact srt_shift (c := m) (h2.sub (Nat.le_refl _) (by omega)) r2
  · exact srt_shift (c := s) (h1.sub (by omega) (by omega)) r3
  · exact srt_sub (h2.sub (by omega) (Nat.le_refl _)) (fun x hx _ => r4 x hx)
  · intro x y u v hx hxs hy hym e1 e2
    rw [r1 x hxs] at e1
    rw [r2 y hy hym] at e2
    exact hli x _ u v hx (by omega) (by omega) (by omega) e1 e2
  · intro x y u v hx hxe hy hyb e1 e2
    rw [r3 x hx hxe] at e1
    rw [r4 y hy] at e2
    exact hli _ y u v (by omega) (by omega) (by omega) hyb e1 e2
  · intro u v hu hv
    rcases (ml u).1 hu with ⟨x, hx1, hx2, ex⟩ | ⟨x, hx1, hx2, ex⟩
    · rcases (mr v).1 hv with ⟨y, hy1, hy2, ey⟩ | ⟨y, hy1, hy2, ey⟩
      · exact h1 x y u v hx1 (by omega) hy2 ex ey
      · rcases hlow with hq | ⟨p, q, ep, eq, hb⟩
        · rcases b1.2.2 with h | h <;> omega
        · exact bef_le hb (h1.le hx1 (show x ≤ s - 1 by omega) (by omega) ex ep) (h2.le (by omega) hy1 hy2 eq ey)
    · rcases (mr v).1 hv with ⟨y, hy1, hy2, ey⟩ | ⟨y, hy1, hy2, ey⟩
      · rcases hup with hq | ⟨p, q, ep, eq, hb⟩
        · rcases b2.2.2 with h | h <;> omega
        · exact bef_le hb (h2.le hx1 (show x ≤ e - 1 by omega) (by omega) ex ep) (h1.le (by omega) hy1 hy2 eq ey)
      · exact h2 x y u v hx1 (by omega) hy2 ex ey
  · intro v
    rw [Mm.join (show a ≤ mid by omega) (show mid ≤ b by omega), ml, mr, Mm.join (D := D) (show a ≤ m by omega) (show m ≤ b by omega), Mm.join (D := D) (show a ≤ s by omega) (show s ≤ m by omega), Mm.join (D := D) (show m ≤ e by omega) (show e ≤ b by omega)]
    constructor
    · rintro ((h | h) | (h | h))
      · exact .inl (.inl h)
      · exact .inr (.inl h)
      · exact .inl (.inr h)
      · exact .inr (.inr h)
    · rintro ((h | h) | (h | h))
      · exact .inl (.inl h)
      · exact .inr (.inl h)
      · exact .inl (.inr h)
      · exact .inr (.inr h)
  · intro x hx
    by_cases hxa : x < a
    · exact r1 x (by omega)
    · exact r4 x (by omega)
/-- Both halves are sorted. -/
theorem Halves.ord {l : List R3} {D D1 D2 D3 : List Nat} {a s mid e b : Nat} (h : Halves l D D1 a s mid e b) (hp : D1.length = D.length ∧ D1.Perm D) (o1 : Ord l D1 D2 a mid) (o2 : Ord l D2 D3 mid b) : Ord l D D3 a b := by
  have h1 := h.has
  have h2 := h.sm
  have h3 := h.me
  have h4 := h.eb
  have m1 : ∀ u, Mm D3 a mid u ↔ Mm D1 a mid u := fun u => (mm_sub (fun x hx hx2 => o2.out x (by omega))).trans (o1.mem u)
  have m2 : ∀ u, Mm D3 mid b u ↔ Mm D1 mid b u := fun u => (o2.mem u).trans (mm_sub (fun x hx hx2 => o1.out x (by omega)))
  refine ⟨o2.len.trans (o1.len.trans hp.1), o2.perm.trans (o1.perm.trans hp.2), fun x hx => ?_, ?_, fun v => ?_⟩
  · rw [o2.out x (by omega), o1.out x (by omega), h.out x hx]
  · exact (srt_sub o1.srt (fun x hx hx2 => o2.out x (by omega))).join o2.srt (fun u v hu hv => h.cross u v ((m1 u).1 hu) ((m2 v).1 hv))
  · rw [Mm.join (show a ≤ mid by omega) (show mid ≤ b by omega), m1, m2, ← Mm.join (show a ≤ mid by omega) (show mid ≤ b by omega), h.mem]
/-- A binary search between lo and hi. -/
def Rs (lo hi : Nat) (P Q : Nat → Prop) (R : World → Prop) (p q : Value) (wr : World) : Prop := ∃ i j : Nat, lo ≤ i ∧ i ≤ j ∧ j ≤ hi ∧ p = .int .i64 (i : Int) ∧ q = .int .i64 (j : Int) ∧ P i ∧ Q j ∧ R wr
theorem Rs.mk {lo hi : Nat} {P Q : Nat → Prop} {R : World → Prop} {p q : Value} {wr : World} (i j : Nat) (h1 : lo ≤ i) (h2 : i ≤ j) (h3 : j ≤ hi) (hp : p = .int .i64 (i : Int)) (hq : q = .int .i64 (j : Int)) (a : P i) (b : Q j) (c : R wr) : Rs lo hi P Q R p q wr := ⟨i, j, h1, h2, h3, hp, hq, a, b, c⟩
/-- A walk of one place. -/
def Rk (P : Nat → World → Prop) (p : Value) (wr : World) : Prop := ∃ k : Nat, p = .int .i64 (k : Int) ∧ P k wr
theorem Rk.mk {P : Nat → World → Prop} {p : Value} {wr : World} (k : Nat) (hp : p = .int .i64 (k : Int)) (h : P k wr) : Rk P p wr := ⟨k, hp, h⟩
end Go.Proofs.Ytchohcfcnghmlaa
