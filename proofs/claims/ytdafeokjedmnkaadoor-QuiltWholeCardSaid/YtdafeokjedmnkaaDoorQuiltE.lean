/-
  A quilt, as plain numbers: what came at which place, first of all.
-/
import Derived.Test.YtdafeokjedmnkaaDoorWords
namespace Go.Proofs.YtdafeokjedmnkaaDoor
set_option linter.unusedVariables false
set_option linter.unusedSimpArgs false

/-- A piece's first k bytes are laid from 'off' on: what came first stays. -/
def fput (f : Int → Option Int) (off : Int) (p : List Int) (k : Nat) : Int → Option Int := fun x => if off ≤ x ∧ x < off + k ∧ f x = none then p[(x - off).toNat]? else f x
/-- The places that are new. -/
def news (f : Int → Option Int) (off : Int) : Nat → List Int
  | 0 => []
  | k + 1 => news f off k ++ (if f (off + k) = none then [off + (k : Int)] else [])
theorem news_s (f : Int → Option Int) (off : Int) (k : Nat) : news f off (k + 1) = news f off k ++ (if f (off + k) = none then [off + (k : Int)] else []) := rfl
theorem fput_0 (f : Int → Option Int) (off : Int) (p : List Int) : fput f off p 0 = f := by
  funext x
  unfold fput
  rw [if_neg (by omega)]
theorem fput_old {f : Int → Option Int} {off : Int} {p : List Int} {k : Nat} {x : Int} (h : f x ≠ none) : fput f off p k x = f x := by
  unfold fput
  rw [if_neg (by simp [h])]
theorem fput_far {f : Int → Option Int} {off : Int} {p : List Int} {k : Nat} {x : Int} (h : ¬ (off ≤ x ∧ x < off + k)) : fput f off p k x = f x := by
  unfold fput
  rw [if_neg (by omega)]
theorem fput_at {f : Int → Option Int} {off : Int} {p : List Int} {k : Nat} {x : Int} (h1 : off ≤ x) (h2 : x < off + k) (h : f x = none) : fput f off p k x = p[(x - off).toNat]? := by
  unfold fput
  rw [if_pos ⟨h1, h2, h⟩]
theorem fput_some {f : Int → Option Int} {off : Int} {p : List Int} {k : Nat} (hk : k ≤ p.length) {x : Int} (h1 : off ≤ x) (h2 : x < off + k) : fput f off p k x ≠ none := by
  by_cases h : f x = none
  · rw [fput_at h1 h2 h, List.getElem?_eq_getElem (by omega)]
    simp
  · rw [fput_old h]
    exact h
theorem fput_add (f : Int → Option Int) (off : Int) (p : List Int) (a b : Nat) (ha : a ≤ p.length) : fput (fput f off p a) (off + a) (p.drop a) b = fput f off p (a + b) := by
  funext x
  by_cases hf : f x = none
  · by_cases h1 : off ≤ x ∧ x < off + a
    · rw [fput_old (fput_some ha h1.1 h1.2), fput_at h1.1 h1.2 hf, fput_at h1.1 (by omega) hf]
    · have e1 : fput f off p a x = none := by rw [fput_far h1]; exact hf
      by_cases h2 : off + a ≤ x ∧ x < off + a + b
      · rw [fput_at h2.1 h2.2 e1, fput_at (by omega) (by omega) hf, List.getElem?_drop]
        congr 1
        omega
      · rw [fput_far h2, e1, fput_far (by omega), hf]
  · rw [fput_old (by rw [fput_old hf]; exact hf), fput_old hf, fput_old hf]
theorem mem_news {f : Int → Option Int} {off x : Int} : ∀ {k : Nat}, x ∈ news f off k ↔ off ≤ x ∧ x < off + k ∧ f x = none
  | 0 => by unfold news; simp; omega
  | k + 1 => by
    unfold news
    rw [List.mem_append, mem_news (k := k)]
    by_cases h : f (off + k) = none
    · rw [if_pos h]
      simp only [List.mem_singleton]
      constructor
      · rintro (⟨h1, h2, h3⟩ | rfl)
        · exact ⟨h1, by omega, h3⟩
        · exact ⟨by omega, by omega, h⟩
      · rintro ⟨h1, h2, h3⟩
        by_cases hx : x = off + k
        · exact .inr hx
        · exact .inl ⟨h1, by omega, h3⟩
    · rw [if_neg h]
      constructor
      · rintro (⟨h1, h2, h3⟩ | h4)
        · exact ⟨h1, by omega, h3⟩
        · cases h4
      · rintro ⟨h1, h2, h3⟩
        by_cases hx : x = off + k
        · rw [hx] at h3; exact absurd h3 h
        · exact .inl ⟨h1, by omega, h3⟩
theorem nodup_news (f : Int → Option Int) (off : Int) : ∀ k : Nat, (news f off k).Nodup
  | 0 => List.nodup_nil
  | k + 1 => by
    unfold news
    split
    · rw [List.nodup_append]
      refine ⟨nodup_news f off k, by simp, ?_⟩
      intro a ha b hb
      simp at hb
      have := (mem_news.1 ha).2.1
      omega
    · rw [List.append_nil]
      exact nodup_news f off k
theorem news_add (f : Int → Option Int) (off : Int) (p : List Int) (a : Nat) : ∀ b : Nat, news f off (a + b) = news f off a ++ news (fput f off p a) (off + a) b
  | 0 => by simp [news]
  | b + 1 => by
    rw [← Nat.add_assoc, news_s, news_s, news_add f off p a b, List.append_assoc]
    have e : off + (a : Int) + (b : Int) = off + ((a + b : Nat) : Int) := by omega
    rw [e, fput_far (x := off + ((a + b : Nat) : Int)) (by omega)]
/-- What came, and the list of the places: each once. -/
structure Came (f : Int → Option Int) (T : List Int) : Prop where
  nd : T.Nodup
  mem : ∀ x, x ∈ T ↔ f x ≠ none
  pos : ∀ x, f x ≠ none → 0 ≤ x
  by_ : ∀ x b, f x = some b → 0 ≤ b ∧ b < 256
theorem Came.put {f : Int → Option Int} {T : List Int} (h : Came f T) {off : Int} {p : List Int} {k : Nat} (h0 : 0 ≤ off) (hk : k ≤ p.length) (hp : ∀ b ∈ p, 0 ≤ b ∧ b < 256) : Came (fput f off p k) (T ++ news f off k) := by
  refine ⟨?_, ?_, ?_, ?_⟩
  · rw [List.nodup_append]
    refine ⟨h.nd, nodup_news f off k, ?_⟩
    intro a ha b hb e
    subst e
    exact (h.mem a).1 ha (mem_news.1 hb).2.2
  · intro x
    rw [List.mem_append, h.mem, mem_news]
    by_cases hf : f x = none
    · by_cases h1 : off ≤ x ∧ x < off + k
      · simp [hf, h1, fput_some hk h1.1 h1.2]
      · rw [fput_far h1]
        simp [hf]
        omega
    · rw [fput_old hf]
      simp [hf]
  · intro x hx
    by_cases hf : f x = none
    · by_cases h1 : off ≤ x ∧ x < off + k
      · omega
      · rw [fput_far h1] at hx
        exact absurd hf hx
    · exact h.pos x hf
  · intro x b hx
    by_cases hf : f x = none
    · by_cases h1 : off ≤ x ∧ x < off + k
      · rw [fput_at h1.1 h1.2 hf] at hx
        exact hp b (List.mem_of_getElem? hx)
      · rw [fput_far h1, hf] at hx
        cases hx
    · rw [fput_old hf] at hx
      exact h.by_ x b hx
/-- A quilt. -/
structure QS where
  f : Int → Option Int
  T : List Int
  rd : Int
  wh : Int
  hi : Int
  en : Bool
structure QOk (s : QS) : Prop where
  came : Came s.f s.T
  top : ∀ x, s.f x ≠ none → x < s.hi
  whl : ∀ x, 0 ≤ x → x < s.wh → s.f x ≠ none
  stop : s.f s.wh = none
  r0 : 0 ≤ s.rd
  r1 : s.rd ≤ s.wh
  w1 : s.wh ≤ s.hi
  h1 : s.hi ≤ 4611686018427387903
def qs0 : QS := ⟨fun _ => none, [], 0, 0, 0, false⟩
theorem qs0_ok : QOk qs0 := by
  refine ⟨⟨List.nodup_nil, ?_, ?_, ?_⟩, ?_, ?_, rfl, ?_, ?_, ?_, ?_⟩ <;> simp [qs0] <;> omega
/-- So many places are there at least. -/
theorem range_sub : ∀ (n : Nat) (T : List Int), (∀ x : Int, 0 ≤ x → x < n → x ∈ T) → n ≤ T.length
  | 0, _, _ => Nat.zero_le _
  | n + 1, T, h => by
    have hm : (n : Int) ∈ T := h n (by omega) (by omega)
    have h2 := range_sub n (T.erase (n : Int)) (fun x h0 h1 => by
      rw [List.mem_erase_of_ne (by omega)]
      exact h x h0 (by omega))
    rw [List.length_erase_of_mem hm] at h2
    have : 0 < T.length := List.length_pos_of_mem hm
    omega
theorem Came.len {f : Int → Option Int} {T : List Int} (h : Came f T) {r : Int} (hr : ∀ x, 0 ≤ x → x < r → f x ≠ none) : r ≤ T.length := by
  have := range_sub r.toNat T (fun x h0 h1 => (h.mem x).2 (hr x h0 (by omega)))
  omega
/-- As many as lie below: there is none beyond. -/
theorem Came.all {f : Int → Option Int} {T : List Int} (h : Came f T) {r : Int} (h0 : 0 ≤ r) (hr : ∀ x, 0 ≤ x → x < r → f x ≠ none) (hl : (T.length : Int) = r) {x : Int} (hx : r ≤ x) : f x = none := by
  by_cases hf : f x = none
  · exact hf
  · have hm := (h.mem x).2 hf
    have h2 := range_sub r.toNat (T.erase x) (fun y h1 h2 => by
      rw [List.mem_erase_of_ne (by omega)]
      exact (h.mem y).2 (hr y h1 (by omega)))
    rw [List.length_erase_of_mem hm] at h2
    have : 0 < T.length := List.length_pos_of_mem hm
    omega
end Go.Proofs.YtdafeokjedmnkaaDoor
