/-
  LossTime.
-/
import Derived.Test.YtfalnaagfndgfaaLossJ
import Derived.Test.YtfalnaagfndgfaaLossL
namespace Go.Proofs.Ytfalnaagfndgfaa
open Go.RowKit
set_option linter.unusedVariables false
set_option linter.unusedSimpArgs false
def tmA (l : List Int) (i : Nat) : Int := 100 + l[i]?.getD 0
def tmL (l : List Int) (k : Nat) : List PK := (List.range k).map fun (i : Nat) => ⟨(i : Int), tmA l i, 1, true⟩
def tmG (l : List Int) (k : Nat) : LG := ⟨tmL l k, k, 0, false⟩
def tmF (l : List Int) (k : Nat) : Int := (List.range k).foldl (fun f i => min f (tmA l i)) 1099511627776
theorem tmL_succ (l : List Int) (k : Nat) : tmL l (k + 1) = tmL l k ++ [⟨(k : Int), tmA l k, 1, true⟩] := by simp [tmL, List.range_succ]
theorem tmF_succ (l : List Int) (k : Nat) : tmF l (k + 1) = min (tmF l k) (tmA l k) := by simp [tmF, List.range_succ]
theorem tmL_length (l : List Int) (k : Nat) : (tmL l k).length = k := by simp [tmL]
theorem tmA_ok {l : List Int} (h : Bytes l) (i : Nat) : 100 ≤ tmA l i ∧ tmA l i ≤ 355 := by
  unfold tmA
  cases hx : l[i]? with
  | none => simp
  | some x =>
    have := h.at hx
    simp
    omega
theorem tmF_ok {l : List Int} (h : Bytes l) : ∀ k, 100 ≤ tmF l k ∧ tmF l k ≤ 1099511627776 ∧ (0 < k → tmF l k ≤ 355)
  | 0 => by simp [tmF]
  | k + 1 => by
    have h1 := tmF_ok h k
    have h2 := tmA_ok h k
    rw [tmF_succ]
    omega
theorem tmF_le {l : List Int} : ∀ k, ∀ p ∈ tmL l k, tmF l k ≤ p.se
  | 0, p, hp => by simp [tmL] at hp
  | k + 1, p, hp => by
    rw [tmL_succ] at hp
    rw [tmF_succ]
    rcases List.mem_append.1 hp with hp | hp
    · have := tmF_le k p hp
      omega
    · simp at hp; subst hp; simp only; omega
theorem tmF_mem {l : List Int} (h : Bytes l) : ∀ k, 0 < k → ∃ p ∈ tmL l k, p.se = tmF l k
  | 0, h0 => by omega
  | k + 1, _ => by
    rw [tmL_succ, tmF_succ]
    have h1 := tmF_ok h k
    have h2 := tmA_ok h k
    by_cases hd : 0 < k ∧ tmF l k ≤ tmA l k
    · obtain ⟨p, hp, he⟩ := tmF_mem h k hd.1
      exact ⟨p, List.mem_append_left _ hp, by rw [he]; omega⟩
    · refine ⟨⟨(k : Int), tmA l k, 1, true⟩, by simp, ?_⟩
      simp only
      rcases Nat.eq_zero_or_pos k with h0 | h0
      · subst h0
        have : tmF l 0 = 1099511627776 := rfl
        omega
      · have : ¬ tmF l k ≤ tmA l k := fun e => hd ⟨h0, e⟩
        omega
theorem tmL_nu {l : List Int} {k : Nat} {p : PK} (hp : p ∈ tmL l k) : 0 ≤ p.nu ∧ p.nu < k := by
  obtain ⟨i, hi, rfl⟩ := List.mem_map.1 hp
  simp at hi
  simp only
  omega
theorem tm_send (l : List Int) (h : Bytes l) (k : Nat) (hk : k ≤ 10) : sendE (tmG l k) ⟨(k : Int), tmA l k, 1, true⟩ = 0 ∧ lSend (tmG l k) ⟨(k : Int), tmA l k, 1, true⟩ = tmG l (k + 1) := by
  have h2 := tmA_ok h k
  have h1 : sendE (tmG l k) ⟨(k : Int), tmA l k, 1, true⟩ = 0 := sendE_0 _ _ (by simp only; omega) (by unfold tmG; simp)
  refine ⟨h1, ?_⟩
  unfold lSend
  rw [if_pos h1]
  unfold tmG
  rw [tmL_succ]
  simp
theorem tm_ok (l : List Int) (h : Bytes l) : ∀ k, k ≤ 10 → LgOk (tmG l k)
  | 0, _ => lgN_ok
  | k + 1, hk => by
    have := (tm_send l h k (by omega)).2
    rw [← this]
    exact lSend_ok (tm_ok l h k (by omega)) (by simp only; omega) (by have := tmA_ok h k; simp only; omega) (by simp)
def tmH (l : List Int) (k : Nat) : LG := ⟨tmL l k ++ [⟨(k : Int), 500, 1, true⟩], (k : Int) + 1, 0, false⟩
theorem tm_last (l : List Int) (k : Nat) (hk : k ≤ 10) : sendE (tmG l k) ⟨(k : Int), 500, 1, true⟩ = 0 ∧ lSend (tmG l k) ⟨(k : Int), 500, 1, true⟩ = tmH l k := by
  have h1 : sendE (tmG l k) ⟨(k : Int), 500, 1, true⟩ = 0 := sendE_0 _ _ (by simp only; omega) (by unfold tmG; simp)
  refine ⟨h1, ?_⟩
  unfold lSend
  rw [if_pos h1]
  rfl
def tmK (l : List Int) (k : Nat) : LG := ⟨tmL l k, (k : Int) + 1, k, true⟩
theorem tm_ack (l : List Int) (k : Nat) : ackE (tmH l k) [((k : Int), (k : Int))] = 0 ∧ lAck (tmH l k) [((k : Int), (k : Int))] = tmK l k := by
  have e : ackE (tmH l k) [((k : Int), (k : Int))] = 0 := by
    unfold ackE
    rw [if_neg (by simp), if_neg (by unfold tmH; simp; omega)]
  refine ⟨e, ?_⟩
  unfold lAck
  rw [if_pos e]
  unfold tmH tmK
  have h1 : (tmL l k ++ [(⟨(k : Int), 500, 1, true⟩ : PK)]).filter (fun p => !inR [((k : Int), (k : Int))] p) = tmL l k := by
    rw [List.filter_append]
    have e1 : (tmL l k).filter (fun p => !inR [((k : Int), (k : Int))] p) = tmL l k := List.filter_eq_self.2 fun p hp => by
      have := tmL_nu hp
      unfold inR
      simp
      omega
    have e2 : ([⟨(k : Int), 500, 1, true⟩] : List PK).filter (fun p => !inR [((k : Int), (k : Int))] p) = [] := by
      simp [inR]
    rw [e1, e2, List.append_nil]
  simp only [h1, topR, List.foldl_cons, List.foldl_nil]
  have : max (0 : Int) k = k := by omega
  simp [this]
theorem minP_mem (p : PK) (l : List PK) : minP p l ∈ p :: l := by
  induction l generalizing p with
  | nil => simp [minP]
  | cons x l ih =>
    have := ih (if x.se < p.se then x else p)
    show minP (if x.se < p.se then x else p) l ∈ p :: x :: l
    rcases List.mem_cons.1 this with h | h
    · rw [h]; split <;> simp
    · simp [h]
theorem minP_le (p : PK) (l : List PK) : ∀ q ∈ p :: l, (minP p l).se ≤ q.se := by
  induction l generalizing p with
  | nil => intro q hq; simp at hq; subst hq; simp [minP]
  | cons x l ih =>
    have h := ih (if x.se < p.se then x else p)
    show ∀ q ∈ p :: x :: l, (minP (if x.se < p.se then x else p) l).se ≤ q.se
    have hm : (if x.se < p.se then x else p).se ≤ p.se ∧ (if x.se < p.se then x else p).se ≤ x.se := by split <;> omega
    generalize (if x.se < p.se then x else p) = M at h hm
    have h0 := h _ (List.mem_cons_self)
    intro q hq
    rcases List.mem_cons.1 hq with rfl | hq
    · omega
    · rcases List.mem_cons.1 hq with rfl | hq
      · omega
      · exact h q (by simp [hq])
theorem tm_due (l : List Int) (h : Bytes l) (k : Nat) (t : Int) (ht : 0 ≤ t ∧ t < 65536) : dueN (tmK l k) t = if k = 0 then (0, false) else (tmF l k + t, true) := by
  have hlow : lowL (tmK l k) = tmL l k := List.filter_eq_self.2 fun p hp => by
    have := tmL_nu hp
    exact decide_eq_true this.2
  unfold dueN
  rw [hlow]
  rcases Nat.eq_zero_or_pos k with h0 | h0
  · subst h0; rfl
  · rw [if_neg (by omega)]
    rcases hc : tmL l k with _ | ⟨p, L⟩
    · have := tmL_length l k
      rw [hc] at this
      simp at this
      omega
    · have h1 := minP_mem p L
      have h2 := minP_le p L
      rw [← hc] at h1 h2
      obtain ⟨q, hq, he⟩ := tmF_mem h k h0
      have a := h2 q hq
      have b := tmF_le k _ h1
      have e : (minP p L).se = tmF l k := by omega
      show ((minP p L).se + min t 4611686018427387903, true) = (tmF l k + t, true)
      rw [e]
      have : min t 4611686018427387903 = t := by omega
      rw [this]
theorem tm_lost0 (l : List Int) (h : Bytes l) (k : Nat) (hk : k ≤ 2) (t : Int) (ht : 0 ≤ t) : (tmK l k).op.filter (lostP (tmK l k) (tmF l k + t - 1) t) = [] := List.filter_eq_nil_iff.2 fun p hp => by
  have h1 := tmF_le k p hp
  have h2 := tmL_nu hp
  unfold lostP tmK
  simp
  omega
theorem tm_lost1 (l : List Int) (h : Bytes l) (k : Nat) (hk0 : 0 < k) (t : Int) (ht : 0 ≤ t) : 0 < ((tmK l k).op.filter (lostP (tmK l k) (tmF l k + t) t)).length := by
  obtain ⟨p, hp, he⟩ := tmF_mem h k hk0
  have h2 := tmL_nu hp
  have : p ∈ (tmK l k).op.filter (lostP (tmK l k) (tmF l k + t) t) := List.mem_filter.2 ⟨hp, by
    unfold lostP tmK
    simp
    omega⟩
  exact List.length_pos_of_mem this
theorem filter_both (f : PK → Bool) (l : List PK) : (l.filter f).length + (l.filter (fun p => !f p)).length = l.length := by
  induction l with
  | nil => rfl
  | cons x l ih =>
    by_cases h : f x = true
    · simp [h]; omega
    · have : f x = false := by simpa using h
      simp [this]; omega
end Go.Proofs.Ytfalnaagfndgfaa
