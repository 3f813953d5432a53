/-
  LossGives.
-/
import Derived.Test.YtfalnaagfndgfaaLossO
namespace Go.Proofs.Ytfalnaagfndgfaa
open Go.RowKit
set_option linter.unusedVariables false
set_option linter.unusedSimpArgs false
def goodR (K : Int) (x : Int × Int) : Bool := decide (x.1 ≤ x.2) && decide (x.2 ≤ K)
/-- The ranges that the law lets through, after k of them. -/
def okS (K : Int) (r : List (Int × Int)) (k : Nat) : List (Int × Int) := (r.take (min k 6)).filter (goodR K)
theorem okS_good {K : Int} {r : List (Int × Int)} {k : Nat} {x : Int × Int} (hx : r[k]? = some x) (hk : k < 6) (hg : goodR K x = true) : okS K r (k + 1) = okS K r k ++ [x] := by
  unfold okS
  rw [show min (k + 1) 6 = k + 1 by omega, show min k 6 = k by omega, take_snoc hx, List.filter_append, List.filter_cons_of_pos hg]
  rfl
theorem okS_bad {K : Int} {r : List (Int × Int)} {k : Nat} {x : Int × Int} (hx : r[k]? = some x) (hg : goodR K x = false) : okS K r (k + 1) = okS K r k := by
  unfold okS
  by_cases hk : k < 6
  · rw [show min (k + 1) 6 = k + 1 by omega, show min k 6 = k by omega, take_snoc hx, List.filter_append, List.filter_cons_of_neg (by rw [hg]; simp)]
    simp
  · rw [show min (k + 1) 6 = 6 by omega, show min k 6 = 6 by omega]
theorem okS_far {K : Int} {r : List (Int × Int)} {k : Nat} (hk : ¬ k < 6) : okS K r (k + 1) = okS K r k := by
  unfold okS
  rw [show min (k + 1) 6 = 6 by omega, show min k 6 = 6 by omega]
theorem okS_len (K : Int) (r : List (Int × Int)) (k : Nat) : (okS K r k).length ≤ 6 := by
  unfold okS
  refine Nat.le_trans (List.length_filter_le _ _) ?_
  rw [List.length_take]
  omega
theorem okS_ok {K : Int} {r : List (Int × Int)} {k : Nat} {x : Int × Int} (h : x ∈ okS K r k) : x.1 ≤ x.2 ∧ x.2 ≤ K ∧ x ∈ r := by
  obtain ⟨h1, h2⟩ := List.mem_filter.1 h
  unfold goodR at h2
  simp at h2
  exact ⟨h2.1, h2.2, List.mem_of_mem_take h1⟩
/-- The numbers that the ranges name. -/
def Named (l : List (Int × Int)) (x : Int) : Prop := 1 ≤ x ∧ ∃ q ∈ l, q.1 ≤ x ∧ x ≤ q.2
theorem named_snoc (l : List (Int × Int)) (f t x : Int) : Named (l ++ [(f, t)]) x ↔ Named l x ∨ (max f 1 ≤ x ∧ x < t + 1) := by
  unfold Named
  constructor
  · rintro ⟨h1, q, hq, h2, h3⟩
    rcases List.mem_append.1 hq with h | h
    · exact .inl ⟨h1, q, h, h2, h3⟩
    · simp at h; subst h; simp only at h2 h3; exact .inr ⟨by omega, by omega⟩
  · rintro (⟨h1, q, hq, h2⟩ | ⟨h1, h2⟩)
    · exact ⟨h1, q, List.mem_append_left _ hq, h2⟩
    · exact ⟨by omega, (f, t), by simp, by simp only; omega, by simp only; omega⟩
theorem filter_parts {α : Type} (p : α → Bool) : ∀ l : List α, (l.filter (fun x => !p x)).length + (l.filter p).length = l.length
  | [] => rfl
  | x :: l => by
    have := filter_parts p l
    by_cases h : p x = true
    · rw [List.filter_cons_of_neg (by simp [h]), List.filter_cons_of_pos h]
      simp; omega
    · rw [List.filter_cons_of_pos (by simpa using h), List.filter_cons_of_neg h]
      simp; omega
/-- What the law's loop holds. -/
structure GV (W3 w : World) (B : Nat) (K : Int) (r : List (Int × Int)) (k m n : Nat) (T : List Int) (A1 : Option Addr) (c1 : Nat) : Prop where
  own : OwnV w W3.heap.size 63 2 A1 c1 m (RgV (okS K r k))
  len : m = (okS K r k).length
  map : MapS w B n T
  cap : n ≤ 31 * k
  nod : T.Nodup
  mem : ∀ x, x ∈ T ↔ Named (okS K r k) x
  fr : Frm W3 w (fun b => b = B)
theorem GV.skip {W3 w : World} {B : Nat} {K : Int} {r : List (Int × Int)} {k m n : Nat} {T : List Int} {A1 : Option Addr} {c1 : Nat} (h : GV W3 w B K r k m n T A1 c1) (e : okS K r (k + 1) = okS K r k) (o : Obj) : GV W3 (w.alloc o) B K r (k + 1) m n T A1 c1 :=
  ⟨by rw [e]; exact OwnV.below h.own ((Below.refl _ _).alloc (Nat.le_refl _) _), by rw [e]; exact h.len, h.map.alloc _, by have := h.cap; omega, h.nod, fun x => by rw [e]; exact h.mem x, h.fr.alloc _⟩
theorem gives_ack (K : Nat) (l : List (Int × Int)) (T : List Int) (hK : K ≤ 1000) (hK1 : 1 ≤ K) (hl : ∀ x ∈ l, x.1 ≤ x.2 ∧ x.2 ≤ K) (hT : T.Nodup) (hm : ∀ x, x ∈ T ↔ Named l x) :
    ackE (sentG K) l = 0 ∧ ackL (sentG K) l = (sentL K).filter (inR l) ∧ ((sentL K).filter (inR l)).length = T.length ∧ (∀ p ∈ (sentL K).filter (inR l), p.nu ∈ T ∧ 1 ≤ p.nu ∧ p.nu ≤ K) ∧
      (lAck (sentG K) l).op = (sentL K).filter (fun p => !inR l p) ∧ ((sentL K).filter (fun p => !inR l p)).length = K - T.length ∧ T.length ≤ K := by
  have e0 : ackE (sentG K) l = 0 := by
    unfold ackE
    rw [if_neg (by simp; intro a b h; exact (hl _ h).1), if_neg (by
      rw [List.any_eq_true]
      rintro ⟨x, h, h2⟩
      have := (hl x h).2
      have h3 : (sentG K).nx ≤ x.2 := by simpa using h2
      unfold sentG at h3
      simp only at h3
      rw [if_neg (by omega)] at h3
      omega)]
  have hin : ∀ p ∈ (sentL K).filter (inR l), p.nu ∈ T ∧ 1 ≤ p.nu ∧ p.nu ≤ K := by
    intro p hp
    obtain ⟨h1, h2⟩ := List.mem_filter.1 hp
    obtain ⟨i, hi, rfl⟩ := List.mem_map.1 h1
    have hi2 := List.mem_range.1 hi
    unfold inR at h2
    simp at h2
    obtain ⟨a, b, h3, h4, h5⟩ := h2
    exact ⟨(hm _).2 ⟨by simp only; omega, (a, b), h3, h4, h5⟩, by simp only; omega, by simp only; omega⟩
  have hlen : ((sentL K).filter (inR l)).length = T.length := by
    have hn : (((sentL K).filter (inR l)).map (·.nu)).Nodup := pairwise_nodup ((sent_ok K hK).up.sublist List.filter_sublist)
    have := nodup_eq hn hT (fun x => by
      constructor
      · intro h
        obtain ⟨p, hp, rfl⟩ := List.mem_map.1 h
        exact (hin p hp).1
      · intro h
        obtain ⟨h1, q, h2, h3, h4⟩ := (hm x).1 h
        have hq := (hl q h2).2
        refine List.mem_map.2 ⟨⟨x, 5, 9, true⟩, List.mem_filter.2 ⟨List.mem_map.2 ⟨(x - 1).toNat, by simp; omega, ?_⟩, ?_⟩, rfl⟩
        · congr 1; omega
        · unfold inR
          simp
          exact ⟨q.1, q.2, h2, h3, h4⟩)
    rw [← this]
    simp
  have hall := filter_parts (inR l) (sentL K)
  rw [sentL_length, hlen] at hall
  refine ⟨e0, ?_, hlen, hin, ?_, by omega, by omega⟩
  · unfold ackL; rw [if_pos e0]; rfl
  · unfold lAck; rw [if_pos e0]; rfl
theorem again_ack (K : Nat) (l : List (Int × Int)) (hK : K ≤ 1000) (hl : ∀ x ∈ l, x.1 ≤ x.2 ∧ x.2 ≤ K) (h0 : ackE (sentG K) l = 0) : ackE (lAck (sentG K) l) l = 0 ∧ ackL (lAck (sentG K) l) l = [] ∧ (lAck (lAck (sentG K) l) l).op = (sentL K).filter (fun p => !inR l p) := by
  have hop : (lAck (sentG K) l).op = (sentL K).filter (fun p => !inR l p) := by unfold lAck; rw [if_pos h0]; rfl
  have hnx : (lAck (sentG K) l).nx = (sentG K).nx := by unfold lAck; rw [if_pos h0]
  have e0 : ackE (lAck (sentG K) l) l = 0 := by
    unfold ackE at h0 ⊢
    rw [hnx]
    exact h0
  refine ⟨e0, ?_, ?_⟩
  · unfold ackL
    rw [if_pos e0, hop, List.filter_filter]
    apply List.filter_eq_nil_iff.2
    intro p _
    cases inR l p <;> simp
  · have h1 : (lAck (lAck (sentG K) l) l).op = (lAck (sentG K) l).op.filter (fun p => !inR l p) := by
      show (if ackE (lAck (sentG K) l) l = 0 then _ else _ : LG).op = _
      rw [if_pos e0]
    rw [h1, hop, List.filter_filter]
    show (sentL K).filter _ = _
    congr 1
    funext p
    simp
end Go.Proofs.Ytfalnaagfndgfaa
