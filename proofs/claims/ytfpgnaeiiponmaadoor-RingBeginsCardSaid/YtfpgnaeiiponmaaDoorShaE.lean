import Derived.Test.YtfpgnaeiiponmaaDoorShaD
namespace Go.Proofs.YtfpgnaeiiponmaaDoor
open Go.RowKit
set_option linter.unusedVariables false

/-- The state behind k whole blocks of m. -/
def eat : Nat → St → List Int → St
  | 0, s, _ => s
  | k + 1, s, m => eat k (compr s (sch (m.take 64) 64)) (m.drop 64)
theorem eat_last : ∀ (k : Nat) (s : St) (m : List Int), eat (k + 1) s m = compr (eat k s m) (sch ((m.drop (64 * k)).take 64) 64)
  | 0, s, m => by simp [eat]
  | k + 1, s, m => by
    have h := eat_last k (compr s (sch (m.take 64) 64)) (m.drop 64)
    rw [List.drop_drop, show 64 + 64 * k = 64 * (k + 1) by omega] at h
    exact h
theorem eat_more : ∀ (k : Nat) (s : St) (m c : List Int), 64 * k ≤ m.length → eat k s (m ++ c) = eat k s m
  | 0, s, m, c, _ => rfl
  | k + 1, s, m, c, h => by
    rw [eat, eat, List.take_append_of_le_length (by omega), List.drop_append_of_le_length (by omega)]
    exact eat_more k _ _ c (by rw [List.length_drop]; omega)
theorem eat_ok : ∀ (k : Nat) (s : St) (m : List Int), s.ok → Bytes m → (eat k s m).ok
  | 0, s, m, h, _ => h
  | k + 1, s, m, h, hm => eat_ok k _ _ (compr_ok s _) (fun x hx => hm x (List.mem_of_mem_drop hx))

/-- The digest holds the message m, begun at s. -/
def Hs (w : World) (g : Nat) (s : St) (m : List Int) (total : Int) : Prop :=
  s.ok ∧ Bytes m ∧ ∃ blk, Dg w g (eat (m.length / 64) s m).list blk ((m.length % 64 : Nat) : Int) total ∧ Bytes blk ∧ blk.take (m.length % 64) = m.drop (64 * (m.length / 64))
theorem Hs.below {w w' : World} {g B : Nat} {s : St} {m : List Int} {total : Int} (h : Hs w g s m total) (hb : Below B w w') (hg : g < B) : Hs w' g s m total := by
  obtain ⟨h1, h2, blk, h3, h4⟩ := h
  exact ⟨h1, h2, blk, h3.below hb hg, h4⟩
theorem put_bytes {blk cs : List Int} (o : Nat) (hb : Bytes blk) (hc : Bytes cs) : Bytes (blk.take o ++ cs ++ blk.drop (o + cs.length)) := by
  intro x hx
  simp only [List.mem_append] at hx
  rcases hx with (hx | hx) | hx
  · exact hb x (List.mem_of_mem_take hx)
  · exact hc x hx
  · exact hb x (List.mem_of_mem_drop hx)
theorem tail_put {m cs blk : List Int} (hl : blk.length = 64) (ht : blk.take (m.length % 64) = m.drop (64 * (m.length / 64))) (hn : m.length % 64 + cs.length ≤ 64) :
    (blk.take (m.length % 64) ++ cs ++ blk.drop (m.length % 64 + cs.length)).take (m.length % 64 + cs.length) = (m ++ cs).drop (64 * (m.length / 64)) := by
  have h1 : (blk.take (m.length % 64) ++ cs).length = m.length % 64 + cs.length := by simp; omega
  rw [List.take_append_of_le_length (by omega), List.take_of_length_le (by omega), List.drop_append_of_le_length (by omega), ht]
/-- Fewer bytes than fill the block. -/
theorem Hs.part {w : World} {g : Nat} {s : St} {m cs blk : List Int} {total : Int} (h1 : s.ok) (h2 : Bytes m) (hc : Bytes cs) (hbl : blk.length = 64) (hb : Bytes blk) (ht : blk.take (m.length % 64) = m.drop (64 * (m.length / 64)))
    (hn : m.length % 64 + cs.length < 64) (hd : Dg w g (eat (m.length / 64) s m).list (blk.take (m.length % 64) ++ cs ++ blk.drop (m.length % 64 + cs.length)) ((m.length % 64 + cs.length : Nat) : Int) total) : Hs w g s (m ++ cs) total := by
  have e1 : (m ++ cs).length / 64 = m.length / 64 := by rw [List.length_append]; omega
  have e2 : (m ++ cs).length % 64 = m.length % 64 + cs.length := by rw [List.length_append]; omega
  refine ⟨h1, fun x hx => (List.mem_append.mp hx).elim (h2 x) (hc x), _, ?_, put_bytes (m.length % 64) hb hc, ?_⟩
  · rw [e1, e2, eat_more _ _ _ _ (by omega)]
    exact hd
  · rw [e1, e2]
    exact tail_put hbl ht (by omega)
/-- The block is full, and mixed in. -/
theorem Hs.full {w : World} {g : Nat} {s : St} {m cs blk : List Int} {total : Int} (h1 : s.ok) (h2 : Bytes m) (hc : Bytes cs) (hbl : blk.length = 64) (hb : Bytes blk) (ht : blk.take (m.length % 64) = m.drop (64 * (m.length / 64)))
    (hn : m.length % 64 + cs.length = 64)
    (hd : Dg w g (compr (eat (m.length / 64) s m) (sch (blk.take (m.length % 64) ++ cs ++ blk.drop (m.length % 64 + cs.length)) 64)).list (blk.take (m.length % 64) ++ cs ++ blk.drop (m.length % 64 + cs.length)) 0 total) : Hs w g s (m ++ cs) total := by
  have e1 : (m ++ cs).length / 64 = m.length / 64 + 1 := by rw [List.length_append]; omega
  have e2 : (m ++ cs).length % 64 = 0 := by rw [List.length_append]; omega
  have hp := tail_put (cs := cs) hbl ht (by omega)
  have hl : (blk.take (m.length % 64) ++ cs ++ blk.drop (m.length % 64 + cs.length)).length = 64 := by simp; omega
  rw [List.take_of_length_le (Nat.le_of_eq (hl.trans hn.symm))] at hp
  refine ⟨h1, fun x hx => (List.mem_append.mp hx).elim (h2 x) (hc x), _, ?_, put_bytes (m.length % 64) hb hc, ?_⟩
  · rw [e1, e2, eat_last, eat_more _ _ _ _ (by omega)]
    have e3 : ((m ++ cs).drop (64 * (m.length / 64))).take 64 = blk.take (m.length % 64) ++ cs ++ blk.drop (m.length % 64 + cs.length) := by
      rw [← hp, List.take_of_length_le (Nat.le_of_eq hl)]
    rw [e3]
    exact hd
  · rw [e1, e2, List.take_zero, List.drop_of_length_le (by rw [List.length_append]; omega)]
end Go.Proofs.YtfpgnaeiiponmaaDoor
