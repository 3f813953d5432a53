/-
  The reference's ledger beside the program's: what both say is the same.
-/
import Derived.Test.YtefhbiocddgijaaRLossG
import Derived.Test.YtefhbiocddgijaaLossL
import Derived.Test.YtefhbiocddgijaaLossV
namespace Go.Proofs.Ytefhbiocddgijaa
open Go.RowKit
set_option linter.unusedVariables false
set_option linter.unusedSimpArgs false
/-- What is under way, as the ledger has it. -/
def liveP (op : List RPk) : List PK := (op.filter live).map pkOf
structure Alike (x : RG) (l : LG) : Prop where
  op : l.op = liveP x.op
  nx : l.nx = x.nx
  ak : l.ak = x.ak
  hs : l.hs = x.hs
theorem took_P {op : List RPk} {G : RPk → Bool} {G' : PK → Bool} (h : ∀ p ∈ op, G p = (live p && G' (pkOf p))) : (op.filter G).map pkOf = (liveP op).filter G' := by
  unfold liveP
  induction op with
  | nil => rfl
  | cons p op ih =>
    have hp := h p (by simp)
    have ih := ih (fun q hq => h q (by simp [hq]))
    cases h1 : live p <;> cases h2 : G' (pkOf p) <;> rw [h1, h2] at hp <;> simp [List.filter_cons, hp, h1, h2] <;> simpa using ih
theorem left_P {op : List RPk} {G : RPk → Bool} {G' : PK → Bool} (h : ∀ p ∈ op, G p = (live p && G' (pkOf p))) : liveP (op.map (markG G)) = (liveP op).filter (fun q => !G' q) := by
  unfold liveP
  induction op with
  | nil => rfl
  | cons p op ih =>
    have hp := h p (by simp)
    have ih := ih (fun q hq => h q (by simp [hq]))
    rw [List.map_cons]
    cases h1 : live p <;> cases h2 : G' (pkOf p) <;> rw [h1, h2] at hp
    · have e : live (markG G p) = false := by unfold markG; rw [hp]; simpa using h1
      simp [List.filter_cons, e, h1]; simpa using ih
    · have e : live (markG G p) = false := by unfold markG; rw [hp]; simpa using h1
      simp [List.filter_cons, e, h1]; simpa using ih
    · have e : markG G p = p := by unfold markG; rw [hp]; rfl
      simp [List.filter_cons, e, h1, h2]; simpa using ih
    · have e : live (markG G p) = false := by unfold markG; rw [hp]; rfl
      simp [List.filter_cons, e, h1, h2]; simpa using ih
theorem ga_P (r : List (Int × Int)) (p : RPk) : GA r p = (live p && inR r (pkOf p)) := rfl
theorem gl_P {x : RG} {l : LG} (h : Alike x l) (ok : LgOk l) (now wait : Int) {p : RPk} (hp : 0 ≤ p.nu) : GL x now wait p = (live p && lostP l now wait (pkOf p)) := by
  unfold GL lostP live pkOf
  simp only
  rw [h.ak]
  cases hs : x.hs with
  | true =>
    cases p.go <;> simp [Bool.or_comm]
  | false =>
    have h0 := ok.no (h.hs.trans hs)
    rw [h.ak] at h0
    have : ¬ p.nu < x.ak := by omega
    simp [this]
theorem ackR_P {x : RG} {l : LG} (h : Alike x l) (r : List (Int × Int)) : ackR x r = ackE l r := by
  unfold ackR ackE
  rw [h.nx]
theorem topF_P {x : RG} {l : LG} (h : Alike x l) (ok : LgOk l) : ∀ (r : List (Int × Int)), (∀ y ∈ r, 0 ≤ y.2) → topF x r = (topR l.ak r, l.hs || !r.isEmpty) := by
  have gen : ∀ (r : List (Int × Int)) (a : Int) (s : Bool), (s = false → a = 0) → (∀ y ∈ r, 0 ≤ y.2) → r.foldl topStep (a, s) = (topR a r, s || !r.isEmpty) := by
    intro r
    induction r with
    | nil => intro a s _ _; simp [topR]
    | cons y r ih =>
      intro a s hs hr
      have hy := hr y (by simp)
      rw [List.foldl_cons]
      by_cases hc : s = false ∨ a < y.2
      · have e0 : topStep (a, s) y = (y.2, true) := if_pos hc
        rw [e0, ih _ _ (fun e => by cases e) (fun z hz => hr z (by simp [hz]))]
        have e : max a y.2 = y.2 := by
          rcases hc with h1 | h1
          · have := hs h1; omega
          · omega
        simp [topR, e]
      · have e0 : topStep (a, s) y = (a, s) := if_neg hc
        rw [e0, ih _ _ hs (fun z hz => hr z (by simp [hz]))]
        have h1 : s = true := by cases s <;> simp_all
        have e : max a y.2 = a := by have : ¬ a < y.2 := fun h => hc (.inr h); omega
        subst h1
        simp [topR, e]
  intro r hr
  unfold topF
  rw [gen r x.ak x.hs (fun e => by rw [← h.ak]; exact ok.no (h.hs.trans e)) hr, h.ak, h.hs]
theorem Alike.ack {x : RG} {l : LG} (h : Alike x l) (ok : LgOk l) (r : List (Int × Int)) (hr : ∀ y ∈ r, 0 ≤ y.2) (he : ackE l r = 0) : Alike (rAck x r) (lAck l r) ∧ (x.op.filter (GA r)).map pkOf = ackL l r := by
  have hG : ∀ p ∈ x.op, GA r p = (live p && inR r (pkOf p)) := fun p _ => ga_P r p
  have e := topF_P h ok r hr
  unfold lAck ackL
  rw [if_pos he, if_pos he]
  refine ⟨⟨?_, h.nx, ?_, ?_⟩, ?_⟩
  · show _ = liveP (x.op.map (markG (GA r)))
    rw [left_P hG, ← h.op]
  · show _ = (topF x r).1
    rw [e]
  · show _ = (topF x r).2
    rw [e]
  · rw [took_P hG, ← h.op]
theorem Alike.lost {x : RG} {l : LG} (h : Alike x l) (ok : LgOk l) (now wait : Int) (hx : ∀ p ∈ x.op, 0 ≤ p.nu) : Alike ⟨x.op.map (markG (GL x now wait)), x.nx, x.ak, x.hs⟩ (lLost l now wait) ∧ (x.op.filter (GL x now wait)).map pkOf = l.op.filter (lostP l now wait) := by
  have hG : ∀ p ∈ x.op, GL x now wait p = (live p && lostP l now wait (pkOf p)) := fun p hp => gl_P h ok now wait (hx p hp)
  refine ⟨⟨?_, h.nx, h.ak, h.hs⟩, ?_⟩
  · show l.op.filter (fun p => !lostP l now wait p) = liveP (x.op.map (markG (GL x now wait)))
    rw [left_P hG, ← h.op]
  · rw [took_P hG, ← h.op]
theorem Alike.clear {x : RG} {l : LG} (h : Alike x l) : Alike ⟨x.op.map mkR, x.nx, x.ak, x.hs⟩ ⟨[], l.nx, l.ak, l.hs⟩ ∧ (x.op.filter live).map pkOf = l.op := by
  refine ⟨⟨?_, h.nx, h.ak, h.hs⟩, h.op.symm⟩
  show [] = liveP (x.op.map mkR)
  unfold liveP
  rw [List.filter_eq_nil_iff.2 (fun p hp => by obtain ⟨q, _, rfl⟩ := List.mem_map.1 hp; simp [live, mkR])]
  rfl
theorem Alike.sent {x : RG} {l : LG} (h : Alike x l) {p : RPk} (hg : p.go = false) (he : sendE l (pkOf p) = 0) : Alike ⟨x.op ++ [p], p.nu + 1, x.ak, x.hs⟩ (lSend l (pkOf p)) := by
  unfold lSend
  rw [if_pos he]
  refine ⟨?_, rfl, h.ak, h.hs⟩
  show l.op ++ [pkOf p] = liveP (x.op ++ [p])
  unfold liveP
  rw [List.filter_append, List.map_append, h.op]
  simp [live, hg, liveP]
/-- The first of the fold: what it says when nothing is low. -/
theorem due_gen (x : RG) (W : Int) (hs : x.hs = true) : ∀ (ps : List RPk) (m : PK), ps.foldl (dueStep x W) (m.se + W, true) = ((minP m ((ps.map pkOf).filter (fun p => decide (p.nu < x.ak)))).se + W, true) := by
  intro ps
  induction ps with
  | nil => intro m; rfl
  | cons p ps ih =>
    intro m
    rw [List.foldl_cons, List.map_cons]
    by_cases h1 : p.nu < x.ak
    · rw [List.filter_cons_of_pos (p := fun q : PK => decide (q.nu < x.ak)) (decide_eq_true (p := (pkOf p).nu < x.ak) h1)]
      by_cases h2 : p.se < m.se
      · have e0 : dueStep x W (m.se + W, true) p = ((pkOf p).se + W, true) := if_pos ⟨hs, h1, .inr (by simp only; omega)⟩
        rw [e0, ih (pkOf p)]
        have e2 : minP m (pkOf p :: (ps.map pkOf).filter (fun p => decide (p.nu < x.ak))) = minP (pkOf p) ((ps.map pkOf).filter (fun p => decide (p.nu < x.ak))) := by
          unfold minP
          rw [List.foldl_cons, if_pos (show (pkOf p).se < m.se from h2)]
        rw [e2]
      · have e0 : dueStep x W (m.se + W, true) p = (m.se + W, true) := if_neg (by rintro ⟨_, _, h3⟩; rcases h3 with h3 | h3 <;> simp at h3; omega)
        rw [e0, ih m]
        have e2 : minP m (pkOf p :: (ps.map pkOf).filter (fun p => decide (p.nu < x.ak))) = minP m ((ps.map pkOf).filter (fun p => decide (p.nu < x.ak))) := by
          unfold minP
          rw [List.foldl_cons, if_neg (show ¬ (pkOf p).se < m.se from h2)]
        rw [e2]
    · rw [List.filter_cons_of_neg (p := fun q : PK => decide (q.nu < x.ak)) (by show ¬ decide ((pkOf p).nu < x.ak) = true; rw [decide_eq_false (p := (pkOf p).nu < x.ak) h1]; simp)]
      have e0 : dueStep x W (m.se + W, true) p = (m.se + W, true) := if_neg (fun h => h1 h.2.1)
      rw [e0, ih m]
theorem due_start (x : RG) (W : Int) (hs : x.hs = true) : ∀ (ps : List RPk), ps.foldl (dueStep x W) (0, false) = (match (ps.map pkOf).filter (fun p => decide (p.nu < x.ak)) with
    | [] => (0, false)
    | p :: L => ((minP p L).se + W, true)) := by
  intro ps
  induction ps with
  | nil => rfl
  | cons p ps ih =>
    rw [List.foldl_cons, List.map_cons]
    by_cases h1 : p.nu < x.ak
    · rw [List.filter_cons_of_pos (p := fun q : PK => decide (q.nu < x.ak)) (decide_eq_true (p := (pkOf p).nu < x.ak) h1)]
      have e0 : dueStep x W (0, false) p = ((pkOf p).se + W, true) := if_pos ⟨hs, h1, .inl rfl⟩
      rw [e0, due_gen x W hs]
    · rw [List.filter_cons_of_neg (p := fun q : PK => decide (q.nu < x.ak)) (by show ¬ decide ((pkOf p).nu < x.ak) = true; rw [decide_eq_false (p := (pkOf p).nu < x.ak) h1]; simp)]
      have e0 : dueStep x W (0, false) p = (0, false) := if_neg (fun h => h1 h.2.1)
      rw [e0]
      exact ih
theorem due_no (x : RG) (W : Int) (hs : x.hs = false) : ∀ (ps : List RPk) (s : Int × Bool), ps.foldl (dueStep x W) s = s := by
  intro ps
  induction ps with
  | nil => intro s; rfl
  | cons p ps ih =>
    intro s
    rw [List.foldl_cons]
    have e0 : dueStep x W s p = s := if_neg (fun h => by rw [hs] at h; cases h.1)
    rw [e0]
    exact ih s
theorem Alike.due {x : RG} {l : LG} (h : Alike x l) (ok : LgOk l) (wait : Int) : dueR x (min wait 4611686018427387903) = dueN l wait := by
  unfold dueR dueN lowL
  rw [h.op]
  cases hs : x.hs with
  | true =>
    rw [due_start x _ hs]
    unfold liveP
    rw [h.ak]
    rfl
  | false =>
    rw [due_no x _ hs]
    have h0 := ok.no (h.hs.trans hs)
    have e : (liveP x.op).filter (fun p => decide (p.nu < l.ak)) = [] := by
      rw [List.filter_eq_nil_iff]
      intro p hp
      rw [← h.op] at hp
      have := (ok.pk p hp).1
      unfold PkOk at this
      simp
      omega
    rw [e]
end Go.Proofs.Ytefhbiocddgijaa
