/-
  LossOnce: what the law's map says.
-/
import Derived.Test.YtfalnaagfndgfaaLossO
import Derived.Test.YtfalnaagfndgfaaMapC
import Derived.Test.YtfalnaagfndgfaaOpenLossOp
namespace Go.Proofs.Ytfalnaagfndgfaa
open Go.RowKit Go.Maps
set_option linter.unusedVariables false
set_option linter.unusedSimpArgs false
def nus (l : List PK) : List Int := l.map (·.nu)
/-- 1 for what is under way, 11 for all else that was sent. -/
def fc (S O : List Int) (x : Int) : Option Int := if x ∈ O then some 1 else if x ∈ S then some 11 else none
theorem fc_congr {S O O' : List Int} (h : ∀ x, x ∈ O ↔ x ∈ O') : fc S O = fc S O' := by
  funext x
  unfold fc
  by_cases hx : x ∈ O
  · rw [if_pos hx, if_pos ((h x).1 hx)]
  · rw [if_neg hx, if_neg (fun e => hx ((h x).2 e))]
theorem fc_none : fc [] [] = fun _ => none := by funext x; simp [fc]
theorem fc_send {S O : List Int} {x : Int} (hx : x ∉ S) (hO : ∀ y ∈ O, y ∈ S) : (fc S O x).getD 0 = 0 ∧ (fun y => if y = x then some 1 else fc S O y) = fc (S ++ [x]) (O ++ [x]) := by
  have hxo : x ∉ O := fun h => hx (hO x h)
  refine ⟨by unfold fc; rw [if_neg hxo, if_neg hx]; rfl, ?_⟩
  funext y
  by_cases hy : y = x
  · subst hy
    simp [fc]
  · rw [if_neg hy]
    simp [fc, hy]
theorem fc_gone {S O : List Int} {x : Int} (hx : x ∈ S) (hn : x ∉ O) : (fc S (x :: O) x).getD 0 = 1 ∧ (fun y => if y = x then some 11 else fc S (x :: O) y) = fc S O := by
  refine ⟨by simp [fc], ?_⟩
  funext y
  by_cases hy : y = x
  · subst hy
    simp [fc, hn, hx]
  · rw [if_neg hy]
    simp [fc, hy]
/-- What a call let go, and what it left. -/
def Parts (op G R : List PK) : Prop := ∃ p : PK → Bool, G = op.filter p ∧ R = op.filter (fun x => !p x)
theorem Parts.none (op : List PK) : Parts op [] op := ⟨fun _ => false, by simp, (List.filter_eq_self.2 (by simp)).symm⟩
theorem Parts.mem {op G R : List PK} (h : Parts op G R) (x : Int) : x ∈ nus op ↔ x ∈ nus R ++ nus G := by
  obtain ⟨p, rfl, rfl⟩ := h
  unfold nus
  rw [List.mem_append]
  simp only [List.mem_map, List.mem_filter]
  constructor
  · rintro ⟨a, h1, rfl⟩
    by_cases hp : p a = true
    · exact .inr ⟨a, ⟨h1, hp⟩, rfl⟩
    · exact .inl ⟨a, ⟨h1, by simpa using hp⟩, rfl⟩
  · rintro (⟨a, ⟨h1, _⟩, rfl⟩ | ⟨a, ⟨h1, _⟩, rfl⟩) <;> exact ⟨a, h1, rfl⟩
theorem nu_inj {op : List PK} (up : op.Pairwise (fun a b => a.nu < b.nu)) {a b : PK} (ha : a ∈ op) (hb : b ∈ op) (e : a.nu = b.nu) : a = b := by
  induction op with
  | nil => cases ha
  | cons c op ih =>
    rw [List.pairwise_cons] at up
    rcases List.mem_cons.1 ha with rfl | ha'
    · rcases List.mem_cons.1 hb with rfl | hb'
      · rfl
      · have := up.1 b hb'; omega
    · rcases List.mem_cons.1 hb with rfl | hb'
      · have := up.1 a ha'; omega
      · exact ih up.2 ha' hb'
theorem Parts.apart {op G R : List PK} (h : Parts op G R) (up : op.Pairwise (fun a b => a.nu < b.nu)) {k : Nat} {p : PK} (hx : G[k]? = some p) : p.nu ∉ nus R ++ nus (G.drop (k + 1)) := by
  intro hm
  rcases List.mem_append.1 hm with hm2 | hm2
  · obtain ⟨q, rfl, rfl⟩ := h
    obtain ⟨a, h1, h2⟩ := List.mem_map.1 hm2
    obtain ⟨h3, h4⟩ := List.mem_filter.1 h1
    obtain ⟨h5, h6⟩ := List.mem_filter.1 (List.mem_of_getElem? hx)
    have := nu_inj up h3 h5 h2
    subst this
    rw [h6] at h4
    cases h4
  · have hG : G.Pairwise (fun a b => a.nu < b.nu) := by
      obtain ⟨q, rfl, rfl⟩ := h
      exact up.sublist List.filter_sublist
    obtain ⟨a, h1, h2⟩ := List.mem_map.1 hm2
    obtain ⟨j, hj⟩ := List.mem_iff_getElem?.1 h1
    rw [List.getElem?_drop] at hj
    have h3 : ∀ (i j : Nat) (p q : PK), G[i]? = some p → G[j]? = some q → i < j → p.nu < q.nu := by
      intro i j p q hi hj hij
      have := List.pairwise_iff_getElem.1 hG
      obtain ⟨li, rfl⟩ := List.getElem?_eq_some_iff.1 hi
      obtain ⟨lj, rfl⟩ := List.getElem?_eq_some_iff.1 hj
      exact this i j li lj hij
    have := h3 k (k + 1 + j) p a hx hj (by omega)
    omega
theorem Parts.le {op G R : List PK} (h : Parts op G R) : G.length ≤ op.length ∧ R.length ≤ op.length := by
  obtain ⟨p, rfl, rfl⟩ := h
  exact ⟨List.length_filter_le _ _, List.length_filter_le _ _⟩
theorem drop_nus {G : List PK} {k : Nat} {p : PK} (hx : G[k]? = some p) (R : List PK) (x : Int) : x ∈ nus R ++ nus (G.drop k) ↔ x ∈ p.nu :: (nus R ++ nus (G.drop (k + 1))) := by
  have : G.drop k = p :: G.drop (k + 1) := by
    obtain ⟨hl, rfl⟩ := List.getElem?_eq_some_iff.1 hx
    exact List.drop_eq_getElem_cons hl
  rw [this]
  unfold nus
  simp only [List.map_cons, List.mem_append, List.mem_cons]
  constructor
  · rintro (h | h | h)
    · exact .inr (.inl h)
    · exact .inl h
    · exact .inr (.inr h)
  · rintro (h | h | h)
    · exact .inr (.inl h)
    · exact .inl h
    · exact .inr (.inr h)
theorem ack_parts (l : LG) (r : List (Int × Int)) : Parts l.op (ackL l r) (lAck l r).op := by
  unfold ackL lAck
  by_cases h : ackE l r = 0
  · rw [if_pos h, if_pos h]; exact ⟨inR r, rfl, rfl⟩
  · rw [if_neg h, if_neg h]; exact Parts.none _
/-- Of O so many are no longer to come. -/
def cntO (O : List Int) (left : Lit → Bool) : Nat := (O.filter (fun x => !left (.int .u64 x))).length
theorem cntO_in {O : List Int} {x : Int} {left : Lit → Bool} (hn : O.Nodup) (hm : x ∈ O) (hl : left (.int .u64 x) = true) : cntO O (fun z => left z && !z.sameKey (.int .u64 x)) = cntO O left + 1 := by
  unfold cntO
  induction O with
  | nil => cases hm
  | cons y O ih =>
    rw [List.nodup_cons] at hn
    by_cases hxy : y = x
    · subst hxy
      have h0 : ∀ z ∈ O, z ≠ y := fun z hz e => hn.1 (e ▸ hz)
      have h1 : O.filter (fun z => !(left (.int .u64 z) && !(Lit.int IntKind.u64 z).sameKey (.int .u64 y))) = O.filter (fun z => !left (.int .u64 z)) :=
        List.filter_congr fun z hz => by simp [Lit.sameKey, h0 z hz]
      rw [List.filter_cons_of_pos (by simp [Lit.sameKey]), List.filter_cons_of_neg (by simp [hl]), h1]
      simp
    · have hm2 : x ∈ O := by
        rcases List.mem_cons.1 hm with h | h
        · exact absurd h.symm hxy
        · exact h
      have := ih hn.2 hm2
      by_cases hy : left (.int .u64 y) = true
      · rw [List.filter_cons_of_neg (by simp [Lit.sameKey, hxy, hy]), List.filter_cons_of_neg (by simp [hy])]
        exact this
      · rw [List.filter_cons_of_pos (by simp [hy]), List.filter_cons_of_pos (by simp [hy])]
        simp only [List.length_cons]
        rw [this]
theorem cntO_out {O : List Int} {x : Int} {left : Lit → Bool} (hm : x ∉ O) : cntO O (fun z => left z && !z.sameKey (.int .u64 x)) = cntO O left := by
  unfold cntO
  congr 1
  refine List.filter_congr fun y hy => ?_
  have : y ≠ x := fun e => hm (e ▸ hy)
  simp [Lit.sameKey, this]
theorem cntO_start {O : List Int} {left : Lit → Bool} (h : ∀ x ∈ O, left (.int .u64 x) = true) : cntO O left = 0 := by
  unfold cntO
  rw [List.length_eq_zero_iff, List.filter_eq_nil_iff]
  intro x hx
  simp [h x hx]
theorem cntO_end {O : List Int} {left : Lit → Bool} (h : ∀ z, left z = false) : cntO O left = O.length := by
  unfold cntO
  rw [List.filter_eq_self.2]
  intro x hx
  simp [h]
theorem cntO_le (O : List Int) (left : Lit → Bool) : cntO O left ≤ O.length := List.length_filter_le _ _
end Go.Proofs.Ytfalnaagfndgfaa
