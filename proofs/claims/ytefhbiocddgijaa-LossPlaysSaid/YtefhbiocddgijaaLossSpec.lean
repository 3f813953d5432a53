/-
  Packets in flight, as plain values.
-/
import Derived.Test.YtefhbiocddgijaaFlat
namespace Go.Proofs.Ytefhbiocddgijaa
open Go.RowKit
set_option linter.unusedVariables false

structure PK where
  nu : Int
  se : Int
  si : Int
  aq : Bool
def PkC (p : PK) : List Value := [.int .u64 p.nu, .int .u64 p.se, .int .i64 p.si, .bool p.aq]
theorem PkC_len (p : PK) : (PkC p).length = 4 := rfl
theorem PkC_one (p : PK) : ∀ u ∈ PkC p, u.oneCell' = true := by
  intro u hu
  simp [PkC] at hu
  rcases hu with rfl | rfl | rfl | rfl <;> rfl
/-- A packet that can be sent. -/
def PkOk (p : PK) : Prop := 0 ≤ p.nu ∧ p.nu ≤ 4611686018427387903 ∧ 0 ≤ p.se ∧ p.se ≤ 4611686018427387903 ∧ 0 ≤ p.si ∧ p.si ≤ 9223372036854775807
structure LG where
  op : List PK
  nx : Int
  ak : Int
  hs : Bool
structure LgOk (g : LG) : Prop where
  pk : ∀ p ∈ g.op, PkOk p ∧ p.nu < g.nx
  up : g.op.Pairwise (fun a b => a.nu < b.nu)
  nx0 : 0 ≤ g.nx
  nx1 : g.nx ≤ 4611686018427387904
  ak0 : 0 ≤ g.ak
  ak1 : g.ak ≤ 4611686018427387903
  no : g.hs = false → g.ak = 0
def lgN : LG := ⟨[], 0, 0, false⟩
theorem lgN_ok : LgOk lgN := ⟨(fun _ h => by cases h), List.Pairwise.nil, by decide, by decide, by decide, by decide, fun _ => rfl⟩
/-- Send's code. -/
def sendE (g : LG) (p : PK) : Int := if p.si < 0 ∨ 4611686018427387903 < p.nu ∨ 4611686018427387903 < p.se then 1 else if p.nu < g.nx then 4 else 0
def lSend (g : LG) (p : PK) : LG := if sendE g p = 0 then ⟨g.op ++ [p], p.nu + 1, g.ak, g.hs⟩ else g
theorem lSend_ok {g : LG} {p : PK} (h : LgOk g) (hn : 0 ≤ p.nu) (hs : 0 ≤ p.se) (hm : p.si ≤ 9223372036854775807) : LgOk (lSend g p) := by
  unfold lSend
  split
  · rename_i he
    unfold sendE at he
    split at he
    · omega
    · rename_i h1
      split at he
      · omega
      · rename_i h2
        refine ⟨fun q hq => ?_, ?_, by have := h.nx0; simp only; omega, by simp only; omega, h.ak0, h.ak1, h.no⟩
        · rcases List.mem_append.1 hq with hq | hq
          · obtain ⟨a, b⟩ := h.pk q hq
            exact ⟨a, by simp only; omega⟩
          · simp at hq; subst hq
            exact ⟨⟨hn, by omega, hs, by omega, by omega, hm⟩, by simp only; omega⟩
        · refine List.pairwise_append.2 ⟨h.up, by simp, fun a ha b hb => ?_⟩
          simp at hb; subst hb
          have := (h.pk a ha).2
          omega
  · exact h
/-- What a filter leaves. -/
theorem lgOp_ok {g : LG} (h : LgOk g) (f : PK → Bool) : LgOk ⟨g.op.filter f, g.nx, g.ak, g.hs⟩ :=
  ⟨fun p hp => h.pk p (List.mem_filter.1 hp).1, h.up.filter f, h.nx0, h.nx1, h.ak0, h.ak1, h.no⟩
def inR (r : List (Int × Int)) (p : PK) : Bool := r.any fun x => decide (x.1 ≤ p.nu) && decide (p.nu ≤ x.2)
def ackE (g : LG) (r : List (Int × Int)) : Int := if r.any (fun x => decide (x.2 < x.1)) then 4 else if r.any (fun x => decide (g.nx ≤ x.2)) then 1 else 0
def topR (a : Int) (r : List (Int × Int)) : Int := r.foldl (fun a x => max a x.2) a
def lAck (g : LG) (r : List (Int × Int)) : LG := if ackE g r = 0 then ⟨g.op.filter (fun p => !inR r p), g.nx, topR g.ak r, g.hs || !r.isEmpty⟩ else g
def ackL (g : LG) (r : List (Int × Int)) : List PK := if ackE g r = 0 then g.op.filter (inR r) else []
theorem topR_ge (r : List (Int × Int)) : ∀ a, a ≤ topR a r := by
  induction r with
  | nil => intro a; exact Int.le_refl _
  | cons x r ih => intro a; exact Int.le_trans (by omega) (ih (max a x.2))
theorem topR_le (r : List (Int × Int)) : ∀ a B, a ≤ B → (∀ x ∈ r, x.2 ≤ B) → topR a r ≤ B := by
  induction r with
  | nil => intro a B h _; exact h
  | cons x r ih => intro a B h hr; exact ih (max a x.2) B (by have := hr x (by simp); omega) (fun y hy => hr y (by simp [hy]))
theorem ackE_0 {g : LG} {r : List (Int × Int)} (h : ackE g r = 0) : (∀ x ∈ r, x.1 ≤ x.2) ∧ ∀ x ∈ r, x.2 < g.nx := by
  unfold ackE at h
  split at h
  · omega
  · rename_i h1
    split at h
    · omega
    · rename_i h2
      simp at h1 h2
      exact ⟨fun x hx => by have := h1 x.1 x.2 hx; omega, fun x hx => by have := h2 x.1 x.2 hx; omega⟩
theorem lAck_ok {g : LG} {r : List (Int × Int)} (h : LgOk g) : LgOk (lAck g r) := by
  unfold lAck
  split
  · rename_i he
    obtain ⟨h1, h2⟩ := ackE_0 he
    refine ⟨fun p hp => h.pk p (List.mem_filter.1 hp).1, h.up.filter _, h.nx0, h.nx1, Int.le_trans h.ak0 (topR_ge r _), topR_le r _ _ h.ak1 (fun x hx => by have := h2 x hx; have := h.nx1; omega), fun hs => ?_⟩
    simp at hs
    have hr : r = [] := by simpa using hs.2
    subst hr
    exact h.no hs.1
  · exact h
def lostP (g : LG) (now wait : Int) (p : PK) : Bool := decide (p.nu < g.ak) && ((decide (p.se ≤ now) && decide (wait ≤ now - p.se)) || decide (3 ≤ g.ak - p.nu))
def lLost (g : LG) (now wait : Int) : LG := ⟨g.op.filter (fun p => !lostP g now wait p), g.nx, g.ak, g.hs⟩
theorem lLost_ok {g : LG} (now wait : Int) (h : LgOk g) : LgOk (lLost g now wait) := lgOp_ok h _
end Go.Proofs.Ytefhbiocddgijaa
