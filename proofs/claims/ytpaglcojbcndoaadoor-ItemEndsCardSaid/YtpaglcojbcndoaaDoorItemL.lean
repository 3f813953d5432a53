/-
  item.Reader by value: what Put takes from the bytes; pure.
-/
import Derived.Test.YtpaglcojbcndoaaDoorItemJ
namespace Go.Proofs.YtpaglcojbcndoaaDoor
open Go.RowKit
set_option linter.unusedVariables false
set_option linter.unusedSimpArgs false
/-- A stream's head. -/
structure IH where
  fe : Bool
  id : Int
  gr : Int
  pr : Int
/-- The reader by value. -/
structure IRd where
  h : IH
  begun : Bool
  lg : Int
  lo : Int
  some_ : Bool
  over : Bool
  held : List Int
def ird0 : IRd := ⟨⟨false, 0, 0, 0⟩, false, 0, 0, false, false, []⟩
def ihC (h : IH) : Array Value := #[.bool h.fe, .int .u64 h.id, .int .u64 h.gr, .int .u8 h.pr]
def irdC (s : IRd) (A : Option Addr) (c : Nat) : Array Value :=
  #[.bool s.h.fe, .int .u64 s.h.id, .int .u64 s.h.gr, .int .u8 s.h.pr, .bool s.begun, .int .u64 s.lg, .int .u64 s.lo, .bool s.some_, .bool s.over, .slice A s.held.length c]
def IRd.hd (s : IRd) (h : IH) : IRd := { s with h := h, begun := true }
def IRd.aft (s : IRd) (o : OV) : IRd := { s with lg := o.grp, lo := o.obj, some_ := true }
/-- The front of a stream, and what stands behind; or the error. -/
def pBegin (p : List Int) : Except Int (IH × List Int) :=
  match pnum p with
  | none => .error 2
  | some (m, q1) =>
    if m = 5 then match pnum q1 with
      | none => .error 2
      | some (id, q2) => .ok (⟨true, id, 0, 0⟩, q2)
    else if m = 16 then match pnum q1 with
      | none => .error 2
      | some (id, q2) => match pnum q2 with
        | none => .error 2
        | some (gr, q3) => match q3 with
          | [] => .error 2
          | x :: r => .ok (⟨false, id, gr, x⟩, r)
    else .error 4
def lessI (a b c d : Int) : Bool := if a = c then decide (b < d) else decide (a < c)
def pText (q : List Int) : Except Int (List Int × List Int) :=
  if rdS q = 0 then .error 2
  else if 2048 < rdN q then .error 4
  else if ((q.drop (rdS q)).length : Int) < rdN q then .error 2
  else .ok ((q.drop (rdS q)).take (rdN q).toNat, (q.drop (rdS q)).drop (rdN q).toNat)
def pTail (s : IRd) (gr ob pr : Int) (q : List Int) : Except Int (OV × List Int) :=
  if (!s.some_ || lessI s.lg s.lo gr ob) = true then
    match pText q with
    | .error e => .error e
    | .ok (d, r) => .ok (⟨gr, ob, pr, false, d⟩, r)
  else .error 4
def pObj (s : IRd) (p : List Int) : Except Int (OV × List Int) :=
  if s.h.fe then
    match pnum p with
    | none => .error 2
    | some (gr, q1) => match pnum q1 with
      | none => .error 2
      | some (ob, q2) => match q2 with
        | [] => .error 2
        | x :: q3 => pTail s gr ob x q3
  else
    match pnum p with
    | none => .error 2
    | some (ob, q1) => pTail s s.h.gr ob s.h.pr q1
/-- All that stands there, as far as it goes: the reader behind it, the objects, what is left, the error. -/
def pRun : Nat → IRd → List Int → IRd × List OV × List Int × Int
  | 0, s, p => (s, [], p, 0)
  | n + 1, s, p =>
    if s.begun then
      match p with
      | [] => (s, [], [], 0)
      | x :: t => match pObj s (x :: t) with
        | .error e => (s, [], x :: t, e)
        | .ok (o, q) => ((pRun n (s.aft o) q).1, o :: (pRun n (s.aft o) q).2.1, (pRun n (s.aft o) q).2.2)
    else match pBegin p with
      | .error e => (s, [], p, e)
      | .ok (h, q) => pRun n (s.hd h) q
def glue (l : List OV) (r : IRd × List OV × List Int × Int) : IRd × List OV × List Int × Int := (r.1, l ++ r.2.1, r.2.2)
def settleE (e : Int) (en : Bool) : Int := if e = 2 then (if en then 4 else 0) else e
def settleS (s : IRd) (left : List Int) (e : Int) (en : Bool) : IRd :=
  if e = 2 ∧ en = false then { s with held := left } else { s with over := en || decide (settleE e en ≠ 0), held := [] }
/-- What Put does. -/
def putR (s : IRd) (p : List Int) : IRd × List OV × List Int × Int := pRun ((s.held ++ p).length + 5) s (s.held ++ p)
theorem glue_nil (r : IRd × List OV × List Int × Int) : glue [] r = r := rfl
theorem pRun_obj {n : Nat} {s : IRd} {x : Int} {t q : List Int} {o : OV} {l : List OV} (hb : s.begun = true) (h : pObj s (x :: t) = .ok (o, q)) : glue l (pRun (n + 1) s (x :: t)) = glue (l ++ [o]) (pRun n (s.aft o) q) := by
  simp only [pRun, hb, if_true, h, glue, List.append_assoc, List.cons_append, List.nil_append]
theorem pRun_objE {n : Nat} {s : IRd} {x e : Int} {t : List Int} {l : List OV} (hb : s.begun = true) (h : pObj s (x :: t) = .error e) : glue l (pRun (n + 1) s (x :: t)) = (s, l, x :: t, e) := by
  simp only [pRun, hb, if_true, h, glue, List.append_nil]
theorem pRun_hd {n : Nat} {s : IRd} {p q : List Int} {h' : IH} {l : List OV} (hb : s.begun = false) (h : pBegin p = .ok (h', q)) : glue l (pRun (n + 1) s p) = glue l (pRun n (s.hd h') q) := by
  simp only [pRun, hb, Bool.false_eq_true, if_false, h]
theorem pRun_hdE {n : Nat} {s : IRd} {e : Int} {p : List Int} {l : List OV} (hb : s.begun = false) (h : pBegin p = .error e) : glue l (pRun (n + 1) s p) = (s, l, p, e) := by
  simp only [pRun, hb, Bool.false_eq_true, if_false, h, glue, List.append_nil]
theorem pRun_end {n : Nat} {s : IRd} {l : List OV} (hb : s.begun = true) : glue l (pRun (n + 1) s []) = (s, l, [], 0) := by
  simp only [pRun, hb, if_true, glue, List.append_nil]
theorem pnum_lt {p q : List Int} {n : Int} (h : pnum p = some (n, q)) : q.length < p.length := by
  obtain ⟨h0, _, rfl⟩ := pnum_some h
  have := rdS_le p
  rw [List.length_drop]
  omega
theorem pBegin_lt {p q : List Int} {h' : IH} (h : pBegin p = .ok (h', q)) : q.length < p.length := by
  unfold pBegin at h
  split at h
  · cases h
  · rename_i m q1 h1
    have l1 := pnum_lt h1
    split at h
    · split at h
      · cases h
      · rename_i id q2 h2
        have l2 := pnum_lt h2
        injection h with h
        injection h with _ h
        subst h
        omega
    · split at h
      · split at h
        · cases h
        · rename_i id q2 h2
          have l2 := pnum_lt h2
          split at h
          · cases h
          · rename_i gr q3 h3
            have l3 := pnum_lt h3
            split at h
            · cases h
            · rename_i x r
              injection h with h
              injection h with _ h
              subst h
              simp only [List.length_cons] at l3
              omega
      · cases h
theorem pText_le {q d r : List Int} (h : pText q = .ok (d, r)) : r.length ≤ q.length := by
  unfold pText at h
  split at h
  · cases h
  · split at h
    · cases h
    · split at h
      · cases h
      · injection h with h
        injection h with _ h
        subst h
        simp only [List.length_drop]
        omega
theorem pTail_le {s : IRd} {gr ob pr : Int} {q r : List Int} {o : OV} (h : pTail s gr ob pr q = .ok (o, r)) : r.length ≤ q.length := by
  unfold pTail at h
  split at h
  · split at h
    · cases h
    · rename_i d r' hd
      injection h with h
      injection h with _ h
      subst h
      exact pText_le hd
  · cases h
theorem pObj_lt {s : IRd} {p q : List Int} {o : OV} (h : pObj s p = .ok (o, q)) : q.length < p.length := by
  unfold pObj at h
  split at h
  · split at h
    · cases h
    · rename_i gr q1 h1
      have l1 := pnum_lt h1
      split at h
      · cases h
      · rename_i ob q2 h2
        have l2 := pnum_lt h2
        split at h
        · cases h
        · rename_i x q3
          have := pTail_le h
          simp only [List.length_cons] at l2
          omega
  · split at h
    · cases h
    · rename_i ob q1 h1
      have l1 := pnum_lt h1
      have := pTail_le h
      omega
theorem pText_enc {d : List Int} (hd : d.length ≤ 2048) (X : List Int) : pText (vtext d ++ X) = .ok (d, X) := by
  have hp := pnum_venc (n := (d.length : Int)) ⟨by omega, by omega⟩ (d ++ X)
  have e : vtext d ++ X = venc (d.length : Int) ++ (d ++ X) := by simp [vtext]
  obtain ⟨h0, h1, h2⟩ := pnum_some hp
  unfold pText
  rw [e, if_neg h0, h1, if_neg (by omega), h2, if_neg (by simp; omega)]
  simp
end Go.Proofs.YtpaglcojbcndoaaDoor
