/-
  The item reader's object, for every input.
-/
import Derived.Test.YtpaglcojbcndoaaDoorItemO2
import Derived.Deep.DeepCutAuto
import Derived.Deep.CutBlock
import Derived.Deep.RegionHeld
namespace Go.Proofs.YtpaglcojbcndoaaDoor
open Go.RowKit
set_option linter.unusedVariables false
set_option linter.unusedSimpArgs false
theorem LessI_any (a b c d : Int) (w : World) : Calls Tryd.prog 55 #[.agg #[.int .u64 a, .int .u64 b], .agg #[.int .u64 c, .int .u64 d]] w fun r w' => r = .returned (.bool (lessI a b c d)) ∧ Below w.heap.size w w' := by
  by_cases h : a = c
  · subst h
    have h2 : lessI a b a d = decide (b < d) := if_pos rfl
    rw [h2]
    have h3 : (a != a) = false := by simp
    go_enter Tryd.func55, Tryd.ntmps55
    go_wp2_with fail
    go_ret
    exact ⟨rfl, ((Below.refl _ _).alloc (Nat.le_refl _) _).alloc (by simp) _⟩
  · have h2 : lessI a b c d = decide (a < c) := if_neg h
    rw [h2]
    have h3 : (a != c) = true := by simpa using h
    go_enter Tryd.func55, Tryd.ntmps55
    go_wp2_with fail
    go_ret
    exact ⟨rfl, ((Below.refl _ _).alloc (Nat.le_refl _) _).alloc (by simp) _⟩
theorem PrsO.other {w w' : World} {G gp g B k : Nat} {q : List Int} {L : Int} (h : PrsO G w gp g B q L) (hg : w.grownBy w' (some k)) (h1 : k ≠ g) (h2 : k ≠ gp) (hB : B ≤ k) : PrsO G w' gp g B q L := by
  have hl := h.rd.lt
  have hle := h.rd.le
  obtain ⟨A, c, kb, e1, e2, e3, e4⟩ := h.rd.blk
  exact ⟨h.pb.grown hg (fun e => by injection e with e; exact h2 e.symm), ⟨⟨A, c, kb.grown hg (fun e => by injection e with e; exact h1 e.symm), e1, e2, e3.grown hg (by omega) (fun r hr => by injection hr with hr; omega), e4⟩, h.rd.bytes, h.rd.le, h.rd.small⟩, h.le⟩
/-- What object does. -/
structure ObjTo (w w' : World) (gr G gp g B : Nat) (p : List Int) (s : IRd) (A : Option Addr) (c : Nat) (r : Ending) : Prop where
  ok : ∀ o q, pObj s p = .ok (o, q) → ∃ A1 c1, r = .returned (.agg (ovC o A1 c1)) ∧ Own w' w.heap.size A1 c1 o.data ∧ PrsO G w' gp g B q 2 ∧ RB w' gr (s.aft o) A c
  no : ∀ e, pObj s p = .error e → r = dies e ∧ RB w' gr s A c
  fr : Frm w w' (fun b => b = g ∨ b = gr)
theorem ObjTo.bad {w w' : World} {gr G gp g B : Nat} {p : List Int} {s : IRd} {A : Option Addr} {c : Nat} {x : Int} (h : pObj s p = .error x) (hf : Frm w w' (fun b => b = g)) (hb : RB w gr s A c) (hn : gr ≠ g) : ObjTo w w' gr G gp g B p s A c (dies x) :=
  ⟨fun h' q hq => (by rw [h] at hq; cases hq), fun e he => (by rw [h] at he; injection he with he; subst he; exact ⟨rfl, hf.keep hb hn⟩), hf.mono (fun b _ hb => .inl hb)⟩
/-- What stands in a step of object. -/
structure OStep (w wi : World) (G gp g B gm : Nat) (q : List Int) (box : Array Value) : Prop where
  p : PrsO G wi gp g B q 2
  z : Blk wi w.heap.size 27 zeroO
  k : Blk wi gm 27 box
  f : Frm w wi (fun b => b = g)
  hg : gm = w.heap.size + 1
  lg : g < w.heap.size
  lp : gp < w.heap.size
  hB : B ≤ w.heap.size
theorem OStep.call {w wi wj : World} {G gp g B gm : Nat} {q q' : List Int} {box : Array Value} (h : OStep w wi G gp g B gm q box) (hp : PrsO G wj gp g B q' 2) (gg : wi.grownBy wj (some g)) : OStep w wj G gp g B gm q' box :=
  ⟨hp, h.z.grown gg (fun e => by injection e with e; have := h.lg; omega), h.k.grown gg (fun e => by injection e with e; have := h.lg; have := h.hg; omega), h.f.grown gg (fun r hr => .inr (by injection hr with hr; exact hr.symm)), h.hg, h.lg, h.lp, h.hB⟩
theorem OStep.below {w wi wj : World} {G gp g B gm : Nat} {q : List Int} {box : Array Value} (h : OStep w wi G gp g B gm q box) (b : Below wi.heap.size wi wj) : OStep w wj G gp g B gm q box :=
  ⟨h.p.below b, h.z.below b h.z.lt, h.k.below b h.k.lt, h.f.then_below b, h.hg, h.lg, h.lp, h.hB⟩
theorem OStep.fail {w wi wj : World} {G gp g B gm : Nat} {q : List Int} {box : Array Value} (h : OStep w wi G gp g B gm q box) (gg : wi.grownBy wj (some g)) : Frm w wj (fun b => b = g) :=
  h.f.grown gg (fun r hr => .inr (by injection hr with hr; exact hr.symm))
theorem OStep.put {w wi : World} {G gp g B gm : Nat} {q : List Int} {box : Array Value} (h : OStep w wi G gp g B gm q box) (i : Nat) (v : Value) : OStep w (wi.setCell ⟨gm, i, none⟩ v) G gp g B gm q (box.setIfInBounds i v) :=
  ⟨h.p.set_ (by have := h.lg; have := h.hg; omega) (by have := h.lp; have := h.hg; omega) (by have := h.hB; have := h.hg; omega) i v, h.z.far (p := ⟨gm, i, none⟩) (by show w.heap.size ≠ gm; have := h.hg; omega) v, h.k.set_ i v, h.f.set (p := ⟨gm, i, none⟩) (.inl (by show w.heap.size ≤ gm; have := h.hg; omega)) v, h.hg, h.lg, h.lp, h.hB⟩
def objC (grp obj prio : Int) : Array Value := #[.int .u64 grp, .int .u64 obj, .int .u8 prio, .bool false, .slice none 0 0]
/-- Where the object's number and place are known. -/
structure OMid (w wi : World) (G gp g B gm : Nat) (p : List Int) (s : IRd) (grp obj prio : Int) (q : List Int) : Prop where
  st : OStep w wi G gp g B gm q (objC grp obj prio)
  e : pObj s p = pTail s grp obj prio q
theorem pTail_none {s : IRd} {gr ob pr : Int} {q : List Int} (h : (!s.some_ || lessI s.lg s.lo gr ob) = false) : pTail s gr ob pr q = .error 4 := by
  unfold pTail; rw [if_neg (by rw [h]; exact Bool.false_ne_true)]
theorem pTail_some {s : IRd} {gr ob pr : Int} {q : List Int} (h : (!s.some_ || lessI s.lg s.lo gr ob) = true) : pTail s gr ob pr q = match pText q with | .error e => .error e | .ok (d, r) => .ok (⟨gr, ob, pr, false, d⟩, r) := by
  unfold pTail; rw [if_pos h]
  rcases pText q with e | ⟨d, r⟩ <;> rfl
theorem RB.there2 {w : World} {gr : Nat} {s : IRd} {A : Option Addr} {c : Nat} (h : RB w gr s A c) : w.there gr 5 2 := fun j hj => by
  exact ⟨by rw [h.cell, Array.getElem?_eq_getElem (by simp [irdC]; omega)]; rfl, h.frozen _⟩
theorem setCells2 (w : World) (gr : Nat) (a b : Value) : w.setCells gr 5 [a, b] = (w.setCell ⟨gr, 5, none⟩ a).setCell ⟨gr, 6, none⟩ b := rfl
theorem RB.aft {w : World} {gr : Nat} {s : IRd} {A : Option Addr} {c : Nat} (h : RB w gr s A c) (o : OV) : RB ((w.setCells gr 5 [.int .u64 o.grp, .int .u64 o.obj]).setCell ⟨gr, 7, none⟩ (.bool true)) gr (s.aft o) A c := by
  rw [setCells2]
  exact ((h.set_ 5 (.int .u64 o.grp)).set_ 6 (.int .u64 o.obj)).set_ 7 (.bool true)
theorem only_put3 (w : World) (gr : Nat) (a b e : Value) : w.grownBy ((w.setCells gr 5 [a, b]).setCell ⟨gr, 7, none⟩ e) (some gr) := by
  rw [setCells2]
  exact only_set (only_set (only_set (only_refl w (some gr)) (p := ⟨gr, 5, none⟩) rfl a) (p := ⟨gr, 6, none⟩) rfl b) (p := ⟨gr, 7, none⟩) rfl e
theorem PrsO.put3 {w : World} {gr G gp g B : Nat} {q : List Int} {L : Int} (h : PrsO G w gp g B q L) (hx : gr ≠ G) (h1 : gr ≠ g) (h2 : gr ≠ gp) (a b e : Value) : PrsO G ((w.setCells gr 5 [a, b]).setCell ⟨gr, 7, none⟩ e) gp g B q L := by
  rw [setCells2]
  exact ((h.setG hx h1 h2 5 a).setG hx h1 h2 6 b).setG hx h1 h2 7 e
/-- What the end of object leaves. -/
theorem obj_end {w w1 : World} {gr G gp g B gm : Nat} {p q : List Int} {s : IRd} {A A1 : Option Addr} {c c1 : Nat} {o : OV} {box : Array Value} (hG : gr ≠ G) (S : OStep w w1 G gp g B gm q box) (HR : RB w gr s A c) (hne : gr ≠ g) (hnp : gr ≠ gp) (ho : Own w1 (w.heap.size + 2) A1 c1 o.data) (he : pObj s p = .ok (o, q)) :
    ObjTo w (((w1.setCells gr 5 [.int .u64 o.grp, .int .u64 o.obj]).setCell ⟨gr, 7, none⟩ (.bool true)).setRow w.heap.size (ovC o A1 c1)) gr G gp g B p s A c (.returned (.agg (ovC o A1 c1))) := by
  have hrl := HR.lt
  have k1 := S.f.keep HR hne
  have g1 := only_put3 w1 gr (.int .u64 o.grp) (.int .u64 o.obj) (.bool true)
  have g2 := only_setRowI ((w1.setCells gr 5 [.int .u64 o.grp, .int .u64 o.obj]).setCell ⟨gr, 7, none⟩ (.bool true)) w.heap.size (ovC o A1 c1)
  have f1 : Frm w _ (fun b => b = g ∨ b = gr) := (S.f.mono (fun b _ hb => .inl hb)).grown g1 (fun r hr => .inr (.inr (by injection hr with hr; exact hr.symm)))
  have f2 := f1.grown g2 (fun r hr => .inl (Nat.le_of_eq (by injection hr)))
  refine ⟨fun o' q' h => ?_, fun e h => (by rw [he] at h; cases h), f2⟩
  rw [he] at h
  injection h with h
  injection h with e1 e2
  subst e1 e2
  refine ⟨A1, c1, rfl, ?_, ?_, ?_⟩
  · refine Own.base_leI (b2 := w.heap.size) (OwnV.apart (OwnV.apart (show OwnV w1 (w.heap.size + 2) 5 1 A1 c1 o.data.length (U8 o.data) from ho) g1 (fun k hk e => ?_)) g2 (fun k hk e => ?_)) (by omega)
    · have := OwnV.row_ge ho k hk
      injection e with e
      omega
    · have := OwnV.row_ge ho k hk
      injection e with e
      omega
  · exact ((S.p.put3 hG hne hnp _ _ _).other g2 (by have := S.lg; omega) (by have := S.lp; omega) S.hB)
  · exact Blk.grown (RB.aft k1 o) g2 (fun e => by injection e with e; omega)
end Go.Proofs.YtpaglcojbcndoaaDoor
