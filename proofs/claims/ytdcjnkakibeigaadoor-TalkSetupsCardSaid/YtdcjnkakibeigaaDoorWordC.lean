/-
  word.takeField, a theorem a field (written by wip/tools/mkWordC.py).
-/
import Derived.Test.YtdcjnkakibeigaaDoorWordB
namespace Go.Proofs.YtdcjnkakibeigaaDoor
open Go.RowKit
set_option linter.unusedVariables false
set_option linter.unusedSimpArgs false
theorem OwnV.lower {w : World} {base base' : Nat} {e : TypeId} {size n : Nat} {A : Option Addr} {c : Nat} {xs : List Value} (h : OwnV w base e size A c n xs) (hb : base' ≤ base) : OwnV w base' e size A c n xs := by
  obtain ⟨h1, h2⟩ := h
  rcases h2 with h2 | ⟨g, cap, cur, hv, hg, rest⟩
  · exact ⟨h1, .inl h2⟩
  · exact ⟨h1, .inr ⟨g, cap, cur, hv, by omega, rest⟩⟩
section
variable {gp g gm base B : Nat} {p q t8 : List Int} {n n2 : Int} {t : Bool} {m m' : MV} {w w' : World}
theorem MsgAt.lt (h : MsgAt w gm base m) : gm < w.heap.size := by
  obtain ⟨nA, nc, rA, rc, vA, vc, k, _⟩ := h.ex
  exact k.lt
theorem MsgAt.fz (h : MsgAt w gm base m) (i : Nat) : w.frozen? ⟨gm, i, none⟩ = false := by
  obtain ⟨nA, nc, rA, rc, vA, vc, k, _⟩ := h.ex
  exact k.frozen i
theorem MsgAt.kindC (h : MsgAt w gm base m) : w.cell? ⟨gm, 0, none⟩ = some (.int .u64 m.kind) := by
  obtain ⟨nA, nc, rA, rc, vA, vc, k, _⟩ := h.ex
  exact k.cell 0
theorem MsgAt.cells (h : MsgAt w gm base m) (i : Nat) (hi : i < 16) : ∃ v, w.cell? ⟨gm, i, none⟩ = some v := by
  obtain ⟨nA, nc, rA, rc, vA, vc, k, _⟩ := h.ex
  exact ⟨_, (k.cell i).trans (Array.getElem?_eq_getElem (by simpa [mvC] using hi))⟩
theorem MsgAt.below (h : MsgAt w gm base m) (hb : Below w.heap.size w w') : MsgAt w' gm base m := by
  obtain ⟨nA, nc, rA, rc, vA, vc, k, a, b, c⟩ := h.ex
  exact ⟨⟨nA, nc, rA, rc, vA, vc, k.below hb k.lt, OwnV.below a hb, OwnV.below b hb, OwnV.below c hb⟩, h.lo⟩
theorem MsgAt.put (h : MsgAt w gm base m) (i : Nat) (u : Value) (e : ∀ {nA nc rA rc vA vc}, (mvC m nA nc rA rc vA vc).setIfInBounds i u = mvC m' nA nc rA rc vA vc) (e1 : m'.name = m.name := by rfl) (e2 : m'.reason = m.reason := by rfl) (e3 : m'.vers = m.vers := by rfl) :
    MsgAt (w.setCell ⟨gm, i, none⟩ u) gm base m' := by
  obtain ⟨nA, nc, rA, rc, vA, vc, k, a, b, c⟩ := h.ex
  have hl := h.lo
  have gs := only_set (only_refl w (some gm)) (p := ⟨gm, i, none⟩) rfl u
  refine ⟨⟨nA, nc, rA, rc, vA, vc, ?_, ?_, ?_, ?_⟩, hl⟩
  · rw [← e]; exact k.set_ i u
  · rw [e1]; exact OwnV.apart a gs (fun k hk e => by injection e with e; have := OwnV.row_ge a k hk; omega)
  · rw [e2]; exact OwnV.apart b gs (fun k hk e => by injection e with e; have := OwnV.row_ge b k hk; omega)
  · rw [e3]; exact OwnV.apart c gs (fun k hk e => by injection e with e; have := OwnV.row_ge c k hk; omega)
theorem MsgAt.putName {A1 : Option Addr} {c1 : Nat} (h : MsgAt w gm base m) (ho : Own w base A1 c1 t8) : MsgAt (w.setCell ⟨gm, 3, none⟩ (.slice A1 t8.length c1)) gm base { m with name := t8 } := by
  obtain ⟨nA, nc, rA, rc, vA, vc, k, a, b, c⟩ := h.ex
  have hl := h.lo
  have gs := only_set (only_refl w (some gm)) (p := ⟨gm, 3, none⟩) rfl (.slice A1 t8.length c1)
  refine ⟨⟨A1, c1, rA, rc, vA, vc, k.set_ 3 _, ?_, ?_, ?_⟩, hl⟩
  · exact OwnV.apart ho gs (fun k hk e => by injection e with e; have := OwnV.row_ge ho k hk; omega)
  · exact OwnV.apart b gs (fun k hk e => by injection e with e; have := OwnV.row_ge b k hk; omega)
  · exact OwnV.apart c gs (fun k hk e => by injection e with e; have := OwnV.row_ge c k hk; omega)
theorem MsgAt.putReason {A1 : Option Addr} {c1 : Nat} (h : MsgAt w gm base m) (ho : Own w base A1 c1 t8) : MsgAt (w.setCell ⟨gm, 12, none⟩ (.slice A1 t8.length c1)) gm base { m with reason := t8 } := by
  obtain ⟨nA, nc, rA, rc, vA, vc, k, a, b, c⟩ := h.ex
  have hl := h.lo
  have gs := only_set (only_refl w (some gm)) (p := ⟨gm, 12, none⟩) rfl (.slice A1 t8.length c1)
  refine ⟨⟨nA, nc, A1, c1, vA, vc, k.set_ 12 _, ?_, ?_, ?_⟩, hl⟩
  · exact OwnV.apart a gs (fun k hk e => by injection e with e; have := OwnV.row_ge a k hk; omega)
  · exact OwnV.apart ho gs (fun k hk e => by injection e with e; have := OwnV.row_ge ho k hk; omega)
  · exact OwnV.apart c gs (fun k hk e => by injection e with e; have := OwnV.row_ge c k hk; omega)
theorem MsgAt.putVers {A1 : Option Addr} {c1 : Nat} (h : MsgAt w gm base m) (ho : OwnV w base 22 1 A1 c1 t8.length (IV .u64 t8)) : MsgAt (w.setCell ⟨gm, 15, none⟩ (.slice A1 t8.length c1)) gm base { m with vers := t8 } := by
  obtain ⟨nA, nc, rA, rc, vA, vc, k, a, b, c⟩ := h.ex
  have hl := h.lo
  have gs := only_set (only_refl w (some gm)) (p := ⟨gm, 15, none⟩) rfl (.slice A1 t8.length c1)
  refine ⟨⟨nA, nc, rA, rc, A1, c1, k.set_ 15 _, ?_, ?_, ?_⟩, hl⟩
  · exact OwnV.apart a gs (fun k hk e => by injection e with e; have := OwnV.row_ge a k hk; omega)
  · exact OwnV.apart b gs (fun k hk e => by injection e with e; have := OwnV.row_ge b k hk; omega)
  · exact OwnV.apart ho gs (fun k hk e => by injection e with e; have := OwnV.row_ge ho k hk; omega)



























end
end Go.Proofs.YtdcjnkakibeigaaDoor
