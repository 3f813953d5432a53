/-
  word.parse: the walk.
-/
import Derived.Test.YtdcjnkakibeigaaDoorWordH
import Derived.Deep.DeepCutAuto
import Derived.Deep.CutBlock
namespace Go.Proofs.YtdcjnkakibeigaaDoor
open Go.RowKit
set_option linter.unusedVariables false
set_option linter.unusedSimpArgs false
theorem info_msgZ : (Tryd.prog.info? 31).map (·.size) = some 16 := by kernel_rfl
theorem fbit_all : ∀ k, k < 13 → 1 ≤ fbit k ∧ fbit k ≤ 4096 ∧ IntKind.u16.wrap (fbit k * 2) = fbit (k + 1) ∧ fbit (k + 1) = fbit k * 2 := by decide
theorem runF_none {own : Int} {m : MV} {p : List Int} : ∀ {k j : Nat}, runF own k m p = none → k ≤ j → runF own j m p = none
  | k, j, h, hj => by
    obtain ⟨d, rfl⟩ : ∃ d, j = k + d := ⟨j - k, by omega⟩
    clear hj
    induction d with
    | zero => exact h
    | succ d ih =>
      show (match runF own (k + d) m p with | none => none | some (m', p') => if hasB own (k + d) then takeF (k + d) m' p' else some (m', p')) = none
      rw [ih]
theorem parse_none {kind : Int} {p : List Int} {k : Nat} (h : runF (foW kind) k (mv0 kind) p = none) (hk : k ≤ 13) : parseW kind p = none := by
  unfold parseW
  rw [runF_none h hk]
theorem plist_len {p l q : List Int} (h : plist p = some (l, q)) : l.length ≤ 8 := by
  unfold plist at h
  split at h
  · cases h
  · split at h
    · rename_i hc
      have := pnums_cut h
      omega
    · cases h
theorem takeF_vers {k : Nat} {m m' : MV} {p q : List Int} (h : takeF k m p = some (m', q)) (hv : m.vers.length ≤ 8) : m'.vers.length ≤ 8 := by
  unfold takeF at h
  split at h
  case h_11 =>
    obtain ⟨⟨v, q'⟩, h3, h4⟩ := Option.map_eq_some_iff.1 h
    injection h4 with h4 _
    rw [← h4]
    exact plist_len h3
  all_goals (first
    | (obtain ⟨v, _, h4⟩ := Option.map_eq_some_iff.1 h; injection h4 with h4 _; rw [← h4]; exact hv)
    | (split at h
       · cases h
       · injection h with h; injection h with h _; rw [← h]; exact hv)
    | (split at h <;> (obtain ⟨v, _, h4⟩ := Option.map_eq_some_iff.1 h; injection h4 with h4 _; rw [← h4]; exact hv))
    | (injection h with h; injection h with h _; rw [← h]; exact hv))
theorem runF_vers {own kind : Int} {p : List Int} : ∀ {k : Nat} {m : MV} {q : List Int}, runF own k (mv0 kind) p = some (m, q) → m.vers.length ≤ 8
  | 0, m, q, h => by injection h with h; injection h with h _; rw [← h]; exact Nat.zero_le _
  | k + 1, m, q, h => by
    unfold runF at h
    split at h
    · cases h
    · rename_i m1 q1 h1
      have := runF_vers h1
      split at h
      · exact takeF_vers h this
      · injection h with h; injection h with h _; rw [← h]; exact this
theorem OwnV.capW {w : World} {base c n : Nat} {A : Option Addr} {e : TypeId} {size : Nat} {xs : List Value} (h : OwnV w base e size A c n xs) : n ≤ c ∧ c ≤ 9223372036854775807 := by
  rcases h.2 with ⟨a1, a2⟩ | ⟨g, cap, cur, hv, _, _, h3, h4, _⟩
  · injection a1 with e1 e2 e3
    omega
  · injection hv with e1 e2 e3
    unfold maxLen at h4
    omega
theorem setRowW {w : World} {g : Nat} {t : TypeId} {cs : Array Value} (h : Blk w g t cs) (cs' : Array Value) : Blk (w.setRow g cs') g t cs' := by
  unfold Blk at h ⊢
  simp [World.setRow, Array.getElem?_modify, h]
theorem frm_setRow (w : World) (g : Nat) (cs : Array Value) : Frm w (w.setRow g cs) (fun b => b = g) :=
  ⟨rfl, rfl, rfl, by simp, fun b hb hn => setRow_other w g b cs hn⟩
theorem mvC_one (m : MV) (nA : Option Addr) (nc : Nat) (rA : Option Addr) (rc : Nat) (vA : Option Addr) (vc : Nat) : (mvC m nA nc rA rc vA vc).all (·.oneCell') = true := by
  unfold mvC
  simp [Value.oneCell']
theorem only_row_below {w wr w' : World} {g : Nat} (hg : wr.grownBy w' (some g)) (h : w.heap.size ≤ g) (h2 : w.heap.size ≤ wr.heap.size) : Below w.heap.size wr w' :=
  ⟨hg.os, hg.tape, hg.output, hg.size, fun i hi => hg.block i (by omega) (fun e => by injection e with e; omega)⟩
end Go.Proofs.YtdcjnkakibeigaaDoor
