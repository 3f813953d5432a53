/-
  The reference's marks; Clear.
-/
import Derived.Test.YtefhbiocddgijaaRLossB
namespace Go.Proofs.Ytefhbiocddgijaa
open Go.RowKit
set_option linter.unusedVariables false
set_option linter.unusedSimpArgs false
def mkR (p : RPk) : RPk := ⟨p.nu, p.se, p.si, p.aq, true⟩
def markG (G : RPk → Bool) (p : RPk) : RPk := if G p = true then mkR p else p
def marked (G : RPk → Bool) (op : List RPk) (k : Nat) : List RPk := (op.take k).map (markG G) ++ op.drop k
theorem marked_0 (G : RPk → Bool) (op : List RPk) : marked G op 0 = op := by simp [marked]
theorem marked_all (G : RPk → Bool) (op : List RPk) {k : Nat} (h : op.length ≤ k) : marked G op k = op.map (markG G) := by
  unfold marked
  rw [List.take_of_length_le h, List.drop_eq_nil_of_le h, List.append_nil]
theorem marked_len (G : RPk → Bool) (op : List RPk) (k : Nat) : (marked G op k).length = op.length := by
  unfold marked
  simp
  omega
theorem marked_at (G : RPk → Bool) (op : List RPk) {k : Nat} (hk : k < op.length) : (marked G op k)[k]? = op[k]? := by
  unfold marked
  rw [List.getElem?_append_right (by simp; omega)]
  simp only [List.length_map, List.length_take, List.getElem?_drop]
  congr 1
  omega
theorem marked_skip {G : RPk → Bool} {op : List RPk} {k : Nat} {p : RPk} (hx : op[k]? = some p) (hG : G p = false) : marked G op (k + 1) = marked G op k := by
  unfold marked
  obtain ⟨hl, hp⟩ := List.getElem?_eq_some_iff.1 hx
  rw [take_snoc hx, List.map_append, List.append_assoc, List.drop_eq_getElem_cons hl, hp]
  simp [markG, hG]
theorem marked_set {G : RPk → Bool} {op : List RPk} {k : Nat} {p : RPk} (hx : op[k]? = some p) (hG : G p = true) : (marked G op k).set k (mkR p) = marked G op (k + 1) := by
  unfold marked
  obtain ⟨hl, hp⟩ := List.getElem?_eq_some_iff.1 hx
  have h1 : ((op.take k).map (markG G)).length = k := by simp; omega
  rw [take_snoc hx, List.map_append, List.append_assoc, List.drop_eq_getElem_cons hl, hp]
  rw [List.set_append_right _ _ (by omega), h1, Nat.sub_self]
  simp [markG, hG]
theorem FlV_mark : ∀ {l : List RPk} {i : Nat} {p : RPk}, l[i]? = some p → FlV RPkC (l.set i (mkR p)) = (FlV RPkC l).set (i * 5 + 4) (.bool true)
  | [], i, p, h => by simp at h
  | q :: l, 0, p, h => by
    simp at h; subst h
    rw [List.set_cons_zero, FlV_cons, FlV_cons]
    simp [RPkC, mkR]
  | q :: l, i + 1, p, h => by
    rw [List.set_cons_succ, FlV_cons, FlV_cons, FlV_mark (by simpa using h), List.set_append_right _ _ (by rw [RPkC_len]; omega), RPkC_len]
    congr 2
    omega
theorem OwnR.mark {w : World} {base : Nat} {A : Option Addr} {c : Nat} {l : List RPk} {i : Nat} {p : RPk} (h : OwnR w base A c l) (hx : l[i]? = some p) :
    ∃ g cur, A = some ⟨g, 0, none⟩ ∧ base ≤ g ∧ Blk w g 32 cur ∧ i * 5 + 4 < cur.size ∧ OwnR (w.setCell ⟨g, i * 5 + 4, none⟩ (.bool true)) base A c (l.set i (mkR p)) := by
  have hi : i < l.length := by
    rcases Nat.lt_or_ge i l.length with h | h
    · exact h
    · rw [List.getElem?_eq_none h] at hx; cases hx
  obtain ⟨h1, h2⟩ := h
  rcases h2 with ⟨_, h2⟩ | ⟨g, cap, cur, hv, hb, hh, hcap, hmax, hsz, htk⟩
  · omega
  · injection hv with e1 e2 e3
    subst e1 e3
    have hk : Blk w g 32 cur := hh
    refine ⟨g, cur, rfl, hb, hk, by rw [hsz]; have := Nat.mul_le_mul_right 5 (show i + 1 ≤ c by omega); omega, ?_⟩
    have hlen : (l.set i (mkR p)).length = l.length := by simp
    unfold OwnR OwnF OwnV
    rw [hlen, FlV_mark hx]
    refine ⟨by rw [List.length_set]; exact h1, .inr ⟨g, c, cur.setIfInBounds (i * 5 + 4) (.bool true), rfl, hb, hk.set_ _ _, hcap, hmax, by simpa using hsz, ?_⟩⟩
    rw [Array.toList_setIfInBounds, List.take_set, htk]
theorem RLed.mark {w : World} {base x : Nat} {A : Option Addr} {c : Nat} {G : RPk → Bool} {op : List RPk} {nx ak : Int} {hs : Bool} {k : Nat} {p : RPk} (h : RLed w base x A c ⟨marked G op k, nx, ak, hs⟩) (hx : op[k]? = some p) (hG : G p = true) :
    ∃ g cur, A = some ⟨g, 0, none⟩ ∧ x ≠ g ∧ Blk w g 32 cur ∧ k * 5 + 4 < cur.size ∧ RLed (w.setCell ⟨g, k * 5 + 4, none⟩ (.bool true)) base x A c ⟨marked G op (k + 1), nx, ak, hs⟩ ∧ LedS x A g := by
  have hl : k < op.length := (List.getElem?_eq_some_iff.1 hx).1
  obtain ⟨g, cur, rfl, hb, hk, hlt, ho⟩ := OwnR.mark h.own (show (marked G op k)[k]? = some p from (marked_at G op hl).trans hx)
  have hne : x ≠ g := (h.ne g rfl).symm
  refine ⟨g, cur, rfl, hne, hk, hlt, ⟨?_, ?_, h.le⟩, .inr rfl⟩
  · have := h.blk.far (p := ⟨g, k * 5 + 4, none⟩) hne (.bool true)
    simp only [marked_len] at this ⊢
    exact this
  · rw [marked_set hx hG] at ho
    exact ho
theorem Frm.setS {w w' : World} {S : Nat → Prop} (h : Frm w w' S) {g i : Nat} (hs : S g) (u : Value) : Frm w (w'.setCell ⟨g, i, none⟩ u) S := h.set (.inr hs) u
set_option maxRecDepth 100000 in
theorem rClear_any (base x : Nat) (A : Option Addr) (c : Nat) (l : RG) (w : World) (h : RLed w base x A c l) (hl : l.op.length ≤ 1000000) :
    Calls Try.prog 12 #[.pointer (some ⟨x, 0, none⟩)] w fun r w' => ∃ A' c', r = .returned (.slice A' (l.op.filter live).length c') ∧ Hid (OwnR w' w.heap.size A' c' (l.op.filter live) ∧ RLed w' base x A c ⟨l.op.map mkR, l.nx, l.ak, l.hs⟩ ∧ Frm w w' (LedS x A)) := by
  have HO := Lib.hid (rOpen_any base x A c l w h hl)
  have HL := Lib.hid h
  clear h
  go_enter Try.func12, Try.ntmps12
  go_wp2_with fail
  refine HO.out.mono ?_
  rintro e w1 ⟨A', c', rfl, ho, b1⟩
  have h1 := HL.out.below b1
  have c0 := h1.blk.cell 0
  simp at c0
  have H1 := Lib.hid h1
  have HOW := Lib.hid ho
  have HB := Lib.hid b1
  clear h1 ho b1 HO
  go_wp2_with fail
  go_loopw [14] (fun i wr => ∃ k : Nat, k ≤ l.op.length ∧ i = .int .i64 k ∧ Hid (RLed wr base x A c ⟨marked (fun _ => true) l.op k, l.nx, l.ak, l.hs⟩ ∧ Frm w1 wr (LedS x A))) (fun i _ => l.op.length - (intOf i).toNat)
  case atStart => exact ⟨0, by omega, rfl, Lib.hid ⟨by rw [marked_0]; exact H1.out, Frm.refl _ _⟩⟩
  case round =>
    obtain ⟨k, hk, rfl, HI⟩ := hrel
    clear c0
    by_cases hlt : k < l.op.length
    · obtain ⟨p, hx⟩ : ∃ p, l.op[k]? = some p := ⟨_, List.getElem?_eq_getElem hlt⟩
      obtain ⟨g, cur, rfl, hne, hkb, hcl, hR, hS⟩ := HI.out.1.mark hx rfl
      have c0 := HI.out.1.blk.cell 0
      simp [marked_len] at c0
      have hc4 := hkb.cell (k * 5 + 4)
      rw [Array.getElem?_eq_getElem hcl] at hc4
      have hf4 := hkb.frozen (k * 5 + 4)
      have hz4 := hkb.lt
      have HR := Lib.hid (And.intro hR (Frm.setS HI.out.2 (i := k * 5 + 4) hS (.bool true)))
      clear hkb hR
      go_wp2_with fail
      go_roundw
      case rel => exact ⟨k + 1, by omega, by go_num, HR⟩
      case measure => simp [intOf]; omega
    · have hd : decide (k < l.op.length) = false := by simpa using hlt
      have hi := HI.out
      rw [marked_all _ _ (by omega)] at hi
      have e : l.op.map (markG fun _ => true) = l.op.map mkR := List.map_congr_left fun p _ => by simp [markG]
      rw [e] at hi
      have HI2 := Lib.hid hi
      clear hi e HI
      go_wp2_with fail
      go_ret
      exact ⟨A', c', rfl, Lib.hid ⟨OwnV.frm HOW.out HI2.out.2 (fun b hb hs => by
        have h1 := OwnV.row_ge' HOW.out hb
        rcases hs with h2 | h2
        · have := HL.out.lt; omega
        · have := OwnV.row_lt HL.out.own (k := b) (by rw [← h2]; exact ownBlock_len _ _ _ _ _); omega), HI2.out.1, (Frm.of_below HB.out).trans HI2.out.2⟩⟩
end Go.Proofs.Ytefhbiocddgijaa
