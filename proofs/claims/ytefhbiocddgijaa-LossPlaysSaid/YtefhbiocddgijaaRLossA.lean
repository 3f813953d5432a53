/-
  The reference's ledger: a list that keeps all, with a mark; Open; same.
-/
import Derived.Test.YtefhbiocddgijaaLossO
import Derived.Test.YtefhbiocddgijaaOpenLossOp
namespace Go.Proofs.Ytefhbiocddgijaa
open Go.RowKit
set_option linter.unusedVariables false
set_option linter.unusedSimpArgs false
theorem RPkC_len (p : RPk) : (RPkC p).length = 5 := rfl
theorem RPkC_one (p : RPk) : ∀ u ∈ RPkC p, u.oneCell' = true := by
  intro u hu
  simp [RPkC] at hu
  rcases hu with rfl | rfl | rfl | rfl | rfl <;> rfl
theorem info_rpk : (Try.prog.info? 32).map (fun i => (i.zero, i.size, i.bytes)) = some (some (.agg #[.int .u64 0, .int .u64 0, .int .i64 0, .bool false, .bool false]), 5, 32) := by kernel_rfl
abbrev OwnR (w : World) (base : Nat) (A : Option Addr) (c : Nat) (l : List RPk) : Prop := OwnF RPkC 5 32 w base A c l
abbrev RdR (w : World) (A : Option Addr) (l : List RPk) : Prop := RdF RPkC 5 w A l
theorem reads_rpk (w : World) (p : RPk) (E : TypeId) : Reads (w.alloc (.cells #[.int .u64 p.nu, .int .u64 p.se, .int .i64 p.si, .bool p.aq, .bool p.go] E)) (w.alloc (.cells #[.int .u64 p.nu, .int .u64 p.se, .int .i64 p.si, .bool p.aq, .bool p.go] E)).heap.size 5 (some ⟨w.heap.size, 0, none⟩) 1 (RPkC p) := by
  refine ⟨rfl, fun _ => ⟨_, rfl, by simp, fun j u hu => ?_⟩⟩
  match j, hu with
  | 0, hu => simp [RPkC] at hu; subst hu; simp [Addr.add]
  | 1, hu => simp [RPkC] at hu; subst hu; simp [Addr.add]
  | 2, hu => simp [RPkC] at hu; subst hu; simp [Addr.add]
  | 3, hu => simp [RPkC] at hu; subst hu; simp [Addr.add]
  | 4, hu => simp [RPkC] at hu; subst hu; simp [Addr.add]
theorem RdR.at0 {w : World} {A : Option Addr} {l : List RPk} {i : Nat} {p : RPk} (h : RdR w A l) (hx : l[i]? = some p) : ∃ b off, A = some ⟨b, off, none⟩ ∧ b < w.heap.size ∧ ∀ j, j < 5 → w.cell? ⟨b, off + (i * 5 + j), none⟩ = (RPkC p)[j]? := by
  have hi : i < l.length := by
    rcases Nat.lt_or_ge i l.length with h | h
    · exact h
    · rw [List.getElem?_eq_none h] at hx; cases hx
  obtain ⟨b, off, x, h1, h2, h3, h4⟩ := RdF.at_ RPkC_len (by omega) h hi
  rw [hx] at h3
  injection h3 with h3
  subst h3
  exact ⟨b, off, h1, h2, h4⟩
/-- The reference's ledger. -/
structure RG where
  op : List RPk
  nx : Int
  ak : Int
  hs : Bool
structure RLed (w : World) (base x : Nat) (A : Option Addr) (c : Nat) (l : RG) : Prop where
  blk : Blk w x 30 #[.slice A l.op.length c, .int .u64 l.nx, .int .u64 l.ak, .bool l.hs]
  own : OwnR w base A c l.op
  le : base ≤ x
def live (p : RPk) : Bool := !p.go
def pkOf (p : RPk) : PK := ⟨p.nu, p.se, p.si, p.aq⟩
section
variable {w w' : World} {base x : Nat} {A : Option Addr} {c : Nat} {l : RG}
theorem RLed.drew (h : RLed w base x A c l) : RLed w.drew base x A c l := ⟨h.blk, h.own, h.le⟩
theorem RLed.drewN (h : RLed w base x A c l) (n : Nat) : RLed (w.drewN n) base x A c l := ⟨h.blk, h.own, h.le⟩
theorem RLed.lt (h : RLed w base x A c l) : x < w.heap.size := h.blk.lt
theorem RLed.below (h : RLed w base x A c l) (hb : Below w.heap.size w w') : RLed w' base x A c l := ⟨h.blk.below hb h.blk.lt, OwnV.below h.own hb, h.le⟩
theorem RLed.frm {S : Nat → Prop} (h : RLed w base x A c l) (hf : Frm w w' S) (hs : ∀ b, LedS x A b → ¬ S b) : RLed w' base x A c l :=
  ⟨hf.keep h.blk (hs x (.inl rfl)), OwnV.frm h.own hf (fun k hk => hs k (.inr (by rw [← hk]; exact ownBlock_len _ _ _ _ _))), h.le⟩
theorem RLed.ne (h : RLed w base x A c l) : ∀ k, (Value.slice A l.op.length c).ownBlock = some k → k ≠ x := by
  intro k hk
  rcases h.own.2 with ⟨h1, _⟩ | ⟨g', cap, cur, hv, _, hh, _⟩
  · rw [h1] at hk; cases hk
  · rw [hv] at hk
    simp [Value.ownBlock] at hk
    subst hk
    intro e
    subst e
    have := h.blk
    unfold Blk at this
    rw [hh] at this
    injection this with this
    injection this with _ this
    exact absurd this (by decide)
end
theorem rOpen_nil (w : World) : Calls Try.prog 15 #[.pointer none] w fun r w' => r = .returned (.slice none 0 0) ∧ w = w' := by
  go_enter Try.func15, Try.ntmps15
  go_wp2_with fail
  go_ret
  exact ⟨rfl, rfl⟩
set_option maxRecDepth 100000 in
theorem rOpen_any (base x : Nat) (A : Option Addr) (c : Nat) (l : RG) (w : World) (h : RLed w base x A c l) (hl : l.op.length ≤ 1000000) :
    Calls Try.prog 15 #[.pointer (some ⟨x, 0, none⟩)] w fun r w' => ∃ A' c', r = .returned (.slice A' (l.op.filter live).length c') ∧ OwnR w' w.heap.size A' c' (l.op.filter live) ∧ Below w.heap.size w w' := by
  have c0 := h.blk.cell 0
  simp at c0
  have HL := Lib.hid h
  clear h
  go_enter Try.func15, Try.ntmps15
  go_wp2_with fail
  go_loopw [13, 3] (fun i o wr => ∃ (k m : Nat) (A1 : Option Addr) (c1 : Nat), k ≤ l.op.length ∧ i = .int .i64 k ∧ o = .slice A1 m c1 ∧ Hid (m = ((l.op.take k).filter live).length ∧ OwnV wr w.heap.size 32 5 A1 c1 m (FlV RPkC ((l.op.take k).filter live)) ∧ Below w.heap.size w wr)) (fun i _ _ => l.op.length - (intOf i).toNat)
  case atStart => exact ⟨0, 0, none, 0, by omega, rfl, rfl, Lib.hid ⟨by simp, OwnF.nil _ _, Below.refl _ _⟩⟩
  case round =>
    obtain ⟨k, m, A1, c1, hk, rfl, rfl, HI⟩ := hrel
    by_cases hlt : k < l.op.length
    · obtain ⟨p, hx⟩ : ∃ p, l.op[k]? = some p := ⟨_, List.getElem?_eq_getElem hlt⟩
      obtain ⟨b, off, rfl, zb, hcell⟩ := RdR.at0 (OwnF.reads (OwnV.below HL.out.own HI.out.2.2)) hx
      have x0 := hcell 0 (by omega)
      have x1 := hcell 1 (by omega)
      have x2 := hcell 2 (by omega)
      have x3 := hcell 3 (by omega)
      have x4 := hcell 4 (by omega)
      clear hcell
      have HT := Lib.hid (take_snoc hx)
      obtain ⟨nu, se, si, aq, go⟩ := p
      simp [RPkC] at x0 x1 x2 x3 x4
      rw [← Nat.add_assoc] at x1 x2 x3 x4
      have hml : m ≤ l.op.length := by rw [HI.out.1]; exact Nat.le_trans (List.length_filter_le _ _) (by simp; omega)
      have hz := HI.out.2.2.size
      clear hx
      cases go with
      | true =>
        go_wp2_with fail
        go_roundw
        case rel => exact ⟨k + 1, m, A1, c1, by omega, by go_num, rfl, Lib.hid ⟨by rw [HT.out, List.filter_append]; simpa [live] using HI.out.1, by rw [HT.out, List.filter_append]; simp only [live, List.filter_cons, List.filter_nil, Bool.not_true, Bool.false_eq_true, if_false, List.append_nil]; exact OwnV.below HI.out.2.1 ((Below.refl _ _).alloc (Nat.le_refl _) _), HI.out.2.2.alloc hz _⟩⟩
        case measure => simp [intOf]; omega
      | false =>
        have hnew := reads_rpk (wr.alloc (.cells #[.int .u64 nu, .int .u64 se, .int .i64 si, .bool aq, .bool false] 32)) ⟨nu, se, si, aq, false⟩ 32
        rw [show (wr.alloc (.cells #[.int .u64 nu, .int .u64 se, .int .i64 si, .bool aq, .bool false] 32)).heap.size = wr.heap.size + 1 by simp] at hnew
        have HNEW := Lib.hid hnew
        clear hnew
        go_wp2_with (at_builtin; go_must (refine wpList_appV rfl (.tmp 20) (.tmp 22) 27 32 5 32 (.agg #[.int .u64 0, .int .u64 0, .int .i64 0, .bool false, .bool false]) rfl Try.underlying27 info_rpk rfl (by omega) w.heap.size (n := m) (m := 1) (xs := FlV RPkC ((l.op.take k).filter live)) (news := RPkC ⟨nu, se, si, aq, false⟩) (d := 1) rfl rfl (OwnV.below HI.out.2.1 (((Below.refl _ _).alloc (Nat.le_refl _) _).alloc (by simp) _)) HNEW.out (RPkC_one _) (by unfold maxLen; omega) (by omega) (by simp; omega) ?_); intro A' c' w7 hown hg7 hb7)
        have HOWN := Lib.hid hown
        have HB7 := Lib.hid (((HI.out.2.2.alloc hz (.cells #[.int .u64 nu, .int .u64 se, .int .i64 si, .bool aq, .bool false] 32)).alloc (by simp; omega) (.cells #[.int .u64 nu, .int .u64 se, .int .i64 si, .bool aq, .bool false] 32)).trans hb7)
        clear hown hg7 hb7
        go_roundw
        case rel => exact ⟨k + 1, m + 1, A', c', by omega, by go_num, rfl, Lib.hid ⟨by rw [HT.out, List.filter_append, HI.out.1]; simp [live], by rw [HT.out, List.filter_append, FlV_append]; simp only [live, List.filter_cons, List.filter_nil, Bool.not_false, if_true]; rw [FlV_one]; exact HOWN.out, HB7.out⟩⟩
        case measure => simp [intOf]; omega
    · have hd : decide (k < l.op.length) = false := by simpa using hlt
      have htk : l.op.take k = l.op := List.take_of_length_le (by omega)
      have hi := HI.out
      rw [htk] at hi
      obtain ⟨rfl, ho, hb⟩ := hi
      have HO := Lib.hid ho
      have HB := Lib.hid hb
      clear htk ho hb HI
      go_wp2_with fail
      go_ret
      exact ⟨A1, c1, rfl, HO.out, HB.out⟩
end Go.Proofs.Ytefhbiocddgijaa
