import Derived.Test.YtpedajjmbdjfiaaSaltA
namespace Go.Proofs.Ytpedajjmbdjfiaa
open Go.RowKit
set_option linter.unusedVariables false

def put4 (l : List Int) (o : Nat) (v : Int) : List Int := l.take o ++ le4 v ++ l.drop (o + 4)
theorem put4_sets (l : List Int) (o : Nat) (a b c d : Int) (h : o + 4 ≤ l.length) : ((((l.set o a).set (o + 1) b).set (o + 2) c).set (o + 3) d) = l.take o ++ [a, b, c, d] ++ l.drop (o + 4) := by
  apply List.ext_getElem
  · simp; omega
  · intro i h1 h2
    simp only [List.getElem_set, List.getElem_append, List.length_take, List.length_append, List.length_cons, List.length_nil, List.getElem_take, List.getElem_drop]
    by_cases e0 : i < o
    · rw [if_neg (by omega), if_neg (by omega), if_neg (by omega), if_neg (by omega), dif_pos (by omega), dif_pos (by omega)]
    · by_cases e4 : i < o + 4
      · rw [dif_pos (by omega), dif_neg (by omega)]
        rcases (show i = o ∨ i = o + 1 ∨ i = o + 2 ∨ i = o + 3 by omega) with rfl | rfl | rfl | rfl
        · simp [show min i l.length = i by omega]
        · simp [show min o l.length = o by omega]
        · simp [show min o l.length = o by omega]
        · simp [show min o l.length = o by omega]
      · rw [if_neg (by omega), if_neg (by omega), if_neg (by omega), if_neg (by omega), dif_neg (by omega)]
        congr 1
        omega
theorem put4_length (l : List Int) (o : Nat) (v : Int) (h : o + 4 ≤ l.length) : (put4 l o v).length = l.length := by
  simp [put4, le4]; omega

set_option maxHeartbeats 800000 in
theorem putWord32_any (g : Nat) (t : TypeId) (l : List Int) (off n c : Nat) (v : Int) (w : World) (hb : Blk w g t (IV .u8 l).toArray) (hv : 0 ≤ v ∧ v < 4294967296) (hn : 4 ≤ n) (hm : n ≤ 9223372036854775807) (hl : off + 4 ≤ l.length) :
    Calls Try.prog 46 #[.slice (some ⟨g, off, none⟩) n c, .int .u32 v] w fun e w' => e = .returned (.tuple #[]) ∧ Blk w' g t (IV .u8 (put4 l off v)).toArray ∧ w.grownBy w' (some g) := by
  have n0 : (0 : Int) < n := by omega
  have n1 : (1 : Int) < n := by omega
  have n2 : (2 : Int) < n := by omega
  have n3 : (3 : Int) < n := by omega
  obtain ⟨hv0, hv1⟩ := hv
  have get : ∀ i, i < 4 → ∃ y, w.cell? ⟨g, off + i, none⟩ = some (.int .u8 y) := fun i hi => ⟨_, hb.cell_i (List.getElem?_eq_getElem (show off + i < l.length by omega))⟩
  obtain ⟨y0, c0⟩ := get 0 (by omega)
  obtain ⟨y1, c1⟩ := get 1 (by omega)
  obtain ⟨y2, c2⟩ := get 2 (by omega)
  obtain ⟨y3, c3⟩ := get 3 (by omega)
  rw [Nat.add_zero] at c0
  have f0 := hb.frozen off
  have f1 := hb.frozen (off + 1)
  have f2 := hb.frozen (off + 2)
  have f3 := hb.frozen (off + 3)
  have hfin := (((hb.store_i off (v % 256)).store_i (off + 1) (v / 256 % 256)).store_i (off + 2) (v / 65536 % 256)).store_i (off + 3) (v / 16777216 % 256)
  have g1 := only_setCell (World.grownBy.refl w (some g)) (p := ⟨g, off, none⟩) (.inl rfl) (.int .u8 (v % 256))
  have g2 := only_setCell g1 (p := ⟨g, off + 1, none⟩) (.inl rfl) (.int .u8 (v / 256 % 256))
  have g3 := only_setCell g2 (p := ⟨g, off + 2, none⟩) (.inl rfl) (.int .u8 (v / 65536 % 256))
  have hgr := only_setCell g3 (p := ⟨g, off + 3, none⟩) (.inl rfl) (.int .u8 (v / 16777216 % 256))
  clear g1 g2 g3
  rw [put4_sets l off _ _ _ _ hl] at hfin
  have e16 : v / 16777216 % 256 = v / 16777216 := by omega
  have hfin' : Blk ((((w.setCell ⟨g, off, none⟩ (.int .u8 (v % 256))).setCell ⟨g, off + 1, none⟩ (.int .u8 (v / 256 % 256))).setCell ⟨g, off + 2, none⟩ (.int .u8 (v / 65536 % 256))).setCell ⟨g, off + 3, none⟩ (.int .u8 (v / 16777216 % 256))) g t (IV .u8 (put4 l off v)).toArray := hfin
  rw [e16] at hfin' hgr
  have HF := Lib.hid hfin'
  have HG := Lib.hid hgr
  clear hfin hfin' hgr get hb e16
  go_enter Try.func46, Try.ntmps46
  go_wp2_with fail
  exact bodyPost_end (v := .tuple #[]) (results_none (by rfl) _ _ _) (by rfl) ⟨rfl, HF.out, HG.out⟩

end Go.Proofs.Ytpedajjmbdjfiaa
