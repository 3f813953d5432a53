/-
  Two heads alike; the names that Read takes are bytes.
-/
import Derived.Test.YtjibbegdieiknaaDoorMaAM
import Derived.Test.YtjibbegdieiknaaDoorMaAA
import Derived.Test.YtjibbegdieiknaaDoorMaAB
import Derived.Test.YtjibbegdieiknaaDoorMaAO
import Derived.Test.YtjibbegdieiknaaDoorMaAH
namespace Go.Proofs.YtjibbegdieiknaaDoor
open Go.RowKit
set_option linter.unusedVariables false

theorem sameB_refl (a : List Int) : sameB a a = true := by simp [sameB]
set_option maxHeartbeats 1600000 in
theorem sameH_yes (lg : Bool) (lv : Int) (ph : Bool) (A : Option Addr) (c : Nat) (a : List Int) (B : Option Addr) (d : Nat) (b : List Int) (A' : Option Addr) (c' : Nat) (B' : Option Addr) (d' : Nat) (w : World)
    (ha : Rd w A a) (hb : Rd w B b) (ha' : Rd w A' a) (hb' : Rd w B' b) (h1 : Bytes a) (h2 : Bytes b) :
    Calls Tryd.prog 15 #[.agg #[.bool lg, .int .i64 lv, .bool ph, .slice A a.length c, .slice B b.length d], .agg #[.bool lg, .int .i64 lv, .bool ph, .slice A' a.length c', .slice B' b.length d']] w fun e w' => e = .returned (.bool true) ∧ Below w.heap.size w w' := by
  have C1 := Lib.hid (fun (W : World) (hb : Below w.heap.size w W) => same_any A A' c c' a a W (ha.below hb) (ha'.below hb) h1 h1)
  have C2 := Lib.hid (fun (W : World) (hx : Below w.heap.size w W) => same_any B B' d d' b b W (hb.below hx) (hb'.below hx) h2 h2)
  rw [sameB_refl] at C1 C2
  clear ha hb ha' hb' h1 h2
  have bb : Below w.heap.size w ((w.alloc (.cells #[.bool lg, .int .i64 lv, .bool ph, .slice A a.length c, .slice B b.length d] 25)).alloc (.cells #[.bool lg, .int .i64 lv, .bool ph, .slice A' a.length c', .slice B' b.length d'] 25)) := ((Below.refl _ _).alloc (Nat.le_refl _) _).alloc (by simp) _
  have BB := Lib.hid bb
  clear bb
  go_enter Tryd.func15, Tryd.ntmps15
  go_wp2_with fail
  refine (C1.out _ BB.out).mono ?_
  rintro e w1 ⟨rfl, rfl⟩
  go_wp2_with fail
  refine (C2.out _ BB.out).mono ?_
  rintro e w1 ⟨rfl, rfl⟩
  go_wp2_with fail
  go_ret
  exact ⟨rfl, BB.out⟩
theorem tkO_bytes {p : List Int} (h : Bytes p) (e : Int) (n : Nat) : Bytes (tkO p e n) := by unfold tkO; split; exact h.take _; exact Bytes.nil
theorem hdTo_bytes {p : List Int} (h : Bytes p) : Bytes (hdTo p 0) := by
  unfold hdTo
  split
  · exact tkO_bytes (tkL_bytes h _ _) _ _
  · exact tkO_bytes (tkL_bytes (tkL_bytes (tkL_bytes h _ _) _ _) _ _) _ _
theorem hdFr_bytes {p : List Int} (h : Bytes p) : Bytes (hdFr p 0) := by
  unfold hdFr
  split
  · exact Bytes.nil
  · exact tkO_bytes (tkL_bytes (nmL_bytes (tkL_bytes (tkL_bytes h _ _) _ _) _) _ _) _ _
end Go.Proofs.YtjibbegdieiknaaDoor

/-
  An array of bytes by value, opened.
-/
namespace Go.Proofs.YtjibbegdieiknaaDoor
set_option maxRecDepth 100000
open Go.ChangeShapes Go.WideShapes Go.ChangeAt Go.RowKit

theorem cells_ints : ∀ (cs : List Value), (∀ u ∈ cs, ∃ a : Int, u = .int .u8 a ∧ 0 ≤ a ∧ a < 256) → ∃ l : List Int, cs = IV .u8 l ∧ Bytes l
  | [], _ => ⟨[], rfl, Bytes.nil⟩
  | u :: r, h => by
    obtain ⟨a, rfl, h0, h1⟩ := h u (by simp)
    obtain ⟨l, rfl, hb⟩ := cells_ints r (fun v hv => h v (by simp [hv]))
    exact ⟨a :: l, rfl, Bytes.cons h0 h1 hb⟩
theorem open_a8 {H : Type} {enc : TypeId × Value → H} {w : World} {base b0 : Nat} {r : Reach} {sp : Nat → Bool} {held : Bool} {t : TypeId} {n : Nat} {v : Value} {d : DataW H} {p : List MemPlace}
    (ht : Tryd.prog.underlying t = some (.array n 5)) (hc : Tryd.prog.cellsOf t = n) (hv : Value.okWide Tryd.prog w r b0 t v) (h : DataW.Trod enc Tryd.prog w base sp held t v d p) :
    ∃ l : List Int, v = .agg (IV .u8 l).toArray ∧ l.length = n ∧ Bytes l := by
  simp only [Value.okWide, ht] at hv
  obtain ⟨cs, rfl, h2, _⟩ := hv
  obtain ⟨fuel, hf⟩ := h
  obtain ⟨xs, m, _, _, hl, hn, hel⟩ := DataW.trod_array ht hf
  have h1 : Tryd.prog.cellsOf 5 = 1 := by kernel_rfl
  have hcl : (Value.agg cs).cells = cs := rfl
  rw [hcl] at hel hl
  obtain ⟨l, e, hb⟩ := cells_ints cs.toList (fun u hu => by
    obtain ⟨i, hi, e⟩ := List.getElem_of_mem hu
    have hin : i < n := by rw [hl, hc] at hi; exact hi
    have hy := hel i hin
    rw [h1, Nat.mul_one, List.getElem?_eq_getElem (by omega : i < xs.length)] at hy
    have ed : (cs.toList.drop i).take 1 = [u] := by
      rw [List.drop_eq_getElem_cons hi, e]; rfl
    rw [ed] at hy
    obtain ⟨a, ea, _, wa⟩ := DataW.trod_int Tryd.underlying5 hy
    injection ea with ea
    exact ⟨a, ea, wf_u8 wa⟩)
  refine ⟨l, ?_, ?_, hb⟩
  · rw [← e]
  · have : cs.toList.length = n := by rw [hl, hc]
    rw [e, IV_length] at this
    exact this
end Go.Proofs.YtjibbegdieiknaaDoor

/-
  What the listed tables give the walks: SHA-256's start and rounds.
-/
namespace Go.Proofs.YtjibbegdieiknaaDoor
open Go.ChangeShapes Go.WideShapes Go.ChangeAt Go.RowKit

theorem start_list {H : Type} : (Rows.laid_colonnade_ring_start : DataW H) = Lib.tabData .u32 shaH := rfl
theorem rounds_list {H : Type} : (Rows.laid_colonnade_ring_rounds : DataW H) = Lib.tabData .u32 shaK := rfl
theorem tabs_of {W : World} (h : laidMetH Tryd.prog [("colonnade/ring.start", Rows.laid_colonnade_ring_start), ("colonnade/ring.rounds", Rows.laid_colonnade_ring_rounds)] W) : STab W ∧ KTab W := by
  rw [MakeChecks.laidMetH_plain _ _ _ (by kernel_rfl)] at h
  have h2 := h.tail
  rw [start_list] at h
  rw [rounds_list] at h2
  have hg1 : Tryd.prog.globalNamed "colonnade/ring.start" = some 0 := by kernel_rfl
  have hg2 : Tryd.prog.globalNamed "colonnade/ring.rounds" = some 3 := by kernel_rfl
  have t1 := Lib.tabIs_of_head (n := 8) (t := 132) (e := 77) hg1 (by kernel_rfl) Tryd.underlying132 Tryd.underlying77 (by kernel_rfl) (by kernel_rfl) h
  have t2 := Lib.tabIs_of_head (n := 64) (t := 148) (e := 77) hg2 (by kernel_rfl) Tryd.underlying148 Tryd.underlying77 (by kernel_rfl) (by kernel_rfl) h2
  have c1 : ∀ i x, shaH[i]? = some x → W.cell? ⟨0, i, none⟩ = some (.int .u32 x) := by
    intro i x hx
    have hi : i < shaH.length := by
      rcases Nat.lt_or_ge i shaH.length with h | h
      · exact h
      · rw [List.getElem?_eq_none h] at hx; cases hx
    have := t1.cell hg1 i hi
    rwa [List.getD_eq_getElem?_getD, hx] at this
  have c2 : ∀ i x, shaK[i]? = some x → W.cell? ⟨3, i, none⟩ = some (.int .u32 x) := by
    intro i x hx
    have hi : i < shaK.length := by
      rcases Nat.lt_or_ge i shaK.length with h | h
      · exact h
      · rw [List.getElem?_eq_none h] at hx; cases hx
    have := t2.cell hg2 i hi
    rwa [List.getD_eq_getElem?_getD, hx] at this
  exact ⟨⟨World.block_lt_of_cell? W _ (c1 0 _ rfl), c1⟩, ⟨World.block_lt_of_cell? W _ (c2 0 _ rfl), c2⟩⟩
end Go.Proofs.YtjibbegdieiknaaDoor

/-
  What the listed tables give the walks: the library's table of trailing zeros.
-/
namespace Go.Proofs.YtjibbegdieiknaaDoor
open Go.ChangeShapes Go.WideShapes Go.ChangeAt Go.RowKit

theorem tab_list {H : Type} : (Rows.laid_math_bits_deBruijn64tab : DataW H) = Lib.tabData .u8 [0, 1, 56, 2, 57, 49, 28, 3, 61, 58, 42, 50, 38, 29, 17, 4, 62, 47, 59, 36, 45, 43, 51, 22, 53, 39, 33, 30, 24, 18, 12, 5, 63, 55, 48, 27, 60, 41, 37, 16, 46, 35, 44, 21, 52, 32, 23, 11, 54, 26, 40, 15, 34, 20, 31, 10, 25, 14, 19, 9, 13, 8, 7, 6] := rfl
theorem tab_of {W : World} (h : laidMetH Tryd.prog [("math/bits.deBruijn32tab", Rows.laid_math_bits_deBruijn32tab), ("math/bits.deBruijn64tab", Rows.laid_math_bits_deBruijn64tab)] W) : Tab W := by
  rw [MakeChecks.laidMetH_plain _ _ _ (by kernel_rfl)] at h
  have h2 := h.tail
  rw [tab_list] at h2
  have hg : Tryd.prog.globalNamed "math/bits.deBruijn64tab" = some 2 := by kernel_rfl
  have ht := Lib.tabIs_of_head (n := 64) (t := 93) (e := 5) hg (by kernel_rfl) Tryd.underlying93 Tryd.underlying5 (by kernel_rfl) (by kernel_rfl) h2
  have c0 := ht.cell hg 0 (by decide)
  have c1 := ht.cell hg 1 (by decide)
  have c3 := ht.cell hg 3 (by decide)
  have c7 := ht.cell hg 7 (by decide)
  exact ⟨World.block_lt_of_cell? W _ c0, c0, c1, c3, c7⟩
end Go.Proofs.YtjibbegdieiknaaDoor

/-
  What the listed tables give parcel's walks: SHA-256's start and rounds, the library's table of trailing zeros.
-/
namespace Go.Proofs.YtjibbegdieiknaaDoor
open Go.ChangeShapes Go.WideShapes Go.ChangeAt Go.RowKit

theorem tabsP_of {W : World} (h : laidMetH Tryd.prog [("math/bits.deBruijn32tab", Rows.laid_math_bits_deBruijn32tab), ("math/bits.deBruijn64tab", Rows.laid_math_bits_deBruijn64tab), ("colonnade/ring.start", Rows.laid_colonnade_ring_start), ("colonnade/ring.rounds", Rows.laid_colonnade_ring_rounds)] W) : STab W ∧ KTab W ∧ Tab W := by
  rw [MakeChecks.laidMetH_plain _ _ _ (by kernel_rfl)] at h
  have h0 := h.tail
  have h1 := h0.tail
  have h2 := h1.tail
  rw [tab_list] at h0
  rw [start_list] at h1
  rw [rounds_list] at h2
  have hg0 : Tryd.prog.globalNamed "math/bits.deBruijn64tab" = some 2 := by kernel_rfl
  have hg1 : Tryd.prog.globalNamed "colonnade/ring.start" = some 0 := by kernel_rfl
  have hg2 : Tryd.prog.globalNamed "colonnade/ring.rounds" = some 3 := by kernel_rfl
  have t0 := Lib.tabIs_of_head (n := 64) (t := 93) (e := 5) hg0 (by kernel_rfl) Tryd.underlying93 Tryd.underlying5 (by kernel_rfl) (by kernel_rfl) h0
  have t1 := Lib.tabIs_of_head (n := 8) (t := 132) (e := 77) hg1 (by kernel_rfl) Tryd.underlying132 Tryd.underlying77 (by kernel_rfl) (by kernel_rfl) h1
  have t2 := Lib.tabIs_of_head (n := 64) (t := 148) (e := 77) hg2 (by kernel_rfl) Tryd.underlying148 Tryd.underlying77 (by kernel_rfl) (by kernel_rfl) h2
  have c1 : ∀ i x, shaH[i]? = some x → W.cell? ⟨0, i, none⟩ = some (.int .u32 x) := by
    intro i x hx
    have hi : i < shaH.length := by
      rcases Nat.lt_or_ge i shaH.length with h | h
      · exact h
      · rw [List.getElem?_eq_none h] at hx; cases hx
    have := t1.cell hg1 i hi
    rwa [List.getD_eq_getElem?_getD, hx] at this
  have c2 : ∀ i x, shaK[i]? = some x → W.cell? ⟨3, i, none⟩ = some (.int .u32 x) := by
    intro i x hx
    have hi : i < shaK.length := by
      rcases Nat.lt_or_ge i shaK.length with h | h
      · exact h
      · rw [List.getElem?_eq_none h] at hx; cases hx
    have := t2.cell hg2 i hi
    rwa [List.getD_eq_getElem?_getD, hx] at this
  have d0 := t0.cell hg0 0 (by decide)
  have d1 := t0.cell hg0 1 (by decide)
  have d3 := t0.cell hg0 3 (by decide)
  have d7 := t0.cell hg0 7 (by decide)
  exact ⟨⟨World.block_lt_of_cell? W _ (c1 0 _ rfl), c1⟩, ⟨World.block_lt_of_cell? W _ (c2 0 _ rfl), c2⟩, World.block_lt_of_cell? W _ d0, d0, d1, d3, d7⟩
end Go.Proofs.YtjibbegdieiknaaDoor
