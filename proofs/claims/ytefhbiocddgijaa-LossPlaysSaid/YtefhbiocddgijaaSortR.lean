/-
  slices.SortFunc at ranges, by their From: a permutation, in order; slices.SortedFunc(slices.Values(r), ..).
-/
import Derived.Shelf.SlSortCmp.WholeK
import Derived.Test.YtefhbiocddgijaaSortL
import Derived.Test.YtefhbiocddgijaaSeqR
import Derived.Test.YtefhbiocddgijaaCmpU
namespace Go.Proofs.Ytefhbiocddgijaa
open Go.RowKit Go.Sort
set_option linter.unusedVariables false
set_option linter.unusedSimpArgs false

theorem cmp_lt (x y : Int × Int) : ltOf (fun x y : Int × Int => cmpN x.1 y.1) x y = decide (x.1 < y.1) := by
  unfold ltOf cmpN
  by_cases h1 : x.1 < y.1
  · simp [h1]
  · by_cases h2 : y.1 < x.1 <;> simp [h1, h2]
theorem cmp_swo : SWO (ltOf fun x y : Int × Int => cmpN x.1 y.1) where
  irrefl x := by rw [cmp_lt]; simp
  trans x y z h1 h2 := by rw [cmp_lt] at *; simp at *; omega
  ntrans x y z h1 h2 := by rw [cmp_lt] at *; simp at *; omega

theorem flat_RgV (d : Array (Int × Int)) : (flatK PairC 2 d).toList = RgV d.toList := by
  apply List.ext_getElem
  · rw [RgV_length]; simp
  · intro t h1 h2
    have ht : t < d.size * 2 := by rw [RgV_length] at h2; simpa using h2
    have hx : d.toList[t / 2]? = some d[t / 2]! := by
      rw [getElem!_pos d (t / 2) (by omega)]
      simp [show t / 2 < d.size by omega]
    have e : (flatK PairC 2 d)[t]! = (PairC d[t / 2]!)[t % 2]! := get_flatK _ _ _ t ht
    have e1 : (flatK PairC 2 d).toList[t] = (flatK PairC 2 d)[t]! := by
      rw [getElem!_pos _ t (by simpa using ht)]
      simp
    rw [e1, e]
    rcases (show t % 2 = 0 ∨ t % 2 = 1 by omega) with h | h
    · have g := RgV_get0 hx
      rw [show t / 2 * 2 = t by omega, List.getElem?_eq_getElem h2] at g
      injection g with g
      rw [g, h]
      rfl
    · have g := RgV_get1 hx
      rw [show t / 2 * 2 + 1 = t by omega, List.getElem?_eq_getElem h2] at g
      injection g with g
      rw [g, h]
      rfl

theorem cmpR_any (x y : Int × Int) (W : World) : Calls Try.prog 38 #[.agg #[.int .u64 x.1, .int .u64 x.2], .agg #[.int .u64 y.1, .int .u64 y.2]] W fun e w' => e = .returned (.int .i64 (cmpN x.1 y.1)) ∧ ∃ q os', w' = grow (W.drewN q) os' := by
  have hcon := fun W' => Compare_any x.1 y.1 W'
  generalize cmpN x.1 y.1 = r at hcon ⊢
  go_enter Try.func38, Try.ntmps38
  go_wp2_with fail
  refine (hcon _).mono ?_
  rintro e w' ⟨rfl, rfl⟩
  go_wp2_with fail
  go_ret
  exact ⟨rfl, 0, _, by rw [alloc_eq_grow, alloc_eq_grow, grow_grow]; rfl⟩

/-- The sort's world: the row's block holds the new cells; blocks beyond; nothing else. -/
theorem sortWorld_is {w : World} {g : Nat} {t : TypeId} {cur : Array Value} (h : Blk w g t cur) (zs zs' : List (Int × Int)) (hl : zs'.length = zs.length) (hc : zs.length * 2 ≤ cur.size) (n : Nat) (os : Array Obj) :
    ∃ cur', Blk (sortWorldK PairC 2 w g 0 n zs'.toArray os) g t cur' ∧ cur'.size = cur.size ∧ cur'.toList.take (zs.length * 2) = RgV zs' ∧ w.grownBy (sortWorldK PairC 2 w g 0 n zs'.toArray os) (some g) := by
  have hlt := h.lt
  have hsz : (flatK PairC 2 zs'.toArray).size = zs.length * 2 := by simp [hl]
  refine ⟨putCells id 0 (flatK PairC 2 zs'.toArray) cur, ?_, by simp [putCells], ?_, ?_⟩
  · unfold Blk sortWorldK putRowK
    rw [heap_grow_old _ _ (by simp [putRow, mapBlock, ahead]; exact hlt)]
    have h' : w.heap[g]? = some (.cells cur t (0, 0)) := h
    simp [putRow, mapBlock, ahead, Array.getElem?_modify, h', onCells]
  · rw [← flat_RgV zs'.toArray]
    apply List.ext_getElem
    · simp [putCells]; omega
    · intro i h1 h2
      have hi : i < zs.length * 2 := by simp at h1; omega
      simp only [List.getElem_take, putCells, Array.getElem_toList, Array.getElem_mapIdx]
      rw [if_pos ⟨by omega, by omega⟩, Nat.sub_zero, getElem!_pos _ i (by omega)]
      rfl
  · refine ⟨rfl, rfl, rfl, by simp [sortWorldK, putRowK, putRow, mapBlock, ahead], fun k hk hne => ?_⟩
    unfold sortWorldK putRowK
    rw [heap_grow_old _ _ (by simp [putRow, mapBlock, ahead]; exact hk)]
    have : g ≠ k := fun e => hne (by rw [e])
    simp [putRow, mapBlock, ahead, Array.getElem?_modify, this]

theorem holds_of {w : World} {g : Nat} {t : TypeId} {cur : Array Value} {zs : List (Int × Int)} (h : Blk w g t cur) (ht : cur.toList.take (zs.length * 2) = RgV zs) (hc : zs.length * 2 ≤ cur.size) : HoldsK PairC 2 w g 0 zs.toArray := fun j hj => by
  have hj' : j < zs.length * 2 := by simpa using hj
  refine ⟨?_, by rw [Nat.zero_add]; exact h.frozen j⟩
  rw [Nat.zero_add, h.cell j]
  have e1 : cur.toList[j]? = (RgV zs)[j]? := by rw [← ht, List.getElem?_take, if_pos hj']
  have e2 : (RgV zs)[j]? = some ((flatK PairC 2 zs.toArray)[j]!) := by
    rw [← flat_RgV zs.toArray, getElem!_pos _ j hj]
    simp [hj']
  simpa using e1.trans e2
theorem sorted_of {d : Array (Int × Int)} (h : SortedIn (ltOf fun x y : Int × Int => cmpN x.1 y.1) 0 d.size d) : d.toList.Pairwise (fun a b => a.1 ≤ b.1) := by
  rw [List.pairwise_iff_getElem]
  intro i j hi hj hij
  have hi' : i < d.size := by simpa using hi
  have hj' : j < d.size := by simpa using hj
  have := h i j (by omega) hij hj'
  rw [cmp_lt, getElem!_pos d i hi', getElem!_pos d j hj'] at this
  simp only [Array.getElem_toList]
  have : ¬ d[j].1 < d[i].1 := by simpa using this
  omega
theorem perm_of {d d' : Array (Int × Int)} (h : PermIn 0 d.size d d') : d'.toList.Perm d.toList := by
  obtain ⟨h1, _, h3⟩ := h
  have e1 : d.extract 0 d.size = d := by simp
  have e2 : d'.extract 0 d.size = d' := by rw [← h1]; simp
  rwa [e1, e2] at h3

theorem ins_none (p : Option Addr) (cap : Nat) (fv : Value) (w : World) : Calls Try.prog 48 #[.slice p 0 cap, .int .i64 0, .int .i64 0, fv] w fun e w' => e = .returned (.tuple #[]) ∧ w' = w := by
  go_enter Try.func48, Try.ntmps48
  go_wp2_with fail
  go_loopw [8] (fun i wr => i = .int .i64 1 ∧ wr = w) (fun _ _ => 0)
  case atStart => exact ⟨rfl, rfl⟩
  case round =>
    obtain ⟨rfl, rfl⟩ := hrel
    go_wp2_with fail
    go_end0
    exact ⟨rfl, rfl⟩
set_option maxRecDepth 100000 in
theorem pdq_none (p : Option Addr) (cap : Nat) (lim : Int) (fv : Value) (w : World) : Calls Try.prog 46 #[.slice p 0 cap, .int .i64 0, .int .i64 0, .int .i64 lim, fv] w fun e w' => e = .returned (.tuple #[]) ∧ w' = w := by
  have HI := fun W => ins_none p cap fv W
  go_enter Try.func46, Try.ntmps46
  go_wp2_with fail
  go_loopw [1, 2] (fun a b wr => a = .int .i64 0 ∧ b = .int .i64 0 ∧ wr = w) (fun _ _ _ => 0)
  case atStart => exact ⟨rfl, rfl, rfl⟩
  case round =>
    obtain ⟨rfl, rfl, rfl⟩ := hrel
    go_wp2_with fail
    refine (HI _).mono ?_
    rintro e w' ⟨rfl, rfl⟩
    go_wp2_with fail
    refine bodyPost_ret (results_none rfl _ _ _) rfl ⟨rfl, rfl⟩
theorem sort_none (p : Option Addr) (cap : Nat) (fv : Value) (w : World) : Calls Try.prog 43 #[.slice p 0 cap, fv] w fun e w' => e = .returned (.tuple #[]) ∧ w' = w := by
  have HI := fun lim W => pdq_none p cap lim fv W
  have hl : ∀ W, Calls Try.prog 47 #[.int .u64 0] W fun e w' => e = .returned (.int .i64 (Lib.bitLen 0 : Nat)) ∧ w' = W := fun W =>
    Any.bits_Len (SlLaysF0.n15.bits (P := Try.prog) (ρ := Try.sortG_ren) { Try.sortG with }) 0 W (by omega) (by omega)
  go_enter Try.func43, Try.ntmps43
  go_wp2_with fail
  refine (hl _).mono ?_
  rintro e w' ⟨rfl, rfl⟩
  go_wp2_with fail
  refine (HI _ _).mono ?_
  rintro e w' ⟨rfl, rfl⟩
  go_wp2_with fail
  go_end0
  exact ⟨rfl, rfl⟩
theorem sort_any (base : Nat) (A : Option Addr) (c : Nat) (zs : List (Int × Int)) (w : World) (h : OwnG w base A c zs) (hbase : base ≤ w.heap.size) (hlen : zs.length < 4611686018427387904) :
    Calls Try.prog 43 #[.slice A zs.length c, .func (.func 38) #[] #[]] w fun e w' => e = .returned (.tuple #[]) ∧ ∃ zs', zs'.Perm zs ∧ zs'.Pairwise (fun a b => a.1 ≤ b.1) ∧ OwnG w' base A c zs' ∧ Below base w w' := by
  rcases Nat.eq_zero_or_pos zs.length with h0 | h0
  · have e0 : zs = [] := List.eq_nil_of_length_eq_zero h0
    subst e0
    refine (sort_none A c _ w).mono ?_
    rintro e w' ⟨rfl, rfl⟩
    exact ⟨rfl, [], .refl _, List.Pairwise.nil, h, Below.refl _ _⟩
  · rcases h.2 with ⟨_, h1⟩ | ⟨g, cap, cur, hv, hb, hh, hnc, hcm, hsz, htk⟩
    · omega
    · injection hv with e1 e2 e3
      subst e1
      subst e3
      have hc : zs.length * 2 ≤ cur.size := by rw [hsz]; exact Nat.mul_le_mul_right _ hnc
      have hB : Blk w g 61 cur := hh
      have eg : ∀ args w, (callFunc 38 args).run Try.prog w = .ok (.enter 38 args) w := enters_of Try.func38 (by kernel_rfl) rfl
      have hcon := AnyQ.slices_SortFunc Try.sortG 2 Try.isAgg61 Try.sizeOf61 PairC (fun _ => rfl) (fun x v hv => by simp [PairC] at hv; rcases hv with rfl | rfl <;> rfl) (fun x y => cmpN x.1 y.1) cmp_swo 38 #[] g 0 c zs.toArray w eg
        (fun _ _ _ _ x y => cmpR_any x y _) (holds_of hB htk hc) hB.lt (by simpa using hlen)
      change Calls Try.prog 43 _ _ _ at hcon
      refine hcon.mono ?_
      rintro e w' ⟨rfl, d', n, os, hp, hs, rfl⟩
      have hsz' : d'.size = zs.length := by simpa using hp.1
      have hl' : d'.toList.length = zs.length := by simpa using hsz'
      obtain ⟨cur', k1, k2, k3, k4⟩ := sortWorld_is hB zs d'.toList hl' hc n os
      refine ⟨rfl, d'.toList, by simpa using perm_of hp, ?_, ⟨by rw [RgV_length], .inr ⟨g, c, cur', by rw [hl'], hb, k1, by rw [hl']; exact hnc, hcm, by rw [k2]; exact hsz, by rw [hl']; exact k3⟩⟩, (Below.refl base w).grown k4 hbase (fun k hk => by injection hk with hk; omega)⟩
      have e9 : zs.toArray.size = d'.size := by rw [hsz']; simp
      rw [e9] at hs
      exact sorted_of hs
theorem SortedFunc_any (Bs : Nat) (A : Option Addr) (c : Nat) (zs : List (Int × Int)) (hlen : zs.length ≤ 8796093022207) (w : World) (hBs : Bs < w.heap.size)
    (hc : w.cell? ⟨Bs, 0, none⟩ = some (.slice A zs.length c)) (hI : Reads w w.heap.size 2 A zs.length (RgV zs)) :
    Calls Try.prog 36 #[.func (.func 44) #[] #[.pointer (some ⟨Bs, 0, none⟩)], .func (.func 38) #[] #[]] w fun e w' =>
      ∃ A' c' zs', e = .returned (.slice A' zs'.length c') ∧ zs'.Perm zs ∧ zs'.Pairwise (fun a b => a.1 ≤ b.1) ∧ OwnG w' w.heap.size A' c' zs' ∧ Below w.heap.size w w' := by
  have HC := Collect_any Bs A c zs hlen w hBs hc hI
  have HS := fun A' c' W h1 h2 => sort_any w.heap.size A' c' zs W h1 h2 (by omega)
  clear hc hI
  go_enter Try.func36, Try.ntmps36
  go_wp2_with fail
  refine HC.mono ?_
  rintro e w' ⟨A', c', rfl, h1, h2⟩
  go_wp2_with fail
  refine (HS A' c' _ h1 h2.size).mono ?_
  rintro e w2 ⟨rfl, zs', hp, hs, h3, h4⟩
  go_wp2_with fail
  go_ret
  exact ⟨_, _, zs', by rw [hp.length_eq]; rfl, hp, hs, h3, h2.trans h4⟩
end Go.Proofs.Ytefhbiocddgijaa
