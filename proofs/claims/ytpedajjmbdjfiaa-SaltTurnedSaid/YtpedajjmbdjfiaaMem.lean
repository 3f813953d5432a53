/-
  Whole blocks, cells of integers, frames: what the walks of this seat have in common.
-/
import Derived.Test.YtpedajjmbdjfiaaInts
import Derived.Test.YtpedajjmbdjfiaaShaSpec
import Derived.Laws.CopyOwn
import Derived.Deep.MidRow
import Derived.Deep.OwnRows
import Derived.Deep.RegionHeld3
import Derived.IntWalk
import Derived.Stop.BytesEq
import Derived.Lib.SmallJoins
namespace Go.Proofs.Ytpedajjmbdjfiaa
open Go.RowKit
set_option linter.unusedVariables false

def rotS (k : Int) : Nat := (bits .and .u64 (IntKind.u64.wrap k) 31).toNat
theorem rotS_is (k : Int) : bits .and .u64 (IntKind.u64.wrap k) 31 = (rotS k : Int) ∧ rotS k < 32 := by
  unfold rotS
  rw [IntKind.wrap_u64, u64_and _ _ (by omega) (by omega) (by omega) (by omega)]
  have : ((31 : Int).toNat) = 31 := rfl
  rw [this, nat_mask5]
  omega
set_option maxHeartbeats 400000 in
theorem rot_any (x k : Int) (w : World) (h0 : 0 ≤ x) (h1 : x < 4294967296) :
    Calls Try.prog 49 #[.int .u32 x, .int .i64 k] w fun e w' => e = .returned (.int .u32 (rotl x (rotS k))) ∧ w = w' := by
  obtain ⟨hk, hs⟩ := rotS_is k
  generalize rotS k = s at hk hs ⊢
  go_enter Try.func49, Try.ntmps49
  go_wp2
  go_ret
  exact ⟨rfl, rfl⟩

theorem Blk.store_i {w : World} {g : Nat} {t : TypeId} {k : IntKind} {l : List Int} (h : Blk w g t (IV k l).toArray) (i : Nat) (x : Int) : Blk (w.setCell ⟨g, i, none⟩ (.int k x)) g t (IV k (l.set i x)).toArray := by
  have := h.set_ i (.int k x)
  simpa [IV, List.map_set] using this
theorem Blk.cell_i {w : World} {g : Nat} {t : TypeId} {k : IntKind} {l : List Int} (h : Blk w g t (IV k l).toArray) {i : Nat} {x : Int} (hx : l[i]? = some x) : w.cell? ⟨g, i, none⟩ = some (.int k x) := by
  rw [h.cell]; simp [IV, hx]

theorem Blk.row {w : World} {g : Nat} {t : TypeId} {cs : Array Value} (h : Blk w g t cs) (cs' : Array Value) : Blk (w.setRow g cs') g t cs' := by
  unfold Blk at h ⊢
  simp [World.setRow, Array.getElem?_modify, h]
theorem only_drewN {a w : World} {row : Option Nat} (h : a.grownBy w row) (n : Nat) : a.grownBy (w.drewN n) row := ⟨h.os, h.tape, h.output, h.size, h.block⟩
theorem only_setCell {a w : World} {g : Nat} (h : a.grownBy w (some g)) {p : Addr} (hp : p.block = g ∨ a.heap.size ≤ p.block) (u : Value) : a.grownBy (w.setCell p u) (some g) :=
  ⟨h.os, h.tape, h.output, by simpa [World.setCell] using h.size, fun i hi hne => (Below.heap_setCell w p u i (by
    rintro rfl
    rcases hp with hp | hp
    · exact hne (by rw [hp])
    · omega)).trans (h.block i hi hne)⟩
theorem only_of_below {a w : World} (h : Below a.heap.size a w) (row : Option Nat) : a.grownBy w row := ⟨h.os, h.tape, h.output, h.size, fun i hi _ => h.block i hi⟩
theorem only_trans {a b c : World} {row : Option Nat} (h : a.grownBy b row) (k : b.grownBy c row) : a.grownBy c row :=
  ⟨k.os.trans h.os, k.tape.trans h.tape, k.output.trans h.output, Nat.le_trans h.size k.size, fun i hi hne => (k.block i (Nat.lt_of_lt_of_le hi h.size) hne).trans (h.block i hi hne)⟩
theorem only_setCells {a : World} {g : Nat} : ∀ (vs : List Value) (o : Nat) (w : World), a.grownBy w (some g) → a.grownBy (w.setCells g o vs) (some g)
  | [], _, _, h => h
  | v :: r, o, w, h => only_setCells r (o + 1) _ (only_setCell h (.inl rfl) v)

theorem blk_second (w : World) (o : Obj) (t : TypeId) (cs : Array Value) : Blk ((w.alloc o).alloc (.cells cs t)) (w.heap.size + 1) t cs := by
  have h := Blk.new (w.alloc o) t cs
  have e : (w.alloc o).heap.size = w.heap.size + 1 := by simp
  rw [e] at h
  exact h

theorem made_u8 (n : Nat) : madeCells #[Value.int .u8 0] n = (IV .u8 (List.replicate n 0)).toArray := by
  apply Array.ext
  · simp [size_madeCells, IV]
  · intro i h1 h2
    simp [madeCells, IV, Nat.mod_one]
theorem Blk.rd {w : World} {g : Nat} {t : TypeId} {l : List Int} (h : Blk w g t (IV .u8 l).toArray) : Rd w (some ⟨g, 0, none⟩) l :=
  ⟨by simp [U8], fun _ => ⟨_, rfl, h.lt, fun j u hu => by
    rw [Addr.add_mid, Nat.zero_add, h.cell]
    simpa [U8, IV] using hu⟩⟩
theorem Blk.sl {w : World} {g : Nat} {t : TypeId} {l : List Int} (h : Blk w g t (IV .u8 l).toArray) {n c : Nat} (hn : l.length = n) (hc : n ≤ c) (hm : c ≤ 9223372036854775807) : Sl w (some ⟨g, 0, none⟩) c l :=
  ⟨h.rd, by omega, hm, by intro h; cases h⟩
theorem Blk.range {w : World} {g : Nat} {t : TypeId} {cs : List Value} (h : Blk w g t cs.toArray) : w.rangeAt g 0 cs := fun j v hj => by
  rw [Nat.zero_add, h.cell]
  simpa using hj
theorem Blk.there_ {w : World} {g : Nat} {t : TypeId} {cs : Array Value} (h : Blk w g t cs) {n : Nat} (hn : n ≤ cs.size) : w.there g 0 n := fun j hj => by
  rw [Nat.zero_add]
  exact ⟨by rw [h.cell, Array.getElem?_eq_getElem (by omega)]; rfl, h.frozen j⟩
theorem Blk.setPut {g : Nat} {t : TypeId} : ∀ (vs : List Value) (o : Nat) (cs : List Value) (w : World), Blk w g t cs.toArray → o + vs.length ≤ cs.length → Blk (w.setCells g o vs) g t (cs.take o ++ vs ++ cs.drop (o + vs.length)).toArray
  | [], o, cs, w, h, _ => by simpa [World.setCells] using h
  | v :: r, o, cs, w, h, hl => by
    simp only [List.length_cons] at hl
    have h1 := h.set_ o v
    rw [List.setIfInBounds_toArray] at h1
    have h2 := Blk.setPut r (o + 1) (cs.set o v) _ h1 (by rw [List.length_set]; omega)
    have e : (cs.set o v).take (o + 1) ++ r ++ (cs.set o v).drop (o + 1 + r.length) = cs.take o ++ (v :: r) ++ cs.drop (o + (v :: r).length) := by
      rw [List.drop_set_of_lt (by omega), List.take_set, List.set_eq_take_append_cons_drop, if_pos (by rw [List.length_take]; omega), List.length_cons, show o + 1 + r.length = o + (r.length + 1) by omega]
      rw [List.take_take, Nat.min_eq_left (by omega), List.drop_of_length_le (by rw [List.length_take]; omega)]
      simp
    rw [e] at h2
    exact h2
theorem Blk.setAll {w : World} {g : Nat} {t : TypeId} {cs : Array Value} (h : Blk w g t cs) {vs : List Value} (hl : vs.length = cs.size) : Blk (w.setCells g 0 vs) g t vs.toArray := by
  have h1 := Blk.setPut vs 0 cs.toList w (by simpa using h) (by simp [hl])
  have e : cs.toList.take 0 ++ vs ++ cs.toList.drop (0 + vs.length) = vs := by
    rw [List.drop_of_length_le (by simp [hl])]
    simp
  rw [e] at h1
  exact h1
theorem below_setCells {B : Nat} {a w : World} (h : Below B a w) {g : Nat} (hg : B ≤ g) (hB : B ≤ w.heap.size) (o : Nat) (vs : List Value) : Below B a (w.setCells g o vs) :=
  h.grown (only_setCells vs o w (World.grownBy.refl w _)) hB (by rintro _ ⟨⟩; exact hg)
theorem grown_below {B : Nat} {a w w' : World} {g : Nat} (h : Below B a w) (hg : w.grownBy w' (some g)) (hB : B ≤ w.heap.size) (hr : B ≤ g) : Below B a w' := h.grown hg hB (by rintro _ ⟨⟩; exact hr)

theorem Sl.alloc {w : World} {A : Option Addr} {c : Nat} {l : List Int} (h : Sl w A c l) (o : Obj) : Sl (w.alloc o) A c l := h.below ((Below.refl _ _).alloc (Nat.le_refl _) _)
theorem bytes_cells {l : List Int} (h : Bytes l) : IV .u8 l = (l.map fun n : Int => UInt8.ofNat n.toNat).map Extern.Stop.cell := by
  unfold IV
  rw [List.map_map]
  refine List.map_congr_left fun x hx => ?_
  have := h x hx
  simp only [Function.comp, Extern.Stop.cell, UInt8.toNat_ofNat']
  congr 1
  show x = ((x.toNat % 2 ^ 8 : Nat) : Int)
  omega
/-- A slice literal of bytes, marked or not. -/
theorem lit_sl {w : World} (l : List Int) (fr : Nat × Nat) (hb : l.length ≤ 1000) {g n : Nat} (hg : g = w.heap.size) (hn : n = l.length) : Sl (w.alloc (.cells (IV .u8 l).toArray 5 fr)) (some ⟨g, 0, none⟩) n l := by
  subst hg
  subst hn
  refine ⟨⟨by simp [U8], fun _ => ⟨_, rfl, by simp, fun j u hu => ?_⟩⟩, Nat.le_refl _, by omega, by intro h; cases h⟩
  rw [Addr.add_mid, Nat.zero_add, World.cell?_alloc_mark]
  simpa [U8, IV] using hu

theorem zeros_bytes (n : Nat) : Bytes (List.replicate n 0) := by
  intro x hx
  rw [List.eq_of_mem_replicate hx]
  decide
theorem xor8 {a b : Int} (ha : 0 ≤ a ∧ a < 256) (hb : 0 ≤ b ∧ b < 256) : 0 ≤ bits .xor .u8 a b ∧ bits .xor .u8 a b < 256 := by
  obtain ⟨x, rfl⟩ := Int.eq_ofNat_of_zero_le ha.1
  obtain ⟨y, rfl⟩ := Int.eq_ofNat_of_zero_le hb.1
  rw [u8_xor_nat x y (by omega) (by omega)]
  have : x ^^^ y < 2 ^ 8 := Nat.xor_lt_two_pow (by omega) (by omega)
  omega
end Go.Proofs.Ytpedajjmbdjfiaa
