/-
  A quilt in memory; patch.
-/
import Derived.Test.YtdafeokjedmnkaaDoorQuiltD
import Derived.Test.YtdafeokjedmnkaaDoorQuiltE
import Derived.Carry
namespace Go.Proofs.YtdafeokjedmnkaaDoor
open Go.RowKit Go.Maps
set_option linter.unusedVariables false
set_option linter.unusedSimpArgs false
def QV (M : Value) (rd wh hi hd : Int) (en : Bool) : Array Value := #[M, .int .u64 rd, .int .u64 wh, .int .u64 hi, .int .i64 hd, .bool en]
/-- The patches: the map at B, by their numbers; from rd on they hold what f says. -/
structure PatAt (w : World) (base B n : Nat) (pt : Int → Option Nat) (f : Int → Option Int) (rd : Int) : Prop where
  map : MapU w B n pt
  bge : base ≤ B
  ent : ∀ j g, pt j = some g → 0 ≤ j ∧ base ≤ g ∧ ∃ c m H bs, PatchIs w g c m H bs ∧ ∀ i : Nat, i < 64 → rd ≤ 64 * j + i → c i = f (64 * j + i)
  inj : ∀ j j' g, pt j = some g → pt j' = some g → j = j'
  has : ∀ x, rd ≤ x → f x ≠ none → pt (x / 64) ≠ none
def Pat (w : World) (base : Nat) (M : Value) (n : Nat) (f : Int → Option Int) (rd : Int) : Prop :=
  (M = .map none ∧ ∀ x, rd ≤ x → f x = none) ∨ ∃ B pt, M = .map (some B) ∧ PatAt w base B n pt f rd
/-- A block of cells, whatever of it is frozen. -/
def Row (w : World) (g : Nat) (t : TypeId) (cs : Array Value) (fr : Nat × Nat) : Prop := w.heap[g]? = some (.cells cs t fr)
theorem Blk.toRow {w : World} {g : Nat} {t : TypeId} {cs : Array Value} (h : Blk w g t cs) : Row w g t cs (0, 0) := h
theorem Row.lt {w : World} {g : Nat} {t : TypeId} {cs : Array Value} {fr : Nat × Nat} (h : Row w g t cs fr) : g < w.heap.size := by
  rcases Nat.lt_or_ge g w.heap.size with hlt | hge
  · exact hlt
  · unfold Row at h; rw [Array.getElem?_eq_none hge] at h; cases h
theorem Row.alloc {w : World} {g : Nat} {t : TypeId} {cs : Array Value} {fr : Nat × Nat} (h : Row w g t cs fr) (o : Obj) : Row (w.alloc o) g t cs fr := (Below.heap_alloc w o g h.lt).trans h
theorem Row.far {w : World} {g : Nat} {t : TypeId} {cs : Array Value} {fr : Nat × Nat} (h : Row w g t cs fr) {p : Addr} (hp : g ≠ p.block) (u : Value) : Row (w.setCell p u) g t cs fr := (Below.heap_setCell w p u g hp).trans h
theorem Row.grown {w w' : World} {g : Nat} {t : TypeId} {cs : Array Value} {fr : Nat × Nat} {row : Option Nat} (h : Row w g t cs fr) (hb : w.grownBy w' row) (hg : some g ≠ row) : Row w' g t cs fr := (hb.block g h.lt hg).trans h
theorem Row.below {w w' : World} {g B : Nat} {t : TypeId} {cs : Array Value} {fr : Nat × Nat} (h : Row w g t cs fr) (hb : Below B w w') (hg : g < B) : Row w' g t cs fr := (hb.block g hg).trans h
theorem Row.ne_ {w : World} {g g' : Nat} {t t' : TypeId} {cs cs' : Array Value} {fr fr' : Nat × Nat} (h : Row w g t cs fr) (h' : Row w g' t' cs' fr') (hne : t ≠ t') : g ≠ g' := by
  rintro rfl
  unfold Row at h h'
  rw [h] at h'
  injection h' with h'
  injection h' with _ ht
  exact hne ht
/-- Blocks that are neither this quilt nor a patch stand. -/
def KeepT (w w' : World) (g : Nat) : Prop := (∀ q t cs fr, q ≠ g → t ≠ 67 → Row w q t cs fr → Row w' q t cs fr) ∧
  ∀ q es ck, w.heap[q]? = some (.map es ck) → w.cell? ⟨g, 0, none⟩ ≠ some (.map (some q)) → w'.heap[q]? = some (.map es ck) ∧ w'.cell? ⟨g, 0, none⟩ ≠ some (.map (some q))
theorem KeepT.refl (w : World) (g : Nat) : KeepT w w g := ⟨fun _ _ _ _ _ _ h => h, fun _ _ _ h1 h2 => ⟨h1, h2⟩⟩
theorem KeepT.trans {a b c : World} {g : Nat} (h : KeepT a b g) (k : KeepT b c g) : KeepT a c g := ⟨fun q t cs fr h1 h2 h3 => k.1 q t cs fr h1 h2 (h.1 q t cs fr h1 h2 h3), fun q es ck h1 h2 => by
  obtain ⟨h3, h4⟩ := h.2 q es ck h1 h2
  exact k.2 q es ck h3 h4⟩
theorem KeepT.blk {a b : World} {g : Nat} (h : KeepT a b g) {q : Nat} {t : TypeId} {cs : Array Value} (h1 : q ≠ g) (h2 : t ≠ 67) (h3 : Blk a q t cs) : Blk b q t cs := h.1 q t cs (0, 0) h1 h2 h3
theorem lt_of_heap {w : World} {q : Nat} {o : Obj} (h : w.heap[q]? = some o) : q < w.heap.size := by
  rcases Nat.lt_or_ge q w.heap.size with hlt | hge
  · exact hlt
  · rw [Array.getElem?_eq_none hge] at h; cases h
theorem keepT_grow {w w' : World} {g : Nat} {t0 : TypeId} {cs0 : Array Value} {row : Option Nat} (hq : Blk w g t0 cs0) (hg : w.grownBy w' row) (hne : some g ≠ row) (h1 : ∀ q t cs fr, q ≠ g → t ≠ 67 → Row w q t cs fr → some q ≠ row)
    (h2 : ∀ q es ck, w.heap[q]? = some (.map es ck) → w.cell? ⟨g, 0, none⟩ ≠ some (.map (some q)) → some q ≠ row) : KeepT w w' g :=
  ⟨fun q t cs fr a b c => c.grown hg (h1 q t cs fr a b c), fun q es ck a b => ⟨(hg.block q (lt_of_heap a) (h2 q es ck a b)).trans a, by
    rw [World.cell?_of_block (w := w) (a := ⟨g, 0, none⟩) (hg.block g hq.lt hne)]
    exact b⟩⟩
theorem MapU.ne {w : World} {B n : Nat} {pt : Int → Option Nat} (h : MapU w B n pt) {g : Nat} {t : TypeId} {cs : Array Value} (k : Blk w g t cs) : g ≠ B := by
  intro e
  subst e
  obtain ⟨D, ⟨es, ck, hb, _⟩, _⟩ := h
  rw [show w.heap[g]? = _ from k] at hb
  cases hb
theorem MapU.neR {w : World} {B n : Nat} {pt : Int → Option Nat} (h : MapU w B n pt) {g : Nat} {t : TypeId} {cs : Array Value} {fr : Nat × Nat} (k : Row w g t cs fr) : g ≠ B := by
  intro e
  subst e
  obtain ⟨D, ⟨es, ck, hb, _⟩, _⟩ := h
  rw [show w.heap[g]? = _ from k] at hb
  cases hb
theorem keepT_gb {w w' : World} {g B n : Nat} {pt : Int → Option Nat} {rd wh hi hd : Int} {en : Bool} (hq : Blk w g 63 (QV (.map (some B)) rd wh hi hd en)) (h : MapU w B n pt) (hg : w.grownBy w' (some B)) : KeepT w w' g :=
  keepT_grow hq hg (by intro e; injection e with e; exact h.ne hq e) (fun q t cs fr h1 h2 h3 e => by injection e with e; exact h.neR h3 e) (fun q es ck h1 h2 e => by
    injection e with e
    subst e
    exact h2 (hq.cell 0))
theorem keepT_alloc (w : World) (g : Nat) (hg : g < w.heap.size) (o : Obj) : KeepT w (w.alloc o) g := ⟨fun q t cs fr h1 h2 h3 => h3.alloc o, fun q es ck h1 h2 => ⟨(Below.heap_alloc w o q (lt_of_heap h1)).trans h1, by
  rw [World.cell?_of_block (w := w) (a := ⟨g, 0, none⟩) (Below.heap_alloc w o g hg)]
  exact h2⟩⟩
theorem keepT_set {w : World} {g : Nat} {t : TypeId} {cs : Array Value} (hq : Blk w g t cs) (i : Nat) (u : Value) (hu : i = 0 → ∀ q, q < w.heap.size → u ≠ .map (some q)) : KeepT w (w.setCell ⟨g, i, none⟩ u) g := by
  refine ⟨fun q t cs fr h1 h2 h3 => h3.far h1 u, fun q es ck h1 h2 => ⟨?_, ?_⟩⟩
  · have hne : q ≠ g := by
      intro e
      subst e
      rw [show w.heap[q]? = _ from hq] at h1
      cases h1
    exact (Below.heap_setCell w ⟨g, i, none⟩ u q hne).trans h1
  · rw [(Blk.set_ hq i u).cell 0]
    by_cases hi : i = 0
    · subst hi
      intro e
      by_cases h0 : 0 < cs.size
      · rw [Array.getElem?_setIfInBounds_self_of_lt h0] at e
        injection e with e
        exact hu rfl q (lt_of_heap h1) e
      · rw [Array.getElem?_eq_none (by rw [Array.size_setIfInBounds]; exact Nat.le_of_not_lt h0)] at e
        cases e
    · rw [Array.getElem?_setIfInBounds_ne hi, ← hq.cell 0]
      exact h2
theorem eqlMapS (B : Nat) (w : World) : (binOp .eql 61 (.map (some B)) (.map none)).run Tryd.prog w = .ok (.bool false) w := by kernel_rfl
theorem eqlMapN (w : World) : (binOp .eql 61 (.map none) (.map none)).run Tryd.prog w = .ok (.bool true) w := by kernel_rfl
theorem zeroPatch : ∃ Z : Array Value, Z = (Value.int .u64 ((0 : Nat) : Int) :: U8 (List.replicate 64 0)).toArray ∧ ∀ w : World, (zeroValue 67).run Tryd.prog w = .ok (.agg Z) w := ⟨_, rfl, fun w => by kernel_rfl⟩
theorem patch_new {w : World} {g : Nat} {Z : Array Value} (hZ : Z = (Value.int .u64 ((0 : Nat) : Int) :: U8 (List.replicate 64 0)).toArray) (hb : Blk w g 67 Z) : PatchIs w g (fun _ => none) 0 0 (List.replicate 64 0) := by
  subst hZ
  refine ⟨hb, by omega, by simp, ?_, ?_, by decide⟩
  · intro x hx
    have := List.eq_of_mem_replicate hx
    omega
  · intro i hi
    rw [Nat.zero_testBit]
    rfl
/-- The world grew at blocks that are no patch of this map. -/
theorem PatAt.grown {w w' : World} {base B n : Nat} {pt : Int → Option Nat} {f : Int → Option Int} {rd : Int} {row : Option Nat} (h : PatAt w base B n pt f rd) (hg : w.grownBy w' row) (hB : some B ≠ row) (hp : ∀ j g, pt j = some g → some g ≠ row) : PatAt w' base B n pt f rd := by
  refine ⟨h.map.kept hg hB, h.bge, fun j g hj => ?_, h.inj, h.has⟩
  obtain ⟨h1, h2, c, m, H, bs, h3, h4⟩ := h.ent j g hj
  exact ⟨h1, h2, c, m, H, bs, h3.keep (h3.blk.grown hg (hp j g hj)), h4⟩
theorem PatAt.block {w : World} {base B n : Nat} {pt : Int → Option Nat} {f : Int → Option Int} {rd : Int} (h : PatAt w base B n pt f rd) {j : Int} {g : Nat} (hj : pt j = some g) : ∃ cs, Blk w g 67 cs := by
  obtain ⟨h1, h2, c, m, H, bs, h3, h4⟩ := h.ent j g hj
  exact ⟨_, h3.blk⟩
/-- A new patch comes in. -/
theorem PatAt.add {w w' : World} {base B n : Nat} {pt : Int → Option Nat} {f : Int → Option Int} {rd : Int} {Z : Array Value} {number : Int} {gp : Nat} (h : PatAt w base B n pt f rd)
    (hZ : Z = (Value.int .u64 ((0 : Nat) : Int) :: U8 (List.replicate 64 0)).toArray) (hn : pt number = none) (h0 : 0 ≤ number) (hgp : gp = w.heap.size) (hbase : base ≤ gp) (hm : MapU w' B (n + 1) (fun y => if y = number then some gp else pt y)) (hg : (w.alloc (.cells Z 67)).grownBy w' (some B)) :
    PatAt w' base B (n + 1) (fun y => if y = number then some gp else pt y) f rd := by
  have hB := h.map.lt
  have hnew : Blk w' gp 67 Z := by
    rw [hgp]
    exact (Blk.new w _ _).grown hg (by intro e; injection e with e; omega)
  refine ⟨hm, h.bge, fun j g hj => ?_, fun j j' g hj hj' => ?_, fun x hx hf => ?_⟩
  · by_cases hjn : j = number
    · rw [if_pos hjn] at hj
      injection hj with hj
      subst hj
      refine ⟨by omega, hbase, _, _, _, _, patch_new hZ hnew, fun i hi hr => ?_⟩
      have hd : (64 * j + (i : Int)) / 64 = number := by omega
      by_cases hf : f (64 * j + i) = none
      · rw [hf]
      · exact absurd hn (by have := h.has _ hr hf; rw [hd] at this; exact this)
    · rw [if_neg hjn] at hj
      obtain ⟨h1, h2, c, m, H, bs, h3, h4⟩ := h.ent j g hj
      refine ⟨h1, h2, c, m, H, bs, h3.keep ((h3.blk.alloc _).grown hg (by intro e; injection e with e; exact h.map.ne h3.blk e)), h4⟩
  · have hlt : ∀ k g, pt k = some g → g ≠ gp := fun k g hk e => by
      obtain ⟨cs, hb⟩ := h.block hk
      have := hb.lt
      omega
    by_cases hjn : j = number
    · by_cases hjn' : j' = number
      · omega
      · rw [if_pos hjn] at hj
        rw [if_neg hjn'] at hj'
        injection hj with hj
        exact absurd hj.symm (hlt j' g hj')
    · rw [if_neg hjn] at hj
      by_cases hjn' : j' = number
      · rw [if_pos hjn'] at hj'
        injection hj' with hj'
        exact absurd hj'.symm (hlt j g hj)
      · rw [if_neg hjn'] at hj'
        exact h.inj j j' g hj hj'
  · by_cases hxn : x / 64 = number
    · rw [if_pos hxn]; simp
    · rw [if_neg hxn]
      exact h.has x hx hf
/-- What patch leaves. -/
structure PatchGot (w w' : World) (base g n : Nat) (f : Int → Option Int) (rd wh hi hd : Int) (en : Bool) (number : Int) (gp B : Nat) (pt : Int → Option Nat) : Prop where
  q : Blk w' g 63 (QV (.map (some B)) rd wh hi hd en)
  pat : PatAt w' base B (n + 1) pt f rd
  at_ : pt number = some gp
  keep : KeepT w w' g
  below : Below base w w'
theorem patch_has (g base n : Nat) (f : Int → Option Int) (rd wh hi hd : Int) (en : Bool) (number : Int) (gp B : Nat) (pt : Int → Option Nat) (w : World) (h : Blk w g 63 (QV (.map (some B)) rd wh hi hd en)) (hp : PatAt w base B n pt f rd) (hw : (Lit.int .u64 number).wf = true) (hpt : pt number = some gp) :
    Calls Tryd.prog 32 #[.pointer (some ⟨g, 0, none⟩), .int .u64 number] w fun r w' => r = .returned (.pointer (some ⟨gp, 0, none⟩)) ∧ PatchGot w w' base g n f rd wh hi hd en number gp B pt := by
  have c0 := h.cell 0
  simp [QV] at c0
  have L := hp.map.look hw
  rw [hpt] at L
  simp only [ptrP] at L
  have H := Lib.hid (And.intro h hp)
  clear h hp
  go_enter Tryd.func32, Tryd.ntmps32
  go_wp2_with fail
  go_ret
  exact ⟨rfl, H.out.1, ⟨H.out.2.map.mono (Nat.le_succ _), H.out.2.bge, H.out.2.ent, H.out.2.inj, H.out.2.has⟩, hpt, KeepT.refl _ _, Below.refl _ _⟩
theorem patch_none (g base n : Nat) (f : Int → Option Int) (rd wh hi hd : Int) (en : Bool) (number : Int) (B : Nat) (pt : Int → Option Nat) (w : World) (h : Blk w g 63 (QV (.map (some B)) rd wh hi hd en)) (hp : PatAt w base B n pt f rd) (hw : (Lit.int .u64 number).wf = true) (hpt : pt number = none) (hn : n < maxLen) (hbase : base ≤ w.heap.size) :
    Calls Tryd.prog 32 #[.pointer (some ⟨g, 0, none⟩), .int .u64 number] w fun r w' => ∃ gp pt', r = .returned (.pointer (some ⟨gp, 0, none⟩)) ∧ PatchGot w w' base g n f rd wh hi hd en number gp B pt' := by
  obtain ⟨Z, hZ, hz⟩ := zeroPatch
  have c0 := h.cell 0
  have z0 := h.lt
  simp [QV] at c0
  have L := hp.map.look hw
  rw [hpt] at L
  simp only [ptrP] at L
  have hn0 : 0 ≤ number := by have := bounds_u64 hw; omega
  have H := Lib.hid (And.intro h hp)
  have HZ := Lib.hid hZ
  have ES := eqlMapS B
  have HM := Lib.hid (hp.map.kept (World.grownBy_alloc w (.cells Z 67) none) (by simp))
  clear h hp hZ
  go_enter Tryd.func32, Tryd.ntmps32
  go_wp2_with (at_mapUpdate; go_must (refine wpList_mapU rfl (.tmp 28) (.tmp 29) (.tmp 30) rfl B n pt number w.heap.size rfl rfl rfl hw HM.out hn ?_); intro w5 h5 g5)
  go_ret
  have ge : (w.alloc (.cells Z 67)).grownBy w5 (some B) := g5
  refine ⟨w.heap.size, _, rfl, ?_, H.out.2.add HZ.out hpt hn0 rfl hbase h5 g5, if_pos rfl, ?_, ?_⟩
  · exact (H.out.1.alloc _).grown g5 (by intro e; injection e with e; exact H.out.2.map.ne H.out.1 e)
  · exact (keepT_alloc w g H.out.1.lt _).trans (keepT_gb (H.out.1.alloc _) HM.out g5)
  · exact below_gb ((Below.refl _ _).alloc hbase _) g5 H.out.2.bge (by have := hbase; simp; omega)
theorem patch_nil (g base n : Nat) (f : Int → Option Int) (rd wh hi hd : Int) (en : Bool) (number : Int) (w : World) (h : Blk w g 63 (QV (.map none) rd wh hi hd en)) (hp : ∀ x, rd ≤ x → f x = none) (hw : (Lit.int .u64 number).wf = true) (hbase : base ≤ w.heap.size) (hg : base ≤ g) :
    Calls Tryd.prog 32 #[.pointer (some ⟨g, 0, none⟩), .int .u64 number] w fun r w' => ∃ gp B pt', r = .returned (.pointer (some ⟨gp, 0, none⟩)) ∧ PatchGot w w' base g n f rd wh hi hd en number gp B pt' := by
  obtain ⟨Z, hZ, hz⟩ := zeroPatch
  have c0 := h.cell 0
  have f0 := h.frozen 0
  have z0 := h.lt
  simp [QV] at c0
  have L := look_nilU w hw
  have hn0 : 0 ≤ number := by have := bounds_u64 hw; omega
  have H := Lib.hid h
  have HP := Lib.hid hp
  have HZ := Lib.hid hZ
  have EN := eqlMapN
  have hmm := @run_makeMap Tryd.prog
  obtain ⟨W0, hW0⟩ : ∃ W0, W0 = w.setCell ⟨g, 0, none⟩ (.map (some w.heap.size)) := ⟨_, rfl⟩
  have hs0 : W0.heap.size = w.heap.size := by rw [hW0]; simp [World.setCell]
  obtain ⟨W1, hW1⟩ : ∃ W1, W1 = W0.alloc (.map #[] 0) := ⟨_, rfl⟩
  have m1 : MapU W1 w.heap.size 0 (fun _ => none) := by
    rw [hW1, ← hs0]
    exact MapU.made W0
  have k1 : Blk W1 g 63 (QV (.map (some w.heap.size)) rd wh hi hd en) := by
    rw [hW1, hW0]
    exact (h.set_ 0 _).alloc _
  have b1 : Below base w W1 := by
    rw [hW1, hW0]
    exact ((Below.refl _ _).setCell (p := ⟨g, 0, none⟩) hg _).alloc (by simpa [World.setCell] using hbase) _
  have kt1 : KeepT w W1 g := by
    rw [hW1, hW0]
    exact (keepT_set h 0 _ (fun _ q hq e => by injection e with e; injection e with e; omega)).trans (keepT_alloc _ g (Blk.set_ h 0 _).lt _)
  have hs1 : W1.heap.size = w.heap.size + 1 := by rw [hW1]; simp [hs0]
  have p1 : PatAt W1 base w.heap.size 0 (fun _ => none) f rd := ⟨m1, hbase, (fun _ _ hj => by cases hj), (fun _ _ _ hj => by cases hj), (fun x hx hf => absurd (hp x hx) hf)⟩
  have P1 := Lib.hid p1
  have K1 := Lib.hid k1
  have M1 := Lib.hid (m1.kept (World.grownBy_alloc W1 (.cells Z 67) none) (by simp))
  have HW1 := Lib.hid (And.intro hW0 hW1)
  clear h hp hZ p1 k1 m1 hW1 hW0 hs0
  go_enter Tryd.func32, Tryd.ntmps32
  go_wp2_with (at_mapUpdate; go_must (refine wpList_mapU rfl (.tmp 28) (.tmp 29) (.tmp 30) rfl w.heap.size 0 (fun _ => none) number (w.heap.size + 1) rfl rfl rfl hw (by rw [← HW1.out.1, ← HW1.out.2]; exact M1.out) (by unfold maxLen; omega) ?_); intro w5 h5 g5)
  go_ret
  rw [← HW1.out.1, ← HW1.out.2] at g5
  have PA := P1.out.add HZ.out rfl hn0 hs1.symm (by omega) h5 g5
  have hz1 := b1.size
  refine ⟨w.heap.size + 1, w.heap.size, _, rfl, ?_, ⟨PA.map.mono (by omega), PA.bge, PA.ent, PA.inj, PA.has⟩, if_pos rfl, ?_, ?_⟩
  · exact (K1.out.alloc _).grown g5 (by intro e; injection e with e; exact P1.out.map.ne K1.out e)
  · exact (kt1.trans (keepT_alloc W1 g K1.out.lt _)).trans (keepT_gb (K1.out.alloc _) M1.out g5)
  · exact below_gb (b1.alloc (by omega) _) g5 hbase (by simp; omega)
/-- patch, whatever there is. -/
theorem patch_any (g base n : Nat) (M : Value) (f : Int → Option Int) (rd wh hi hd : Int) (en : Bool) (number : Int) (w : World) (h : Blk w g 63 (QV M rd wh hi hd en)) (hp : Pat w base M n f rd) (hw : (Lit.int .u64 number).wf = true) (hn : n < maxLen) (hbase : base ≤ w.heap.size) (hg : base ≤ g) :
    Calls Tryd.prog 32 #[.pointer (some ⟨g, 0, none⟩), .int .u64 number] w fun r w' => ∃ gp B pt', r = .returned (.pointer (some ⟨gp, 0, none⟩)) ∧ PatchGot w w' base g n f rd wh hi hd en number gp B pt' := by
  rcases hp with ⟨rfl, h0⟩ | ⟨B, pt, rfl, hpa⟩
  · exact patch_nil g base n f rd wh hi hd en number w h h0 hw hbase hg
  · rcases hpt : pt number with _ | gp
    · exact (patch_none g base n f rd wh hi hd en number B pt w h hpa hw hpt hn hbase).mono fun r w' ⟨gp, pt', h1, h2⟩ => ⟨gp, B, pt', h1, h2⟩
    · exact (patch_has g base n f rd wh hi hd en number gp B pt w h hpa hw hpt).mono fun r w' h1 => ⟨gp, B, pt, h1.1, h1.2⟩
end Go.Proofs.YtdafeokjedmnkaaDoor
