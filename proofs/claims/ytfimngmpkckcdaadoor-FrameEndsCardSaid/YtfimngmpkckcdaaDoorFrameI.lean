/-
  Frames: the same; the reference's Few; Copy.
-/
import Derived.Test.YtfimngmpkckcdaaDoorFrameH
import Derived.Deep.DeepCutAuto
import Derived.Deep.RegionWith
namespace Go.Proofs.YtfimngmpkckcdaaDoor
open Go.RowKit
set_option linter.unusedVariables false

theorem sameB_refl' (a : List Int) : sameB a a = true := by simp [sameB]
/-- A frame's cells. -/
def FC (k id off n cd : Int) (fin : Bool) (A : Option Addr) (la ca : Nat) (B : Option Addr) (lb cb : Nat) (R : Option Addr) (lr cr : Nat) : Array Value :=
  #[.int .u64 k, .int .u64 id, .int .u64 off, .int .u64 n, .int .u64 cd, .bool fin, .slice A la ca, .slice B lb cb, .slice R lr cr]
theorem gset {w : World} {g i : Nat} {u : Value} : w.grownBy (w.setCell ⟨g, i, none⟩ u) (some g) :=
  ⟨rfl, rfl, rfl, by simp [World.setCell], fun j hj hne => Below.heap_setCell w ⟨g, i, none⟩ u j (by rintro rfl; exact hne rfl)⟩
theorem grow_row {w : World} {g : Nat} {cs : Array Value} : w.grownBy (w.setRow g cs) (some g) :=
  ⟨rfl, rfl, rfl, by simp, fun i hi hne => setRow_other w g i cs (by rintro rfl; exact hne rfl)⟩
section
variable {w w' : World} {g base c i : Nat} {A : Option Addr} {cs : Array Value} {T : TypeId}
theorem own_gs {l : List Int} (h : Own w base A c l) (k : Blk w g T cs) (hT : 5 ≠ T) (hg : w.grownBy w' (some g)) : Own w' base A c l :=
  Own.grown h hg (fun g' cur hb e => by injection e with e; subst e; exact Blk.ne_ hb k hT rfl)
theorem ownG_gs {l : List (Int × Int)} (h : OwnG w base A c l) (k : Blk w g T cs) (hT : 39 ≠ T) (hg : w.grownBy w' (some g)) : OwnG w' base A c l :=
  OwnV.grown h hg (fun g' cur hb e => by injection e with e; subst e; exact Blk.ne_ hb k hT rfl)
theorem below_gs {B : Nat} {a : World} (h : Below B a w) (hg : w.grownBy w' (some g)) (hB : B ≤ g) (hs : B ≤ w.heap.size) : Below B a w' :=
  ⟨hg.os.trans h.os, hg.tape.trans h.tape, hg.output.trans h.output, Nat.le_trans h.size hg.size, fun i hi => (hg.block i (by omega) (by intro e; injection e with e; omega)).trans (h.block i hi)⟩
theorem OwnG.base_le {l : List (Int × Int)} {b2 : Nat} (h : OwnG w base A c l) (hb : b2 ≤ base) : OwnG w b2 A c l := by
  obtain ⟨h1, h2⟩ := h
  refine ⟨h1, ?_⟩
  rcases h2 with h2 | ⟨g, cap, cur, hv, hg, r⟩
  · exact .inl h2
  · exact .inr ⟨g, cap, cur, hv, Nat.le_trans hb hg, r⟩
theorem Own.base_le' {l : List Int} {b2 : Nat} (h : Own w base A c l) (hb : b2 ≤ base) : Own w b2 A c l := by
  obtain ⟨h1, h2⟩ := h
  refine ⟨h1, ?_⟩
  rcases h2 with h2 | ⟨g, cap, cur, hv, hg, r⟩
  · exact .inl h2
  · exact .inr ⟨g, cap, cur, hv, Nat.le_trans hb hg, r⟩
theorem Blk.setRowP {cs' : Array Value} (h : Blk w g T cs) : Blk (w.setRow g cs') g T cs' := by
  unfold Blk at h ⊢
  simp [World.setRow, Array.getElem?_modify, h]
theorem Blk.setRowFar {h : Nat} {cs' : Array Value} (x : Blk w g T cs) (hne : g ≠ h) : Blk (w.setRow h cs') g T cs := (setRow_other w h g cs' hne).trans x
end
theorem blk_2nd (w : World) (o : Obj) (t : TypeId) (cs : Array Value) : Blk ((w.alloc o).alloc (.cells cs t)) (w.heap.size + 1) t cs := by
  have := Blk.new (w.alloc o) t cs
  simpa using this
section
variable {w : World} {g : Nat} {k id off n cd : Int} {fin : Bool} {A B R : Option Addr} {la ca lb cb lr cr : Nat}
theorem fc6 (h : Blk w g 28 (FC k id off n cd fin A la ca B lb cb R lr cr)) (A' : Option Addr) (la' ca' : Nat) : Blk (w.setCell ⟨g, 6, none⟩ (.slice A' la' ca')) g 28 (FC k id off n cd fin A' la' ca' B lb cb R lr cr) := Blk.set_ h 6 _
theorem fc7 (h : Blk w g 28 (FC k id off n cd fin A la ca B lb cb R lr cr)) (A' : Option Addr) (la' ca' : Nat) : Blk (w.setCell ⟨g, 7, none⟩ (.slice A' la' ca')) g 28 (FC k id off n cd fin A la ca A' la' ca' R lr cr) := Blk.set_ h 7 _
theorem fc8 (h : Blk w g 28 (FC k id off n cd fin A la ca B lb cb R lr cr)) (A' : Option Addr) (la' ca' : Nat) : Blk (w.setCell ⟨g, 8, none⟩ (.slice A' la' ca')) g 28 (FC k id off n cd fin A la ca B lb cb A' la' ca') := Blk.set_ h 8 _
end
theorem info_frame : (Tryd.prog.info? 28).map (·.size) = some 9 := by kernel_rfl
set_option maxRecDepth 100000 in
set_option maxHeartbeats 1600000 in
theorem sameF_yes (k id off n cd : Int) (fin : Bool) (A : Option Addr) (a : List Int) (ca : Nat) (B : Option Addr) (b : List Int) (cb : Nat) (R : Option Addr) (l : List (Int × Int)) (cr : Nat) (A' : Option Addr) (ca' : Nat) (B' : Option Addr) (cb' : Nat) (R' : Option Addr) (cr' : Nat) (w : World)
    (ha : Rd w A a) (hb : Rd w B b) (hl : RdG w R l) (ha' : Rd w A' a) (hb' : Rd w B' b) (hl' : RdG w R' l) (h1 : Bytes a) (h2 : Bytes b) (h3 : l.length ≤ 1000) :
    Calls Tryd.prog 8 #[.agg (FC k id off n cd fin A a.length ca B b.length cb R l.length cr), .agg (FC k id off n cd fin A' a.length ca' B' b.length cb' R' l.length cr')] w fun e w' => e = .returned (.bool true) ∧ Below w.heap.size w w' := by
  have C1 := Lib.hid (fun (W : World) (hx : Below w.heap.size w W) => same_any A A' ca ca' a a W (ha.below hx) (ha'.below hx) h1 h1)
  have C2 := Lib.hid (fun (W : World) (hx : Below w.heap.size w W) => same_any B B' cb cb' b b W (hb.below hx) (hb'.below hx) h2 h2)
  have C3 := Lib.hid (fun (W : World) (hx : Below w.heap.size w W) => sameRanges_yes R cr R' cr' l W (hl.below hx) (hl'.below hx) h3)
  rw [sameB_refl'] at C1 C2
  unfold FC
  clear ha hb ha' hb' hl hl' h1 h2 h3
  have bb : Below w.heap.size w ((w.alloc (.cells #[.int .u64 k, .int .u64 id, .int .u64 off, .int .u64 n, .int .u64 cd, .bool fin, .slice A a.length ca, .slice B b.length cb, .slice R l.length cr] 28)).alloc (.cells #[.int .u64 k, .int .u64 id, .int .u64 off, .int .u64 n, .int .u64 cd, .bool fin, .slice A' a.length ca', .slice B' b.length cb', .slice R' l.length cr'] 28)) := ((Below.refl _ _).alloc (Nat.le_refl _) _).alloc (by simp) _
  have BB := Lib.hid bb
  clear bb
  go_enter Tryd.func8, Tryd.ntmps8
  go_wp2_with fail
  refine (C1.out _ BB.out).mono ?_
  rintro e w1 ⟨rfl, rfl⟩
  go_wp2_with fail
  refine (C2.out _ BB.out).mono ?_
  rintro e w1 ⟨rfl, rfl⟩
  go_wp2_with fail
  refine (C3.out _ BB.out).mono ?_
  rintro e w1 ⟨rfl, q, rfl⟩
  go_wp2_with fail
  go_ret
  exact ⟨rfl, BB.out.trans ⟨rfl, rfl, rfl, Nat.le_refl _, fun _ _ => rfl⟩⟩
end Go.Proofs.YtfimngmpkckcdaaDoor
