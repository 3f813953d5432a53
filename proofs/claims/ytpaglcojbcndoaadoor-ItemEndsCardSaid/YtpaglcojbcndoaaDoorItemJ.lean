/-
  item: pure: a datagram that was written is read again; the answers in one form.
-/
import Derived.Test.YtpaglcojbcndoaaDoorItemI
import Derived.Test.YtpaglcojbcndoaaDoorVintG
namespace Go.Proofs.YtpaglcojbcndoaaDoor
open Go.RowKit
set_option linter.unusedVariables false
set_option linter.unusedSimpArgs false
theorem pnum_venc {n : Int} (h : InI n) (X : List Int) : pnum (venc n ++ X) = some (n, X) := by
  obtain ⟨k, b, t, hs, hb, hk, hk1, hk8⟩ := vsize_is n h.1 h.2
  have hv : venc n = wenc n k := by rw [venc, hk]; rfl
  rw [hk] at hs
  unfold pnum
  rw [hv, rdS_wenc hs h.1 hb X, if_neg (by omega), rdN_wenc hs h.1 hb X, drop_wenc hs X]
theorem prG_back {al : Int} {o : OV} (h : gramOk al o = true) (h0 : 0 ≤ al ∧ 0 ≤ o.grp ∧ 0 ≤ o.obj) : prG (gramB al o) = some (al, o) := by
  unfold gramOk at h
  simp only [Bool.and_eq_true, decide_eq_true_eq] at h
  have hi := encI_all h.2.1 (by intro y hy; simp at hy; omega)
  obtain ⟨grp, obj, prio, gram, data⟩ := o
  simp only at h h0 hi
  obtain ⟨hl, he, rfl⟩ := h
  have e : gramB al ⟨grp, obj, prio, true, data⟩ = venc 1 ++ (venc al ++ (venc grp ++ (venc obj ++ (prio :: data)))) := by simp [gramB, iencs]
  rw [e]
  unfold prG
  rw [pnum_venc ⟨by decide, by decide⟩]
  simp only [if_true]
  rw [pnum_venc (hi al (by simp))]
  simp only
  rw [pnum_venc (hi grp (by simp))]
  simp only
  rw [pnum_venc (hi obj (by simp))]
  simp only
  rw [if_pos hl]
theorem prG_by {p : List Int} (hb : Bytes p) {al : Int} {o : OV} (h : prG p = some (al, o)) : Bytes o.data ∧ o.data.length ≤ 2048 := by
  unfold prG at h
  split at h
  · cases h
  · rename_i m q1 h1
    have b1 := (pnum_bd hb h1).2
    split at h
    · split at h
      · cases h
      · rename_i a2 q2 h2
        have b2 := (pnum_bd b1 h2).2
        split at h
        · cases h
        · rename_i g3 q3 h3
          have b3 := (pnum_bd b2 h3).2
          split at h
          · cases h
          · rename_i o4 q4 h4
            have b4 := (pnum_bd b3 h4).2
            split at h
            · cases h
            · rename_i x d
              split at h
              · rename_i hl
                injection h with h
                injection h with _ h
                rw [← h]
                exact ⟨fun y hy => b4 y (List.mem_cons_of_mem _ hy), hl⟩
              · cases h
    · cases h
def gA (p : List Int) : Int := match prG p with | some r => r.1 | none => 0
def gO (p : List Int) : OV := match prG p with | some r => r.2 | none => ⟨0, 0, 0, false, []⟩
def gE (p : List Int) : Int := match prG p with | some _ => 0 | none => 4
structure GAns (w w' : World) (p : List Int) (r : Ending) : Prop where
  ex : ∃ A c, r = .returned (.tuple #[.int .u64 (gA p), .agg (ovC (gO p) A c), .int .i64 (gE p)]) ∧ Own w' w.heap.size A c (gO p).data
  bel : Below w.heap.size w w'
theorem GramR.ans {w w' : World} {p : List Int} {r : Ending} (h : GramR w w' p r) : GAns w w' p r := by
  refine ⟨?_, h.bel⟩
  unfold gA gO gE
  cases hp : prG p with
  | some x => exact h.ok x.1 x.2 hp
  | none => exact ⟨none, 0, h.no hp, Own.nil _ _⟩
theorem gO_by {p : List Int} (hb : Bytes p) : Bytes (gO p).data ∧ (gO p).data.length ≤ 2048 := by
  unfold gO
  cases h : prG p with
  | some r => exact prG_by hb (al := r.1) (o := r.2) h
  | none => exact ⟨Bytes.nil, Nat.zero_le _⟩
theorem gramB_by {al : Int} {o : OV} (h : gramOk al o = true) (h0 : 0 ≤ al ∧ 0 ≤ o.grp ∧ 0 ≤ o.obj) (hp : 0 ≤ o.prio ∧ o.prio < 256) (hd : Bytes o.data) : Bytes (gramB al o) ∧ (gramB al o).length ≤ 2100 := by
  unfold gramOk at h
  simp only [Bool.and_eq_true, decide_eq_true_eq] at h
  have hi := encI_all h.2.1 (by intro y hy; simp at hy; omega)
  have hi2 : ∀ x ∈ [1, al, o.grp, o.obj], InI x := fun x hx => by
    rcases List.mem_cons.1 hx with rfl | hx
    · exact ⟨by decide, by decide⟩
    · exact hi x hx
  unfold gramB
  refine ⟨Bytes.append (Bytes.append (iencs_by hi2) (fun y hy => by simp at hy; subst hy; exact hp)) hd, ?_⟩
  have := iencs_len hi2
  simp only [List.length_append, List.length_cons, List.length_nil] at this ⊢
  omega
theorem slice_backI (A : Option Addr) (c : Nat) (l : List Int) (m n : Nat) (kd : IntKind) (hn : n ≤ c) (hm : n ≤ l.length) :
    (∀ w, (Instr.slice 25 (.slice A m c) none (some (.int kd (n : Int))) none).run Tryd.prog w = .ok (.slice A (l.take n).length c) w) := by
  intro w
  rw [run_slice_h (P := Tryd.prog) w 25 A m c (by rw [elem_u8]; exact Tryd.underlying25) kd (n : Int) (by omega) (by omega), elem_u8, run_sizeOf_u8]
  cases A <;> simp [sliced, Nat.min_eq_left hm, Addr.add]
theorem rdf_one {w : World} {g : Nat} {x : RO} (k : Blk w g 27 (ovC x.o x.A x.c)) : RdF ROC 5 w (some ⟨g, 0, none⟩) [x] := by
  unfold RdF
  rw [FlV_one]
  refine ⟨rfl, fun _ => ⟨_, rfl, k.lt, fun j u hu => ?_⟩⟩
  have := k.cell j
  simp only [Addr.add]
  split
  · rename_i hj; subst hj; rw [this]; simpa [ROC] using hu
  · rw [Nat.zero_add, this]; simpa [ROC] using hu
/-- Two lists of one object each, that read the same. -/
theorem same_one {w : World} {g1 g2 : Nat} {o : OV} {A1 A2 : Option Addr} {c1 c2 : Nat} (k1 : Blk w g1 27 (ovC o A1 c1)) (k2 : Blk w g2 27 (ovC o A2 c2)) (h1 : Rd w A1 o.data) (h2 : Rd w A2 o.data) (hb : Bytes o.data) :
    Calls Tryd.prog 14 #[.slice (some ⟨g1, 0, none⟩) 1 1, .slice (some ⟨g2, 0, none⟩) 1 1] w fun r w' => r = .returned (.bool true) ∧ Below w.heap.size w w' :=
  (sameO_yes (some ⟨g1, 0, none⟩) (some ⟨g2, 0, none⟩) 1 1 [⟨o, A1, c1⟩] [⟨o, A2, c2⟩] w (rdf_one (x := ⟨o, A1, c1⟩) k1) (rdf_one (x := ⟨o, A2, c2⟩) k2) rfl
    (fun x hx => by simp at hx; subst hx; exact ⟨h1, hb⟩) (fun x hx => by simp at hx; subst hx; exact h2) (by simp)).mono fun r w' h => by
    obtain ⟨h, n, rfl⟩ := h
    exact ⟨h, ⟨rfl, rfl, rfl, Nat.le_refl _, fun _ _ => rfl⟩⟩
structure OVOk (w : World) (o : OV) (A : Option Addr) (c : Nat) : Prop where
  grp : 0 ≤ o.grp
  obj : 0 ≤ o.obj
  prio : 0 ≤ o.prio ∧ o.prio < 256
  sl : Sl w A c o.data
  by_ : Bytes o.data
end Go.Proofs.YtpaglcojbcndoaaDoor
