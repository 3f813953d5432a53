/-
  A quilt: advance, fits, Put, and what is told.
-/
import Derived.Test.YtdafeokjedmnkaaDoorQuiltH
import Derived.Deep.QuietTactic
import Derived.BigQuiet
namespace Go.Proofs.YtdafeokjedmnkaaDoor
open Go.RowKit Go.Maps
set_option linter.unusedVariables false
set_option linter.unusedSimpArgs false
theorem TabT.keep {base : Nat} {w w' : World} (h : TabT w) (hl : 0 < base) (hb : Below base w w') : TabT w' := ⟨Nat.lt_of_lt_of_le h.1 hb.size, fun j hj => (hb.cell hl).trans (h.2 j hj)⟩
theorem StQ.whole {w W : World} {base g n : Nat} {M : Value} {f : Int → Option Int} {rd wh hi hd : Int} {en : Bool} (h : StQ w base g n M f rd wh hi hd en W) (hg : base ≤ g) (x : Int) : StQ w base g n M f rd x hi hd en (W.setCell ⟨g, 2, none⟩ (.int .u64 x)) := by
  refine ⟨Blk.set_ h.q 2 _, ?_, h.keep.trans (keepT_set h.q 2 _ (fun h => by cases h)), h.below.setCell (p := ⟨g, 2, none⟩) hg _⟩
  rcases h.pat with h1 | ⟨B, pt, h1, h2⟩
  · exact .inl h1
  · refine .inr ⟨B, pt, h1, h2.grown (gb_set (gb_refl _ _) (p := ⟨g, 2, none⟩) rfl _) (by intro e; injection e with e; exact h2.map.ne h.q e.symm) (fun j gp hj e => ?_)⟩
    injection e with e
    obtain ⟨cs, hb⟩ := h2.block hj
    exact Blk.ne_ hb h.q (by decide) e
def whOf (w : World) (g : Nat) : Int := match w.cell? ⟨g, 2, none⟩ with | some (.int _ x) => x | _ => 0
theorem whOf_is {w W : World} {base g n : Nat} {M : Value} {f : Int → Option Int} {rd wh hi hd : Int} {en : Bool} (h : StQ w base g n M f rd wh hi hd en W) : whOf W g = wh := by
  have c2 := h.q.cell 2
  simp [QV] at c2
  unfold whOf
  rw [c2]
set_option maxHeartbeats 1600000 in
theorem advance_any (w : World) (base g n : Nat) (M : Value) (f : Int → Option Int) (rd wh hi hd : Int) (en : Bool) (h : StQ w base g n M f rd wh hi hd en w) (ht : TabT w) (hgl : 0 < base) (hbase : base ≤ w.heap.size) (hg : base ≤ g) (h0 : 0 ≤ rd) (hr : rd ≤ wh) (htop : ∀ x, f x ≠ none → x < hi) (hhi : hi ≤ 4611686018427387903) (hw : wh ≤ hi) :
    Calls Tryd.prog 31 #[.pointer (some ⟨g, 0, none⟩)] w fun r w' => r = .returned (.tuple #[]) ∧ ∃ wh', wh ≤ wh' ∧ wh' ≤ hi ∧ (∀ x, wh ≤ x → x < wh' → f x ≠ none) ∧ f wh' = none ∧ StQ w base g n M f rd wh' hi hd en w' := by
  have H := Lib.hid h
  have HT := Lib.hid ht
  clear h ht
  go_enter Tryd.func31, Tryd.ntmps31
  go_wp2_with fail
  go_loopw [2] (fun _ wr => ∃ x : Int, wh ≤ x ∧ x ≤ hi ∧ (∀ y, wh ≤ y → y < x → f y ≠ none) ∧ Hid (StQ w base g n M f rd x hi hd en wr)) (fun _ wr => (hi - whOf wr g).toNat)
  case atStart => exact ⟨wh, Int.le_refl _, hw, fun y h1 h2 => by omega, H⟩
  case round =>
    obtain ⟨x, hx0, hx1, hall, Q⟩ := hrel
    have c0 := Q.out.q.cell 0
    have c2 := Q.out.q.cell 2
    simp [QV] at c0 c2
    have hxw : (Lit.int .u64 (x / 64)).wf = true := WalkArith.wf_u64 (by omega)
    have wj : IntKind.u64.wrap (x.tdiv 64) = x / 64 := by rw [Int.tdiv_eq_ediv_of_nonneg (by omega)]; exact IntWalk.u64_in _ (by omega)
    have HALL := Lib.hid hall
    have HX := Lib.hid (And.intro hx0 hx1)
    have main : (pt_ : Option Nat) → (∀ k, (Instr.lookup 61 M (.int .u64 (x / 64)) false).run Tryd.prog (wr.drewN k) = .ok (ptrP pt_) (wr.drewN k)) → True := fun _ _ => trivial
    rcases Q.out.pat with ⟨hM, hnone⟩ | ⟨B, pt, hM, hpat⟩
    · have hfx : f x = none := hnone x (by omega)
      subst hM
      have L := look_nilU wr hxw
      have L1 := look_nilU wr.drew hxw
      clear hall hnone main
      go_wp2_with fail
      go_region
      go_wp2_with fail
      exact bodyPost_ret (v := .tuple #[]) (results_none (by rfl) _ _ _) rfl ⟨rfl, x, HX.out.1, HX.out.2, HALL.out, hfx, Q.out.drewN 1⟩
    · subst hM
      have L := hpat.map.look hxw
      have L1 := (hpat.map.drewN 1).look hxw
      rcases hpt : pt (x / 64) with _ | gp
      · have hfx : f x = none := by
          by_cases hf : f x = none
          · exact hf
          · exact absurd hpt (hpat.has x (by omega) hf)
        rw [hpt] at L L1
        simp only [ptrP] at L L1
        have L1 : (Instr.lookup 61 (.map (some B)) (.int .u64 (x / 64)) false).run Tryd.prog wr.drew = .ok (.pointer none) wr.drew := L1
        clear hall main hpat hpt
        go_wp2_with fail
        go_region
        go_wp2_with fail
        exact bodyPost_ret (v := .tuple #[]) (results_none (by rfl) _ _ _) rfl ⟨rfl, x, HX.out.1, HX.out.2, HALL.out, hfx, Q.out.drewN 1⟩
      · rw [hpt] at L L1
        simp only [ptrP] at L L1
        have L1 : (Instr.lookup 61 (.map (some B)) (.int .u64 (x / 64)) false).run Tryd.prog wr.drew = .ok (.pointer (some ⟨gp, 0, none⟩)) wr.drew := L1
        obtain ⟨j0, hb0, c, m, HH, bs, hp, hc⟩ := hpat.ent (x / 64) gp hpt
        obtain ⟨at_, hat⟩ : ∃ at_ : Nat, (at_ : Int) = x % 64 := ⟨(x % 64).toNat, by omega⟩
        have wat : IntKind.i64.wrap (x % 64) = (at_ : Int) := by rw [← hat]; exact IntWalk.i64_in _ (by omega)
        have hxe : 64 * (x / 64) + (at_ : Int) = x := by omega
        have ht1 : TabT wr.drew := HT.out.keep hgl (below_drewN Q.out.below 1)
        have c2' := (Q.out.drewN 1).q.cell 2
        have f2 := (Q.out.drewN 1).q.frozen 2
        have f2w := Q.out.q.frozen 2
        simp [QV] at c2'
        obtain ⟨nn, hrun, hn1, hn2, hn3⟩ := run_any gp c m HH bs at_ wr.drew (hp.keep hp.blk) ht1 (by omega)
        have hff : ∀ k : Nat, k < nn → f (x + k) ≠ none := fun k hk => by
          have h1 := hn2 k hk
          rw [hc (at_ + k) (by omega) (by omega)] at h1
          rw [show x + (k : Int) = 64 * (x / 64) + ((at_ + k : Nat) : Int) by omega]
          exact h1
        have HRUN := Lib.hid hrun
        by_cases hn0 : nn = 0
        · subst hn0
          have hfx : f x = none := by
            have h1 := hn3 (by omega)
            rw [hc (at_ + 0) (by omega) (by omega)] at h1
            rw [← hxe]
            exact h1
          clear hall main hpat hpt hrun hff hn2 hn3 hc hp hat hxe
          go_wp2_with fail
          go_region
          go_wp2_with fail
          refine HRUN.out.mono ?_
          rintro e w2 ⟨rfl, rfl⟩
          go_wp2_with fail
          exact bodyPost_ret (v := .tuple #[]) (results_none (by rfl) _ _ _) rfl ⟨rfl, x, HX.out.1, HX.out.2, HALL.out, hfx, Q.out.drewN 1⟩
        · have hnb : ((nn : Int) == 0) = false := by rw [beq_eq_false_iff_ne]; omega
          have htop1 : x + (nn : Int) ≤ hi := by
            have h1 := htop _ (hff (nn - 1) (by omega))
            omega
          have wn : IntKind.u64.wrap (nn : Int) = (nn : Int) := IntWalk.u64_in _ (by omega)
          have wx : IntKind.u64.wrap (x + (nn : Int)) = x + (nn : Int) := IntWalk.u64_in _ (by omega)
          have HFF := Lib.hid hff
          have hle : (nn : Int) ≥ 1 := by omega
          clear hall main hpat hpt hrun hff hn2 hn3 hc hp hat hxe
          go_wp2_with fail
          go_region
          go_wp2_with fail
          refine HRUN.out.mono ?_
          rintro e w2 ⟨rfl, rfl⟩
          go_wp2_with fail
          have Q2 : StQ w base g n (.map (some B)) f rd (x + (nn : Int)) hi hd en (wr.setCell ⟨g, 2, none⟩ (.int .u64 (x + (nn : Int)))).drew := (Q.out.whole hg (x + (nn : Int))).drewN 1
          go_roundw
          case rel =>
            refine ⟨x + (nn : Int), by have := HX.out.1; omega, htop1, fun y h1 h2 => ?_, Lib.hid Q2⟩
            by_cases hy : y < x
            · exact HALL.out y h1 hy
            · have h3 := HFF.out (y - x).toNat (by omega)
              rw [show x + (((y - x).toNat : Nat) : Int) = y by omega] at h3
              exact h3
          case measure =>
            have e1 := whOf_is Q2
            have e2 := whOf_is Q.out
            rw [e1, e2]
            omega
end Go.Proofs.YtdafeokjedmnkaaDoor
