/-
  The reference's quilt: Held.
-/
import Derived.Test.YtdafeokjedmnkaaDoorQuiltU
namespace Go.Proofs.YtdafeokjedmnkaaDoor
open Go.RowKit Go.Maps
set_option linter.unusedVariables false
set_option linter.unusedSimpArgs false
/-- So many of T lie at rd and above and are no longer to come. -/
def cntL (T : List Int) (rd : Int) (left : Lit → Bool) : Nat := (T.filter (fun x => decide (rd ≤ x) && !left (.int .u64 x))).length
theorem cntL_step {T : List Int} {rd x : Int} {left : Lit → Bool} (hn : T.Nodup) (hm : x ∈ T) (hl : left (.int .u64 x) = true) :
    cntL T rd (fun z => left z && !z.sameKey (.int .u64 x)) = cntL T rd left + (if rd ≤ x then 1 else 0) := by
  unfold cntL
  by_cases hr : rd ≤ x
  · rw [if_pos hr]
    refine filter_step hn hm (fun y hy => ?_) ?_ ?_
    · simp [Lit.sameKey, hy]
    · simp [hl]
    · simp [Lit.sameKey, hr]
  · rw [if_neg hr, Nat.add_zero]
    congr 1
    refine List.filter_congr fun y hy => ?_
    by_cases hxy : y = x
    · subst hxy
      simp [hr]
    · simp [Lit.sameKey, hxy]
theorem cntL_start {T : List Int} {rd : Int} {left : Lit → Bool} (h : ∀ x ∈ T, left (.int .u64 x) = true) : cntL T rd left = 0 := by
  unfold cntL
  rw [List.length_eq_zero_iff, List.filter_eq_nil_iff]
  intro x hx
  simp [h x hx]
theorem cntL_end {s : QS} (ok : QOk s) {left : Lit → Bool} (h : ∀ z, left z = false) : (cntL s.T s.rd left : Int) = s.T.length - s.rd := by
  rw [← above_len ok]
  unfold cntL
  congr 2
  refine List.filter_congr fun y hy => ?_
  simp [h]
theorem cntL_le (T : List Int) (rd : Int) (left : Lit → Bool) : cntL T rd left ≤ T.length := List.length_filter_le _ _
set_option maxHeartbeats 1600000 in
theorem rHeld_any (x B n : Nat) (s : QS) (w : World) (h : RQ w x B n s) (ok : QOk s) (hT : s.T.length ≤ 1000000) : Calls Tryd.prog 22 #[.pointer (some ⟨x, 0, none⟩)] w fun r w' => r = .returned (.int .i64 (s.T.length - s.rd)) ∧ w.grownBy w' none := by
  obtain ⟨D, hown, hD, hsz⟩ := h.m
  have hxw := h.q.lt
  have hbl := hown.lt
  have hmem : ∀ y : Int, (Lit.int .u64 y).wf = true → Maps.has D (.int .u64 y) = true → y ∈ s.T := fun y hy hh => by
    rw [(hD y hy).1] at hh
    refine (ok.came.mem y).2 ?_
    intro e
    rw [e] at hh
    cases hh
  have hst : ∀ y ∈ s.T, Maps.has D (.int .u64 y) = true := fun y hy => by
    have h1 := (ok.came.mem y).1 hy
    have h2 := ok.came.pos y h1
    have h3 := ok.top y h1
    have h4 := ok.h1
    rw [(hD y (WalkArith.wf_u64 (by omega))).1]
    exact Option.isSome_iff_ne_none.2 h1
  have hnd := Lib.hid ok.came.nd
  have hend := Lib.hid (fun (left : Lit → Bool) hl => cntL_end ok (left := left) hl)
  have HMEM := Lib.hid hmem
  have HST := Lib.hid hst
  have HQ := Lib.hid h.q
  have c0 := h.q.cell 0
  simp [XV] at c0
  clear h ok hD hsz hmem hst
  go_enter Tryd.func22, Tryd.ntmps22
  go_wp2_with (at_range; go_must (refine wpList_range_own _ rfl (.tmp 10) 48 rfl 28 5 keyedU Tryd.underlying48 (plainElem Tryd.prog 5) B n D rfl hown ?_); intro w0 hrg0 hg0 hs0)
  go_frame
  go_loopw [3] (fun m wr => ∃ (left : Lit → Bool) (cnt : Nat), wr.ranges Tryd.prog 28 (plainElem Tryd.prog 5) B w.heap.size n D left cnt ∧ m = .int .i64 (cntL s.T s.rd left) ∧ (∀ z, left z = true → Maps.has D z = true) ∧ w.grownBy wr none) (fun _ wr => wr.rangeLeft B w.heap.size)
  case atStart => exact ⟨_, _, hrg0, by rw [cntL_start HST.out]; rfl, fun z hz => hz, hg0⟩
  case round =>
    obtain ⟨left, cnt, hrg, rfl, hl, hg⟩ := hrel
    have hcl := cntL_le s.T s.rd left
    have c1 := (HQ.out.grown hg (by simp)).cell 1
    simp [XV] at c1
    go_wp2_with (at_next; go_must (refine wpList_next_ranges_ii _ rfl (.tmp 11) rfl 28 5 .u64 .u8 keyedU Tryd.underlying28 Tryd.underlying5 B w.heap.size n D left cnt rfl hrg ?_ ?_))
    · intro hc0 hl0
      have he := hend.out left hl0
      have HE := Lib.hid he
      clear he
      go_wp2_with fail
      go_ret
      exact ⟨by rw [← HE.out]; rfl, hg⟩
    · intro y c w1 cnt1 hwx hwc hlx hat hrg1 hlt hg1 hs1 hen
      have hm := HMEM.out y hwx (hl _ hlx)
      have hg2 : w.grownBy w1 none := ⟨hg1.os.trans hg.os, hg1.tape.trans hg.tape, hg1.output.trans hg.output, by rw [hs1]; exact hg.size, fun i hi hne => (hg1.block i (Nat.lt_of_lt_of_le hi hg.size) (by intro e; injection e with e; omega)).trans (hg.block i hi hne)⟩
      have HG2 := Lib.hid hg2
      have hstp := cntL_step (rd := s.rd) hnd.out hm hlx
      have HSTP := Lib.hid hstp
      have c11 := (HQ.out.grown hg2 (by simp)).cell 1
      simp [XV] at c11
      have HLE := Lib.hid (show wr.rangeLeft B w.heap.size = cnt from hrg.left_eq)
      have HL2 := Lib.hid (fun z (hz : (left z && !z.sameKey (.int .u64 y)) = true) => hl z (by rw [Bool.and_eq_true] at hz; exact hz.1))
      have HR1 := Lib.hid hrg1
      obtain ⟨L2, hL2⟩ : ∃ L2 : Lit → Bool, L2 = (fun z => left z && !z.sameKey (.int .u64 y)) := ⟨_, rfl⟩
      clear hg hl hrg hat hg1 hg2 hstp hrg1 hwc hlx
      by_cases hr : s.rd ≤ y
      · have hd : decide (s.rd ≤ y) = true := by simpa using hr
        go_wp2_with fail
        go_roundw
        case rel => exact ⟨_, cnt1, HR1.out, by rw [HSTP.out, if_pos hr]; go_num, HL2.out, HG2.out⟩
        case measure => rw [HR1.out.left_eq, HLE.out]; exact hlt
      · have hd : decide (s.rd ≤ y) = false := by simpa using hr
        go_wp2_with fail
        go_roundw
        case rel => exact ⟨_, cnt1, HR1.out, by rw [HSTP.out, if_neg hr]; go_num, HL2.out, HG2.out⟩
        case measure => rw [HR1.out.left_eq, HLE.out]; exact hlt
end Go.Proofs.YtdafeokjedmnkaaDoor
