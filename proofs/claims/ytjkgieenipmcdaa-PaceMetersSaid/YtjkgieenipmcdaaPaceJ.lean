/-
  The reference's meter: an acknowledgement.
-/
import Derived.Test.YtjkgieenipmcdaaPaceI
namespace Go.Proofs.Ytjkgieenipmcdaa
open Go.RowKit
set_option linter.unusedVariables false
set_option maxRecDepth 100000 in
set_option maxHeartbeats 1600000 in
theorem rDo_1 (h : Nat) (m : MT) (n s t : Int) (w : World) (x : RMt w h m) (ok : MtOk m) (h0 : 0 ≤ n) (h1 : n ≤ 1200) (hf : n ≤ m.fl) (ha : mAf m s = true) :
    Calls Try.prog 23 #[.pointer (some ⟨h, 0, none⟩), .int .u8 1, .int .i64 n, .int .u64 s, .int .u64 t] w (DoPost h w (mGrow { m with fl := m.fl - n } n, 0)) := by
  have c0 := x.c0
  have c1 := x.c1
  have c2 := x.c2
  have c3 := x.c3
  have c4 := x.c4
  have f0 := Blk.frozen x 0
  have f2 := Blk.frozen x 2
  have hlt := x.lt
  have X := Lib.hid x
  clear x
  obtain ⟨⟨i0, i1⟩, ⟨j0, j1⟩, ⟨p0, p1⟩, ⟨r0, r1⟩⟩ := ok
  obtain ⟨wi, th, fl, rc, st⟩ := m
  simp only at *
  obtain ⟨D, hD⟩ : ∃ D, D = 1200 * n / wi := ⟨_, rfl⟩
  obtain ⟨d0, d1⟩ := @div_le_n (1200 * n) wi (by omega) (by omega)
  rw [← hD] at d0 d1
  have hn0 : 0 ≤ 1200 * n := by omega
  have hA : rc = false ∨ (rc = true ∧ st < s) := by
    unfold mAf at ha
    rcases rc with _ | _
    · exact .inl rfl
    · exact .inr ⟨rfl, by simpa using ha⟩
  clear ha
  by_cases ht : th ≤ wi
  · have e : mGrow ⟨wi, th, fl - n, rc, st⟩ n = ⟨min (wi + D) 1073741824, th, fl - n, rc, st⟩ := by simp [mGrow, ht, hD]
    rw [e]
    have hD' := hD.symm
    clear hD e
    rcases hA with rfl | ⟨rfl, hst⟩
    · skip
      go_enter Try.func23, Try.ntmps23
      go_wp2
      go_region
      all_goals go_wp2
      all_goals go_region
      all_goals go_wp2
      all_goals (
        go_ret
        refine ⟨rfl, ?_, ?_⟩
        · have a1 := rm_fl X.out (fl - n)
          repeat (with_reducible refine RMt.drew ?_)
          first
            | (with_reducible refine rm_wi2 a1 ?_); omega
            | (with_reducible refine rm_wi a1 ?_); omega
        · repeat (with_reducible refine gb_drew ?_)
          repeat (with_reducible refine gb_more ?_)
          exact gb_refl _ _)
    · have hd : decide (s ≤ st) = false := by simp; omega
      clear hst
      go_enter Try.func23, Try.ntmps23
      go_wp2
      go_region
      all_goals go_wp2
      all_goals go_region
      all_goals go_wp2
      all_goals (
        go_ret
        refine ⟨rfl, ?_, ?_⟩
        · have a1 := rm_fl X.out (fl - n)
          repeat (with_reducible refine RMt.drew ?_)
          first
            | (with_reducible refine rm_wi2 a1 ?_); omega
            | (with_reducible refine rm_wi a1 ?_); omega
        · repeat (with_reducible refine gb_drew ?_)
          repeat (with_reducible refine gb_more ?_)
          exact gb_refl _ _)
  · have e : mGrow ⟨wi, th, fl - n, rc, st⟩ n = ⟨min (wi + n) 1073741824, th, fl - n, rc, st⟩ := by simp [mGrow, ht]
    rw [e]
    clear hD e d0 d1 hn0
    rcases hA with rfl | ⟨rfl, hst⟩
    · skip
      go_enter Try.func23, Try.ntmps23
      go_wp2
      go_region
      all_goals go_wp2
      all_goals (
        go_ret
        refine ⟨rfl, ?_, ?_⟩
        · have a1 := rm_fl X.out (fl - n)
          repeat (with_reducible refine RMt.drew ?_)
          first
            | (with_reducible refine rm_wi2 a1 ?_); omega
            | (with_reducible refine rm_wi a1 ?_); omega
        · repeat (with_reducible refine gb_drew ?_)
          repeat (with_reducible refine gb_more ?_)
          exact gb_refl _ _)
    · have hd : decide (s ≤ st) = false := by simp; omega
      clear hst
      go_enter Try.func23, Try.ntmps23
      go_wp2
      go_region
      all_goals go_wp2
      all_goals (
        go_ret
        refine ⟨rfl, ?_, ?_⟩
        · have a1 := rm_fl X.out (fl - n)
          repeat (with_reducible refine RMt.drew ?_)
          first
            | (with_reducible refine rm_wi2 a1 ?_); omega
            | (with_reducible refine rm_wi a1 ?_); omega
        · repeat (with_reducible refine gb_drew ?_)
          repeat (with_reducible refine gb_more ?_)
          exact gb_refl _ _)

end Go.Proofs.Ytjkgieenipmcdaa
