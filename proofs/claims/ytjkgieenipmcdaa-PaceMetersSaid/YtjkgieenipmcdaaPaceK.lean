/-
  The reference's meter: a loss.
-/
import Derived.Test.YtjkgieenipmcdaaPaceI
import Derived.Deep.DeepCutAuto
namespace Go.Proofs.Ytjkgieenipmcdaa
open Go.RowKit
set_option linter.unusedVariables false
set_option maxRecDepth 100000 in
set_option maxHeartbeats 1600000 in
theorem rDo_2 (h : Nat) (m : MT) (n s t : Int) (w : World) (x : RMt w h m) (ok : MtOk m) (h0 : 0 ≤ n) (h1 : n ≤ 1200) (hf : n ≤ m.fl) (ha : mAf m s = true) (t0 : 0 ≤ t) (t1 : t < 18446744073709551616) :
    Calls Try.prog 23 #[.pointer (some ⟨h, 0, none⟩), .int .u8 2, .int .i64 n, .int .u64 s, .int .u64 t] w (DoPost h w (mShrink { m with fl := m.fl - n } t, 0)) := by
  have c0 := x.c0
  have c1 := x.c1
  have c2 := x.c2
  have c3 := x.c3
  have c4 := x.c4
  have f0 := Blk.frozen x 0
  have f1 := Blk.frozen x 1
  have f2 := Blk.frozen x 2
  have f3 := Blk.frozen x 3
  have f4 := Blk.frozen x 4
  have hlt := x.lt
  have X := Lib.hid x
  clear x
  obtain ⟨⟨i0, i1⟩, ⟨j0, j1⟩, ⟨p0, p1⟩, ⟨r0, r1⟩⟩ := ok
  obtain ⟨wi, th, fl, rc, st⟩ := m
  simp only at *
  have hA : rc = false ∨ (rc = true ∧ st < s) := by
    unfold mAf at ha
    rcases rc with _ | _
    · exact .inl rfl
    · exact .inr ⟨rfl, by simpa using ha⟩
  clear ha
  obtain ⟨W, hW⟩ : ∃ W, W = max (wi / 2) 2400 := ⟨_, rfl⟩
  have e : mShrink ⟨wi, th, fl - n, rc, st⟩ t = ⟨W, W, fl - n, true, t⟩ := by simp [mShrink, hW]
  rw [e]
  have HW := Lib.hid hW
  clear hW e
  obtain ⟨V, hV⟩ : ∃ V, wi / 2 = V := ⟨_, rfl⟩
  have v0 : 1200 ≤ V ∧ V ≤ 1073741824 := by omega
  obtain ⟨v1, v2⟩ := v0
  have HWV := Lib.hid (show W = max V 2400 by rw [← hV]; exact HW.out)
  clear HW
  rcases hA with rfl | ⟨rfl, hst⟩
  · skip
    rcases (show V < 2400 ∨ 2400 ≤ V by omega) with hv | hv
    · go_enter Try.func23, Try.ntmps23
      go_upto_region 27 with (fail)
      have K1 : RMt (((((w.setCell ⟨h, 2, none⟩ (.int .i64 (fl - n))).setCell ⟨h, 4, none⟩ (.bool true)).setCell ⟨h, 3, none⟩ (.int .u64 t)).setCell ⟨h, 0, none⟩ (.int .i64 V)).setCell ⟨h, 0, none⟩ (.int .i64 2400)) h ⟨2400, th, fl - n, true, t⟩ := by
        have a1 := rm_fl X.out (fl - n)
        have a2 := rm_rc a1 true
        have a3 := rm_st a2 t
        exact rm_wi2 (U := V) (V := 2400) a3 rfl
      have G1 : w.grownBy (((((w.setCell ⟨h, 2, none⟩ (.int .i64 (fl - n))).setCell ⟨h, 4, none⟩ (.bool true)).setCell ⟨h, 3, none⟩ (.int .u64 t)).setCell ⟨h, 0, none⟩ (.int .i64 V)).setCell ⟨h, 0, none⟩ (.int .i64 2400)) (some h) := by
        repeat (with_reducible refine gb_more ?_)
        exact gb_refl _ _
      generalize (((((w.setCell ⟨h, 2, none⟩ (.int .i64 (fl - n))).setCell ⟨h, 4, none⟩ (.bool true)).setCell ⟨h, 3, none⟩ (.int .u64 t)).setCell ⟨h, 0, none⟩ (.int .i64 V)).setCell ⟨h, 0, none⟩ (.int .i64 2400)) = w5 at K1 G1 ⊢
      have c0' := K1.c0
      have c1' := K1.c1
      have f0' := Blk.frozen K1 0
      have f1' := Blk.frozen K1 1
      have hlt' := K1.lt
      have KK := Lib.hid K1
      have GG := Lib.hid G1
      clear K1 G1 c0 c1 c2 c3 c4 f0 f1 f2 f3 f4 hlt
      go_wp2_with fail
      go_ret
      refine ⟨rfl, ?_, ?_⟩
      · have e1 := HWV.out
        have e2 : W = 2400 := by omega
        rw [e2]
        exact rm_th KK.out rfl
      · exact gb_more GG.out
    · go_enter Try.func23, Try.ntmps23
      go_upto_region 27 with (fail)
      have K1 : RMt ((((w.setCell ⟨h, 2, none⟩ (.int .i64 (fl - n))).setCell ⟨h, 4, none⟩ (.bool true)).setCell ⟨h, 3, none⟩ (.int .u64 t)).setCell ⟨h, 0, none⟩ (.int .i64 V)) h ⟨V, th, fl - n, true, t⟩ := by
        have a1 := rm_fl X.out (fl - n)
        have a2 := rm_rc a1 true
        have a3 := rm_st a2 t
        exact rm_wi (V := V) a3 rfl
      have G1 : w.grownBy ((((w.setCell ⟨h, 2, none⟩ (.int .i64 (fl - n))).setCell ⟨h, 4, none⟩ (.bool true)).setCell ⟨h, 3, none⟩ (.int .u64 t)).setCell ⟨h, 0, none⟩ (.int .i64 V)) (some h) := by
        repeat (with_reducible refine gb_more ?_)
        exact gb_refl _ _
      generalize ((((w.setCell ⟨h, 2, none⟩ (.int .i64 (fl - n))).setCell ⟨h, 4, none⟩ (.bool true)).setCell ⟨h, 3, none⟩ (.int .u64 t)).setCell ⟨h, 0, none⟩ (.int .i64 V)) = w5 at K1 G1 ⊢
      have c0' := K1.c0
      have c1' := K1.c1
      have f0' := Blk.frozen K1 0
      have f1' := Blk.frozen K1 1
      have hlt' := K1.lt
      have KK := Lib.hid K1
      have GG := Lib.hid G1
      clear K1 G1 c0 c1 c2 c3 c4 f0 f1 f2 f3 f4 hlt
      go_wp2_with fail
      go_ret
      refine ⟨rfl, ?_, ?_⟩
      · have e1 := HWV.out
        have e2 : W = V := by omega
        rw [e2]
        exact rm_th KK.out rfl
      · exact gb_more GG.out
  · have hd : decide (s ≤ st) = false := by simp; omega
    clear hst
    rcases (show V < 2400 ∨ 2400 ≤ V by omega) with hv | hv
    · go_enter Try.func23, Try.ntmps23
      go_upto_region 27 with (fail)
      have K1 : RMt (((((w.setCell ⟨h, 2, none⟩ (.int .i64 (fl - n))).setCell ⟨h, 4, none⟩ (.bool true)).setCell ⟨h, 3, none⟩ (.int .u64 t)).setCell ⟨h, 0, none⟩ (.int .i64 V)).setCell ⟨h, 0, none⟩ (.int .i64 2400)) h ⟨2400, th, fl - n, true, t⟩ := by
        have a1 := rm_fl X.out (fl - n)
        have a2 := rm_rc a1 true
        have a3 := rm_st a2 t
        exact rm_wi2 (U := V) (V := 2400) a3 rfl
      have G1 : w.grownBy (((((w.setCell ⟨h, 2, none⟩ (.int .i64 (fl - n))).setCell ⟨h, 4, none⟩ (.bool true)).setCell ⟨h, 3, none⟩ (.int .u64 t)).setCell ⟨h, 0, none⟩ (.int .i64 V)).setCell ⟨h, 0, none⟩ (.int .i64 2400)) (some h) := by
        repeat (with_reducible refine gb_more ?_)
        exact gb_refl _ _
      generalize (((((w.setCell ⟨h, 2, none⟩ (.int .i64 (fl - n))).setCell ⟨h, 4, none⟩ (.bool true)).setCell ⟨h, 3, none⟩ (.int .u64 t)).setCell ⟨h, 0, none⟩ (.int .i64 V)).setCell ⟨h, 0, none⟩ (.int .i64 2400)) = w5 at K1 G1 ⊢
      have c0' := K1.c0
      have c1' := K1.c1
      have f0' := Blk.frozen K1 0
      have f1' := Blk.frozen K1 1
      have hlt' := K1.lt
      have KK := Lib.hid K1
      have GG := Lib.hid G1
      clear K1 G1 c0 c1 c2 c3 c4 f0 f1 f2 f3 f4 hlt
      go_wp2_with fail
      go_ret
      refine ⟨rfl, ?_, ?_⟩
      · have e1 := HWV.out
        have e2 : W = 2400 := by omega
        rw [e2]
        exact rm_th KK.out rfl
      · exact gb_more GG.out
    · go_enter Try.func23, Try.ntmps23
      go_upto_region 27 with (fail)
      have K1 : RMt ((((w.setCell ⟨h, 2, none⟩ (.int .i64 (fl - n))).setCell ⟨h, 4, none⟩ (.bool true)).setCell ⟨h, 3, none⟩ (.int .u64 t)).setCell ⟨h, 0, none⟩ (.int .i64 V)) h ⟨V, th, fl - n, true, t⟩ := by
        have a1 := rm_fl X.out (fl - n)
        have a2 := rm_rc a1 true
        have a3 := rm_st a2 t
        exact rm_wi (V := V) a3 rfl
      have G1 : w.grownBy ((((w.setCell ⟨h, 2, none⟩ (.int .i64 (fl - n))).setCell ⟨h, 4, none⟩ (.bool true)).setCell ⟨h, 3, none⟩ (.int .u64 t)).setCell ⟨h, 0, none⟩ (.int .i64 V)) (some h) := by
        repeat (with_reducible refine gb_more ?_)
        exact gb_refl _ _
      generalize ((((w.setCell ⟨h, 2, none⟩ (.int .i64 (fl - n))).setCell ⟨h, 4, none⟩ (.bool true)).setCell ⟨h, 3, none⟩ (.int .u64 t)).setCell ⟨h, 0, none⟩ (.int .i64 V)) = w5 at K1 G1 ⊢
      have c0' := K1.c0
      have c1' := K1.c1
      have f0' := Blk.frozen K1 0
      have f1' := Blk.frozen K1 1
      have hlt' := K1.lt
      have KK := Lib.hid K1
      have GG := Lib.hid G1
      clear K1 G1 c0 c1 c2 c3 c4 f0 f1 f2 f3 f4 hlt
      go_wp2_with fail
      go_ret
      refine ⟨rfl, ?_, ?_⟩
      · have e1 := HWV.out
        have e2 : W = V := by omega
        rw [e2]
        exact rm_th KK.out rfl
      · exact gb_more GG.out
end Go.Proofs.Ytjkgieenipmcdaa
