/-
  FrameKinds at each kind, at level 0.
-/
import Derived.Test.YthajandejhjccaaDoorFrameF
namespace Go.Proofs.YthajandejhjccaaDoor
open Go.RowKit
set_option linter.unusedVariables false
set_option linter.unusedSimpArgs false

set_option maxHeartbeats 12800000 in
theorem kinds_0 (k : Int) (w : World) (ht : Tab w) (h : k = 0 ∨ k = 1 ∨ k = 2 ∨ k = 4 ∨ k = 5 ∨ k = 6 ∨ k = 7 ∨ k = 8 ∨ k = 16 ∨ k = 17 ∨ k = 18 ∨ k = 19 ∨ k = 20 ∨ k = 21 ∨ k = 22 ∨ k = 23 ∨ k = 24 ∨ k = 25 ∨ k = 26 ∨ k = 27 ∨ k = 28 ∨ k = 29 ∨ k = 30 ∨ k = 48) :
    Calls Tryd.prog 5 #[.int .u64 k, .int .i64 0] w fun r w' => r = .returned (.bool true) ∧ Below w.heap.size w w' := by
  have CW := Lib.hid (awake5_any w ht)
  clear ht
  rcases h with rfl | rfl | rfl | rfl | rfl | rfl | rfl | rfl | rfl | rfl | rfl | rfl | rfl | rfl | rfl | rfl | rfl | rfl | rfl | rfl | rfl | rfl | rfl | rfl
  · have CS := Lib.hid (fun W => Shape_yes 0 W (by omega))
    have CA := (fun W => Asks_any 0 W)
    have CF := (fun W => Fits_any 0 0 W)
    rw [show asB 0 = false from rfl] at CA
    rw [show ftB 0 0 = true from rfl] at CF
    have CA' := Lib.hid CA
    have CF' := Lib.hid CF
    clear CA CF
    go_enter Tryd.func5, Tryd.ntmps5
    go_wp2_with fail
    refine CW.out.mono ?_
    rintro r w1 ⟨rfl, b1⟩
    have B1 := Lib.hid b1
    clear b1
    go_wp2_with fail
    refine (CS.out _).mono ?_
    rintro r w2 ⟨s, rfl, hs, hs2, rfl⟩
    go_wp2_with fail
    refine (CA'.out _).mono ?_
    rintro r w2 ⟨rfl, rfl⟩
    go_wp2_with fail
    refine (CF'.out _).mono ?_
    rintro r w2 ⟨rfl, rfl⟩
    go_wp2_with fail
    go_ret
    exact ⟨rfl, B1.out⟩
  · have CS := Lib.hid (fun W => Shape_yes 1 W (by omega))
    have CA := (fun W => Asks_any 1 W)
    have CF := (fun W => Fits_any 1 0 W)
    rw [show asB 1 = true from rfl] at CA
    rw [show ftB 1 0 = true from rfl] at CF
    have CA' := Lib.hid CA
    have CF' := Lib.hid CF
    clear CA CF
    go_enter Tryd.func5, Tryd.ntmps5
    go_wp2_with fail
    refine CW.out.mono ?_
    rintro r w1 ⟨rfl, b1⟩
    have B1 := Lib.hid b1
    clear b1
    go_wp2_with fail
    refine (CS.out _).mono ?_
    rintro r w2 ⟨s, rfl, hs, hs2, rfl⟩
    go_wp2_with fail
    refine (CA'.out _).mono ?_
    rintro r w2 ⟨rfl, rfl⟩
    go_wp2_with fail
    refine (CF'.out _).mono ?_
    rintro r w2 ⟨rfl, rfl⟩
    go_wp2_with fail
    go_ret
    exact ⟨rfl, B1.out⟩
  · have CS := Lib.hid (fun W => Shape_yes 2 W (by omega))
    have CA := (fun W => Asks_any 2 W)
    have CF := (fun W => Fits_any 2 0 W)
    rw [show asB 2 = false from rfl] at CA
    rw [show ftB 2 0 = true from rfl] at CF
    have CA' := Lib.hid CA
    have CF' := Lib.hid CF
    clear CA CF
    go_enter Tryd.func5, Tryd.ntmps5
    go_wp2_with fail
    refine CW.out.mono ?_
    rintro r w1 ⟨rfl, b1⟩
    have B1 := Lib.hid b1
    clear b1
    go_wp2_with fail
    refine (CS.out _).mono ?_
    rintro r w2 ⟨s, rfl, hs, hs2, rfl⟩
    go_wp2_with fail
    refine (CA'.out _).mono ?_
    rintro r w2 ⟨rfl, rfl⟩
    go_wp2_with fail
    refine (CF'.out _).mono ?_
    rintro r w2 ⟨rfl, rfl⟩
    go_wp2_with fail
    go_ret
    exact ⟨rfl, B1.out⟩
  · have CS := Lib.hid (fun W => Shape_yes 4 W (by omega))
    have CA := (fun W => Asks_any 4 W)
    have CF := (fun W => Fits_any 4 0 W)
    rw [show asB 4 = true from rfl] at CA
    rw [show ftB 4 0 = false from rfl] at CF
    have CA' := Lib.hid CA
    have CF' := Lib.hid CF
    clear CA CF
    go_enter Tryd.func5, Tryd.ntmps5
    go_wp2_with fail
    refine CW.out.mono ?_
    rintro r w1 ⟨rfl, b1⟩
    have B1 := Lib.hid b1
    clear b1
    go_wp2_with fail
    refine (CS.out _).mono ?_
    rintro r w2 ⟨s, rfl, hs, hs2, rfl⟩
    go_wp2_with fail
    refine (CA'.out _).mono ?_
    rintro r w2 ⟨rfl, rfl⟩
    go_wp2_with fail
    refine (CF'.out _).mono ?_
    rintro r w2 ⟨rfl, rfl⟩
    go_wp2_with fail
    go_ret
    exact ⟨rfl, B1.out⟩
  · have CS := Lib.hid (fun W => Shape_yes 5 W (by omega))
    have CA := (fun W => Asks_any 5 W)
    have CF := (fun W => Fits_any 5 0 W)
    rw [show asB 5 = true from rfl] at CA
    rw [show ftB 5 0 = false from rfl] at CF
    have CA' := Lib.hid CA
    have CF' := Lib.hid CF
    clear CA CF
    go_enter Tryd.func5, Tryd.ntmps5
    go_wp2_with fail
    refine CW.out.mono ?_
    rintro r w1 ⟨rfl, b1⟩
    have B1 := Lib.hid b1
    clear b1
    go_wp2_with fail
    refine (CS.out _).mono ?_
    rintro r w2 ⟨s, rfl, hs, hs2, rfl⟩
    go_wp2_with fail
    refine (CA'.out _).mono ?_
    rintro r w2 ⟨rfl, rfl⟩
    go_wp2_with fail
    refine (CF'.out _).mono ?_
    rintro r w2 ⟨rfl, rfl⟩
    go_wp2_with fail
    go_ret
    exact ⟨rfl, B1.out⟩
  · have CS := Lib.hid (fun W => Shape_yes 6 W (by omega))
    have CA := (fun W => Asks_any 6 W)
    have CF := (fun W => Fits_any 6 0 W)
    rw [show asB 6 = true from rfl] at CA
    rw [show ftB 6 0 = true from rfl] at CF
    have CA' := Lib.hid CA
    have CF' := Lib.hid CF
    clear CA CF
    go_enter Tryd.func5, Tryd.ntmps5
    go_wp2_with fail
    refine CW.out.mono ?_
    rintro r w1 ⟨rfl, b1⟩
    have B1 := Lib.hid b1
    clear b1
    go_wp2_with fail
    refine (CS.out _).mono ?_
    rintro r w2 ⟨s, rfl, hs, hs2, rfl⟩
    go_wp2_with fail
    refine (CA'.out _).mono ?_
    rintro r w2 ⟨rfl, rfl⟩
    go_wp2_with fail
    refine (CF'.out _).mono ?_
    rintro r w2 ⟨rfl, rfl⟩
    go_wp2_with fail
    go_ret
    exact ⟨rfl, B1.out⟩
  · have CS := Lib.hid (fun W => Shape_yes 7 W (by omega))
    have CA := (fun W => Asks_any 7 W)
    have CF := (fun W => Fits_any 7 0 W)
    rw [show asB 7 = true from rfl] at CA
    rw [show ftB 7 0 = false from rfl] at CF
    have CA' := Lib.hid CA
    have CF' := Lib.hid CF
    clear CA CF
    go_enter Tryd.func5, Tryd.ntmps5
    go_wp2_with fail
    refine CW.out.mono ?_
    rintro r w1 ⟨rfl, b1⟩
    have B1 := Lib.hid b1
    clear b1
    go_wp2_with fail
    refine (CS.out _).mono ?_
    rintro r w2 ⟨s, rfl, hs, hs2, rfl⟩
    go_wp2_with fail
    refine (CA'.out _).mono ?_
    rintro r w2 ⟨rfl, rfl⟩
    go_wp2_with fail
    refine (CF'.out _).mono ?_
    rintro r w2 ⟨rfl, rfl⟩
    go_wp2_with fail
    go_ret
    exact ⟨rfl, B1.out⟩
  · have CS := Lib.hid (fun W => Shape_yes 8 W (by omega))
    have CA := (fun W => Asks_any 8 W)
    have CF := (fun W => Fits_any 8 0 W)
    rw [show asB 8 = true from rfl] at CA
    rw [show ftB 8 0 = false from rfl] at CF
    have CA' := Lib.hid CA
    have CF' := Lib.hid CF
    clear CA CF
    go_enter Tryd.func5, Tryd.ntmps5
    go_wp2_with fail
    refine CW.out.mono ?_
    rintro r w1 ⟨rfl, b1⟩
    have B1 := Lib.hid b1
    clear b1
    go_wp2_with fail
    refine (CS.out _).mono ?_
    rintro r w2 ⟨s, rfl, hs, hs2, rfl⟩
    go_wp2_with fail
    refine (CA'.out _).mono ?_
    rintro r w2 ⟨rfl, rfl⟩
    go_wp2_with fail
    refine (CF'.out _).mono ?_
    rintro r w2 ⟨rfl, rfl⟩
    go_wp2_with fail
    go_ret
    exact ⟨rfl, B1.out⟩
  · have CS := Lib.hid (fun W => Shape_yes 16 W (by omega))
    have CA := (fun W => Asks_any 16 W)
    have CF := (fun W => Fits_any 16 0 W)
    rw [show asB 16 = true from rfl] at CA
    rw [show ftB 16 0 = false from rfl] at CF
    have CA' := Lib.hid CA
    have CF' := Lib.hid CF
    clear CA CF
    go_enter Tryd.func5, Tryd.ntmps5
    go_wp2_with fail
    refine CW.out.mono ?_
    rintro r w1 ⟨rfl, b1⟩
    have B1 := Lib.hid b1
    clear b1
    go_wp2_with fail
    refine (CS.out _).mono ?_
    rintro r w2 ⟨s, rfl, hs, hs2, rfl⟩
    go_wp2_with fail
    refine (CA'.out _).mono ?_
    rintro r w2 ⟨rfl, rfl⟩
    go_wp2_with fail
    refine (CF'.out _).mono ?_
    rintro r w2 ⟨rfl, rfl⟩
    go_wp2_with fail
    go_ret
    exact ⟨rfl, B1.out⟩
  · have CS := Lib.hid (fun W => Shape_yes 17 W (by omega))
    have CA := (fun W => Asks_any 17 W)
    have CF := (fun W => Fits_any 17 0 W)
    rw [show asB 17 = true from rfl] at CA
    rw [show ftB 17 0 = false from rfl] at CF
    have CA' := Lib.hid CA
    have CF' := Lib.hid CF
    clear CA CF
    go_enter Tryd.func5, Tryd.ntmps5
    go_wp2_with fail
    refine CW.out.mono ?_
    rintro r w1 ⟨rfl, b1⟩
    have B1 := Lib.hid b1
    clear b1
    go_wp2_with fail
    refine (CS.out _).mono ?_
    rintro r w2 ⟨s, rfl, hs, hs2, rfl⟩
    go_wp2_with fail
    refine (CA'.out _).mono ?_
    rintro r w2 ⟨rfl, rfl⟩
    go_wp2_with fail
    refine (CF'.out _).mono ?_
    rintro r w2 ⟨rfl, rfl⟩
    go_wp2_with fail
    go_ret
    exact ⟨rfl, B1.out⟩
  · have CS := Lib.hid (fun W => Shape_yes 18 W (by omega))
    have CA := (fun W => Asks_any 18 W)
    have CF := (fun W => Fits_any 18 0 W)
    rw [show asB 18 = true from rfl] at CA
    rw [show ftB 18 0 = false from rfl] at CF
    have CA' := Lib.hid CA
    have CF' := Lib.hid CF
    clear CA CF
    go_enter Tryd.func5, Tryd.ntmps5
    go_wp2_with fail
    refine CW.out.mono ?_
    rintro r w1 ⟨rfl, b1⟩
    have B1 := Lib.hid b1
    clear b1
    go_wp2_with fail
    refine (CS.out _).mono ?_
    rintro r w2 ⟨s, rfl, hs, hs2, rfl⟩
    go_wp2_with fail
    refine (CA'.out _).mono ?_
    rintro r w2 ⟨rfl, rfl⟩
    go_wp2_with fail
    refine (CF'.out _).mono ?_
    rintro r w2 ⟨rfl, rfl⟩
    go_wp2_with fail
    go_ret
    exact ⟨rfl, B1.out⟩
  · have CS := Lib.hid (fun W => Shape_yes 19 W (by omega))
    have CA := (fun W => Asks_any 19 W)
    have CF := (fun W => Fits_any 19 0 W)
    rw [show asB 19 = true from rfl] at CA
    rw [show ftB 19 0 = false from rfl] at CF
    have CA' := Lib.hid CA
    have CF' := Lib.hid CF
    clear CA CF
    go_enter Tryd.func5, Tryd.ntmps5
    go_wp2_with fail
    refine CW.out.mono ?_
    rintro r w1 ⟨rfl, b1⟩
    have B1 := Lib.hid b1
    clear b1
    go_wp2_with fail
    refine (CS.out _).mono ?_
    rintro r w2 ⟨s, rfl, hs, hs2, rfl⟩
    go_wp2_with fail
    refine (CA'.out _).mono ?_
    rintro r w2 ⟨rfl, rfl⟩
    go_wp2_with fail
    refine (CF'.out _).mono ?_
    rintro r w2 ⟨rfl, rfl⟩
    go_wp2_with fail
    go_ret
    exact ⟨rfl, B1.out⟩
  · have CS := Lib.hid (fun W => Shape_yes 20 W (by omega))
    have CA := (fun W => Asks_any 20 W)
    have CF := (fun W => Fits_any 20 0 W)
    rw [show asB 20 = true from rfl] at CA
    rw [show ftB 20 0 = false from rfl] at CF
    have CA' := Lib.hid CA
    have CF' := Lib.hid CF
    clear CA CF
    go_enter Tryd.func5, Tryd.ntmps5
    go_wp2_with fail
    refine CW.out.mono ?_
    rintro r w1 ⟨rfl, b1⟩
    have B1 := Lib.hid b1
    clear b1
    go_wp2_with fail
    refine (CS.out _).mono ?_
    rintro r w2 ⟨s, rfl, hs, hs2, rfl⟩
    go_wp2_with fail
    refine (CA'.out _).mono ?_
    rintro r w2 ⟨rfl, rfl⟩
    go_wp2_with fail
    refine (CF'.out _).mono ?_
    rintro r w2 ⟨rfl, rfl⟩
    go_wp2_with fail
    go_ret
    exact ⟨rfl, B1.out⟩
  · have CS := Lib.hid (fun W => Shape_yes 21 W (by omega))
    have CA := (fun W => Asks_any 21 W)
    have CF := (fun W => Fits_any 21 0 W)
    rw [show asB 21 = true from rfl] at CA
    rw [show ftB 21 0 = false from rfl] at CF
    have CA' := Lib.hid CA
    have CF' := Lib.hid CF
    clear CA CF
    go_enter Tryd.func5, Tryd.ntmps5
    go_wp2_with fail
    refine CW.out.mono ?_
    rintro r w1 ⟨rfl, b1⟩
    have B1 := Lib.hid b1
    clear b1
    go_wp2_with fail
    refine (CS.out _).mono ?_
    rintro r w2 ⟨s, rfl, hs, hs2, rfl⟩
    go_wp2_with fail
    refine (CA'.out _).mono ?_
    rintro r w2 ⟨rfl, rfl⟩
    go_wp2_with fail
    refine (CF'.out _).mono ?_
    rintro r w2 ⟨rfl, rfl⟩
    go_wp2_with fail
    go_ret
    exact ⟨rfl, B1.out⟩
  · have CS := Lib.hid (fun W => Shape_yes 22 W (by omega))
    have CA := (fun W => Asks_any 22 W)
    have CF := (fun W => Fits_any 22 0 W)
    rw [show asB 22 = true from rfl] at CA
    rw [show ftB 22 0 = false from rfl] at CF
    have CA' := Lib.hid CA
    have CF' := Lib.hid CF
    clear CA CF
    go_enter Tryd.func5, Tryd.ntmps5
    go_wp2_with fail
    refine CW.out.mono ?_
    rintro r w1 ⟨rfl, b1⟩
    have B1 := Lib.hid b1
    clear b1
    go_wp2_with fail
    refine (CS.out _).mono ?_
    rintro r w2 ⟨s, rfl, hs, hs2, rfl⟩
    go_wp2_with fail
    refine (CA'.out _).mono ?_
    rintro r w2 ⟨rfl, rfl⟩
    go_wp2_with fail
    refine (CF'.out _).mono ?_
    rintro r w2 ⟨rfl, rfl⟩
    go_wp2_with fail
    go_ret
    exact ⟨rfl, B1.out⟩
  · have CS := Lib.hid (fun W => Shape_yes 23 W (by omega))
    have CA := (fun W => Asks_any 23 W)
    have CF := (fun W => Fits_any 23 0 W)
    rw [show asB 23 = true from rfl] at CA
    rw [show ftB 23 0 = false from rfl] at CF
    have CA' := Lib.hid CA
    have CF' := Lib.hid CF
    clear CA CF
    go_enter Tryd.func5, Tryd.ntmps5
    go_wp2_with fail
    refine CW.out.mono ?_
    rintro r w1 ⟨rfl, b1⟩
    have B1 := Lib.hid b1
    clear b1
    go_wp2_with fail
    refine (CS.out _).mono ?_
    rintro r w2 ⟨s, rfl, hs, hs2, rfl⟩
    go_wp2_with fail
    refine (CA'.out _).mono ?_
    rintro r w2 ⟨rfl, rfl⟩
    go_wp2_with fail
    refine (CF'.out _).mono ?_
    rintro r w2 ⟨rfl, rfl⟩
    go_wp2_with fail
    go_ret
    exact ⟨rfl, B1.out⟩
  · have CS := Lib.hid (fun W => Shape_yes 24 W (by omega))
    have CA := (fun W => Asks_any 24 W)
    have CF := (fun W => Fits_any 24 0 W)
    rw [show asB 24 = true from rfl] at CA
    rw [show ftB 24 0 = false from rfl] at CF
    have CA' := Lib.hid CA
    have CF' := Lib.hid CF
    clear CA CF
    go_enter Tryd.func5, Tryd.ntmps5
    go_wp2_with fail
    refine CW.out.mono ?_
    rintro r w1 ⟨rfl, b1⟩
    have B1 := Lib.hid b1
    clear b1
    go_wp2_with fail
    refine (CS.out _).mono ?_
    rintro r w2 ⟨s, rfl, hs, hs2, rfl⟩
    go_wp2_with fail
    refine (CA'.out _).mono ?_
    rintro r w2 ⟨rfl, rfl⟩
    go_wp2_with fail
    refine (CF'.out _).mono ?_
    rintro r w2 ⟨rfl, rfl⟩
    go_wp2_with fail
    go_ret
    exact ⟨rfl, B1.out⟩
  · have CS := Lib.hid (fun W => Shape_yes 25 W (by omega))
    have CA := (fun W => Asks_any 25 W)
    have CF := (fun W => Fits_any 25 0 W)
    rw [show asB 25 = true from rfl] at CA
    rw [show ftB 25 0 = false from rfl] at CF
    have CA' := Lib.hid CA
    have CF' := Lib.hid CF
    clear CA CF
    go_enter Tryd.func5, Tryd.ntmps5
    go_wp2_with fail
    refine CW.out.mono ?_
    rintro r w1 ⟨rfl, b1⟩
    have B1 := Lib.hid b1
    clear b1
    go_wp2_with fail
    refine (CS.out _).mono ?_
    rintro r w2 ⟨s, rfl, hs, hs2, rfl⟩
    go_wp2_with fail
    refine (CA'.out _).mono ?_
    rintro r w2 ⟨rfl, rfl⟩
    go_wp2_with fail
    refine (CF'.out _).mono ?_
    rintro r w2 ⟨rfl, rfl⟩
    go_wp2_with fail
    go_ret
    exact ⟨rfl, B1.out⟩
  · have CS := Lib.hid (fun W => Shape_yes 26 W (by omega))
    have CA := (fun W => Asks_any 26 W)
    have CF := (fun W => Fits_any 26 0 W)
    rw [show asB 26 = true from rfl] at CA
    rw [show ftB 26 0 = false from rfl] at CF
    have CA' := Lib.hid CA
    have CF' := Lib.hid CF
    clear CA CF
    go_enter Tryd.func5, Tryd.ntmps5
    go_wp2_with fail
    refine CW.out.mono ?_
    rintro r w1 ⟨rfl, b1⟩
    have B1 := Lib.hid b1
    clear b1
    go_wp2_with fail
    refine (CS.out _).mono ?_
    rintro r w2 ⟨s, rfl, hs, hs2, rfl⟩
    go_wp2_with fail
    refine (CA'.out _).mono ?_
    rintro r w2 ⟨rfl, rfl⟩
    go_wp2_with fail
    refine (CF'.out _).mono ?_
    rintro r w2 ⟨rfl, rfl⟩
    go_wp2_with fail
    go_ret
    exact ⟨rfl, B1.out⟩
  · have CS := Lib.hid (fun W => Shape_yes 27 W (by omega))
    have CA := (fun W => Asks_any 27 W)
    have CF := (fun W => Fits_any 27 0 W)
    rw [show asB 27 = true from rfl] at CA
    rw [show ftB 27 0 = false from rfl] at CF
    have CA' := Lib.hid CA
    have CF' := Lib.hid CF
    clear CA CF
    go_enter Tryd.func5, Tryd.ntmps5
    go_wp2_with fail
    refine CW.out.mono ?_
    rintro r w1 ⟨rfl, b1⟩
    have B1 := Lib.hid b1
    clear b1
    go_wp2_with fail
    refine (CS.out _).mono ?_
    rintro r w2 ⟨s, rfl, hs, hs2, rfl⟩
    go_wp2_with fail
    refine (CA'.out _).mono ?_
    rintro r w2 ⟨rfl, rfl⟩
    go_wp2_with fail
    refine (CF'.out _).mono ?_
    rintro r w2 ⟨rfl, rfl⟩
    go_wp2_with fail
    go_ret
    exact ⟨rfl, B1.out⟩
  · have CS := Lib.hid (fun W => Shape_yes 28 W (by omega))
    have CA := (fun W => Asks_any 28 W)
    have CF := (fun W => Fits_any 28 0 W)
    rw [show asB 28 = false from rfl] at CA
    rw [show ftB 28 0 = true from rfl] at CF
    have CA' := Lib.hid CA
    have CF' := Lib.hid CF
    clear CA CF
    go_enter Tryd.func5, Tryd.ntmps5
    go_wp2_with fail
    refine CW.out.mono ?_
    rintro r w1 ⟨rfl, b1⟩
    have B1 := Lib.hid b1
    clear b1
    go_wp2_with fail
    refine (CS.out _).mono ?_
    rintro r w2 ⟨s, rfl, hs, hs2, rfl⟩
    go_wp2_with fail
    refine (CA'.out _).mono ?_
    rintro r w2 ⟨rfl, rfl⟩
    go_wp2_with fail
    refine (CF'.out _).mono ?_
    rintro r w2 ⟨rfl, rfl⟩
    go_wp2_with fail
    go_ret
    exact ⟨rfl, B1.out⟩
  · have CS := Lib.hid (fun W => Shape_yes 29 W (by omega))
    have CA := (fun W => Asks_any 29 W)
    have CF := (fun W => Fits_any 29 0 W)
    rw [show asB 29 = false from rfl] at CA
    rw [show ftB 29 0 = false from rfl] at CF
    have CA' := Lib.hid CA
    have CF' := Lib.hid CF
    clear CA CF
    go_enter Tryd.func5, Tryd.ntmps5
    go_wp2_with fail
    refine CW.out.mono ?_
    rintro r w1 ⟨rfl, b1⟩
    have B1 := Lib.hid b1
    clear b1
    go_wp2_with fail
    refine (CS.out _).mono ?_
    rintro r w2 ⟨s, rfl, hs, hs2, rfl⟩
    go_wp2_with fail
    refine (CA'.out _).mono ?_
    rintro r w2 ⟨rfl, rfl⟩
    go_wp2_with fail
    refine (CF'.out _).mono ?_
    rintro r w2 ⟨rfl, rfl⟩
    go_wp2_with fail
    go_ret
    exact ⟨rfl, B1.out⟩
  · have CS := Lib.hid (fun W => Shape_yes 30 W (by omega))
    have CA := (fun W => Asks_any 30 W)
    have CF := (fun W => Fits_any 30 0 W)
    rw [show asB 30 = true from rfl] at CA
    rw [show ftB 30 0 = false from rfl] at CF
    have CA' := Lib.hid CA
    have CF' := Lib.hid CF
    clear CA CF
    go_enter Tryd.func5, Tryd.ntmps5
    go_wp2_with fail
    refine CW.out.mono ?_
    rintro r w1 ⟨rfl, b1⟩
    have B1 := Lib.hid b1
    clear b1
    go_wp2_with fail
    refine (CS.out _).mono ?_
    rintro r w2 ⟨s, rfl, hs, hs2, rfl⟩
    go_wp2_with fail
    refine (CA'.out _).mono ?_
    rintro r w2 ⟨rfl, rfl⟩
    go_wp2_with fail
    refine (CF'.out _).mono ?_
    rintro r w2 ⟨rfl, rfl⟩
    go_wp2_with fail
    go_ret
    exact ⟨rfl, B1.out⟩
  · have CS := Lib.hid (fun W => Shape_yes 48 W (by omega))
    have CA := (fun W => Asks_any 48 W)
    have CF := (fun W => Fits_any 48 0 W)
    rw [show asB 48 = true from rfl] at CA
    rw [show ftB 48 0 = false from rfl] at CF
    have CA' := Lib.hid CA
    have CF' := Lib.hid CF
    clear CA CF
    go_enter Tryd.func5, Tryd.ntmps5
    go_wp2_with fail
    refine CW.out.mono ?_
    rintro r w1 ⟨rfl, b1⟩
    have B1 := Lib.hid b1
    clear b1
    go_wp2_with fail
    refine (CS.out _).mono ?_
    rintro r w2 ⟨s, rfl, hs, hs2, rfl⟩
    go_wp2_with fail
    refine (CA'.out _).mono ?_
    rintro r w2 ⟨rfl, rfl⟩
    go_wp2_with fail
    refine (CF'.out _).mono ?_
    rintro r w2 ⟨rfl, rfl⟩
    go_wp2_with fail
    go_ret
    exact ⟨rfl, B1.out⟩
end Go.Proofs.YthajandejhjccaaDoor
