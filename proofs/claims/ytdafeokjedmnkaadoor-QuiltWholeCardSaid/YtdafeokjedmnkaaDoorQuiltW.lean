/-
  Quilts: nil ones; the reference's Put whatever comes; Close.
-/
import Derived.Test.YtdafeokjedmnkaaDoorQuiltV
import Derived.Test.YtdafeokjedmnkaaDoorQuiltT
import Derived.Test.YtdafeokjedmnkaaDoorQuiltN
namespace Go.Proofs.YtdafeokjedmnkaaDoor
open Go.RowKit Go.Maps
set_option linter.unusedVariables false
set_option linter.unusedSimpArgs false
theorem Put_nil (off : Int) (A : Option Addr) (n c : Nat) (e : Bool) (w : World) : Calls Tryd.prog 18 #[.pointer none, .int .u64 off, .slice A n c, .bool e] w fun r w' => r = .returned (.int .i64 6) ∧ w = w' := by
  go_enter Tryd.func18, Tryd.ntmps18
  go_wp2_with fail
  go_ret
  exact ⟨rfl, rfl⟩
theorem rPut_nil (off : Int) (A : Option Addr) (n c : Nat) (e : Bool) (w : World) : Calls Tryd.prog 14 #[.pointer none, .int .u64 off, .slice A n c, .bool e] w fun r w' => r = .returned (.int .i64 6) ∧ w = w' := by
  go_enter Tryd.func14, Tryd.ntmps14
  go_wp2_with fail
  go_ret
  exact ⟨rfl, rfl⟩
theorem Ready_nil (w : World) : Calls Tryd.prog 19 #[.pointer none] w fun r w' => r = .returned (.int .i64 0) ∧ w = w' := by
  go_enter Tryd.func19, Tryd.ntmps19
  go_wp2_with fail
  go_ret
  exact ⟨rfl, rfl⟩
theorem rReady_nil (w : World) : Calls Tryd.prog 20 #[.pointer none] w fun r w' => r = .returned (.int .i64 0) ∧ w = w' := by
  go_enter Tryd.func20, Tryd.ntmps20
  go_wp2_with fail
  go_ret
  exact ⟨rfl, rfl⟩
theorem Held_nil (w : World) : Calls Tryd.prog 21 #[.pointer none] w fun r w' => r = .returned (.int .i64 0) ∧ w = w' := by
  go_enter Tryd.func21, Tryd.ntmps21
  go_wp2_with fail
  go_ret
  exact ⟨rfl, rfl⟩
theorem rHeld_nil (w : World) : Calls Tryd.prog 22 #[.pointer none] w fun r w' => r = .returned (.int .i64 0) ∧ w = w' := by
  go_enter Tryd.func22, Tryd.ntmps22
  go_wp2_with fail
  go_ret
  exact ⟨rfl, rfl⟩
theorem Done_nil (w : World) : Calls Tryd.prog 23 #[.pointer none] w fun r w' => r = .returned (.bool false) ∧ ∃ k, w' = w.drewN k := by
  go_enter Tryd.func23, Tryd.ntmps23
  go_wp2_with fail
  go_quiet (fail)
  go_wp2_with fail
  go_ret
  exact ⟨rfl, _, rfl⟩
theorem rDone_nil (w : World) : Calls Tryd.prog 24 #[.pointer none] w fun r w' => r = .returned (.bool false) ∧ ∃ k, w' = w.drewN k := by
  go_enter Tryd.func24, Tryd.ntmps24
  go_wp2_with fail
  go_quiet (fail)
  go_wp2_with fail
  go_ret
  exact ⟨rfl, _, rfl⟩
theorem High_nil (w : World) : Calls Tryd.prog 26 #[.pointer none] w fun r w' => r = .returned (.int .u64 0) ∧ w = w' := by
  go_enter Tryd.func26, Tryd.ntmps26
  go_wp2_with fail
  go_ret
  exact ⟨rfl, rfl⟩
theorem Read_nil (w : World) : Calls Tryd.prog 27 #[.pointer none] w fun r w' => r = .returned (.int .u64 0) ∧ w = w' := by
  go_enter Tryd.func27, Tryd.ntmps27
  go_wp2_with fail
  go_ret
  exact ⟨rfl, rfl⟩
theorem End_nil (w : World) : Calls Tryd.prog 25 #[.pointer none] w fun r w' => r = .returned (.tuple #[.int .u64 0, .bool false]) ∧ w = w' := by
  go_enter Tryd.func25, Tryd.ntmps25
  go_wp2_with fail
  exact bodyPost_ret (results_tmp2 rfl _ _ _) rfl ⟨rfl, rfl⟩
theorem rTake_nil (m : Int) (w : World) : Calls Tryd.prog 16 #[.pointer none, .int .i64 m] w fun r w' => r = .returned (.tuple #[.slice none 0 0, .bool false]) ∧ w = w' := by
  go_enter Tryd.func16, Tryd.ntmps16
  go_wp2_with fail
  exact bodyPost_ret (results_tmp2 rfl _ _ _) rfl ⟨rfl, rfl⟩
theorem Close_nil (off : Int) (w : World) : Calls Tryd.prog 13 #[.pointer none, .int .u64 off] w fun r w' => r = .returned (.int .i64 6) ∧ w = w' := by
  have C := Lib.hid (Put_nil off none 0 0 true w)
  go_enter Tryd.func13, Tryd.ntmps13
  go_wp2_with fail
  refine C.out.mono ?_
  rintro r w2 ⟨rfl, rfl⟩
  go_wp2_with fail
  go_ret
  exact ⟨rfl, rfl⟩
theorem Take_nil (m : Int) (w : World) : Calls Tryd.prog 15 #[.pointer none, .int .i64 m] w fun r w' => r = .returned (.tuple #[.slice none 0 0, .bool false]) ∧ ∃ k, w' = w.drewN k := by
  have C := Lib.hid (Ready_nil w)
  have D := Lib.hid (Done_nil w)
  obtain ⟨Y, hY⟩ : ∃ Y, Y = max m 0 := ⟨_, rfl⟩
  have hY0 : 0 ≤ Y := by omega
  have Z1 : (if m < 0 then 0 else m) = Y := by rw [hY]; split <;> omega
  have Z2 : (if 0 < m then m else 0) = Y := by rw [hY]; split <;> omega
  have Z3 : (if Y < 0 then Y else 0) = 0 := by split <;> omega
  have Z4 : (if 0 < Y then 0 else Y) = 0 := by split <;> omega
  have Z5 : min Y 0 = 0 := by omega
  clear hY
  go_enter Tryd.func15, Tryd.ntmps15
  go_wp2_with fail
  refine C.out.mono ?_
  rintro r w2 ⟨rfl, rfl⟩
  go_wp2_with fail
  refine D.out.mono ?_
  rintro r w2 ⟨rfl, k, rfl⟩
  go_wp2_with fail
  exact bodyPost_ret (results_tmp2 rfl _ _ _) rfl ⟨rfl, k, rfl⟩
theorem Close_any (base g n : Nat) (s : QS) (off : Int) (w : World) (h : Qlt w base g n s) (ht : TabT w) (hgl : 0 < base) (hbase : base ≤ w.heap.size) (hn : n ≤ 1000000000) (hw : (Lit.int .u64 off).wf = true)
    (hTl : (s.T.length : Int) ≤ 4611686018427387903) :
    Calls Tryd.prog 13 #[.pointer (some ⟨g, 0, none⟩), .int .u64 off] w fun r w' => r = .returned (.int .i64 (putCode s off 0 true)) ∧ (∃ s', (putCode s off 0 true = 0 → PutTo s off [] true s') ∧ (putCode s off 0 true ≠ 0 → s' = s) ∧ Qlt w' base g n s') ∧ KeepT w w' g ∧ Below base w w' := by
  have C := Lib.hid (Put_any base g n s off none 0 [] true w h (src_own (OwnV.nil w base 5 1) h (by intro x hx; cases hx)) ht hgl hbase hn hw (by decide) hTl)
  clear h ht hgl hbase hn hw hTl
  go_enter Tryd.func13, Tryd.ntmps13
  go_wp2_with fail
  refine C.out.mono ?_
  rintro r w2 ⟨rfl, h2⟩
  have H2 := Lib.hid h2
  clear h2
  go_wp2_with fail
  go_ret
  exact ⟨rfl, H2.out⟩
/-- The reference's Put, whatever comes. -/
theorem rPut_any (x B n : Nat) (s : QS) (off : Int) (A : Option Addr) (c : Nat) (p : List Int) (e : Bool) (w : World) (h : RQ w x B n s) (ok : QOk s) (hr : Rd w A p) (hb : Bytes p) (hsep : ∀ ad, A = some ad → ad.block ≠ x ∧ ad.block ≠ B) (hw : (Lit.int .u64 off).wf = true) (hl : p.length ≤ 100000) (hn : n ≤ 1000000000) :
    Calls Tryd.prog 14 #[.pointer (some ⟨x, 0, none⟩), .int .u64 off, .slice A p.length c, .bool e] w fun r w' => r = .returned (.int .i64 (putCode s off p.length e)) ∧ (∀ s', (putCode s off p.length e = 0 → PutTo s off p e s') → (putCode s off p.length e ≠ 0 → s' = s) → RQ w' x B (n + p.length) s') ∧ Two w w' x B := by
  have h0 := bounds_u64 hw
  rcases putCode_ways s off p.length e with ⟨hc, hbad⟩ | ⟨hc, hto, hbad⟩ | ⟨hc, hto, hfit⟩
  · refine (rPut_arg x B n s off A c p e w hw hl hbad).mono ?_
    rintro r w' ⟨rfl, rfl⟩
    rw [hc]
    refine ⟨rfl, fun s' _ h2 => ?_, Two.refl _ _ _⟩
    rw [h2 (by decide)]
    exact h.mono (by omega)
  · refine (rPut_form x B n s off A c p e w h.q (by omega) hl hto hbad).mono ?_
    rintro r w' ⟨rfl, rfl⟩
    rw [hc]
    refine ⟨rfl, fun s' _ h2 => ?_, Two.refl _ _ _⟩
    rw [h2 (by decide)]
    exact h.mono (by omega)
  · refine (rPut_ok x B n s off A c p e w h ok hr hb hsep (by omega) hl hto hn hfit).mono ?_
    rintro r w' ⟨rfl, h1, h2⟩
    rw [hc]
    exact ⟨rfl, fun s' h3 _ => h1 s' (h3 rfl), h2⟩
end Go.Proofs.YtdafeokjedmnkaaDoor
