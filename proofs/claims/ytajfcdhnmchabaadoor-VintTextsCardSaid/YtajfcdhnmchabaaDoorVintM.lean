import Derived.Test.YtajfcdhnmchabaaDoorVintU
namespace Go.Proofs.YtajfcdhnmchabaaDoor
open Go.RowKit
set_option linter.unusedVariables false

theorem wf_u64 {n : Int} (h : (Lit.int .u64 n).wf = true) : 0 ≤ n ∧ n < 18446744073709551616 := by
  simp [Lit.wf, IntKind.min, IntKind.max, IntKind.signed, IntKind.bits] at h
  omega
theorem wf_i64 {n : Int} (h : (Lit.int .i64 n).wf = true) : -9223372036854775808 ≤ n ∧ n < 9223372036854775808 := by
  simp [Lit.wf, IntKind.min, IntKind.max, IntKind.signed, IntKind.bits] at h
  omega
/-- 'append(own, x)[:n]', and beyond its end. -/
theorem slice_back (A : Option Addr) (c : Nat) (l : List Int) (m n : Nat) (kd : IntKind) (hn : n ≤ c) (hm : n ≤ l.length) :
    (∀ w, (Instr.slice 23 (.slice A m c) none (some (.int kd (n : Int))) none).run Tryd.prog w = .ok (.slice A (l.take n).length c) w) := by
  intro w
  rw [run_slice_h (P := Tryd.prog) w 23 A m c (by rw [elem_u8]; exact Tryd.underlying23) kd (n : Int) (by omega) (by omega), elem_u8, run_sizeOf_u8]
  cases A <;> simp [sliced, Nat.min_eq_left hm, Addr.add]

set_option maxHeartbeats 1600000 in
theorem reads_walk (A : Option Addr) (c : Nat) (p : List Int) (most : Int) (w : World) (ht : Tab w) (hr : Rd w A p) (hb : Bytes p) (hc : p.length ≤ c) (hm : c ≤ 9223372036854775807) (hn : A = none → c = 0)
    (wm : (Lit.int .i64 most).wf = true) :
    Calls Tryd.prog 4 #[.slice A p.length c, .int .i64 most] w fun e w' => e = .returned (.bool true) ∧ Below w.heap.size w w' := by
  have hmost := (wf_i64 wm).2
  clear wm
  obtain ⟨l, hl⟩ : ∃ l, l = p.take (300 : Int).toNat := ⟨_, rfl⟩
  have hll : l.length ≤ 300 := by rw [hl]; simp; omega
  have hlb : Bytes l := by rw [hl]; exact hb.take _
  have HL := Lib.hid hl
  clear hl
  go_enter Tryd.func4, Tryd.ntmps4
  go_wp2_with fail
  refine (awake_any _ ht).mono ?_
  rintro e w1 ⟨rfl, hb1⟩
  have hr1 := hr.below hb1
  go_wp2_with fail
  refine (cut_any A c p 300 _ hr1 (by omega) hc (by decide) (by decide)).mono ?_
  rintro e w2 ⟨A2, c2, rfl, hown2, hb2⟩
  rw [← HL.out] at hown2 ⊢
  have k2 := hb1.trans (hb2.mono hb1.size)
  have s2 := Sl.of_own hown2
  clear hr hr1 hown2 hb1 hb2
  go_wp2_with fail
  refine (copy_any A2 c2 l _ s2.rd (by omega)).mono ?_
  rintro e w3 ⟨A3, c3, rfl, hown3, hb3⟩
  have k3 := k2.trans (hb3.mono k2.size)
  have s3 := s2.below hb3
  have hsz3 := hb3.size
  go_wp2_with (at_builtin; go_must (refine wpList_app rfl (.tmp 23) (.tmp 24) rfl w2.heap.size (l := l) (news := [165]) rfl rfl (hown3.below ((Below.refl _ _).alloc (Nat.le_refl _) _)) (Rd.of_own (own_lit1 w3 165 (Nat.le_refl _))) (by simp; omega) (by simp; omega) ?_); intro A4 c4 w4 hown4 hg4 hb4; have hc4 : l.length + 1 ≤ c4 := by have := hown4.cap.1; simpa using this)
  have hcm := (Sl.of_own hown4).max
  have b24 : Below w2.heap.size w2 w4 := (hb3.trans ((Below.refl _ _).alloc hsz3 _)).trans hb4
  have k4 := k2.trans (b24.mono k2.size)
  have s4 := s2.below b24
  have r4 := Rd.of_own hown4
  have q4 : Sl w4 A4 c4 l := ⟨by have := r4.upto (k := l.length) (by simp); simpa using this, by omega, hcm, (Sl.of_own hown4).nil⟩
  have hA4 : ∃ g, A4 = some ⟨g, 0, none⟩ := by
    obtain ⟨g, hg, _⟩ := hown4.form (by simp)
    exact ⟨g, hg⟩
  obtain ⟨g, rfl⟩ := hA4
  have hlast : w4.cell? ⟨g, l.length, none⟩ = some (.int .u8 165) := by
    have := r4.cell (j := l.length) (x := 165) (by simp)
    simpa using this
  have hgb : g < w4.heap.size := by
    obtain ⟨g', hg', _, h⟩ := hown4.form (by simp)
    injection hg' with hg'
    injection hg' with hg'
    rw [hg']; exact h
  clear s2 hb3 k3 s3 hown3 hsz3 hb4 hg4 b24 r4 hown4 k2
  have kN := rdN_nonneg l hlb
  have R := tkR_bytes hlb
  have T1 := ttT_bytes hlb most
  have T2 := ttR_bytes hlb most
  have lR : (tkR l).length ≤ 300 := by unfold tkR; split <;> simp; omega
  have lT : (ttT l most).length ≤ 300 := by unfold ttT vtkT; split <;> simp; omega
  have lQ : (ttR l most).length ≤ 300 := by unfold ttR vtkR; split <;> simp; omega
  have HN := Lib.hid kN
  clear kN
  refine (take_u _ c4 l _ q4 hlb (by omega)).mono ?_
  rintro e w5 ⟨A5, c5, rfl, s5, b5⟩
  have k5 := k4.trans (b5.mono k4.size)
  have s4 := s4.below b5
  have q4 := q4.below b5
  have hlast : w5.cell? ⟨g, l.length, none⟩ = some (.int .u8 165) := (b5.cell (p := ⟨g, l.length, none⟩) hgb).trans hlast
  have hgb := Nat.lt_of_lt_of_le hgb b5.size
  clear k4 b5
  go_wp2_with fail
  refine (refTake_u A2 c2 l _ s4 hlb (by omega)).mono ?_
  rintro e w6 ⟨A6, c6, rfl, s6, b6⟩
  have k6 := k5.trans (b6.mono k5.size)
  have s4 := s4.below b6
  have q4 := q4.below b6
  have s5 := s5.below b6
  have hlast : w6.cell? ⟨g, l.length, none⟩ = some (.int .u8 165) := (b6.cell (p := ⟨g, l.length, none⟩) hgb).trans hlast
  have hgb := Nat.lt_of_lt_of_le hgb b6.size
  clear k5 b6
  go_wp2_with fail
  refine (tt_u _ c4 l most _ q4 hlb (by omega) hmost).mono ?_
  rintro e w7 ⟨A7, c7, A8, c8, rfl, s7, s8, b7⟩
  have k7 := k6.trans (b7.mono k6.size)
  have s4 := s4.below b7
  have q4 := q4.below b7
  have s5 := s5.below b7
  have s6 := s6.below b7
  have hlast : w7.cell? ⟨g, l.length, none⟩ = some (.int .u8 165) := (b7.cell (p := ⟨g, l.length, none⟩) hgb).trans hlast
  have hgb := Nat.lt_of_lt_of_le hgb b7.size
  clear k6 b7
  go_wp2_with fail
  refine (refTT_u A2 c2 l most _ s4 hlb (by omega) hmost).mono ?_
  rintro e w8 ⟨A9, c9, A10, c10, rfl, s9, s10, b8⟩
  have k8 := k7.trans (b8.mono k7.size)
  have s4 := s4.below b8
  have q4 := q4.below b8
  have s5 := s5.below b8
  have s6 := s6.below b8
  have s7 := s7.below b8
  have s8 := s8.below b8
  have hlast : w8.cell? ⟨g, l.length, none⟩ = some (.int .u8 165) := (b8.cell (p := ⟨g, l.length, none⟩) hgb).trans hlast
  clear k7 b8 hgb
  go_wp2_with fail
  refine (same_yes A5 A6 c5 c6 _ _ _ s5.rd s6.rd R rfl).mono ?_
  rintro e w9 ⟨rfl, rfl⟩
  go_wp2_with fail
  refine (same_yes A7 A9 c7 c9 _ _ _ s7.rd s9.rd T1 rfl).mono ?_
  rintro e w9 ⟨rfl, rfl⟩
  go_wp2_with fail
  refine (same_yes A8 A10 c8 c10 _ _ _ s8.rd s10.rd T2 rfl).mono ?_
  rintro e w9 ⟨rfl, rfl⟩
  go_wp2_with fail
  refine (same_yes _ A2 c4 c2 _ _ _ q4.rd s4.rd hlb rfl).mono ?_
  rintro e w9 ⟨rfl, rfl⟩
  go_wp2
  go_ret
  exact ⟨rfl, k8⟩
end Go.Proofs.YtajfcdhnmchabaaDoor
