/-
  turn: slices.stableCmpFunc and SortStableFunc at places.
-/
import Derived.Test.YtchohcfcnghmlaaTurnO
namespace Go.Proofs.Ytchohcfcnghmlaa
open Go.RowKit
set_option linter.unusedVariables false
set_option linter.unusedSimpArgs false
/-- Two slots: a place and the one that lies s behind it. -/
def Rk2 (s : Nat) (P : Nat → World → Prop) (p q : Value) (wr : World) : Prop := ∃ k : Nat, p = .int .i64 (k : Int) ∧ q = .int .i64 ((k : Int) + (s : Int)) ∧ P k wr
theorem Rk2.mk {s : Nat} {P : Nat → World → Prop} {p q : Value} {wr : World} (k : Nat) (hp : p = .int .i64 (k : Int)) (hq : q = .int .i64 ((k : Int) + (s : Int))) (h : P k wr) : Rk2 s P p q wr := ⟨k, hp, hq, h⟩
set_option maxRecDepth 20000 in
set_option maxHeartbeats 6400000 in
theorem stable_any (l : List R3) (f : Nat) (cb : Array Value) (w0 : World) (A : Option Addr) (c N : Nat) (D : List Nat) (W : World) (cm : Cmp l N w0 f cb) (h : RowN W w0.heap.size A c D) (hw : Below w0.heap.size w0 W) (hN : D.length = N) (hN2 : N ≤ 1000) (hlt : ∀ v ∈ D, v < N) (hid : ∀ x, x < N → D[x]? = some x) :
    Calls Try.prog 21 #[.slice A N c, .int .i64 (N : Int), .func (.func f) #[] cb] W fun r w' => r = .returned (.tuple #[]) ∧ ∃ D' : List Nat, D'.length = N ∧ D'.Perm D ∧ Bk l D' 0 N ∧ RowN w' w0.heap.size A c D' ∧ Below w0.heap.size w0 w' := by
  have INS := Lib.hid (fun (a b : Nat) (C : List Nat) (W' : World) (h1 : RowN W' w0.heap.size A c C) (h2 : Below w0.heap.size w0 W') (h3 : C.length = N) (h4 : a ≤ b) (h5 : b ≤ N) (h6 : ∀ v ∈ C, v < N) (h7 : ∀ x, a ≤ x → x < N → C[x]? = some x) => insertion_any l f cb w0 A c a b N C W' cm h1 h2 h3 hN2 h4 h5 h6 (fun x y u v e1 e2 e3 e4 e5 => by
    rw [h7 x e1 (by omega)] at e4
    rw [h7 y (by omega) (by omega)] at e5
    injection e4 with e4
    injection e5 with e5
    omega))
  have SYM := Lib.hid (fun (a m b : Nat) (C : List Nat) (W' : World) (h1 : RowN W' w0.heap.size A c C) (h2 : Below w0.heap.size w0 W') (h3 : C.length = N) (h4 : a < m) (h5 : m < b) (h6 : b ≤ N) (h7 : ∀ v ∈ C, v < N) (h8 : Bk l C a m) (h9 : Bk l C m b) => symMerge_any l f cb w0 A c N cm hN2 (b - a + 1) a m b C W' (by omega) h1 h2 h3 h4 h5 h6 h7 h8.1 h9.1 (h8.li h9))
  have VAL := Lib.hid (fun (C : List Nat) (hp : C.Perm D) (v : Nat) (hv : v ∈ C) => hlt v (hp.mem_iff.1 hv))
  obtain ⟨P1, hP1⟩ : ∃ P1 : Nat → World → Prop, P1 = fun k wr => 20 ∣ k ∧ k ≤ N ∧ ∃ C : List Nat, C.length = N ∧ C.Perm D ∧ One1 l N 20 k C ∧ RowN wr w0.heap.size A c C ∧ Below w0.heap.size w0 wr := ⟨_, rfl⟩
  obtain ⟨P2, hP2⟩ : ∃ P2 : Nat → World → Prop, P2 = fun s wr => 0 < s ∧ s ≤ 2000 ∧ ∃ C : List Nat, C.length = N ∧ C.Perm D ∧ Bks l N s C ∧ RowN wr w0.heap.size A c C ∧ Below w0.heap.size w0 wr := ⟨_, rfl⟩
  have E1 := Lib.hid hP1
  have E2 := Lib.hid hP2
  have HID := Lib.hid hid
  have HR := Lib.hid h
  have HW := Lib.hid hw
  clear cm h hw hlt hid hP1 hP2
  go_enter Try.func21, Try.ntmps21
  go_wp2_with fail
  go_loopw [7, 8] (fun p q wr => Rk2 20 P1 p q wr) (fun p _ _ => N + 1 - (intOf p).toNat)
  case atStart => exact Rk2.mk 0 rfl rfl (by rw [E1.out]; exact ⟨⟨0, by simp⟩, by omega, D, hN, List.Perm.refl _, ⟨fun x _ hx => by omega, fun x _ hx => HID.out x hx⟩, HR.out, HW.out⟩)
  case round =>
    obtain ⟨k, rfl, rfl, hp⟩ := hrel
    rw [E1.out] at hp
    obtain ⟨hk, hkN, C, hl, hpm, h1, hr, hb⟩ := hp
    have HK := Lib.hid hk
    have H1 := Lib.hid h1
    have PM := Lib.hid hpm
    have HLC := Lib.hid hl
    by_cases hlt : k + 20 ≤ N
    · have hlti : (k : Int) + 20 ≤ N := by omega
      have I := INS.out k (k + 20) C wr hr hb hl (by omega) hlt (fun v hv => VAL.out C hpm v hv) (fun x h2 h3 => h1.2 x h2 h3)
      rw [show ((k + 20 : Nat) : Int) = (k : Int) + 20 by omega] at I
      have HI := Lib.hid I
      have w1 : IntKind.i64.wrap ((k : Int) + 20 + 20) = (k : Int) + 20 + 20 := IntWalk.i64_in _ (by omega)
      clear I hr hb hpm h1 hl hk
      go_wp2_with fail
      refine HI.out.mono ?_
      rintro _ w2 ⟨rfl, C2, o, hr2, hb2⟩
      have O := Lib.hid o
      have R2 := Lib.hid hr2
      have B2 := Lib.hid hb2
      clear o hr2 hb2 HI
      go_wp2_with fail
      go_roundw
      case rel => exact Rk2.mk (k + 20) (by go_num) (by go_num) (by rw [E1.out]; exact ⟨Nat.dvd_add HK.out (Nat.dvd_refl 20), hlt, C2, O.out.len.trans HLC.out, O.out.perm.trans PM.out, H1.out.step HK.out hlt O.out (by omega), R2.out, B2.out⟩)
      case measure => simp [intOf]; omega
    · have hni : ¬ (k : Int) + 20 ≤ N := by omega
      have hnd : decide ((k : Int) + 20 ≤ N) = false := decide_eq_false hni
      have I := INS.out k N C wr hr hb hl hkN (Nat.le_refl _) (fun v hv => VAL.out C hpm v hv) (fun x h2 h3 => h1.2 x h2 h3)
      have HI := Lib.hid I
      clear I hr hb hpm h1 hl hk
      go_wp2_with fail
      refine HI.out.mono ?_
      rintro _ w2 ⟨rfl, C2, o, hr2, hb2⟩
      have BK := Lib.hid (H1.out.last HK.out hkN (by omega) o (by omega))
      have L2 := Lib.hid (o.len.trans HLC.out)
      have PM2 := Lib.hid (o.perm.trans PM.out)
      have R2 := Lib.hid hr2
      have B2 := Lib.hid hb2
      clear o hr2 hb2 HI H1 PM HLC
      go_wp2_with fail
      go_loopw [6, 7, 8, 9] (fun p _ _ _ wr => Rk P2 p wr) (fun p _ _ _ _ => N - (intOf p).toNat)
      case atStart => exact Rk.mk 20 rfl (by rw [E2.out]; exact ⟨by omega, by omega, C2, L2.out, PM2.out, BK.out, R2.out, B2.out⟩)
      case round =>
        clear BK L2 PM2 R2 B2
        obtain ⟨s, rfl, hp⟩ := hrel
        rw [E2.out] at hp
        obtain ⟨hs, hs2, C, hl, hpm, hbk, hr, hb⟩ := hp
        by_cases hsN : s < N
        · have hsi : (s : Int) < N := by omega
          obtain ⟨P3, hP3⟩ : ∃ P3 : Nat → World → Prop, P3 = fun k wr => 2 * s ∣ k ∧ k ≤ N ∧ ∃ C : List Nat, C.length = N ∧ C.Perm D ∧ Two2 l N s (2 * s) k C ∧ RowN wr w0.heap.size A c C ∧ Below w0.heap.size w0 wr := ⟨_, rfl⟩
          have E3 := Lib.hid hP3
          have ST := Lib.hid (show P3 0 wr by rw [hP3]; exact ⟨⟨0, by simp⟩, by omega, C, hl, hpm, Two2.start hbk (by omega), hr, hb⟩)
          obtain ⟨t, ht⟩ : ∃ t, t = 2 * s := ⟨_, rfl⟩
          have HT := Lib.hid ht
          have t1 : (2 : Int) * s = (t : Int) := by omega
          have t2 : (s : Int) * 2 = (t : Int) := by omega
          have t3 : IntKind.i64.wrap (t : Int) = (t : Int) := IntWalk.i64_in _ (by omega)
          have tb : t ≤ 2000 ∧ 0 < t ∧ s < t ∧ t ≤ s + s ∧ s + s ≤ t := by omega
          clear hP3 hl hpm hbk hr hb ht
          go_wp2_with fail
          go_loopw [7, 8] (fun p q wr => Rk2 t P3 p q wr) (fun p _ _ => N + 1 - (intOf p).toNat)
          case atStart => exact Rk2.mk 0 rfl (congrArg (Value.int .i64) (by omega)) ST.out
          case round =>
            clear ST
            obtain ⟨k, rfl, rfl, hp⟩ := hrel
            rw [E3.out] at hp
            obtain ⟨hk, hkN, C, hl, hpm, h2, hr, hb⟩ := hp
            have HK := Lib.hid hk
            have H2 := Lib.hid h2
            have PM := Lib.hid hpm
            have HLC := Lib.hid hl
            have sk : s ∣ k := Nat.dvd_trans ⟨2, by rw [Nat.mul_comm]⟩ hk
            by_cases hlt2 : k + t ≤ N
            · have hlti : (k : Int) + t ≤ N := by omega
              have q1 := h2.2 k sk (Nat.le_refl _)
              have q2 := h2.2 (k + s) (Nat.dvd_add sk (Nat.dvd_refl s)) (by omega)
              rw [Nat.min_eq_left (by omega), Nat.min_eq_left (by omega)] at q1
              rw [Nat.min_eq_left (by omega), Nat.min_eq_left (by omega), show k + s + s = k + t by omega] at q2
              have I := SYM.out k (k + s) (k + t) C wr hr hb hl (by omega) (by omega) hlt2 (fun v hv => VAL.out C hpm v hv) q1 q2
              rw [show ((k + s : Nat) : Int) = (k : Int) + s by omega, show ((k + t : Nat) : Int) = (k : Int) + t by omega] at I
              have HI := Lib.hid I
              have w1 : IntKind.i64.wrap ((k : Int) + t + t) = (k : Int) + t + t := IntWalk.i64_in _ (by omega)
              have w2 : IntKind.i64.wrap ((k : Int) + s) = (k : Int) + s := IntWalk.i64_in _ (by omega)
              clear I hr hb hpm h2 hl hk sk q1 q2
              go_wp2_with fail
              refine HI.out.mono ?_
              rintro _ w3 ⟨rfl, C3, o, hr2, hb2⟩
              have O := Lib.hid o
              have R3 := Lib.hid hr2
              have B3 := Lib.hid hb2
              clear o hr2 hb2 HI
              go_wp2_with fail
              go_roundw
              case rel => exact Rk2.mk (k + t) (by go_num) (by go_num) (by
                have h2 := H2.out
                have hk := HK.out
                have o := O.out
                rw [← HT.out] at h2 hk
                rw [E3.out, ← HT.out]
                refine ⟨Nat.dvd_add hk (Nat.dvd_refl t), hlt2, C3, O.out.len.trans HLC.out, O.out.perm.trans PM.out, ?_, R3.out, B3.out⟩
                have st := Two2.step (l := l) (N := N) (s := s) (a := k) H2.out HK.out (by rw [← HT.out]; exact hlt2) (by rw [← HT.out]; exact o) (by omega)
                rw [← HT.out] at st
                exact st)
              case measure => simp [intOf]; omega
            · have hni : ¬ (k : Int) + t ≤ N := by omega
              have hnd : decide ((k : Int) + t ≤ N) = false := decide_eq_false hni
              have w2 : IntKind.i64.wrap ((k : Int) + s) = (k : Int) + s := IntWalk.i64_in _ (by omega)
              have q1 := h2.2 k sk (Nat.le_refl _)
              rw [Nat.min_eq_left hkN] at q1
              by_cases hm : k + s < N
              · have hmi : (k : Int) + s < N := by omega
                have q2 := h2.2 (k + s) (Nat.dvd_add sk (Nat.dvd_refl s)) (by omega)
                rw [Nat.min_eq_left (by omega)] at q1
                rw [Nat.min_eq_left (by omega), Nat.min_eq_right (by omega)] at q2
                have I := SYM.out k (k + s) N C wr hr hb hl (by omega) hm (Nat.le_refl _) (fun v hv => VAL.out C hpm v hv) q1 q2
                rw [show ((k + s : Nat) : Int) = (k : Int) + s by omega] at I
                have HI := Lib.hid I
                have Q1 := Lib.hid q1
                have Q2 := Lib.hid q2
                clear I hr hb hpm h2 hl hk sk q1 q2
                go_wp2_with fail
                refine HI.out.mono ?_
                rintro _ w3 ⟨rfl, C3, o, hr2, hb2⟩
                have O := Lib.hid o
                have R3 := Lib.hid hr2
                have B3 := Lib.hid hb2
                clear o hr2 hb2 HI
                go_wp2_with fail
                go_roundw
                case rel => exact Rk.mk t rfl (by
                  rw [E2.out]
                  refine ⟨by omega, by omega, C3, O.out.len.trans HLC.out, O.out.perm.trans PM.out, ?_, R3.out, B3.out⟩
                  rw [HT.out]
                  exact Two2.last H2.out HK.out hkN (by rw [← HT.out]; omega) (Q1.out.merge Q2.out (by omega) (by omega) O.out) (fun x hx => O.out.out x (by omega)) (by omega))
                case measure => simp [intOf]; omega
              · have hmi : ¬ (k : Int) + s < N := by omega
                have hmd : decide ((k : Int) + s < N) = false := decide_eq_false hmi
                rw [Nat.min_eq_right (by omega)] at q1
                have Q1 := Lib.hid q1
                have R3 := Lib.hid hr
                have B3 := Lib.hid hb
                clear hr hb hpm h2 hl hk sk q1
                go_wp2_with fail
                go_roundw
                case rel => exact Rk.mk t rfl (by
                  rw [E2.out]
                  refine ⟨by omega, by omega, C, HLC.out, PM.out, ?_, R3.out, B3.out⟩
                  rw [HT.out]
                  exact Two2.last H2.out HK.out hkN (by rw [← HT.out]; omega) Q1.out (fun x hx => rfl) (by omega))
                case measure => simp [intOf]; omega
        · have hsd : decide ((s : Int) < N) = false := decide_eq_false (by omega)
          have Z := Lib.hid (Bks.whole hbk (by omega))
          have Y := Lib.hid (And.intro hl (And.intro hpm (And.intro hr hb)))
          clear hl hpm hbk hr hb
          go_wp2_with fail
          first | go_end0 | refine bodyPost_ret (results_none rfl _ _ _) rfl ?_
          exact ⟨rfl, C, Y.out.1, Y.out.2.1, Z.out, Y.out.2.2.1, Y.out.2.2.2⟩
end Go.Proofs.Ytchohcfcnghmlaa
