/-
  CreditTills.
-/
import Derived.Test.YtgddlamfjjdlfaaCreditD
namespace Go.Proofs.Ytgddlamfjjdlfaa
open Go.RowKit
set_option linter.unusedVariables false
/-- The till stands for P, the reference's for Q; the call of the script lies at ob. -/
structure StT (w : World) (g x ob : Nat) (d n : Int) (P Q : TL) (W : World) : Prop where
  t : Til W g P
  r : RTil W x Q
  k : Blk W ob 32 #[.int .u8 d, .int .u64 n]
  b : Below w.heap.size w W
theorem StT.k0 {w W : World} {g x ob : Nat} {d n : Int} {P Q : TL} (h : StT w g x ob d n P Q W) : W.cell? ⟨ob, 0, none⟩ = some (.int .u8 d) := Blk.cell h.k 0
theorem StT.k1 {w W : World} {g x ob : Nat} {d n : Int} {P Q : TL} (h : StT w g x ob d n P Q W) : W.cell? ⟨ob, 1, none⟩ = some (.int .u64 n) := Blk.cell h.k 1
theorem StT.drewN {w W : World} {g x ob : Nat} {d n : Int} {P Q : TL} (h : StT w g x ob d n P Q W) (k : Nat) : StT w g x ob d n P Q (W.drewN k) := ⟨h.t.drewN k, h.r.drewN k, h.k, below_drewN h.b k⟩
theorem StT.tset {w W W' : World} {g x ob : Nat} {d n : Int} {P P' Q : TL} (h : StT w g x ob d n P Q W) (ht : Til W' g P') (hg : W.grownBy W' (some g)) (hx : g ≠ x) (ho : g ≠ ob) (hw : w.heap.size ≤ g) : StT w g x ob d n P' Q W' :=
  ⟨ht, rtil_gb h.r hg (Ne.symm hx), h.k.grown hg (by simpa using Ne.symm ho), below_gb h.b hg hw h.b.size⟩
theorem StT.rset {w W W' : World} {g x ob : Nat} {d n : Int} {P Q Q' : TL} (h : StT w g x ob d n P Q W) (ht : RTil W' x Q') (hg : W.grownBy W' (some x)) (hx : g ≠ x) (ho : x ≠ ob) (hw : w.heap.size ≤ x) : StT w g x ob d n P Q' W' :=
  ⟨til_gb h.t hg hx, ht, h.k.grown hg (by simpa using Ne.symm ho), below_gb h.b hg hw h.b.size⟩

set_option maxRecDepth 100000 in
set_option maxHeartbeats 1600000 in
theorem tills_some (n : Int) (A : Option Addr) (c : Nat) (l : List CreditOp) (w : World) (hn0 : 0 ≤ n) (hn1 : n < 18446744073709551616) (hr : RdT 2 CreditOpC CreditOpOk w A l) (hlc : l.length ≤ c) (hcm : c ≤ 9223372036854775807) (hA : A = none → c = 0) :
    Calls Try.prog 4 #[.bool false, .int .u64 n, .slice A l.length c] w fun r w' => r = .returned (.bool true) ∧ Below w.heap.size w w' := by
  have HR := Lib.hid hr
  clear hr hA
  have HT := fun W => Top_any n W hn0
  have ok0 := tlN_ok hn0
  have e0 : TLV (tlN n) = #[.int .u64 (topN n), .int .u64 (topN n), .int .u64 0, .int .u64 0] := rfl
  have hNP := fun W => NewTill_any n W hn0
  generalize tlN n = T0 at *
  generalize topN n = L0 at *
  have E0 := Lib.hid e0
  have HHT := Lib.hid HT
  clear HT e0
  go_enter Try.func4, Try.ntmps4
  go_wp2_with fail
  refine (awake11_any _).mono ?_
  rintro e w1 ⟨rfl, b1⟩
  go_wp2_with fail
  refine (hNP _).mono ?_
  rintro e w2 ⟨g, rfl, j0, l1, b2⟩
  have hz := b1.size
  have bb := b1.trans (b2.mono hz)
  have hm : w.heap.size ≤ g := by omega
  have hgl := j0.lt
  clear b1 b2
  go_wp2_with fail
  refine (HHT.out _).mono ?_
  rintro e w3 ⟨rfl, rfl⟩
  go_wp2_with fail
  refine (HHT.out _).mono ?_
  rintro e w3 ⟨rfl, rfl⟩
  clear hNP HHT
  go_wp2_with fail
  obtain ⟨x, hx⟩ : ∃ x, x = w2.heap.size := ⟨_, rfl⟩
  have r0 : RTil (w2.alloc (.cells #[.int .u64 L0, .int .u64 L0, .int .u64 0, .int .u64 0] 47)) x T0 := by
    unfold RTil
    rw [E0.out, hx]
    exact Blk.new w2 _ _
  have j0 : Til (w2.alloc (.cells #[.int .u64 L0, .int .u64 L0, .int .u64 0, .int .u64 0] 47)) g T0 := Blk.alloc j0 _
  have bb := bb.alloc bb.size (.cells #[.int .u64 L0, .int .u64 L0, .int .u64 0, .int .u64 0] 47)
  have hgx : g ≠ x := by omega
  have hxm : w.heap.size ≤ x := by omega
  rw [← hx]
  clear hx
  go_loopw [32] (fun i wr => ∃ (k : Nat) (T : TL), k ≤ l.length ∧ i = .int .i64 k ∧ Til wr g T ∧ RTil wr x T ∧ TlOk T ∧ Below w.heap.size w wr) (fun i _ => l.length - (intOf i).toNat)
  case atStart => exact ⟨0, T0, by omega, rfl, j0, r0, ok0, bb⟩
  case round =>
    obtain ⟨k, T, hk, rfl, j1, r1, ok1, b1⟩ := hrel
    by_cases hlt : k < l.length
    · obtain ⟨b, off, y, rfl, hb, hy, hok, hc⟩ := (HR.out.below b1).at_ hlt
      have q0 := hc 0 (by omega)
      have q1 := hc 1 (by omega)
      clear hc hy
      obtain ⟨d, y⟩ := y
      obtain ⟨w0, w1, _⟩ := hok
      simp [CreditOpC] at q0 q1 w0 w1
      have d0 := wf_u8 w0
      have x0 := wf_u64 w1
      by_cases h60 : k < 40
      · have OK := Lib.hid ok1
        have hgw := j1.lt
        have hxw := r1.lt
        obtain ⟨W, hW⟩ : ∃ W, W = wr.alloc (.cells #[.int .u8 d, .int .u64 y] 32) := ⟨_, rfl⟩
        obtain ⟨ob, hob⟩ : ∃ ob, ob = wr.heap.size := ⟨_, rfl⟩
        have hgo : g ≠ ob := by omega
        have hxo : x ≠ ob := by omega
        have s1 : StT w g x ob d y T T W := by
          rw [hW, hob]
          exact ⟨Blk.alloc j1 _, Blk.alloc r1 _, Blk.new wr _ _, b1.alloc b1.size _⟩
        have S1 := Lib.hid s1
        clear j1 r1 b1 j0 r0 bb ok0 ok1 E0
        rcases (show d % 3 = 0 ∨ d % 3 = 1 ∨ d % 3 = 2 by omega) with hq | hq | hq
        · have GC := fun W (Q : TL) (h : StT w g x ob d y T Q W) => (Came_any g T y W h.t x0.1 OK.out).mono (R' := fun r w' => r = .returned (.int .i64 (tCame T y).2) ∧ StT w g x ob d y (tCame T y).1 Q w') fun r w' h2 => ⟨h2.1, h.tset h2.2.1 h2.2.2 hgx hgo hm⟩
          have RC := fun W (P : TL) (h : StT w g x ob d y P T W) => (rCame_any x T y W h.r x0.1 OK.out).mono (R' := fun r w' => r = .returned (.int .i64 (tCame T y).2) ∧ StT w g x ob d y P (tCame T y).1 w') fun r w' h2 => ⟨h2.1, h.rset h2.2.1 h2.2.2 hgx hxo hxm⟩
          have ok2 : TlOk (tCame T y).1 := tCame_ok OK.out
          generalize (tCame T y).1 = T2 at GC RC ok2
          generalize (tCame T y).2 = E2 at GC RC
          have HGC := Lib.hid GC
          have HRC := Lib.hid RC
          clear GC RC
          go_wp2_with fail
          rw [← hW, ← hob]
          clear hW hob q0 q1
          have k0 := s1.k0
          have k1 := s1.k1
          clear s1
          go_wp2_with fail
          have s1 : StT w g x ob d y T T W.drew := S1.out.drewN 1
          have k1' := s1.k1
          clear S1 k0 k1
          go_region_with (first
            | (go_at_call 19; (with_reducible refine (HGC.out _ _ (by assumption)).mono ?_); rintro e w6 ⟨rfl, s6⟩; have k6 := s6.k1)
            | (go_at_call 20; (with_reducible refine (HRC.out _ _ (by assumption)).mono ?_); rintro e w6 ⟨rfl, s6⟩; have k6 := s6.k1))
          all_goals (
            rename StT w g x ob d y T2 T2 _ => s6
            clear s1 k1' k6
            have j2 := s6.t
            have r2 := s6.r
            have SS := Lib.hid s6
            clear s6
            go_wp2_with fail
            refine (TTold_any g T2 _ SS.out.t).mono ?_
            rintro e w7 ⟨rfl, q7, hw7⟩
            have s7 : StT w g x ob d y T2 T2 w7 := by rw [hw7]; exact SS.out.drewN _
            clear hw7 SS j2 r2
            have c1 := s7.r.c1
            have c2 := s7.r.c2
            have c3 := s7.r.c3
            have S7 := Lib.hid s7
            clear s7
            generalize T2.li = Li at c1 ⊢
            generalize T2.ca = Ca at c2 ⊢
            generalize T2.re = Re at c3 ⊢
            go_wp2_with fail
            go_roundw
            case rel => exact ⟨k + 1, T2, by omega, by go_num, S7.out.t, S7.out.r, ok2, S7.out.b⟩
            case measure => simp [intOf]; omega)
        · have GC := fun W (Q : TL) (h : StT w g x ob d y T Q W) => (Took_any g T y W h.t x0.1 OK.out).mono (R' := fun r w' => r = .returned (.int .i64 (tTook T y).2) ∧ StT w g x ob d y (tTook T y).1 Q w') fun r w' h2 => ⟨h2.1, h.tset h2.2.1 h2.2.2 hgx hgo hm⟩
          have RC := fun W (P : TL) (h : StT w g x ob d y P T W) => (rTook_any x T y W h.r x0.1 OK.out).mono (R' := fun r w' => r = .returned (.int .i64 (tTook T y).2) ∧ StT w g x ob d y P (tTook T y).1 w') fun r w' h2 => ⟨h2.1, h.rset h2.2.1 h2.2.2 hgx hxo hxm⟩
          have ok2 : TlOk (tTook T y).1 := tTook_ok OK.out x0.1
          generalize (tTook T y).1 = T2 at GC RC ok2
          generalize (tTook T y).2 = E2 at GC RC
          have HGC := Lib.hid GC
          have HRC := Lib.hid RC
          clear GC RC
          go_wp2_with fail
          rw [← hW, ← hob]
          clear hW hob q0 q1
          have k0 := s1.k0
          have k1 := s1.k1
          clear s1
          go_wp2_with fail
          have s1 : StT w g x ob d y T T W.drew := S1.out.drewN 1
          have k1' := s1.k1
          clear S1 k0 k1
          go_region_with (first
            | (go_at_call 21; (with_reducible refine (HGC.out _ _ (by assumption)).mono ?_); rintro e w6 ⟨rfl, s6⟩; have k6 := s6.k1)
            | (go_at_call 22; (with_reducible refine (HRC.out _ _ (by assumption)).mono ?_); rintro e w6 ⟨rfl, s6⟩; have k6 := s6.k1))
          all_goals (
            rename StT w g x ob d y T2 T2 _ => s6
            clear s1 k1' k6
            have j2 := s6.t
            have r2 := s6.r
            have SS := Lib.hid s6
            clear s6
            go_wp2_with fail
            refine (TTold_any g T2 _ SS.out.t).mono ?_
            rintro e w7 ⟨rfl, q7, hw7⟩
            have s7 : StT w g x ob d y T2 T2 w7 := by rw [hw7]; exact SS.out.drewN _
            clear hw7 SS j2 r2
            have c1 := s7.r.c1
            have c2 := s7.r.c2
            have c3 := s7.r.c3
            have S7 := Lib.hid s7
            clear s7
            generalize T2.li = Li at c1 ⊢
            generalize T2.ca = Ca at c2 ⊢
            generalize T2.re = Re at c3 ⊢
            go_wp2_with fail
            go_roundw
            case rel => exact ⟨k + 1, T2, by omega, by go_num, S7.out.t, S7.out.r, ok2, S7.out.b⟩
            case measure => simp [intOf]; omega)
        · have GC := fun W (h : StT w g x ob d y T T W) => (News_any g T W h.t OK.out).mono (R' := fun r w' => r = .returned (.tuple #[.int .u64 (tNews T).2.1, .bool (tNews T).2.2]) ∧ StT w g x ob d y (tNews T).1 T w') fun r w' h2 => ⟨h2.1, h.tset h2.2.1 h2.2.2 hgx hgo hm⟩
          have RC := fun W (h : StT w g x ob d y (tNews T).1 T W) => (rNews_any x T W h.r OK.out).mono (R' := fun r w' => r = .returned (.tuple #[.int .u64 (tNews T).2.1, .bool (tNews T).2.2]) ∧ StT w g x ob d y (tNews T).1 (tNews T).1 w') fun r w' h2 => ⟨h2.1, h.rset h2.2.1 h2.2.2 hgx hxo hxm⟩
          have ok2 : TlOk (tNews T).1 := tNews_ok OK.out
          generalize (tNews T).1 = T2 at GC RC ok2
          generalize (tNews T).2.1 = E2 at GC RC
          generalize (tNews T).2.2 = E3 at GC RC
          have HGC := Lib.hid GC
          have HRC := Lib.hid RC
          clear GC RC
          go_wp2_with fail
          rw [← hW, ← hob]
          clear hW hob q0 q1
          have k0 := s1.k0
          have k1 := s1.k1
          clear s1
          go_wp2_with fail
          refine (HGC.out _ S1.out).mono ?_
          rintro e w5 ⟨rfl, s5⟩
          have S5 := Lib.hid s5
          clear S1 k0 k1 s5
          go_wp2_with fail
          refine (HRC.out _ S5.out).mono ?_
          rintro e w6 ⟨rfl, s6⟩
          clear S5
          rcases E3 with _ | _
          all_goals (
            have j2 := s6.t
            have r2 := s6.r
            have SS := Lib.hid s6
            clear s6
            go_wp2_with fail
            refine (TTold_any g T2 _ SS.out.t).mono ?_
            rintro e w7 ⟨rfl, q7, hw7⟩
            have s7 : StT w g x ob d y T2 T2 w7 := by rw [hw7]; exact SS.out.drewN _
            clear hw7 SS j2 r2
            have c1 := s7.r.c1
            have c2 := s7.r.c2
            have c3 := s7.r.c3
            have S7 := Lib.hid s7
            clear s7
            generalize T2.li = Li at c1 ⊢
            generalize T2.ca = Ca at c2 ⊢
            generalize T2.re = Re at c3 ⊢
            go_wp2_with fail
            go_roundw
            case rel => exact ⟨k + 1, T2, by omega, by go_num, S7.out.t, S7.out.r, ok2, S7.out.b⟩
            case measure => simp [intOf]; omega)
      · have h61 : (40 : Int) ≤ k := by omega
        go_wp2_with fail
        go_ret
        exact ⟨rfl, b1.alloc b1.size _⟩
    · have hd : decide (k < l.length) = false := by simpa using hlt
      go_wp2_with fail
      go_ret
      exact ⟨rfl, b1⟩
end Go.Proofs.Ytgddlamfjjdlfaa
