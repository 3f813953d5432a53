/-
  The reference's Due.
-/
import Derived.Test.YtefhbiocddgijaaRLossD
namespace Go.Proofs.Ytefhbiocddgijaa
open Go.RowKit
set_option linter.unusedVariables false
set_option linter.unusedSimpArgs false
def dueStep (l : RG) (W : Int) (s : Int × Bool) (p : RPk) : Int × Bool := if l.hs = true ∧ p.nu < l.ak ∧ (s.2 = false ∨ p.se + W < s.1) then (p.se + W, true) else s
/-- What the reference says is due. -/
def dueR (l : RG) (W : Int) : Int × Bool := (l.op.filter live).foldl (dueStep l W) (0, false)
theorem dueStep_le (l : RG) (W : Int) (s : Int × Bool) (p : RPk) (hs : 0 ≤ s.1 ∧ s.1 ≤ 9223372036854775806) (hp : 0 ≤ p.se ∧ p.se ≤ 4611686018427387903) (hW : 0 ≤ W ∧ W ≤ 4611686018427387903) : 0 ≤ (dueStep l W s p).1 ∧ (dueStep l W s p).1 ≤ 9223372036854775806 := by
  unfold dueStep
  split
  · simp only; omega
  · exact hs
theorem dueFold_snoc (l : RG) (W : Int) {ps : List RPk} {k : Nat} {p : RPk} (hx : ps[k]? = some p) : (ps.take (k + 1)).foldl (dueStep l W) (0, false) = dueStep l W ((ps.take k).foldl (dueStep l W) (0, false)) p := by
  rw [take_snoc hx, List.foldl_append]
  rfl
theorem rDue_nil (wait : Int) (w : World) : Calls Try.prog 17 #[.pointer none, .int .u64 wait] w fun r w' => r = .returned (.tuple #[.int .u64 0, .bool false]) ∧ w = w' := by
  by_cases hb : 4611686018427387903 < wait
  · have e0 : decide (4611686018427387903 < wait) = true := by simpa using hb
    go_enter Try.func17, Try.ntmps17
    go_wp2_with fail
    refine (rOpen_nil w).mono ?_
    rintro e w1 ⟨rfl, rfl⟩
    go_wp2_with fail
    go_loopw [15, 6, 7] (fun i a s wr => i = .int .i64 0 ∧ a = .int .u64 0 ∧ s = .bool false ∧ wr = w) (fun _ _ _ _ => 0)
    case atStart => exact ⟨rfl, rfl, rfl, rfl⟩
    case round =>
      obtain ⟨rfl, rfl, rfl, rfl⟩ := hrel
      go_wp2_with fail
      exact bodyPost_ret (results_tmp2 rfl _ _ _) rfl ⟨rfl, rfl⟩
  · have e0 : decide (4611686018427387903 < wait) = false := by simpa using hb
    go_enter Try.func17, Try.ntmps17
    go_wp2_with fail
    refine (rOpen_nil w).mono ?_
    rintro e w1 ⟨rfl, rfl⟩
    go_wp2_with fail
    go_loopw [15, 6, 7] (fun i a s wr => i = .int .i64 0 ∧ a = .int .u64 0 ∧ s = .bool false ∧ wr = w) (fun _ _ _ _ => 0)
    case atStart => exact ⟨rfl, rfl, rfl, rfl⟩
    case round =>
      obtain ⟨rfl, rfl, rfl, rfl⟩ := hrel
      go_wp2_with fail
      exact bodyPost_ret (results_tmp2 rfl _ _ _) rfl ⟨rfl, rfl⟩
set_option maxHeartbeats 4000000 in
set_option maxRecDepth 100000 in
theorem rDue_low (base x : Nat) (A : Option Addr) (c : Nat) (l : RG) (wait : Int) (w : World) (h : RLed w base x A c l) (hl : l.op.length ≤ 1000000)
    (hop : ∀ p ∈ l.op, 0 ≤ p.se ∧ p.se ≤ 4611686018427387903) (hw : 0 ≤ wait ∧ wait ≤ 4611686018427387903) :
    Calls Try.prog 17 #[.pointer (some ⟨x, 0, none⟩), .int .u64 wait] w fun r w' => r = .returned (.tuple #[.int .u64 (dueR l (wait)).1, .bool (dueR l (wait)).2]) ∧ Below w.heap.size w w' := by
  have HO := Lib.hid (rOpen_any base x A c l w h hl)
  have HL := Lib.hid h
  have e0 : decide (4611686018427387903 < wait) = false := by simp; omega
  clear h
  go_enter Try.func17, Try.ntmps17
  go_wp2_with fail
  refine HO.out.mono ?_
  rintro e w1 ⟨A', c', rfl, ho, b1⟩
  have HRL := Lib.hid (HL.out.below b1)
  have HOW := Lib.hid ho
  have HB := Lib.hid b1
  obtain ⟨L, hL⟩ : ∃ L, L = l.op.filter live := ⟨_, rfl⟩
  have hopL : ∀ p ∈ L, 0 ≤ p.se ∧ p.se ≤ 4611686018427387903 := fun p hp => by rw [hL] at hp; exact hop p (List.mem_filter.1 hp).1
  have hLl : L.length ≤ l.op.length := by rw [hL]; exact List.length_filter_le _ _
  have hdue : dueR l (wait) = L.foldl (dueStep l (wait)) (0, false) := by unfold dueR; rw [hL]
  have HDU := Lib.hid hdue
  rw [← hL] at HOW ⊢
  clear ho b1 HO hL hdue hop e0
  go_wp2_with fail
  go_loopw [15, 6, 7] (fun i a s wr => ∃ (k : Nat) (v : Int) (sb : Bool), k ≤ L.length ∧ i = .int .i64 k ∧ a = .int .u64 v ∧ s = .bool sb ∧ 0 ≤ v ∧ v ≤ 9223372036854775806 ∧ Hid ((v, sb) = (L.take k).foldl (dueStep l (wait)) (0, false) ∧ Below w1.heap.size w1 wr)) (fun i _ _ _ => L.length - (intOf i).toNat)
  case atStart => exact ⟨0, 0, false, by omega, rfl, rfl, rfl, by omega, by omega, Lib.hid ⟨rfl, Below.refl _ _⟩⟩
  case round =>
    obtain ⟨k, v, sb, hk, rfl, rfl, rfl, hv0, hv1, HI⟩ := hrel
    by_cases hlt : k < L.length
    · obtain ⟨p, hx⟩ : ∃ p, L[k]? = some p := ⟨_, List.getElem?_eq_getElem hlt⟩
      have hp := hopL p (List.mem_of_getElem? hx)
      have hst := dueFold_snoc l (wait) hx
      rw [← HI.out.1] at hst
      obtain ⟨b, off, rfl, zb, hcell⟩ := RdR.at0 (OwnF.reads (OwnV.below HOW.out HI.out.2)) hx
      have x0 := hcell 0 (by omega)
      have x1 := hcell 1 (by omega)
      have x2 := hcell 2 (by omega)
      have x3 := hcell 3 (by omega)
      have x4 := hcell 4 (by omega)
      clear hcell hx
      have hr := HRL.out.below HI.out.2
      have c2 := hr.blk.cell 2
      have c3 := hr.blk.cell 3
      have hxr := hr.lt
      simp at c2 c3
      obtain ⟨nu, se, si, aq, go⟩ := p
      simp [RPkC] at x0 x1 x2 x3 x4
      rw [← Nat.add_assoc] at x1 x2 x3 x4
      simp only at hp
      unfold dueStep at hst
      simp only at hst
      have hwr : IntKind.u64.wrap (se + wait) = se + wait := IntWalk.u64_in _ (by omega)
      have HST := Lib.hid hst
      have HBL := Lib.hid ((HI.out.2.alloc HI.out.2.size (.cells #[.int .u64 nu, .int .u64 se, .int .i64 si, .bool aq, .bool go] 32)).drew)
      clear hst hr HI
      have hhs : l.hs = true ∨ l.hs = false := by cases l.hs <;> simp
      rcases hhs with hhs | hhs
      · rw [hhs] at c3
        by_cases h1 : nu < l.ak
        · have e1 : decide (nu < l.ak) = true := by simpa using h1
          cases sb with
          | false =>
            have hc := HST.out
            rw [if_pos (by first | exact ⟨hhs, h1, Or.inl rfl⟩ | exact ⟨hhs, h1, Or.inr h3⟩)] at hc
            have HC := Lib.hid hc
            clear hc HST
            go_wp2_with fail
            go_region
            go_wp2_with fail
            go_roundw
            case rel => exact ⟨k + 1, se + wait, true, by omega, by go_num, rfl, rfl, by omega, by omega, Lib.hid ⟨HC.out.symm, HBL.out⟩⟩
            case measure => simp [intOf]; omega
          | true =>
            by_cases h3 : se + wait < v
            · have e3 : decide (se + wait < v) = true := by simpa using h3
              have hc := HST.out
              rw [if_pos (by first | exact ⟨hhs, h1, Or.inl rfl⟩ | exact ⟨hhs, h1, Or.inr h3⟩)] at hc
              have HC := Lib.hid hc
              clear hc HST
              go_wp2_with fail
              go_region
              go_wp2_with fail
              go_roundw
              case rel => exact ⟨k + 1, se + wait, true, by omega, by go_num, rfl, rfl, by omega, by omega, Lib.hid ⟨HC.out.symm, HBL.out⟩⟩
              case measure => simp [intOf]; omega
            · have e3 : decide (se + wait < v) = false := by simpa using h3
              have hc := HST.out
              rw [if_neg (by rintro ⟨g1, g2, g3⟩; exact g3.elim (fun e => by cases e) h3)] at hc
              have HC := Lib.hid hc
              clear hc HST
              go_wp2_with fail
              go_region
              go_wp2_with fail
              go_roundw
              case rel => exact ⟨k + 1, v, true, by omega, by go_num, rfl, rfl, by omega, by omega, Lib.hid ⟨HC.out.symm, HBL.out⟩⟩
              case measure => simp [intOf]; omega
        · have e1 : decide (nu < l.ak) = false := by simpa using h1
          have hc := HST.out
          rw [if_neg (by rintro ⟨g1, g2, g3⟩; exact h1 g2)] at hc
          have HC := Lib.hid hc
          clear hc HST
          go_wp2_with fail
          go_region
          go_wp2_with fail
          go_roundw
          case rel => exact ⟨k + 1, v, sb, by omega, by go_num, rfl, rfl, by omega, by omega, Lib.hid ⟨HC.out.symm, HBL.out⟩⟩
          case measure => simp [intOf]; omega
      · rw [hhs] at c3
        have hc := HST.out
        rw [if_neg (by rintro ⟨g1, g2, g3⟩; rw [hhs] at g1; cases g1)] at hc
        have HC := Lib.hid hc
        clear hc HST
        go_wp2_with fail
        go_region
        go_wp2_with fail
        go_roundw
        case rel => exact ⟨k + 1, v, sb, by omega, by go_num, rfl, rfl, by omega, by omega, Lib.hid ⟨HC.out.symm, HBL.out⟩⟩
        case measure => simp [intOf]; omega
    · have hd : decide (k < L.length) = false := by simpa using hlt
      have hi := HI.out
      rw [List.take_of_length_le (by omega)] at hi
      have HI2 := Lib.hid hi
      have hz1 := HB.out.size
      clear hi HI
      go_wp2_with fail
      refine bodyPost_ret (results_tmp2 rfl _ _ _) rfl ⟨?_, HB.out.trans (HI2.out.2.mono hz1)⟩
      rw [HDU.out, ← HI2.out.1]
      rfl
set_option maxHeartbeats 4000000 in
set_option maxRecDepth 100000 in
theorem rDue_high (base x : Nat) (A : Option Addr) (c : Nat) (l : RG) (wait : Int) (w : World) (h : RLed w base x A c l) (hl : l.op.length ≤ 1000000)
    (hop : ∀ p ∈ l.op, 0 ≤ p.se ∧ p.se ≤ 4611686018427387903) (hw : 4611686018427387903 < wait) :
    Calls Try.prog 17 #[.pointer (some ⟨x, 0, none⟩), .int .u64 wait] w fun r w' => r = .returned (.tuple #[.int .u64 (dueR l (4611686018427387903)).1, .bool (dueR l (4611686018427387903)).2]) ∧ Below w.heap.size w w' := by
  have HO := Lib.hid (rOpen_any base x A c l w h hl)
  have HL := Lib.hid h
  have e0 : decide (4611686018427387903 < wait) = true := by simp; omega
  clear h
  go_enter Try.func17, Try.ntmps17
  go_wp2_with fail
  refine HO.out.mono ?_
  rintro e w1 ⟨A', c', rfl, ho, b1⟩
  have HRL := Lib.hid (HL.out.below b1)
  have HOW := Lib.hid ho
  have HB := Lib.hid b1
  obtain ⟨L, hL⟩ : ∃ L, L = l.op.filter live := ⟨_, rfl⟩
  have hopL : ∀ p ∈ L, 0 ≤ p.se ∧ p.se ≤ 4611686018427387903 := fun p hp => by rw [hL] at hp; exact hop p (List.mem_filter.1 hp).1
  have hLl : L.length ≤ l.op.length := by rw [hL]; exact List.length_filter_le _ _
  have hdue : dueR l (4611686018427387903) = L.foldl (dueStep l (4611686018427387903)) (0, false) := by unfold dueR; rw [hL]
  have HDU := Lib.hid hdue
  rw [← hL] at HOW ⊢
  clear ho b1 HO hL hdue hop e0
  go_wp2_with fail
  go_loopw [15, 6, 7] (fun i a s wr => ∃ (k : Nat) (v : Int) (sb : Bool), k ≤ L.length ∧ i = .int .i64 k ∧ a = .int .u64 v ∧ s = .bool sb ∧ 0 ≤ v ∧ v ≤ 9223372036854775806 ∧ Hid ((v, sb) = (L.take k).foldl (dueStep l (4611686018427387903)) (0, false) ∧ Below w1.heap.size w1 wr)) (fun i _ _ _ => L.length - (intOf i).toNat)
  case atStart => exact ⟨0, 0, false, by omega, rfl, rfl, rfl, by omega, by omega, Lib.hid ⟨rfl, Below.refl _ _⟩⟩
  case round =>
    obtain ⟨k, v, sb, hk, rfl, rfl, rfl, hv0, hv1, HI⟩ := hrel
    by_cases hlt : k < L.length
    · obtain ⟨p, hx⟩ : ∃ p, L[k]? = some p := ⟨_, List.getElem?_eq_getElem hlt⟩
      have hp := hopL p (List.mem_of_getElem? hx)
      have hst := dueFold_snoc l (4611686018427387903) hx
      rw [← HI.out.1] at hst
      obtain ⟨b, off, rfl, zb, hcell⟩ := RdR.at0 (OwnF.reads (OwnV.below HOW.out HI.out.2)) hx
      have x0 := hcell 0 (by omega)
      have x1 := hcell 1 (by omega)
      have x2 := hcell 2 (by omega)
      have x3 := hcell 3 (by omega)
      have x4 := hcell 4 (by omega)
      clear hcell hx
      have hr := HRL.out.below HI.out.2
      have c2 := hr.blk.cell 2
      have c3 := hr.blk.cell 3
      have hxr := hr.lt
      simp at c2 c3
      obtain ⟨nu, se, si, aq, go⟩ := p
      simp [RPkC] at x0 x1 x2 x3 x4
      rw [← Nat.add_assoc] at x1 x2 x3 x4
      simp only at hp
      unfold dueStep at hst
      simp only at hst
      have hwr : IntKind.u64.wrap (se + 4611686018427387903) = se + 4611686018427387903 := IntWalk.u64_in _ (by omega)
      have HST := Lib.hid hst
      have HBL := Lib.hid ((HI.out.2.alloc HI.out.2.size (.cells #[.int .u64 nu, .int .u64 se, .int .i64 si, .bool aq, .bool go] 32)).drew)
      clear hst hr HI
      have hhs : l.hs = true ∨ l.hs = false := by cases l.hs <;> simp
      rcases hhs with hhs | hhs
      · rw [hhs] at c3
        by_cases h1 : nu < l.ak
        · have e1 : decide (nu < l.ak) = true := by simpa using h1
          cases sb with
          | false =>
            have hc := HST.out
            rw [if_pos (by first | exact ⟨hhs, h1, Or.inl rfl⟩ | exact ⟨hhs, h1, Or.inr h3⟩)] at hc
            have HC := Lib.hid hc
            clear hc HST
            go_wp2_with fail
            go_region
            go_wp2_with fail
            go_roundw
            case rel => exact ⟨k + 1, se + 4611686018427387903, true, by omega, by go_num, rfl, rfl, by omega, by omega, Lib.hid ⟨HC.out.symm, HBL.out⟩⟩
            case measure => simp [intOf]; omega
          | true =>
            by_cases h3 : se + 4611686018427387903 < v
            · have e3 : decide (se + 4611686018427387903 < v) = true := by simpa using h3
              have hc := HST.out
              rw [if_pos (by first | exact ⟨hhs, h1, Or.inl rfl⟩ | exact ⟨hhs, h1, Or.inr h3⟩)] at hc
              have HC := Lib.hid hc
              clear hc HST
              go_wp2_with fail
              go_region
              go_wp2_with fail
              go_roundw
              case rel => exact ⟨k + 1, se + 4611686018427387903, true, by omega, by go_num, rfl, rfl, by omega, by omega, Lib.hid ⟨HC.out.symm, HBL.out⟩⟩
              case measure => simp [intOf]; omega
            · have e3 : decide (se + 4611686018427387903 < v) = false := by simpa using h3
              have hc := HST.out
              rw [if_neg (by rintro ⟨g1, g2, g3⟩; exact g3.elim (fun e => by cases e) h3)] at hc
              have HC := Lib.hid hc
              clear hc HST
              go_wp2_with fail
              go_region
              go_wp2_with fail
              go_roundw
              case rel => exact ⟨k + 1, v, true, by omega, by go_num, rfl, rfl, by omega, by omega, Lib.hid ⟨HC.out.symm, HBL.out⟩⟩
              case measure => simp [intOf]; omega
        · have e1 : decide (nu < l.ak) = false := by simpa using h1
          have hc := HST.out
          rw [if_neg (by rintro ⟨g1, g2, g3⟩; exact h1 g2)] at hc
          have HC := Lib.hid hc
          clear hc HST
          go_wp2_with fail
          go_region
          go_wp2_with fail
          go_roundw
          case rel => exact ⟨k + 1, v, sb, by omega, by go_num, rfl, rfl, by omega, by omega, Lib.hid ⟨HC.out.symm, HBL.out⟩⟩
          case measure => simp [intOf]; omega
      · rw [hhs] at c3
        have hc := HST.out
        rw [if_neg (by rintro ⟨g1, g2, g3⟩; rw [hhs] at g1; cases g1)] at hc
        have HC := Lib.hid hc
        clear hc HST
        go_wp2_with fail
        go_region
        go_wp2_with fail
        go_roundw
        case rel => exact ⟨k + 1, v, sb, by omega, by go_num, rfl, rfl, by omega, by omega, Lib.hid ⟨HC.out.symm, HBL.out⟩⟩
        case measure => simp [intOf]; omega
    · have hd : decide (k < L.length) = false := by simpa using hlt
      have hi := HI.out
      rw [List.take_of_length_le (by omega)] at hi
      have HI2 := Lib.hid hi
      have hz1 := HB.out.size
      clear hi HI
      go_wp2_with fail
      refine bodyPost_ret (results_tmp2 rfl _ _ _) rfl ⟨?_, HB.out.trans (HI2.out.2.mono hz1)⟩
      rw [HDU.out, ← HI2.out.1]
      rfl
theorem rDue_any (base x : Nat) (A : Option Addr) (c : Nat) (l : RG) (wait : Int) (w : World) (h : RLed w base x A c l) (hl : l.op.length ≤ 1000000) (hop : ∀ p ∈ l.op, 0 ≤ p.se ∧ p.se ≤ 4611686018427387903) (hw : 0 ≤ wait) :
    Calls Try.prog 17 #[.pointer (some ⟨x, 0, none⟩), .int .u64 wait] w fun r w' => r = .returned (.tuple #[.int .u64 (dueR l (min wait 4611686018427387903)).1, .bool (dueR l (min wait 4611686018427387903)).2]) ∧ Below w.heap.size w w' := by
  by_cases hb : 4611686018427387903 < wait
  · rw [show min wait 4611686018427387903 = 4611686018427387903 by omega]
    exact rDue_high base x A c l wait w h hl hop hb
  · rw [show min wait 4611686018427387903 = wait by omega]
    exact rDue_low base x A c l wait w h hl hop (by omega)
end Go.Proofs.Ytefhbiocddgijaa
