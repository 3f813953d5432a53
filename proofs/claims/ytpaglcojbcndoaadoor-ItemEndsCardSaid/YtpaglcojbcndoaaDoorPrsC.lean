/-
  The parser: Text.
-/
import Derived.Test.YtpaglcojbcndoaaDoorPrsB
namespace Go.Proofs.YtpaglcojbcndoaaDoor
open Go.RowKit
set_option linter.unusedVariables false
set_option linter.unusedSimpArgs false
section
variable {gp g B : Nat} {p : List Int} {L : Int} {w : World}
set_option maxHeartbeats 1000000 in
theorem PText_ok (m : Nat) (h : Prs w gp g B p L) (h0 : rdS p ≠ 0) (h1 : rdN p ≤ m) (h2 : rdN p ≤ (p.drop (rdS p)).length) :
    Calls Tryd.prog 56 #[.pointer (some ⟨gp, 0, none⟩), .int .u64 m] w fun e w' => ∃ A' c' B', e = .returned (.slice A' (rdN p).toNat c') ∧ w.heap.size ≤ B' ∧ Own w' B' A' c' ((p.drop (rdS p)).take (rdN p).toNat) ∧ Prs w' gp g B ((p.drop (rdS p)).drop (rdN p).toNat) L ∧ w.grownBy w' (some g) := by
  have C := Lib.hid (PNumber_ok h h0)
  have hn := rdN_nonneg p h.rd.bytes
  obtain ⟨N, hN⟩ : ∃ N, N = (rdN p).toNat := ⟨_, rfl⟩
  have eN : rdN p = (N : Int) := by omega
  obtain ⟨Q, hQ⟩ : ∃ Q, Q = p.drop (rdS p) := ⟨_, rfl⟩
  rw [eN, ← hQ] at C
  rw [eN] at h1
  rw [eN, ← hQ] at h2
  rw [← hN, ← hQ]
  have hd : decide ((N : Int) ≤ (m : Int)) = true := by simp; omega
  have hd2 : decide (N ≤ m) = true := by simp; omega
  have h3 : N ≤ Q.length := by omega
  clear h h0 hn hN eN hQ h1 h2
  go_enter Tryd.func56, Tryd.ntmps56
  go_wp2_with fail
  refine C.out.mono ?_
  rintro e w1 ⟨rfl, hp1, g1⟩
  have G1 := Lib.hid g1
  have M := Lib.hid (PMust_ok hp1)
  clear hp1 g1
  go_wp2_with fail
  refine M.out.mono ?_
  rintro e w2 ⟨rfl, hp2, g2⟩
  have G2 := Lib.hid (only_then G1.out g2)
  have Y := Lib.hid (PBytes_ok N hp2 h3)
  have hz := G2.out.size
  clear hp2 g2
  go_wp2_with fail
  refine Y.out.mono ?_
  rintro e w3 ⟨A', c', rfl, ho, hp3, g3⟩
  have G3 := Lib.hid (only_then G2.out g3)
  have O := Lib.hid ho
  have P := Lib.hid hp3
  clear ho hp3 g3
  go_wp2_with fail
  go_ret
  exact ⟨A', c', w2.heap.size, rfl, hz, O.out, P.out, G3.out⟩
theorem PText_no1 (m : Nat) (h : Prs w gp g B p L) (h0 : rdS p = 0) :
    Calls Tryd.prog 56 #[.pointer (some ⟨gp, 0, none⟩), .int .u64 m] w fun e w' => e = dies L ∧ w.grownBy w' (some g) := by
  have C := Lib.hid (PNumber_no h h0)
  clear h h0
  go_enter Tryd.func56, Tryd.ntmps56
  go_wp2_with fail
  refine C.out.mono ?_
  rintro e w1 ⟨rfl, g1⟩
  exact ⟨rfl, rfl, g1⟩
theorem PText_no2 (m : Nat) (h : Prs w gp g B p L) (h0 : rdS p ≠ 0) (h1 : (m : Int) < rdN p) :
    Calls Tryd.prog 56 #[.pointer (some ⟨gp, 0, none⟩), .int .u64 m] w fun e w' => e = dies 4 ∧ w.grownBy w' (some g) := by
  have C := Lib.hid (PNumber_ok h h0)
  obtain ⟨N, hN⟩ : ∃ N, N = rdN p := ⟨_, rfl⟩
  rw [← hN] at C h1
  have hd : decide (N ≤ (m : Int)) = false := by simp; omega
  clear h h0 hN
  go_enter Tryd.func56, Tryd.ntmps56
  go_wp2_with fail
  refine C.out.mono ?_
  rintro e w1 ⟨rfl, hp1, g1⟩
  have G1 := Lib.hid g1
  have M := Lib.hid (PMust_no hp1)
  clear hp1 g1
  go_wp2_with fail
  refine M.out.mono ?_
  rintro e w2 ⟨rfl, g2⟩
  exact ⟨rfl, rfl, only_then G1.out g2⟩
set_option maxHeartbeats 1000000 in
theorem PText_no3 (m : Nat) (h : Prs w gp g B p L) (h0 : rdS p ≠ 0) (h1 : rdN p ≤ m) (hm : m < 18446744073709551616) (h2 : (p.drop (rdS p)).length < rdN p) :
    Calls Tryd.prog 56 #[.pointer (some ⟨gp, 0, none⟩), .int .u64 m] w fun e w' => e = dies L ∧ w.grownBy w' (some g) := by
  have C := Lib.hid (PNumber_ok h h0)
  have hn := rdN_nonneg p h.rd.bytes
  obtain ⟨N, hN⟩ : ∃ N, N = (rdN p).toNat := ⟨_, rfl⟩
  have eN : rdN p = (N : Int) := by omega
  obtain ⟨Q, hQ⟩ : ∃ Q, Q = p.drop (rdS p) := ⟨_, rfl⟩
  rw [eN, ← hQ] at C
  rw [eN] at h1
  rw [eN, ← hQ] at h2
  have hd : decide ((N : Int) ≤ (m : Int)) = true := by simp; omega
  have hd2 : decide (N ≤ m) = true := by simp; omega
  have h3 : Q.length < N := by omega
  have h4 : N < 18446744073709551616 := by omega
  clear h h0 hn hN eN hQ h1 h2
  go_enter Tryd.func56, Tryd.ntmps56
  go_wp2_with fail
  refine C.out.mono ?_
  rintro e w1 ⟨rfl, hp1, g1⟩
  have G1 := Lib.hid g1
  have M := Lib.hid (PMust_ok hp1)
  clear hp1 g1
  go_wp2_with fail
  refine M.out.mono ?_
  rintro e w2 ⟨rfl, hp2, g2⟩
  have G2 := Lib.hid (only_then G1.out g2)
  have Y := Lib.hid (PBytes_no N hp2 h3 h4)
  clear hp2 g2
  go_wp2_with fail
  refine Y.out.mono ?_
  rintro e w3 ⟨rfl, g3⟩
  exact ⟨rfl, rfl, only_then G2.out g3⟩
end
end Go.Proofs.YtpaglcojbcndoaaDoor
