/-
  The ledger: check.
-/
import Derived.Test.YtefhbiocddgijaaLossB
import Derived.Test.YtefhbiocddgijaaRng
namespace Go.Proofs.Ytefhbiocddgijaa
open Go.RowKit
set_option linter.unusedVariables false
set_option linter.unusedSimpArgs false

def badR (r : List (Int × Int)) : Bool := r.any (fun x => decide (x.2 < x.1))
def bigR (n : Int) (r : List (Int × Int)) : Bool := r.any (fun x => decide (n ≤ x.2))
theorem take_snoc {α : Type} {l : List α} {k : Nat} {x : α} (hx : l[k]? = some x) : l.take (k + 1) = l.take k ++ [x] := by rw [List.take_add_one, hx]; rfl
theorem check_any (base g : Nat) (A : Option Addr) (c : Nat) (l : LG) (B : Option Addr) (d : Nat) (r : List (Int × Int)) (w : World) (h : Led w base g A c l) (hr : RdG w B r) (hl : r.length ≤ 4611686018427387904) :
    Calls Try.prog 24 #[.pointer (some ⟨g, 0, none⟩), .slice B r.length d] w fun e w' => e = .returned (.int .i64 (ackE l r)) ∧ Below w.heap.size w w' := by
  have z := h.lt
  have H := Lib.hid h
  have HR := Lib.hid hr
  clear h hr
  go_enter Try.func24, Try.ntmps24
  go_wp2_with fail
  go_loopw [10, 5] (fun i e wr => ∃ k : Nat, k ≤ r.length ∧ i = .int .i64 k ∧ badR (r.take k) = false ∧ e = .int .i64 (if bigR l.nx (r.take k) = true then 1 else 0) ∧ Below w.heap.size w wr) (fun i _ _ => r.length - (intOf i).toNat)
  case atStart => exact ⟨0, by omega, rfl, rfl, rfl, Below.refl _ _⟩
  case round =>
    obtain ⟨k, hk, rfl, hbad, rfl, hb⟩ := hrel
    by_cases hlt : k < r.length
    · obtain ⟨b, off, p, rfl, hb1, hx, q0, q1⟩ := (HR.out.below hb).at_ hlt
      obtain ⟨fr, to⟩ := p
      simp only at q0 q1
      have hB := hb.alloc hb.size (.cells #[.int .u64 fr, .int .u64 to] 61)
      have HL := (H.out.below hb).below ((Below.refl _ _).alloc (Nat.le_refl _) (.cells #[.int .u64 fr, .int .u64 to] 61))
      have c1 := HL.blk.cell 1
      simp at c1
      have hz := hb.size
      have hts := take_snoc hx
      by_cases h1 : to < fr
      · have e4 : ackE l r = 4 := by
          unfold ackE
          rw [if_pos]
          rw [List.any_eq_true]
          exact ⟨(fr, to), List.mem_of_getElem? hx, by simpa using h1⟩
        have HBB := Lib.hid hB
        have HE4 := Lib.hid e4
        clear e4 HL hts hB hbad hx
        generalize (if bigR l.nx (r.take k) = true then (1 : Int) else 0) = E
        go_wp2_with fail
        go_ret
        exact ⟨by rw [HE4.out]; rfl, HBB.out⟩
      · have hd1 : decide (to < fr) = false := by simpa using h1
        have hbad2 : badR (r.take (k + 1)) = false := by
          rw [hts]; unfold badR at hbad ⊢
          rw [List.any_append, hbad]; simpa using h1
        have HBB := Lib.hid hB
        by_cases h2 : l.nx ≤ to
        · have hbig : bigR l.nx (r.take (k + 1)) = true := by
            rw [hts]; unfold bigR
            rw [List.any_append]; simp [h2]
          have HX := Lib.hid (show (1 : Int) = if bigR l.nx (r.take (k + 1)) = true then 1 else 0 by rw [hbig]; rfl)
          have HY := Lib.hid hbad2
          generalize (if bigR l.nx (r.take k) = true then (1 : Int) else 0) = E
          clear hbig hbad2 hbad hts hx HL hB
          go_wp2_with fail
          go_region
          go_wp2_with fail
          go_roundw
          case rel => exact ⟨k + 1, by omega, by go_num, HY.out, by rw [← HX.out], below_drewN HBB.out 1⟩
          case measure => simp [intOf]; omega
        · have hd2 : decide (l.nx ≤ to) = false := by simpa using h2
          have hbig : bigR l.nx (r.take (k + 1)) = bigR l.nx (r.take k) := by
            rw [hts]; unfold bigR
            rw [List.any_append]; simp; intro h; omega
          have HX := Lib.hid (show (if bigR l.nx (r.take k) = true then (1 : Int) else 0) = if bigR l.nx (r.take (k + 1)) = true then 1 else 0 by rw [hbig])
          have HY := Lib.hid hbad2
          generalize (if bigR l.nx (r.take k) = true then (1 : Int) else 0) = E at HX ⊢
          clear hbig hbad2 hbad hts hx HL hB
          go_wp2_with fail
          go_region
          go_wp2_with fail
          go_roundw
          case rel => exact ⟨k + 1, by omega, by go_num, HY.out, by rw [← HX.out], below_drewN HBB.out 1⟩
          case measure => simp [intOf]; omega
    · have hd : decide (k < r.length) = false := by simpa using hlt
      have hk2 : r.take k = r := List.take_of_length_le (by omega)
      have e0 : ackE l r = if bigR l.nx (r.take k) = true then 1 else 0 := by
        rw [hk2] at hbad ⊢
        unfold ackE
        rw [if_neg (by unfold badR at hbad; rw [hbad]; simp)]
        rfl
      have HE := Lib.hid e0
      generalize (if bigR l.nx (r.take k) = true then (1 : Int) else 0) = E at HE ⊢
      clear e0 hbad hk2
      go_wp2_with fail
      go_ret
      exact ⟨by rw [HE.out]; rfl, hb⟩
end Go.Proofs.Ytefhbiocddgijaa
