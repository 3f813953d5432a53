/-
  The law's same: a ledger's packets against the reference's.
-/
import Derived.Test.YtefhbiocddgijaaRLossA
namespace Go.Proofs.Ytefhbiocddgijaa
open Go.RowKit
set_option linter.unusedVariables false
set_option linter.unusedSimpArgs false
theorem RdP.at0 {w : World} {A : Option Addr} {l : List PK} {i : Nat} {p : PK} (h : RdP w A l) (hx : l[i]? = some p) : ∃ b off, A = some ⟨b, off, none⟩ ∧ b < w.heap.size ∧ ∀ j, j < 4 → w.cell? ⟨b, off + (i * 4 + j), none⟩ = (PkC p)[j]? := by
  have hi : i < l.length := by
    rcases Nat.lt_or_ge i l.length with h | h
    · exact h
    · rw [List.getElem?_eq_none h] at hx; cases hx
  obtain ⟨b, off, x, h1, h2, h3, h4⟩ := RdF.at_ PkC_len (by omega) h hi
  rw [hx] at h3
  injection h3 with h3
  subst h3
  exact ⟨b, off, h1, h2, h4⟩
theorem at_ne {α : Type} {a b : List α} {k : Nat} {p q : α} (ha : a[k]? = some p) (hb : b[k]? = some q) (h : p ≠ q) : a ≠ b := fun e => by
  subst e
  rw [ha] at hb
  injection hb with hb
  exact h hb
set_option maxRecDepth 100000 in
/-- It says true just if they are alike. -/
theorem samePk_any (A : Option Addr) (ca : Nat) (a : List PK) (B : Option Addr) (cb : Nat) (b : List RPk) (w : World) (ha : RdP w A a) (hb : RdR w B b) (hal : a.length ≤ 1000000) (he : a = b.map pkOf) :
    Calls Try.prog 8 #[.slice A a.length ca, .slice B b.length cb] w fun r w' => r = .returned (.bool true) ∧ Below w.heap.size w w' := by
  have hlen : b.length = a.length := by rw [he]; simp
  have HA := Lib.hid ha
  have HB := Lib.hid hb
  have HE := Lib.hid he
  clear ha hb he
  go_enter Try.func8, Try.ntmps8
  rw [hlen]
  go_wp2_with fail
  go_loopw [15] (fun i wr => ∃ (k : Nat), k ≤ a.length ∧ i = .int .i64 k ∧ Hid (Below w.heap.size w wr)) (fun i _ => a.length - (intOf i).toNat)
  case atStart => exact ⟨0, by omega, rfl, Lib.hid (Below.refl _ _)⟩
  case round =>
    obtain ⟨k, hk, rfl, HI⟩ := hrel
    by_cases hlt : k < a.length
    · obtain ⟨q, hy⟩ : ∃ q, b[k]? = some q := ⟨_, List.getElem?_eq_getElem (by omega)⟩
      have hx : a[k]? = some (pkOf q) := by rw [HE.out, List.getElem?_map, hy]; rfl
      obtain ⟨b1, off1, rfl, zb1, hc1⟩ := RdP.at0 (HA.out.below HI.out) hx
      obtain ⟨b2, off2, rfl, zb2, hc2⟩ := RdR.at0 (HB.out.below HI.out) hy
      have x0 := hc1 0 (by omega)
      have x1 := hc1 1 (by omega)
      have x2 := hc1 2 (by omega)
      have x3 := hc1 3 (by omega)
      have y0 := hc2 0 (by omega)
      have y1 := hc2 1 (by omega)
      have y2 := hc2 2 (by omega)
      have y3 := hc2 3 (by omega)
      have y4 := hc2 4 (by omega)
      clear hc1 hc2 hx hy
      obtain ⟨nu, se, si, aq, go⟩ := q
      simp [PkC, pkOf] at x0 x1 x2 x3
      simp [RPkC] at y0 y1 y2 y3 y4
      rw [← Nat.add_assoc] at x1 x2 x3 y1 y2 y3 y4
      have hz := HI.out.size
      have HB2 := Lib.hid ((HI.out.alloc hz (.cells #[.int .u64 nu, .int .u64 se, .int .i64 si, .bool aq] 49)).alloc (by simp; omega) (.cells #[.int .u64 nu, .int .u64 se, .int .i64 si, .bool aq, .bool go] 32))
      cases aq <;> (
        go_wp2_with fail
        go_roundw
        case rel => exact ⟨k + 1, by omega, by go_num, HB2⟩
        case measure => simp [intOf]; omega)
    · have hd : decide (k < a.length) = false := by simpa using hlt
      go_wp2_with fail
      go_ret
      exact ⟨rfl, HI.out⟩
end Go.Proofs.Ytefhbiocddgijaa
