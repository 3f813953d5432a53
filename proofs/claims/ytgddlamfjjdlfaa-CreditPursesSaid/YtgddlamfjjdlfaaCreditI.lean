/-
  The reference's purse: Limit, Spent, Spend.
-/
import Derived.Test.YtgddlamfjjdlfaaCreditC
import Derived.Test.YtgddlamfjjdlfaaStepV
namespace Go.Proofs.Ytgddlamfjjdlfaa
open Go.RowKit
set_option linter.unusedVariables false

def limF (l : List Int) : Int := l.foldl (fun a g => max a (topN g)) 0
theorem limF_snoc (l : List Int) (x : Int) : limF (l ++ [x]) = max (limF l) (topN x) := by simp [limF]
theorem limF_ge (l : List Int) : 0 ≤ limF l := by
  unfold limF
  suffices h : ∀ (l : List Int) (a : Int), 0 ≤ a → 0 ≤ l.foldl (fun a g => max a (topN g)) a from h l 0 (by omega)
  intro l
  induction l with
  | nil => intro a ha; exact ha
  | cons x l ih => intro a ha; exact ih _ (show 0 ≤ max a (topN x) by omega)
theorem limF_le (l : List Int) : limF l ≤ 4611686018427387903 := by
  unfold limF
  suffices h : ∀ (l : List Int) (a : Int), a ≤ 4611686018427387903 → l.foldl (fun a g => max a (topN g)) a ≤ 4611686018427387903 from h l 0 (by omega)
  intro l
  induction l with
  | nil => intro a ha; exact ha
  | cons x l ih => intro a ha; exact ih _ (show max a (topN x) ≤ 4611686018427387903 by unfold topN; omega)
theorem limF_take (l : List Int) {k : Nat} (h : k < l.length) {x : Int} (hx : l[k]? = some x) : limF (l.take (k + 1)) = max (limF (l.take k)) (topN x) := by
  have : l.take (k + 1) = l.take k ++ [x] := by rw [List.take_add_one, hx]; rfl
  rw [this, limF_snoc]
def sumF (l : List Int) : Int := l.foldl (fun a g => a + g) 0
theorem sumF_snoc (l : List Int) (x : Int) : sumF (l ++ [x]) = sumF l + x := by simp [sumF]
theorem sumF_take (l : List Int) {k : Nat} (h : k < l.length) {x : Int} (hx : l[k]? = some x) : sumF (l.take (k + 1)) = sumF (l.take k) + x := by
  have : l.take (k + 1) = l.take k ++ [x] := by rw [List.take_add_one, hx]; rfl
  rw [this, sumF_snoc]
theorem sumF_ge (l : List Int) (h : ∀ x ∈ l, 0 ≤ x) : ∀ a, a ≤ l.foldl (fun a g => a + g) a := by
  induction l with
  | nil => intro a; exact Int.le_refl _
  | cons x l ih =>
    intro a
    have h0 := h x (by simp)
    have := ih (fun y hy => h y (by simp [hy])) (a + x)
    simp only [List.foldl_cons]
    omega
theorem sumF_take_le (l : List Int) (h : ∀ x ∈ l, 0 ≤ x) (k : Nat) : sumF (l.take k) ≤ sumF l ∧ 0 ≤ sumF (l.take k) := by
  constructor
  · have : sumF l = (l.drop k).foldl (fun a g => a + g) (sumF (l.take k)) := by
      unfold sumF
      rw [← List.foldl_append, List.take_append_drop]
    rw [this]
    exact sumF_ge _ (fun x hx => h x (List.mem_of_mem_drop hx)) _
  · exact sumF_ge _ (fun x hx => h x (List.mem_of_mem_take hx)) 0

/-- The reference's purse at x: these grants, these spent. -/
structure RPu (w : World) (base x : Nat) (G : Option Addr) (gc : Nat) (gr : List Int) (S : Option Addr) (sc : Nat) (sp : List Int) : Prop where
  blk : Blk w x 30 #[.slice G gr.length gc, .slice S sp.length sc]
  og : OwnV w base 22 1 G gc gr.length (IV .u64 gr)
  os : OwnV w base 22 1 S sc sp.length (IV .u64 sp)
  ap : ∀ k, (Value.slice G gr.length gc).ownBlock = some k → (Value.slice S sp.length sc).ownBlock ≠ some k
theorem RPu.rdG {w : World} {base x : Nat} {G S : Option Addr} {gc sc : Nat} {gr sp : List Int} (h : RPu w base x G gc gr S sc sp) : RdI .u64 w G gr := h.og.reads
theorem RPu.rdS {w : World} {base x : Nat} {G S : Option Addr} {gc sc : Nat} {gr sp : List Int} (h : RPu w base x G gc gr S sc sp) : RdI .u64 w S sp := h.os.reads

theorem rLimit_nil (w : World) : Calls Try.prog 11 #[.pointer none] w fun r w' => r = .returned (.int .u64 0) ∧ w = w' := by
  go_enter Try.func11, Try.ntmps11
  go_wp2_with fail
  go_ret
  exact ⟨rfl, rfl⟩
theorem rLimit_any (x : Nat) (G : Option Addr) (gc : Nat) (gr : List Int) (v : Value) (w : World) (hb : Blk w x 30 #[.slice G gr.length gc, v]) (hr : RdI .u64 w G gr) (hw : WF .u64 gr) (hlen : gr.length ≤ 1000) :
    Calls Try.prog 11 #[.pointer (some ⟨x, 0, none⟩)] w fun r w' => r = .returned (.int .u64 (limF gr)) ∧ w = w' := by
  have c0 := hb.cell 0
  simp at c0
  have HR := Lib.hid hr
  have HW := Lib.hid hw
  clear hr hw hb
  go_enter Try.func11, Try.ntmps11
  go_wp2_with fail
  go_loopw [13, 3] (fun i m wr => ∃ (k : Nat), k ≤ gr.length ∧ i = .int .i64 k ∧ m = .int .u64 (limF (gr.take k)) ∧ wr = w) (fun i _ _ => gr.length - (intOf i).toNat)
  case atStart => exact ⟨0, by omega, rfl, rfl, rfl⟩
  case round =>
    obtain ⟨k, hk, rfl, rfl, rfl⟩ := hrel
    by_cases hlt : k < gr.length
    · obtain ⟨b, off, y, rfl, hb, hy, hc⟩ := HR.out.at_ hlt
      have y0 := wf_u64 (HW.out y (List.mem_of_getElem? hy))
      have e1 := limF_take gr hlt hy
      have TC := fun W => Top_any y W y0.1
      have hT := topN_ok y0.1
      generalize topN y = T at *
      have E1 := Lib.hid e1
      have HTC := Lib.hid TC
      obtain ⟨L, hL⟩ : ∃ L, L = limF (gr.take k) := ⟨_, rfl⟩
      rw [← hL]
      have HL := Lib.hid hL
      clear hy e1 TC hL
      by_cases hgt : L < T
      · go_wp2_with fail
        refine (HTC.out _).mono ?_
        rintro e w3 ⟨rfl, rfl⟩
        go_wp2_with fail
        refine (HTC.out _).mono ?_
        rintro e w3 ⟨rfl, rfl⟩
        go_wp2_with fail
        go_roundw
        case rel => exact ⟨k + 1, by omega, by go_num, by rw [E1.out, ← HL.out, show max L T = T by omega], by trivial⟩
        case measure => simp [intOf]; omega
      · have hd : decide (L < T) = false := by simpa using hgt
        go_wp2_with fail
        refine (HTC.out _).mono ?_
        rintro e w3 ⟨rfl, rfl⟩
        go_wp2_with fail
        go_roundw
        case rel => exact ⟨k + 1, by omega, by go_num, by rw [E1.out, ← HL.out, show max L T = L by omega], by trivial⟩
        case measure => simp [intOf]; omega
    · have hd : decide (k < gr.length) = false := by simpa using hlt
      obtain rfl : k = gr.length := by omega
      rw [List.take_length]
      go_wp2_with fail
      go_ret
      exact ⟨rfl, rfl⟩
theorem rSpent_nil (w : World) : Calls Try.prog 16 #[.pointer none] w fun r w' => r = .returned (.int .u64 0) ∧ w = w' := by
  go_enter Try.func16, Try.ntmps16
  go_wp2_with fail
  go_ret
  exact ⟨rfl, rfl⟩
theorem rSpent_any (x : Nat) (S : Option Addr) (sc : Nat) (sp : List Int) (v : Value) (w : World) (hb : Blk w x 30 #[v, .slice S sp.length sc]) (hr : RdI .u64 w S sp) (hw : ∀ y ∈ sp, 0 ≤ y) (hlen : sp.length ≤ 1000) (hs : sumF sp ≤ 4611686018427387903) :
    Calls Try.prog 16 #[.pointer (some ⟨x, 0, none⟩)] w fun r w' => r = .returned (.int .u64 (sumF sp)) ∧ w = w' := by
  have c1 := hb.cell 1
  simp at c1
  have HR := Lib.hid hr
  have HW := Lib.hid hw
  have HS := Lib.hid hs
  clear hr hw hb hs
  go_enter Try.func16, Try.ntmps16
  go_wp2_with fail
  go_loopw [13, 3] (fun i m wr => ∃ (k : Nat), k ≤ sp.length ∧ i = .int .i64 k ∧ m = .int .u64 (sumF (sp.take k)) ∧ wr = w) (fun i _ _ => sp.length - (intOf i).toNat)
  case atStart => exact ⟨0, by omega, rfl, rfl, rfl⟩
  case round =>
    obtain ⟨k, hk, rfl, rfl, rfl⟩ := hrel
    by_cases hlt : k < sp.length
    · obtain ⟨b, off, y, rfl, hb, hy, hc⟩ := HR.out.at_ hlt
      have e1 := sumF_take sp hlt hy
      have b1 := sumF_take_le sp HW.out (k + 1)
      have b2 := sumF_take_le sp HW.out k
      have b3 := HS.out
      have y0 := HW.out y (List.mem_of_getElem? hy)
      rw [e1] at b1
      have E1 := Lib.hid e1
      obtain ⟨L, hL⟩ : ∃ L, L = sumF (sp.take k) := ⟨_, rfl⟩
      rw [← hL] at b1 b2 ⊢
      have hwr : IntKind.u64.wrap (L + y) = L + y := IntWalk.u64_in _ (by omega)
      have HL := Lib.hid hL
      clear hy e1 hL
      go_wp2_with fail
      go_roundw
      case rel => exact ⟨k + 1, by omega, by go_num, by rw [E1.out, ← HL.out], by trivial⟩
      case measure => simp [intOf]; omega
    · have hd : decide (k < sp.length) = false := by simpa using hlt
      obtain rfl : k = sp.length := by omega
      rw [List.take_length]
      go_wp2_with fail
      go_ret
      exact ⟨rfl, rfl⟩
end Go.Proofs.Ytgddlamfjjdlfaa
