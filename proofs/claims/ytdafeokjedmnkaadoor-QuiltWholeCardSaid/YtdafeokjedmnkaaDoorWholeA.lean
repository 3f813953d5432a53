/-
  QuiltWhole, as plain numbers: where the pieces begin; a quilt that holds parts of a text.
-/
import Derived.Test.YtdafeokjedmnkaaDoorQuiltX
namespace Go.Proofs.YtdafeokjedmnkaaDoor
open Go.RowKit Go.Maps
set_option linter.unusedVariables false
set_option linter.unusedSimpArgs false
/-- Where piece k begins, in a text of L bytes. -/
def startOf (L : Nat) (cs : List Int) : Nat → Nat
  | 0 => 0
  | k + 1 => startOf L cs k + min (cs.getD k 0).toNat (L - startOf L cs k)
theorem startOf_s (L : Nat) (cs : List Int) (k : Nat) : startOf L cs (k + 1) = startOf L cs k + min (cs.getD k 0).toNat (L - startOf L cs k) := rfl
theorem startOf_le (L : Nat) (cs : List Int) : ∀ k, startOf L cs k ≤ L
  | 0 => Nat.zero_le _
  | k + 1 => by
    have := startOf_le L cs k
    rw [startOf_s]
    omega
theorem startOf_mono (L : Nat) (cs : List Int) (k : Nat) : startOf L cs k ≤ startOf L cs (k + 1) := by
  rw [startOf_s]
  omega
theorem startOf_end {L : Nat} {ds cs : List Int} (hL : L ≤ 300) (hc : cs = ds ++ [255, 255]) : startOf L cs cs.length = L := by
  have e1 : cs.length = ds.length + 1 + 1 := by rw [hc]; simp
  have g1 : cs.getD ds.length 0 = 255 := by rw [hc]; simp [List.getD]
  have g2 : cs.getD (ds.length + 1) 0 = 255 := by rw [hc]; simp [List.getD]
  have h0 := startOf_le L cs ds.length
  rw [e1, startOf_s, startOf_s, g1, g2]
  omega
theorem startOf_past {L : Nat} {cs : List Int} {k : Nat} (h : startOf L cs k = L) : startOf L cs (k + 1) = L := by
  rw [startOf_s, h]
  omega
/-- What came is a part of the text; its end, if it is known, is the text's. -/
structure Fits (s : QS) (T : List Int) : Prop where
  f : ∀ x : Nat, s.f (x : Int) = none ∨ (x < T.length ∧ s.f (x : Int) = T[x]?)
  hi : s.hi ≤ T.length
  en : s.en = true → s.hi = T.length
theorem Fits.start (T : List Int) : Fits qs0 T := ⟨fun x => .inl rfl, by simp [qs0], fun h => by cases h⟩
theorem Fits.code {s : QS} {T : List Int} (h : Fits s T) {off n : Nat} {e : Bool} (h1 : off + n ≤ T.length) (he : e = true → off + n = T.length) (hT : T.length ≤ 300) : putCode s (off : Int) n e = 0 := by
  unfold putCode
  rw [if_neg (by omega), if_pos]
  unfold qFits
  have hi := h.hi
  rcases hen : s.en with _ | _
  · rcases e with _ | _
    · rfl
    · have := he rfl
      simp
      omega
  · have h2 := h.en hen
    rcases e with _ | _
    · simp
      omega
    · have := he rfl
      simp
      omega
theorem Fits.put {s s' : QS} {T : List Int} (h : Fits s T) {off n : Nat} {e : Bool} (hp : PutTo s (off : Int) ((T.drop off).take n) e s') (h1 : off + n ≤ T.length) (he : e = true → off + n = T.length) :
    Fits s' T ∧ (∀ x : Nat, off ≤ x → x < off + n → s'.f (x : Int) ≠ none) ∧ (∀ x : Nat, s.f (x : Int) ≠ none → s'.f (x : Int) ≠ none) ∧ s'.en = (s.en || e) ∧ s'.rd = s.rd := by
  have hl : ((T.drop off).take n).length = n := by simp; omega
  have hf := hp.f
  have hhi := hp.hi
  rw [hl] at hf hhi
  refine ⟨⟨fun x => ?_, ?_, fun hen => ?_⟩, fun x hx1 hx2 => ?_, fun x hx => ?_, hp.en, hp.rd⟩
  · rw [hf]
    rcases h.f x with h2 | ⟨h2, h3⟩
    · by_cases hx : off ≤ x ∧ x < off + n
      · right
        refine ⟨by omega, ?_⟩
        rw [fput_at (by omega) (by omega) h2, List.getElem?_take, if_pos (by omega), List.getElem?_drop]
        congr 1
        omega
      · left
        rw [fput_far (by omega)]
        exact h2
    · right
      refine ⟨h2, ?_⟩
      have h4 : s.f (x : Int) ≠ none := by rw [h3, List.getElem?_eq_getElem h2]; simp
      rw [fput_old h4]
      exact h3
  · have := h.hi
    rw [hhi]
    omega
  · have h5 := h.hi
    rw [hp.en] at hen
    rw [hhi]
    rcases e with _ | _
    · have := h.en (by simpa using hen)
      omega
    · have := he rfl
      omega
  · rw [hf]
    exact fput_some (by omega) (by omega) (by omega)
  · rw [hf, fput_old hx]
    exact hx
theorem Fits.take {s : QS} {T : List Int} (h : Fits s T) (N : Nat) : Fits (qTake s N) T := ⟨h.f, h.hi, h.en⟩
theorem Fits.len {s : QS} {T : List Int} (h : Fits s T) (ok : QOk s) : s.T.length ≤ T.length :=
  bounded_len T.length s.T ok.came.nd fun x hx => by
    have h1 := (ok.came.mem x).1 hx
    have h2 := ok.came.pos x h1
    obtain ⟨y, rfl⟩ := Int.eq_ofNat_of_zero_le h2
    rcases h.f y with h3 | ⟨h3, _⟩
    · exact absurd h3 h1
    · omega
/-- What is taken is the text's next part. -/
theorem Fits.next {s : QS} {T : List Int} (h : Fits s T) (ok : QOk s) {N : Nat} (hN : s.rd + N ≤ s.wh) {r : Nat} (hr : (r : Int) = s.rd) : T.take r ++ tk s.f s.rd N = T.take (r + N) := by
  have h0 := ok.r0
  have w1 := ok.w1
  have hhi := h.hi
  have e : tk s.f s.rd N = (T.drop r).take N := by
    apply List.ext_getElem?
    intro i
    by_cases hi : i < N
    · rw [tk_get _ _ _ _ hi, List.getElem?_take, if_pos hi, List.getElem?_drop, ← hr]
      have hx := ok.whl ((r + i : Nat) : Int) (by omega) (by omega)
      rcases h.f (r + i) with h1 | ⟨h1, h2⟩
      · exact absurd h1 hx
      · rw [show (r : Int) + (i : Int) = ((r + i : Nat) : Int) by omega, h2, List.getElem?_eq_getElem h1]
        rfl
    · rw [List.getElem?_eq_none (by rw [tk_len]; omega), List.getElem?_take, if_neg hi]
  rw [e, List.take_add]
/-- All of it is there. -/
theorem Fits.full {s : QS} {T : List Int} (h : Fits s T) (ok : QOk s) (hc : ∀ x : Nat, x < T.length → s.f (x : Int) ≠ none) (hen : s.en = true) : s.wh = T.length ∧ s.hi = T.length ∧ s.T.length = T.length := by
  have hw : s.wh = T.length := wh_is ok T.length (by omega) (fun x h0 h1 => by
    obtain ⟨y, rfl⟩ := Int.eq_ofNat_of_zero_le h0
    exact hc y (by omega)) (by
    rcases h.f T.length with h1 | ⟨h1, _⟩
    · exact h1
    · omega)
  have h1 := ok.came.len ok.whl
  have h2 := h.len ok
  exact ⟨hw, h.en hen, by omega⟩
end Go.Proofs.YtdafeokjedmnkaaDoor
