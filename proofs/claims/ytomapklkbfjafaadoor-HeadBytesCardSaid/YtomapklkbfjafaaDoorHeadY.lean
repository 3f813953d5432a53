/-
  Bytes of a head: what both answer, for every head, number and size; and what Read makes of it.
-/
import Derived.Test.YtomapklkbfjafaaDoorHeadX
import Derived.Test.YtomapklkbfjafaaDoorHeadQ
namespace Go.Proofs.YtomapklkbfjafaaDoor
open Go.RowKit
set_option linter.unusedVariables false
set_option linter.unusedSimpArgs false

def byE (lg : Bool) (lv : Int) (ph : Bool) (a b : List Int) (z L : Int) : Int :=
  if z < 1 ∨ 4 < z ∨ L < 0 then 1 else if lg = true ∧ 16383 - z < L then 3 else if rightB lg lv ph a b then 0 else 4
def byB (lg : Bool) (lv : Int) (ph : Bool) (a b : List Int) (pn z L : Int) : List Int :=
  if byE lg lv ph a b z L = 0 then (if lg then longS z.toNat lv a b pn L else shortS z.toNat ph a pn) else []
def ByQ (lg : Bool) (lv : Int) (ph : Bool) (a b : List Int) (pn z L : Int) (w : World) (r : Ending) (w' : World) : Prop :=
  ∃ A' c', r = .returned (.tuple #[.slice A' (byB lg lv ph a b pn z L).length c', .int .i64 (byE lg lv ph a b z L)]) ∧ Own w' w.heap.size A' c' (byB lg lv ph a b pn z L) ∧ Below w.heap.size w w'
theorem byq_no {lg : Bool} {lv : Int} {ph : Bool} {a b : List Int} {pn z L : Int} {w : World} {r : Ending} {w' : World} {E : Int} (h : byE lg lv ph a b z L = E) (hE : E ≠ 0) (hr : r = .returned (.tuple #[.slice none 0 0, .int .i64 E])) (hb : Below w.heap.size w w') : ByQ lg lv ph a b pn z L w r w' := by
  subst h
  refine ⟨none, 0, ?_, ?_, hb⟩
  · rw [hr, byB, if_neg hE]; rfl
  · rw [byB, if_neg hE]; exact Own.nil _ _
theorem byq_yes {lg : Bool} {lv : Int} {ph : Bool} {a b : List Int} {pn z L : Int} {w : World} {r : Ending} {w' : World} {O : List Int} (h : byE lg lv ph a b z L = 0) (hO : O = if lg then longS z.toNat lv a b pn L else shortS z.toNat ph a pn)
    (hr : ∃ A' c', r = .returned (.tuple #[.slice A' O.length c', .int .i64 0]) ∧ Own w' w.heap.size A' c' O ∧ Below w.heap.size w w') : ByQ lg lv ph a b pn z L w r w' := by
  subst hO
  unfold ByQ byB
  rw [h, if_pos rfl]
  exact hr
/-- The five ways. -/
theorem by_ways (lg : Bool) (lv : Int) (ph : Bool) (a b : List Int) (z L : Int) :
    ((z < 1 ∨ (1 ≤ z ∧ 4 < z) ∨ (1 ≤ z ∧ z ≤ 4 ∧ L < 0)) ∧ byE lg lv ph a b z L = 1) ∨
    (1 ≤ z ∧ z ≤ 4 ∧ 0 ≤ L ∧ ((lg = true ∧ 16383 - z < L ∧ byE lg lv ph a b z L = 3) ∨ ((lg = true → L ≤ 16383 - z) ∧ ((rightB lg lv ph a b = false ∧ byE lg lv ph a b z L = 4) ∨ (rightB lg lv ph a b = true ∧ byE lg lv ph a b z L = 0))))) := by
  by_cases h : z < 1 ∨ 4 < z ∨ L < 0
  · exact .inl ⟨by omega, by rw [byE, if_pos h]⟩
  · right
    refine ⟨by omega, by omega, by omega, ?_⟩
    by_cases h2 : lg = true ∧ 16383 - z < L
    · exact .inl ⟨h2.1, h2.2, by rw [byE, if_neg h, if_pos h2]⟩
    · refine .inr ⟨fun e => by have : ¬ 16383 - z < L := fun h3 => h2 ⟨e, h3⟩; omega, ?_⟩
      cases hr : rightB lg lv ph a b
      · exact .inl ⟨rfl, by rw [byE, if_neg h, if_neg h2, hr]; rfl⟩
      · exact .inr ⟨rfl, by rw [byE, if_neg h, if_neg h2, hr]; rfl⟩
theorem refBytes_u (lg : Bool) (lv : Int) (ph : Bool) (A : Option Addr) (a : List Int) (c : Nat) (B : Option Addr) (b : List Int) (d : Nat) (pn z L : Int) (w : World) (ha : Sl w A c a) (hb : Sl w B d b) (hpn : 0 ≤ pn ∧ pn < 18446744073709551616) :
    Calls Tryd.prog 7 #[HV lg lv ph A a c B b d, .int .u64 pn, .int .i64 z, .int .i64 L] w fun r w' => ByQ lg lv ph a b pn z L w r w' := by
  rcases by_ways lg lv ph a b z L with ⟨h, hE⟩ | ⟨h1, h4, hL, ⟨hlg, hf, hE⟩ | ⟨hf, ⟨hr, hE⟩ | ⟨hr, hE⟩⟩⟩
  · exact (refBytes_arg lg lv ph A a c B b d pn z L w h).mono fun r w' h => byq_no hE (by decide) h.1 h.2
  · subst hlg
    exact (refBytes_far lv ph A a c B b d pn z L w h1 h4 hL hf).mono fun r w' h => byq_no hE (by decide) h.1 h.2
  · obtain ⟨s, rfl⟩ := Int.eq_ofNat_of_zero_le (show 0 ≤ z by omega)
    exact (refBytes_badS lg lv ph A a c B b d pn L s w (by omega) (by omega) ⟨hL, hf⟩ hr).mono fun r w' h => byq_no hE (by decide) h.1 h.2
  · obtain ⟨s, rfl⟩ := Int.eq_ofNat_of_zero_le (show 0 ≤ z by omega)
    cases lg
    · exact (refBytes_shortS lv ph A a c B b d pn L s w (by omega) (by omega) hL hpn ha hr).mono fun r w' h => byq_yes hE rfl h
    · have hph : ph = false := by
        unfold rightB at hr
        simp at hr
        exact hr.2
      subst hph
      exact (refBytes_longS lv A a c B b d pn L s w (by omega) (by omega) ⟨hL, hf rfl⟩ hpn ha hb hr).mono fun r w' h => byq_yes hE rfl h

/-- What Read makes of a head's bytes and so many zeros behind them. -/
theorem by_read {lg : Bool} {lv : Int} {ph : Bool} {a b : List Int} {pn z L : Int} (n : Nat) (hn : (n : Int) = L) (hE : byE lg lv ph a b z L = 0) (h20 : 20 ≤ L + z) (hl : L ≤ 2000) :
    rdErr (byB lg lv ph a b pn z L ++ List.replicate n 0) = 0 ∧ rdAt (byB lg lv ph a b pn z L ++ List.replicate n 0) = ((byB lg lv ph a b pn z L).length : Int) - z ∧
      rdAt (byB lg lv ph a b pn z L ++ List.replicate n 0) + hdV (byB lg lv ph a b pn z L ++ List.replicate n 0) 0 = ((byB lg lv ph a b pn z L ++ List.replicate n 0).length : Int) ∧
      hdLong (byB lg lv ph a b pn z L ++ List.replicate n 0) 0 = lg ∧ hdLvl (byB lg lv ph a b pn z L ++ List.replicate n 0) 0 = lv ∧ hdTo (byB lg lv ph a b pn z L ++ List.replicate n 0) 0 = a ∧ hdFr (byB lg lv ph a b pn z L ++ List.replicate n 0) 0 = b := by
  have hw := by_ways lg lv ph a b z L
  rw [hE] at hw
  have hz : 1 ≤ z ∧ z ≤ 4 ∧ 0 ≤ L ∧ (lg = true → L ≤ 16383 - z) ∧ rightB lg lv ph a b = true := by
    rcases hw with ⟨_, h⟩ | ⟨h1, h4, hL, ⟨_, _, h⟩ | ⟨hf, ⟨_, h⟩ | ⟨hr, _⟩⟩⟩
    · omega
    · omega
    · omega
    · exact ⟨h1, h4, hL, hf, hr⟩
  obtain ⟨h1, h4, hL, hf, hr⟩ := hz
  obtain ⟨s, rfl⟩ := Int.eq_ofNat_of_zero_le (show 0 ≤ z by omega)
  have hB : byB lg lv ph a b pn s L = if lg then longS s lv a b pn L else shortS s ph a pn := by rw [byB, hE, if_pos rfl]; rfl
  rw [hB]
  have hbe : (be pn s).length = s := be_length _ _
  cases lg
  · have hrr : lv = 2 ∧ a.length = 8 ∧ b = [] := by
      unfold rightB at hr
      simp at hr
      exact ⟨hr.1.1, by omega, hr.2⟩
    obtain ⟨rfl, ha8, rfl⟩ := hrr
    obtain ⟨f, hff⟩ : ∃ f, f = (if ph then 64 + (s : Int) - 1 + 4 else 64 + (s : Int) - 1) := ⟨_, rfl⟩
    have hq : shortS s ph a pn ++ List.replicate n 0 = f :: (a ++ be pn s ++ List.replicate n 0) := by rw [shortS, hff]; rfl
    have hlt : f < 128 := by rw [hff]; split <;> omega
    have hfx : ¬ f / 64 % 2 = 0 := by rw [hff]; split <;> omega
    have hrl : (a ++ be pn s ++ List.replicate n 0).length = 8 + s + n := by simp only [List.length_append, hbe, List.length_replicate, ha8]
    have h28 : 28 ≤ (a ++ be pn s ++ List.replicate n 0).length := by omega
    obtain ⟨m1, m2, m3, m4, m5, m6, m7⟩ := (short_gen (f := f) (r := a ++ be pn s ++ List.replicate n 0) hlt hfx).2.2 h28
    simp only [Bool.false_eq_true, if_false]
    rw [hq]
    have hsl : (shortS s ph a pn).length = 9 + s := by rw [shortS, List.length_cons, List.length_append, hbe, ha8]; omega
    refine ⟨m1, ?_, ?_, m4, m5, ?_, m7⟩
    · rw [m2, hsl]; omega
    · rw [m2, m3, List.length_cons, hrl]; omega
    · rw [m6, List.append_assoc, List.take_append_of_le_length (by omega), List.take_of_length_le (by omega)]
  · have hrr : ph = false ∧ (lv = 0 ∨ lv = 1) ∧ a.length ≤ 20 ∧ b.length ≤ 20 := by
      unfold rightB at hr
      simp at hr
      exact ⟨hr.2, by omega, by omega, by omega⟩
    obtain ⟨rfl, hlv, hal, hbl⟩ := hrr
    have hL2 := hf rfl
    simp only [if_true]
    obtain ⟨h1', h2', h3', h4', h5', h6', h7'⟩ := long_all lv s (s + L) a b (be pn s ++ List.replicate n 0) hlv (by omega) hal hbl (by omega) (by simp only [List.length_append, hbe, List.length_replicate]; omega) (longS s lv a b pn L ++ List.replicate n 0) (by
      rw [longS, show (192 + 32 * lv + (s : Int) - 1 : Int) = 191 + 32 * lv + s by omega]
      simp)
    have hlen : (longS s lv a b pn L ++ List.replicate n 0).length = (longS s lv a b pn L).length + n := by rw [List.length_append, List.length_replicate]
    refine ⟨h1', ?_, ?_, h4', h5', h6', h7'⟩
    · rw [rdAt, h3', hlen]; simp only [List.length_append, hbe, List.length_replicate]; omega
    · rw [rdAt, h2', h3', hlen]; simp only [List.length_append, hbe, List.length_replicate]; omega
end Go.Proofs.YtomapklkbfjafaaDoor
