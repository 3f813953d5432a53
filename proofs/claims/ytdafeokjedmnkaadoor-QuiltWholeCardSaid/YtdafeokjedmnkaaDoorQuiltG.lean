/-
  A quilt: a piece's bytes go into their patches (one patch; all).
-/
import Derived.Test.YtdafeokjedmnkaaDoorQuiltF
import Derived.Deep.RegionWith
namespace Go.Proofs.YtdafeokjedmnkaaDoor
open Go.RowKit Go.Maps
set_option linter.unusedVariables false
set_option linter.unusedSimpArgs false
theorem slice_upto_is (A : Option Addr) (c n k : Nat) (kd : IntKind) (z : Int) (hz : z = k) (hk : k ≤ n) (hc : n ≤ c) (w : World) :
    (Instr.slice 29 (.slice A n c) none (some (.int kd z)) none).run Tryd.prog w = .ok (.slice A k c) w := by
  subst hz
  rw [run_slice_h (P := Tryd.prog) w 29 A n c (by rw [elem_u8]; exact Tryd.underlying29) kd (k : Int) (by omega) (by omega), elem_u8, run_sizeOf_u8]
  cases A <;> simp [sliced, Addr.add]
theorem slice_from_is (A : Option Addr) (c n k : Nat) (kd : IntKind) (z : Int) (hz : z = k) (hk : k ≤ n) (hc : n ≤ c) (w : World) :
    (Instr.slice 29 (.slice A n c) (some (.int kd z)) none none).run Tryd.prog w = .ok (.slice (if c = k then A else A.map (·.add (k * 1))) (n - k) (c - k)) w := by
  subst hz
  rw [run_slice_l (P := Tryd.prog) w 29 A n c (by rw [elem_u8]; exact Tryd.underlying29) kd (k : Int) (by omega) (by omega), elem_u8, run_sizeOf_u8]
  simp [sliced]
/-- A piece's bytes lie in a row that is no patch. -/
structure Src (w : World) (base g : Nat) (A : Option Addr) (c : Nat) (p : List Int) : Prop where
  rd : Rd w A p
  by_ : Bytes p
  le : p.length ≤ c
  max : c ≤ 9223372036854775807
  row : ∀ ad, A = some ad → ad.block < base ∨ ∃ T cs fr, Row w ad.block T cs fr ∧ T ≠ 67 ∧ ad.block ≠ g
theorem Src.nil (w : World) (base g c : Nat) (hc : c ≤ 9223372036854775807) : Src w base g none c [] := ⟨⟨by simp [U8], fun h => absurd h (by simp)⟩, (fun x hx => by cases hx), by simp, hc, (fun ad h => by cases h)⟩
theorem Src.keep {w w' : World} {base g c : Nat} {A : Option Addr} {p : List Int} (h : Src w base g A c p) (hk : KeepT w w' g) (hs : Below base w w') : Src w' base g A c p := by
  have hcell : ∀ ad, A = some ad → ∀ j, w'.cell? (ad.add j) = w.cell? (ad.add j) := fun ad e j => by
    have hblk : (ad.add j).block = ad.block := block_of_add ad j
    rcases h.row ad e with h0 | ⟨T, cs, fr, hbl, hT, hg⟩
    · exact hs.cell (by rw [hblk]; exact h0)
    · have hbl' := hk.1 ad.block T cs fr hg hT hbl
      exact World.cell?_of_block (w := w) (by rw [hblk]; exact (show w'.heap[ad.block]? = _ from hbl').trans (show w.heap[ad.block]? = _ from hbl).symm)
  refine ⟨⟨h.rd.1, fun hn => ?_⟩, h.by_, h.le, h.max, fun ad e => ?_⟩
  · obtain ⟨ad, e, hb, hc⟩ := h.rd.2 hn
    exact ⟨ad, e, Nat.lt_of_lt_of_le hb hs.size, fun j u hu => by rw [hcell ad e j]; exact hc j u hu⟩
  · rcases h.row ad e with h0 | ⟨T, cs, fr, hbl, hT, hg⟩
    · exact .inl h0
    · exact .inr ⟨T, cs, fr, hk.1 ad.block T cs fr hg hT hbl, hT, hg⟩
theorem Src.drewN {w : World} {base g c : Nat} {A : Option Addr} {p : List Int} (h : Src w base g A c p) (k : Nat) : Src (w.drewN k) base g A c p := ⟨h.rd, h.by_, h.le, h.max, h.row⟩
theorem Src.upto {w : World} {base g c : Nat} {A : Option Addr} {p : List Int} (h : Src w base g A c p) {k : Nat} (hk : k ≤ p.length) : Src w base g A c (p.take k) := by
  have e : (p.take k).length = k := by simp [hk]
  have hl := h.le
  exact ⟨h.rd.upto hk, fun x hx => h.by_ x (List.mem_of_mem_take hx), by omega, h.max, h.row⟩
theorem Src.from_ {w : World} {base g c : Nat} {A : Option Addr} {p : List Int} (h : Src w base g A c p) {k : Nat} (hk : k ≤ p.length) : Src w base g (if c = k then A else A.map (·.add (k * 1))) (c - k) (p.drop k) := by
  have e : (p.drop k).length = p.length - k := by simp
  have hl := h.le
  refine ⟨h.rd.cut hk hl, fun x hx => h.by_ x (List.mem_of_mem_drop hx), by omega, by have := h.max; omega, fun ad hA => ?_⟩
  split at hA
  · exact h.row ad hA
  · cases A with
    | none => cases hA
    | some a =>
      injection hA with hA
      subst hA
      have hb : (a.add (k * 1)).block = a.block := block_of_add a _
      rw [hb]
      exact h.row a rfl
theorem newK_news {c : Nat → Option Int} {f : Int → Option Int} {at_ : Nat} {off : Int} : ∀ k : Nat, (∀ i, i < k → c (at_ + i) = f (off + i)) → newK c at_ k = (news f off k).length
  | 0, _ => rfl
  | k + 1, h => by
    rw [newK_s, news_s, List.length_append, newK_news k (fun i hi => h i (by omega)), h k (by omega)]
    split <;> simp
/-- The bytes of one patch are laid: what the patches hold then. -/
theorem PatAt.filled {w w' : World} {base B n : Nat} {pt : Int → Option Nat} {f : Int → Option Int} {rd j : Int} {gp at_ : Nat} {p : List Int} {c : Nat → Option Int} {m' H' : Nat} {bs' : List Int} (h : PatAt w base B n pt f rd) (hj : pt j = some gp)
    (hc : ∀ i : Nat, i < 64 → rd ≤ 64 * j + i → c i = f (64 * j + i)) (hr : rd ≤ 64 * j + at_) (hat : at_ + p.length ≤ 64) (hp : PatchIs w' gp (cfill c at_ p p.length) m' H' bs') (hg : w.grownBy w' (some gp)) :
    PatAt w' base B n pt (fput f (64 * j + at_) p p.length) rd := by
  obtain ⟨j0, hb0, _⟩ := h.ent j gp hj
  obtain ⟨cs, hblk⟩ := h.block hj
  refine ⟨h.map.kept hg (by intro e; injection e with e; exact h.map.ne hblk e.symm), h.bge, fun j' g' hj' => ?_, h.inj, fun x hx hf => ?_⟩
  · by_cases hjj : j' = j
    · subst hjj
      obtain rfl : gp = g' := by rw [hj] at hj'; injection hj'
      refine ⟨j0, hb0, _, _, _, _, hp, fun i hi hr' => ?_⟩
      have hci := hc i hi hr'
      by_cases h1 : at_ ≤ i ∧ i < at_ + p.length ∧ c i = none
      · have e1 : cfill c at_ p p.length i = p[i - at_]? := if_pos h1
        rw [e1, fput_at (by omega) (by omega) (by rw [← hci]; exact h1.2.2)]
        congr 1
        omega
      · have e1 : cfill c at_ p p.length i = c i := if_neg h1
        rw [e1]
        by_cases h2 : c i = none
        · rw [fput_far (fun hx => h1 ⟨by omega, by omega, h2⟩)]
          exact hci
        · rw [fput_old (by rw [← hci]; exact h2)]
          exact hci
    · obtain ⟨h1, h2, c2, m2, H2, bs2, h3, h4⟩ := h.ent j' g' hj'
      have hne : g' ≠ gp := fun e => hjj (h.inj j' j gp (e ▸ hj') hj)
      refine ⟨h1, h2, c2, m2, H2, bs2, h3.keep (h3.blk.grown hg (by intro e; injection e with e; exact hne e)), fun i hi hr' => ?_⟩
      rw [fput_far (by omega)]
      exact h4 i hi hr'
  · by_cases hf0 : f x = none
    · by_cases h1 : 64 * j + (at_ : Int) ≤ x ∧ x < 64 * j + at_ + p.length
      · have : x / 64 = j := by omega
        rw [this, hj]
        simp
      · rw [fput_far h1] at hf
        exact absurd hf0 hf
    · exact h.has x hx hf0
theorem PatAt.drewN {w : World} {base B n : Nat} {pt : Int → Option Nat} {f : Int → Option Int} {rd : Int} (h : PatAt w base B n pt f rd) (k : Nat) : PatAt (w.drewN k) base B n pt f rd :=
  ⟨h.map.drewN k, h.bge, (fun j g hj => by
    obtain ⟨h1, h2, c, m, H, bs, h3, h4⟩ := h.ent j g hj
    exact ⟨h1, h2, c, m, H, bs, h3.keep h3.blk, h4⟩), h.inj, h.has⟩
/-- What store works on. -/
structure StQ (w : World) (base g n : Nat) (M : Value) (f : Int → Option Int) (rd wh hi hd : Int) (en : Bool) (W : World) : Prop where
  q : Blk W g 63 (QV M rd wh hi hd en)
  pat : Pat W base M n f rd
  keep : KeepT w W g
  below : Below base w W
theorem StQ.drewN {w W : World} {base g n : Nat} {M : Value} {f : Int → Option Int} {rd wh hi hd : Int} {en : Bool} (h : StQ w base g n M f rd wh hi hd en W) (k : Nat) : StQ w base g n M f rd wh hi hd en (W.drewN k) := by
  refine ⟨h.q, ?_, h.keep, below_drewN h.below k⟩
  rcases h.pat with h1 | ⟨B, pt, h1, h2⟩
  · exact .inl h1
  · exact .inr ⟨B, pt, h1, h2.drewN k⟩
/-- .. behind patch. -/
structure StP (w : World) (base g n : Nat) (f : Int → Option Int) (rd wh hi hd : Int) (en : Bool) (number : Int) (gp B : Nat) (pt : Int → Option Nat) (W : World) : Prop where
  q : Blk W g 63 (QV (.map (some B)) rd wh hi hd en)
  pat : PatAt W base B n pt f rd
  at_ : pt number = some gp
  keep : KeepT w W g
  below : Below base w W
end Go.Proofs.YtdafeokjedmnkaaDoor
