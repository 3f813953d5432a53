/-
  word.Bytes.
-/
import Derived.Test.YtfedofoadfipcaaDoorWordP
import Derived.Test.YtfedofoadfipcaaDoorWordK
import Derived.Test.YtfedofoadfipcaaDoorEnvBits
import Derived.Test.YtfedofoadfipcaaDoorWrdL
import Derived.Deep.DeepCutAuto
namespace Go.Proofs.YtfedofoadfipcaaDoor
open Go.RowKit
set_option linter.unusedVariables false
set_option linter.unusedSimpArgs false
/-- What Bytes answers: the bytes of a valid message, and the form's error of another. -/
structure BytesTo (base : Nat) (w w' : World) (m : MV) (r : Ending) : Prop where
  ok : validB m = true → ∃ A' c', r = .returned (.tuple #[.slice A' (encM m).length c', .int .i64 0]) ∧ Own w' base A' c' (encM m)
  no : validB m = false → r = .returned (.tuple #[.slice none 0 0, .int .i64 4])
  bel : Below base w w'
  kp : KeepW w w'
set_option maxHeartbeats 1600000 in
theorem BytesW_any (m : MV) (nA : Option Addr) (nc : Nat) (rA : Option Addr) (rc : Nat) (vA : Option Addr) (vc : Nat) (base : Nat) (w : World) (ht : EW base w) (hg : validB m = true → GoodV m ∧ InR m.kind) (hr : GM base w nA rA vA m)
    (hn : m.name.length ≤ 9223372036854775807) (hrl : m.reason.length ≤ 9223372036854775807) (hl : m.vers.length ≤ 1000000) :
    Calls Tryd.prog 11 #[.agg (mvC m nA nc rA rc vA vc)] w fun r w' => BytesTo base w w' m r := by
  obtain ⟨W, hW⟩ : ∃ W, W = w.alloc (.cells (mvC m nA nc rA rc vA vc) 31) := ⟨_, rfl⟩
  have b0 : Below w.heap.size w W := by rw [hW]; exact (Below.refl _ _).alloc (Nat.le_refl _) _
  have hWz : w.heap.size < W.heap.size := by rw [hW]; simp
  have KB0 := Lib.hid (show Blk W w.heap.size 31 (mvC m nA nc rA rc vA vc) by rw [hW]; exact Blk.new _ _ _)
  have E0 := ht.below (b0.mono ht.le)
  have GM0 := hr.below (b0.mono ht.le)
  have CV := Lib.hid (valid_any m nA nc rA rc vA vc W hn hrl hl (Reads.more GM0.vs E0.le))
  have B0 := Lib.hid (b0.mono ht.le)
  have KP0 := Lib.hid (KeepW.below b0)
  have CE := Lib.hid (fun w1 (b1 : Below W.heap.size W w1) (hv : validB m = true) => encode_any m nA nc rA rc vA vc base w1 (E0.below (b1.mono E0.le)) (hg hv).1 (hg hv).2 (GM0.below (b1.mono E0.le)))
  obtain ⟨P, hP⟩ : ∃ P : World → Ending → Prop, P = fun w' r => BytesTo base w w' m r := ⟨_, rfl⟩
  have P1 := Lib.hid (fun (hv : validB m = false) (w1 : World) (b1 : Below W.heap.size W w1) => show P w1 (.returned (.tuple #[.slice none 0 0, .int .i64 4])) by
    rw [hP]; exact ⟨fun h => (by rw [hv] at h; cases h), fun _ => rfl, B0.out.trans (b1.mono E0.le), KP0.out.trans (KeepW.below b1)⟩)
  obtain ⟨X, hX⟩ : ∃ X, X = encM m := ⟨_, rfl⟩
  have P2 := Lib.hid (fun (hv : validB m = true) (w1 w2 : World) (b1 : Below W.heap.size W w1) (A' : Option Addr) (c' : Nat) (g : Grew base w1 w2 A' c' X) => show P w2 (.returned (.tuple #[.slice A' X.length c', .int .i64 0])) by
    rw [hP, hX]; exact ⟨fun _ => ⟨A', c', rfl, by rw [← hX]; exact g.own⟩, fun h => (by rw [hv] at h; cases h), B0.out.trans ((b1.mono E0.le).trans g.bel), KP0.out.trans ((KeepW.below b1).trans g.kp)⟩)
  rw [show (fun r w' => BytesTo base w w' m r) = fun r w' => P w' r by rw [hP]]
  rw [← hX] at CE
  obtain ⟨vb, hvb⟩ : ∃ b, b = validB m := ⟨_, rfl⟩
  rw [← hvb] at CV CE P1 P2
  clear hP hX ht hg hr b0 E0 GM0 hn hrl hl hvb
  obtain ⟨kind, id, alias_, name, prio, ord, sg, so, eg, eo, some_, code, reason, n, ver, vers⟩ := m
  unfold mvC at hW KB0 CV CE ⊢
  simp only at hW KB0 CV CE ⊢
  have HW := Lib.hid hW
  clear hW
  go_enter Tryd.func11, Tryd.ntmps11
  go_wp2_with fail
  rw [← HW.out]
  refine CV.out.mono ?_
  rintro e w1 ⟨rfl, b1⟩
  have B1 := Lib.hid b1
  have kb := KB0.out.below b1 hWz
  have zz := kb.lt
  have k0 := kb.cell 0
  have k1 := kb.cell 1
  have k2 := kb.cell 2
  have k3 := kb.cell 3
  have k4 := kb.cell 4
  have k5 := kb.cell 5
  have k6 := kb.cell 6
  have k7 := kb.cell 7
  have k8 := kb.cell 8
  have k9 := kb.cell 9
  have k10 := kb.cell 10
  have k11 := kb.cell 11
  have k12 := kb.cell 12
  have k13 := kb.cell 13
  have k14 := kb.cell 14
  have k15 := kb.cell 15
  simp only [List.getElem?_toArray, List.getElem?_cons_zero, List.getElem?_cons_succ] at k0 k1 k2 k3 k4 k5 k6 k7 k8 k9 k10 k11 k12 k13 k14 k15
  clear b1 kb CV
  cases vb with
  | false =>
    go_wp2_with fail
    exact P1.out trivial w1 B1.out
  | true =>
    have C2 := Lib.hid (CE.out w1 B1.out rfl)
    clear CE
    go_wp2_with fail
    refine C2.out.mono ?_
    rintro e w2 ⟨A2, c2, rfl, g2⟩
    have G2 := Lib.hid g2
    clear g2 C2
    go_wp2_with fail
    exact P2.out trivial w1 w2 B1.out A2 c2 G2.out
end Go.Proofs.YtfedofoadfipcaaDoor

/-
  word: the law's first question.
-/
namespace Go.Proofs.YtfedofoadfipcaaDoor
open Go.RowKit
set_option linter.unusedVariables false
set_option linter.unusedSimpArgs false
theorem own_litR (w : World) (l : List Int) {base : Nat} (hb : base ≤ w.heap.size) (hm : l.length ≤ 1000) : Own (w.alloc (.cells (U8 l).toArray 5)) base (some ⟨w.heap.size, 0, none⟩) l.length l := by
  have h := Own.new (l := l) (Blk.new w 5 (U8 l).toArray) hb (by simp [maxLen]; omega)
  exact h
theorem bytes_ofW {l : List Int} (h : l.all (fun x => decide (0 ≤ x) && decide (x < 256)) = true) : Bytes l := fun x hx => by
  have := List.all_eq_true.1 h x hx
  simpa using this
theorem inR_of {x : Int} (h : (decide (0 ≤ x) && decide (x < 4611686018427387904)) = true) : InR x := by
  simpa [InR] using h
theorem gm_nil (base : Nat) (w : World) (m : MV) (hn : m.name = []) (hr : m.reason = []) (hv : m.vers = []) : GM base w none none none m :=
  ⟨by rw [hn]; exact Reads.none_, by rw [hr]; exact Reads.none_, by rw [hv]; exact Reads.none_⟩
set_option maxHeartbeats 1600000 in
theorem awake15_any (w : World) (ht : Tab w) : Calls Tryd.prog 9 #[] w fun r w' => r = .returned (.bool true) ∧ Below w.heap.size w w' := by
  have hE : EW w.heap.size w := ⟨ht, ht.1, Nat.le_refl _⟩
  have C1 := BytesW_any ⟨10, 5, 0, [], 0, 0, 0, 0, 0, 0, false, 0, [], 0, 0, []⟩ none 0 none 0 none 0 w.heap.size w hE
    (fun _ => ⟨⟨inR_of rfl, inR_of rfl, inR_of rfl, inR_of rfl, inR_of rfl, inR_of rfl, inR_of rfl, inR_of rfl, inR_of rfl, by decide, by decide, by decide, by simp⟩, inR_of rfl⟩) (gm_nil _ _ _ rfl rfl rfl) (by decide) (by decide) (by decide)
  unfold mvC at C1
  simp only [List.length_nil] at C1
  have hv : validB ⟨10, 5, 0, [], 0, 0, 0, 0, 0, 0, false, 0, [], 0, 0, []⟩ = true := by decide +kernel
  have he : encM ⟨10, 5, 0, [], 0, 0, 0, 0, 0, 0, false, 0, [], 0, 0, []⟩ = [10, 0, 1, 5] := by decide +kernel
  have C1' := Lib.hid C1
  have HV := Lib.hid hv
  have HE := Lib.hid he
  clear C1 hv he hE ht
  go_enter Tryd.func9, Tryd.ntmps9
  go_wp2_with fail
  refine C1'.out.mono ?_
  rintro r w1 h1
  obtain ⟨A1, c1, rfl, o1⟩ := h1.ok HV.out
  rw [HE.out] at o1 ⊢
  have B1 := Lib.hid h1.bel
  have b2 : Below w1.heap.size w1 (w1.alloc (.cells #[.int .u8 10, .int .u8 0, .int .u8 2, .int .u8 5, .int .u8 5] 5)) := (Below.refl _ _).alloc (Nat.le_refl _) _
  have o2 : Own (w1.alloc (.cells #[.int .u8 10, .int .u8 0, .int .u8 2, .int .u8 5, .int .u8 5] 5)) w1.heap.size (some ⟨w1.heap.size, 0, none⟩) 5 [10, 0, 2, 5, 5] := own_litR w1 [10, 0, 2, 5, 5] (Nat.le_refl _) (by decide)
  have O1 := Lib.hid (o1.below b2)
  have B2 := Lib.hid (B1.out.trans (b2.mono B1.out.size))
  have C2 := Lib.hid (Read_any (some ⟨w1.heap.size, 0, none⟩) 5 [10, 0, 2, 5, 5] _ (Sl.of_own o2) (bytes_ofW (by decide)) (by decide))
  have hrd : readW [10, 0, 2, 5, 5] = .error 4 := by kernel_rfl
  have HRD := Lib.hid hrd
  clear h1 o1 b2 o2 hrd C1'
  go_wp2_with fail
  refine C2.out.mono ?_
  rintro r w3 h3
  obtain rfl := h3.no 4 HRD.out
  have B3 := Lib.hid (B2.out.trans (h3.bel.mono B2.out.size))
  have O3 := Lib.hid (O1.out.below h3.bel)
  clear h3 C2 O1 B2
  unfold zeroM mvC mv0
  simp only [List.length_nil]
  obtain ⟨W5, hW5⟩ : ∃ W5, W5 = (w3.alloc (.cells #[.int .u64 0, .int .u64 0, .int .u64 0, .slice none 0 0, .int .u8 0, .int .u8 0, .int .u64 0, .int .u64 0, .int .u64 0, .int .u64 0, .bool false, .int .u64 0, .slice none 0 0, .int .u64 0, .int .u64 0, .slice none 0 0] 31)).alloc (.cells #[.int .u8 10, .int .u8 0, .int .u8 1, .int .u8 5] 5) := ⟨_, rfl⟩
  have b5 : Below w3.heap.size w3 W5 := by rw [hW5]; exact ((Below.refl _ _).alloc (Nat.le_refl _) _).alloc (by simp) _
  have r5 : Rd W5 (some ⟨w3.heap.size + 1, 0, none⟩) [10, 0, 1, 5] := by
    rw [hW5]
    have := Rd.of_own (own_litR (w3.alloc (.cells #[.int .u64 0, .int .u64 0, .int .u64 0, .slice none 0 0, .int .u8 0, .int .u8 0, .int .u64 0, .int .u64 0, .int .u64 0, .int .u64 0, .bool false, .int .u64 0, .slice none 0 0, .int .u64 0, .int .u64 0, .slice none 0 0] 31)) [10, 0, 1, 5] (Nat.le_refl _) (by decide))
    simpa [U8] using this
  have S1 := same_any A1 (some ⟨w3.heap.size + 1, 0, none⟩) c1 4 [10, 0, 1, 5] [10, 0, 1, 5] W5 (Rd.of_own (O3.out.below b5)) r5 (bytes_ofW (by decide)) (bytes_ofW (by decide))
  rw [show sameB [10, 0, 1, 5] [10, 0, 1, 5] = true by decide] at S1
  have S1' := Lib.hid S1
  have B5 := Lib.hid (B3.out.trans (b5.mono B3.out.size))
  have HW5 := Lib.hid hW5
  clear S1 b5 r5 hW5
  go_wp2_with fail
  rw [← HW5.out]
  refine S1'.out.mono ?_
  rintro r w6 ⟨rfl, rfl⟩
  go_wp2_with fail
  go_ret
  exact ⟨rfl, B5.out⟩
end Go.Proofs.YtfedofoadfipcaaDoor

/-
  WordReads.
-/
namespace Go.Proofs.YtfedofoadfipcaaDoor
open Go.RowKit
set_option linter.unusedVariables false
set_option linter.unusedSimpArgs false
theorem ptextm_by {m : Nat} {q t q1 : List Int} (hb : Bytes q) (h : ptext m q = some (t, q1)) : Bytes q1 ∧ Bytes t := by
  unfold ptext at h
  split at h
  · cases h
  · rename_i n r hp
    obtain ⟨_, _, rfl⟩ := pnum_some hp
    split at h
    · injection h with h
      injection h with h1 h2
      rw [← h1, ← h2]
      exact ⟨(hb.drop _).drop _, (hb.drop _).take _⟩
    · cases h
theorem pnum_byB {q q1 : List Int} {n : Int} (hb : Bytes q) (h : pnum q = some (n, q1)) : Bytes q1 := by
  obtain ⟨_, _, rfl⟩ := pnum_some h
  exact hb.drop _
theorem pplace_byB {q q1 : List Int} {n : Int × Int} (hb : Bytes q) (h : pplace q = some (n, q1)) : Bytes q1 := by
  unfold pplace at h
  split at h
  · cases h
  · rename_i a r hp
    split at h
    · cases h
    · rename_i b r2 hp2
      injection h with h
      injection h with _ h
      rw [← h]
      exact pnum_byB (pnum_byB hb hp) hp2
theorem pnums_byB : ∀ {k : Nat} {q l q1 : List Int}, Bytes q → pnums k q = some (l, q1) → Bytes q1
  | 0, q, l, q1, hb, h => by
    injection h with h
    injection h with _ h
    rw [← h]
    exact hb
  | k + 1, q, l, q1, hb, h => by
    unfold pnums at h
    split at h
    · cases h
    · rename_i a r hp
      split at h
      · cases h
      · rename_i l2 r2 hp2
        injection h with h
        injection h with _ h
        rw [← h]
        exact pnums_byB (pnum_byB hb hp) hp2
theorem plist_byB {q l q1 : List Int} (hb : Bytes q) (h : plist q = some (l, q1)) : Bytes q1 := by
  unfold plist at h
  split at h
  · cases h
  · rename_i a r hp
    split at h
    · exact pnums_byB (pnum_byB hb hp) h
    · cases h
theorem tailB {x : Int} {r : List Int} (hb : Bytes (x :: r)) : Bytes r := fun y hy => hb y (List.mem_cons_of_mem _ hy)
theorem takeF_byB {k : Nat} {m m' : MV} {p q : List Int} (hb : Bytes p) (hn : Bytes m.name) (hr : Bytes m.reason) (h : takeF k m p = some (m', q)) : Bytes q ∧ Bytes m'.name ∧ Bytes m'.reason := by
  have num : ∀ {f : Int × List Int → MV × List Int}, (∀ r, (f r).2 = r.2 ∧ (f r).1.name = m.name ∧ (f r).1.reason = m.reason) → (pnum p).map f = some (m', q) → Bytes q ∧ Bytes m'.name ∧ Bytes m'.reason := by
    intro f hf h
    obtain ⟨⟨v, q'⟩, h3, h4⟩ := Option.map_eq_some_iff.1 h
    have := hf (v, q')
    rw [h4] at this
    obtain ⟨e1, e2, e3⟩ := this
    simp only at e1 e2 e3
    rw [e1, e2, e3]
    exact ⟨pnum_byB hb h3, hn, hr⟩
  unfold takeF at h
  split at h
  · exact num (fun r => ⟨rfl, rfl, rfl⟩) h
  · exact num (fun r => ⟨rfl, rfl, rfl⟩) h
  · obtain ⟨⟨v, q'⟩, h3, h4⟩ := Option.map_eq_some_iff.1 h
    injection h4 with h4 h5
    subst h4 h5
    exact ⟨(ptextm_by hb h3).1, (ptextm_by hb h3).2, hr⟩
  · split at h
    · cases h
    · injection h with h
      injection h with h4 h5
      subst h4 h5
      exact ⟨tailB hb, hn, hr⟩
  · split at h
    · cases h
    · injection h with h
      injection h with h4 h5
      subst h4 h5
      exact ⟨tailB hb, hn, hr⟩
  · obtain ⟨⟨v, q'⟩, h3, h4⟩ := Option.map_eq_some_iff.1 h
    injection h4 with h4 h5
    subst h4 h5
    refine ⟨?_, hn, hr⟩
    unfold pbit at h3
    split at h3
    · cases h3
    · split at h3
      · injection h3 with h3
        injection h3 with _ h3
        rw [← h3]
        exact tailB hb
      · cases h3
  · obtain ⟨⟨v, q'⟩, h3, h4⟩ := Option.map_eq_some_iff.1 h
    injection h4 with h4 h5
    subst h4 h5
    exact ⟨pplace_byB hb h3, hn, hr⟩
  · split at h
    · exact num (fun r => ⟨rfl, rfl, rfl⟩) h
    · obtain ⟨⟨v, q'⟩, h3, h4⟩ := Option.map_eq_some_iff.1 h
      injection h4 with h4 h5
      subst h4 h5
      exact ⟨pplace_byB hb h3, hn, hr⟩
  · exact num (fun r => ⟨rfl, rfl, rfl⟩) h
  · obtain ⟨⟨v, q'⟩, h3, h4⟩ := Option.map_eq_some_iff.1 h
    injection h4 with h4 h5
    subst h4 h5
    exact ⟨(ptextm_by hb h3).1, hn, (ptextm_by hb h3).2⟩
  · obtain ⟨⟨v, q'⟩, h3, h4⟩ := Option.map_eq_some_iff.1 h
    injection h4 with h4 h5
    subst h4 h5
    exact ⟨plist_byB hb h3, hn, hr⟩
  · exact num (fun r => ⟨rfl, rfl, rfl⟩) h
  · exact num (fun r => ⟨rfl, rfl, rfl⟩) h
  · injection h with h
    injection h with h4 h5
    subst h4 h5
    exact ⟨hb, hn, hr⟩
theorem runF_byB {own kind : Int} {p : List Int} (hb : Bytes p) : ∀ {k : Nat} {m : MV} {q : List Int}, runF own k (mv0 kind) p = some (m, q) → Bytes q ∧ Bytes m.name ∧ Bytes m.reason
  | 0, m, q, h => by
    injection h with h
    injection h with h1 h2
    rw [← h1, ← h2]
    exact ⟨hb, Bytes.nil, Bytes.nil⟩
  | k + 1, m, q, h => by
    unfold runF at h
    split at h
    · cases h
    · rename_i m1 q1 h1
      have ih := runF_byB hb h1
      split at h
      · exact takeF_byB ih.1 ih.2.1 ih.2.2 h
      · injection h with h
        injection h with h1 h2
        rw [← h1, ← h2]
        exact ih
theorem readW_byB {p : List Int} (hb : Bytes p) {m : MV} {q : List Int} (h : readW p = .ok (m, q)) : Bytes q ∧ Bytes m.name ∧ Bytes m.reason ∧ m.vers.length ≤ 8 := by
  unfold readW at h
  split at h
  · cases h
  · rename_i k q1 hp
    have hq1 := pnum_byB hb hp
    split at h
    · split at h
      · rename_i a b r
        split at h
        · cases h
        · split at h
          · cases h
          · rename_i m1 hm
            injection h with h
            injection h with h1 h2
            rw [← h1, ← h2]
            refine ⟨(tailB (tailB hq1)).drop _, ?_⟩
            unfold parseW at hm
            split at hm
            · cases hm
            · rename_i m2 q2 h3
              split at hm
              · injection hm with hm
                have := runF_byB ((tailB (tailB hq1)).take _) h3
                rw [← hm]
                exact ⟨this.2.1, this.2.2, runF_vers h3⟩
              · cases hm
      · cases h
    · cases h
/-- What is read: a message, the rest, an error. -/
def ansM (p : List Int) : MV := match readW p with | .ok r => r.1 | .error _ => mv0 0
def ansQ (p : List Int) : List Int := match readW p with | .ok r => r.2 | .error _ => []
def ansE (p : List Int) : Int := match readW p with | .ok _ => 0 | .error e => e
structure AnsTo (w w' : World) (p : List Int) (r : Ending) : Prop where
  ex : ∃ nA nc rA rc vA vc qA qc, r = .returned (.tuple #[.agg (mvC (ansM p) nA nc rA rc vA vc), .slice qA (ansQ p).length qc, .int .i64 (ansE p)]) ∧ Own w' w.heap.size nA nc (ansM p).name ∧ Own w' w.heap.size rA rc (ansM p).reason ∧ OwnU w' w.heap.size vA vc (ansM p).vers ∧ Own w' w.heap.size qA qc (ansQ p)
  bel : Below w.heap.size w w'
theorem ans_by {p : List Int} (hb : Bytes p) : Bytes (ansQ p) ∧ Bytes (ansM p).name ∧ Bytes (ansM p).reason ∧ (ansM p).vers.length ≤ 8 := by
  unfold ansQ ansM
  cases h : readW p with
  | ok r => exact readW_byB hb (m := r.1) (q := r.2) h
  | error e => exact ⟨Bytes.nil, Bytes.nil, Bytes.nil, Nat.zero_le _⟩
theorem ReadTo.ans {w w' : World} {p : List Int} {r : Ending} (h : ReadTo w w' p r) : AnsTo w w' p r := by
  refine ⟨?_, h.bel⟩
  unfold ansQ ansM ansE
  cases hp : readW p with
  | ok x => exact h.ok x.1 x.2 hp
  | error e => exact ⟨none, 0, none, 0, none, 0, none, 0, h.no e hp, Own.nil _ _, Own.nil _ _, OwnV.nil _ _ _ _, Own.nil _ _⟩
theorem RReadTo.ans {w w' : World} {p : List Int} {r : Ending} (h : RReadTo w w' p r) : AnsTo w w' p r := by
  refine ⟨?_, h.bel⟩
  have e := readR_eq p
  unfold ansQ ansM ansE
  cases hp : readW p with
  | ok x => exact h.ok x.1 x.2 (e.trans hp)
  | error e' => exact ⟨none, 0, none, 0, none, 0, none, 0, h.no e' (e.trans hp), Own.nil _ _, Own.nil _ _, OwnV.nil _ _ _ _, Own.nil _ _⟩
/-- 'append(own, x)[:n]', and beyond its end. -/
theorem slice_backW (A : Option Addr) (c : Nat) (l : List Int) (m n : Nat) (kd : IntKind) (hn : n ≤ c) (hm : n ≤ l.length) :
    (∀ w, (Instr.slice 23 (.slice A m c) none (some (.int kd (n : Int))) none).run Tryd.prog w = .ok (.slice A (l.take n).length c) w) := by
  intro w
  rw [run_slice_h (P := Tryd.prog) w 23 A m c (by rw [elem_u8]; exact Tryd.underlying23) kd (n : Int) (by omega) (by omega), elem_u8, run_sizeOf_u8]
  cases A <;> simp [sliced, Nat.min_eq_left hm, Addr.add]
/-- A message's cells, written out. -/
theorem mvC_lit (m : MV) (nA : Option Addr) (nc : Nat) (rA : Option Addr) (rc : Nat) (vA : Option Addr) (vc : Nat) : mvC m nA nc rA rc vA vc = #[.int .u64 m.kind, .int .u64 m.id, .int .u64 m.alias_, .slice nA m.name.length nc, .int .u8 m.prio, .int .u8 m.ord, .int .u64 m.sg, .int .u64 m.so, .int .u64 m.eg, .int .u64 m.eo, .bool m.some_, .int .u64 m.code, .slice rA m.reason.length rc, .int .u64 m.n, .int .u64 m.ver, .slice vA m.vers.length vc] := rfl
set_option maxRecDepth 100000 in
set_option maxHeartbeats 3200000 in
theorem reads15_walk (A : Option Addr) (c : Nat) (p : List Int) (w : World) (ht : Tab w) (hr : Rd w A p) (hb : Bytes p) (hc : p.length ≤ c) (hm : c ≤ 9223372036854775807) (hn : A = none → c = 0) :
    Calls Tryd.prog 4 #[.slice A p.length c] w fun e w' => e = .returned (.bool true) ∧ Below w.heap.size w w' := by
  obtain ⟨l, hl⟩ : ∃ l, l = p.take (300 : Int).toNat := ⟨_, rfl⟩
  have hll : l.length ≤ 300 := by rw [hl]; simp; omega
  have hlb : Bytes l := by rw [hl]; exact hb.take _
  have HL := Lib.hid hl
  have HLB := Lib.hid hlb
  have AW := Lib.hid (awake15_any w ht)
  have HAB := Lib.hid (ans_by hlb)
  have hlen : (ansQ l).length ≤ 9223372036854775807 ∨ True := .inr trivial
  clear hl hlb hlen
  go_enter Tryd.func4, Tryd.ntmps4
  go_wp2_with fail
  refine AW.out.mono ?_
  rintro e w1 ⟨rfl, b1⟩
  have CC := Lib.hid (cut_any A c p 300 w1 (hr.below b1) (by omega) hc (by decide) (by decide))
  have B1 := Lib.hid b1
  clear b1 AW hr hb hc hm hn ht
  go_wp2_with fail
  refine CC.out.mono ?_
  rintro e w2 ⟨A2, c2, rfl, o2, b2⟩
  rw [← HL.out] at o2 ⊢
  have B2 := Lib.hid (B1.out.trans (b2.mono B1.out.size))
  have O2 := Lib.hid o2
  have CP := Lib.hid (copy_any A2 c2 l w2 (Rd.of_own o2) (by omega))
  clear o2 b2 CC B1 HL
  go_wp2_with fail
  refine CP.out.mono ?_
  rintro e w3 ⟨A3, c3, rfl, o3, b3⟩
  have O3 := Lib.hid o3
  have BB3 := Lib.hid b3
  have hz3 := b3.size
  obtain ⟨X, hX⟩ : ∃ X, X = l ++ [165] := ⟨_, rfl⟩
  have HX := Lib.hid hX
  have hXl : X.length = l.length + 1 := by rw [hX]; simp
  have HXL := Lib.hid hXl
  have hbk : ∀ c w, (c : Nat) ≥ l.length → ∀ (A : Option Addr), (Instr.slice 23 (.slice A X.length c) none (some (.int .i64 (l.length : Int))) none).run Tryd.prog w = .ok (.slice A l.length c) w := by
    intro c w hc A
    have := slice_backW A c X X.length l.length .i64 hc (by omega) w
    rw [this, hX]
    simp
  have HBK := Lib.hid hbk
  clear o3 b3 CP hX hXl hbk
  go_wp2_with (at_builtin; go_must (refine wpList_appW rfl (.tmp 15) (.tmp 16) rfl w2.heap.size (l := l) (news := [165]) X HX.out rfl rfl (O3.out.below ((Below.refl _ _).alloc (Nat.le_refl _) _)) (Rd.of_own (own_lit1 w3 165 (Nat.le_refl _))) (by simp; omega) (by simp; omega) ?_); intro A4 c4 w4 o4 g4 b4; have O4 := Lib.hid o4; have BB4 := Lib.hid b4; have hbk := HBK.out c4; have hcap := o4.cap.1; have hXl := HXL.out; have hbk2 := fun w => hbk w (by omega) A4; clear o4 g4 b4 hbk hcap hXl)
  have b24 : Below w2.heap.size w2 w4 := (BB3.out.trans ((Below.refl _ _).alloc BB3.out.size _)).trans BB4.out
  have B4 := Lib.hid (B2.out.trans (b24.mono B2.out.size))
  have o4 := O4.out
  have r4 := Rd.of_own o4
  have hcap := o4.cap
  have hXl := HXL.out
  have q4 : Sl w4 A4 c4 l := ⟨by have := r4.upto (k := l.length) (by omega); rw [HX.out] at this; simpa using this, by omega, (Sl.of_own o4).max, (Sl.of_own o4).nil⟩
  obtain ⟨g, hA4, _, hgb⟩ := o4.form (by omega)
  subst hA4
  have hlast : w4.cell? ⟨g, l.length, none⟩ = some (.int .u8 165) := by
    have := r4.cell (j := l.length) (x := 165) (by rw [HX.out]; simp)
    simpa using this
  have O2b := Lib.hid (Own.below O2.out b24)
  have RD := Lib.hid (Read_any (some ⟨g, 0, none⟩) c4 l w4 q4 HLB.out (by omega))
  have Q4 := Lib.hid q4
  have HLAST := Lib.hid hlast
  have HGB := Lib.hid hgb
  have HC4 := Lib.hid (show l.length + 1 ≤ c4 by omega)
  clear b24 o4 r4 hcap q4 hlast hgb BB3 BB4 O3 O4 hz3 B2 O2 hXl
  refine RD.out.mono ?_
  rintro e w5 h5
  have a5 := h5.ans
  obtain ⟨nA, nc, rA, rc, vA, vc, qA, qc, rfl, u1, u2, u3, u4⟩ := a5.ex
  have B5 := Lib.hid (B4.out.trans (a5.bel.mono B4.out.size))
  obtain ⟨M, hM⟩ : ∃ M, M = ansM l := ⟨_, rfl⟩
  obtain ⟨QQ, hQQ⟩ : ∃ Q, Q = ansQ l := ⟨_, rfl⟩
  obtain ⟨EE, hEE⟩ : ∃ E, E = ansE l := ⟨_, rfl⟩
  rw [← hM] at u1 u2 u3 HAB
  rw [← hQQ] at u4 HAB
  rw [← hM, ← hQQ, ← hEE, mvC_lit]
  obtain ⟨w6, hw6⟩ : ∃ w6, w6 = w5.alloc (.cells #[.int .u64 M.kind, .int .u64 M.id, .int .u64 M.alias_, .slice nA M.name.length nc, .int .u8 M.prio, .int .u8 M.ord, .int .u64 M.sg, .int .u64 M.so, .int .u64 M.eg, .int .u64 M.eo, .bool M.some_, .int .u64 M.code, .slice rA M.reason.length rc, .int .u64 M.n, .int .u64 M.ver, .slice vA M.vers.length vc] 31) := ⟨_, rfl⟩
  have b6 : Below w5.heap.size w5 w6 := by rw [hw6]; exact (Below.refl _ _).alloc (Nat.le_refl _) _
  have b46 := a5.bel.trans (b6.mono a5.bel.size)
  have KG := Lib.hid (show Blk w6 w5.heap.size 31 #[.int .u64 M.kind, .int .u64 M.id, .int .u64 M.alias_, .slice nA M.name.length nc, .int .u8 M.prio, .int .u8 M.ord, .int .u64 M.sg, .int .u64 M.so, .int .u64 M.eg, .int .u64 M.eo, .bool M.some_, .int .u64 M.code, .slice rA M.reason.length rc, .int .u64 M.n, .int .u64 M.ver, .slice vA M.vers.length vc] by rw [hw6]; exact Blk.new _ _ _)
  have U6 := Lib.hid (And.intro (Own.below u1 b6) (And.intro (Own.below u2 b6) (And.intro (OwnV.below u3 b6) (Own.below u4 b6))))
  have Q6 := Lib.hid (Q4.out.below b46)
  have O26 := Lib.hid (Own.below O2b.out b46)
  have HL6 := Lib.hid (show w6.cell? ⟨g, l.length, none⟩ = some (.int .u8 165) from (b46.cell (p := ⟨g, l.length, none⟩) HGB.out).trans HLAST.out)
  have HG6 := Lib.hid (Nat.lt_of_lt_of_le HGB.out b46.size)
  have B6 := Lib.hid (B5.out.trans (b6.mono B5.out.size))
  have RR := Lib.hid (refReadW_any A2 c2 l w6 (Sl.of_own O26.out) HLB.out (by omega))
  have HW6 := Lib.hid hw6
  have HM := Lib.hid hM
  have HQ := Lib.hid hQQ
  have HE := Lib.hid hEE
  clear hw6 b6 b46 u1 u2 u3 u4 a5 h5 RD B5 B4 Q4 O2b HLAST HGB hM hQQ hEE
  go_wp2_with fail
  rw [← HW6.out]
  refine RR.out.mono ?_
  rintro e w7 h7
  have a7 := h7.ans
  obtain ⟨nB, nd, rB, rd, vB, vd, qB, qd, rfl, v1, v2, v3, v4⟩ := a7.ex
  rw [← HM.out] at v1 v2 v3
  rw [← HQ.out] at v4
  rw [← HM.out, ← HQ.out, ← HE.out, mvC_lit]
  obtain ⟨w8, hw8⟩ : ∃ w8, w8 = w7.alloc (.cells #[.int .u64 M.kind, .int .u64 M.id, .int .u64 M.alias_, .slice nB M.name.length nd, .int .u8 M.prio, .int .u8 M.ord, .int .u64 M.sg, .int .u64 M.so, .int .u64 M.eg, .int .u64 M.eo, .bool M.some_, .int .u64 M.code, .slice rB M.reason.length rd, .int .u64 M.n, .int .u64 M.ver, .slice vB M.vers.length vd] 28) := ⟨_, rfl⟩
  have b8 : Below w7.heap.size w7 w8 := by rw [hw8]; exact (Below.refl _ _).alloc (Nat.le_refl _) _
  have b68 := a7.bel.trans (b8.mono a7.bel.size)
  have kg := KG.out.below b68 KG.out.lt
  have kx : Blk w8 w7.heap.size 28 #[.int .u64 M.kind, .int .u64 M.id, .int .u64 M.alias_, .slice nB M.name.length nd, .int .u8 M.prio, .int .u8 M.ord, .int .u64 M.sg, .int .u64 M.so, .int .u64 M.eg, .int .u64 M.eo, .bool M.some_, .int .u64 M.code, .slice rB M.reason.length rd, .int .u64 M.n, .int .u64 M.ver, .slice vB M.vers.length vd] := by rw [hw8]; exact Blk.new _ _ _
  have zg := kg.lt
  have zx := kx.lt
  have hlast : w8.cell? ⟨g, l.length, none⟩ = some (.int .u8 165) := (b68.cell (p := ⟨g, l.length, none⟩) HG6.out).trans HL6.out
  have HG8 := Lib.hid (Nat.lt_of_lt_of_le HG6.out b68.size)
  have HL8 := Lib.hid hlast
  have B8 := Lib.hid (B6.out.trans (b68.mono B6.out.size))
  have CS := Lib.hid (show Calls Tryd.prog 14 #[.agg (mvC M nA nc rA rc vA vc), .agg (mvC M nB nd rB rd vB vd)] w8 fun r w' => r = .returned (.bool true) ∧ Below w8.heap.size w8 w' by
    have := sameW_any M M nA nc rA rc vA vc nB nd rB rd vB vd w8 (Rd.of_own (Own.below U6.out.1 b68)) (Rd.of_own (Own.below U6.out.2.1 b68)) (OwnV.reads (OwnV.below U6.out.2.2.1 b68)) (Rd.of_own (Own.below v1 b8)) (Rd.of_own (Own.below v2 b8)) (OwnV.reads (OwnV.below v3 b8)) HAB.out.2.1 HAB.out.2.2.1 HAB.out.2.1 HAB.out.2.2.1 (by have := HAB.out.2.2.2; omega) (by have := HAB.out.2.2.2; omega)
    rwa [(sameMB_iff M M).2 rfl] at this)
  have CE := Lib.hid (fun W' (hb : Below w8.heap.size w8 W') => by
    have := same_any qA qB qc qd QQ QQ W' (Rd.of_own (Own.below (Own.below U6.out.2.2.2 b68) hb)) (Rd.of_own (Own.below (Own.below v4 b8) hb)) HAB.out.1 HAB.out.1
    rwa [show sameB QQ QQ = true by simp [sameB]] at this)
  have CQ := Lib.hid (fun W' (hb : Below w8.heap.size w8 W') => by
    have := same_any (some ⟨g, 0, none⟩) A2 c4 c2 l l W' (Rd.below (Rd.below Q6.out.rd b68) hb) (Rd.of_own (Own.below (Own.below O26.out b68) hb)) HLB.out HLB.out
    rwa [show sameB l l = true by simp [sameB]] at this)
  have d0 := kg.cell 0
  have d1 := kg.cell 1
  have d2 := kg.cell 2
  have d3 := kg.cell 3
  have d4 := kg.cell 4
  have d5 := kg.cell 5
  have d6 := kg.cell 6
  have d7 := kg.cell 7
  have d8 := kg.cell 8
  have d9 := kg.cell 9
  have d10 := kg.cell 10
  have d11 := kg.cell 11
  have d12 := kg.cell 12
  have d13 := kg.cell 13
  have d14 := kg.cell 14
  have d15 := kg.cell 15
  simp only [List.getElem?_toArray, List.getElem?_cons_zero, List.getElem?_cons_succ] at d0 d1 d2 d3 d4 d5 d6 d7 d8 d9 d10 d11 d12 d13 d14 d15
  have f0 := kx.cell 0
  have f1 := kx.cell 1
  have f2 := kx.cell 2
  have f3 := kx.cell 3
  have f4 := kx.cell 4
  have f5 := kx.cell 5
  have f6 := kx.cell 6
  have f7 := kx.cell 7
  have f8 := kx.cell 8
  have f9 := kx.cell 9
  have f10 := kx.cell 10
  have f11 := kx.cell 11
  have f12 := kx.cell 12
  have f13 := kx.cell 13
  have f14 := kx.cell 14
  have f15 := kx.cell 15
  simp only [List.getElem?_toArray, List.getElem?_cons_zero, List.getElem?_cons_succ] at f0 f1 f2 f3 f4 f5 f6 f7 f8 f9 f10 f11 f12 f13 f14 f15
  have HW8 := Lib.hid hw8
  have hEE : (EE == EE) = true := by simp
  clear hw8 b8 b68 kg kx v1 v2 v3 v4 a7 h7 RR hlast B6 Q6 O26 HL6 HG6 U6 KG
  unfold mvC at CS
  go_upto_region 7 with (fail)
  rw [← HW8.out]
  go_wp2_with fail
  refine CS.out.mono ?_
  rintro e w9 ⟨rfl, b9⟩
  have B9 := Lib.hid (B8.out.trans (b9.mono B8.out.size))
  have CE9 := Lib.hid (CE.out w9 b9)
  have CQ9 := Lib.hid (CQ.out w9 b9)
  have hlast : w9.cell? ⟨g, l.length, none⟩ = some (.int .u8 165) := (b9.cell (p := ⟨g, l.length, none⟩) HG8.out).trans HL8.out
  have hc4 := HC4.out
  clear b9 CE CQ CS B8 d0 d1 d2 d3 d4 d5 d6 d7 d8 d9 d10 d11 d12 d13 d14 d15 f0 f1 f2 f3 f4 f5 f6 f7 f8 f9 f10 f11 f12 f13 f14 f15 zg zx
  go_wp2_with fail
  refine CE9.out.mono ?_
  rintro e w10 ⟨rfl, hh⟩
  subst hh
  go_wp2_with fail
  refine CQ9.out.mono ?_
  rintro e w10 ⟨rfl, hh⟩
  subst hh
  go_wp2
  go_ret
  exact ⟨rfl, B9.out⟩
end Go.Proofs.YtfedofoadfipcaaDoor
