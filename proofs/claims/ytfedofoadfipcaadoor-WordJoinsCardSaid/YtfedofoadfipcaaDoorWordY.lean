/-
  Pure: what word.Bytes wrote, word.Read's model reads: whole, with anything behind it; cut off, it is not all there.
-/
import Derived.Test.YtfedofoadfipcaaDoorWordK
import Derived.Test.YtfedofoadfipcaaDoorWordP
namespace Go.Proofs.YtfedofoadfipcaaDoor
open Go.RowKit
set_option linter.unusedVariables false
set_option linter.unusedSimpArgs false
theorem pnum_venc {n : Int} (h : InR n) (X : List Int) : pnum (venc n ++ X) = some (n, X) := by
  obtain ⟨k, b, t, hs, hb, hk, hk1, hk8⟩ := vsize_is n h.1 h.2
  have hv : venc n = wenc n k := by rw [venc, hk]; rfl
  rw [hk] at hs
  unfold pnum
  rw [hv, rdS_wenc hs h.1 hb X, if_neg (by omega), rdN_wenc hs h.1 hb X, drop_wenc hs X]
theorem ptext_enc {t : List Int} {m : Nat} (h : t.length ≤ m) (hm : m ≤ 900) (X : List Int) : ptext m (vtext t ++ X) = some (t, X) := by
  unfold ptext vtext
  rw [List.append_assoc, pnum_venc (n := (t.length : Int)) ⟨by omega, by omega⟩]
  simp only
  rw [if_pos ⟨by omega, by rw [List.length_append]; omega⟩]
  simp
theorem pplace_enc {a b : Int} (ha : InR a) (hb : InR b) (X : List Int) : pplace (venc a ++ venc b ++ X) = some ((a, b), X) := by
  unfold pplace
  rw [List.append_assoc, pnum_venc ha]
  simp only
  rw [pnum_venc hb]
theorem pnums_enc : ∀ {l : List Int}, (∀ x ∈ l, 0 ≤ x ∧ x < 4611686018427387904) → ∀ X : List Int, pnums l.length (vencs l ++ X) = some (l, X)
  | [], _, X => rfl
  | x :: l, h, X => by
    have e : vencs (x :: l) = venc x ++ vencs l := rfl
    show pnums (l.length + 1) _ = _
    unfold pnums
    rw [e, List.append_assoc, pnum_venc (h x (by simp))]
    simp only
    rw [pnums_enc (fun y hy => h y (by simp [hy]))]
theorem plist_enc {l : List Int} (h : ∀ x ∈ l, 0 ≤ x ∧ x < 4611686018427387904) (hl : l.length ≤ 8) (X : List Int) : plist (venc l.length ++ vencs l ++ X) = some (l, X) := by
  unfold plist
  rw [List.append_assoc, pnum_venc (n := (l.length : Int)) ⟨by omega, by omega⟩]
  simp only
  rw [if_pos (by omega), Int.toNat_natCast, pnums_enc h]
/-- The fields of a kind, one by one. -/
def setB (k : Nat) (b : Bool) (m d : MV) : MV :=
  match k with
  | 0 => { d with id := if b then m.id else d.id }
  | 1 => { d with alias_ := if b then m.alias_ else d.alias_ }
  | 2 => { d with name := if b then m.name else d.name }
  | 3 => { d with prio := if b then m.prio else d.prio }
  | 4 => { d with ord := if b then m.ord else d.ord }
  | 5 => { d with some_ := if b then m.some_ else d.some_ }
  | 6 => { d with sg := if b then m.sg else d.sg, so := if b then m.so else d.so }
  | 7 => { d with eg := if b then m.eg else d.eg, eo := if b && (m.kind != 3) then m.eo else d.eo }
  | 8 => { d with code := if b then m.code else d.code }
  | 9 => { d with reason := if b then m.reason else d.reason }
  | 10 => { d with vers := if b then m.vers else d.vers }
  | 11 => { d with ver := if b then m.ver else d.ver }
  | 12 => { d with n := if b then m.n else d.n }
  | _ => d
theorem setB_kind (k : Nat) (b : Bool) (m d : MV) : (setB k b m d).kind = d.kind := by
  unfold setB
  split <;> rfl
theorem setB_no (k : Nat) (m d : MV) : setB k false m d = d := by
  unfold setB
  split <;> rfl
def uptoB (own : Int) (m : MV) : Nat → MV
  | 0 => mv0 m.kind
  | k + 1 => setB k (hasB own k) m (uptoB own m k)
theorem uptoB_kind (own : Int) (m : MV) : ∀ k, (uptoB own m k).kind = m.kind
  | 0 => rfl
  | k + 1 => by unfold uptoB; rw [setB_kind, uptoB_kind own m k]
theorem takeF_enc (k : Nat) (hk : k < 13) {m d : MV} (h : GoodV m) (hn : m.name.length ≤ 32) (hr : m.reason.length ≤ 64) (hd : d.kind = m.kind) (X : List Int) : takeF k d (encF k m ++ X) = some (setB k true m d, X) := by
  rcases (show k = 0 ∨ k = 1 ∨ k = 2 ∨ k = 3 ∨ k = 4 ∨ k = 5 ∨ k = 6 ∨ k = 7 ∨ k = 8 ∨ k = 9 ∨ k = 10 ∨ k = 11 ∨ k = 12 by omega) with rfl | rfl | rfl | rfl | rfl | rfl | rfl | rfl | rfl | rfl | rfl | rfl | rfl
  · show (pnum (venc m.id ++ X)).map _ = _
    rw [pnum_venc h.id]; rfl
  · show (pnum (venc m.alias_ ++ X)).map _ = _
    rw [pnum_venc h.alias_]; rfl
  · show (ptext 32 (vtext m.name ++ X)).map _ = _
    rw [ptext_enc hn (by decide)]; rfl
  · rfl
  · rfl
  · show (pbit (bitI m.some_ :: X)).map _ = _
    have e : pbit (bitI m.some_ :: X) = some (m.some_, X) := by cases m.some_ <;> rfl
    rw [e]; rfl
  · show (pplace (venc m.sg ++ venc m.so ++ X)).map _ = _
    rw [pplace_enc h.sg h.so]; rfl
  · show (if d.kind = 3 then (pnum ((if m.kind == 3 then venc m.eg else venc m.eg ++ venc m.eo) ++ X)).map _ else (pplace ((if m.kind == 3 then venc m.eg else venc m.eg ++ venc m.eo) ++ X)).map _) = _
    rw [hd]
    by_cases h3 : m.kind = 3
    · have e : (m.kind == 3) = true := by simpa using h3
      have e2 : (m.kind != 3) = false := by simpa using h3
      rw [if_pos h3, e, if_pos rfl, pnum_venc h.eg]
      show some (_, X) = some (_, X)
      unfold setB
      simp [e2, hd]
    · have e : (m.kind == 3) = false := by simpa using h3
      have e2 : (m.kind != 3) = true := by simpa using h3
      rw [if_neg h3, e, if_neg (by decide), pplace_enc h.eg h.eo]
      show some (_, X) = some (_, X)
      unfold setB
      simp [e2, hd]
  · show (pnum (venc m.code ++ X)).map _ = _
    rw [pnum_venc h.code]; rfl
  · show (ptext 64 (vtext m.reason ++ X)).map _ = _
    rw [ptext_enc hr (by decide)]; rfl
  · show (plist (venc m.vers.length ++ vencs m.vers ++ X)).map _ = _
    rw [plist_enc h.vers h.vl]; rfl
  · show (pnum (venc m.ver ++ X)).map _ = _
    rw [pnum_venc h.ver]; rfl
  · show (pnum (venc m.n ++ X)).map _ = _
    rw [pnum_venc h.n]; rfl
theorem run_enc (own : Int) {m : MV} (h : GoodV m) (hn : m.name.length ≤ 32) (hr : m.reason.length ≤ 64) : ∀ j, j ≤ 13 → ∀ X : List Int, runF own j (mv0 m.kind) (encR own m j ++ X) = some (uptoB own m j, X)
  | 0, _, X => rfl
  | j + 1, hj, X => by
    unfold runF encR
    rw [List.append_assoc, run_enc own h hn hr j (by omega)]
    simp only
    cases hb : hasB own j with
    | true =>
      simp only [if_true]
      rw [takeF_enc j (by omega) h hn hr (uptoB_kind own m j)]
      show _ = some (setB j (hasB own j) m (uptoB own m j), X)
      rw [hb]
    | false =>
      simp only [Bool.false_eq_true, if_false, List.nil_append]
      show _ = some (setB j (hasB own j) m (uptoB own m j), X)
      rw [hb, setB_no]
set_option maxRecDepth 100000 in
set_option maxHeartbeats 3200000 in
theorem own_bits : ∀ own ∈ [223, 97, 769, 5, 1, 4, 0, 4096, 205, 5120, 6144], ∀ a b c d e f g h i j k l m : Bool, bits .andNot .u16 (orW a (orW b (orW c (orW d (orW e (orW f (orW g (orW h (orW i (orW j (orW k (orW l (orW m 0 1) 2) 4) 8) 16) 32) 64) 128) 256) 512) 1024) 2048) 4096) own = 0 →
    ((hasB own 12 || !a) && (hasB own 11 || !b) && (hasB own 10 || !c) && (hasB own 9 || !d) && (hasB own 8 || !e) && (hasB own 7 || !f) && (hasB own 6 || !g) && (hasB own 5 || !h) && (hasB own 4 || !i) && (hasB own 3 || !j) && (hasB own 2 || !k) && (hasB own 1 || !l) && (hasB own 0 || !m)) = true := by decide +kernel
theorem own_in {k : Int} (h : knW k = true) : foW k ∈ [223, 97, 769, 5, 1, 4, 0, 4096, 205, 5120, 6144] ∧ 0 ≤ k ∧ k < 64 := by
  have hk : k ∈ kindsW := by simpa [knW] using h
  have : ∀ k ∈ kindsW, foW k ∈ [223, 97, 769, 5, 1, 4, 0, 4096, 205, 5120, 6144] ∧ 0 ≤ k ∧ k < 64 := by decide +kernel
  exact this k hk
/-- A kind that has no name has none, and so on. -/
theorem valid_zero {m : MV} (h : validB m = true) :
    (hasB (foW m.kind) 12 = false → m.n = 0) ∧ (hasB (foW m.kind) 11 = false → m.ver = 0) ∧ (hasB (foW m.kind) 10 = false → m.vers = []) ∧ (hasB (foW m.kind) 9 = false → m.reason = []) ∧ (hasB (foW m.kind) 8 = false → m.code = 0) ∧
    (hasB (foW m.kind) 7 = false → m.eg = 0 ∧ m.eo = 0) ∧ (hasB (foW m.kind) 6 = false → m.sg = 0 ∧ m.so = 0) ∧ (hasB (foW m.kind) 5 = false → m.some_ = false) ∧ (hasB (foW m.kind) 4 = false → m.ord = 0) ∧ (hasB (foW m.kind) 3 = false → m.prio = 0) ∧
    (hasB (foW m.kind) 2 = false → m.name = []) ∧ (hasB (foW m.kind) 1 = false → m.alias_ = 0) ∧ (hasB (foW m.kind) 0 = false → m.id = 0) := by
  unfold validB at h
  simp only [Bool.and_eq_true, decide_eq_true_eq] at h
  obtain ⟨⟨⟨hk, hs⟩, _⟩, _⟩ := h
  have hb := own_bits (foW m.kind) (own_in hk).1 _ _ _ _ _ _ _ _ _ _ _ _ _ hs
  simp only [Bool.and_eq_true, Bool.or_eq_true, Bool.not_eq_true', bne_eq_false_iff_eq, decide_eq_false_iff_not, Classical.not_not] at hb
  obtain ⟨⟨⟨⟨⟨⟨⟨⟨⟨⟨⟨⟨h12, h11⟩, h10⟩, h9⟩, h8⟩, h7⟩, h6⟩, h5⟩, h4⟩, h3⟩, h2⟩, h1⟩, h0⟩ := hb
  have nil : ∀ {l : List Int}, ¬ 0 < l.length → l = [] := fun h => List.eq_nil_of_length_eq_zero (by omega)
  refine ⟨fun e => ?_, fun e => ?_, fun e => ?_, fun e => ?_, fun e => ?_, fun e => ?_, fun e => ?_, fun e => ?_, fun e => ?_, fun e => ?_, fun e => ?_, fun e => ?_, fun e => ?_⟩
  · exact h12.resolve_left (by rw [e]; decide)
  · exact h11.resolve_left (by rw [e]; decide)
  · exact nil (h10.resolve_left (by rw [e]; decide))
  · exact nil (h9.resolve_left (by rw [e]; decide))
  · exact h8.resolve_left (by rw [e]; decide)
  · exact h7.resolve_left (by rw [e]; decide)
  · exact h6.resolve_left (by rw [e]; decide)
  · exact h5.resolve_left (by rw [e]; decide)
  · exact h4.resolve_left (by rw [e]; decide)
  · exact h3.resolve_left (by rw [e]; decide)
  · exact nil (h2.resolve_left (by rw [e]; decide))
  · exact h1.resolve_left (by rw [e]; decide)
  · exact h0.resolve_left (by rw [e]; decide)
theorem valid_lens {m : MV} (h : validB m = true) : m.name.length ≤ 32 ∧ m.reason.length ≤ 64 ∧ m.vers.length ≤ 8 ∧ (m.kind = 3 → m.eo = 0) := by
  have hz := valid_zero h
  unfold validB at h
  simp only [Bool.and_eq_true, decide_eq_true_eq] at h
  obtain ⟨⟨⟨hk, hs⟩, _⟩, hf⟩ := h
  have hin : m.kind ∈ kindsW := by simpa [knW] using hk
  have nb : ∀ {n : Nat}, namB n = true → n ≤ 32 := by
    intro n h
    unfold namB at h
    simp at h
    omega
  unfold fitB at hf
  simp only [kindsW, List.mem_cons, List.not_mem_nil, or_false] at hin
  obtain ⟨_, _, z10, z9, _, _, _, _, _, _, z2, _, _⟩ := hz
  rcases hin with e | e | e | e | e | e | e | e | e | e | e | e | e | e | e | e | e <;> rw [e] at hf z10 z9 z2 <;> simp only [e] at hf ⊢
  all_goals (
    refine ⟨?_, ?_, ?_, ?_⟩
    · first
        | (rw [z2 (by decide)]; decide)
        | (simp only [Bool.and_eq_true] at hf; exact nb (by first | exact hf | exact hf.1 | exact hf.1.1))
        | (simp at hf; exact nb (by first | exact hf | exact hf.1 | exact hf.1.1))
    · first
        | (rw [z9 (by decide)]; decide)
        | (simp at hf; exact hf)
    · first
        | (rw [z10 (by decide)]; decide)
        | (simp at hf; omega)
    · first
        | (intro h; exact absurd h (by decide))
        | (intro _; simp [clB] at hf; exact hf.2.1))
set_option maxHeartbeats 1600000 in
theorem uptoB_lit (own : Int) (m : MV) : uptoB own m 13 = ⟨m.kind, (if hasB own 0 then m.id else 0), (if hasB own 1 then m.alias_ else 0), (if hasB own 2 then m.name else []), (if hasB own 3 then m.prio else 0), (if hasB own 4 then m.ord else 0), (if hasB own 6 then m.sg else 0), (if hasB own 6 then m.so else 0), (if hasB own 7 then m.eg else 0), (if hasB own 7 && (m.kind != 3) then m.eo else 0), (if hasB own 5 then m.some_ else false), (if hasB own 8 then m.code else 0), (if hasB own 9 then m.reason else []), (if hasB own 12 then m.n else 0), (if hasB own 11 then m.ver else 0), (if hasB own 10 then m.vers else [])⟩ := by
  have e0 : uptoB own m 0 = ⟨m.kind, 0, 0, [], 0, 0, 0, 0, 0, 0, false, 0, [], 0, 0, []⟩ := rfl
  have e1 : uptoB own m 1 = ⟨m.kind, (if hasB own 0 then m.id else 0), 0, [], 0, 0, 0, 0, 0, 0, false, 0, [], 0, 0, []⟩ := by
    show setB 0 (hasB own 0) m (uptoB own m 0) = _
    rw [e0]
    rfl
  have e2 : uptoB own m 2 = ⟨m.kind, (if hasB own 0 then m.id else 0), (if hasB own 1 then m.alias_ else 0), [], 0, 0, 0, 0, 0, 0, false, 0, [], 0, 0, []⟩ := by
    show setB 1 (hasB own 1) m (uptoB own m 1) = _
    rw [e1]
    rfl
  have e3 : uptoB own m 3 = ⟨m.kind, (if hasB own 0 then m.id else 0), (if hasB own 1 then m.alias_ else 0), (if hasB own 2 then m.name else []), 0, 0, 0, 0, 0, 0, false, 0, [], 0, 0, []⟩ := by
    show setB 2 (hasB own 2) m (uptoB own m 2) = _
    rw [e2]
    rfl
  have e4 : uptoB own m 4 = ⟨m.kind, (if hasB own 0 then m.id else 0), (if hasB own 1 then m.alias_ else 0), (if hasB own 2 then m.name else []), (if hasB own 3 then m.prio else 0), 0, 0, 0, 0, 0, false, 0, [], 0, 0, []⟩ := by
    show setB 3 (hasB own 3) m (uptoB own m 3) = _
    rw [e3]
    rfl
  have e5 : uptoB own m 5 = ⟨m.kind, (if hasB own 0 then m.id else 0), (if hasB own 1 then m.alias_ else 0), (if hasB own 2 then m.name else []), (if hasB own 3 then m.prio else 0), (if hasB own 4 then m.ord else 0), 0, 0, 0, 0, false, 0, [], 0, 0, []⟩ := by
    show setB 4 (hasB own 4) m (uptoB own m 4) = _
    rw [e4]
    rfl
  have e6 : uptoB own m 6 = ⟨m.kind, (if hasB own 0 then m.id else 0), (if hasB own 1 then m.alias_ else 0), (if hasB own 2 then m.name else []), (if hasB own 3 then m.prio else 0), (if hasB own 4 then m.ord else 0), 0, 0, 0, 0, (if hasB own 5 then m.some_ else false), 0, [], 0, 0, []⟩ := by
    show setB 5 (hasB own 5) m (uptoB own m 5) = _
    rw [e5]
    rfl
  have e7 : uptoB own m 7 = ⟨m.kind, (if hasB own 0 then m.id else 0), (if hasB own 1 then m.alias_ else 0), (if hasB own 2 then m.name else []), (if hasB own 3 then m.prio else 0), (if hasB own 4 then m.ord else 0), (if hasB own 6 then m.sg else 0), (if hasB own 6 then m.so else 0), 0, 0, (if hasB own 5 then m.some_ else false), 0, [], 0, 0, []⟩ := by
    show setB 6 (hasB own 6) m (uptoB own m 6) = _
    rw [e6]
    rfl
  have e8 : uptoB own m 8 = ⟨m.kind, (if hasB own 0 then m.id else 0), (if hasB own 1 then m.alias_ else 0), (if hasB own 2 then m.name else []), (if hasB own 3 then m.prio else 0), (if hasB own 4 then m.ord else 0), (if hasB own 6 then m.sg else 0), (if hasB own 6 then m.so else 0), (if hasB own 7 then m.eg else 0), (if hasB own 7 && (m.kind != 3) then m.eo else 0), (if hasB own 5 then m.some_ else false), 0, [], 0, 0, []⟩ := by
    show setB 7 (hasB own 7) m (uptoB own m 7) = _
    rw [e7]
    rfl
  have e9 : uptoB own m 9 = ⟨m.kind, (if hasB own 0 then m.id else 0), (if hasB own 1 then m.alias_ else 0), (if hasB own 2 then m.name else []), (if hasB own 3 then m.prio else 0), (if hasB own 4 then m.ord else 0), (if hasB own 6 then m.sg else 0), (if hasB own 6 then m.so else 0), (if hasB own 7 then m.eg else 0), (if hasB own 7 && (m.kind != 3) then m.eo else 0), (if hasB own 5 then m.some_ else false), (if hasB own 8 then m.code else 0), [], 0, 0, []⟩ := by
    show setB 8 (hasB own 8) m (uptoB own m 8) = _
    rw [e8]
    rfl
  have e10 : uptoB own m 10 = ⟨m.kind, (if hasB own 0 then m.id else 0), (if hasB own 1 then m.alias_ else 0), (if hasB own 2 then m.name else []), (if hasB own 3 then m.prio else 0), (if hasB own 4 then m.ord else 0), (if hasB own 6 then m.sg else 0), (if hasB own 6 then m.so else 0), (if hasB own 7 then m.eg else 0), (if hasB own 7 && (m.kind != 3) then m.eo else 0), (if hasB own 5 then m.some_ else false), (if hasB own 8 then m.code else 0), (if hasB own 9 then m.reason else []), 0, 0, []⟩ := by
    show setB 9 (hasB own 9) m (uptoB own m 9) = _
    rw [e9]
    rfl
  have e11 : uptoB own m 11 = ⟨m.kind, (if hasB own 0 then m.id else 0), (if hasB own 1 then m.alias_ else 0), (if hasB own 2 then m.name else []), (if hasB own 3 then m.prio else 0), (if hasB own 4 then m.ord else 0), (if hasB own 6 then m.sg else 0), (if hasB own 6 then m.so else 0), (if hasB own 7 then m.eg else 0), (if hasB own 7 && (m.kind != 3) then m.eo else 0), (if hasB own 5 then m.some_ else false), (if hasB own 8 then m.code else 0), (if hasB own 9 then m.reason else []), 0, 0, (if hasB own 10 then m.vers else [])⟩ := by
    show setB 10 (hasB own 10) m (uptoB own m 10) = _
    rw [e10]
    rfl
  have e12 : uptoB own m 12 = ⟨m.kind, (if hasB own 0 then m.id else 0), (if hasB own 1 then m.alias_ else 0), (if hasB own 2 then m.name else []), (if hasB own 3 then m.prio else 0), (if hasB own 4 then m.ord else 0), (if hasB own 6 then m.sg else 0), (if hasB own 6 then m.so else 0), (if hasB own 7 then m.eg else 0), (if hasB own 7 && (m.kind != 3) then m.eo else 0), (if hasB own 5 then m.some_ else false), (if hasB own 8 then m.code else 0), (if hasB own 9 then m.reason else []), 0, (if hasB own 11 then m.ver else 0), (if hasB own 10 then m.vers else [])⟩ := by
    show setB 11 (hasB own 11) m (uptoB own m 11) = _
    rw [e11]
    rfl
  have e13 : uptoB own m 13 = ⟨m.kind, (if hasB own 0 then m.id else 0), (if hasB own 1 then m.alias_ else 0), (if hasB own 2 then m.name else []), (if hasB own 3 then m.prio else 0), (if hasB own 4 then m.ord else 0), (if hasB own 6 then m.sg else 0), (if hasB own 6 then m.so else 0), (if hasB own 7 then m.eg else 0), (if hasB own 7 && (m.kind != 3) then m.eo else 0), (if hasB own 5 then m.some_ else false), (if hasB own 8 then m.code else 0), (if hasB own 9 then m.reason else []), (if hasB own 12 then m.n else 0), (if hasB own 11 then m.ver else 0), (if hasB own 10 then m.vers else [])⟩ := by
    show setB 12 (hasB own 12) m (uptoB own m 12) = _
    rw [e12]
    rfl
  exact e13
theorem uptoB_full {m : MV} (h : validB m = true) : uptoB (foW m.kind) m 13 = m := by
  have hl := valid_lens h
  obtain ⟨z12, z11, z10, z9, z8, z7, z6, z5, z4, z3, z2, z1, z0⟩ := valid_zero h
  have e := uptoB_lit (foW m.kind) m
  have i_id : (if hasB (foW m.kind) 0 then m.id else 0) = m.id := by
    cases hb : hasB (foW m.kind) 0 with
    | true => rfl
    | false => rw [z0 hb]; rfl
  have i_alias_ : (if hasB (foW m.kind) 1 then m.alias_ else 0) = m.alias_ := by
    cases hb : hasB (foW m.kind) 1 with
    | true => rfl
    | false => rw [z1 hb]; rfl
  have i_name : (if hasB (foW m.kind) 2 then m.name else []) = m.name := by
    cases hb : hasB (foW m.kind) 2 with
    | true => rfl
    | false => rw [z2 hb]; rfl
  have i_prio : (if hasB (foW m.kind) 3 then m.prio else 0) = m.prio := by
    cases hb : hasB (foW m.kind) 3 with
    | true => rfl
    | false => rw [z3 hb]; rfl
  have i_ord : (if hasB (foW m.kind) 4 then m.ord else 0) = m.ord := by
    cases hb : hasB (foW m.kind) 4 with
    | true => rfl
    | false => rw [z4 hb]; rfl
  have i_sg : (if hasB (foW m.kind) 6 then m.sg else 0) = m.sg := by
    cases hb : hasB (foW m.kind) 6 with
    | true => rfl
    | false => rw [(z6 hb).1]; rfl
  have i_so : (if hasB (foW m.kind) 6 then m.so else 0) = m.so := by
    cases hb : hasB (foW m.kind) 6 with
    | true => rfl
    | false => rw [(z6 hb).2]; rfl
  have i_eg : (if hasB (foW m.kind) 7 then m.eg else 0) = m.eg := by
    cases hb : hasB (foW m.kind) 7 with
    | true => rfl
    | false => rw [(z7 hb).1]; rfl
  have i_eo : (if hasB (foW m.kind) 7 && (m.kind != 3) then m.eo else 0) = m.eo := by
    cases hb : hasB (foW m.kind) 7 with
    | true =>
      by_cases h3 : m.kind = 3
      · simp [h3, hl.2.2.2 h3]
      · simp [h3]
    | false => simp [(z7 hb).2]
  have i_some_ : (if hasB (foW m.kind) 5 then m.some_ else false) = m.some_ := by
    cases hb : hasB (foW m.kind) 5 with
    | true => rfl
    | false => rw [z5 hb]; rfl
  have i_code : (if hasB (foW m.kind) 8 then m.code else 0) = m.code := by
    cases hb : hasB (foW m.kind) 8 with
    | true => rfl
    | false => rw [z8 hb]; rfl
  have i_reason : (if hasB (foW m.kind) 9 then m.reason else []) = m.reason := by
    cases hb : hasB (foW m.kind) 9 with
    | true => rfl
    | false => rw [z9 hb]; rfl
  have i_n : (if hasB (foW m.kind) 12 then m.n else 0) = m.n := by
    cases hb : hasB (foW m.kind) 12 with
    | true => rfl
    | false => rw [z12 hb]; rfl
  have i_ver : (if hasB (foW m.kind) 11 then m.ver else 0) = m.ver := by
    cases hb : hasB (foW m.kind) 11 with
    | true => rfl
    | false => rw [z11 hb]; rfl
  have i_vers : (if hasB (foW m.kind) 10 then m.vers else []) = m.vers := by
    cases hb : hasB (foW m.kind) 10 with
    | true => rfl
    | false => rw [z10 hb]; rfl
  rw [e, i_id, i_alias_, i_name, i_prio, i_ord, i_sg, i_so, i_eg, i_eo, i_some_, i_code, i_reason, i_n, i_ver, i_vers]
theorem valid_kind {m : MV} (h : validB m = true) : knW m.kind = true := by
  unfold validB at h
  simp only [Bool.and_eq_true] at h
  exact h.1.1.1
theorem venc_kind {k : Int} (h : knW k = true) : venc k = [k] := by
  have hk : k ∈ kindsW := by simpa [knW] using h
  have : ∀ k ∈ kindsW, venc k = [k] := by decide +kernel
  exact this k hk
theorem parse_enc {m : MV} (h : validB m = true) (hg : GoodV m) : parseW m.kind (encR (foW m.kind) m 13) = some m := by
  have hl := valid_lens h
  have hr := run_enc (foW m.kind) hg hl.1 hl.2.1 13 (Nat.le_refl _) []
  rw [List.append_nil, uptoB_full h] at hr
  unfold parseW
  rw [hr]
  simp [h]
theorem pnum_kind {k : Int} (h : knW k = true) (X : List Int) : pnum (k :: X) = some (k, X) := by
  have := pnum_venc (n := k) ⟨(own_in h).2.1, by have := (own_in h).2.2; omega⟩ X
  rwa [venc_kind h] at this
theorem read_enc {m : MV} (h : validB m = true) (hg : GoodV m) (rest : List Int) : readW (encM m ++ rest) = .ok (m, rest) := by
  have hk := valid_kind h
  have hl := encR_len (foW m.kind) hg 13 (Nat.le_refl _)
  have hp := parse_enc h hg
  unfold encM
  rw [venc_kind hk]
  obtain ⟨B, hB⟩ : ∃ B, B = encR (foW m.kind) m 13 := ⟨_, rfl⟩
  rw [← hB] at hp ⊢
  unfold readW
  have e : [m.kind] ++ ([(B.length : Int) / 256, (B.length : Int) % 256] ++ B) ++ rest = m.kind :: ((B.length : Int) / 256) :: ((B.length : Int) % 256) :: (B ++ rest) := by simp
  rw [e, pnum_kind hk]
  have hN : (256 * ((B.length : Int) / 256) + (B.length : Int) % 256).toNat = B.length := by omega
  simp only [hk, if_true, hN]
  rw [if_neg (by rw [List.length_append]; omega), List.take_left, List.drop_left, hp]
theorem read_cut {m : MV} (h : validB m = true) (i : Nat) (hi : i < (encM m).length) : readW ((encM m).take i) = .error 2 := by
  have hk := valid_kind h
  unfold encM at hi ⊢
  rw [venc_kind hk] at hi ⊢
  obtain ⟨B, hB⟩ : ∃ B, B = encR (foW m.kind) m 13 := ⟨_, rfl⟩
  rw [← hB] at hi ⊢
  have e : [m.kind] ++ ([(B.length : Int) / 256, (B.length : Int) % 256] ++ B) = m.kind :: ((B.length : Int) / 256) :: ((B.length : Int) % 256) :: B := by simp
  rw [e] at hi ⊢
  simp only [List.length_cons] at hi
  match i, hi with
  | 0, _ => rfl
  | 1, _ =>
    show readW [m.kind] = _
    unfold readW
    rw [pnum_kind hk]
    simp [hk]
  | 2, _ =>
    show readW [m.kind, _] = _
    unfold readW
    rw [pnum_kind hk]
    simp [hk]
  | j + 3, hi =>
    show readW (m.kind :: ((B.length : Int) / 256) :: ((B.length : Int) % 256) :: B.take j) = _
    unfold readW
    rw [pnum_kind hk]
    have hN : (256 * ((B.length : Int) / 256) + (B.length : Int) % 256).toNat = B.length := by omega
    simp only [hk, if_true, hN]
    rw [if_pos (by rw [List.length_take]; omega)]
end Go.Proofs.YtfedofoadfipcaaDoor
