/-
  word.parse: the walk.
-/
import Derived.Test.YtfedofoadfipcaaDoorWordH
import Derived.Deep.DeepCutAuto
import Derived.Deep.CutBlock
namespace Go.Proofs.YtfedofoadfipcaaDoor
open Go.RowKit
set_option linter.unusedVariables false
set_option linter.unusedSimpArgs false
theorem info_msgZ : (Tryd.prog.info? 31).map (·.size) = some 16 := by kernel_rfl
/-- What holds in the loop over the fields. -/
structure PI (w wr : World) (gp g gm gr B : Nat) (own kind : Int) (p : List Int) (k : Nat) : Prop where
  ex : ∃ m q, runF own k (mv0 kind) p = some (m, q) ∧ Prs wr gp g B q 4 ∧ MsgAt wr gm (gm + 1) m
  bel : Below w.heap.size w wr
  res : Blk wr gr 31 (mvC (mv0 0) none 0 none 0 none 0)
  n1 : gm ≠ g
  n2 : gm ≠ gp
  n3 : gr ≠ g
  n4 : gr ≠ gm
  hB : B ≤ gm
  hb : gm < wr.heap.size
  hg : w.heap.size ≤ g
  hgm : w.heap.size ≤ gm
theorem fbit_all : ∀ k, k < 13 → 1 ≤ fbit k ∧ fbit k ≤ 4096 ∧ IntKind.u16.wrap (fbit k * 2) = fbit (k + 1) ∧ fbit (k + 1) = fbit k * 2 := by decide
theorem runF_none {own : Int} {m : MV} {p : List Int} : ∀ {k j : Nat}, runF own k m p = none → k ≤ j → runF own j m p = none
  | k, j, h, hj => by
    obtain ⟨d, rfl⟩ : ∃ d, j = k + d := ⟨j - k, by omega⟩
    clear hj
    induction d with
    | zero => exact h
    | succ d ih =>
      show (match runF own (k + d) m p with | none => none | some (m', p') => if hasB own (k + d) then takeF (k + d) m' p' else some (m', p')) = none
      rw [ih]
structure ParseTo (w w' : World) (kind : Int) (p : List Int) (r : Ending) : Prop where
  ok : ∀ m, parseW kind p = some m → ∃ nA nc rA rc vA vc, r = .returned (.agg (mvC m nA nc rA rc vA vc)) ∧ Own w' w.heap.size nA nc m.name ∧ Own w' w.heap.size rA rc m.reason ∧ OwnV w' w.heap.size 22 1 vA vc m.vers.length (IV .u64 m.vers)
  no : parseW kind p = none → r = dies 4
  bel : Below w.heap.size w w'
theorem parse_none {kind : Int} {p : List Int} {k : Nat} (h : runF (foW kind) k (mv0 kind) p = none) (hk : k ≤ 13) : parseW kind p = none := by
  unfold parseW
  rw [runF_none h hk]
theorem plist_len {p l q : List Int} (h : plist p = some (l, q)) : l.length ≤ 8 := by
  unfold plist at h
  split at h
  · cases h
  · split at h
    · rename_i hc
      have := pnums_cut h
      omega
    · cases h
theorem takeF_vers {k : Nat} {m m' : MV} {p q : List Int} (h : takeF k m p = some (m', q)) (hv : m.vers.length ≤ 8) : m'.vers.length ≤ 8 := by
  unfold takeF at h
  split at h
  case h_11 =>
    obtain ⟨⟨v, q'⟩, h3, h4⟩ := Option.map_eq_some_iff.1 h
    injection h4 with h4 _
    rw [← h4]
    exact plist_len h3
  all_goals (first
    | (obtain ⟨v, _, h4⟩ := Option.map_eq_some_iff.1 h; injection h4 with h4 _; rw [← h4]; exact hv)
    | (split at h
       · cases h
       · injection h with h; injection h with h _; rw [← h]; exact hv)
    | (split at h <;> (obtain ⟨v, _, h4⟩ := Option.map_eq_some_iff.1 h; injection h4 with h4 _; rw [← h4]; exact hv))
    | (injection h with h; injection h with h _; rw [← h]; exact hv))
theorem runF_vers {own kind : Int} {p : List Int} : ∀ {k : Nat} {m : MV} {q : List Int}, runF own k (mv0 kind) p = some (m, q) → m.vers.length ≤ 8
  | 0, m, q, h => by injection h with h; injection h with h _; rw [← h]; exact Nat.zero_le _
  | k + 1, m, q, h => by
    unfold runF at h
    split at h
    · cases h
    · rename_i m1 q1 h1
      have := runF_vers h1
      split at h
      · exact takeF_vers h this
      · injection h with h; injection h with h _; rw [← h]; exact this
theorem OwnV.capW {w : World} {base c n : Nat} {A : Option Addr} {e : TypeId} {size : Nat} {xs : List Value} (h : OwnV w base e size A c n xs) : n ≤ c ∧ c ≤ 9223372036854775807 := by
  rcases h.2 with ⟨a1, a2⟩ | ⟨g, cap, cur, hv, _, _, h3, h4, _⟩
  · injection a1 with e1 e2 e3
    omega
  · injection hv with e1 e2 e3
    unfold maxLen at h4
    omega
theorem setRowW {w : World} {g : Nat} {t : TypeId} {cs : Array Value} (h : Blk w g t cs) (cs' : Array Value) : Blk (w.setRow g cs') g t cs' := by
  unfold Blk at h ⊢
  simp [World.setRow, Array.getElem?_modify, h]
theorem frm_setRow (w : World) (g : Nat) (cs : Array Value) : Frm w (w.setRow g cs) (fun b => b = g) :=
  ⟨rfl, rfl, rfl, by simp, fun b hb hn => setRow_other w g b cs hn⟩
theorem mvC_one (m : MV) (nA : Option Addr) (nc : Nat) (rA : Option Addr) (rc : Nat) (vA : Option Addr) (vc : Nat) : (mvC m nA nc rA rc vA vc).all (·.oneCell') = true := by
  unfold mvC
  simp [Value.oneCell']
theorem only_row_below {w wr w' : World} {g : Nat} (hg : wr.grownBy w' (some g)) (h : w.heap.size ≤ g) (h2 : w.heap.size ≤ wr.heap.size) : Below w.heap.size wr w' :=
  ⟨hg.os, hg.tape, hg.output, hg.size, fun i hi => hg.block i (by omega) (fun e => by injection e with e; omega)⟩
theorem PI.step {w wr w4 : World} {gp g gm gr B : Nat} {own kind : Int} {p q : List Int} {m : MV} {k : Nat} (h : PI w wr gp g gm gr B own kind p k) (hr : runF own (k + 1) (mv0 kind) p = some (m, q)) (hp : Prs w4 gp g B q 4) (hm : MsgAt w4 gm (gm + 1) m) (hf : Frm wr w4 (fun b => b = g ∨ b = gm)) :
    PI w w4 gp g gm gr B own kind p (k + 1) :=
  ⟨⟨m, q, hr, hp, hm⟩, h.bel.trans (hf.below h.bel.size (fun b hb hs => by have := h.hg; have := h.hgm; omega)), hf.keep h.res (fun hs => by have := h.n3; have := h.n4; omega), h.n1, h.n2, h.n3, h.n4, h.hB, Nat.lt_of_lt_of_le h.hb hf.size, h.hg, h.hgm⟩
set_option maxHeartbeats 3200000 in
theorem parse_any (A : Option Addr) (c : Nat) (p : List Int) (kind : Int) (w : World) (h : Sl w A c p) (hb : Bytes p) (hl : p.length ≤ 70368744177664) :
    Calls Tryd.prog 37 #[.int .u64 kind, .slice A p.length c] w fun r w' => ParseTo w w' kind p r := by
  have b1 : Below w.heap.size w (w.alloc (.cells (mvC (mv0 0) none 0 none 0 none 0) 31)) := (Below.refl _ _).alloc (Nat.le_refl _) _
  obtain ⟨W, hW⟩ : ∃ W, W = w.alloc (.cells (mvC (mv0 0) none 0 none 0 none 0) 31) := ⟨_, rfl⟩
  rw [← hW] at b1
  have hzW : w.heap.size < W.heap.size := by rw [hW]; simp
  have KR := Lib.hid (show Blk W w.heap.size 31 (mvC (mv0 0) none 0 none 0 none 0) by rw [hW]; exact Blk.new _ _ _)
  have C := Lib.hid (PNew_any A c p 4 W (h.below b1) hb hl)
  have CF := Lib.hid (fun W => fieldsOfW_any kind W)
  obtain ⟨own, hown⟩ : ∃ own, own = foW kind := ⟨_, rfl⟩
  obtain ⟨kb, hkb⟩ : ∃ kb, kb = knW kind := ⟨_, rfl⟩
  rw [← hown, ← hkb] at CF
  have B1 := Lib.hid b1
  unfold mvC mv0 at hW
  simp only [List.length_nil] at hW
  have HW := Lib.hid hW
  have HOWN := Lib.hid hown
  clear h hb hl b1 hW hown hkb
  go_enter Tryd.func37, Tryd.ntmps37
  go_wp2_with fail
  rw [← HW.out]
  refine C.out.mono ?_
  rintro e w1 ⟨gp, g, rfl, hp1, hg, hb1⟩
  have hz1 := hb1.size
  have P1 := Lib.hid hp1
  have BB1 := Lib.hid (B1.out.trans (hb1.mono (Nat.le_of_lt hzW)))
  have KR1 := Lib.hid (KR.out.below hb1 hzW)
  clear hp1 hb1 C KR B1
  obtain ⟨W2, hW2⟩ : ∃ W2, W2 = w1.alloc (.cells (mvC (mv0 kind) none 0 none 0 none 0) 31) := ⟨_, rfl⟩
  have b2 : Below w1.heap.size w1 W2 := by rw [hW2]; exact (Below.refl _ _).alloc (Nat.le_refl _) _
  have K2 : Blk W2 w1.heap.size 31 (mvC (mv0 kind) none 0 none 0 none 0) := by rw [hW2]; exact Blk.new _ _ _
  have hz2 : w1.heap.size < W2.heap.size := K2.lt
  have hgl := P1.out.rd.lt
  have hgpl := P1.out.pb.lt
  have S0 := Lib.hid (show PI w W2 gp g w1.heap.size w.heap.size W.heap.size own kind p 0 from
    ⟨⟨mv0 kind, p, rfl, P1.out.below b2, ⟨⟨none, 0, none, 0, none, 0, K2, OwnV.nil _ _ _ _, OwnV.nil _ _ _ _, OwnV.nil _ _ _ _⟩, by omega⟩⟩, BB1.out.trans (b2.mono BB1.out.size), KR1.out.below b2 (by omega), by omega, by omega, by omega, by omega, by omega, hz2, by omega, by omega⟩)
  unfold mvC mv0 at hW2
  simp only [List.length_nil] at hW2
  have HW2 := Lib.hid hW2
  clear hW2 b2 K2
  go_wp2_with fail
  rw [← HW2.out]
  refine (CF.out _).mono ?_
  rintro e w3 ⟨rfl, rfl⟩
  go_wp2_with fail
  go_loopw [9] (fun fv wr => ∃ (k : Nat) (FB : Int), fv = .int .u16 FB ∧ k ≤ 13 ∧ Hid (FB = fbit k) ∧ Hid (PI w wr gp g w1.heap.size w.heap.size W.heap.size own kind p k)) (fun fv _ => 8192 - (intOf fv).toNat)
  case atStart => exact ⟨0, 1, rfl, by omega, Lib.hid rfl, S0⟩
  case round =>
    obtain ⟨k, FB, rfl, hk, HFB, HI⟩ := hrel
    rename World => wr
    by_cases hlt : k < 13
    · have hfb := fbit_all k hlt
      rw [← HFB.out] at hfb
      obtain ⟨x1, x2, x3, x4⟩ := hfb
      have hd : decide (FB ≤ 4096) = true := by simpa using x2
      obtain ⟨F2, hF2⟩ : ∃ F2, F2 = fbit (k + 1) := ⟨_, rfl⟩
      rw [← hF2] at x3 x4
      have HF2 := Lib.hid hF2
      obtain ⟨hs, hhs⟩ : ∃ b, b = hasB own k := ⟨_, rfl⟩
      obtain ⟨AN, hAN⟩ : ∃ AN, AN = bits .and .u16 own FB := ⟨_, rfl⟩
      have q1 : (AN != 0) = hs := by rw [hAN, hhs, HFB.out]; rfl
      have hAN2 := hAN.symm
      have HHS := Lib.hid hhs
      clear hAN hhs hF2
      obtain ⟨m1, q2, hrun, hpr, hma⟩ := HI.out.ex
      cases hs with
      | true =>
        have hstep : runF own (k + 1) (mv0 kind) p = takeF k m1 q2 := by
          show (match runF own k (mv0 kind) p with | none => none | some (m', p') => if hasB own k then takeF k m' p' else some (m', p')) = _
          rw [hrun]
          simp only [← HHS.out, if_true]
        cases ht : takeF k m1 q2 with
        | none =>
          have C := takeField_no k hlt hpr hma HI.out.n1 HI.out.n2 HI.out.hB HI.out.hb ht
          rw [← HFB.out] at C
          have C := Lib.hid C
          have HN := Lib.hid (show parseW kind p = none from parse_none (k := k + 1) (by rw [← HOWN.out, hstep, ht]) (by omega))
          clear hpr hma hrun hstep ht x4
          go_wp2_with fail
          refine C.out.mono ?_
          rintro e w4 ⟨rfl, g4⟩
          exact ⟨rfl, (fun m hm => by rw [HN.out] at hm; cases hm), fun _ => rfl, HI.out.bel.trans (only_row_below g4 HI.out.hg HI.out.bel.size)⟩
        | some r2 =>
          obtain ⟨m2, q3⟩ := r2
          have C := takeField_ok k hlt hpr hma HI.out.n1 HI.out.n2 HI.out.hB HI.out.hb ht
          rw [← HFB.out] at C
          have C := Lib.hid C
          have HR := Lib.hid (show runF own (k + 1) (mv0 kind) p = some (m2, q3) by rw [hstep, ht])
          have hm0 : 8192 - F2.toNat < 8192 - FB.toNat := by omega
          clear hpr hma hrun hstep ht x4
          go_wp2_with fail
          refine C.out.mono ?_
          rintro e w4 ⟨rfl, hp4, hm4, hf4⟩
          have S4 := Lib.hid (HI.out.step HR.out hp4 hm4 hf4)
          clear hp4 hm4 hf4
          go_wp2_with fail
          go_roundw
          case rel => exact ⟨k + 1, F2, rfl, by omega, HF2, S4⟩
          case measure => simpa [intOf] using hm0
      | false =>
        have hstep : runF own (k + 1) (mv0 kind) p = some (m1, q2) := by
          show (match runF own k (mv0 kind) p with | none => none | some (m', p') => if hasB own k then takeF k m' p' else some (m', p')) = _
          rw [hrun]
          simp only [← HHS.out, Bool.false_eq_true, if_false]
        have S4 := Lib.hid (show PI w wr gp g w1.heap.size w.heap.size W.heap.size own kind p (k + 1) from ⟨⟨m1, q2, hstep, hpr, hma⟩, HI.out.bel, HI.out.res, HI.out.n1, HI.out.n2, HI.out.n3, HI.out.n4, HI.out.hB, HI.out.hb, HI.out.hg, HI.out.hgm⟩)
        have hm0 : 8192 - F2.toNat < 8192 - FB.toNat := by omega
        clear hpr hma hrun hstep x4
        go_wp2_with fail
        go_roundw
        case rel => exact ⟨k + 1, F2, rfl, by omega, HF2, S4⟩
        case measure => simpa [intOf] using hm0
    · obtain rfl : k = 13 := by omega
      obtain rfl : FB = 8192 := by rw [HFB.out]; rfl
      obtain ⟨m1, q2, hrun, hpr, hma⟩ := HI.out.ex
      have HPW := Lib.hid (show parseW kind p = if q2.isEmpty && validB m1 then some m1 else none by
        unfold parseW
        rw [← HOWN.out, hrun])
      have CL := Lib.hid (PLeft_any hpr)
      have HPR := Lib.hid hpr
      have HMA := Lib.hid hma
      have hrun0 := hrun
      clear hrun hpr hma
      go_wp2_with fail
      refine CL.out.mono ?_
      rintro e w4 ⟨A', c', rfl, hsl, rfl⟩
      clear hsl CL
      cases q2 with
      | cons x r =>
        clear hrun0
        have hnz : ((x :: r).length : Int) ≠ 0 := by simp; omega
        obtain ⟨nl, hnl⟩ : ∃ nl, nl = (x :: r).length := ⟨_, rfl⟩
        have hz : ((nl : Int) == 0) = false := by rw [hnl]; simpa using hnz
        have hz2 : (nl == 0) = false := by rw [hnl]; rfl
        have hz3 : ¬ nl = 0 := by rw [hnl]; simp
        rw [← hnl]
        clear hnl hnz
        have M := Lib.hid (PMust_no HPR.out)
        go_wp2_with fail
        refine M.out.mono ?_
        rintro e w5 ⟨rfl, g5⟩
        have hn : parseW kind p = none := by rw [HPW.out]; rfl
        exact ⟨rfl, (fun m hm => by rw [hn] at hm; cases hm), fun _ => rfl, HI.out.bel.trans (only_row_below g5 HI.out.hg HI.out.bel.size)⟩
      | nil =>
        have hvl := runF_vers hrun0
        obtain ⟨nA, nc, rA, rc, vA, vc, kb, o1, o2, o3⟩ := HMA.out.ex
        have CV := valid_any m1 nA nc rA rc vA vc wr (Nat.le_trans (OwnV.capW o1).1 (OwnV.capW o1).2) (Nat.le_trans (OwnV.capW o2).1 (OwnV.capW o2).2) (by omega) (OwnV.reads o3)
        have KB := Lib.hid kb
        have OO := Lib.hid (And.intro o1 (And.intro o2 o3))
        have zz := kb.lt
        obtain ⟨vb, hvb⟩ : ∃ vb, vb = validB m1 := ⟨_, rfl⟩
        rw [← hvb] at CV
        rw [show (([] : List Int).isEmpty && validB m1) = vb by rw [hvb]; rfl] at HPW
        unfold mvC at CV kb
        have CV := Lib.hid CV
        have k0 := kb.cell 0
        have k1 := kb.cell 1
        have k2 := kb.cell 2
        have k3 := kb.cell 3
        have k4 := kb.cell 4
        have k5 := kb.cell 5
        have k6 := kb.cell 6
        have k7 := kb.cell 7
        have k8 := kb.cell 8
        have k9 := kb.cell 9
        have k10 := kb.cell 10
        have k11 := kb.cell 11
        have k12 := kb.cell 12
        have k13 := kb.cell 13
        have k14 := kb.cell 14
        have k15 := kb.cell 15
        simp at k0 k1 k2 k3 k4 k5 k6 k7 k8 k9 k10 k11 k12 k13 k14 k15
        clear kb o1 o2 o3 hvb hrun0
        go_wp2_with fail
        clear k0 k1 k2 k3 k4 k5 k6 k7 k8 k9 k10 k11 k12 k13 k14 k15
        refine CV.out.mono ?_
        rintro e w5 ⟨rfl, b5⟩
        have hz5 := b5.size
        have B5 := Lib.hid b5
        have P5 := HPR.out.below b5
        clear b5 CV
        cases vb with
        | false =>
          have M := Lib.hid (PMust_no P5)
          clear P5
          go_wp2_with fail
          refine M.out.mono ?_
          rintro e w6 ⟨rfl, g6⟩
          have hn : parseW kind p = none := by rw [HPW.out]; rfl
          exact ⟨rfl, (fun m hm => by rw [hn] at hm; cases hm), fun _ => rfl, (HI.out.bel.trans (B5.out.mono HI.out.bel.size)).trans (only_row_below g6 HI.out.hg (Nat.le_trans HI.out.bel.size hz5))⟩
        | true =>
          have M := Lib.hid (PMust_ok P5)
          have hrd := P5.rd
          obtain ⟨sA, sc, sk, _⟩ := hrd.blk
          have SK := Lib.hid sk
          clear P5 hrd sk
          go_wp2_with fail
          refine M.out.mono ?_
          rintro e w6 ⟨rfl, hp6, g6⟩
          have m6 := (HMA.out.below B5.out).reader SK.out g6 HI.out.n1
          have r6 := (HI.out.res.below B5.out HI.out.res.lt).grown g6 (fun e => by injection e with e; exact HI.out.n3 e)
          have BL6 := Lib.hid ((HI.out.bel.trans (B5.out.mono HI.out.bel.size)).trans (only_row_below g6 HI.out.hg (Nat.le_trans HI.out.bel.size hz5)))
          obtain ⟨nA6, nc6, rA6, rc6, vA6, vc6, kb6, p1, p2, p3⟩ := m6.ex
          have KB6 := Lib.hid kb6
          have PP6 := Lib.hid (And.intro p1 (And.intro p2 p3))
          have R6 := Lib.hid r6
          obtain ⟨MC, hMC⟩ : ∃ MC, MC = mvC m1 nA6 nc6 rA6 rc6 vA6 vc6 := ⟨_, rfl⟩
          have hMs : MC.size = 16 := by rw [hMC]; rfl
          have hM1 : MC.all (·.oneCell') = true := by rw [hMC]; exact mvC_one _ _ _ _ _ _ _
          rw [← hMC] at KB6
          have HMC := Lib.hid hMC
          have HMS := Lib.hid hMs
          have HM1 := Lib.hid hM1
          have hgw : w.heap.size < w1.heap.size := by have := HI.out.n4; have := HI.out.hgm; omega
          clear kb6 p1 p2 p3 r6 m6 hp6 g6 M hMC hMs hM1
          go_wp2_with (first
            | refine wpList_load_row rfl 31 (.tmp 6) rfl w1.heap.size rfl 31 MC (0, 0) _ KB6.out Tryd.underlying31 rfl (by rw [HMS.out]; exact info_msgZ) ?_
            | refine wpList_store_row rfl 31 (.tmp 4) (.tmp 40) rfl w.heap.size MC rfl rfl 31 _ R6.out (by rw [HMS.out]; exact info_msgZ) (by rw [HMS.out]; rfl) HM1.out ?_)
          refine bodyPost_ret (results_cell_row rfl _ _ w.heap.size 31 MC (0, 0) _ rfl (setRowW R6.out MC) Tryd.underlying31 rfl (by rw [HMS.out]; exact info_msgZ)) rfl ?_
          have fr := frm_setRow w6 w.heap.size MC
          refine ⟨fun m hm => ?_, (fun hn => by rw [HPW.out] at hn; simp at hn), BL6.out.trans (fr.below BL6.out.size (fun b hb hs => by omega))⟩
          have hm2 : m1 = m := by rw [HPW.out] at hm; simpa using hm
          subst hm2
          exact ⟨nA6, nc6, rA6, rc6, vA6, vc6, by rw [HMC.out], OwnV.lower (OwnV.frm PP6.out.1 fr (fun b hb hs => by have := OwnV.row_ge PP6.out.1 b hb; omega)) (by omega), OwnV.lower (OwnV.frm PP6.out.2.1 fr (fun b hb hs => by have := OwnV.row_ge PP6.out.2.1 b hb; omega)) (by omega), OwnV.lower (OwnV.frm PP6.out.2.2 fr (fun b hb hs => by have := OwnV.row_ge PP6.out.2.2 b hb; omega)) (by omega)⟩
end Go.Proofs.YtfedofoadfipcaaDoor
