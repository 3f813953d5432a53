/-
  A quilt: Put.
-/
import Derived.Test.YtdafeokjedmnkaaDoorQuiltJ
namespace Go.Proofs.YtdafeokjedmnkaaDoor
open Go.RowKit Go.Maps
set_option linter.unusedVariables false
set_option linter.unusedSimpArgs false
/-- What a piece that is let in makes of it. -/
structure PutTo (s : QS) (off : Int) (p : List Int) (e : Bool) (s' : QS) : Prop where
  f : s'.f = fput s.f off p p.length
  T : s'.T = s.T ++ news s.f off p.length
  rd : s'.rd = s.rd
  hi : s'.hi = max s.hi (off + p.length)
  en : s'.en = (s.en || e)
theorem news_none {f : Int → Option Int} {off : Int} : ∀ k : Nat, (∀ x, off ≤ x → x < off + k → f x ≠ none) → news f off k = []
  | 0, _ => rfl
  | k + 1, h => by
    rw [news_s, news_none k (fun x h1 h2 => h x h1 (by omega)), if_neg (h _ (by omega) (by omega))]
    rfl
theorem fput_none {f : Int → Option Int} {off : Int} {p : List Int} {k : Nat} (h : ∀ x, off ≤ x → x < off + k → f x ≠ none) : fput f off p k = f := by
  funext x
  by_cases hx : off ≤ x ∧ x < off + k
  · exact fput_old (h x hx.1 hx.2)
  · exact fput_far hx
/-- What lies below is there: the rest alone is new. -/
theorem skip_old {f : Int → Option Int} {off : Int} {p : List Int} {k : Nat} (hk : k ≤ p.length) (h : ∀ x, off ≤ x → x < off + k → f x ≠ none) :
    fput f (off + k) (p.drop k) (p.drop k).length = fput f off p p.length ∧ news f (off + k) (p.drop k).length = news f off p.length := by
  have e1 : p.length = k + (p.drop k).length := by simp; omega
  constructor
  · have := fput_add f off p k (p.drop k).length hk
    rw [fput_none h, ← e1] at this
    exact this
  · have := news_add f off p k (p.drop k).length
    rw [fput_none h, news_none k h, ← e1, List.nil_append] at this
    exact this.symm
theorem put_ok {s : QS} {off : Int} {p : List Int} {HI wh' : Int} {v : Bool} (ok : QOk s) (h0 : 0 ≤ off) (hp : Bytes p) (hHI : HI = max s.hi (off + p.length)) (hH1 : HI ≤ 4611686018427387903) (a1 : s.wh ≤ wh') (a2 : wh' ≤ HI) (a3 : ∀ x, s.wh ≤ x → x < wh' → fput s.f off p p.length x ≠ none) (a4 : fput s.f off p p.length wh' = none) :
    QOk ⟨fput s.f off p p.length, s.T ++ news s.f off p.length, s.rd, wh', HI, v⟩ := by
  refine ⟨ok.came.put h0 (Nat.le_refl _) hp, fun x hx => ?_, fun x h1 h2 => ?_, a4, ok.r0, ?_, a2, hH1⟩
  · by_cases hf : s.f x = none
    · by_cases h1 : off ≤ x ∧ x < off + p.length
      · show x < HI
        omega
      · have hx' : fput s.f off p p.length x ≠ none := hx
        rw [fput_far h1] at hx'
        exact absurd hf hx'
    · have := ok.top x hf
      show x < HI
      omega
  · by_cases h3 : x < s.wh
    · show fput s.f off p p.length x ≠ none
      rw [fput_old (ok.whl x h1 h3)]
      exact ok.whl x h1 h3
    · exact a3 x (by omega) h2
  · have := ok.r1
    show s.rd ≤ wh'
    omega
theorem StQ.set3 {w W : World} {base g n : Nat} {M : Value} {f : Int → Option Int} {rd wh hi hd : Int} {en : Bool} (h : StQ w base g n M f rd wh hi hd en W) (hg : base ≤ g) (x : Int) : StQ w base g n M f rd wh x hd en (W.setCell ⟨g, 3, none⟩ (.int .u64 x)) := by
  refine ⟨Blk.set_ h.q 3 _, ?_, h.keep.trans (keepT_set h.q 3 _ (fun h => by cases h)), h.below.setCell (p := ⟨g, 3, none⟩) hg _⟩
  rcases h.pat with h1 | ⟨B, pt, h1, h2⟩
  · exact .inl h1
  · refine .inr ⟨B, pt, h1, h2.grown (gb_set (gb_refl _ _) (p := ⟨g, 3, none⟩) rfl _) (by intro e; injection e with e; exact h2.map.ne h.q e.symm) (fun j gp hj e => ?_)⟩
    injection e with e
    obtain ⟨cs, hb⟩ := h2.block hj
    exact Blk.ne_ hb h.q (by decide) e
theorem StQ.set5 {w W : World} {base g n : Nat} {M : Value} {f : Int → Option Int} {rd wh hi hd : Int} {en : Bool} (h : StQ w base g n M f rd wh hi hd en W) (hg : base ≤ g) (x : Bool) : StQ w base g n M f rd wh hi hd x (W.setCell ⟨g, 5, none⟩ (.bool x)) := by
  refine ⟨Blk.set_ h.q 5 _, ?_, h.keep.trans (keepT_set h.q 5 _ (fun h => by cases h)), h.below.setCell (p := ⟨g, 5, none⟩) hg _⟩
  rcases h.pat with h1 | ⟨B, pt, h1, h2⟩
  · exact .inl h1
  · refine .inr ⟨B, pt, h1, h2.grown (gb_set (gb_refl _ _) (p := ⟨g, 5, none⟩) rfl _) (by intro e; injection e with e; exact h2.map.ne h.q e.symm) (fun j gp hj e => ?_)⟩
    injection e with e
    obtain ⟨cs, hb⟩ := h2.block hj
    exact Blk.ne_ hb h.q (by decide) e
theorem Put_arg (base g n : Nat) (s : QS) (off : Int) (A : Option Addr) (c : Nat) (p : List Int) (e : Bool) (w : World) (hw : (Lit.int .u64 off).wf = true) (hl : p.length ≤ 100000) (hbad : 4611686018427387903 < off ∨ 4611686018427387903 - off < p.length) :
    Calls Tryd.prog 18 #[.pointer (some ⟨g, 0, none⟩), .int .u64 off, .slice A p.length c, .bool e] w fun r w' => r = .returned (.int .i64 1) ∧ w = w' := by
  have hb := bounds_u64 hw
  have w1 : IntKind.u64.wrap (p.length : Int) = (p.length : Int) := IntWalk.u64_in _ (by omega)
  by_cases h1 : 4611686018427387903 < off
  · have hd : decide (4611686018427387903 < off) = true := by simpa using h1
    go_enter Tryd.func18, Tryd.ntmps18
    go_wp2_with fail
    go_ret
    exact ⟨rfl, rfl⟩
  · have hd : decide (4611686018427387903 < off) = false := by simpa using h1
    have h2 : 4611686018427387903 - off < p.length := by omega
    have hd2 : decide (4611686018427387903 - off < (p.length : Int)) = true := by simpa using h2
    have w2 : IntKind.u64.wrap (4611686018427387903 - off) = 4611686018427387903 - off := IntWalk.u64_in _ (by omega)
    go_enter Tryd.func18, Tryd.ntmps18
    go_wp2_with fail
    go_ret
    exact ⟨rfl, rfl⟩
theorem Put_form (base g n : Nat) (s : QS) (off : Int) (A : Option Addr) (c : Nat) (p : List Int) (e : Bool) (w : World) (h : Qlt w base g n s) (h0 : 0 ≤ off) (hl : p.length ≤ 100000) (hto : off + p.length ≤ 4611686018427387903) (hbad : qFits s (off + p.length) e = false) :
    Calls Tryd.prog 18 #[.pointer (some ⟨g, 0, none⟩), .int .u64 off, .slice A p.length c, .bool e] w fun r w' => r = .returned (.int .i64 4) ∧ w = w' := by
  obtain ⟨M, h1, h2⟩ := h.q
  have w1 : IntKind.u64.wrap (p.length : Int) = (p.length : Int) := IntWalk.u64_in _ (by omega)
  have w2 : IntKind.u64.wrap (4611686018427387903 - off) = 4611686018427387903 - off := IntWalk.u64_in _ (by omega)
  have w3 : IntKind.u64.wrap (off + (p.length : Int)) = off + (p.length : Int) := IntWalk.u64_in _ (by omega)
  have hd : decide (4611686018427387903 < off) = false := by simp; omega
  have hd2 : decide (4611686018427387903 - off < (p.length : Int)) = false := by simp; omega
  have FC := fits_any g M s.rd s.wh s.hi (s.T.length - s.rd) (off + p.length) s.en e w h1
  rw [show (!(s.en && decide (s.hi < off + p.length)) && (!e || decide (s.hi ≤ off + p.length))) = false from hbad] at FC
  have HF := Lib.hid FC
  clear FC h h1 h2 hbad
  go_enter Tryd.func18, Tryd.ntmps18
  go_wp2_with fail
  refine HF.out.mono ?_
  rintro r w2 ⟨rfl, rfl⟩
  go_wp2_with fail
  go_ret
  exact ⟨rfl, rfl⟩
set_option maxHeartbeats 1600000 in
theorem Put_ok (base g n : Nat) (s : QS) (off : Int) (A : Option Addr) (c : Nat) (p : List Int) (e : Bool) (w : World) (h : Qlt w base g n s) (hs : Src w base g A c p) (ht : TabT w) (hgl : 0 < base) (hbase : base ≤ w.heap.size) (hn : n ≤ 1000000000) (h0 : 0 ≤ off) (hl : p.length ≤ 100000) (hto : off + p.length ≤ 4611686018427387903)
    (hTl : (s.T.length : Int) ≤ 4611686018427387903) (hfit : qFits s (off + p.length) e = true) :
    Calls Tryd.prog 18 #[.pointer (some ⟨g, 0, none⟩), .int .u64 off, .slice A p.length c, .bool e] w fun r w' => r = .returned (.int .i64 0) ∧ (∃ s', PutTo s off p e s' ∧ Qlt w' base g (n + p.length) s') ∧ KeepT w w' g ∧ Below base w w' := by
  obtain ⟨M, h1, h2⟩ := h.q
  have ok := h.ok
  have w1 : IntKind.u64.wrap (p.length : Int) = (p.length : Int) := IntWalk.u64_in _ (by omega)
  have w2 : IntKind.u64.wrap (4611686018427387903 - off) = 4611686018427387903 - off := IntWalk.u64_in _ (by omega)
  have w3 : IntKind.u64.wrap (off + (p.length : Int)) = off + (p.length : Int) := IntWalk.u64_in _ (by omega)
  have hd : decide (4611686018427387903 < off) = false := by simp; omega
  have hd2 : decide (4611686018427387903 - off < (p.length : Int)) = false := by simp; omega
  have FC := fits_any g M s.rd s.wh s.hi (s.T.length - s.rd) (off + p.length) s.en e w h1
  rw [show (!(s.en && decide (s.hi < off + p.length)) && (!e || decide (s.hi ≤ off + p.length))) = true from hfit] at FC
  have HF := Lib.hid FC
  have c2 := h1.cell 2
  have c3 := h1.cell 3
  have c5 := h1.cell 5
  have f3 := h1.frozen 3
  have f5 := h1.frozen 5
  have hgw := h1.lt
  simp [QV] at c2 c3 c5
  obtain ⟨HI, hHI⟩ : ∃ HI, HI = max s.hi (off + p.length) := ⟨_, rfl⟩
  have Z1 : (if s.hi < off + (p.length : Int) then off + (p.length : Int) else s.hi) = HI := by rw [hHI]; split <;> omega
  have Z2 : (if off + (p.length : Int) < s.hi then s.hi else off + (p.length : Int)) = HI := by rw [hHI]; split <;> omega
  have r0 := ok.r0
  have r1 := ok.r1
  have hw1 := ok.w1
  have hh1 := ok.h1
  have hHI1 : HI ≤ 4611686018427387903 := by omega
  have H := Lib.hid h
  have HK := Lib.hid h1
  clear FC h h1 hfit
  go_enter Tryd.func18, Tryd.ntmps18
  go_wp2_with fail
  refine HF.out.mono ?_
  rintro r w4 ⟨rfl, rfl⟩
  have S0 := Lib.hid (show StQ w base g n M s.f s.rd s.wh s.hi (s.T.length - s.rd) s.en w from ⟨HK.out, h2, KeepT.refl _ _, Below.refl _ _⟩)
  have hg0 := H.out.hg
  obtain ⟨Y, hY⟩ : ∃ Y, Y = min s.wh off := ⟨_, rfl⟩
  have Y1 : (if s.wh < off then s.wh else off) = Y := by rw [hY]; split <;> omega
  have Y2 : (if off < s.wh then off else s.wh) = Y := by rw [hY]; split <;> omega
  have hYY : 0 ≤ s.wh - Y := by omega
  have w5 : IntKind.u64.wrap (s.wh - Y) = s.wh - Y := IntWalk.u64_in _ (by omega)
  obtain ⟨o, ho⟩ : ∃ o : Nat, (o : Int) = min (s.wh - Y) p.length := ⟨(min (s.wh - Y) p.length).toNat, by omega⟩
  have O1 : (if s.wh - Y < (p.length : Int) then s.wh - Y else (p.length : Int)) = (o : Int) := by rw [ho]; split <;> omega
  have O2 : (if (p.length : Int) < s.wh - Y then (p.length : Int) else s.wh - Y) = (o : Int) := by rw [ho]; split <;> omega
  have hol : o ≤ p.length := by omega
  have hoo : ∀ x, off ≤ x → x < off + o → s.f x ≠ none := fun x h1 h2 => ok.whl x (by omega) (by omega)
  have how : (p.drop o).length = 0 ∨ s.rd ≤ off + (o : Int) := by
    rw [List.length_drop]
    omega
  have w6 : IntKind.u64.wrap (off + (o : Int)) = off + (o : Int) := IntWalk.u64_in _ (by omega)
  obtain ⟨A2, SF, SRC⟩ : ∃ A2, (∀ W, (Instr.slice 29 (.slice A p.length c) (some (.int .u64 (o : Int))) none none).run Tryd.prog W = .ok (.slice A2 (p.length - o) (c - o)) W) ∧ Src w base g A2 (c - o) (p.drop o) := ⟨_, slice_from_is A c p.length o .u64 (o : Int) rfl hol hs.le, hs.from_ hol⟩
  have HOO := Lib.hid hoo
  have hTr : s.rd ≤ s.T.length := ok.came.len (fun x h1 h2 => ok.whl x h1 (by omega))
  have HBY := Lib.hid hs.by_
  have HTOP := Lib.hid (show ∀ x, fput s.f off p p.length x ≠ none → x < HI from fun x hx => by
    by_cases hf : s.f x = none
    · by_cases h1 : off ≤ x ∧ x < off + p.length
      · omega
      · rw [fput_far h1] at hx; exact absurd hf hx
    · have := ok.top x hf; omega)
  have HOKK := Lib.hid ok
  have HHI := Lib.hid hHI
  clear hY ho hoo ok h2 hHI
  rcases hen : s.en with _ | _
  · rw [hen] at S0
    have S2 := Lib.hid ((S0.out.set3 hg0 HI).set5 hg0 e)
    obtain ⟨W2, hW2⟩ : ∃ W2, W2 = (w.setCell ⟨g, 3, none⟩ (.int .u64 HI)).setCell ⟨g, 5, none⟩ (.bool e) := ⟨_, rfl⟩
    rw [← hW2] at S2
    go_wp2_with fail
    rw [← hW2]
    clear hW2 c2 c3 c5 f3 f5 HF HK
    have c2 := S2.out.q.cell 2
    have c2' := (S2.out.drewN 1).q.cell 2
    simp [QV] at c2 c2'
    have SA := SRC.keep (show KeepT w W2.drew g from S2.out.keep) (show Below base w W2.drew from below_drewN S2.out.below 1)
    have CS := store_any W2.drew base g n M s.f s.rd s.wh HI (s.T.length - s.rd) e (off + (o : Int)) A2 (c - o) (p.drop o) ⟨(S2.out.drewN 1).q, (S2.out.drewN 1).pat, KeepT.refl _ _, Below.refl _ _⟩ SA (Nat.le_trans hbase S2.out.below.size) hg0 r0 how (by rw [List.length_drop]; omega) (by rw [List.length_drop]; omega) hn (by have := hTr; omega) (by have := hTr; omega)
    rw [(skip_old hol HOO.out).1, (skip_old hol HOO.out).2, show (p.drop o).length = p.length - o by simp] at CS
    have HCS := Lib.hid CS
    clear CS SA
    go_region
    go_wp2_with fail
    refine HCS.out.mono ?_
    rintro r w7 ⟨rfl, M7, s7⟩
    have B7 := Lib.hid (show Below base w w7 from (below_drewN S2.out.below 1).trans s7.below)
    have K7 := Lib.hid (show KeepT w w7 g from KeepT.trans (show KeepT w W2.drew g from S2.out.keep) s7.keep)
    have q7 : StQ w7 base g (n + (p.length - o)) M7 (fput s.f off p p.length) s.rd s.wh HI (s.T.length - s.rd + (news s.f off p.length).length) e w7 := ⟨s7.q, s7.pat, KeepT.refl _ _, Below.refl _ _⟩
    have CA := advance_any w7 base g (n + (p.length - o)) M7 (fput s.f off p p.length) s.rd s.wh HI (s.T.length - s.rd + (news s.f off p.length).length) e q7 (ht.keep hgl B7.out) hgl (Nat.le_trans hbase B7.out.size) hg0 r0 r1 HTOP.out hHI1 (by have := HHI.out; omega)
    have HCA := Lib.hid CA
    clear CA HCS S2 s7 q7 c2 c2'
    go_wp2_with fail
    refine HCA.out.mono ?_
    rintro r w8 ⟨rfl, wh', a1, a2, a3, a4, s8⟩
    have B8 := Lib.hid (B7.out.trans s8.below)
    have K8 := Lib.hid (K7.out.trans s8.keep)
    have S8 := Lib.hid s8
    clear HCA s8 B7 K7
    go_wp2_with fail
    go_ret
    refine ⟨rfl, ⟨⟨fput s.f off p p.length, s.T ++ news s.f off p.length, s.rd, wh', HI, e⟩, ⟨rfl, rfl, rfl, HHI.out, by rw [hen]; rfl⟩, ⟨M7, ?_, S8.out.mono (by omega) |>.pat⟩, ?_, hg0⟩, K8.out, B8.out⟩
    · have := S8.out.q
      rw [show ((s.T ++ news s.f off p.length).length : Int) - s.rd = s.T.length - s.rd + (news s.f off p.length).length by simp; omega]
      exact this
    · exact put_ok HOKK.out h0 HBY.out HHI.out hHI1 a1 a2 a3 a4
  · rw [hen] at S0
    have S2 := Lib.hid ((S0.out.set3 hg0 HI).set5 hg0 true)
    obtain ⟨W2, hW2⟩ : ∃ W2, W2 = (w.setCell ⟨g, 3, none⟩ (.int .u64 HI)).setCell ⟨g, 5, none⟩ (.bool true) := ⟨_, rfl⟩
    rw [← hW2] at S2
    go_wp2_with fail
    rw [← hW2]
    clear hW2 c2 c3 c5 f3 f5 HF HK
    have c2 := S2.out.q.cell 2
    have c2' := (S2.out.drewN 1).q.cell 2
    simp [QV] at c2 c2'
    have SA := SRC.keep (show KeepT w W2.drew g from S2.out.keep) (show Below base w W2.drew from below_drewN S2.out.below 1)
    have CS := store_any W2.drew base g n M s.f s.rd s.wh HI (s.T.length - s.rd) true (off + (o : Int)) A2 (c - o) (p.drop o) ⟨(S2.out.drewN 1).q, (S2.out.drewN 1).pat, KeepT.refl _ _, Below.refl _ _⟩ SA (Nat.le_trans hbase S2.out.below.size) hg0 r0 how (by rw [List.length_drop]; omega) (by rw [List.length_drop]; omega) hn (by have := hTr; omega) (by have := hTr; omega)
    rw [(skip_old hol HOO.out).1, (skip_old hol HOO.out).2, show (p.drop o).length = p.length - o by simp] at CS
    have HCS := Lib.hid CS
    clear CS SA
    go_region
    go_wp2_with fail
    refine HCS.out.mono ?_
    rintro r w7 ⟨rfl, M7, s7⟩
    have B7 := Lib.hid (show Below base w w7 from (below_drewN S2.out.below 1).trans s7.below)
    have K7 := Lib.hid (show KeepT w w7 g from KeepT.trans (show KeepT w W2.drew g from S2.out.keep) s7.keep)
    have q7 : StQ w7 base g (n + (p.length - o)) M7 (fput s.f off p p.length) s.rd s.wh HI (s.T.length - s.rd + (news s.f off p.length).length) true w7 := ⟨s7.q, s7.pat, KeepT.refl _ _, Below.refl _ _⟩
    have CA := advance_any w7 base g (n + (p.length - o)) M7 (fput s.f off p p.length) s.rd s.wh HI (s.T.length - s.rd + (news s.f off p.length).length) true q7 (ht.keep hgl B7.out) hgl (Nat.le_trans hbase B7.out.size) hg0 r0 r1 HTOP.out hHI1 (by have := HHI.out; omega)
    have HCA := Lib.hid CA
    clear CA HCS S2 s7 q7 c2 c2'
    go_wp2_with fail
    refine HCA.out.mono ?_
    rintro r w8 ⟨rfl, wh', a1, a2, a3, a4, s8⟩
    have B8 := Lib.hid (B7.out.trans s8.below)
    have K8 := Lib.hid (K7.out.trans s8.keep)
    have S8 := Lib.hid s8
    clear HCA s8 B7 K7
    go_wp2_with fail
    go_ret
    refine ⟨rfl, ⟨⟨fput s.f off p p.length, s.T ++ news s.f off p.length, s.rd, wh', HI, true⟩, ⟨rfl, rfl, rfl, HHI.out, by rw [hen]; rfl⟩, ⟨M7, ?_, S8.out.mono (by omega) |>.pat⟩, ?_, hg0⟩, K8.out, B8.out⟩
    · have := S8.out.q
      rw [show ((s.T ++ news s.f off p.length).length : Int) - s.rd = s.T.length - s.rd + (news s.f off p.length).length by simp; omega]
      exact this
    · exact put_ok HOKK.out h0 HBY.out HHI.out hHI1 a1 a2 a3 a4
end Go.Proofs.YtdafeokjedmnkaaDoor
